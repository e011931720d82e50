/- the writer of print: operation at the aggregates -/
import Derived.Test.YtegkbagnbnoopaaGreatDoorPs20
namespace Go.Proofs.YtegkbagnbnoopaaGreatDoor
open Go.ChangeShapes Go.WideShapes Go.ChangeAt Go.RowKit Go.Deep
open Go.Lib (hid)
theorem call_o1 (args : Array Value) (u : World) : (callFunc 122 args).run Tryz.prog u = .ok (.enter 122 args) u := by kernel_rfl
theorem call_o2 (args : Array Value) (u : World) : (callFunc 123 args).run Tryz.prog u = .ok (.enter 123 args) u := by kernel_rfl
set_option maxRecDepth 100000 in
set_option maxHeartbeats 6400000 in
theorem o1_step {u : World} {A H B bc : Nat} {g : Option Nat} {s : Wr} (hc : WrC u A H B g s) (hb : u.heap[bc]? = some (.cells #[.pointer (some ⟨H, 0, none⟩)] 69 (0, 0))) (hl : (s.put [[42]]).tx.length ≤ 1099511627775) :
  Calls Tryz.prog 122 #[.pointer (some ⟨bc, 0, none⟩)] u (WrE u A H B g (s.put [[42]])) := by
 have HP := hid (put_one [42] ⟨#[42]⟩ rfl hc (rngB rfl) hl)
 have c0 := cell_at hb 0 rfl
 clear hc hb hl
 go_enter Tryz.func122, Tryz.ntmps122
 go_wp2_with (go_at_call 47; refine HP.out.mono ?_; clear HP; rintro e w1 ⟨rfl, g1, hc1, hk⟩; have HS1 := hid hc1; have HK1 := hid hk; clear hc1 hk)
 refine bodyPost_ret (results_none rfl _ _ _) rfl ?_
 exact ⟨rfl, g1, HS1.out, HK1.out⟩
set_option maxRecDepth 100000 in
set_option maxHeartbeats 6400000 in
theorem o2_step {x y : Ex} {w0 u : World} {A H B bc bx b1 o1 : Nat} {g : Option Nat} {s : Wr} {e1 r0 r1 : Option Addr} {z0 m1 z1 s0 q0 s1 q1 : Nat} (hE : XE w0 y) (hA : w0.heap.size ≤ A) (hu : Below w0.heap.size w0 u) (hc : WrC u A H B g s)
  (hrow : ∀ v : World, Below w0.heap.size w0 v → v.cell? ⟨b1, o1, none⟩ = some (.int .i64 y.op) ∧ v.cell? ⟨b1, o1 + 1, none⟩ = some (.string (str y.tb)) ∧ v.cell? ⟨b1, o1 + 2, none⟩ = some (.string (str y.nm)) ∧ v.cell? ⟨b1, o1 + 3, none⟩ = some (.int .i64 y.v.k) ∧ v.cell? ⟨b1, o1 + 4, none⟩ = some (.int .i64 y.v.n) ∧ v.cell? ⟨b1, o1 + 5, none⟩ = some (.string (str y.v.s)) ∧ v.cell? ⟨b1, o1 + 6, none⟩ = some (.slice r0 s0 q0) ∧ v.cell? ⟨b1, o1 + 7, none⟩ = some (.slice r1 s1 q1)) (hb1 : b1 < w0.heap.size) (gy0 : DIs w0 (.slice r0 s0 q0) (.sl (exsDa y.args))) (gy1 : DIs w0 (.slice r1 s1 q1) (.sl (qusDa y.qs)))
  (hb : Els H B u g bc (.cells #[.pointer (some ⟨H, 0, none⟩)] 69)) (hx : Els H B u g bx (.cells #[.int .i64 x.op, .string (str x.tb), .string (str x.nm), .int .i64 x.v.k, .int .i64 x.v.n, .string (str x.v.s), .slice (some ⟨b1, o1, none⟩) 1 z0, .slice e1 m1 z1] 40)) (hl : (y.wr 1 s).tx.length ≤ 1099511627775) :
  Calls Tryz.prog 123 #[.pointer (some ⟨bc, 0, none⟩), .pointer (some ⟨bx, 0, none⟩)] u (WrE u A H B g (y.wr 1 s)) := by
 have HOY := hid (fun (v : World) (h : WrC v A H B g s) (hv : Below w0.heap.size w0 v) => hE (.agg #[.int .i64 y.op, .string (str y.tb), .string (str y.nm), .int .i64 y.v.k, .int .i64 y.v.n, .string (str y.v.s), .slice r0 s0 q0, .slice r1 s1 q1]) ⟨_, _, rfl, gy0, gy1⟩ A H B g s v hA hv h hl)
 have HROW := hid hrow
 have HC := hid hc
 have HU := hid hu
 have HS := hid (And.intro hb.at_ (And.intro hx.at_ hu))
 have HE1 := hid (show Els H B u.drew g _ _ from ⟨hb.at_, hb.nh, hb.nb, hb.ng⟩)
 have HE2 := hid (show Els H B u.drew g _ _ from ⟨hx.at_, hx.nh, hx.nb, hx.ng⟩)
 clear hE hu hc hrow gy0 gy1 hb hx hl
 generalize y.wr 1 s = sZ at *
 go_enter Tryz.func123, Tryz.ntmps123
 go_wp2_with fail
 refine wp_region_held_drew (S := fun v => (v.heap[bc]? = some (.cells #[.pointer (some ⟨H, 0, none⟩)] 69 (0, 0)) ∧ v.heap[bx]? = some (.cells #[.int .i64 x.op, .string (str x.tb), .string (str x.nm), .int .i64 x.v.k, .int .i64 x.v.n, .string (str x.v.s), .slice (some ⟨b1, o1, none⟩) 1 z0, .slice e1 m1 z1] 40 (0, 0)) ∧ Below w0.heap.size w0 v)) (by kernel_rfl) (⟨HS.out.1, HS.out.2.1, HS.out.2.2.drew⟩) (fun hHeld => ?_)
 refine tk (i := 0) (oi := ⟨some 2, .load 69 (.tmp 0), 69, "writer.go:103", #[], none⟩) (v := ?_) (Or.inl ⟨by rfl, ?_⟩) ?_
 rotate_left 1
 ·(intro u hSw; obtain ⟨hs1, hs2, hs4⟩ := hSw; have c0 := cell_at hs1 0 rfl; have d0 := cell_at hs2 0 rfl; have d1 := cell_at hs2 1 rfl; have d2 := cell_at hs2 2 rfl; have d3 := cell_at hs2 3 rfl; have d4 := cell_at hs2 4 rfl; have d5 := cell_at hs2 5 rfl; have d6 := cell_at hs2 6 rfl; have d7 := cell_at hs2 7 rfl; obtain ⟨rw0, rw1, rw2, rw3, rw4, rw5, rw6, rw7⟩ := HROW.out u hs4; have hbu : b1 < u.heap.size := (by have := hs4.size; omega); go_simp; try with_reducible rfl)
 try simp only [Act.put, sA, sB, sC]
 refine tk (i := 1) (oi := ⟨some 3, .fieldAddr 40 (.tmp 1) 4, 0, "writer.go:103", #[], none⟩) (v := ?_) (Or.inl ⟨by rfl, ?_⟩) ?_
 rotate_left 1
 ·(intro u hSw; go_simp; try with_reducible rfl)
 try simp only [Act.put, sA, sB, sC]
 refine tk (i := 2) (oi := ⟨some 4, .load 25 (.tmp 3), 25, "writer.go:103", #[⟨1, .data⟩], none⟩) (v := ?_) (Or.inl ⟨by rfl, ?_⟩) ?_
 rotate_left 1
 ·(intro u hSw; obtain ⟨hs1, hs2, hs4⟩ := hSw; have c0 := cell_at hs1 0 rfl; have d0 := cell_at hs2 0 rfl; have d1 := cell_at hs2 1 rfl; have d2 := cell_at hs2 2 rfl; have d3 := cell_at hs2 3 rfl; have d4 := cell_at hs2 4 rfl; have d5 := cell_at hs2 5 rfl; have d6 := cell_at hs2 6 rfl; have d7 := cell_at hs2 7 rfl; obtain ⟨rw0, rw1, rw2, rw3, rw4, rw5, rw6, rw7⟩ := HROW.out u hs4; have hbu : b1 < u.heap.size := (by have := hs4.size; omega); go_simp; try with_reducible rfl)
 try simp only [Act.put, sA, sB, sC]
 refine tk (i := 3) (oi := ⟨some 5, .indexAddr 25 (.tmp 4) (.const (Value.int IntKind.i64 0)), 0, "writer.go:103", #[⟨2, .data⟩], none⟩) (v := ?_) (Or.inl ⟨by rfl, ?_⟩) ?_
 rotate_left 1
 ·(intro u hSw; go_simp; try with_reducible rfl)
 try simp only [Act.put, sA, sB, sC]
 refine tk (i := 4) (oi := ⟨some 6, .load 40 (.tmp 5), 40, "writer.go:103", #[⟨3, .data⟩], none⟩) (v := ?_) (Or.inl ⟨by rfl, ?_⟩) ?_
 rotate_left 1
 ·(intro u hSw; obtain ⟨hs1, hs2, hs4⟩ := hSw; have c0 := cell_at hs1 0 rfl; have d0 := cell_at hs2 0 rfl; have d1 := cell_at hs2 1 rfl; have d2 := cell_at hs2 2 rfl; have d3 := cell_at hs2 3 rfl; have d4 := cell_at hs2 4 rfl; have d5 := cell_at hs2 5 rfl; have d6 := cell_at hs2 6 rfl; have d7 := cell_at hs2 7 rfl; obtain ⟨rw0, rw1, rw2, rw3, rw4, rw5, rw6, rw7⟩ := HROW.out u hs4; have hbu : b1 < u.heap.size := (by have := hs4.size; omega); go_simp; try with_reducible rfl)
 try simp only [Act.put, sA, sB, sC]
 refine wpAnyH_ready (rs := [5]) (by kernel_rfl) (by simp) ?_
 refine AllReadyH.cons (o := ⟨some 7, .call ⟨.value (.func 74), #[.tmp 2, .tmp 6], #[69, 40]⟩, 0, "writer.go:103", #[⟨0, .data⟩, ⟨4, .data⟩], none⟩) rfl (fun K hK => ?_) AllReadyH.nil
 go_simp
 go_at_call 74
 refine (HOY.out _ (HC.out.fresh (Below.refl _ _).drew) HU.out.drew).mono ?_
 rintro e w2 ⟨rfl, g2, hc2, hk2⟩
 go_wp2_with fail
 have HS2 := hid hc2
 have HK2 := hid ((WK.fresh (H := H) (B := B) (g := g) (Below.refl _ _).drew).trans hk2)
 have HH := hid (And.intro (HE1.out.keep hk2).at_ (And.intro (HE2.out.keep hk2).at_ (hk2.low (HC.out.fresh (Below.refl _ _).drew) hA HU.out.drew)))
 clear hc2 hk2
 refine hK.out _ _ HH.out (fun _ => ?_)
 clear hK K
 try simp only [Act.put, sA, sB, sC]
 refine wpAnyH_done (by kernel_rfl) ?_ _
 go_wp2_with fail
 refine bodyPost_ret (results_none rfl _ _ _) rfl ?_
 exact ⟨rfl, g2, HS2.out, HK2.out⟩
set_option maxRecDepth 100000 in
set_option maxHeartbeats 6400000 in
theorem opn_21 {w0 : World} {x : Ex} (hT : Tabs w0)    (hop : x.op = 21) (a : Value) (ha : ExV w0 a x) : W1 w0 110 a (opx x) := by
 intro A H B g s w hA hw hc hl
 obtain ⟨p0, p1, rfl, h0, h1⟩ := ha
 obtain ⟨e0, m0, z0, rfl⟩ := dis_slice h0
 obtain ⟨e1, m1, z1, rfl⟩ := dis_slice h1
 have e : opx x s = Wr.par (fun s => s.put [[42]]) (s.put [opT x.op]).tight := by
  unfold opx opF
  rw [if_neg (by omega), if_neg (by omega), if_neg (by omega), if_neg (by omega), if_neg (by omega), if_pos hop]
 rw [e] at hl ⊢
 have HC3 := hid (fun (oa ob oc : Obj) => ((hc.alloc oa).alloc ob).alloc oc)
 have HB3 := hid (fun (oa ob oc : Obj) => ((hw.alloc hw.size oa).alloc (by have := hw.size; simp; omega) ob).alloc (by have := hw.size; simp; omega) oc)
 have HK3 := hid (fun (oa ob oc : Obj) => (((WK.refl H B w g).alloc oa).alloc ob).alloc oc)
 have HX1 := hid (fun (ob oc : Obj) => (new_els hc (.cells #[.pointer (some ⟨H, 0, none⟩)] 69)).keep (g' := g) (((WK.refl H B _ g).alloc ob).alloc oc))
 have HX2 := hid (fun (oa oc : Obj) => (show Els H B (((w.alloc oa).alloc (.cells #[.int .i64 x.op, .string (str x.tb), .string (str x.nm), .int .i64 x.v.k, .int .i64 x.v.n, .string (str x.v.s), .slice e0 m0 z0, .slice e1 m1 z1] 40)).alloc oc) g (w.heap.size + 1) (.cells #[.int .i64 x.op, .string (str x.tb), .string (str x.nm), .int .i64 x.v.k, .int .i64 x.v.n, .string (str x.v.s), .slice e0 m0 z0, .slice e1 m1 z1] 40) from by
  have h := (new_els (hc.alloc oa) (.cells #[.int .i64 x.op, .string (str x.tb), .string (str x.nm), .int .i64 x.v.k, .int .i64 x.v.n, .string (str x.v.s), .slice e0 m0 z0, .slice e1 m1 z1] 40)).keep (g' := g) ((WK.refl H B _ g).alloc oc)
  rwa [show (w.alloc oa).heap.size = w.heap.size + 1 from by simp] at h))
 have HX3 := hid (fun (oa ob : Obj) => (show Els H B (((w.alloc oa).alloc ob).alloc (.cells #[.string (str (opT x.op)), .int .i64 (opL x.op)] 156)) g (w.heap.size + 2) (.cells #[.string (str (opT x.op)), .int .i64 (opL x.op)] 156) from by
  have h := new_els ((hc.alloc oa).alloc ob) (.cells #[.string (str (opT x.op)), .int .i64 (opL x.op)] 156)
  rwa [show ((w.alloc oa).alloc ob).heap.size = w.heap.size + 2 from by simp] at h))
 obtain ⟨k, hk⟩ : ∃ k : Nat, x.op = (k : Int) := ⟨x.op.toNat, by omega⟩
 have hk30 : k < 30 := by omega
 have tt := (hT.keep hw).ops k hk30
 rw [← hk] at tt
 obtain ⟨t0, t1⟩ := tt
 have t0b : w.cell? ⟨4, k * 2, none⟩ = some (.string (str (opT x.op))) := by rw [Nat.mul_comm]; exact t0
 have t1b : w.cell? ⟨4, k * 2 + 1, none⟩ = some (.int .i64 (opL x.op)) := by rw [Nat.mul_comm]; exact t1
 have hgl := World.block_lt_of_cell? w _ t1
 have f1 : (x.op == (1 : Int)) = false := beq_eq_false_iff_ne.2 (by omega)
 have f2 : (x.op == (2 : Int)) = false := beq_eq_false_iff_ne.2 (by omega)
 have f4 : (x.op == (4 : Int)) = false := beq_eq_false_iff_ne.2 (by omega)
 have f16 : (x.op == (16 : Int)) = false := beq_eq_false_iff_ne.2 (by omega)
 have f19 : (x.op == (19 : Int)) = false := beq_eq_false_iff_ne.2 (by omega)
 have f20 : (x.op == (20 : Int)) = false := beq_eq_false_iff_ne.2 (by omega)
 have f21 : (x.op == (21 : Int)) = true := beq_iff_eq.2 hop
 have hm := par_mo (f := fun s => s.put [[42]]) (fun s => put_mono s _) (s.put [opT x.op]).tight
 have hrt : Rng (opT x.op) := by rw [hop]; exact rngB rfl
 have HP := hid (fun (o1 o2 o3 : Obj) => putTight_any (opT x.op) (HC3.out o1 o2 o3) hrt (show (s.put [opT x.op]).tx.length ≤ _ from by have h : (s.put [opT x.op]).tight.tx.length = (s.put [opT x.op]).tx.length := rfl; omega))
 have HIP := hid (fun (g1 : Option Nat) (u : World) (h : WrC u A H B g1 (s.put [opT x.op]).tight) (bc : Nat) (hb : Els H B u g1 bc (.cells #[.pointer (some ⟨H, 0, none⟩)] 69)) =>
  inParens_any (fun s => s.put [[42]]) 122 #[.pointer (some ⟨bc, 0, none⟩)] h (fun s => put_mono s _) hl call_o1 (fun g2 u2 hc2 hk2 hl2 => o1_step hc2 (hb.keep hk2).at_ hl2))
 generalize Wr.par (fun s => s.put [[42]]) (s.put [opT x.op]).tight = sZ at *
 generalize (s.put [opT x.op]).tight = s1_ at *
 clear hT hw hc hl h0 h1 e hop hm hrt
 generalize opT x.op = tx at *
 generalize opL x.op = lv at *
 generalize x.op = xo at *
 subst hk
 go_enter Tryz.func110, Tryz.ntmps110
 go_wp2_with (first
  | (go_at_call 121; refine (HP.out _ _ _).mono ?_; clear HP; rintro e w1 ⟨rfl, g1, hc1, hk⟩; have HE1_1 := hid ((HX1.out _ _).keep hk); have HE2_1 := hid ((HX2.out _ _).keep hk); have HE3_1 := hid ((HX3.out _ _).keep hk); have HS1 := hid hc1; have HK1 := hid ((HK3.out _ _ _).trans hk); clear hc1 hk; have c0 := cell_at HE1_1.out.at_ 0 rfl)
  | (go_at_call 79; refine (HIP.out _ _ HS1.out _ HE1_1.out).mono ?_; clear HIP; rintro e w2 ⟨rfl, g2, hc2, hk⟩; have HS2 := hid hc2; have HK2 := hid (HK1.out.trans hk); clear hc2 hk)
  | fail)
 refine bodyPost_ret (results_none rfl _ _ _) rfl ?_
 exact ⟨rfl, g2, HS2.out, HK2.out⟩
set_option maxRecDepth 100000 in
set_option maxHeartbeats 6400000 in
theorem opn_22 {w0 : World} {x : Ex} (hT : Tabs w0)   {y : Ex} (hy : x.args = [y]) (hE : XE w0 y) (hM : Mo (y.wr 1)) (hop : x.op = 22) (a : Value) (ha : ExV w0 a x) : W1 w0 110 a (opx x) := by
 intro A H B g s w hA hw hc hl
 obtain ⟨p0, p1, rfl, h0, h1⟩ := ha
 obtain ⟨e0, z0, rfl, -, hcell0⟩ := exs_rows h0
 obtain ⟨e1, m1, z1, rfl⟩ := dis_slice h1
 have hlen : x.args.length = 1 := by rw [hy]; rfl
 generalize x.args.length = m0 at *
 subst hlen
 obtain ⟨b1, o1, rfl, hb1, hd1⟩ := hcell0 (by omega)
 obtain ⟨sy0, sy1, pc0, pc1, pc2, pc3, pc4, pc5, pc6, pc7, gy0, gy1⟩ := hd1 0 y (by rw [hy]; rfl)
 obtain ⟨r0, s0, q0, rfl⟩ := dis_slice gy0
 obtain ⟨r1, s1, q1, rfl⟩ := dis_slice gy1
 have HROW := hid (fun (u : World) (hu : Below w0.heap.size w0 u) => (⟨(hu.cell (p := ⟨b1, o1 + 0 * 8, none⟩) hb1).trans pc0, (hu.cell (p := ⟨b1, o1 + 0 * 8 + 1, none⟩) hb1).trans pc1, (hu.cell (p := ⟨b1, o1 + 0 * 8 + 2, none⟩) hb1).trans pc2, (hu.cell (p := ⟨b1, o1 + 0 * 8 + 3, none⟩) hb1).trans pc3, (hu.cell (p := ⟨b1, o1 + 0 * 8 + 4, none⟩) hb1).trans pc4, (hu.cell (p := ⟨b1, o1 + 0 * 8 + 5, none⟩) hb1).trans pc5, (hu.cell (p := ⟨b1, o1 + 0 * 8 + 6, none⟩) hb1).trans pc6, (hu.cell (p := ⟨b1, o1 + 0 * 8 + 7, none⟩) hb1).trans pc7⟩ : u.cell? ⟨b1, o1, none⟩ = some (.int .i64 y.op) ∧ u.cell? ⟨b1, o1 + 1, none⟩ = some (.string (str y.tb)) ∧ u.cell? ⟨b1, o1 + 2, none⟩ = some (.string (str y.nm)) ∧ u.cell? ⟨b1, o1 + 3, none⟩ = some (.int .i64 y.v.k) ∧ u.cell? ⟨b1, o1 + 4, none⟩ = some (.int .i64 y.v.n) ∧ u.cell? ⟨b1, o1 + 5, none⟩ = some (.string (str y.v.s)) ∧ u.cell? ⟨b1, o1 + 6, none⟩ = some (.slice r0 s0 q0) ∧ u.cell? ⟨b1, o1 + 7, none⟩ = some (.slice r1 s1 q1)))
 have e : opx x s = Wr.par (y.wr 1) (s.put [opT x.op]).tight := by
  unfold opx opF
  rw [if_neg (by omega), if_neg (by omega), if_neg (by omega), if_neg (by omega), if_neg (by omega), if_neg (by omega), if_pos (by omega), exsWr_map, hy]
  rfl
 rw [e] at hl ⊢
 have HC3 := hid (fun (oa ob oc : Obj) => ((hc.alloc oa).alloc ob).alloc oc)
 have HB3 := hid (fun (oa ob oc : Obj) => ((hw.alloc hw.size oa).alloc (by have := hw.size; simp; omega) ob).alloc (by have := hw.size; simp; omega) oc)
 have HK3 := hid (fun (oa ob oc : Obj) => (((WK.refl H B w g).alloc oa).alloc ob).alloc oc)
 have HX1 := hid (fun (ob oc : Obj) => (new_els hc (.cells #[.pointer (some ⟨H, 0, none⟩)] 69)).keep (g' := g) (((WK.refl H B _ g).alloc ob).alloc oc))
 have HX2 := hid (fun (oa oc : Obj) => (show Els H B (((w.alloc oa).alloc (.cells #[.int .i64 x.op, .string (str x.tb), .string (str x.nm), .int .i64 x.v.k, .int .i64 x.v.n, .string (str x.v.s), .slice (some ⟨b1, o1, none⟩) 1 z0, .slice e1 m1 z1] 40)).alloc oc) g (w.heap.size + 1) (.cells #[.int .i64 x.op, .string (str x.tb), .string (str x.nm), .int .i64 x.v.k, .int .i64 x.v.n, .string (str x.v.s), .slice (some ⟨b1, o1, none⟩) 1 z0, .slice e1 m1 z1] 40) from by
  have h := (new_els (hc.alloc oa) (.cells #[.int .i64 x.op, .string (str x.tb), .string (str x.nm), .int .i64 x.v.k, .int .i64 x.v.n, .string (str x.v.s), .slice (some ⟨b1, o1, none⟩) 1 z0, .slice e1 m1 z1] 40)).keep (g' := g) ((WK.refl H B _ g).alloc oc)
  rwa [show (w.alloc oa).heap.size = w.heap.size + 1 from by simp] at h))
 have HX3 := hid (fun (oa ob : Obj) => (show Els H B (((w.alloc oa).alloc ob).alloc (.cells #[.string (str (opT x.op)), .int .i64 (opL x.op)] 156)) g (w.heap.size + 2) (.cells #[.string (str (opT x.op)), .int .i64 (opL x.op)] 156) from by
  have h := new_els ((hc.alloc oa).alloc ob) (.cells #[.string (str (opT x.op)), .int .i64 (opL x.op)] 156)
  rwa [show ((w.alloc oa).alloc ob).heap.size = w.heap.size + 2 from by simp] at h))
 obtain ⟨k, hk⟩ : ∃ k : Nat, x.op = (k : Int) := ⟨x.op.toNat, by omega⟩
 have hk30 : k < 30 := by omega
 have tt := (hT.keep hw).ops k hk30
 rw [← hk] at tt
 obtain ⟨t0, t1⟩ := tt
 have t0b : w.cell? ⟨4, k * 2, none⟩ = some (.string (str (opT x.op))) := by rw [Nat.mul_comm]; exact t0
 have t1b : w.cell? ⟨4, k * 2 + 1, none⟩ = some (.int .i64 (opL x.op)) := by rw [Nat.mul_comm]; exact t1
 have hgl := World.block_lt_of_cell? w _ t1
 have f1 : (x.op == (1 : Int)) = false := beq_eq_false_iff_ne.2 (by omega)
 have f2 : (x.op == (2 : Int)) = false := beq_eq_false_iff_ne.2 (by omega)
 have f4 : (x.op == (4 : Int)) = false := beq_eq_false_iff_ne.2 (by omega)
 have f16 : (x.op == (16 : Int)) = false := beq_eq_false_iff_ne.2 (by omega)
 have f19 : (x.op == (19 : Int)) = false := beq_eq_false_iff_ne.2 (by omega)
 have f20 : (x.op == (20 : Int)) = false := beq_eq_false_iff_ne.2 (by omega)
 have f21 : (x.op == (21 : Int)) = false := beq_eq_false_iff_ne.2 (by omega)
 have f22 : (x.op == (22 : Int)) = true := beq_iff_eq.2 hop
 have hm := par_mo hM (s.put [opT x.op]).tight
 have hrt : Rng (opT x.op) := by rw [hop]; exact rngB rfl
 have HP := hid (fun (o1 o2 o3 : Obj) => putTight_any (opT x.op) (HC3.out o1 o2 o3) hrt (show (s.put [opT x.op]).tx.length ≤ _ from by have h : (s.put [opT x.op]).tight.tx.length = (s.put [opT x.op]).tx.length := rfl; omega))
 have HIP := hid (fun (g1 : Option Nat) (u : World) (hu : Below w0.heap.size w0 u) (h : WrC u A H B g1 (s.put [opT x.op]).tight) (bc bx : Nat) (hb : Els H B u g1 bc (.cells #[.pointer (some ⟨H, 0, none⟩)] 69)) (hx : Els H B u g1 bx (.cells #[.int .i64 x.op, .string (str x.tb), .string (str x.nm), .int .i64 x.v.k, .int .i64 x.v.n, .string (str x.v.s), .slice (some ⟨b1, o1, none⟩) 1 z0, .slice e1 m1 z1] 40)) =>
  inParens_any (y.wr 1) 123 #[.pointer (some ⟨bc, 0, none⟩), .pointer (some ⟨bx, 0, none⟩)] h hM hl call_o2 (fun g2 u2 hc2 hk2 hl2 => o2_step (x := x) hE hA (hk2.low h hA hu) hc2 HROW.out hb1 gy0 gy1 (hb.keep hk2) (hx.keep hk2) hl2))
 generalize Wr.par (y.wr 1) (s.put [opT x.op]).tight = sZ at *
 generalize (s.put [opT x.op]).tight = s1_ at *
 clear hT hw hc hl h0 h1 e hop hm hrt hE hM hcell0 hd1 gy0 gy1 hy pc0 pc1 pc2 pc3 pc4 pc5 pc6 pc7
 generalize opT x.op = tx at *
 generalize opL x.op = lv at *
 generalize x.op = xo at *
 subst hk
 go_enter Tryz.func110, Tryz.ntmps110
 go_wp2_with (first
  | (go_at_call 121; refine (HP.out _ _ _).mono ?_; clear HP; rintro e w1 ⟨rfl, g1, hc1, hk⟩; have HE1_1 := hid ((HX1.out _ _).keep hk); have HE2_1 := hid ((HX2.out _ _).keep hk); have HE3_1 := hid ((HX3.out _ _).keep hk); have HS1 := hid hc1; have HB1 := hid (hk.low (HC3.out _ _ _) hA (HB3.out _ _ _)); have HK1 := hid ((HK3.out _ _ _).trans hk); clear hc1 hk; have c0 := cell_at HE1_1.out.at_ 0 rfl)
  | (go_at_call 79; refine (HIP.out _ _ HB1.out HS1.out _ _ HE1_1.out HE2_1.out).mono ?_; clear HIP; rintro e w2 ⟨rfl, g2, hc2, hk⟩; have HS2 := hid hc2; have HK2 := hid (HK1.out.trans hk); clear hc2 hk)
  | fail)
 refine bodyPost_ret (results_none rfl _ _ _) rfl ?_
 exact ⟨rfl, g2, HS2.out, HK2.out⟩
set_option maxRecDepth 100000 in
set_option maxHeartbeats 6400000 in
theorem opn_23 {w0 : World} {x : Ex} (hT : Tabs w0)   {y : Ex} (hy : x.args = [y]) (hE : XE w0 y) (hM : Mo (y.wr 1)) (hop : x.op = 23) (a : Value) (ha : ExV w0 a x) : W1 w0 110 a (opx x) := by
 intro A H B g s w hA hw hc hl
 obtain ⟨p0, p1, rfl, h0, h1⟩ := ha
 obtain ⟨e0, z0, rfl, -, hcell0⟩ := exs_rows h0
 obtain ⟨e1, m1, z1, rfl⟩ := dis_slice h1
 have hlen : x.args.length = 1 := by rw [hy]; rfl
 generalize x.args.length = m0 at *
 subst hlen
 obtain ⟨b1, o1, rfl, hb1, hd1⟩ := hcell0 (by omega)
 obtain ⟨sy0, sy1, pc0, pc1, pc2, pc3, pc4, pc5, pc6, pc7, gy0, gy1⟩ := hd1 0 y (by rw [hy]; rfl)
 obtain ⟨r0, s0, q0, rfl⟩ := dis_slice gy0
 obtain ⟨r1, s1, q1, rfl⟩ := dis_slice gy1
 have HROW := hid (fun (u : World) (hu : Below w0.heap.size w0 u) => (⟨(hu.cell (p := ⟨b1, o1 + 0 * 8, none⟩) hb1).trans pc0, (hu.cell (p := ⟨b1, o1 + 0 * 8 + 1, none⟩) hb1).trans pc1, (hu.cell (p := ⟨b1, o1 + 0 * 8 + 2, none⟩) hb1).trans pc2, (hu.cell (p := ⟨b1, o1 + 0 * 8 + 3, none⟩) hb1).trans pc3, (hu.cell (p := ⟨b1, o1 + 0 * 8 + 4, none⟩) hb1).trans pc4, (hu.cell (p := ⟨b1, o1 + 0 * 8 + 5, none⟩) hb1).trans pc5, (hu.cell (p := ⟨b1, o1 + 0 * 8 + 6, none⟩) hb1).trans pc6, (hu.cell (p := ⟨b1, o1 + 0 * 8 + 7, none⟩) hb1).trans pc7⟩ : u.cell? ⟨b1, o1, none⟩ = some (.int .i64 y.op) ∧ u.cell? ⟨b1, o1 + 1, none⟩ = some (.string (str y.tb)) ∧ u.cell? ⟨b1, o1 + 2, none⟩ = some (.string (str y.nm)) ∧ u.cell? ⟨b1, o1 + 3, none⟩ = some (.int .i64 y.v.k) ∧ u.cell? ⟨b1, o1 + 4, none⟩ = some (.int .i64 y.v.n) ∧ u.cell? ⟨b1, o1 + 5, none⟩ = some (.string (str y.v.s)) ∧ u.cell? ⟨b1, o1 + 6, none⟩ = some (.slice r0 s0 q0) ∧ u.cell? ⟨b1, o1 + 7, none⟩ = some (.slice r1 s1 q1)))
 have e : opx x s = Wr.par (y.wr 1) (s.put [opT x.op]).tight := by
  unfold opx opF
  rw [if_neg (by omega), if_neg (by omega), if_neg (by omega), if_neg (by omega), if_neg (by omega), if_neg (by omega), if_pos (by omega), exsWr_map, hy]
  rfl
 rw [e] at hl ⊢
 have HC3 := hid (fun (oa ob oc : Obj) => ((hc.alloc oa).alloc ob).alloc oc)
 have HB3 := hid (fun (oa ob oc : Obj) => ((hw.alloc hw.size oa).alloc (by have := hw.size; simp; omega) ob).alloc (by have := hw.size; simp; omega) oc)
 have HK3 := hid (fun (oa ob oc : Obj) => (((WK.refl H B w g).alloc oa).alloc ob).alloc oc)
 have HX1 := hid (fun (ob oc : Obj) => (new_els hc (.cells #[.pointer (some ⟨H, 0, none⟩)] 69)).keep (g' := g) (((WK.refl H B _ g).alloc ob).alloc oc))
 have HX2 := hid (fun (oa oc : Obj) => (show Els H B (((w.alloc oa).alloc (.cells #[.int .i64 x.op, .string (str x.tb), .string (str x.nm), .int .i64 x.v.k, .int .i64 x.v.n, .string (str x.v.s), .slice (some ⟨b1, o1, none⟩) 1 z0, .slice e1 m1 z1] 40)).alloc oc) g (w.heap.size + 1) (.cells #[.int .i64 x.op, .string (str x.tb), .string (str x.nm), .int .i64 x.v.k, .int .i64 x.v.n, .string (str x.v.s), .slice (some ⟨b1, o1, none⟩) 1 z0, .slice e1 m1 z1] 40) from by
  have h := (new_els (hc.alloc oa) (.cells #[.int .i64 x.op, .string (str x.tb), .string (str x.nm), .int .i64 x.v.k, .int .i64 x.v.n, .string (str x.v.s), .slice (some ⟨b1, o1, none⟩) 1 z0, .slice e1 m1 z1] 40)).keep (g' := g) ((WK.refl H B _ g).alloc oc)
  rwa [show (w.alloc oa).heap.size = w.heap.size + 1 from by simp] at h))
 have HX3 := hid (fun (oa ob : Obj) => (show Els H B (((w.alloc oa).alloc ob).alloc (.cells #[.string (str (opT x.op)), .int .i64 (opL x.op)] 156)) g (w.heap.size + 2) (.cells #[.string (str (opT x.op)), .int .i64 (opL x.op)] 156) from by
  have h := new_els ((hc.alloc oa).alloc ob) (.cells #[.string (str (opT x.op)), .int .i64 (opL x.op)] 156)
  rwa [show ((w.alloc oa).alloc ob).heap.size = w.heap.size + 2 from by simp] at h))
 obtain ⟨k, hk⟩ : ∃ k : Nat, x.op = (k : Int) := ⟨x.op.toNat, by omega⟩
 have hk30 : k < 30 := by omega
 have tt := (hT.keep hw).ops k hk30
 rw [← hk] at tt
 obtain ⟨t0, t1⟩ := tt
 have t0b : w.cell? ⟨4, k * 2, none⟩ = some (.string (str (opT x.op))) := by rw [Nat.mul_comm]; exact t0
 have t1b : w.cell? ⟨4, k * 2 + 1, none⟩ = some (.int .i64 (opL x.op)) := by rw [Nat.mul_comm]; exact t1
 have hgl := World.block_lt_of_cell? w _ t1
 have f1 : (x.op == (1 : Int)) = false := beq_eq_false_iff_ne.2 (by omega)
 have f2 : (x.op == (2 : Int)) = false := beq_eq_false_iff_ne.2 (by omega)
 have f4 : (x.op == (4 : Int)) = false := beq_eq_false_iff_ne.2 (by omega)
 have f16 : (x.op == (16 : Int)) = false := beq_eq_false_iff_ne.2 (by omega)
 have f19 : (x.op == (19 : Int)) = false := beq_eq_false_iff_ne.2 (by omega)
 have f20 : (x.op == (20 : Int)) = false := beq_eq_false_iff_ne.2 (by omega)
 have f21 : (x.op == (21 : Int)) = false := beq_eq_false_iff_ne.2 (by omega)
 have f22 : (x.op == (22 : Int)) = false := beq_eq_false_iff_ne.2 (by omega)
 have f23 : (x.op == (23 : Int)) = true := beq_iff_eq.2 hop
 have hm := par_mo hM (s.put [opT x.op]).tight
 have hrt : Rng (opT x.op) := by rw [hop]; exact rngB rfl
 have HP := hid (fun (o1 o2 o3 : Obj) => putTight_any (opT x.op) (HC3.out o1 o2 o3) hrt (show (s.put [opT x.op]).tx.length ≤ _ from by have h : (s.put [opT x.op]).tight.tx.length = (s.put [opT x.op]).tx.length := rfl; omega))
 have HIP := hid (fun (g1 : Option Nat) (u : World) (hu : Below w0.heap.size w0 u) (h : WrC u A H B g1 (s.put [opT x.op]).tight) (bc bx : Nat) (hb : Els H B u g1 bc (.cells #[.pointer (some ⟨H, 0, none⟩)] 69)) (hx : Els H B u g1 bx (.cells #[.int .i64 x.op, .string (str x.tb), .string (str x.nm), .int .i64 x.v.k, .int .i64 x.v.n, .string (str x.v.s), .slice (some ⟨b1, o1, none⟩) 1 z0, .slice e1 m1 z1] 40)) =>
  inParens_any (y.wr 1) 123 #[.pointer (some ⟨bc, 0, none⟩), .pointer (some ⟨bx, 0, none⟩)] h hM hl call_o2 (fun g2 u2 hc2 hk2 hl2 => o2_step (x := x) hE hA (hk2.low h hA hu) hc2 HROW.out hb1 gy0 gy1 (hb.keep hk2) (hx.keep hk2) hl2))
 generalize Wr.par (y.wr 1) (s.put [opT x.op]).tight = sZ at *
 generalize (s.put [opT x.op]).tight = s1_ at *
 clear hT hw hc hl h0 h1 e hop hm hrt hE hM hcell0 hd1 gy0 gy1 hy pc0 pc1 pc2 pc3 pc4 pc5 pc6 pc7
 generalize opT x.op = tx at *
 generalize opL x.op = lv at *
 generalize x.op = xo at *
 subst hk
 go_enter Tryz.func110, Tryz.ntmps110
 go_wp2_with (first
  | (go_at_call 121; refine (HP.out _ _ _).mono ?_; clear HP; rintro e w1 ⟨rfl, g1, hc1, hk⟩; have HE1_1 := hid ((HX1.out _ _).keep hk); have HE2_1 := hid ((HX2.out _ _).keep hk); have HE3_1 := hid ((HX3.out _ _).keep hk); have HS1 := hid hc1; have HB1 := hid (hk.low (HC3.out _ _ _) hA (HB3.out _ _ _)); have HK1 := hid ((HK3.out _ _ _).trans hk); clear hc1 hk; have c0 := cell_at HE1_1.out.at_ 0 rfl)
  | (go_at_call 79; refine (HIP.out _ _ HB1.out HS1.out _ _ HE1_1.out HE2_1.out).mono ?_; clear HIP; rintro e w2 ⟨rfl, g2, hc2, hk⟩; have HS2 := hid hc2; have HK2 := hid (HK1.out.trans hk); clear hc2 hk)
  | fail)
 refine bodyPost_ret (results_none rfl _ _ _) rfl ?_
 exact ⟨rfl, g2, HS2.out, HK2.out⟩
set_option maxRecDepth 100000 in
set_option maxHeartbeats 6400000 in
theorem opn_24 {w0 : World} {x : Ex} (hT : Tabs w0)   {y : Ex} (hy : x.args = [y]) (hE : XE w0 y) (hM : Mo (y.wr 1)) (hop : x.op = 24) (a : Value) (ha : ExV w0 a x) : W1 w0 110 a (opx x) := by
 intro A H B g s w hA hw hc hl
 obtain ⟨p0, p1, rfl, h0, h1⟩ := ha
 obtain ⟨e0, z0, rfl, -, hcell0⟩ := exs_rows h0
 obtain ⟨e1, m1, z1, rfl⟩ := dis_slice h1
 have hlen : x.args.length = 1 := by rw [hy]; rfl
 generalize x.args.length = m0 at *
 subst hlen
 obtain ⟨b1, o1, rfl, hb1, hd1⟩ := hcell0 (by omega)
 obtain ⟨sy0, sy1, pc0, pc1, pc2, pc3, pc4, pc5, pc6, pc7, gy0, gy1⟩ := hd1 0 y (by rw [hy]; rfl)
 obtain ⟨r0, s0, q0, rfl⟩ := dis_slice gy0
 obtain ⟨r1, s1, q1, rfl⟩ := dis_slice gy1
 have HROW := hid (fun (u : World) (hu : Below w0.heap.size w0 u) => (⟨(hu.cell (p := ⟨b1, o1 + 0 * 8, none⟩) hb1).trans pc0, (hu.cell (p := ⟨b1, o1 + 0 * 8 + 1, none⟩) hb1).trans pc1, (hu.cell (p := ⟨b1, o1 + 0 * 8 + 2, none⟩) hb1).trans pc2, (hu.cell (p := ⟨b1, o1 + 0 * 8 + 3, none⟩) hb1).trans pc3, (hu.cell (p := ⟨b1, o1 + 0 * 8 + 4, none⟩) hb1).trans pc4, (hu.cell (p := ⟨b1, o1 + 0 * 8 + 5, none⟩) hb1).trans pc5, (hu.cell (p := ⟨b1, o1 + 0 * 8 + 6, none⟩) hb1).trans pc6, (hu.cell (p := ⟨b1, o1 + 0 * 8 + 7, none⟩) hb1).trans pc7⟩ : u.cell? ⟨b1, o1, none⟩ = some (.int .i64 y.op) ∧ u.cell? ⟨b1, o1 + 1, none⟩ = some (.string (str y.tb)) ∧ u.cell? ⟨b1, o1 + 2, none⟩ = some (.string (str y.nm)) ∧ u.cell? ⟨b1, o1 + 3, none⟩ = some (.int .i64 y.v.k) ∧ u.cell? ⟨b1, o1 + 4, none⟩ = some (.int .i64 y.v.n) ∧ u.cell? ⟨b1, o1 + 5, none⟩ = some (.string (str y.v.s)) ∧ u.cell? ⟨b1, o1 + 6, none⟩ = some (.slice r0 s0 q0) ∧ u.cell? ⟨b1, o1 + 7, none⟩ = some (.slice r1 s1 q1)))
 have e : opx x s = Wr.par (y.wr 1) (s.put [opT x.op]).tight := by
  unfold opx opF
  rw [if_neg (by omega), if_neg (by omega), if_neg (by omega), if_neg (by omega), if_neg (by omega), if_neg (by omega), if_pos (by omega), exsWr_map, hy]
  rfl
 rw [e] at hl ⊢
 have HC3 := hid (fun (oa ob oc : Obj) => ((hc.alloc oa).alloc ob).alloc oc)
 have HB3 := hid (fun (oa ob oc : Obj) => ((hw.alloc hw.size oa).alloc (by have := hw.size; simp; omega) ob).alloc (by have := hw.size; simp; omega) oc)
 have HK3 := hid (fun (oa ob oc : Obj) => (((WK.refl H B w g).alloc oa).alloc ob).alloc oc)
 have HX1 := hid (fun (ob oc : Obj) => (new_els hc (.cells #[.pointer (some ⟨H, 0, none⟩)] 69)).keep (g' := g) (((WK.refl H B _ g).alloc ob).alloc oc))
 have HX2 := hid (fun (oa oc : Obj) => (show Els H B (((w.alloc oa).alloc (.cells #[.int .i64 x.op, .string (str x.tb), .string (str x.nm), .int .i64 x.v.k, .int .i64 x.v.n, .string (str x.v.s), .slice (some ⟨b1, o1, none⟩) 1 z0, .slice e1 m1 z1] 40)).alloc oc) g (w.heap.size + 1) (.cells #[.int .i64 x.op, .string (str x.tb), .string (str x.nm), .int .i64 x.v.k, .int .i64 x.v.n, .string (str x.v.s), .slice (some ⟨b1, o1, none⟩) 1 z0, .slice e1 m1 z1] 40) from by
  have h := (new_els (hc.alloc oa) (.cells #[.int .i64 x.op, .string (str x.tb), .string (str x.nm), .int .i64 x.v.k, .int .i64 x.v.n, .string (str x.v.s), .slice (some ⟨b1, o1, none⟩) 1 z0, .slice e1 m1 z1] 40)).keep (g' := g) ((WK.refl H B _ g).alloc oc)
  rwa [show (w.alloc oa).heap.size = w.heap.size + 1 from by simp] at h))
 have HX3 := hid (fun (oa ob : Obj) => (show Els H B (((w.alloc oa).alloc ob).alloc (.cells #[.string (str (opT x.op)), .int .i64 (opL x.op)] 156)) g (w.heap.size + 2) (.cells #[.string (str (opT x.op)), .int .i64 (opL x.op)] 156) from by
  have h := new_els ((hc.alloc oa).alloc ob) (.cells #[.string (str (opT x.op)), .int .i64 (opL x.op)] 156)
  rwa [show ((w.alloc oa).alloc ob).heap.size = w.heap.size + 2 from by simp] at h))
 obtain ⟨k, hk⟩ : ∃ k : Nat, x.op = (k : Int) := ⟨x.op.toNat, by omega⟩
 have hk30 : k < 30 := by omega
 have tt := (hT.keep hw).ops k hk30
 rw [← hk] at tt
 obtain ⟨t0, t1⟩ := tt
 have t0b : w.cell? ⟨4, k * 2, none⟩ = some (.string (str (opT x.op))) := by rw [Nat.mul_comm]; exact t0
 have t1b : w.cell? ⟨4, k * 2 + 1, none⟩ = some (.int .i64 (opL x.op)) := by rw [Nat.mul_comm]; exact t1
 have hgl := World.block_lt_of_cell? w _ t1
 have f1 : (x.op == (1 : Int)) = false := beq_eq_false_iff_ne.2 (by omega)
 have f2 : (x.op == (2 : Int)) = false := beq_eq_false_iff_ne.2 (by omega)
 have f4 : (x.op == (4 : Int)) = false := beq_eq_false_iff_ne.2 (by omega)
 have f16 : (x.op == (16 : Int)) = false := beq_eq_false_iff_ne.2 (by omega)
 have f19 : (x.op == (19 : Int)) = false := beq_eq_false_iff_ne.2 (by omega)
 have f20 : (x.op == (20 : Int)) = false := beq_eq_false_iff_ne.2 (by omega)
 have f21 : (x.op == (21 : Int)) = false := beq_eq_false_iff_ne.2 (by omega)
 have f22 : (x.op == (22 : Int)) = false := beq_eq_false_iff_ne.2 (by omega)
 have f23 : (x.op == (23 : Int)) = false := beq_eq_false_iff_ne.2 (by omega)
 have f24 : (x.op == (24 : Int)) = true := beq_iff_eq.2 hop
 have hm := par_mo hM (s.put [opT x.op]).tight
 have hrt : Rng (opT x.op) := by rw [hop]; exact rngB rfl
 have HP := hid (fun (o1 o2 o3 : Obj) => putTight_any (opT x.op) (HC3.out o1 o2 o3) hrt (show (s.put [opT x.op]).tx.length ≤ _ from by have h : (s.put [opT x.op]).tight.tx.length = (s.put [opT x.op]).tx.length := rfl; omega))
 have HIP := hid (fun (g1 : Option Nat) (u : World) (hu : Below w0.heap.size w0 u) (h : WrC u A H B g1 (s.put [opT x.op]).tight) (bc bx : Nat) (hb : Els H B u g1 bc (.cells #[.pointer (some ⟨H, 0, none⟩)] 69)) (hx : Els H B u g1 bx (.cells #[.int .i64 x.op, .string (str x.tb), .string (str x.nm), .int .i64 x.v.k, .int .i64 x.v.n, .string (str x.v.s), .slice (some ⟨b1, o1, none⟩) 1 z0, .slice e1 m1 z1] 40)) =>
  inParens_any (y.wr 1) 123 #[.pointer (some ⟨bc, 0, none⟩), .pointer (some ⟨bx, 0, none⟩)] h hM hl call_o2 (fun g2 u2 hc2 hk2 hl2 => o2_step (x := x) hE hA (hk2.low h hA hu) hc2 HROW.out hb1 gy0 gy1 (hb.keep hk2) (hx.keep hk2) hl2))
 generalize Wr.par (y.wr 1) (s.put [opT x.op]).tight = sZ at *
 generalize (s.put [opT x.op]).tight = s1_ at *
 clear hT hw hc hl h0 h1 e hop hm hrt hE hM hcell0 hd1 gy0 gy1 hy pc0 pc1 pc2 pc3 pc4 pc5 pc6 pc7
 generalize opT x.op = tx at *
 generalize opL x.op = lv at *
 generalize x.op = xo at *
 subst hk
 go_enter Tryz.func110, Tryz.ntmps110
 go_wp2_with (first
  | (go_at_call 121; refine (HP.out _ _ _).mono ?_; clear HP; rintro e w1 ⟨rfl, g1, hc1, hk⟩; have HE1_1 := hid ((HX1.out _ _).keep hk); have HE2_1 := hid ((HX2.out _ _).keep hk); have HE3_1 := hid ((HX3.out _ _).keep hk); have HS1 := hid hc1; have HB1 := hid (hk.low (HC3.out _ _ _) hA (HB3.out _ _ _)); have HK1 := hid ((HK3.out _ _ _).trans hk); clear hc1 hk; have c0 := cell_at HE1_1.out.at_ 0 rfl)
  | (go_at_call 79; refine (HIP.out _ _ HB1.out HS1.out _ _ HE1_1.out HE2_1.out).mono ?_; clear HIP; rintro e w2 ⟨rfl, g2, hc2, hk⟩; have HS2 := hid hc2; have HK2 := hid (HK1.out.trans hk); clear hc2 hk)
  | fail)
 refine bodyPost_ret (results_none rfl _ _ _) rfl ?_
 exact ⟨rfl, g2, HS2.out, HK2.out⟩
set_option maxRecDepth 100000 in
set_option maxHeartbeats 6400000 in
theorem opn_25 {w0 : World} {x : Ex} (hT : Tabs w0)   {y : Ex} (hy : x.args = [y]) (hE : XE w0 y) (hM : Mo (y.wr 1)) (hop : x.op = 25) (a : Value) (ha : ExV w0 a x) : W1 w0 110 a (opx x) := by
 intro A H B g s w hA hw hc hl
 obtain ⟨p0, p1, rfl, h0, h1⟩ := ha
 obtain ⟨e0, z0, rfl, -, hcell0⟩ := exs_rows h0
 obtain ⟨e1, m1, z1, rfl⟩ := dis_slice h1
 have hlen : x.args.length = 1 := by rw [hy]; rfl
 generalize x.args.length = m0 at *
 subst hlen
 obtain ⟨b1, o1, rfl, hb1, hd1⟩ := hcell0 (by omega)
 obtain ⟨sy0, sy1, pc0, pc1, pc2, pc3, pc4, pc5, pc6, pc7, gy0, gy1⟩ := hd1 0 y (by rw [hy]; rfl)
 obtain ⟨r0, s0, q0, rfl⟩ := dis_slice gy0
 obtain ⟨r1, s1, q1, rfl⟩ := dis_slice gy1
 have HROW := hid (fun (u : World) (hu : Below w0.heap.size w0 u) => (⟨(hu.cell (p := ⟨b1, o1 + 0 * 8, none⟩) hb1).trans pc0, (hu.cell (p := ⟨b1, o1 + 0 * 8 + 1, none⟩) hb1).trans pc1, (hu.cell (p := ⟨b1, o1 + 0 * 8 + 2, none⟩) hb1).trans pc2, (hu.cell (p := ⟨b1, o1 + 0 * 8 + 3, none⟩) hb1).trans pc3, (hu.cell (p := ⟨b1, o1 + 0 * 8 + 4, none⟩) hb1).trans pc4, (hu.cell (p := ⟨b1, o1 + 0 * 8 + 5, none⟩) hb1).trans pc5, (hu.cell (p := ⟨b1, o1 + 0 * 8 + 6, none⟩) hb1).trans pc6, (hu.cell (p := ⟨b1, o1 + 0 * 8 + 7, none⟩) hb1).trans pc7⟩ : u.cell? ⟨b1, o1, none⟩ = some (.int .i64 y.op) ∧ u.cell? ⟨b1, o1 + 1, none⟩ = some (.string (str y.tb)) ∧ u.cell? ⟨b1, o1 + 2, none⟩ = some (.string (str y.nm)) ∧ u.cell? ⟨b1, o1 + 3, none⟩ = some (.int .i64 y.v.k) ∧ u.cell? ⟨b1, o1 + 4, none⟩ = some (.int .i64 y.v.n) ∧ u.cell? ⟨b1, o1 + 5, none⟩ = some (.string (str y.v.s)) ∧ u.cell? ⟨b1, o1 + 6, none⟩ = some (.slice r0 s0 q0) ∧ u.cell? ⟨b1, o1 + 7, none⟩ = some (.slice r1 s1 q1)))
 have e : opx x s = Wr.par (y.wr 1) (s.put [opT x.op]).tight := by
  unfold opx opF
  rw [if_neg (by omega), if_neg (by omega), if_neg (by omega), if_neg (by omega), if_neg (by omega), if_neg (by omega), if_pos (by omega), exsWr_map, hy]
  rfl
 rw [e] at hl ⊢
 have HC3 := hid (fun (oa ob oc : Obj) => ((hc.alloc oa).alloc ob).alloc oc)
 have HB3 := hid (fun (oa ob oc : Obj) => ((hw.alloc hw.size oa).alloc (by have := hw.size; simp; omega) ob).alloc (by have := hw.size; simp; omega) oc)
 have HK3 := hid (fun (oa ob oc : Obj) => (((WK.refl H B w g).alloc oa).alloc ob).alloc oc)
 have HX1 := hid (fun (ob oc : Obj) => (new_els hc (.cells #[.pointer (some ⟨H, 0, none⟩)] 69)).keep (g' := g) (((WK.refl H B _ g).alloc ob).alloc oc))
 have HX2 := hid (fun (oa oc : Obj) => (show Els H B (((w.alloc oa).alloc (.cells #[.int .i64 x.op, .string (str x.tb), .string (str x.nm), .int .i64 x.v.k, .int .i64 x.v.n, .string (str x.v.s), .slice (some ⟨b1, o1, none⟩) 1 z0, .slice e1 m1 z1] 40)).alloc oc) g (w.heap.size + 1) (.cells #[.int .i64 x.op, .string (str x.tb), .string (str x.nm), .int .i64 x.v.k, .int .i64 x.v.n, .string (str x.v.s), .slice (some ⟨b1, o1, none⟩) 1 z0, .slice e1 m1 z1] 40) from by
  have h := (new_els (hc.alloc oa) (.cells #[.int .i64 x.op, .string (str x.tb), .string (str x.nm), .int .i64 x.v.k, .int .i64 x.v.n, .string (str x.v.s), .slice (some ⟨b1, o1, none⟩) 1 z0, .slice e1 m1 z1] 40)).keep (g' := g) ((WK.refl H B _ g).alloc oc)
  rwa [show (w.alloc oa).heap.size = w.heap.size + 1 from by simp] at h))
 have HX3 := hid (fun (oa ob : Obj) => (show Els H B (((w.alloc oa).alloc ob).alloc (.cells #[.string (str (opT x.op)), .int .i64 (opL x.op)] 156)) g (w.heap.size + 2) (.cells #[.string (str (opT x.op)), .int .i64 (opL x.op)] 156) from by
  have h := new_els ((hc.alloc oa).alloc ob) (.cells #[.string (str (opT x.op)), .int .i64 (opL x.op)] 156)
  rwa [show ((w.alloc oa).alloc ob).heap.size = w.heap.size + 2 from by simp] at h))
 obtain ⟨k, hk⟩ : ∃ k : Nat, x.op = (k : Int) := ⟨x.op.toNat, by omega⟩
 have hk30 : k < 30 := by omega
 have tt := (hT.keep hw).ops k hk30
 rw [← hk] at tt
 obtain ⟨t0, t1⟩ := tt
 have t0b : w.cell? ⟨4, k * 2, none⟩ = some (.string (str (opT x.op))) := by rw [Nat.mul_comm]; exact t0
 have t1b : w.cell? ⟨4, k * 2 + 1, none⟩ = some (.int .i64 (opL x.op)) := by rw [Nat.mul_comm]; exact t1
 have hgl := World.block_lt_of_cell? w _ t1
 have f1 : (x.op == (1 : Int)) = false := beq_eq_false_iff_ne.2 (by omega)
 have f2 : (x.op == (2 : Int)) = false := beq_eq_false_iff_ne.2 (by omega)
 have f4 : (x.op == (4 : Int)) = false := beq_eq_false_iff_ne.2 (by omega)
 have f16 : (x.op == (16 : Int)) = false := beq_eq_false_iff_ne.2 (by omega)
 have f19 : (x.op == (19 : Int)) = false := beq_eq_false_iff_ne.2 (by omega)
 have f20 : (x.op == (20 : Int)) = false := beq_eq_false_iff_ne.2 (by omega)
 have f21 : (x.op == (21 : Int)) = false := beq_eq_false_iff_ne.2 (by omega)
 have f22 : (x.op == (22 : Int)) = false := beq_eq_false_iff_ne.2 (by omega)
 have f23 : (x.op == (23 : Int)) = false := beq_eq_false_iff_ne.2 (by omega)
 have f24 : (x.op == (24 : Int)) = false := beq_eq_false_iff_ne.2 (by omega)
 have f25 : (x.op == (25 : Int)) = true := beq_iff_eq.2 hop
 have hm := par_mo hM (s.put [opT x.op]).tight
 have hrt : Rng (opT x.op) := by rw [hop]; exact rngB rfl
 have HP := hid (fun (o1 o2 o3 : Obj) => putTight_any (opT x.op) (HC3.out o1 o2 o3) hrt (show (s.put [opT x.op]).tx.length ≤ _ from by have h : (s.put [opT x.op]).tight.tx.length = (s.put [opT x.op]).tx.length := rfl; omega))
 have HIP := hid (fun (g1 : Option Nat) (u : World) (hu : Below w0.heap.size w0 u) (h : WrC u A H B g1 (s.put [opT x.op]).tight) (bc bx : Nat) (hb : Els H B u g1 bc (.cells #[.pointer (some ⟨H, 0, none⟩)] 69)) (hx : Els H B u g1 bx (.cells #[.int .i64 x.op, .string (str x.tb), .string (str x.nm), .int .i64 x.v.k, .int .i64 x.v.n, .string (str x.v.s), .slice (some ⟨b1, o1, none⟩) 1 z0, .slice e1 m1 z1] 40)) =>
  inParens_any (y.wr 1) 123 #[.pointer (some ⟨bc, 0, none⟩), .pointer (some ⟨bx, 0, none⟩)] h hM hl call_o2 (fun g2 u2 hc2 hk2 hl2 => o2_step (x := x) hE hA (hk2.low h hA hu) hc2 HROW.out hb1 gy0 gy1 (hb.keep hk2) (hx.keep hk2) hl2))
 generalize Wr.par (y.wr 1) (s.put [opT x.op]).tight = sZ at *
 generalize (s.put [opT x.op]).tight = s1_ at *
 clear hT hw hc hl h0 h1 e hop hm hrt hE hM hcell0 hd1 gy0 gy1 hy pc0 pc1 pc2 pc3 pc4 pc5 pc6 pc7
 generalize opT x.op = tx at *
 generalize opL x.op = lv at *
 generalize x.op = xo at *
 subst hk
 go_enter Tryz.func110, Tryz.ntmps110
 go_wp2_with (first
  | (go_at_call 121; refine (HP.out _ _ _).mono ?_; clear HP; rintro e w1 ⟨rfl, g1, hc1, hk⟩; have HE1_1 := hid ((HX1.out _ _).keep hk); have HE2_1 := hid ((HX2.out _ _).keep hk); have HE3_1 := hid ((HX3.out _ _).keep hk); have HS1 := hid hc1; have HB1 := hid (hk.low (HC3.out _ _ _) hA (HB3.out _ _ _)); have HK1 := hid ((HK3.out _ _ _).trans hk); clear hc1 hk; have c0 := cell_at HE1_1.out.at_ 0 rfl)
  | (go_at_call 79; refine (HIP.out _ _ HB1.out HS1.out _ _ HE1_1.out HE2_1.out).mono ?_; clear HIP; rintro e w2 ⟨rfl, g2, hc2, hk⟩; have HS2 := hid hc2; have HK2 := hid (HK1.out.trans hk); clear hc2 hk)
  | fail)
 refine bodyPost_ret (results_none rfl _ _ _) rfl ?_
 exact ⟨rfl, g2, HS2.out, HK2.out⟩
end Go.Proofs.YtegkbagnbnoopaaGreatDoor
