/- the writer of print: operation at exists and in -/
import Derived.Test.YtegkbagnbnoopaaGreatDoorPs20
namespace Go.Proofs.YtegkbagnbnoopaaGreatDoor
open Go.ChangeShapes Go.WideShapes Go.ChangeAt Go.RowKit Go.Deep
open Go.Lib (hid)
set_option maxRecDepth 100000 in
set_option maxHeartbeats 6400000 in
theorem opn_26 {w0 : World} {x : Ex} (hT : Tabs w0)   {z : Qu} (hq : x.qs = [z]) (hI : ∀ b, QuV w0 b z → W1 w0 94 b (Wr.par z.bd)) (hM : Mo z.bd) (hop : x.op = 26) (a : Value) (ha : ExV w0 a x) : W1 w0 110 a (opx x) := by
 intro A H B g s w hA hw hc hl
 obtain ⟨p0, p1, rfl, h0, h1⟩ := ha
 obtain ⟨e0, m0, z0, rfl⟩ := dis_slice h0
 obtain ⟨e1, z1, rfl, -, hcell1⟩ := qus_rows h1
 have hlen1 : x.qs.length = 1 := by rw [hq]; rfl
 generalize x.qs.length = m1 at *
 subst hlen1
 obtain ⟨b2, o2, rfl, hb2, hd2⟩ := hcell1 (by omega)
 obtain ⟨sq0, sq1, sq2, sq3, sq4, sq5, sq6, qc0, qc1, qc2, qc3, qc4, qc5, qc6, qc7, qc8, qc9, qc10, gq0, gq1, gq2, gq3, gq4, gq5, gq6⟩ := hd2 0 z (by rw [hq]; rfl)
 obtain ⟨u0, v0, w0_, rfl⟩ := dis_slice gq0
 obtain ⟨u1, v1, w1_, rfl⟩ := dis_slice gq1
 obtain ⟨u2, v2, w2_, rfl⟩ := dis_slice gq2
 obtain ⟨u3, v3, w3_, rfl⟩ := dis_slice gq3
 obtain ⟨u4, v4, w4_, rfl⟩ := dis_slice gq4
 obtain ⟨u5, v5, w5_, rfl⟩ := dis_slice gq5
 obtain ⟨u6, v6, w6_, rfl⟩ := dis_slice gq6
 have HQOW := hid (fun (u : World) (hu : Below w0.heap.size w0 u) => (⟨(hu.cell (p := ⟨b2, o2 + 0 * 11, none⟩) hb2).trans qc0, (hu.cell (p := ⟨b2, o2 + 0 * 11 + 1, none⟩) hb2).trans qc1, (hu.cell (p := ⟨b2, o2 + 0 * 11 + 2, none⟩) hb2).trans qc2, (hu.cell (p := ⟨b2, o2 + 0 * 11 + 3, none⟩) hb2).trans qc3, (hu.cell (p := ⟨b2, o2 + 0 * 11 + 4, none⟩) hb2).trans qc4, (hu.cell (p := ⟨b2, o2 + 0 * 11 + 5, none⟩) hb2).trans qc5, (hu.cell (p := ⟨b2, o2 + 0 * 11 + 6, none⟩) hb2).trans qc6, (hu.cell (p := ⟨b2, o2 + 0 * 11 + 7, none⟩) hb2).trans qc7, (hu.cell (p := ⟨b2, o2 + 0 * 11 + 8, none⟩) hb2).trans qc8, (hu.cell (p := ⟨b2, o2 + 0 * 11 + 9, none⟩) hb2).trans qc9, (hu.cell (p := ⟨b2, o2 + 0 * 11 + 10, none⟩) hb2).trans qc10⟩ : u.cell? ⟨b2, o2, none⟩ = some (.int .i64 z.op) ∧ u.cell? ⟨b2, o2 + 1, none⟩ = some (.slice u0 v0 w0_) ∧ u.cell? ⟨b2, o2 + 2, none⟩ = some (.bool z.sel.dist) ∧ u.cell? ⟨b2, o2 + 3, none⟩ = some (.slice u1 v1 w1_) ∧ u.cell? ⟨b2, o2 + 4, none⟩ = some (.slice u2 v2 w2_) ∧ u.cell? ⟨b2, o2 + 5, none⟩ = some (.slice u3 v3 w3_) ∧ u.cell? ⟨b2, o2 + 6, none⟩ = some (.slice u4 v4 w4_) ∧ u.cell? ⟨b2, o2 + 7, none⟩ = some (.slice u5 v5 w5_) ∧ u.cell? ⟨b2, o2 + 8, none⟩ = some (.slice u6 v6 w6_) ∧ u.cell? ⟨b2, o2 + 9, none⟩ = some (.bool z.lim) ∧ u.cell? ⟨b2, o2 + 10, none⟩ = some (.int .i64 z.n)))
 have e : opx x s = Wr.par z.bd (s.put [opT x.op]) := by
  unfold opx opF
  rw [if_neg (by omega), if_neg (by omega), if_neg (by omega), if_neg (by omega), if_neg (by omega), if_neg (by omega), if_neg (by omega), if_pos (by omega), qusWr_map, hq]
  rfl
 rw [e] at hl ⊢
 have HC3 := hid (fun (oa ob oc : Obj) => ((hc.alloc oa).alloc ob).alloc oc)
 have HB3 := hid (fun (oa ob oc : Obj) => ((hw.alloc hw.size oa).alloc (by have := hw.size; simp; omega) ob).alloc (by have := hw.size; simp; omega) oc)
 have HK3 := hid (fun (oa ob oc : Obj) => (((WK.refl H B w g).alloc oa).alloc ob).alloc oc)
 have HX1 := hid (fun (ob oc : Obj) => (new_els hc (.cells #[.pointer (some ⟨H, 0, none⟩)] 69)).keep (g' := g) (((WK.refl H B _ g).alloc ob).alloc oc))
 have HX2 := hid (fun (oa oc : Obj) => (show Els H B (((w.alloc oa).alloc (.cells #[.int .i64 x.op, .string (str x.tb), .string (str x.nm), .int .i64 x.v.k, .int .i64 x.v.n, .string (str x.v.s), .slice e0 m0 z0, .slice (some ⟨b2, o2, none⟩) 1 z1] 40)).alloc oc) g (w.heap.size + 1) (.cells #[.int .i64 x.op, .string (str x.tb), .string (str x.nm), .int .i64 x.v.k, .int .i64 x.v.n, .string (str x.v.s), .slice e0 m0 z0, .slice (some ⟨b2, o2, none⟩) 1 z1] 40) from by
  have h := (new_els (hc.alloc oa) (.cells #[.int .i64 x.op, .string (str x.tb), .string (str x.nm), .int .i64 x.v.k, .int .i64 x.v.n, .string (str x.v.s), .slice e0 m0 z0, .slice (some ⟨b2, o2, none⟩) 1 z1] 40)).keep (g' := g) ((WK.refl H B _ g).alloc oc)
  rwa [show (w.alloc oa).heap.size = w.heap.size + 1 from by simp] at h))
 have HX3 := hid (fun (oa ob : Obj) => (show Els H B (((w.alloc oa).alloc ob).alloc (.cells #[.string (str (opT x.op)), .int .i64 (opL x.op)] 156)) g (w.heap.size + 2) (.cells #[.string (str (opT x.op)), .int .i64 (opL x.op)] 156) from by
  have h := new_els ((hc.alloc oa).alloc ob) (.cells #[.string (str (opT x.op)), .int .i64 (opL x.op)] 156)
  rwa [show ((w.alloc oa).alloc ob).heap.size = w.heap.size + 2 from by simp] at h))
 obtain ⟨k, hk⟩ : ∃ k : Nat, x.op = (k : Int) := ⟨x.op.toNat, by omega⟩
 have hk30 : k < 30 := by omega
 have tt := (hT.keep hw).ops k hk30
 rw [← hk] at tt
 obtain ⟨t0, t1⟩ := tt
 have t0b : w.cell? ⟨4, k * 2, none⟩ = some (.string (str (opT x.op))) := by rw [Nat.mul_comm]; exact t0
 have t1b : w.cell? ⟨4, k * 2 + 1, none⟩ = some (.int .i64 (opL x.op)) := by rw [Nat.mul_comm]; exact t1
 have hgl := World.block_lt_of_cell? w _ t1
 have f1 : (x.op == (1 : Int)) = false := beq_eq_false_iff_ne.2 (by omega)
 have f2 : (x.op == (2 : Int)) = false := beq_eq_false_iff_ne.2 (by omega)
 have f4 : (x.op == (4 : Int)) = false := beq_eq_false_iff_ne.2 (by omega)
 have f16 : (x.op == (16 : Int)) = false := beq_eq_false_iff_ne.2 (by omega)
 have f19 : (x.op == (19 : Int)) = false := beq_eq_false_iff_ne.2 (by omega)
 have f20 : (x.op == (20 : Int)) = false := beq_eq_false_iff_ne.2 (by omega)
 have f21 : (x.op == (21 : Int)) = false := beq_eq_false_iff_ne.2 (by omega)
 have f22 : (x.op == (22 : Int)) = false := beq_eq_false_iff_ne.2 (by omega)
 have f23 : (x.op == (23 : Int)) = false := beq_eq_false_iff_ne.2 (by omega)
 have f24 : (x.op == (24 : Int)) = false := beq_eq_false_iff_ne.2 (by omega)
 have f25 : (x.op == (25 : Int)) = false := beq_eq_false_iff_ne.2 (by omega)
 have f26 : (x.op == (26 : Int)) = true := beq_iff_eq.2 hop
 have hm := par_mo hM (s.put [opT x.op])
 have hrt : Rng (opT x.op) := by rw [hop]; exact rngB rfl
 have HP := hid (fun (o1 o2 o3 : Obj) => put_oneB (w.heap.size + 3) (by simp) (opT x.op) (str (opT x.op)) rfl (HC3.out o1 o2 o3) hrt (by omega))
 have HIN := hid (fun (g1 : Option Nat) (u : World) (h : WrC u A H B g1 (s.put [opT x.op])) (hu : Below w0.heap.size w0 u) => hI (.agg #[.int .i64 z.op, .slice u0 v0 w0_, .bool z.sel.dist, .slice u1 v1 w1_, .slice u2 v2 w2_, .slice u3 v3 w3_, .slice u4 v4 w4_, .slice u5 v5 w5_, .slice u6 v6 w6_, .bool z.lim, .int .i64 z.n]) ⟨_, _, _, _, _, _, _, rfl, gq0, gq1, gq2, gq3, gq4, gq5, gq6⟩ A H B g1 _ u hA hu h hl)
 generalize Wr.par z.bd (s.put [opT x.op]) = sZ at *
 generalize s.put [opT x.op] = s1_ at *
 have hsz := hw.size
 clear hT hw hc hl h0 h1 e hop hI hM hm hrt hcell1 hd2 hq gq0 gq1 gq2 gq3 gq4 gq5 gq6 qc0 qc1 qc2 qc3 qc4 qc5 qc6 qc7 qc8 qc9 qc10
 generalize opT x.op = tx at *
 generalize opL x.op = lv at *
 generalize x.op = xo at *
 subst hk
 go_enter Tryz.func110, Tryz.ntmps110
 go_wp2_with (go_at_call 47; refine (HP.out _ _ _).mono ?_; clear HP; rintro e w1 ⟨rfl, g1, hc1, hk⟩; have HE1_1 := hid ((HX1.out _ _).keep hk); have HE2_1 := hid ((HX2.out _ _).keep hk); have HE3_1 := hid ((HX3.out _ _).keep hk); have HS1 := hid hc1; have HB1 := hid (hk.low (HC3.out _ _ _) hA (HB3.out _ _ _)); have HK1 := hid ((HK3.out _ _ _).trans hk); clear hc1 hk)
 refine wp_region_held_drew (S := fun u => (u.heap[w.heap.size]? = some (.cells #[.pointer (some ⟨H, 0, none⟩)] 69 (0, 0)) ∧ u.heap[w.heap.size + 1]? = some (.cells #[.int .i64 ↑k, .string (str x.tb), .string (str x.nm), .int .i64 x.v.k, .int .i64 x.v.n, .string (str x.v.s), .slice e0 m0 z0, .slice (some ⟨b2, o2, none⟩) 1 z1] 40 (0, 0)) ∧ u.heap[w.heap.size + 2]? = some (.cells #[.string (str tx), .int .i64 lv] 156 (0, 0)) ∧ Below w0.heap.size w0 u)) (by kernel_rfl) (⟨HE1_1.out.at_, HE2_1.out.at_, HE3_1.out.at_, HB1.out.drew⟩) (fun hHeld => ?_)
 refine tk (i := 0) (oi := ⟨some 108, .load 69 (.tmp 2), 69, "writer.go:106", #[], none⟩) (v := ?_) (Or.inl ⟨by rfl, ?_⟩) ?_
 rotate_left 1
 ·(intro u hSw; obtain ⟨hs1, hs2, hs3, hs4⟩ := hSw; have c0 := cell_at hs1 0 rfl; have d0 := cell_at hs2 0 rfl; have d1 := cell_at hs2 1 rfl; have d2 := cell_at hs2 2 rfl; have d3 := cell_at hs2 3 rfl; have d4 := cell_at hs2 4 rfl; have d5 := cell_at hs2 5 rfl; have d6 := cell_at hs2 6 rfl; have d7 := cell_at hs2 7 rfl; have e0_ := cell_at hs3 0 rfl; have e1_ := cell_at hs3 1 rfl; obtain ⟨qw0, qw1, qw2, qw3, qw4, qw5, qw6, qw7, qw8, qw9, qw10⟩ := HQOW.out u hs4; have hbu2 : b2 < u.heap.size := (by have := hs4.size; omega); go_simp; try with_reducible rfl)
 try simp only [Act.put, sA, sB, sC]
 refine tk (i := 1) (oi := ⟨some 109, .fieldAddr 40 (.tmp 3) 5, 0, "writer.go:106", #[], none⟩) (v := ?_) (Or.inl ⟨by rfl, ?_⟩) ?_
 rotate_left 1
 ·(intro u hSw; go_simp; try with_reducible rfl)
 try simp only [Act.put, sA, sB, sC]
 refine tk (i := 2) (oi := ⟨some 110, .load 22 (.tmp 109), 22, "writer.go:106", #[⟨1, .data⟩], none⟩) (v := ?_) (Or.inl ⟨by rfl, ?_⟩) ?_
 rotate_left 1
 ·(intro u hSw; obtain ⟨hs1, hs2, hs3, hs4⟩ := hSw; have c0 := cell_at hs1 0 rfl; have d0 := cell_at hs2 0 rfl; have d1 := cell_at hs2 1 rfl; have d2 := cell_at hs2 2 rfl; have d3 := cell_at hs2 3 rfl; have d4 := cell_at hs2 4 rfl; have d5 := cell_at hs2 5 rfl; have d6 := cell_at hs2 6 rfl; have d7 := cell_at hs2 7 rfl; have e0_ := cell_at hs3 0 rfl; have e1_ := cell_at hs3 1 rfl; obtain ⟨qw0, qw1, qw2, qw3, qw4, qw5, qw6, qw7, qw8, qw9, qw10⟩ := HQOW.out u hs4; have hbu2 : b2 < u.heap.size := (by have := hs4.size; omega); go_simp; try with_reducible rfl)
 try simp only [Act.put, sA, sB, sC]
 refine tk (i := 3) (oi := ⟨some 111, .indexAddr 22 (.tmp 110) (.const (Value.int IntKind.i64 0)), 0, "writer.go:106", #[⟨2, .data⟩], none⟩) (v := ?_) (Or.inl ⟨by rfl, ?_⟩) ?_
 rotate_left 1
 ·(intro u hSw; go_simp; try with_reducible rfl)
 try simp only [Act.put, sA, sB, sC]
 refine tk (i := 4) (oi := ⟨some 112, .load 30 (.tmp 111), 30, "writer.go:106", #[⟨3, .data⟩], none⟩) (v := ?_) (Or.inl ⟨by rfl, ?_⟩) ?_
 rotate_left 1
 ·(intro u hSw; obtain ⟨hs1, hs2, hs3, hs4⟩ := hSw; have c0 := cell_at hs1 0 rfl; have d0 := cell_at hs2 0 rfl; have d1 := cell_at hs2 1 rfl; have d2 := cell_at hs2 2 rfl; have d3 := cell_at hs2 3 rfl; have d4 := cell_at hs2 4 rfl; have d5 := cell_at hs2 5 rfl; have d6 := cell_at hs2 6 rfl; have d7 := cell_at hs2 7 rfl; have e0_ := cell_at hs3 0 rfl; have e1_ := cell_at hs3 1 rfl; obtain ⟨qw0, qw1, qw2, qw3, qw4, qw5, qw6, qw7, qw8, qw9, qw10⟩ := HQOW.out u hs4; have hbu2 : b2 < u.heap.size := (by have := hs4.size; omega); go_simp; try with_reducible rfl)
 try simp only [Act.put, sA, sB, sC]
 refine wpAnyH_ready (rs := [5]) (by kernel_rfl) (by simp) ?_
 refine AllReadyH.cons (o := ⟨some 113, .call ⟨.value (.func 94), #[.tmp 108, .tmp 112], #[69, 30]⟩, 0, "writer.go:106", #[⟨0, .data⟩, ⟨4, .data⟩], none⟩) rfl (fun K hK => ?_) AllReadyH.nil
 go_simp
 go_at_call 94
 refine (HIN.out _ _ (show WrC w1.drew A H B g1 _ from HS1.out.fresh (Below.refl _ _).drew) HB1.out.drew).mono ?_
 rintro e w2 ⟨rfl, g2, hc2, hk2⟩
 go_wp2_with fail
 have HE1_2 := hid ((show Els H B w1.drew g1 _ _ from ⟨HE1_1.out.at_, HE1_1.out.nh, HE1_1.out.nb, HE1_1.out.ng⟩).keep hk2)
 have HE2_2 := hid ((show Els H B w1.drew g1 _ _ from ⟨HE2_1.out.at_, HE2_1.out.nh, HE2_1.out.nb, HE2_1.out.ng⟩).keep hk2)
 have HE3_2 := hid ((show Els H B w1.drew g1 _ _ from ⟨HE3_1.out.at_, HE3_1.out.nh, HE3_1.out.nb, HE3_1.out.ng⟩).keep hk2)
 have HB2 := hid (hk2.low (show WrC w1.drew A H B g1 _ from HS1.out.fresh (Below.refl _ _).drew) hA HB1.out.drew)
 have HK2 := hid ((HK1.out.trans (WK.fresh (Below.refl _ _).drew)).trans hk2)
 have HS2 := hid hc2
 clear hc2 hk2
 refine hK.out _ _ ⟨HE1_2.out.at_, HE2_2.out.at_, HE3_2.out.at_, HB2.out⟩ (fun _ => ?_)
 clear hK K
 try simp only [Act.put, sA, sB, sC]
 refine wpAnyH_done (by kernel_rfl) ?_ _
 go_wp2_with fail
 refine bodyPost_ret (results_none rfl _ _ _) rfl ?_
 exact ⟨rfl, g2, HS2.out, HK2.out⟩
set_option maxRecDepth 100000 in
set_option maxHeartbeats 6400000 in
theorem opn_27 {w0 : World} {x : Ex} (hT : Tabs w0)   {z : Qu} (hq : x.qs = [z]) (hI : ∀ b, QuV w0 b z → W1 w0 94 b (Wr.par z.bd)) (hM : Mo z.bd) (hop : x.op = 27) (a : Value) (ha : ExV w0 a x) : W1 w0 110 a (opx x) := by
 intro A H B g s w hA hw hc hl
 obtain ⟨p0, p1, rfl, h0, h1⟩ := ha
 obtain ⟨e0, m0, z0, rfl⟩ := dis_slice h0
 obtain ⟨e1, z1, rfl, -, hcell1⟩ := qus_rows h1
 have hlen1 : x.qs.length = 1 := by rw [hq]; rfl
 generalize x.qs.length = m1 at *
 subst hlen1
 obtain ⟨b2, o2, rfl, hb2, hd2⟩ := hcell1 (by omega)
 obtain ⟨sq0, sq1, sq2, sq3, sq4, sq5, sq6, qc0, qc1, qc2, qc3, qc4, qc5, qc6, qc7, qc8, qc9, qc10, gq0, gq1, gq2, gq3, gq4, gq5, gq6⟩ := hd2 0 z (by rw [hq]; rfl)
 obtain ⟨u0, v0, w0_, rfl⟩ := dis_slice gq0
 obtain ⟨u1, v1, w1_, rfl⟩ := dis_slice gq1
 obtain ⟨u2, v2, w2_, rfl⟩ := dis_slice gq2
 obtain ⟨u3, v3, w3_, rfl⟩ := dis_slice gq3
 obtain ⟨u4, v4, w4_, rfl⟩ := dis_slice gq4
 obtain ⟨u5, v5, w5_, rfl⟩ := dis_slice gq5
 obtain ⟨u6, v6, w6_, rfl⟩ := dis_slice gq6
 have HQOW := hid (fun (u : World) (hu : Below w0.heap.size w0 u) => (⟨(hu.cell (p := ⟨b2, o2 + 0 * 11, none⟩) hb2).trans qc0, (hu.cell (p := ⟨b2, o2 + 0 * 11 + 1, none⟩) hb2).trans qc1, (hu.cell (p := ⟨b2, o2 + 0 * 11 + 2, none⟩) hb2).trans qc2, (hu.cell (p := ⟨b2, o2 + 0 * 11 + 3, none⟩) hb2).trans qc3, (hu.cell (p := ⟨b2, o2 + 0 * 11 + 4, none⟩) hb2).trans qc4, (hu.cell (p := ⟨b2, o2 + 0 * 11 + 5, none⟩) hb2).trans qc5, (hu.cell (p := ⟨b2, o2 + 0 * 11 + 6, none⟩) hb2).trans qc6, (hu.cell (p := ⟨b2, o2 + 0 * 11 + 7, none⟩) hb2).trans qc7, (hu.cell (p := ⟨b2, o2 + 0 * 11 + 8, none⟩) hb2).trans qc8, (hu.cell (p := ⟨b2, o2 + 0 * 11 + 9, none⟩) hb2).trans qc9, (hu.cell (p := ⟨b2, o2 + 0 * 11 + 10, none⟩) hb2).trans qc10⟩ : u.cell? ⟨b2, o2, none⟩ = some (.int .i64 z.op) ∧ u.cell? ⟨b2, o2 + 1, none⟩ = some (.slice u0 v0 w0_) ∧ u.cell? ⟨b2, o2 + 2, none⟩ = some (.bool z.sel.dist) ∧ u.cell? ⟨b2, o2 + 3, none⟩ = some (.slice u1 v1 w1_) ∧ u.cell? ⟨b2, o2 + 4, none⟩ = some (.slice u2 v2 w2_) ∧ u.cell? ⟨b2, o2 + 5, none⟩ = some (.slice u3 v3 w3_) ∧ u.cell? ⟨b2, o2 + 6, none⟩ = some (.slice u4 v4 w4_) ∧ u.cell? ⟨b2, o2 + 7, none⟩ = some (.slice u5 v5 w5_) ∧ u.cell? ⟨b2, o2 + 8, none⟩ = some (.slice u6 v6 w6_) ∧ u.cell? ⟨b2, o2 + 9, none⟩ = some (.bool z.lim) ∧ u.cell? ⟨b2, o2 + 10, none⟩ = some (.int .i64 z.n)))
 have e : opx x s = Wr.par z.bd (s.put [opT x.op]) := by
  unfold opx opF
  rw [if_neg (by omega), if_neg (by omega), if_neg (by omega), if_neg (by omega), if_neg (by omega), if_neg (by omega), if_neg (by omega), if_pos (by omega), qusWr_map, hq]
  rfl
 rw [e] at hl ⊢
 have HC3 := hid (fun (oa ob oc : Obj) => ((hc.alloc oa).alloc ob).alloc oc)
 have HB3 := hid (fun (oa ob oc : Obj) => ((hw.alloc hw.size oa).alloc (by have := hw.size; simp; omega) ob).alloc (by have := hw.size; simp; omega) oc)
 have HK3 := hid (fun (oa ob oc : Obj) => (((WK.refl H B w g).alloc oa).alloc ob).alloc oc)
 have HX1 := hid (fun (ob oc : Obj) => (new_els hc (.cells #[.pointer (some ⟨H, 0, none⟩)] 69)).keep (g' := g) (((WK.refl H B _ g).alloc ob).alloc oc))
 have HX2 := hid (fun (oa oc : Obj) => (show Els H B (((w.alloc oa).alloc (.cells #[.int .i64 x.op, .string (str x.tb), .string (str x.nm), .int .i64 x.v.k, .int .i64 x.v.n, .string (str x.v.s), .slice e0 m0 z0, .slice (some ⟨b2, o2, none⟩) 1 z1] 40)).alloc oc) g (w.heap.size + 1) (.cells #[.int .i64 x.op, .string (str x.tb), .string (str x.nm), .int .i64 x.v.k, .int .i64 x.v.n, .string (str x.v.s), .slice e0 m0 z0, .slice (some ⟨b2, o2, none⟩) 1 z1] 40) from by
  have h := (new_els (hc.alloc oa) (.cells #[.int .i64 x.op, .string (str x.tb), .string (str x.nm), .int .i64 x.v.k, .int .i64 x.v.n, .string (str x.v.s), .slice e0 m0 z0, .slice (some ⟨b2, o2, none⟩) 1 z1] 40)).keep (g' := g) ((WK.refl H B _ g).alloc oc)
  rwa [show (w.alloc oa).heap.size = w.heap.size + 1 from by simp] at h))
 have HX3 := hid (fun (oa ob : Obj) => (show Els H B (((w.alloc oa).alloc ob).alloc (.cells #[.string (str (opT x.op)), .int .i64 (opL x.op)] 156)) g (w.heap.size + 2) (.cells #[.string (str (opT x.op)), .int .i64 (opL x.op)] 156) from by
  have h := new_els ((hc.alloc oa).alloc ob) (.cells #[.string (str (opT x.op)), .int .i64 (opL x.op)] 156)
  rwa [show ((w.alloc oa).alloc ob).heap.size = w.heap.size + 2 from by simp] at h))
 obtain ⟨k, hk⟩ : ∃ k : Nat, x.op = (k : Int) := ⟨x.op.toNat, by omega⟩
 have hk30 : k < 30 := by omega
 have tt := (hT.keep hw).ops k hk30
 rw [← hk] at tt
 obtain ⟨t0, t1⟩ := tt
 have t0b : w.cell? ⟨4, k * 2, none⟩ = some (.string (str (opT x.op))) := by rw [Nat.mul_comm]; exact t0
 have t1b : w.cell? ⟨4, k * 2 + 1, none⟩ = some (.int .i64 (opL x.op)) := by rw [Nat.mul_comm]; exact t1
 have hgl := World.block_lt_of_cell? w _ t1
 have f1 : (x.op == (1 : Int)) = false := beq_eq_false_iff_ne.2 (by omega)
 have f2 : (x.op == (2 : Int)) = false := beq_eq_false_iff_ne.2 (by omega)
 have f4 : (x.op == (4 : Int)) = false := beq_eq_false_iff_ne.2 (by omega)
 have f16 : (x.op == (16 : Int)) = false := beq_eq_false_iff_ne.2 (by omega)
 have f19 : (x.op == (19 : Int)) = false := beq_eq_false_iff_ne.2 (by omega)
 have f20 : (x.op == (20 : Int)) = false := beq_eq_false_iff_ne.2 (by omega)
 have f21 : (x.op == (21 : Int)) = false := beq_eq_false_iff_ne.2 (by omega)
 have f22 : (x.op == (22 : Int)) = false := beq_eq_false_iff_ne.2 (by omega)
 have f23 : (x.op == (23 : Int)) = false := beq_eq_false_iff_ne.2 (by omega)
 have f24 : (x.op == (24 : Int)) = false := beq_eq_false_iff_ne.2 (by omega)
 have f25 : (x.op == (25 : Int)) = false := beq_eq_false_iff_ne.2 (by omega)
 have f26 : (x.op == (26 : Int)) = false := beq_eq_false_iff_ne.2 (by omega)
 have f27 : (x.op == (27 : Int)) = true := beq_iff_eq.2 hop
 have hm := par_mo hM (s.put [opT x.op])
 have hrt : Rng (opT x.op) := by rw [hop]; exact rngB rfl
 have HP := hid (fun (o1 o2 o3 : Obj) => put_oneB (w.heap.size + 3) (by simp) (opT x.op) (str (opT x.op)) rfl (HC3.out o1 o2 o3) hrt (by omega))
 have HIN := hid (fun (g1 : Option Nat) (u : World) (h : WrC u A H B g1 (s.put [opT x.op])) (hu : Below w0.heap.size w0 u) => hI (.agg #[.int .i64 z.op, .slice u0 v0 w0_, .bool z.sel.dist, .slice u1 v1 w1_, .slice u2 v2 w2_, .slice u3 v3 w3_, .slice u4 v4 w4_, .slice u5 v5 w5_, .slice u6 v6 w6_, .bool z.lim, .int .i64 z.n]) ⟨_, _, _, _, _, _, _, rfl, gq0, gq1, gq2, gq3, gq4, gq5, gq6⟩ A H B g1 _ u hA hu h hl)
 generalize Wr.par z.bd (s.put [opT x.op]) = sZ at *
 generalize s.put [opT x.op] = s1_ at *
 have hsz := hw.size
 clear hT hw hc hl h0 h1 e hop hI hM hm hrt hcell1 hd2 hq gq0 gq1 gq2 gq3 gq4 gq5 gq6 qc0 qc1 qc2 qc3 qc4 qc5 qc6 qc7 qc8 qc9 qc10
 generalize opT x.op = tx at *
 generalize opL x.op = lv at *
 generalize x.op = xo at *
 subst hk
 go_enter Tryz.func110, Tryz.ntmps110
 go_wp2_with (go_at_call 47; refine (HP.out _ _ _).mono ?_; clear HP; rintro e w1 ⟨rfl, g1, hc1, hk⟩; have HE1_1 := hid ((HX1.out _ _).keep hk); have HE2_1 := hid ((HX2.out _ _).keep hk); have HE3_1 := hid ((HX3.out _ _).keep hk); have HS1 := hid hc1; have HB1 := hid (hk.low (HC3.out _ _ _) hA (HB3.out _ _ _)); have HK1 := hid ((HK3.out _ _ _).trans hk); clear hc1 hk)
 refine wp_region_held_drew (S := fun u => (u.heap[w.heap.size]? = some (.cells #[.pointer (some ⟨H, 0, none⟩)] 69 (0, 0)) ∧ u.heap[w.heap.size + 1]? = some (.cells #[.int .i64 ↑k, .string (str x.tb), .string (str x.nm), .int .i64 x.v.k, .int .i64 x.v.n, .string (str x.v.s), .slice e0 m0 z0, .slice (some ⟨b2, o2, none⟩) 1 z1] 40 (0, 0)) ∧ u.heap[w.heap.size + 2]? = some (.cells #[.string (str tx), .int .i64 lv] 156 (0, 0)) ∧ Below w0.heap.size w0 u)) (by kernel_rfl) (⟨HE1_1.out.at_, HE2_1.out.at_, HE3_1.out.at_, HB1.out.drew⟩) (fun hHeld => ?_)
 refine tk (i := 0) (oi := ⟨some 108, .load 69 (.tmp 2), 69, "writer.go:106", #[], none⟩) (v := ?_) (Or.inl ⟨by rfl, ?_⟩) ?_
 rotate_left 1
 ·(intro u hSw; obtain ⟨hs1, hs2, hs3, hs4⟩ := hSw; have c0 := cell_at hs1 0 rfl; have d0 := cell_at hs2 0 rfl; have d1 := cell_at hs2 1 rfl; have d2 := cell_at hs2 2 rfl; have d3 := cell_at hs2 3 rfl; have d4 := cell_at hs2 4 rfl; have d5 := cell_at hs2 5 rfl; have d6 := cell_at hs2 6 rfl; have d7 := cell_at hs2 7 rfl; have e0_ := cell_at hs3 0 rfl; have e1_ := cell_at hs3 1 rfl; obtain ⟨qw0, qw1, qw2, qw3, qw4, qw5, qw6, qw7, qw8, qw9, qw10⟩ := HQOW.out u hs4; have hbu2 : b2 < u.heap.size := (by have := hs4.size; omega); go_simp; try with_reducible rfl)
 try simp only [Act.put, sA, sB, sC]
 refine tk (i := 1) (oi := ⟨some 109, .fieldAddr 40 (.tmp 3) 5, 0, "writer.go:106", #[], none⟩) (v := ?_) (Or.inl ⟨by rfl, ?_⟩) ?_
 rotate_left 1
 ·(intro u hSw; go_simp; try with_reducible rfl)
 try simp only [Act.put, sA, sB, sC]
 refine tk (i := 2) (oi := ⟨some 110, .load 22 (.tmp 109), 22, "writer.go:106", #[⟨1, .data⟩], none⟩) (v := ?_) (Or.inl ⟨by rfl, ?_⟩) ?_
 rotate_left 1
 ·(intro u hSw; obtain ⟨hs1, hs2, hs3, hs4⟩ := hSw; have c0 := cell_at hs1 0 rfl; have d0 := cell_at hs2 0 rfl; have d1 := cell_at hs2 1 rfl; have d2 := cell_at hs2 2 rfl; have d3 := cell_at hs2 3 rfl; have d4 := cell_at hs2 4 rfl; have d5 := cell_at hs2 5 rfl; have d6 := cell_at hs2 6 rfl; have d7 := cell_at hs2 7 rfl; have e0_ := cell_at hs3 0 rfl; have e1_ := cell_at hs3 1 rfl; obtain ⟨qw0, qw1, qw2, qw3, qw4, qw5, qw6, qw7, qw8, qw9, qw10⟩ := HQOW.out u hs4; have hbu2 : b2 < u.heap.size := (by have := hs4.size; omega); go_simp; try with_reducible rfl)
 try simp only [Act.put, sA, sB, sC]
 refine tk (i := 3) (oi := ⟨some 111, .indexAddr 22 (.tmp 110) (.const (Value.int IntKind.i64 0)), 0, "writer.go:106", #[⟨2, .data⟩], none⟩) (v := ?_) (Or.inl ⟨by rfl, ?_⟩) ?_
 rotate_left 1
 ·(intro u hSw; go_simp; try with_reducible rfl)
 try simp only [Act.put, sA, sB, sC]
 refine tk (i := 4) (oi := ⟨some 112, .load 30 (.tmp 111), 30, "writer.go:106", #[⟨3, .data⟩], none⟩) (v := ?_) (Or.inl ⟨by rfl, ?_⟩) ?_
 rotate_left 1
 ·(intro u hSw; obtain ⟨hs1, hs2, hs3, hs4⟩ := hSw; have c0 := cell_at hs1 0 rfl; have d0 := cell_at hs2 0 rfl; have d1 := cell_at hs2 1 rfl; have d2 := cell_at hs2 2 rfl; have d3 := cell_at hs2 3 rfl; have d4 := cell_at hs2 4 rfl; have d5 := cell_at hs2 5 rfl; have d6 := cell_at hs2 6 rfl; have d7 := cell_at hs2 7 rfl; have e0_ := cell_at hs3 0 rfl; have e1_ := cell_at hs3 1 rfl; obtain ⟨qw0, qw1, qw2, qw3, qw4, qw5, qw6, qw7, qw8, qw9, qw10⟩ := HQOW.out u hs4; have hbu2 : b2 < u.heap.size := (by have := hs4.size; omega); go_simp; try with_reducible rfl)
 try simp only [Act.put, sA, sB, sC]
 refine wpAnyH_ready (rs := [5]) (by kernel_rfl) (by simp) ?_
 refine AllReadyH.cons (o := ⟨some 113, .call ⟨.value (.func 94), #[.tmp 108, .tmp 112], #[69, 30]⟩, 0, "writer.go:106", #[⟨0, .data⟩, ⟨4, .data⟩], none⟩) rfl (fun K hK => ?_) AllReadyH.nil
 go_simp
 go_at_call 94
 refine (HIN.out _ _ (show WrC w1.drew A H B g1 _ from HS1.out.fresh (Below.refl _ _).drew) HB1.out.drew).mono ?_
 rintro e w2 ⟨rfl, g2, hc2, hk2⟩
 go_wp2_with fail
 have HE1_2 := hid ((show Els H B w1.drew g1 _ _ from ⟨HE1_1.out.at_, HE1_1.out.nh, HE1_1.out.nb, HE1_1.out.ng⟩).keep hk2)
 have HE2_2 := hid ((show Els H B w1.drew g1 _ _ from ⟨HE2_1.out.at_, HE2_1.out.nh, HE2_1.out.nb, HE2_1.out.ng⟩).keep hk2)
 have HE3_2 := hid ((show Els H B w1.drew g1 _ _ from ⟨HE3_1.out.at_, HE3_1.out.nh, HE3_1.out.nb, HE3_1.out.ng⟩).keep hk2)
 have HB2 := hid (hk2.low (show WrC w1.drew A H B g1 _ from HS1.out.fresh (Below.refl _ _).drew) hA HB1.out.drew)
 have HK2 := hid ((HK1.out.trans (WK.fresh (Below.refl _ _).drew)).trans hk2)
 have HS2 := hid hc2
 clear hc2 hk2
 refine hK.out _ _ ⟨HE1_2.out.at_, HE2_2.out.at_, HE3_2.out.at_, HB2.out⟩ (fun _ => ?_)
 clear hK K
 try simp only [Act.put, sA, sB, sC]
 refine wpAnyH_done (by kernel_rfl) ?_ _
 go_wp2_with fail
 refine bodyPost_ret (results_none rfl _ _ _) rfl ?_
 exact ⟨rfl, g2, HS2.out, HK2.out⟩
set_option maxRecDepth 100000 in
set_option maxHeartbeats 6400000 in
theorem opn_28 {w0 : World} {x : Ex} (hT : Tabs w0)   {y : Ex} (hy : x.args = [y]) (hO : ∀ (l : Int) (b : Value), ExV w0 b y → W2 w0 95 b (.int .i64 l) (y.wr l)) {z : Qu} (hq : x.qs = [z]) (hI : ∀ b, QuV w0 b z → W1 w0 94 b (Wr.par z.bd)) (hM : Mo z.bd) (hop : x.op = 28) (a : Value) (ha : ExV w0 a x) : W1 w0 110 a (opx x) := by
 intro A H B g s w hA hw hc hl
 obtain ⟨p0, p1, rfl, h0, h1⟩ := ha
 obtain ⟨e0, z0, rfl, -, hcell0⟩ := exs_rows h0
 have hlen : x.args.length = 1 := by rw [hy]; rfl
 generalize x.args.length = m0 at *
 subst hlen
 obtain ⟨b1, o1, rfl, hb1, hd1⟩ := hcell0 (by omega)
 obtain ⟨sy0, sy1, pc0, pc1, pc2, pc3, pc4, pc5, pc6, pc7, gy0, gy1⟩ := hd1 0 y (by rw [hy]; rfl)
 obtain ⟨r0, s0, q0, rfl⟩ := dis_slice gy0
 obtain ⟨r1, s1, q1, rfl⟩ := dis_slice gy1
 have HROW := hid (fun (u : World) (hu : Below w0.heap.size w0 u) => (⟨(hu.cell (p := ⟨b1, o1 + 0 * 8, none⟩) hb1).trans pc0, (hu.cell (p := ⟨b1, o1 + 0 * 8 + 1, none⟩) hb1).trans pc1, (hu.cell (p := ⟨b1, o1 + 0 * 8 + 2, none⟩) hb1).trans pc2, (hu.cell (p := ⟨b1, o1 + 0 * 8 + 3, none⟩) hb1).trans pc3, (hu.cell (p := ⟨b1, o1 + 0 * 8 + 4, none⟩) hb1).trans pc4, (hu.cell (p := ⟨b1, o1 + 0 * 8 + 5, none⟩) hb1).trans pc5, (hu.cell (p := ⟨b1, o1 + 0 * 8 + 6, none⟩) hb1).trans pc6, (hu.cell (p := ⟨b1, o1 + 0 * 8 + 7, none⟩) hb1).trans pc7⟩ : u.cell? ⟨b1, o1, none⟩ = some (.int .i64 y.op) ∧ u.cell? ⟨b1, o1 + 1, none⟩ = some (.string (str y.tb)) ∧ u.cell? ⟨b1, o1 + 2, none⟩ = some (.string (str y.nm)) ∧ u.cell? ⟨b1, o1 + 3, none⟩ = some (.int .i64 y.v.k) ∧ u.cell? ⟨b1, o1 + 4, none⟩ = some (.int .i64 y.v.n) ∧ u.cell? ⟨b1, o1 + 5, none⟩ = some (.string (str y.v.s)) ∧ u.cell? ⟨b1, o1 + 6, none⟩ = some (.slice r0 s0 q0) ∧ u.cell? ⟨b1, o1 + 7, none⟩ = some (.slice r1 s1 q1)))
 obtain ⟨e1, z1, rfl, -, hcell1⟩ := qus_rows h1
 have hlen1 : x.qs.length = 1 := by rw [hq]; rfl
 generalize x.qs.length = m1 at *
 subst hlen1
 obtain ⟨b2, o2, rfl, hb2, hd2⟩ := hcell1 (by omega)
 obtain ⟨sq0, sq1, sq2, sq3, sq4, sq5, sq6, qc0, qc1, qc2, qc3, qc4, qc5, qc6, qc7, qc8, qc9, qc10, gq0, gq1, gq2, gq3, gq4, gq5, gq6⟩ := hd2 0 z (by rw [hq]; rfl)
 obtain ⟨u0, v0, w0_, rfl⟩ := dis_slice gq0
 obtain ⟨u1, v1, w1_, rfl⟩ := dis_slice gq1
 obtain ⟨u2, v2, w2_, rfl⟩ := dis_slice gq2
 obtain ⟨u3, v3, w3_, rfl⟩ := dis_slice gq3
 obtain ⟨u4, v4, w4_, rfl⟩ := dis_slice gq4
 obtain ⟨u5, v5, w5_, rfl⟩ := dis_slice gq5
 obtain ⟨u6, v6, w6_, rfl⟩ := dis_slice gq6
 have HQOW := hid (fun (u : World) (hu : Below w0.heap.size w0 u) => (⟨(hu.cell (p := ⟨b2, o2 + 0 * 11, none⟩) hb2).trans qc0, (hu.cell (p := ⟨b2, o2 + 0 * 11 + 1, none⟩) hb2).trans qc1, (hu.cell (p := ⟨b2, o2 + 0 * 11 + 2, none⟩) hb2).trans qc2, (hu.cell (p := ⟨b2, o2 + 0 * 11 + 3, none⟩) hb2).trans qc3, (hu.cell (p := ⟨b2, o2 + 0 * 11 + 4, none⟩) hb2).trans qc4, (hu.cell (p := ⟨b2, o2 + 0 * 11 + 5, none⟩) hb2).trans qc5, (hu.cell (p := ⟨b2, o2 + 0 * 11 + 6, none⟩) hb2).trans qc6, (hu.cell (p := ⟨b2, o2 + 0 * 11 + 7, none⟩) hb2).trans qc7, (hu.cell (p := ⟨b2, o2 + 0 * 11 + 8, none⟩) hb2).trans qc8, (hu.cell (p := ⟨b2, o2 + 0 * 11 + 9, none⟩) hb2).trans qc9, (hu.cell (p := ⟨b2, o2 + 0 * 11 + 10, none⟩) hb2).trans qc10⟩ : u.cell? ⟨b2, o2, none⟩ = some (.int .i64 z.op) ∧ u.cell? ⟨b2, o2 + 1, none⟩ = some (.slice u0 v0 w0_) ∧ u.cell? ⟨b2, o2 + 2, none⟩ = some (.bool z.sel.dist) ∧ u.cell? ⟨b2, o2 + 3, none⟩ = some (.slice u1 v1 w1_) ∧ u.cell? ⟨b2, o2 + 4, none⟩ = some (.slice u2 v2 w2_) ∧ u.cell? ⟨b2, o2 + 5, none⟩ = some (.slice u3 v3 w3_) ∧ u.cell? ⟨b2, o2 + 6, none⟩ = some (.slice u4 v4 w4_) ∧ u.cell? ⟨b2, o2 + 7, none⟩ = some (.slice u5 v5 w5_) ∧ u.cell? ⟨b2, o2 + 8, none⟩ = some (.slice u6 v6 w6_) ∧ u.cell? ⟨b2, o2 + 9, none⟩ = some (.bool z.lim) ∧ u.cell? ⟨b2, o2 + 10, none⟩ = some (.int .i64 z.n)))
 have e : opx x s = Wr.par z.bd ((y.wr 5 s).put [opT x.op]) := by
  unfold opx opF
  rw [if_neg (by omega), if_neg (by omega), if_neg (by omega), if_neg (by omega), if_neg (by omega), if_neg (by omega), if_neg (by omega), if_neg (by omega), if_pos (by omega), qusWr_map, hq, exsWr_map, hy]
  rfl
 rw [e] at hl ⊢
 have HC3 := hid (fun (oa ob oc : Obj) => ((hc.alloc oa).alloc ob).alloc oc)
 have HB3 := hid (fun (oa ob oc : Obj) => ((hw.alloc hw.size oa).alloc (by have := hw.size; simp; omega) ob).alloc (by have := hw.size; simp; omega) oc)
 have HK3 := hid (fun (oa ob oc : Obj) => (((WK.refl H B w g).alloc oa).alloc ob).alloc oc)
 have HX1 := hid (fun (ob oc : Obj) => (new_els hc (.cells #[.pointer (some ⟨H, 0, none⟩)] 69)).keep (g' := g) (((WK.refl H B _ g).alloc ob).alloc oc))
 have HX2 := hid (fun (oa oc : Obj) => (show Els H B (((w.alloc oa).alloc (.cells #[.int .i64 x.op, .string (str x.tb), .string (str x.nm), .int .i64 x.v.k, .int .i64 x.v.n, .string (str x.v.s), .slice (some ⟨b1, o1, none⟩) 1 z0, .slice (some ⟨b2, o2, none⟩) 1 z1] 40)).alloc oc) g (w.heap.size + 1) (.cells #[.int .i64 x.op, .string (str x.tb), .string (str x.nm), .int .i64 x.v.k, .int .i64 x.v.n, .string (str x.v.s), .slice (some ⟨b1, o1, none⟩) 1 z0, .slice (some ⟨b2, o2, none⟩) 1 z1] 40) from by
  have h := (new_els (hc.alloc oa) (.cells #[.int .i64 x.op, .string (str x.tb), .string (str x.nm), .int .i64 x.v.k, .int .i64 x.v.n, .string (str x.v.s), .slice (some ⟨b1, o1, none⟩) 1 z0, .slice (some ⟨b2, o2, none⟩) 1 z1] 40)).keep (g' := g) ((WK.refl H B _ g).alloc oc)
  rwa [show (w.alloc oa).heap.size = w.heap.size + 1 from by simp] at h))
 have HX3 := hid (fun (oa ob : Obj) => (show Els H B (((w.alloc oa).alloc ob).alloc (.cells #[.string (str (opT x.op)), .int .i64 (opL x.op)] 156)) g (w.heap.size + 2) (.cells #[.string (str (opT x.op)), .int .i64 (opL x.op)] 156) from by
  have h := new_els ((hc.alloc oa).alloc ob) (.cells #[.string (str (opT x.op)), .int .i64 (opL x.op)] 156)
  rwa [show ((w.alloc oa).alloc ob).heap.size = w.heap.size + 2 from by simp] at h))
 obtain ⟨k, hk⟩ : ∃ k : Nat, x.op = (k : Int) := ⟨x.op.toNat, by omega⟩
 have hk30 : k < 30 := by omega
 have tt := (hT.keep hw).ops k hk30
 rw [← hk] at tt
 obtain ⟨t0, t1⟩ := tt
 have t0b : w.cell? ⟨4, k * 2, none⟩ = some (.string (str (opT x.op))) := by rw [Nat.mul_comm]; exact t0
 have t1b : w.cell? ⟨4, k * 2 + 1, none⟩ = some (.int .i64 (opL x.op)) := by rw [Nat.mul_comm]; exact t1
 have hgl := World.block_lt_of_cell? w _ t1
 have f1 : (x.op == (1 : Int)) = false := beq_eq_false_iff_ne.2 (by omega)
 have f2 : (x.op == (2 : Int)) = false := beq_eq_false_iff_ne.2 (by omega)
 have f4 : (x.op == (4 : Int)) = false := beq_eq_false_iff_ne.2 (by omega)
 have f16 : (x.op == (16 : Int)) = false := beq_eq_false_iff_ne.2 (by omega)
 have f19 : (x.op == (19 : Int)) = false := beq_eq_false_iff_ne.2 (by omega)
 have f20 : (x.op == (20 : Int)) = false := beq_eq_false_iff_ne.2 (by omega)
 have f21 : (x.op == (21 : Int)) = false := beq_eq_false_iff_ne.2 (by omega)
 have f22 : (x.op == (22 : Int)) = false := beq_eq_false_iff_ne.2 (by omega)
 have f23 : (x.op == (23 : Int)) = false := beq_eq_false_iff_ne.2 (by omega)
 have f24 : (x.op == (24 : Int)) = false := beq_eq_false_iff_ne.2 (by omega)
 have f25 : (x.op == (25 : Int)) = false := beq_eq_false_iff_ne.2 (by omega)
 have f26 : (x.op == (26 : Int)) = false := beq_eq_false_iff_ne.2 (by omega)
 have f27 : (x.op == (27 : Int)) = false := beq_eq_false_iff_ne.2 (by omega)
 have f28 : (x.op == (28 : Int)) = true := beq_iff_eq.2 hop
 have hm := par_mo hM ((y.wr 5 s).put [opT x.op])
 have hm2 := put_mono (y.wr 5 s) [opT x.op]
 have hrt : Rng (opT x.op) := by rw [hop]; exact rngB rfl
 have elv : opL x.op = 4 := by rw [hop]; rfl
 have HP := hid (fun (g1 : Option Nat) (u : World) (h : WrC u A H B g1 (y.wr 5 s)) => put_one (opT x.op) (str (opT x.op)) rfl h hrt (by omega))
 have HOY := hid (fun (g1 : Option Nat) (u : World) (h : WrC u A H B g1 s) (hu : Below w0.heap.size w0 u) => hO 5 (.agg #[.int .i64 y.op, .string (str y.tb), .string (str y.nm), .int .i64 y.v.k, .int .i64 y.v.n, .string (str y.v.s), .slice r0 s0 q0, .slice r1 s1 q1]) ⟨_, _, rfl, gy0, gy1⟩ A H B g1 _ u hA hu h (by omega))
 have HIN := hid (fun (g1 : Option Nat) (u : World) (h : WrC u A H B g1 ((y.wr 5 s).put [opT x.op])) (hu : Below w0.heap.size w0 u) => hI (.agg #[.int .i64 z.op, .slice u0 v0 w0_, .bool z.sel.dist, .slice u1 v1 w1_, .slice u2 v2 w2_, .slice u3 v3 w3_, .slice u4 v4 w4_, .slice u5 v5 w5_, .slice u6 v6 w6_, .bool z.lim, .int .i64 z.n]) ⟨_, _, _, _, _, _, _, rfl, gq0, gq1, gq2, gq3, gq4, gq5, gq6⟩ A H B g1 _ u hA hu h hl)
 generalize Wr.par z.bd ((y.wr 5 s).put [opT x.op]) = sZ at *
 generalize (y.wr 5 s).put [opT x.op] = sP at *
 generalize y.wr 5 s = sY at *
 have hsz := hw.size
 clear hT hw hc hl h0 h1 e hop hO hI hM hm hm2 hrt hcell1 hd2 hq gq0 gq1 gq2 gq3 gq4 gq5 gq6 qc0 qc1 qc2 qc3 qc4 qc5 qc6 qc7 qc8 qc9 qc10 hcell0 hd1 gy0 gy1 hy pc0 pc1 pc2 pc3 pc4 pc5 pc6 pc7
 generalize opT x.op = tx at *
 generalize opL x.op = lv at *
 generalize x.op = xo at *
 subst hk
 subst elv
 have HE1_0 := hid (show Els H B (((w.alloc (.cells #[.pointer (some ⟨H, 0, none⟩)] 69)).alloc (.cells #[.int .i64 ↑k, .string (str x.tb), .string (str x.nm), .int .i64 x.v.k, .int .i64 x.v.n, .string (str x.v.s), .slice (some ⟨b1, o1, none⟩) 1 z0, .slice (some ⟨b2, o2, none⟩) 1 z1] 40)).alloc (.cells #[.string (str tx), .int .i64 4] 156)) g w.heap.size _ from HX1.out _ _)
 have HE2_0 := hid (show Els H B (((w.alloc (.cells #[.pointer (some ⟨H, 0, none⟩)] 69)).alloc (.cells #[.int .i64 ↑k, .string (str x.tb), .string (str x.nm), .int .i64 x.v.k, .int .i64 x.v.n, .string (str x.v.s), .slice (some ⟨b1, o1, none⟩) 1 z0, .slice (some ⟨b2, o2, none⟩) 1 z1] 40)).alloc (.cells #[.string (str tx), .int .i64 4] 156)) g (w.heap.size + 1) _ from HX2.out _ _)
 have HE3_0 := hid (show Els H B (((w.alloc (.cells #[.pointer (some ⟨H, 0, none⟩)] 69)).alloc (.cells #[.int .i64 ↑k, .string (str x.tb), .string (str x.nm), .int .i64 x.v.k, .int .i64 x.v.n, .string (str x.v.s), .slice (some ⟨b1, o1, none⟩) 1 z0, .slice (some ⟨b2, o2, none⟩) 1 z1] 40)).alloc (.cells #[.string (str tx), .int .i64 4] 156)) g (w.heap.size + 2) _ from HX3.out _ _)
 have HS0 := hid (show WrC (((w.alloc (.cells #[.pointer (some ⟨H, 0, none⟩)] 69)).alloc (.cells #[.int .i64 ↑k, .string (str x.tb), .string (str x.nm), .int .i64 x.v.k, .int .i64 x.v.n, .string (str x.v.s), .slice (some ⟨b1, o1, none⟩) 1 z0, .slice (some ⟨b2, o2, none⟩) 1 z1] 40)).alloc (.cells #[.string (str tx), .int .i64 4] 156)) A H B g s from HC3.out _ _ _)
 have HB0 := hid (show Below w0.heap.size w0 (((w.alloc (.cells #[.pointer (some ⟨H, 0, none⟩)] 69)).alloc (.cells #[.int .i64 ↑k, .string (str x.tb), .string (str x.nm), .int .i64 x.v.k, .int .i64 x.v.n, .string (str x.v.s), .slice (some ⟨b1, o1, none⟩) 1 z0, .slice (some ⟨b2, o2, none⟩) 1 z1] 40)).alloc (.cells #[.string (str tx), .int .i64 4] 156)) from HB3.out _ _ _)
 have HK0 := hid (show WK H B w g (((w.alloc (.cells #[.pointer (some ⟨H, 0, none⟩)] 69)).alloc (.cells #[.int .i64 ↑k, .string (str x.tb), .string (str x.nm), .int .i64 x.v.k, .int .i64 x.v.n, .string (str x.v.s), .slice (some ⟨b1, o1, none⟩) 1 z0, .slice (some ⟨b2, o2, none⟩) 1 z1] 40)).alloc (.cells #[.string (str tx), .int .i64 4] 156)) g from HK3.out _ _ _)
 go_enter Tryz.func110, Tryz.ntmps110
 go_wp2_with fail
 refine wp_region_held_drew (S := fun u => (u.heap[w.heap.size]? = some (.cells #[.pointer (some ⟨H, 0, none⟩)] 69 (0, 0)) ∧ u.heap[w.heap.size + 1]? = some (.cells #[.int .i64 ↑k, .string (str x.tb), .string (str x.nm), .int .i64 x.v.k, .int .i64 x.v.n, .string (str x.v.s), .slice (some ⟨b1, o1, none⟩) 1 z0, .slice (some ⟨b2, o2, none⟩) 1 z1] 40 (0, 0)) ∧ u.heap[w.heap.size + 2]? = some (.cells #[.string (str tx), .int .i64 4] 156 (0, 0)) ∧ Below w0.heap.size w0 u)) (by kernel_rfl) (⟨HE1_0.out.at_, HE2_0.out.at_, HE3_0.out.at_, HB0.out.drew⟩) (fun hHeld => ?_)
 refine tk (i := 0) (oi := ⟨some 117, .load 69 (.tmp 2), 69, "writer.go:108", #[], none⟩) (v := ?_) (Or.inl ⟨by rfl, ?_⟩) ?_
 rotate_left 1
 ·(intro u hSw; obtain ⟨hs1, hs2, hs3, hs4⟩ := hSw; have c0 := cell_at hs1 0 rfl; have d0 := cell_at hs2 0 rfl; have d1 := cell_at hs2 1 rfl; have d2 := cell_at hs2 2 rfl; have d3 := cell_at hs2 3 rfl; have d4 := cell_at hs2 4 rfl; have d5 := cell_at hs2 5 rfl; have d6 := cell_at hs2 6 rfl; have d7 := cell_at hs2 7 rfl; have e0_ := cell_at hs3 0 rfl; have e1_ := cell_at hs3 1 rfl; obtain ⟨rw0, rw1, rw2, rw3, rw4, rw5, rw6, rw7⟩ := HROW.out u hs4; have hbu : b1 < u.heap.size := (by have := hs4.size; omega); go_simp; try with_reducible rfl)
 try simp only [Act.put, sA, sB, sC]
 refine tk (i := 1) (oi := ⟨some 118, .fieldAddr 40 (.tmp 3) 4, 0, "writer.go:108", #[], none⟩) (v := ?_) (Or.inl ⟨by rfl, ?_⟩) ?_
 rotate_left 1
 ·(intro u hSw; go_simp; try with_reducible rfl)
 try simp only [Act.put, sA, sB, sC]
 refine tk (i := 2) (oi := ⟨some 119, .load 25 (.tmp 118), 25, "writer.go:108", #[⟨1, .data⟩], none⟩) (v := ?_) (Or.inl ⟨by rfl, ?_⟩) ?_
 rotate_left 1
 ·(intro u hSw; obtain ⟨hs1, hs2, hs3, hs4⟩ := hSw; have c0 := cell_at hs1 0 rfl; have d0 := cell_at hs2 0 rfl; have d1 := cell_at hs2 1 rfl; have d2 := cell_at hs2 2 rfl; have d3 := cell_at hs2 3 rfl; have d4 := cell_at hs2 4 rfl; have d5 := cell_at hs2 5 rfl; have d6 := cell_at hs2 6 rfl; have d7 := cell_at hs2 7 rfl; have e0_ := cell_at hs3 0 rfl; have e1_ := cell_at hs3 1 rfl; obtain ⟨rw0, rw1, rw2, rw3, rw4, rw5, rw6, rw7⟩ := HROW.out u hs4; have hbu : b1 < u.heap.size := (by have := hs4.size; omega); go_simp; try with_reducible rfl)
 try simp only [Act.put, sA, sB, sC]
 refine tk (i := 3) (oi := ⟨some 120, .indexAddr 25 (.tmp 119) (.const (Value.int IntKind.i64 0)), 0, "writer.go:108", #[⟨2, .data⟩], none⟩) (v := ?_) (Or.inl ⟨by rfl, ?_⟩) ?_
 rotate_left 1
 ·(intro u hSw; go_simp; try with_reducible rfl)
 try simp only [Act.put, sA, sB, sC]
 refine tk (i := 4) (oi := ⟨some 121, .load 40 (.tmp 120), 40, "writer.go:108", #[⟨3, .data⟩], none⟩) (v := ?_) (Or.inl ⟨by rfl, ?_⟩) ?_
 rotate_left 1
 ·(intro u hSw; obtain ⟨hs1, hs2, hs3, hs4⟩ := hSw; have c0 := cell_at hs1 0 rfl; have d0 := cell_at hs2 0 rfl; have d1 := cell_at hs2 1 rfl; have d2 := cell_at hs2 2 rfl; have d3 := cell_at hs2 3 rfl; have d4 := cell_at hs2 4 rfl; have d5 := cell_at hs2 5 rfl; have d6 := cell_at hs2 6 rfl; have d7 := cell_at hs2 7 rfl; have e0_ := cell_at hs3 0 rfl; have e1_ := cell_at hs3 1 rfl; obtain ⟨rw0, rw1, rw2, rw3, rw4, rw5, rw6, rw7⟩ := HROW.out u hs4; have hbu : b1 < u.heap.size := (by have := hs4.size; omega); go_simp; try with_reducible rfl)
 try simp only [Act.put, sA, sB, sC]
 refine tk (i := 5) (oi := ⟨some 122, .fieldAddr 156 (.tmp 4) 1, 0, "writer.go:108", #[], none⟩) (v := ?_) (Or.inl ⟨by rfl, ?_⟩) ?_
 rotate_left 1
 ·(intro u hSw; go_simp; try with_reducible rfl)
 try simp only [Act.put, sA, sB, sC]
 refine tk (i := 6) (oi := ⟨some 123, .load 3 (.tmp 122), 3, "writer.go:108", #[⟨5, .data⟩], none⟩) (v := ?_) (Or.inl ⟨by rfl, ?_⟩) ?_
 rotate_left 1
 ·(intro u hSw; obtain ⟨hs1, hs2, hs3, hs4⟩ := hSw; have c0 := cell_at hs1 0 rfl; have d0 := cell_at hs2 0 rfl; have d1 := cell_at hs2 1 rfl; have d2 := cell_at hs2 2 rfl; have d3 := cell_at hs2 3 rfl; have d4 := cell_at hs2 4 rfl; have d5 := cell_at hs2 5 rfl; have d6 := cell_at hs2 6 rfl; have d7 := cell_at hs2 7 rfl; have e0_ := cell_at hs3 0 rfl; have e1_ := cell_at hs3 1 rfl; obtain ⟨rw0, rw1, rw2, rw3, rw4, rw5, rw6, rw7⟩ := HROW.out u hs4; have hbu : b1 < u.heap.size := (by have := hs4.size; omega); go_simp; try with_reducible rfl)
 try simp only [Act.put, sA, sB, sC]
 refine tk (i := 7) (oi := ⟨some 124, .binOp BinOp.add 3 (.tmp 123) (.const (Value.int IntKind.i64 1)) 3, 3, "writer.go:108", #[⟨6, .data⟩], none⟩) (v := ?_) (Or.inl ⟨by rfl, ?_⟩) ?_
 rotate_left 1
 ·(intro u hSw; go_simp; try with_reducible rfl)
 try simp only [Act.put, sA, sB, sC]
 refine wpAnyH_ready (rs := [8]) (by kernel_rfl) (by simp) ?_
 refine AllReadyH.cons (o := ⟨some 125, .call ⟨.value (.func 95), #[.tmp 117, .tmp 121, .tmp 124], #[69, 40, 3]⟩, 0, "writer.go:108", #[⟨0, .data⟩, ⟨4, .data⟩, ⟨7, .data⟩], none⟩) rfl (fun K hK => ?_) AllReadyH.nil
 go_simp
 go_at_call 95
 refine (HOY.out _ _ (show WrC (((w.alloc (.cells #[.pointer (some ⟨H, 0, none⟩)] 69)).alloc (.cells #[.int .i64 ↑k, .string (str x.tb), .string (str x.nm), .int .i64 x.v.k, .int .i64 x.v.n, .string (str x.v.s), .slice (some ⟨b1, o1, none⟩) 1 z0, .slice (some ⟨b2, o2, none⟩) 1 z1] 40)).alloc (.cells #[.string (str tx), .int .i64 4] 156)).drew A H B g _ from HS0.out.fresh (Below.refl _ _).drew) HB0.out.drew).mono ?_
 rintro e w1 ⟨rfl, g1, hc2, hk2⟩
 go_wp2_with fail
 have HE1_1 := hid ((show Els H B (((w.alloc (.cells #[.pointer (some ⟨H, 0, none⟩)] 69)).alloc (.cells #[.int .i64 ↑k, .string (str x.tb), .string (str x.nm), .int .i64 x.v.k, .int .i64 x.v.n, .string (str x.v.s), .slice (some ⟨b1, o1, none⟩) 1 z0, .slice (some ⟨b2, o2, none⟩) 1 z1] 40)).alloc (.cells #[.string (str tx), .int .i64 4] 156)).drew g _ _ from ⟨HE1_0.out.at_, HE1_0.out.nh, HE1_0.out.nb, HE1_0.out.ng⟩).keep hk2)
 have HE2_1 := hid ((show Els H B (((w.alloc (.cells #[.pointer (some ⟨H, 0, none⟩)] 69)).alloc (.cells #[.int .i64 ↑k, .string (str x.tb), .string (str x.nm), .int .i64 x.v.k, .int .i64 x.v.n, .string (str x.v.s), .slice (some ⟨b1, o1, none⟩) 1 z0, .slice (some ⟨b2, o2, none⟩) 1 z1] 40)).alloc (.cells #[.string (str tx), .int .i64 4] 156)).drew g _ _ from ⟨HE2_0.out.at_, HE2_0.out.nh, HE2_0.out.nb, HE2_0.out.ng⟩).keep hk2)
 have HE3_1 := hid ((show Els H B (((w.alloc (.cells #[.pointer (some ⟨H, 0, none⟩)] 69)).alloc (.cells #[.int .i64 ↑k, .string (str x.tb), .string (str x.nm), .int .i64 x.v.k, .int .i64 x.v.n, .string (str x.v.s), .slice (some ⟨b1, o1, none⟩) 1 z0, .slice (some ⟨b2, o2, none⟩) 1 z1] 40)).alloc (.cells #[.string (str tx), .int .i64 4] 156)).drew g _ _ from ⟨HE3_0.out.at_, HE3_0.out.nh, HE3_0.out.nb, HE3_0.out.ng⟩).keep hk2)
 have HB1 := hid (hk2.low (show WrC (((w.alloc (.cells #[.pointer (some ⟨H, 0, none⟩)] 69)).alloc (.cells #[.int .i64 ↑k, .string (str x.tb), .string (str x.nm), .int .i64 x.v.k, .int .i64 x.v.n, .string (str x.v.s), .slice (some ⟨b1, o1, none⟩) 1 z0, .slice (some ⟨b2, o2, none⟩) 1 z1] 40)).alloc (.cells #[.string (str tx), .int .i64 4] 156)).drew A H B g _ from HS0.out.fresh (Below.refl _ _).drew) hA HB0.out.drew)
 have HK1 := hid ((HK0.out.trans (WK.fresh (Below.refl _ _).drew)).trans hk2)
 have HS1 := hid hc2
 clear hc2 hk2
 refine hK.out _ _ ⟨HE1_1.out.at_, HE2_1.out.at_, HE3_1.out.at_, HB1.out⟩ (fun _ => ?_)
 clear hK K
 try simp only [Act.put, sA, sB, sC]
 refine wpAnyH_done (by kernel_rfl) ?_ _
 have c0 := cell_at HE1_1.out.at_ 0 rfl
 have t0_ := cell_at HE3_1.out.at_ 0 rfl
 go_wp2_with (go_at_call 47; refine (HP.out _ _ HS1.out).mono ?_; clear HP; rintro e w2 ⟨rfl, g2, hc2, hk⟩; have HE1_2 := hid (HE1_1.out.keep hk); have HE2_2 := hid (HE2_1.out.keep hk); have HE3_2 := hid (HE3_1.out.keep hk); have HS2 := hid hc2; have HB2 := hid (hk.low HS1.out hA HB1.out); have HK2 := hid (HK1.out.trans hk); clear hc2 hk)
 refine wp_region_held_drew (S := fun u => (u.heap[w.heap.size]? = some (.cells #[.pointer (some ⟨H, 0, none⟩)] 69 (0, 0)) ∧ u.heap[w.heap.size + 1]? = some (.cells #[.int .i64 ↑k, .string (str x.tb), .string (str x.nm), .int .i64 x.v.k, .int .i64 x.v.n, .string (str x.v.s), .slice (some ⟨b1, o1, none⟩) 1 z0, .slice (some ⟨b2, o2, none⟩) 1 z1] 40 (0, 0)) ∧ u.heap[w.heap.size + 2]? = some (.cells #[.string (str tx), .int .i64 4] 156 (0, 0)) ∧ Below w0.heap.size w0 u)) (by kernel_rfl) (⟨HE1_2.out.at_, HE2_2.out.at_, HE3_2.out.at_, HB2.out.drew⟩) (fun hHeld => ?_)
 refine tk (i := 0) (oi := ⟨some 131, .load 69 (.tmp 2), 69, "writer.go:110", #[], none⟩) (v := ?_) (Or.inl ⟨by rfl, ?_⟩) ?_
 rotate_left 1
 ·(intro u hSw; obtain ⟨hs1, hs2, hs3, hs4⟩ := hSw; have c0 := cell_at hs1 0 rfl; have d0 := cell_at hs2 0 rfl; have d1 := cell_at hs2 1 rfl; have d2 := cell_at hs2 2 rfl; have d3 := cell_at hs2 3 rfl; have d4 := cell_at hs2 4 rfl; have d5 := cell_at hs2 5 rfl; have d6 := cell_at hs2 6 rfl; have d7 := cell_at hs2 7 rfl; have e0_ := cell_at hs3 0 rfl; have e1_ := cell_at hs3 1 rfl; obtain ⟨qw0, qw1, qw2, qw3, qw4, qw5, qw6, qw7, qw8, qw9, qw10⟩ := HQOW.out u hs4; have hbu2 : b2 < u.heap.size := (by have := hs4.size; omega); go_simp; try with_reducible rfl)
 try simp only [Act.put, sA, sB, sC]
 refine tk (i := 1) (oi := ⟨some 132, .fieldAddr 40 (.tmp 3) 5, 0, "writer.go:110", #[], none⟩) (v := ?_) (Or.inl ⟨by rfl, ?_⟩) ?_
 rotate_left 1
 ·(intro u hSw; go_simp; try with_reducible rfl)
 try simp only [Act.put, sA, sB, sC]
 refine tk (i := 2) (oi := ⟨some 133, .load 22 (.tmp 132), 22, "writer.go:110", #[⟨1, .data⟩], none⟩) (v := ?_) (Or.inl ⟨by rfl, ?_⟩) ?_
 rotate_left 1
 ·(intro u hSw; obtain ⟨hs1, hs2, hs3, hs4⟩ := hSw; have c0 := cell_at hs1 0 rfl; have d0 := cell_at hs2 0 rfl; have d1 := cell_at hs2 1 rfl; have d2 := cell_at hs2 2 rfl; have d3 := cell_at hs2 3 rfl; have d4 := cell_at hs2 4 rfl; have d5 := cell_at hs2 5 rfl; have d6 := cell_at hs2 6 rfl; have d7 := cell_at hs2 7 rfl; have e0_ := cell_at hs3 0 rfl; have e1_ := cell_at hs3 1 rfl; obtain ⟨qw0, qw1, qw2, qw3, qw4, qw5, qw6, qw7, qw8, qw9, qw10⟩ := HQOW.out u hs4; have hbu2 : b2 < u.heap.size := (by have := hs4.size; omega); go_simp; try with_reducible rfl)
 try simp only [Act.put, sA, sB, sC]
 refine tk (i := 3) (oi := ⟨some 134, .indexAddr 22 (.tmp 133) (.const (Value.int IntKind.i64 0)), 0, "writer.go:110", #[⟨2, .data⟩], none⟩) (v := ?_) (Or.inl ⟨by rfl, ?_⟩) ?_
 rotate_left 1
 ·(intro u hSw; go_simp; try with_reducible rfl)
 try simp only [Act.put, sA, sB, sC]
 refine tk (i := 4) (oi := ⟨some 135, .load 30 (.tmp 134), 30, "writer.go:110", #[⟨3, .data⟩], none⟩) (v := ?_) (Or.inl ⟨by rfl, ?_⟩) ?_
 rotate_left 1
 ·(intro u hSw; obtain ⟨hs1, hs2, hs3, hs4⟩ := hSw; have c0 := cell_at hs1 0 rfl; have d0 := cell_at hs2 0 rfl; have d1 := cell_at hs2 1 rfl; have d2 := cell_at hs2 2 rfl; have d3 := cell_at hs2 3 rfl; have d4 := cell_at hs2 4 rfl; have d5 := cell_at hs2 5 rfl; have d6 := cell_at hs2 6 rfl; have d7 := cell_at hs2 7 rfl; have e0_ := cell_at hs3 0 rfl; have e1_ := cell_at hs3 1 rfl; obtain ⟨qw0, qw1, qw2, qw3, qw4, qw5, qw6, qw7, qw8, qw9, qw10⟩ := HQOW.out u hs4; have hbu2 : b2 < u.heap.size := (by have := hs4.size; omega); go_simp; try with_reducible rfl)
 try simp only [Act.put, sA, sB, sC]
 refine wpAnyH_ready (rs := [5]) (by kernel_rfl) (by simp) ?_
 refine AllReadyH.cons (o := ⟨some 136, .call ⟨.value (.func 94), #[.tmp 131, .tmp 135], #[69, 30]⟩, 0, "writer.go:110", #[⟨0, .data⟩, ⟨4, .data⟩], none⟩) rfl (fun K hK => ?_) AllReadyH.nil
 go_simp
 go_at_call 94
 refine (HIN.out _ _ (show WrC w2.drew A H B g2 _ from HS2.out.fresh (Below.refl _ _).drew) HB2.out.drew).mono ?_
 rintro e w3 ⟨rfl, g3, hc2, hk2⟩
 go_wp2_with fail
 have HE1_3 := hid ((show Els H B w2.drew g2 _ _ from ⟨HE1_2.out.at_, HE1_2.out.nh, HE1_2.out.nb, HE1_2.out.ng⟩).keep hk2)
 have HE2_3 := hid ((show Els H B w2.drew g2 _ _ from ⟨HE2_2.out.at_, HE2_2.out.nh, HE2_2.out.nb, HE2_2.out.ng⟩).keep hk2)
 have HE3_3 := hid ((show Els H B w2.drew g2 _ _ from ⟨HE3_2.out.at_, HE3_2.out.nh, HE3_2.out.nb, HE3_2.out.ng⟩).keep hk2)
 have HB3 := hid (hk2.low (show WrC w2.drew A H B g2 _ from HS2.out.fresh (Below.refl _ _).drew) hA HB2.out.drew)
 have HK3 := hid ((HK2.out.trans (WK.fresh (Below.refl _ _).drew)).trans hk2)
 have HS3 := hid hc2
 clear hc2 hk2
 refine hK.out _ _ ⟨HE1_3.out.at_, HE2_3.out.at_, HE3_3.out.at_, HB3.out⟩ (fun _ => ?_)
 clear hK K
 try simp only [Act.put, sA, sB, sC]
 refine wpAnyH_done (by kernel_rfl) ?_ _
 go_wp2_with fail
 refine bodyPost_ret (results_none rfl _ _ _) rfl ?_
 exact ⟨rfl, g3, HS3.out, HK3.out⟩
set_option maxRecDepth 100000 in
set_option maxHeartbeats 6400000 in
theorem opn_29 {w0 : World} {x : Ex} (hT : Tabs w0)   {y : Ex} (hy : x.args = [y]) (hO : ∀ (l : Int) (b : Value), ExV w0 b y → W2 w0 95 b (.int .i64 l) (y.wr l)) {z : Qu} (hq : x.qs = [z]) (hI : ∀ b, QuV w0 b z → W1 w0 94 b (Wr.par z.bd)) (hM : Mo z.bd) (hop : x.op = 29) (a : Value) (ha : ExV w0 a x) : W1 w0 110 a (opx x) := by
 intro A H B g s w hA hw hc hl
 obtain ⟨p0, p1, rfl, h0, h1⟩ := ha
 obtain ⟨e0, z0, rfl, -, hcell0⟩ := exs_rows h0
 have hlen : x.args.length = 1 := by rw [hy]; rfl
 generalize x.args.length = m0 at *
 subst hlen
 obtain ⟨b1, o1, rfl, hb1, hd1⟩ := hcell0 (by omega)
 obtain ⟨sy0, sy1, pc0, pc1, pc2, pc3, pc4, pc5, pc6, pc7, gy0, gy1⟩ := hd1 0 y (by rw [hy]; rfl)
 obtain ⟨r0, s0, q0, rfl⟩ := dis_slice gy0
 obtain ⟨r1, s1, q1, rfl⟩ := dis_slice gy1
 have HROW := hid (fun (u : World) (hu : Below w0.heap.size w0 u) => (⟨(hu.cell (p := ⟨b1, o1 + 0 * 8, none⟩) hb1).trans pc0, (hu.cell (p := ⟨b1, o1 + 0 * 8 + 1, none⟩) hb1).trans pc1, (hu.cell (p := ⟨b1, o1 + 0 * 8 + 2, none⟩) hb1).trans pc2, (hu.cell (p := ⟨b1, o1 + 0 * 8 + 3, none⟩) hb1).trans pc3, (hu.cell (p := ⟨b1, o1 + 0 * 8 + 4, none⟩) hb1).trans pc4, (hu.cell (p := ⟨b1, o1 + 0 * 8 + 5, none⟩) hb1).trans pc5, (hu.cell (p := ⟨b1, o1 + 0 * 8 + 6, none⟩) hb1).trans pc6, (hu.cell (p := ⟨b1, o1 + 0 * 8 + 7, none⟩) hb1).trans pc7⟩ : u.cell? ⟨b1, o1, none⟩ = some (.int .i64 y.op) ∧ u.cell? ⟨b1, o1 + 1, none⟩ = some (.string (str y.tb)) ∧ u.cell? ⟨b1, o1 + 2, none⟩ = some (.string (str y.nm)) ∧ u.cell? ⟨b1, o1 + 3, none⟩ = some (.int .i64 y.v.k) ∧ u.cell? ⟨b1, o1 + 4, none⟩ = some (.int .i64 y.v.n) ∧ u.cell? ⟨b1, o1 + 5, none⟩ = some (.string (str y.v.s)) ∧ u.cell? ⟨b1, o1 + 6, none⟩ = some (.slice r0 s0 q0) ∧ u.cell? ⟨b1, o1 + 7, none⟩ = some (.slice r1 s1 q1)))
 obtain ⟨e1, z1, rfl, -, hcell1⟩ := qus_rows h1
 have hlen1 : x.qs.length = 1 := by rw [hq]; rfl
 generalize x.qs.length = m1 at *
 subst hlen1
 obtain ⟨b2, o2, rfl, hb2, hd2⟩ := hcell1 (by omega)
 obtain ⟨sq0, sq1, sq2, sq3, sq4, sq5, sq6, qc0, qc1, qc2, qc3, qc4, qc5, qc6, qc7, qc8, qc9, qc10, gq0, gq1, gq2, gq3, gq4, gq5, gq6⟩ := hd2 0 z (by rw [hq]; rfl)
 obtain ⟨u0, v0, w0_, rfl⟩ := dis_slice gq0
 obtain ⟨u1, v1, w1_, rfl⟩ := dis_slice gq1
 obtain ⟨u2, v2, w2_, rfl⟩ := dis_slice gq2
 obtain ⟨u3, v3, w3_, rfl⟩ := dis_slice gq3
 obtain ⟨u4, v4, w4_, rfl⟩ := dis_slice gq4
 obtain ⟨u5, v5, w5_, rfl⟩ := dis_slice gq5
 obtain ⟨u6, v6, w6_, rfl⟩ := dis_slice gq6
 have HQOW := hid (fun (u : World) (hu : Below w0.heap.size w0 u) => (⟨(hu.cell (p := ⟨b2, o2 + 0 * 11, none⟩) hb2).trans qc0, (hu.cell (p := ⟨b2, o2 + 0 * 11 + 1, none⟩) hb2).trans qc1, (hu.cell (p := ⟨b2, o2 + 0 * 11 + 2, none⟩) hb2).trans qc2, (hu.cell (p := ⟨b2, o2 + 0 * 11 + 3, none⟩) hb2).trans qc3, (hu.cell (p := ⟨b2, o2 + 0 * 11 + 4, none⟩) hb2).trans qc4, (hu.cell (p := ⟨b2, o2 + 0 * 11 + 5, none⟩) hb2).trans qc5, (hu.cell (p := ⟨b2, o2 + 0 * 11 + 6, none⟩) hb2).trans qc6, (hu.cell (p := ⟨b2, o2 + 0 * 11 + 7, none⟩) hb2).trans qc7, (hu.cell (p := ⟨b2, o2 + 0 * 11 + 8, none⟩) hb2).trans qc8, (hu.cell (p := ⟨b2, o2 + 0 * 11 + 9, none⟩) hb2).trans qc9, (hu.cell (p := ⟨b2, o2 + 0 * 11 + 10, none⟩) hb2).trans qc10⟩ : u.cell? ⟨b2, o2, none⟩ = some (.int .i64 z.op) ∧ u.cell? ⟨b2, o2 + 1, none⟩ = some (.slice u0 v0 w0_) ∧ u.cell? ⟨b2, o2 + 2, none⟩ = some (.bool z.sel.dist) ∧ u.cell? ⟨b2, o2 + 3, none⟩ = some (.slice u1 v1 w1_) ∧ u.cell? ⟨b2, o2 + 4, none⟩ = some (.slice u2 v2 w2_) ∧ u.cell? ⟨b2, o2 + 5, none⟩ = some (.slice u3 v3 w3_) ∧ u.cell? ⟨b2, o2 + 6, none⟩ = some (.slice u4 v4 w4_) ∧ u.cell? ⟨b2, o2 + 7, none⟩ = some (.slice u5 v5 w5_) ∧ u.cell? ⟨b2, o2 + 8, none⟩ = some (.slice u6 v6 w6_) ∧ u.cell? ⟨b2, o2 + 9, none⟩ = some (.bool z.lim) ∧ u.cell? ⟨b2, o2 + 10, none⟩ = some (.int .i64 z.n)))
 have e : opx x s = Wr.par z.bd ((y.wr 5 s).put [opT x.op]) := by
  unfold opx opF
  rw [if_neg (by omega), if_neg (by omega), if_neg (by omega), if_neg (by omega), if_neg (by omega), if_neg (by omega), if_neg (by omega), if_neg (by omega), if_pos (by omega), qusWr_map, hq, exsWr_map, hy]
  rfl
 rw [e] at hl ⊢
 have HC3 := hid (fun (oa ob oc : Obj) => ((hc.alloc oa).alloc ob).alloc oc)
 have HB3 := hid (fun (oa ob oc : Obj) => ((hw.alloc hw.size oa).alloc (by have := hw.size; simp; omega) ob).alloc (by have := hw.size; simp; omega) oc)
 have HK3 := hid (fun (oa ob oc : Obj) => (((WK.refl H B w g).alloc oa).alloc ob).alloc oc)
 have HX1 := hid (fun (ob oc : Obj) => (new_els hc (.cells #[.pointer (some ⟨H, 0, none⟩)] 69)).keep (g' := g) (((WK.refl H B _ g).alloc ob).alloc oc))
 have HX2 := hid (fun (oa oc : Obj) => (show Els H B (((w.alloc oa).alloc (.cells #[.int .i64 x.op, .string (str x.tb), .string (str x.nm), .int .i64 x.v.k, .int .i64 x.v.n, .string (str x.v.s), .slice (some ⟨b1, o1, none⟩) 1 z0, .slice (some ⟨b2, o2, none⟩) 1 z1] 40)).alloc oc) g (w.heap.size + 1) (.cells #[.int .i64 x.op, .string (str x.tb), .string (str x.nm), .int .i64 x.v.k, .int .i64 x.v.n, .string (str x.v.s), .slice (some ⟨b1, o1, none⟩) 1 z0, .slice (some ⟨b2, o2, none⟩) 1 z1] 40) from by
  have h := (new_els (hc.alloc oa) (.cells #[.int .i64 x.op, .string (str x.tb), .string (str x.nm), .int .i64 x.v.k, .int .i64 x.v.n, .string (str x.v.s), .slice (some ⟨b1, o1, none⟩) 1 z0, .slice (some ⟨b2, o2, none⟩) 1 z1] 40)).keep (g' := g) ((WK.refl H B _ g).alloc oc)
  rwa [show (w.alloc oa).heap.size = w.heap.size + 1 from by simp] at h))
 have HX3 := hid (fun (oa ob : Obj) => (show Els H B (((w.alloc oa).alloc ob).alloc (.cells #[.string (str (opT x.op)), .int .i64 (opL x.op)] 156)) g (w.heap.size + 2) (.cells #[.string (str (opT x.op)), .int .i64 (opL x.op)] 156) from by
  have h := new_els ((hc.alloc oa).alloc ob) (.cells #[.string (str (opT x.op)), .int .i64 (opL x.op)] 156)
  rwa [show ((w.alloc oa).alloc ob).heap.size = w.heap.size + 2 from by simp] at h))
 obtain ⟨k, hk⟩ : ∃ k : Nat, x.op = (k : Int) := ⟨x.op.toNat, by omega⟩
 have hk30 : k < 30 := by omega
 have tt := (hT.keep hw).ops k hk30
 rw [← hk] at tt
 obtain ⟨t0, t1⟩ := tt
 have t0b : w.cell? ⟨4, k * 2, none⟩ = some (.string (str (opT x.op))) := by rw [Nat.mul_comm]; exact t0
 have t1b : w.cell? ⟨4, k * 2 + 1, none⟩ = some (.int .i64 (opL x.op)) := by rw [Nat.mul_comm]; exact t1
 have hgl := World.block_lt_of_cell? w _ t1
 have f1 : (x.op == (1 : Int)) = false := beq_eq_false_iff_ne.2 (by omega)
 have f2 : (x.op == (2 : Int)) = false := beq_eq_false_iff_ne.2 (by omega)
 have f4 : (x.op == (4 : Int)) = false := beq_eq_false_iff_ne.2 (by omega)
 have f16 : (x.op == (16 : Int)) = false := beq_eq_false_iff_ne.2 (by omega)
 have f19 : (x.op == (19 : Int)) = false := beq_eq_false_iff_ne.2 (by omega)
 have f20 : (x.op == (20 : Int)) = false := beq_eq_false_iff_ne.2 (by omega)
 have f21 : (x.op == (21 : Int)) = false := beq_eq_false_iff_ne.2 (by omega)
 have f22 : (x.op == (22 : Int)) = false := beq_eq_false_iff_ne.2 (by omega)
 have f23 : (x.op == (23 : Int)) = false := beq_eq_false_iff_ne.2 (by omega)
 have f24 : (x.op == (24 : Int)) = false := beq_eq_false_iff_ne.2 (by omega)
 have f25 : (x.op == (25 : Int)) = false := beq_eq_false_iff_ne.2 (by omega)
 have f26 : (x.op == (26 : Int)) = false := beq_eq_false_iff_ne.2 (by omega)
 have f27 : (x.op == (27 : Int)) = false := beq_eq_false_iff_ne.2 (by omega)
 have f28 : (x.op == (28 : Int)) = false := beq_eq_false_iff_ne.2 (by omega)
 have f29 : (x.op == (29 : Int)) = true := beq_iff_eq.2 hop
 have hm := par_mo hM ((y.wr 5 s).put [opT x.op])
 have hm2 := put_mono (y.wr 5 s) [opT x.op]
 have hrt : Rng (opT x.op) := by rw [hop]; exact rngB rfl
 have elv : opL x.op = 4 := by rw [hop]; rfl
 have HP := hid (fun (g1 : Option Nat) (u : World) (h : WrC u A H B g1 (y.wr 5 s)) => put_one (opT x.op) (str (opT x.op)) rfl h hrt (by omega))
 have HOY := hid (fun (g1 : Option Nat) (u : World) (h : WrC u A H B g1 s) (hu : Below w0.heap.size w0 u) => hO 5 (.agg #[.int .i64 y.op, .string (str y.tb), .string (str y.nm), .int .i64 y.v.k, .int .i64 y.v.n, .string (str y.v.s), .slice r0 s0 q0, .slice r1 s1 q1]) ⟨_, _, rfl, gy0, gy1⟩ A H B g1 _ u hA hu h (by omega))
 have HIN := hid (fun (g1 : Option Nat) (u : World) (h : WrC u A H B g1 ((y.wr 5 s).put [opT x.op])) (hu : Below w0.heap.size w0 u) => hI (.agg #[.int .i64 z.op, .slice u0 v0 w0_, .bool z.sel.dist, .slice u1 v1 w1_, .slice u2 v2 w2_, .slice u3 v3 w3_, .slice u4 v4 w4_, .slice u5 v5 w5_, .slice u6 v6 w6_, .bool z.lim, .int .i64 z.n]) ⟨_, _, _, _, _, _, _, rfl, gq0, gq1, gq2, gq3, gq4, gq5, gq6⟩ A H B g1 _ u hA hu h hl)
 generalize Wr.par z.bd ((y.wr 5 s).put [opT x.op]) = sZ at *
 generalize (y.wr 5 s).put [opT x.op] = sP at *
 generalize y.wr 5 s = sY at *
 have hsz := hw.size
 clear hT hw hc hl h0 h1 e hop hO hI hM hm hm2 hrt hcell1 hd2 hq gq0 gq1 gq2 gq3 gq4 gq5 gq6 qc0 qc1 qc2 qc3 qc4 qc5 qc6 qc7 qc8 qc9 qc10 hcell0 hd1 gy0 gy1 hy pc0 pc1 pc2 pc3 pc4 pc5 pc6 pc7
 generalize opT x.op = tx at *
 generalize opL x.op = lv at *
 generalize x.op = xo at *
 subst hk
 subst elv
 have HE1_0 := hid (show Els H B (((w.alloc (.cells #[.pointer (some ⟨H, 0, none⟩)] 69)).alloc (.cells #[.int .i64 ↑k, .string (str x.tb), .string (str x.nm), .int .i64 x.v.k, .int .i64 x.v.n, .string (str x.v.s), .slice (some ⟨b1, o1, none⟩) 1 z0, .slice (some ⟨b2, o2, none⟩) 1 z1] 40)).alloc (.cells #[.string (str tx), .int .i64 4] 156)) g w.heap.size _ from HX1.out _ _)
 have HE2_0 := hid (show Els H B (((w.alloc (.cells #[.pointer (some ⟨H, 0, none⟩)] 69)).alloc (.cells #[.int .i64 ↑k, .string (str x.tb), .string (str x.nm), .int .i64 x.v.k, .int .i64 x.v.n, .string (str x.v.s), .slice (some ⟨b1, o1, none⟩) 1 z0, .slice (some ⟨b2, o2, none⟩) 1 z1] 40)).alloc (.cells #[.string (str tx), .int .i64 4] 156)) g (w.heap.size + 1) _ from HX2.out _ _)
 have HE3_0 := hid (show Els H B (((w.alloc (.cells #[.pointer (some ⟨H, 0, none⟩)] 69)).alloc (.cells #[.int .i64 ↑k, .string (str x.tb), .string (str x.nm), .int .i64 x.v.k, .int .i64 x.v.n, .string (str x.v.s), .slice (some ⟨b1, o1, none⟩) 1 z0, .slice (some ⟨b2, o2, none⟩) 1 z1] 40)).alloc (.cells #[.string (str tx), .int .i64 4] 156)) g (w.heap.size + 2) _ from HX3.out _ _)
 have HS0 := hid (show WrC (((w.alloc (.cells #[.pointer (some ⟨H, 0, none⟩)] 69)).alloc (.cells #[.int .i64 ↑k, .string (str x.tb), .string (str x.nm), .int .i64 x.v.k, .int .i64 x.v.n, .string (str x.v.s), .slice (some ⟨b1, o1, none⟩) 1 z0, .slice (some ⟨b2, o2, none⟩) 1 z1] 40)).alloc (.cells #[.string (str tx), .int .i64 4] 156)) A H B g s from HC3.out _ _ _)
 have HB0 := hid (show Below w0.heap.size w0 (((w.alloc (.cells #[.pointer (some ⟨H, 0, none⟩)] 69)).alloc (.cells #[.int .i64 ↑k, .string (str x.tb), .string (str x.nm), .int .i64 x.v.k, .int .i64 x.v.n, .string (str x.v.s), .slice (some ⟨b1, o1, none⟩) 1 z0, .slice (some ⟨b2, o2, none⟩) 1 z1] 40)).alloc (.cells #[.string (str tx), .int .i64 4] 156)) from HB3.out _ _ _)
 have HK0 := hid (show WK H B w g (((w.alloc (.cells #[.pointer (some ⟨H, 0, none⟩)] 69)).alloc (.cells #[.int .i64 ↑k, .string (str x.tb), .string (str x.nm), .int .i64 x.v.k, .int .i64 x.v.n, .string (str x.v.s), .slice (some ⟨b1, o1, none⟩) 1 z0, .slice (some ⟨b2, o2, none⟩) 1 z1] 40)).alloc (.cells #[.string (str tx), .int .i64 4] 156)) g from HK3.out _ _ _)
 go_enter Tryz.func110, Tryz.ntmps110
 go_wp2_with fail
 refine wp_region_held_drew (S := fun u => (u.heap[w.heap.size]? = some (.cells #[.pointer (some ⟨H, 0, none⟩)] 69 (0, 0)) ∧ u.heap[w.heap.size + 1]? = some (.cells #[.int .i64 ↑k, .string (str x.tb), .string (str x.nm), .int .i64 x.v.k, .int .i64 x.v.n, .string (str x.v.s), .slice (some ⟨b1, o1, none⟩) 1 z0, .slice (some ⟨b2, o2, none⟩) 1 z1] 40 (0, 0)) ∧ u.heap[w.heap.size + 2]? = some (.cells #[.string (str tx), .int .i64 4] 156 (0, 0)) ∧ Below w0.heap.size w0 u)) (by kernel_rfl) (⟨HE1_0.out.at_, HE2_0.out.at_, HE3_0.out.at_, HB0.out.drew⟩) (fun hHeld => ?_)
 refine tk (i := 0) (oi := ⟨some 117, .load 69 (.tmp 2), 69, "writer.go:108", #[], none⟩) (v := ?_) (Or.inl ⟨by rfl, ?_⟩) ?_
 rotate_left 1
 ·(intro u hSw; obtain ⟨hs1, hs2, hs3, hs4⟩ := hSw; have c0 := cell_at hs1 0 rfl; have d0 := cell_at hs2 0 rfl; have d1 := cell_at hs2 1 rfl; have d2 := cell_at hs2 2 rfl; have d3 := cell_at hs2 3 rfl; have d4 := cell_at hs2 4 rfl; have d5 := cell_at hs2 5 rfl; have d6 := cell_at hs2 6 rfl; have d7 := cell_at hs2 7 rfl; have e0_ := cell_at hs3 0 rfl; have e1_ := cell_at hs3 1 rfl; obtain ⟨rw0, rw1, rw2, rw3, rw4, rw5, rw6, rw7⟩ := HROW.out u hs4; have hbu : b1 < u.heap.size := (by have := hs4.size; omega); go_simp; try with_reducible rfl)
 try simp only [Act.put, sA, sB, sC]
 refine tk (i := 1) (oi := ⟨some 118, .fieldAddr 40 (.tmp 3) 4, 0, "writer.go:108", #[], none⟩) (v := ?_) (Or.inl ⟨by rfl, ?_⟩) ?_
 rotate_left 1
 ·(intro u hSw; go_simp; try with_reducible rfl)
 try simp only [Act.put, sA, sB, sC]
 refine tk (i := 2) (oi := ⟨some 119, .load 25 (.tmp 118), 25, "writer.go:108", #[⟨1, .data⟩], none⟩) (v := ?_) (Or.inl ⟨by rfl, ?_⟩) ?_
 rotate_left 1
 ·(intro u hSw; obtain ⟨hs1, hs2, hs3, hs4⟩ := hSw; have c0 := cell_at hs1 0 rfl; have d0 := cell_at hs2 0 rfl; have d1 := cell_at hs2 1 rfl; have d2 := cell_at hs2 2 rfl; have d3 := cell_at hs2 3 rfl; have d4 := cell_at hs2 4 rfl; have d5 := cell_at hs2 5 rfl; have d6 := cell_at hs2 6 rfl; have d7 := cell_at hs2 7 rfl; have e0_ := cell_at hs3 0 rfl; have e1_ := cell_at hs3 1 rfl; obtain ⟨rw0, rw1, rw2, rw3, rw4, rw5, rw6, rw7⟩ := HROW.out u hs4; have hbu : b1 < u.heap.size := (by have := hs4.size; omega); go_simp; try with_reducible rfl)
 try simp only [Act.put, sA, sB, sC]
 refine tk (i := 3) (oi := ⟨some 120, .indexAddr 25 (.tmp 119) (.const (Value.int IntKind.i64 0)), 0, "writer.go:108", #[⟨2, .data⟩], none⟩) (v := ?_) (Or.inl ⟨by rfl, ?_⟩) ?_
 rotate_left 1
 ·(intro u hSw; go_simp; try with_reducible rfl)
 try simp only [Act.put, sA, sB, sC]
 refine tk (i := 4) (oi := ⟨some 121, .load 40 (.tmp 120), 40, "writer.go:108", #[⟨3, .data⟩], none⟩) (v := ?_) (Or.inl ⟨by rfl, ?_⟩) ?_
 rotate_left 1
 ·(intro u hSw; obtain ⟨hs1, hs2, hs3, hs4⟩ := hSw; have c0 := cell_at hs1 0 rfl; have d0 := cell_at hs2 0 rfl; have d1 := cell_at hs2 1 rfl; have d2 := cell_at hs2 2 rfl; have d3 := cell_at hs2 3 rfl; have d4 := cell_at hs2 4 rfl; have d5 := cell_at hs2 5 rfl; have d6 := cell_at hs2 6 rfl; have d7 := cell_at hs2 7 rfl; have e0_ := cell_at hs3 0 rfl; have e1_ := cell_at hs3 1 rfl; obtain ⟨rw0, rw1, rw2, rw3, rw4, rw5, rw6, rw7⟩ := HROW.out u hs4; have hbu : b1 < u.heap.size := (by have := hs4.size; omega); go_simp; try with_reducible rfl)
 try simp only [Act.put, sA, sB, sC]
 refine tk (i := 5) (oi := ⟨some 122, .fieldAddr 156 (.tmp 4) 1, 0, "writer.go:108", #[], none⟩) (v := ?_) (Or.inl ⟨by rfl, ?_⟩) ?_
 rotate_left 1
 ·(intro u hSw; go_simp; try with_reducible rfl)
 try simp only [Act.put, sA, sB, sC]
 refine tk (i := 6) (oi := ⟨some 123, .load 3 (.tmp 122), 3, "writer.go:108", #[⟨5, .data⟩], none⟩) (v := ?_) (Or.inl ⟨by rfl, ?_⟩) ?_
 rotate_left 1
 ·(intro u hSw; obtain ⟨hs1, hs2, hs3, hs4⟩ := hSw; have c0 := cell_at hs1 0 rfl; have d0 := cell_at hs2 0 rfl; have d1 := cell_at hs2 1 rfl; have d2 := cell_at hs2 2 rfl; have d3 := cell_at hs2 3 rfl; have d4 := cell_at hs2 4 rfl; have d5 := cell_at hs2 5 rfl; have d6 := cell_at hs2 6 rfl; have d7 := cell_at hs2 7 rfl; have e0_ := cell_at hs3 0 rfl; have e1_ := cell_at hs3 1 rfl; obtain ⟨rw0, rw1, rw2, rw3, rw4, rw5, rw6, rw7⟩ := HROW.out u hs4; have hbu : b1 < u.heap.size := (by have := hs4.size; omega); go_simp; try with_reducible rfl)
 try simp only [Act.put, sA, sB, sC]
 refine tk (i := 7) (oi := ⟨some 124, .binOp BinOp.add 3 (.tmp 123) (.const (Value.int IntKind.i64 1)) 3, 3, "writer.go:108", #[⟨6, .data⟩], none⟩) (v := ?_) (Or.inl ⟨by rfl, ?_⟩) ?_
 rotate_left 1
 ·(intro u hSw; go_simp; try with_reducible rfl)
 try simp only [Act.put, sA, sB, sC]
 refine wpAnyH_ready (rs := [8]) (by kernel_rfl) (by simp) ?_
 refine AllReadyH.cons (o := ⟨some 125, .call ⟨.value (.func 95), #[.tmp 117, .tmp 121, .tmp 124], #[69, 40, 3]⟩, 0, "writer.go:108", #[⟨0, .data⟩, ⟨4, .data⟩, ⟨7, .data⟩], none⟩) rfl (fun K hK => ?_) AllReadyH.nil
 go_simp
 go_at_call 95
 refine (HOY.out _ _ (show WrC (((w.alloc (.cells #[.pointer (some ⟨H, 0, none⟩)] 69)).alloc (.cells #[.int .i64 ↑k, .string (str x.tb), .string (str x.nm), .int .i64 x.v.k, .int .i64 x.v.n, .string (str x.v.s), .slice (some ⟨b1, o1, none⟩) 1 z0, .slice (some ⟨b2, o2, none⟩) 1 z1] 40)).alloc (.cells #[.string (str tx), .int .i64 4] 156)).drew A H B g _ from HS0.out.fresh (Below.refl _ _).drew) HB0.out.drew).mono ?_
 rintro e w1 ⟨rfl, g1, hc2, hk2⟩
 go_wp2_with fail
 have HE1_1 := hid ((show Els H B (((w.alloc (.cells #[.pointer (some ⟨H, 0, none⟩)] 69)).alloc (.cells #[.int .i64 ↑k, .string (str x.tb), .string (str x.nm), .int .i64 x.v.k, .int .i64 x.v.n, .string (str x.v.s), .slice (some ⟨b1, o1, none⟩) 1 z0, .slice (some ⟨b2, o2, none⟩) 1 z1] 40)).alloc (.cells #[.string (str tx), .int .i64 4] 156)).drew g _ _ from ⟨HE1_0.out.at_, HE1_0.out.nh, HE1_0.out.nb, HE1_0.out.ng⟩).keep hk2)
 have HE2_1 := hid ((show Els H B (((w.alloc (.cells #[.pointer (some ⟨H, 0, none⟩)] 69)).alloc (.cells #[.int .i64 ↑k, .string (str x.tb), .string (str x.nm), .int .i64 x.v.k, .int .i64 x.v.n, .string (str x.v.s), .slice (some ⟨b1, o1, none⟩) 1 z0, .slice (some ⟨b2, o2, none⟩) 1 z1] 40)).alloc (.cells #[.string (str tx), .int .i64 4] 156)).drew g _ _ from ⟨HE2_0.out.at_, HE2_0.out.nh, HE2_0.out.nb, HE2_0.out.ng⟩).keep hk2)
 have HE3_1 := hid ((show Els H B (((w.alloc (.cells #[.pointer (some ⟨H, 0, none⟩)] 69)).alloc (.cells #[.int .i64 ↑k, .string (str x.tb), .string (str x.nm), .int .i64 x.v.k, .int .i64 x.v.n, .string (str x.v.s), .slice (some ⟨b1, o1, none⟩) 1 z0, .slice (some ⟨b2, o2, none⟩) 1 z1] 40)).alloc (.cells #[.string (str tx), .int .i64 4] 156)).drew g _ _ from ⟨HE3_0.out.at_, HE3_0.out.nh, HE3_0.out.nb, HE3_0.out.ng⟩).keep hk2)
 have HB1 := hid (hk2.low (show WrC (((w.alloc (.cells #[.pointer (some ⟨H, 0, none⟩)] 69)).alloc (.cells #[.int .i64 ↑k, .string (str x.tb), .string (str x.nm), .int .i64 x.v.k, .int .i64 x.v.n, .string (str x.v.s), .slice (some ⟨b1, o1, none⟩) 1 z0, .slice (some ⟨b2, o2, none⟩) 1 z1] 40)).alloc (.cells #[.string (str tx), .int .i64 4] 156)).drew A H B g _ from HS0.out.fresh (Below.refl _ _).drew) hA HB0.out.drew)
 have HK1 := hid ((HK0.out.trans (WK.fresh (Below.refl _ _).drew)).trans hk2)
 have HS1 := hid hc2
 clear hc2 hk2
 refine hK.out _ _ ⟨HE1_1.out.at_, HE2_1.out.at_, HE3_1.out.at_, HB1.out⟩ (fun _ => ?_)
 clear hK K
 try simp only [Act.put, sA, sB, sC]
 refine wpAnyH_done (by kernel_rfl) ?_ _
 have c0 := cell_at HE1_1.out.at_ 0 rfl
 have t0_ := cell_at HE3_1.out.at_ 0 rfl
 go_wp2_with (go_at_call 47; refine (HP.out _ _ HS1.out).mono ?_; clear HP; rintro e w2 ⟨rfl, g2, hc2, hk⟩; have HE1_2 := hid (HE1_1.out.keep hk); have HE2_2 := hid (HE2_1.out.keep hk); have HE3_2 := hid (HE3_1.out.keep hk); have HS2 := hid hc2; have HB2 := hid (hk.low HS1.out hA HB1.out); have HK2 := hid (HK1.out.trans hk); clear hc2 hk)
 refine wp_region_held_drew (S := fun u => (u.heap[w.heap.size]? = some (.cells #[.pointer (some ⟨H, 0, none⟩)] 69 (0, 0)) ∧ u.heap[w.heap.size + 1]? = some (.cells #[.int .i64 ↑k, .string (str x.tb), .string (str x.nm), .int .i64 x.v.k, .int .i64 x.v.n, .string (str x.v.s), .slice (some ⟨b1, o1, none⟩) 1 z0, .slice (some ⟨b2, o2, none⟩) 1 z1] 40 (0, 0)) ∧ u.heap[w.heap.size + 2]? = some (.cells #[.string (str tx), .int .i64 4] 156 (0, 0)) ∧ Below w0.heap.size w0 u)) (by kernel_rfl) (⟨HE1_2.out.at_, HE2_2.out.at_, HE3_2.out.at_, HB2.out.drew⟩) (fun hHeld => ?_)
 refine tk (i := 0) (oi := ⟨some 131, .load 69 (.tmp 2), 69, "writer.go:110", #[], none⟩) (v := ?_) (Or.inl ⟨by rfl, ?_⟩) ?_
 rotate_left 1
 ·(intro u hSw; obtain ⟨hs1, hs2, hs3, hs4⟩ := hSw; have c0 := cell_at hs1 0 rfl; have d0 := cell_at hs2 0 rfl; have d1 := cell_at hs2 1 rfl; have d2 := cell_at hs2 2 rfl; have d3 := cell_at hs2 3 rfl; have d4 := cell_at hs2 4 rfl; have d5 := cell_at hs2 5 rfl; have d6 := cell_at hs2 6 rfl; have d7 := cell_at hs2 7 rfl; have e0_ := cell_at hs3 0 rfl; have e1_ := cell_at hs3 1 rfl; obtain ⟨qw0, qw1, qw2, qw3, qw4, qw5, qw6, qw7, qw8, qw9, qw10⟩ := HQOW.out u hs4; have hbu2 : b2 < u.heap.size := (by have := hs4.size; omega); go_simp; try with_reducible rfl)
 try simp only [Act.put, sA, sB, sC]
 refine tk (i := 1) (oi := ⟨some 132, .fieldAddr 40 (.tmp 3) 5, 0, "writer.go:110", #[], none⟩) (v := ?_) (Or.inl ⟨by rfl, ?_⟩) ?_
 rotate_left 1
 ·(intro u hSw; go_simp; try with_reducible rfl)
 try simp only [Act.put, sA, sB, sC]
 refine tk (i := 2) (oi := ⟨some 133, .load 22 (.tmp 132), 22, "writer.go:110", #[⟨1, .data⟩], none⟩) (v := ?_) (Or.inl ⟨by rfl, ?_⟩) ?_
 rotate_left 1
 ·(intro u hSw; obtain ⟨hs1, hs2, hs3, hs4⟩ := hSw; have c0 := cell_at hs1 0 rfl; have d0 := cell_at hs2 0 rfl; have d1 := cell_at hs2 1 rfl; have d2 := cell_at hs2 2 rfl; have d3 := cell_at hs2 3 rfl; have d4 := cell_at hs2 4 rfl; have d5 := cell_at hs2 5 rfl; have d6 := cell_at hs2 6 rfl; have d7 := cell_at hs2 7 rfl; have e0_ := cell_at hs3 0 rfl; have e1_ := cell_at hs3 1 rfl; obtain ⟨qw0, qw1, qw2, qw3, qw4, qw5, qw6, qw7, qw8, qw9, qw10⟩ := HQOW.out u hs4; have hbu2 : b2 < u.heap.size := (by have := hs4.size; omega); go_simp; try with_reducible rfl)
 try simp only [Act.put, sA, sB, sC]
 refine tk (i := 3) (oi := ⟨some 134, .indexAddr 22 (.tmp 133) (.const (Value.int IntKind.i64 0)), 0, "writer.go:110", #[⟨2, .data⟩], none⟩) (v := ?_) (Or.inl ⟨by rfl, ?_⟩) ?_
 rotate_left 1
 ·(intro u hSw; go_simp; try with_reducible rfl)
 try simp only [Act.put, sA, sB, sC]
 refine tk (i := 4) (oi := ⟨some 135, .load 30 (.tmp 134), 30, "writer.go:110", #[⟨3, .data⟩], none⟩) (v := ?_) (Or.inl ⟨by rfl, ?_⟩) ?_
 rotate_left 1
 ·(intro u hSw; obtain ⟨hs1, hs2, hs3, hs4⟩ := hSw; have c0 := cell_at hs1 0 rfl; have d0 := cell_at hs2 0 rfl; have d1 := cell_at hs2 1 rfl; have d2 := cell_at hs2 2 rfl; have d3 := cell_at hs2 3 rfl; have d4 := cell_at hs2 4 rfl; have d5 := cell_at hs2 5 rfl; have d6 := cell_at hs2 6 rfl; have d7 := cell_at hs2 7 rfl; have e0_ := cell_at hs3 0 rfl; have e1_ := cell_at hs3 1 rfl; obtain ⟨qw0, qw1, qw2, qw3, qw4, qw5, qw6, qw7, qw8, qw9, qw10⟩ := HQOW.out u hs4; have hbu2 : b2 < u.heap.size := (by have := hs4.size; omega); go_simp; try with_reducible rfl)
 try simp only [Act.put, sA, sB, sC]
 refine wpAnyH_ready (rs := [5]) (by kernel_rfl) (by simp) ?_
 refine AllReadyH.cons (o := ⟨some 136, .call ⟨.value (.func 94), #[.tmp 131, .tmp 135], #[69, 30]⟩, 0, "writer.go:110", #[⟨0, .data⟩, ⟨4, .data⟩], none⟩) rfl (fun K hK => ?_) AllReadyH.nil
 go_simp
 go_at_call 94
 refine (HIN.out _ _ (show WrC w2.drew A H B g2 _ from HS2.out.fresh (Below.refl _ _).drew) HB2.out.drew).mono ?_
 rintro e w3 ⟨rfl, g3, hc2, hk2⟩
 go_wp2_with fail
 have HE1_3 := hid ((show Els H B w2.drew g2 _ _ from ⟨HE1_2.out.at_, HE1_2.out.nh, HE1_2.out.nb, HE1_2.out.ng⟩).keep hk2)
 have HE2_3 := hid ((show Els H B w2.drew g2 _ _ from ⟨HE2_2.out.at_, HE2_2.out.nh, HE2_2.out.nb, HE2_2.out.ng⟩).keep hk2)
 have HE3_3 := hid ((show Els H B w2.drew g2 _ _ from ⟨HE3_2.out.at_, HE3_2.out.nh, HE3_2.out.nb, HE3_2.out.ng⟩).keep hk2)
 have HB3 := hid (hk2.low (show WrC w2.drew A H B g2 _ from HS2.out.fresh (Below.refl _ _).drew) hA HB2.out.drew)
 have HK3 := hid ((HK2.out.trans (WK.fresh (Below.refl _ _).drew)).trans hk2)
 have HS3 := hid hc2
 clear hc2 hk2
 refine hK.out _ _ ⟨HE1_3.out.at_, HE2_3.out.at_, HE3_3.out.at_, HB3.out⟩ (fun _ => ?_)
 clear hK K
 try simp only [Act.put, sA, sB, sC]
 refine wpAnyH_done (by kernel_rfl) ?_ _
 go_wp2_with fail
 refine bodyPost_ret (results_none rfl _ _ _) rfl ?_
 exact ⟨rfl, g3, HS3.out, HK3.out⟩
end Go.Proofs.YtegkbagnbnoopaaGreatDoor
