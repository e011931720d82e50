/- the text's bound: any tree -/
import Derived.Test.YtegkbagnbnoopaaGreatDoorPs20
import Derived.Test.YtegkbagnbnoopaaGreatDoorPs22
namespace Go.Proofs.YtegkbagnbnoopaaGreatDoor
mutual
theorem Ex.add : ∀ (x : Ex), x.OK → ∀ le, Add (x.wr le) (64 * Da.sizeR x.da - 4)
 | .mk op tb nm v args qs, h, le => fun s => by
  unfold Ex.OK at h
  obtain ⟨-, -, -, hv, ha, hq⟩ := h
  obtain ⟨a0, a1, h0, h1, hs⟩ := two_args (exs_add args ha)
  obtain ⟨q0, q1, g0, -, gs⟩ := two_qs (qus_add qs hq)
  have H := operF_add (op := op) (v := v) (least := le) (opF_add (op := op) (tb := tb) (nm := nm) (valF_add v hv.2.2.2.1 hv.2.2.2.2) h0 h1 g0) s
  have e := ex_size op tb nm v args qs
  unfold Ex.wr
  omega
theorem exs_add : ∀ (l : List Ex), exsOK l → ∀ y ∈ l, ∀ le, Add (y.wr le) (64 * Da.sizeR y.da - 4)
 | [], _, y, hy, _ => by cases hy
 | x :: l, h, y, hy, le => by
  unfold exsOK at h
  rcases List.mem_cons.1 hy with e | e
  ·rw [e]; exact Ex.add x h.1 le
  ·exact exs_add l h.2 y e le
theorem Qu.add : ∀ (x : Qu), x.OK → Add x.bd (64 * Da.sizeR x.da - 4)
 | .mk op parts sel ord lim n, h => fun s => by
  unfold Qu.OK at h
  obtain ⟨-, hp, hs, -, -⟩ := h
  obtain ⟨q0, q1, g0, g1, gs⟩ := two_qs (qus_add parts hp)
  have H := Se.add sel hs s
  have K := unitF_add g1 (((quF (qusWr parts) 0).2 s).put [unionT op])
  have K1 := put_len [unionT op] ((quF (qusWr parts) 0).2 s)
  have K2 := g0 s
  have K3 : (unionT op).length ≤ 20 := by unfold unionT; split <;> (try split) <;> decide
  simp only [List.map_cons, List.map_nil, List.sum_cons, List.sum_nil, List.length_cons, List.length_nil] at K1
  have e := qu_size op parts sel ord lim n
  unfold Qu.bd
  split <;> omega
theorem qus_add : ∀ (l : List Qu), qusOK l → ∀ y ∈ l, Add y.bd (64 * Da.sizeR y.da - 4)
 | [], _, y, hy => by cases hy
 | x :: l, h, y, hy => by
  unfold qusOK at h
  rcases List.mem_cons.1 hy with e | e
  ·rw [e]; exact Qu.add x h.1
  ·exact qus_add l h.2 y e
theorem Se.add : ∀ (x : Se), x.OK → Add x.wr (64 * Da.sizeR x.da)
 | .mk d items fro wh gr hv, h => fun s => by
  unfold Se.OK at h
  obtain ⟨hi, hf, hw, hg, hh⟩ := h
  have e := se_size d items fro wh gr hv
  obtain ⟨s0, h0⟩ : ∃ q, q = (if d = true then (s.put [[115, 101, 108, 101, 99, 116]]).put [[100, 105, 115, 116, 105, 110, 99, 116]] else s.put [[115, 101, 108, 101, 99, 116]]) := ⟨_, rfl⟩
  have k0 : s0.tx.length ≤ s.tx.length + 20 := by
   have a := put_len [[115, 101, 108, 101, 99, 116]] s
   have b := put_len [[100, 105, 115, 116, 105, 110, 99, 116]] (s.put [[115, 101, 108, 101, 99, 116]])
   simp at a b
   rw [h0]; split <;> omega
  have k1 : Add (listF true (itsWr items)) (64 * Da.sizeK (itsDa items)) := by
   rw [itsWr_map, itsDa_sum]
   exact list_add (F := It.wr) (S := fun y => Da.sizeR y.da) true (fun y hy => its_add items hi y hy)
  have k2 := sos_add fro hf
  have k3 := fun kw => ones_add (kw := kw) (exs_add wh hw)
  have k4 := fun kw => ones_add (kw := kw) (exs_add gr hg)
  have k5 := fun kw => ones_add (kw := kw) (exs_add hv hh)
  have H := ((k5 [104, 97, 118, 105, 110, 103]).comp ((k4 [103, 114, 111, 117, 112, 32, 98, 121]).comp ((k3 [119, 104, 101, 114, 101]).comp (k2.comp (k1.put [[102, 114, 111, 109]]))))) s0
  unfold Se.wr
  rw [← h0]
  simp only [List.map_cons, List.map_nil, List.sum_cons, List.sum_nil, List.length_cons, List.length_nil] at H
  omega
theorem its_add : ∀ (l : List It), itsOK l → ∀ y ∈ l, Add y.wr (64 * Da.sizeR y.da - 2) ∧ 1 ≤ Da.sizeR y.da
 | [], _, y, hy => by cases hy
 | x :: l, h, y, hy => by
  unfold itsOK at h
  rcases List.mem_cons.1 hy with e | e
  ·rw [e]; exact It.add x h.1
  ·exact its_add l h.2 y e
theorem It.add : ∀ (x : It), x.OK → Add x.wr (64 * Da.sizeR x.da - 2) ∧ 1 ≤ Da.sizeR x.da
 | .mk star x nm, h => by
  unfold It.OK at h
  have e := it_size star x nm
  have k := Ex.add x h.1 1
  refine ⟨fun s => ?_, by omega⟩
  have a := put_len [[42]] s
  have b := asF_add nm (x.wr 1 s)
  have c := k s
  have p := ex_pos x
  simp only [List.map_cons, List.map_nil, List.sum_cons, List.sum_nil, List.length_cons, List.length_nil] at a
  unfold It.wr
  split <;> omega
theorem So.add : ∀ (x : So), x.OK → Add x.wr (64 * Da.sizeR x.da)
 | .mk kind tb q al on, h => fun s => by
  unfold So.OK at h
  obtain ⟨-, -, hq, -, ho⟩ := h
  obtain ⟨q0, q1, g0, -, gs⟩ := two_qs (qus_add q hq)
  have e := so_size kind tb q al on
  have k := fun kw => ones_add (kw := kw) (exs_add on ho)
  obtain ⟨s0, h0⟩ : ∃ z, z = (if kind = 0 then s else s.put [joinT kind]) := ⟨_, rfl⟩
  have k0 : s0.tx.length ≤ s.tx.length + 12 := by
   have a := put_len [joinT kind] s
   have b : (joinT kind).length ≤ 10 := by unfold joinT; split <;> (try split) <;> decide
   simp only [List.map_cons, List.map_nil, List.sum_cons, List.sum_nil, List.length_cons, List.length_nil] at a
   rw [h0]; split <;> omega
  have a := par_add g0 s0
  have b := put_len [tb] s0
  simp only [List.map_cons, List.map_nil, List.sum_cons, List.sum_nil, List.length_cons, List.length_nil] at b
  obtain ⟨s1, h1⟩ : ∃ z, z = (if tb = [] then Wr.par (quF (qusWr q) 0).2 s0 else s0.put [tb]) := ⟨_, rfl⟩
  have k1 : s1.tx.length ≤ s0.tx.length + q0 + tb.length + 4 := by rw [h1]; split <;> omega
  have H := ((k [111, 110]).comp (asF_add al)) s1
  unfold So.wr
  rw [← h0, ← h1]
  simp only [List.length_cons, List.length_nil] at H
  omega
theorem sos_add : ∀ (l : List So), sosOK l → Add (sosWr l) (64 * Da.sizeK (sosDa l))
 | [], _ => fun s => by unfold sosWr; omega
 | x :: l, h => fun s => by
  unfold sosOK at h
  have a := So.add x h.1 s
  have b := sos_add l h.2 (x.wr s)
  unfold sosWr sosDa
  simp only [Da.sizeK]
  omega
end
end Go.Proofs.YtegkbagnbnoopaaGreatDoor
/- the writer of print: operation at neg and not -/
namespace Go.Proofs.YtegkbagnbnoopaaGreatDoor
open Go.ChangeShapes Go.WideShapes Go.ChangeAt Go.RowKit Go.Deep
open Go.Lib (hid)
set_option maxRecDepth 100000 in
set_option maxHeartbeats 6400000 in
theorem opn_4 {w0 : World} {x : Ex} (hT : Tabs w0)   {y : Ex} (hy : x.args = [y]) (hO : ∀ (l : Int) (b : Value), ExV w0 b y → W2 w0 95 b (.int .i64 l) (y.wr l)) (hM : ∀ l, Mo (y.wr l)) (hop : x.op = 4) (a : Value) (ha : ExV w0 a x) : W1 w0 110 a (opx x) := by
 intro A H B g s w hA hw hc hl
 obtain ⟨p0, p1, rfl, h0, h1⟩ := ha
 obtain ⟨e0, z0, rfl, -, hcell0⟩ := exs_rows h0
 obtain ⟨e1, m1, z1, rfl⟩ := dis_slice h1
 have hlen : x.args.length = 1 := by rw [hy]; rfl
 generalize x.args.length = m0 at *
 subst hlen
 obtain ⟨b1, o1, rfl, hb1, hd1⟩ := hcell0 (by omega)
 obtain ⟨sy0, sy1, pc0, pc1, pc2, pc3, pc4, pc5, pc6, pc7, gy0, gy1⟩ := hd1 0 y (by rw [hy]; rfl)
 obtain ⟨r0, s0, q0, rfl⟩ := dis_slice gy0
 obtain ⟨r1, s1, q1, rfl⟩ := dis_slice gy1
 have HROW := hid (fun (u : World) (hu : Below w0.heap.size w0 u) => (⟨(hu.cell (p := ⟨b1, o1 + 0 * 8, none⟩) hb1).trans pc0, (hu.cell (p := ⟨b1, o1 + 0 * 8 + 1, none⟩) hb1).trans pc1, (hu.cell (p := ⟨b1, o1 + 0 * 8 + 2, none⟩) hb1).trans pc2, (hu.cell (p := ⟨b1, o1 + 0 * 8 + 3, none⟩) hb1).trans pc3, (hu.cell (p := ⟨b1, o1 + 0 * 8 + 4, none⟩) hb1).trans pc4, (hu.cell (p := ⟨b1, o1 + 0 * 8 + 5, none⟩) hb1).trans pc5, (hu.cell (p := ⟨b1, o1 + 0 * 8 + 6, none⟩) hb1).trans pc6, (hu.cell (p := ⟨b1, o1 + 0 * 8 + 7, none⟩) hb1).trans pc7⟩ : u.cell? ⟨b1, o1, none⟩ = some (.int .i64 y.op) ∧ u.cell? ⟨b1, o1 + 1, none⟩ = some (.string (str y.tb)) ∧ u.cell? ⟨b1, o1 + 2, none⟩ = some (.string (str y.nm)) ∧ u.cell? ⟨b1, o1 + 3, none⟩ = some (.int .i64 y.v.k) ∧ u.cell? ⟨b1, o1 + 4, none⟩ = some (.int .i64 y.v.n) ∧ u.cell? ⟨b1, o1 + 5, none⟩ = some (.string (str y.v.s)) ∧ u.cell? ⟨b1, o1 + 6, none⟩ = some (.slice r0 s0 q0) ∧ u.cell? ⟨b1, o1 + 7, none⟩ = some (.slice r1 s1 q1)))
 have e : opx x s = y.wr (opL x.op) ((s.put [opT x.op]).tight) := by
  unfold opx opF
  rw [if_neg (by omega), if_neg (by omega), if_pos hop, exsWr_map, hy, hop]
  rfl
 rw [e] at hl ⊢
 have HC3 := hid (fun (oa ob oc : Obj) => ((hc.alloc oa).alloc ob).alloc oc)
 have HB3 := hid (fun (oa ob oc : Obj) => ((hw.alloc hw.size oa).alloc (by have := hw.size; simp; omega) ob).alloc (by have := hw.size; simp; omega) oc)
 have HK3 := hid (fun (oa ob oc : Obj) => (((WK.refl H B w g).alloc oa).alloc ob).alloc oc)
 have HX1 := hid (fun (ob oc : Obj) => (new_els hc (.cells #[.pointer (some ⟨H, 0, none⟩)] 69)).keep (g' := g) (((WK.refl H B _ g).alloc ob).alloc oc))
 have HX2 := hid (fun (oa oc : Obj) => (show Els H B (((w.alloc oa).alloc (.cells #[.int .i64 x.op, .string (str x.tb), .string (str x.nm), .int .i64 x.v.k, .int .i64 x.v.n, .string (str x.v.s), .slice (some ⟨b1, o1, none⟩) 1 z0, .slice e1 m1 z1] 40)).alloc oc) g (w.heap.size + 1) (.cells #[.int .i64 x.op, .string (str x.tb), .string (str x.nm), .int .i64 x.v.k, .int .i64 x.v.n, .string (str x.v.s), .slice (some ⟨b1, o1, none⟩) 1 z0, .slice e1 m1 z1] 40) from by
  have h := (new_els (hc.alloc oa) (.cells #[.int .i64 x.op, .string (str x.tb), .string (str x.nm), .int .i64 x.v.k, .int .i64 x.v.n, .string (str x.v.s), .slice (some ⟨b1, o1, none⟩) 1 z0, .slice e1 m1 z1] 40)).keep (g' := g) ((WK.refl H B _ g).alloc oc)
  rwa [show (w.alloc oa).heap.size = w.heap.size + 1 from by simp] at h))
 have HX3 := hid (fun (oa ob : Obj) => (show Els H B (((w.alloc oa).alloc ob).alloc (.cells #[.string (str (opT x.op)), .int .i64 (opL x.op)] 156)) g (w.heap.size + 2) (.cells #[.string (str (opT x.op)), .int .i64 (opL x.op)] 156) from by
  have h := new_els ((hc.alloc oa).alloc ob) (.cells #[.string (str (opT x.op)), .int .i64 (opL x.op)] 156)
  rwa [show ((w.alloc oa).alloc ob).heap.size = w.heap.size + 2 from by simp] at h))
 obtain ⟨k, hk⟩ : ∃ k : Nat, x.op = (k : Int) := ⟨x.op.toNat, by omega⟩
 have hk30 : k < 30 := by omega
 have tt := (hT.keep hw).ops k hk30
 rw [← hk] at tt
 obtain ⟨t0, t1⟩ := tt
 have t0b : w.cell? ⟨4, k * 2, none⟩ = some (.string (str (opT x.op))) := by rw [Nat.mul_comm]; exact t0
 have t1b : w.cell? ⟨4, k * 2 + 1, none⟩ = some (.int .i64 (opL x.op)) := by rw [Nat.mul_comm]; exact t1
 have hgl := World.block_lt_of_cell? w _ t1
 have f1 : (x.op == (1 : Int)) = false := beq_eq_false_iff_ne.2 (by omega)
 have f2 : (x.op == (2 : Int)) = false := beq_eq_false_iff_ne.2 (by omega)
 have f4 : (x.op == (4 : Int)) = true := beq_iff_eq.2 hop
 have hm := hM (opL x.op) ((s.put [opT x.op]).tight)
 have hrt : Rng (opT x.op) := by rw [hop]; exact rngB rfl
 have HP := hid (fun (o1 o2 o3 : Obj) => putTight_any (opT x.op) (HC3.out o1 o2 o3) hrt (show (s.put [opT x.op]).tx.length ≤ _ from by have h : (s.put [opT x.op]).tight.tx.length = (s.put [opT x.op]).tx.length := rfl; omega))
 have HOY := hid (fun (g1 : Option Nat) (u : World) (h : WrC u A H B g1 ((s.put [opT x.op]).tight)) (hu : Below w0.heap.size w0 u) => hO (opL x.op) (.agg #[.int .i64 y.op, .string (str y.tb), .string (str y.nm), .int .i64 y.v.k, .int .i64 y.v.n, .string (str y.v.s), .slice r0 s0 q0, .slice r1 s1 q1]) ⟨_, _, rfl, gy0, gy1⟩ A H B g1 _ u hA hu h hl)
 generalize y.wr (opL x.op) ((s.put [opT x.op]).tight) = sZ at *
 generalize (s.put [opT x.op]).tight = s1_ at *
 have hsz := hw.size
 clear hT hw hc hl h0 h1 e hop hO hM hm hrt hcell0 hd1 gy0 gy1 hy pc0 pc1 pc2 pc3 pc4 pc5 pc6 pc7
 generalize opT x.op = tx at *
 generalize opL x.op = lv at *
 generalize x.op = xo at *
 subst hk
 go_enter Tryz.func110, Tryz.ntmps110
 go_wp2_with (go_at_call 121; refine (HP.out _ _ _).mono ?_; clear HP; rintro e w1 ⟨rfl, g1, hc1, hk⟩; have HE1_1 := hid ((HX1.out _ _).keep hk); have HE2_1 := hid ((HX2.out _ _).keep hk); have HE3_1 := hid ((HX3.out _ _).keep hk); have HS1 := hid hc1; have HB1 := hid (hk.low (HC3.out _ _ _) hA (HB3.out _ _ _)); have HK1 := hid ((HK3.out _ _ _).trans hk); clear hc1 hk)
 refine wp_region_held_drew (S := fun u => (u.heap[w.heap.size]? = some (.cells #[.pointer (some ⟨H, 0, none⟩)] 69 (0, 0)) ∧ u.heap[w.heap.size + 1]? = some (.cells #[.int .i64 ↑k, .string (str x.tb), .string (str x.nm), .int .i64 x.v.k, .int .i64 x.v.n, .string (str x.v.s), .slice (some ⟨b1, o1, none⟩) 1 z0, .slice e1 m1 z1] 40 (0, 0)) ∧ u.heap[w.heap.size + 2]? = some (.cells #[.string (str tx), .int .i64 lv] 156 (0, 0)) ∧ Below w0.heap.size w0 u)) (by kernel_rfl) (⟨HE1_1.out.at_, HE2_1.out.at_, HE3_1.out.at_, HB1.out.drew⟩) (fun hHeld => ?_)
 refine tk (i := 0) (oi := ⟨some 39, .load 69 (.tmp 2), 69, "writer.go:91", #[], none⟩) (v := ?_) (Or.inl ⟨by rfl, ?_⟩) ?_
 rotate_left 1
 ·(intro u hSw; obtain ⟨hs1, hs2, hs3, hs4⟩ := hSw; have c0 := cell_at hs1 0 rfl; have d0 := cell_at hs2 0 rfl; have d1 := cell_at hs2 1 rfl; have d2 := cell_at hs2 2 rfl; have d3 := cell_at hs2 3 rfl; have d4 := cell_at hs2 4 rfl; have d5 := cell_at hs2 5 rfl; have d6 := cell_at hs2 6 rfl; have d7 := cell_at hs2 7 rfl; have e0_ := cell_at hs3 0 rfl; have e1_ := cell_at hs3 1 rfl; obtain ⟨rw0, rw1, rw2, rw3, rw4, rw5, rw6, rw7⟩ := HROW.out u hs4; have hbu : b1 < u.heap.size := (by have := hs4.size; omega); go_simp; try with_reducible rfl)
 try simp only [Act.put, sA, sB, sC]
 refine tk (i := 1) (oi := ⟨some 40, .fieldAddr 40 (.tmp 3) 4, 0, "writer.go:91", #[], none⟩) (v := ?_) (Or.inl ⟨by rfl, ?_⟩) ?_
 rotate_left 1
 ·(intro u hSw; go_simp; try with_reducible rfl)
 try simp only [Act.put, sA, sB, sC]
 refine tk (i := 2) (oi := ⟨some 41, .load 25 (.tmp 40), 25, "writer.go:91", #[⟨1, .data⟩], none⟩) (v := ?_) (Or.inl ⟨by rfl, ?_⟩) ?_
 rotate_left 1
 ·(intro u hSw; obtain ⟨hs1, hs2, hs3, hs4⟩ := hSw; have c0 := cell_at hs1 0 rfl; have d0 := cell_at hs2 0 rfl; have d1 := cell_at hs2 1 rfl; have d2 := cell_at hs2 2 rfl; have d3 := cell_at hs2 3 rfl; have d4 := cell_at hs2 4 rfl; have d5 := cell_at hs2 5 rfl; have d6 := cell_at hs2 6 rfl; have d7 := cell_at hs2 7 rfl; have e0_ := cell_at hs3 0 rfl; have e1_ := cell_at hs3 1 rfl; obtain ⟨rw0, rw1, rw2, rw3, rw4, rw5, rw6, rw7⟩ := HROW.out u hs4; have hbu : b1 < u.heap.size := (by have := hs4.size; omega); go_simp; try with_reducible rfl)
 try simp only [Act.put, sA, sB, sC]
 refine tk (i := 3) (oi := ⟨some 42, .indexAddr 25 (.tmp 41) (.const (Value.int IntKind.i64 0)), 0, "writer.go:91", #[⟨2, .data⟩], none⟩) (v := ?_) (Or.inl ⟨by rfl, ?_⟩) ?_
 rotate_left 1
 ·(intro u hSw; go_simp; try with_reducible rfl)
 try simp only [Act.put, sA, sB, sC]
 refine tk (i := 4) (oi := ⟨some 43, .load 40 (.tmp 42), 40, "writer.go:91", #[⟨3, .data⟩], none⟩) (v := ?_) (Or.inl ⟨by rfl, ?_⟩) ?_
 rotate_left 1
 ·(intro u hSw; obtain ⟨hs1, hs2, hs3, hs4⟩ := hSw; have c0 := cell_at hs1 0 rfl; have d0 := cell_at hs2 0 rfl; have d1 := cell_at hs2 1 rfl; have d2 := cell_at hs2 2 rfl; have d3 := cell_at hs2 3 rfl; have d4 := cell_at hs2 4 rfl; have d5 := cell_at hs2 5 rfl; have d6 := cell_at hs2 6 rfl; have d7 := cell_at hs2 7 rfl; have e0_ := cell_at hs3 0 rfl; have e1_ := cell_at hs3 1 rfl; obtain ⟨rw0, rw1, rw2, rw3, rw4, rw5, rw6, rw7⟩ := HROW.out u hs4; have hbu : b1 < u.heap.size := (by have := hs4.size; omega); go_simp; try with_reducible rfl)
 try simp only [Act.put, sA, sB, sC]
 refine tk (i := 5) (oi := ⟨some 44, .fieldAddr 156 (.tmp 4) 1, 0, "writer.go:91", #[], none⟩) (v := ?_) (Or.inl ⟨by rfl, ?_⟩) ?_
 rotate_left 1
 ·(intro u hSw; go_simp; try with_reducible rfl)
 try simp only [Act.put, sA, sB, sC]
 refine tk (i := 6) (oi := ⟨some 45, .load 3 (.tmp 44), 3, "writer.go:91", #[⟨5, .data⟩], none⟩) (v := ?_) (Or.inl ⟨by rfl, ?_⟩) ?_
 rotate_left 1
 ·(intro u hSw; obtain ⟨hs1, hs2, hs3, hs4⟩ := hSw; have c0 := cell_at hs1 0 rfl; have d0 := cell_at hs2 0 rfl; have d1 := cell_at hs2 1 rfl; have d2 := cell_at hs2 2 rfl; have d3 := cell_at hs2 3 rfl; have d4 := cell_at hs2 4 rfl; have d5 := cell_at hs2 5 rfl; have d6 := cell_at hs2 6 rfl; have d7 := cell_at hs2 7 rfl; have e0_ := cell_at hs3 0 rfl; have e1_ := cell_at hs3 1 rfl; obtain ⟨rw0, rw1, rw2, rw3, rw4, rw5, rw6, rw7⟩ := HROW.out u hs4; have hbu : b1 < u.heap.size := (by have := hs4.size; omega); go_simp; try with_reducible rfl)
 try simp only [Act.put, sA, sB, sC]
 refine wpAnyH_ready (rs := [7]) (by kernel_rfl) (by simp) ?_
 refine AllReadyH.cons (o := ⟨some 46, .call ⟨.value (.func 95), #[.tmp 39, .tmp 43, .tmp 45], #[69, 40, 3]⟩, 0, "writer.go:91", #[⟨0, .data⟩, ⟨4, .data⟩, ⟨6, .data⟩], none⟩) rfl (fun K hK => ?_) AllReadyH.nil
 go_simp
 go_at_call 95
 refine (HOY.out _ _ (show WrC w1.drew A H B g1 _ from HS1.out.fresh (Below.refl _ _).drew) HB1.out.drew).mono ?_
 rintro e w2 ⟨rfl, g2, hc2, hk2⟩
 go_wp2_with fail
 have HE1_2 := hid ((show Els H B w1.drew g1 _ _ from ⟨HE1_1.out.at_, HE1_1.out.nh, HE1_1.out.nb, HE1_1.out.ng⟩).keep hk2)
 have HE2_2 := hid ((show Els H B w1.drew g1 _ _ from ⟨HE2_1.out.at_, HE2_1.out.nh, HE2_1.out.nb, HE2_1.out.ng⟩).keep hk2)
 have HE3_2 := hid ((show Els H B w1.drew g1 _ _ from ⟨HE3_1.out.at_, HE3_1.out.nh, HE3_1.out.nb, HE3_1.out.ng⟩).keep hk2)
 have HB2 := hid (hk2.low (show WrC w1.drew A H B g1 _ from HS1.out.fresh (Below.refl _ _).drew) hA HB1.out.drew)
 have HK2 := hid ((HK1.out.trans (WK.fresh (Below.refl _ _).drew)).trans hk2)
 have HS2 := hid hc2
 clear hc2 hk2
 refine hK.out _ _ ⟨HE1_2.out.at_, HE2_2.out.at_, HE3_2.out.at_, HB2.out⟩ (fun _ => ?_)
 clear hK K
 try simp only [Act.put, sA, sB, sC]
 refine wpAnyH_done (by kernel_rfl) ?_ _
 go_wp2_with fail
 refine bodyPost_ret (results_none rfl _ _ _) rfl ?_
 exact ⟨rfl, g2, HS2.out, HK2.out⟩
set_option maxRecDepth 100000 in
set_option maxHeartbeats 6400000 in
theorem opn_16 {w0 : World} {x : Ex} (hT : Tabs w0)   {y : Ex} (hy : x.args = [y]) (hO : ∀ (l : Int) (b : Value), ExV w0 b y → W2 w0 95 b (.int .i64 l) (y.wr l)) (hM : ∀ l, Mo (y.wr l)) (hop : x.op = 16) (a : Value) (ha : ExV w0 a x) : W1 w0 110 a (opx x) := by
 intro A H B g s w hA hw hc hl
 obtain ⟨p0, p1, rfl, h0, h1⟩ := ha
 obtain ⟨e0, z0, rfl, -, hcell0⟩ := exs_rows h0
 obtain ⟨e1, m1, z1, rfl⟩ := dis_slice h1
 have hlen : x.args.length = 1 := by rw [hy]; rfl
 generalize x.args.length = m0 at *
 subst hlen
 obtain ⟨b1, o1, rfl, hb1, hd1⟩ := hcell0 (by omega)
 obtain ⟨sy0, sy1, pc0, pc1, pc2, pc3, pc4, pc5, pc6, pc7, gy0, gy1⟩ := hd1 0 y (by rw [hy]; rfl)
 obtain ⟨r0, s0, q0, rfl⟩ := dis_slice gy0
 obtain ⟨r1, s1, q1, rfl⟩ := dis_slice gy1
 have HROW := hid (fun (u : World) (hu : Below w0.heap.size w0 u) => (⟨(hu.cell (p := ⟨b1, o1 + 0 * 8, none⟩) hb1).trans pc0, (hu.cell (p := ⟨b1, o1 + 0 * 8 + 1, none⟩) hb1).trans pc1, (hu.cell (p := ⟨b1, o1 + 0 * 8 + 2, none⟩) hb1).trans pc2, (hu.cell (p := ⟨b1, o1 + 0 * 8 + 3, none⟩) hb1).trans pc3, (hu.cell (p := ⟨b1, o1 + 0 * 8 + 4, none⟩) hb1).trans pc4, (hu.cell (p := ⟨b1, o1 + 0 * 8 + 5, none⟩) hb1).trans pc5, (hu.cell (p := ⟨b1, o1 + 0 * 8 + 6, none⟩) hb1).trans pc6, (hu.cell (p := ⟨b1, o1 + 0 * 8 + 7, none⟩) hb1).trans pc7⟩ : u.cell? ⟨b1, o1, none⟩ = some (.int .i64 y.op) ∧ u.cell? ⟨b1, o1 + 1, none⟩ = some (.string (str y.tb)) ∧ u.cell? ⟨b1, o1 + 2, none⟩ = some (.string (str y.nm)) ∧ u.cell? ⟨b1, o1 + 3, none⟩ = some (.int .i64 y.v.k) ∧ u.cell? ⟨b1, o1 + 4, none⟩ = some (.int .i64 y.v.n) ∧ u.cell? ⟨b1, o1 + 5, none⟩ = some (.string (str y.v.s)) ∧ u.cell? ⟨b1, o1 + 6, none⟩ = some (.slice r0 s0 q0) ∧ u.cell? ⟨b1, o1 + 7, none⟩ = some (.slice r1 s1 q1)))
 have e : opx x s = y.wr (opL x.op) (s.put [opT x.op]) := by
  unfold opx opF
  rw [if_neg (by omega), if_neg (by omega), if_neg (by omega), if_pos hop, exsWr_map, hy, hop]
  rfl
 rw [e] at hl ⊢
 have HC3 := hid (fun (oa ob oc : Obj) => ((hc.alloc oa).alloc ob).alloc oc)
 have HB3 := hid (fun (oa ob oc : Obj) => ((hw.alloc hw.size oa).alloc (by have := hw.size; simp; omega) ob).alloc (by have := hw.size; simp; omega) oc)
 have HK3 := hid (fun (oa ob oc : Obj) => (((WK.refl H B w g).alloc oa).alloc ob).alloc oc)
 have HX1 := hid (fun (ob oc : Obj) => (new_els hc (.cells #[.pointer (some ⟨H, 0, none⟩)] 69)).keep (g' := g) (((WK.refl H B _ g).alloc ob).alloc oc))
 have HX2 := hid (fun (oa oc : Obj) => (show Els H B (((w.alloc oa).alloc (.cells #[.int .i64 x.op, .string (str x.tb), .string (str x.nm), .int .i64 x.v.k, .int .i64 x.v.n, .string (str x.v.s), .slice (some ⟨b1, o1, none⟩) 1 z0, .slice e1 m1 z1] 40)).alloc oc) g (w.heap.size + 1) (.cells #[.int .i64 x.op, .string (str x.tb), .string (str x.nm), .int .i64 x.v.k, .int .i64 x.v.n, .string (str x.v.s), .slice (some ⟨b1, o1, none⟩) 1 z0, .slice e1 m1 z1] 40) from by
  have h := (new_els (hc.alloc oa) (.cells #[.int .i64 x.op, .string (str x.tb), .string (str x.nm), .int .i64 x.v.k, .int .i64 x.v.n, .string (str x.v.s), .slice (some ⟨b1, o1, none⟩) 1 z0, .slice e1 m1 z1] 40)).keep (g' := g) ((WK.refl H B _ g).alloc oc)
  rwa [show (w.alloc oa).heap.size = w.heap.size + 1 from by simp] at h))
 have HX3 := hid (fun (oa ob : Obj) => (show Els H B (((w.alloc oa).alloc ob).alloc (.cells #[.string (str (opT x.op)), .int .i64 (opL x.op)] 156)) g (w.heap.size + 2) (.cells #[.string (str (opT x.op)), .int .i64 (opL x.op)] 156) from by
  have h := new_els ((hc.alloc oa).alloc ob) (.cells #[.string (str (opT x.op)), .int .i64 (opL x.op)] 156)
  rwa [show ((w.alloc oa).alloc ob).heap.size = w.heap.size + 2 from by simp] at h))
 obtain ⟨k, hk⟩ : ∃ k : Nat, x.op = (k : Int) := ⟨x.op.toNat, by omega⟩
 have hk30 : k < 30 := by omega
 have tt := (hT.keep hw).ops k hk30
 rw [← hk] at tt
 obtain ⟨t0, t1⟩ := tt
 have t0b : w.cell? ⟨4, k * 2, none⟩ = some (.string (str (opT x.op))) := by rw [Nat.mul_comm]; exact t0
 have t1b : w.cell? ⟨4, k * 2 + 1, none⟩ = some (.int .i64 (opL x.op)) := by rw [Nat.mul_comm]; exact t1
 have hgl := World.block_lt_of_cell? w _ t1
 have f1 : (x.op == (1 : Int)) = false := beq_eq_false_iff_ne.2 (by omega)
 have f2 : (x.op == (2 : Int)) = false := beq_eq_false_iff_ne.2 (by omega)
 have f4 : (x.op == (4 : Int)) = false := beq_eq_false_iff_ne.2 (by omega)
 have f16 : (x.op == (16 : Int)) = true := beq_iff_eq.2 hop
 have hm := hM (opL x.op) (s.put [opT x.op])
 have hrt : Rng (opT x.op) := by rw [hop]; exact rngB rfl
 have HP := hid (fun (o1 o2 o3 : Obj) => put_oneB (w.heap.size + 3) (by simp) (opT x.op) (str (opT x.op)) rfl (HC3.out o1 o2 o3) hrt (by omega))
 have HOY := hid (fun (g1 : Option Nat) (u : World) (h : WrC u A H B g1 (s.put [opT x.op])) (hu : Below w0.heap.size w0 u) => hO (opL x.op) (.agg #[.int .i64 y.op, .string (str y.tb), .string (str y.nm), .int .i64 y.v.k, .int .i64 y.v.n, .string (str y.v.s), .slice r0 s0 q0, .slice r1 s1 q1]) ⟨_, _, rfl, gy0, gy1⟩ A H B g1 _ u hA hu h hl)
 generalize y.wr (opL x.op) (s.put [opT x.op]) = sZ at *
 generalize s.put [opT x.op] = s1_ at *
 have hsz := hw.size
 clear hT hw hc hl h0 h1 e hop hO hM hm hrt hcell0 hd1 gy0 gy1 hy pc0 pc1 pc2 pc3 pc4 pc5 pc6 pc7
 generalize opT x.op = tx at *
 generalize opL x.op = lv at *
 generalize x.op = xo at *
 subst hk
 go_enter Tryz.func110, Tryz.ntmps110
 go_wp2_with (go_at_call 47; refine (HP.out _ _ _).mono ?_; clear HP; rintro e w1 ⟨rfl, g1, hc1, hk⟩; have HE1_1 := hid ((HX1.out _ _).keep hk); have HE2_1 := hid ((HX2.out _ _).keep hk); have HE3_1 := hid ((HX3.out _ _).keep hk); have HS1 := hid hc1; have HB1 := hid (hk.low (HC3.out _ _ _) hA (HB3.out _ _ _)); have HK1 := hid ((HK3.out _ _ _).trans hk); clear hc1 hk)
 refine wp_region_held_drew (S := fun u => (u.heap[w.heap.size]? = some (.cells #[.pointer (some ⟨H, 0, none⟩)] 69 (0, 0)) ∧ u.heap[w.heap.size + 1]? = some (.cells #[.int .i64 ↑k, .string (str x.tb), .string (str x.nm), .int .i64 x.v.k, .int .i64 x.v.n, .string (str x.v.s), .slice (some ⟨b1, o1, none⟩) 1 z0, .slice e1 m1 z1] 40 (0, 0)) ∧ u.heap[w.heap.size + 2]? = some (.cells #[.string (str tx), .int .i64 lv] 156 (0, 0)) ∧ Below w0.heap.size w0 u)) (by kernel_rfl) (⟨HE1_1.out.at_, HE2_1.out.at_, HE3_1.out.at_, HB1.out.drew⟩) (fun hHeld => ?_)
 refine tk (i := 0) (oi := ⟨some 54, .load 69 (.tmp 2), 69, "writer.go:94", #[], none⟩) (v := ?_) (Or.inl ⟨by rfl, ?_⟩) ?_
 rotate_left 1
 ·(intro u hSw; obtain ⟨hs1, hs2, hs3, hs4⟩ := hSw; have c0 := cell_at hs1 0 rfl; have d0 := cell_at hs2 0 rfl; have d1 := cell_at hs2 1 rfl; have d2 := cell_at hs2 2 rfl; have d3 := cell_at hs2 3 rfl; have d4 := cell_at hs2 4 rfl; have d5 := cell_at hs2 5 rfl; have d6 := cell_at hs2 6 rfl; have d7 := cell_at hs2 7 rfl; have e0_ := cell_at hs3 0 rfl; have e1_ := cell_at hs3 1 rfl; obtain ⟨rw0, rw1, rw2, rw3, rw4, rw5, rw6, rw7⟩ := HROW.out u hs4; have hbu : b1 < u.heap.size := (by have := hs4.size; omega); go_simp; try with_reducible rfl)
 try simp only [Act.put, sA, sB, sC]
 refine tk (i := 1) (oi := ⟨some 55, .fieldAddr 40 (.tmp 3) 4, 0, "writer.go:94", #[], none⟩) (v := ?_) (Or.inl ⟨by rfl, ?_⟩) ?_
 rotate_left 1
 ·(intro u hSw; go_simp; try with_reducible rfl)
 try simp only [Act.put, sA, sB, sC]
 refine tk (i := 2) (oi := ⟨some 56, .load 25 (.tmp 55), 25, "writer.go:94", #[⟨1, .data⟩], none⟩) (v := ?_) (Or.inl ⟨by rfl, ?_⟩) ?_
 rotate_left 1
 ·(intro u hSw; obtain ⟨hs1, hs2, hs3, hs4⟩ := hSw; have c0 := cell_at hs1 0 rfl; have d0 := cell_at hs2 0 rfl; have d1 := cell_at hs2 1 rfl; have d2 := cell_at hs2 2 rfl; have d3 := cell_at hs2 3 rfl; have d4 := cell_at hs2 4 rfl; have d5 := cell_at hs2 5 rfl; have d6 := cell_at hs2 6 rfl; have d7 := cell_at hs2 7 rfl; have e0_ := cell_at hs3 0 rfl; have e1_ := cell_at hs3 1 rfl; obtain ⟨rw0, rw1, rw2, rw3, rw4, rw5, rw6, rw7⟩ := HROW.out u hs4; have hbu : b1 < u.heap.size := (by have := hs4.size; omega); go_simp; try with_reducible rfl)
 try simp only [Act.put, sA, sB, sC]
 refine tk (i := 3) (oi := ⟨some 57, .indexAddr 25 (.tmp 56) (.const (Value.int IntKind.i64 0)), 0, "writer.go:94", #[⟨2, .data⟩], none⟩) (v := ?_) (Or.inl ⟨by rfl, ?_⟩) ?_
 rotate_left 1
 ·(intro u hSw; go_simp; try with_reducible rfl)
 try simp only [Act.put, sA, sB, sC]
 refine tk (i := 4) (oi := ⟨some 58, .load 40 (.tmp 57), 40, "writer.go:94", #[⟨3, .data⟩], none⟩) (v := ?_) (Or.inl ⟨by rfl, ?_⟩) ?_
 rotate_left 1
 ·(intro u hSw; obtain ⟨hs1, hs2, hs3, hs4⟩ := hSw; have c0 := cell_at hs1 0 rfl; have d0 := cell_at hs2 0 rfl; have d1 := cell_at hs2 1 rfl; have d2 := cell_at hs2 2 rfl; have d3 := cell_at hs2 3 rfl; have d4 := cell_at hs2 4 rfl; have d5 := cell_at hs2 5 rfl; have d6 := cell_at hs2 6 rfl; have d7 := cell_at hs2 7 rfl; have e0_ := cell_at hs3 0 rfl; have e1_ := cell_at hs3 1 rfl; obtain ⟨rw0, rw1, rw2, rw3, rw4, rw5, rw6, rw7⟩ := HROW.out u hs4; have hbu : b1 < u.heap.size := (by have := hs4.size; omega); go_simp; try with_reducible rfl)
 try simp only [Act.put, sA, sB, sC]
 refine tk (i := 5) (oi := ⟨some 59, .fieldAddr 156 (.tmp 4) 1, 0, "writer.go:94", #[], none⟩) (v := ?_) (Or.inl ⟨by rfl, ?_⟩) ?_
 rotate_left 1
 ·(intro u hSw; go_simp; try with_reducible rfl)
 try simp only [Act.put, sA, sB, sC]
 refine tk (i := 6) (oi := ⟨some 60, .load 3 (.tmp 59), 3, "writer.go:94", #[⟨5, .data⟩], none⟩) (v := ?_) (Or.inl ⟨by rfl, ?_⟩) ?_
 rotate_left 1
 ·(intro u hSw; obtain ⟨hs1, hs2, hs3, hs4⟩ := hSw; have c0 := cell_at hs1 0 rfl; have d0 := cell_at hs2 0 rfl; have d1 := cell_at hs2 1 rfl; have d2 := cell_at hs2 2 rfl; have d3 := cell_at hs2 3 rfl; have d4 := cell_at hs2 4 rfl; have d5 := cell_at hs2 5 rfl; have d6 := cell_at hs2 6 rfl; have d7 := cell_at hs2 7 rfl; have e0_ := cell_at hs3 0 rfl; have e1_ := cell_at hs3 1 rfl; obtain ⟨rw0, rw1, rw2, rw3, rw4, rw5, rw6, rw7⟩ := HROW.out u hs4; have hbu : b1 < u.heap.size := (by have := hs4.size; omega); go_simp; try with_reducible rfl)
 try simp only [Act.put, sA, sB, sC]
 refine wpAnyH_ready (rs := [7]) (by kernel_rfl) (by simp) ?_
 refine AllReadyH.cons (o := ⟨some 61, .call ⟨.value (.func 95), #[.tmp 54, .tmp 58, .tmp 60], #[69, 40, 3]⟩, 0, "writer.go:94", #[⟨0, .data⟩, ⟨4, .data⟩, ⟨6, .data⟩], none⟩) rfl (fun K hK => ?_) AllReadyH.nil
 go_simp
 go_at_call 95
 refine (HOY.out _ _ (show WrC w1.drew A H B g1 _ from HS1.out.fresh (Below.refl _ _).drew) HB1.out.drew).mono ?_
 rintro e w2 ⟨rfl, g2, hc2, hk2⟩
 go_wp2_with fail
 have HE1_2 := hid ((show Els H B w1.drew g1 _ _ from ⟨HE1_1.out.at_, HE1_1.out.nh, HE1_1.out.nb, HE1_1.out.ng⟩).keep hk2)
 have HE2_2 := hid ((show Els H B w1.drew g1 _ _ from ⟨HE2_1.out.at_, HE2_1.out.nh, HE2_1.out.nb, HE2_1.out.ng⟩).keep hk2)
 have HE3_2 := hid ((show Els H B w1.drew g1 _ _ from ⟨HE3_1.out.at_, HE3_1.out.nh, HE3_1.out.nb, HE3_1.out.ng⟩).keep hk2)
 have HB2 := hid (hk2.low (show WrC w1.drew A H B g1 _ from HS1.out.fresh (Below.refl _ _).drew) hA HB1.out.drew)
 have HK2 := hid ((HK1.out.trans (WK.fresh (Below.refl _ _).drew)).trans hk2)
 have HS2 := hid hc2
 clear hc2 hk2
 refine hK.out _ _ ⟨HE1_2.out.at_, HE2_2.out.at_, HE3_2.out.at_, HB2.out⟩ (fun _ => ?_)
 clear hK K
 try simp only [Act.put, sA, sB, sC]
 refine wpAnyH_done (by kernel_rfl) ?_ _
 go_wp2_with fail
 refine bodyPost_ret (results_none rfl _ _ _) rfl ?_
 exact ⟨rfl, g2, HS2.out, HK2.out⟩
end Go.Proofs.YtegkbagnbnoopaaGreatDoor
