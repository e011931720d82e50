/- PrintSame: the law's walk -/
import Derived.Test.YtegkbagnbnoopaaGreatDoorPs00
import Derived.Test.YtegkbagnbnoopaaGreatDoorPs01
import Derived.Test.YtegkbagnbnoopaaGreatDoorPs07
import Derived.Test.YtegkbagnbnoopaaGreatDoorPs09
import Derived.Test.YtegkbagnbnoopaaGreatDoorPs29
import Derived.Test.YtegkbagnbnoopaaGreatDoorRows
import Derived.Shelf.Vars
import Derived.ChangeArms
namespace Go.Proofs.YtegkbagnbnoopaaGreatDoor
open Go.ChangeShapes Go.WideShapes Go.ChangeAt Go.RowKit Go.Deep
open Go.Lib (hid)
set_option maxRecDepth 100000 in
set_option maxHeartbeats 12800000 in
theorem same_walk (w : World) (hT : Tabs w) (h7 : Tab7 w) (x y : Qu) (a b : Value) (ha : QuV w a x) (hb : QuV w b y) (zx : Da.sizeR x.da ≤ 1073741823) (zy : Da.sizeR y.da ≤ 1073741823) (ox : x.OK) (oy : y.OK) :
  Calls Tryz.prog 3 #[a, b] w (fun e w' => e = .returned (.bool true) ∧ Below w.heap.size w w') := by
 have HVA := hid ha
 have HVB := hid hb
 obtain ⟨t0, t1, t2, t3, t4, t5, t6, rfl, h0, h1, h2, h3, h4, h5, h6⟩ := ha
 obtain ⟨pa0, pn0, pk0, rfl⟩ := dis_slice h0
 obtain ⟨pa1, pn1, pk1, rfl⟩ := dis_slice h1
 obtain ⟨pa2, pn2, pk2, rfl⟩ := dis_slice h2
 obtain ⟨pa3, pn3, pk3, rfl⟩ := dis_slice h3
 obtain ⟨pa4, pn4, pk4, rfl⟩ := dis_slice h4
 obtain ⟨pa5, pn5, pk5, rfl⟩ := dis_slice h5
 obtain ⟨pa6, pn6, pk6, rfl⟩ := dis_slice h6
 clear h0 h1 h2 h3 h4 h5 h6
 obtain ⟨t0, t1, t2, t3, t4, t5, t6, rfl, h0, h1, h2, h3, h4, h5, h6⟩ := hb
 obtain ⟨qa0, qn0, qk0, rfl⟩ := dis_slice h0
 obtain ⟨qa1, qn1, qk1, rfl⟩ := dis_slice h1
 obtain ⟨qa2, qn2, qk2, rfl⟩ := dis_slice h2
 obtain ⟨qa3, qn3, qk3, rfl⟩ := dis_slice h3
 obtain ⟨qa4, qn4, qk4, rfl⟩ := dis_slice h4
 obtain ⟨qa5, qn5, qk5, rfl⟩ := dis_slice h5
 obtain ⟨qa6, qn6, qk6, rfl⟩ := dis_slice h6
 clear h0 h1 h2 h3 h4 h5 h6
 obtain ⟨W2, hW2⟩ : ∃ W, W = (w.alloc (.cells #[.int .i64 x.op, .slice pa0 pn0 pk0, .bool x.sel.dist, .slice pa1 pn1 pk1, .slice pa2 pn2 pk2, .slice pa3 pn3 pk3, .slice pa4 pn4 pk4, .slice pa5 pn5 pk5, .slice pa6 pn6 pk6, .bool x.lim, .int .i64 x.n] 30)).alloc (.cells #[.int .i64 y.op, .slice qa0 qn0 qk0, .bool y.sel.dist, .slice qa1 qn1 qk1, .slice qa2 qn2 qk2, .slice qa3 qn3 qk3, .slice qa4 qn4 qk4, .slice qa5 qn5 qk5, .slice qa6 qn6 qk6, .bool y.lim, .int .i64 y.n] 30) := ⟨_, rfl⟩
 have hw2 : Below w.heap.size w W2 := by rw [hW2]; exact ((Below.refl _ _).alloc (Nat.le_refl _) _).alloc (by simp) _
 have hsz : W2.heap.size = w.heap.size + 2 := by rw [hW2]; simp
 have HXA := hid (show W2.heap[w.heap.size]? = some (.cells #[.int .i64 x.op, .slice pa0 pn0 pk0, .bool x.sel.dist, .slice pa1 pn1 pk1, .slice pa2 pn2 pk2, .slice pa3 pn3 pk3, .slice pa4 pn4 pk4, .slice pa5 pn5 pk5, .slice pa6 pn6 pk6, .bool x.lim, .int .i64 x.n] 30 (0, 0)) from by rw [hW2]; exact hp_al (heap_alloc_new w (.cells #[.int .i64 x.op, .slice pa0 pn0 pk0, .bool x.sel.dist, .slice pa1 pn1 pk1, .slice pa2 pn2 pk2, .slice pa3 pn3 pk3, .slice pa4 pn4 pk4, .slice pa5 pn5 pk5, .slice pa6 pn6 pk6, .bool x.lim, .int .i64 x.n] 30)) (.cells #[.int .i64 y.op, .slice qa0 qn0 qk0, .bool y.sel.dist, .slice qa1 qn1 qk1, .slice qa2 qn2 qk2, .slice qa3 qn3 qk3, .slice qa4 qn4 qk4, .slice qa5 qn5 qk5, .slice qa6 qn6 qk6, .bool y.lim, .int .i64 y.n] 30))
 have HXB := hid (show W2.heap[w.heap.size + 1]? = some (.cells #[.int .i64 y.op, .slice qa0 qn0 qk0, .bool y.sel.dist, .slice qa1 qn1 qk1, .slice qa2 qn2 qk2, .slice qa3 qn3 qk3, .slice qa4 qn4 qk4, .slice qa5 qn5 qk5, .slice qa6 qn6 qk6, .bool y.lim, .int .i64 y.n] 30 (0, 0)) from by
  rw [hW2]
  have h := heap_alloc_new (w.alloc (.cells #[.int .i64 x.op, .slice pa0 pn0 pk0, .bool x.sel.dist, .slice pa1 pn1 pk1, .slice pa2 pn2 pk2, .slice pa3 pn3 pk3, .slice pa4 pn4 pk4, .slice pa5 pn5 pk5, .slice pa6 pn6 pk6, .bool x.lim, .int .i64 x.n] 30)) (.cells #[.int .i64 y.op, .slice qa0 qn0 qk0, .bool y.sel.dist, .slice qa1 qn1 qk1, .slice qa2 qn2 qk2, .slice qa3 qn3 qk3, .slice qa4 qn4 qk4, .slice qa5 qn5 qk5, .slice qa6 qn6 qk6, .bool y.lim, .int .i64 y.n] 30)
  rwa [show (w.alloc (.cells #[.int .i64 x.op, .slice pa0 pn0 pk0, .bool x.sel.dist, .slice pa1 pn1 pk1, .slice pa2 pn2 pk2, .slice pa3 pn3 pk3, .slice pa4 pn4 pk4, .slice pa5 pn5 pk5, .slice pa6 pn6 pk6, .bool x.lim, .int .i64 x.n] 30)).heap.size = w.heap.size + 1 from by simp] at h)
 obtain ⟨q, hq⟩ : ∃ q : Bool, (q = true ↔ x = y) := by
  by_cases h : x = y
  ·exact ⟨true, by simp [h]⟩
  ·exact ⟨false, by simp [h]⟩
 have hq2 : q = true ↔ y = x := hq.trans eq_comm
 have HAW := hid (fun (u : World) (hu : Below W2.heap.size W2 u) => awake_any u (hT.keep (hw2.trans (hu.mono hw2.size))) (h7.keep (hw2.trans (hu.mono hw2.size))))
 have HS1 := hid (fun (u : World) (hu : Below W2.heap.size W2 u) => (by
  refine (same_any x y u _ _ (by omega) (by omega) ox oy (HVA.out.keep (hw2.trans (hu.mono hw2.size))) (HVB.out.keep (hw2.trans (hu.mono hw2.size)))).mono ?_
  rintro e w' ⟨c, rfl, hc, hb⟩
  have hcq : c = q := Bool.eq_iff_iff.2 (hc.trans hq.symm)
  subst hcq
  exact ⟨rfl, hb⟩ : Calls Tryz.prog 6 #[(.agg #[.int .i64 x.op, .slice pa0 pn0 pk0, .bool x.sel.dist, .slice pa1 pn1 pk1, .slice pa2 pn2 pk2, .slice pa3 pn3 pk3, .slice pa4 pn4 pk4, .slice pa5 pn5 pk5, .slice pa6 pn6 pk6, .bool x.lim, .int .i64 x.n]), (.agg #[.int .i64 y.op, .slice qa0 qn0 qk0, .bool y.sel.dist, .slice qa1 qn1 qk1, .slice qa2 qn2 qk2, .slice qa3 qn3 qk3, .slice qa4 qn4 qk4, .slice qa5 qn5 qk5, .slice qa6 qn6 qk6, .bool y.lim, .int .i64 y.n])] u (fun e w' => e = .returned (.bool q) ∧ Below u.heap.size u w')))
 have HS2 := hid (fun (u : World) (hu : Below W2.heap.size W2 u) => (by
  refine (same_any y x u _ _ (by omega) (by omega) oy ox (HVB.out.keep (hw2.trans (hu.mono hw2.size))) (HVA.out.keep (hw2.trans (hu.mono hw2.size)))).mono ?_
  rintro e w' ⟨c, rfl, hc, hb⟩
  have hcq : c = q := Bool.eq_iff_iff.2 (hc.trans hq2.symm)
  subst hcq
  exact ⟨rfl, hb⟩ : Calls Tryz.prog 6 #[(.agg #[.int .i64 y.op, .slice qa0 qn0 qk0, .bool y.sel.dist, .slice qa1 qn1 qk1, .slice qa2 qn2 qk2, .slice qa3 qn3 qk3, .slice qa4 qn4 qk4, .slice qa5 qn5 qk5, .slice qa6 qn6 qk6, .bool y.lim, .int .i64 y.n]), (.agg #[.int .i64 x.op, .slice pa0 pn0 pk0, .bool x.sel.dist, .slice pa1 pn1 pk1, .slice pa2 pn2 pk2, .slice pa3 pn3 pk3, .slice pa4 pn4 pk4, .slice pa5 pn5 pk5, .slice pa6 pn6 pk6, .bool x.lim, .int .i64 x.n])] u (fun e w' => e = .returned (.bool q) ∧ Below u.heap.size u w')))
 have HR1 := hid (fun (u : World) (hu : Below W2.heap.size W2 u) => (by
  refine (rsame_any x y u _ _ (by omega) (by omega) ox oy (HVA.out.keep (hw2.trans (hu.mono hw2.size))) (HVB.out.keep (hw2.trans (hu.mono hw2.size)))).mono ?_
  rintro e w' ⟨c, rfl, hc, hb⟩
  have hcq : c = q := Bool.eq_iff_iff.2 (hc.trans hq.symm)
  subst hcq
  exact ⟨rfl, hb⟩ : Calls Tryz.prog 7 #[(.agg #[.int .i64 x.op, .slice pa0 pn0 pk0, .bool x.sel.dist, .slice pa1 pn1 pk1, .slice pa2 pn2 pk2, .slice pa3 pn3 pk3, .slice pa4 pn4 pk4, .slice pa5 pn5 pk5, .slice pa6 pn6 pk6, .bool x.lim, .int .i64 x.n]), (.agg #[.int .i64 y.op, .slice qa0 qn0 qk0, .bool y.sel.dist, .slice qa1 qn1 qk1, .slice qa2 qn2 qk2, .slice qa3 qn3 qk3, .slice qa4 qn4 qk4, .slice qa5 qn5 qk5, .slice qa6 qn6 qk6, .bool y.lim, .int .i64 y.n])] u (fun e w' => e = .returned (.bool q) ∧ Below u.heap.size u w')))
 have HCP := hid (fun (u : World) (hu : Below W2.heap.size W2 u) => rcopy_any x zx u _ (HVA.out.keep (hw2.trans (hu.mono hw2.size))))
 have HSC := hid (fun (u : World) (hu : Below W2.heap.size W2 u) (v : Value) (hv : QuV u v x) => (by
  refine (same_any x x u _ _ (by omega) (by omega) ox ox (HVA.out.keep (hw2.trans (hu.mono hw2.size))) hv).mono ?_
  rintro e w' ⟨c, rfl, hc, hb⟩
  have hcc := hc.2 rfl
  subst hcc
  exact ⟨rfl, hb⟩ : Calls Tryz.prog 6 #[(.agg #[.int .i64 x.op, .slice pa0 pn0 pk0, .bool x.sel.dist, .slice pa1 pn1 pk1, .slice pa2 pn2 pk2, .slice pa3 pn3 pk3, .slice pa4 pn4 pk4, .slice pa5 pn5 pk5, .slice pa6 pn6 pk6, .bool x.lim, .int .i64 x.n]), v] u (fun e w' => e = .returned (.bool true) ∧ Below u.heap.size u w')))
 have HSZ := hid hsz
 have HW2 := hid hw2
 clear hT h7 HVA HVB zx zy ox oy hq hq2 hsz hw2
 cases q
 all_goals
  go_enter Tryz.func3, Tryz.ntmps3
  go_wp2_with fail
  rw [← hW2]
  clear hW2
  have hb0 : Below W2.heap.size W2 W2 := Below.refl _ _
  refine wp_region_held_drew (S := fun u => Below W2.heap.size W2 u) (by kernel_rfl) (hb0.drew) (fun hHeld => ?_)
  refine wpAnyH_ready (rs := [0]) (by kernel_rfl) (by simp) ?_
  refine (AllReadyH.cons (o := ⟨some 5, .call ⟨.value (.func 5), #[], #[]⟩, 4, "law.go:46", #[], none⟩) rfl (fun K hK => ?_) AllReadyH.nil)
  go_simp
  go_at_call 5
  have hh := HAW.out _ hHeld
  with_reducible refine Calls.mono hh ?_
  clear hh
  intro e w' hh
  obtain ⟨rfl, hb⟩ := hh
  go_wp2_with fail
  refine hK.out _ _ (hHeld.trans (hb.mono hHeld.size)) (fun hHeld => ?_)
  clear hK K
  try simp only [Act.put, sA, sB, sC]
  refine tk (i := 1) (oi := ⟨some 6, .move (.tmp 5), 4, "law.go:46", #[⟨0, .data⟩, ⟨0, .chain⟩], none⟩) (v := ?_) (Or.inl ⟨by rfl, ?_⟩) ?_
  rotate_left 1
  ·(intro u hSw; go_simp; try with_reducible rfl)
  try simp only [Act.put, sA, sB, sC]
  refine tk (i := 2) (oi := ⟨some 7, .load 30 (.tmp 2), 30, "law.go:46", #[⟨1, .guard⟩], some (1, true)⟩) (v := ?_) (Or.inl ⟨by rfl, ?_⟩) ?_
  rotate_left 1
  ·(intro u hSw; have k1 := (hSw.block w.heap.size (by rw [HSZ.out]; omega)).trans HXA.out; have k2 := (hSw.block (w.heap.size + 1) (by rw [HSZ.out]; omega)).trans HXB.out; have p0 := cell_at k1 0 rfl; have p1 := cell_at k1 1 rfl; have p2 := cell_at k1 2 rfl; have p3 := cell_at k1 3 rfl; have p4 := cell_at k1 4 rfl; have p5 := cell_at k1 5 rfl; have p6 := cell_at k1 6 rfl; have p7 := cell_at k1 7 rfl; have p8 := cell_at k1 8 rfl; have p9 := cell_at k1 9 rfl; have p10 := cell_at k1 10 rfl; have q0 := cell_at k2 0 rfl; have q1 := cell_at k2 1 rfl; have q2 := cell_at k2 2 rfl; have q3 := cell_at k2 3 rfl; have q4 := cell_at k2 4 rfl; have q5 := cell_at k2 5 rfl; have q6 := cell_at k2 6 rfl; have q7 := cell_at k2 7 rfl; have q8 := cell_at k2 8 rfl; have q9 := cell_at k2 9 rfl; have q10 := cell_at k2 10 rfl; go_simp; try with_reducible rfl)
  try simp only [Act.put, sA, sB, sC]
  refine tk (i := 3) (oi := ⟨some 8, .load 30 (.tmp 3), 30, "law.go:46", #[⟨1, .guard⟩], some (1, true)⟩) (v := ?_) (Or.inl ⟨by rfl, ?_⟩) ?_
  rotate_left 1
  ·(intro u hSw; have k1 := (hSw.block w.heap.size (by rw [HSZ.out]; omega)).trans HXA.out; have k2 := (hSw.block (w.heap.size + 1) (by rw [HSZ.out]; omega)).trans HXB.out; have p0 := cell_at k1 0 rfl; have p1 := cell_at k1 1 rfl; have p2 := cell_at k1 2 rfl; have p3 := cell_at k1 3 rfl; have p4 := cell_at k1 4 rfl; have p5 := cell_at k1 5 rfl; have p6 := cell_at k1 6 rfl; have p7 := cell_at k1 7 rfl; have p8 := cell_at k1 8 rfl; have p9 := cell_at k1 9 rfl; have p10 := cell_at k1 10 rfl; have q0 := cell_at k2 0 rfl; have q1 := cell_at k2 1 rfl; have q2 := cell_at k2 2 rfl; have q3 := cell_at k2 3 rfl; have q4 := cell_at k2 4 rfl; have q5 := cell_at k2 5 rfl; have q6 := cell_at k2 6 rfl; have q7 := cell_at k2 7 rfl; have q8 := cell_at k2 8 rfl; have q9 := cell_at k2 9 rfl; have q10 := cell_at k2 10 rfl; go_simp; try with_reducible rfl)
  try simp only [Act.put, sA, sB, sC]
  refine tk (i := 5) (oi := ⟨some 10, .load 30 (.tmp 2), 30, "law.go:46", #[⟨1, .guard⟩], some (1, true)⟩) (v := ?_) (Or.inl ⟨by rfl, ?_⟩) ?_
  rotate_left 1
  ·(intro u hSw; have k1 := (hSw.block w.heap.size (by rw [HSZ.out]; omega)).trans HXA.out; have k2 := (hSw.block (w.heap.size + 1) (by rw [HSZ.out]; omega)).trans HXB.out; have p0 := cell_at k1 0 rfl; have p1 := cell_at k1 1 rfl; have p2 := cell_at k1 2 rfl; have p3 := cell_at k1 3 rfl; have p4 := cell_at k1 4 rfl; have p5 := cell_at k1 5 rfl; have p6 := cell_at k1 6 rfl; have p7 := cell_at k1 7 rfl; have p8 := cell_at k1 8 rfl; have p9 := cell_at k1 9 rfl; have p10 := cell_at k1 10 rfl; have q0 := cell_at k2 0 rfl; have q1 := cell_at k2 1 rfl; have q2 := cell_at k2 2 rfl; have q3 := cell_at k2 3 rfl; have q4 := cell_at k2 4 rfl; have q5 := cell_at k2 5 rfl; have q6 := cell_at k2 6 rfl; have q7 := cell_at k2 7 rfl; have q8 := cell_at k2 8 rfl; have q9 := cell_at k2 9 rfl; have q10 := cell_at k2 10 rfl; go_simp; try with_reducible rfl)
  try simp only [Act.put, sA, sB, sC]
  refine tk (i := 6) (oi := ⟨some 11, .load 30 (.tmp 3), 30, "law.go:46", #[⟨1, .guard⟩], some (1, true)⟩) (v := ?_) (Or.inl ⟨by rfl, ?_⟩) ?_
  rotate_left 1
  ·(intro u hSw; have k1 := (hSw.block w.heap.size (by rw [HSZ.out]; omega)).trans HXA.out; have k2 := (hSw.block (w.heap.size + 1) (by rw [HSZ.out]; omega)).trans HXB.out; have p0 := cell_at k1 0 rfl; have p1 := cell_at k1 1 rfl; have p2 := cell_at k1 2 rfl; have p3 := cell_at k1 3 rfl; have p4 := cell_at k1 4 rfl; have p5 := cell_at k1 5 rfl; have p6 := cell_at k1 6 rfl; have p7 := cell_at k1 7 rfl; have p8 := cell_at k1 8 rfl; have p9 := cell_at k1 9 rfl; have p10 := cell_at k1 10 rfl; have q0 := cell_at k2 0 rfl; have q1 := cell_at k2 1 rfl; have q2 := cell_at k2 2 rfl; have q3 := cell_at k2 3 rfl; have q4 := cell_at k2 4 rfl; have q5 := cell_at k2 5 rfl; have q6 := cell_at k2 6 rfl; have q7 := cell_at k2 7 rfl; have q8 := cell_at k2 8 rfl; have q9 := cell_at k2 9 rfl; have q10 := cell_at k2 10 rfl; go_simp; try with_reducible rfl)
  try simp only [Act.put, sA, sB, sC]
  refine wpAnyH_ready (rs := [4]) (by kernel_rfl) (by simp) ?_
  refine (AllReadyH.cons (o := ⟨some 9, .call ⟨.value (.func 6), #[.tmp 7, .tmp 8], #[30, 30]⟩, 4, "law.go:46", #[⟨2, .data⟩, ⟨3, .data⟩, ⟨1, .chain⟩, ⟨1, .guard⟩], some (1, true)⟩) rfl (fun K hK => ?_) AllReadyH.nil)
  go_simp
  go_at_call 6
  have hh := HS1.out _ hHeld
  with_reducible refine Calls.mono hh ?_
  clear hh
  intro e w' hh
  obtain ⟨rfl, hb⟩ := hh
  go_wp2_with fail
  refine hK.out _ _ (hHeld.trans (hb.mono hHeld.size)) (fun hHeld => ?_)
  clear hK K
  try simp only [Act.put, sA, sB, sC]
  refine wpAnyH_ready (rs := [7]) (by kernel_rfl) (by simp) ?_
  refine (AllReadyH.cons (o := ⟨some 12, .call ⟨.value (.func 7), #[.tmp 10, .tmp 11], #[30, 30]⟩, 4, "law.go:46", #[⟨5, .data⟩, ⟨6, .data⟩, ⟨4, .chain⟩, ⟨1, .guard⟩], some (1, true)⟩) rfl (fun K hK => ?_) AllReadyH.nil)
  go_simp
  go_at_call 7
  have hh := HR1.out _ hHeld
  with_reducible refine Calls.mono hh ?_
  clear hh
  intro e w' hh
  obtain ⟨rfl, hb⟩ := hh
  go_wp2_with fail
  refine hK.out _ _ (hHeld.trans (hb.mono hHeld.size)) (fun hHeld => ?_)
  clear hK K
  try simp only [Act.put, sA, sB, sC]
  refine tk (i := 8) (oi := ⟨some 13, .binOp BinOp.eql 4 (.tmp 9) (.tmp 12) 4, 4, "law.go:46", #[⟨4, .data⟩, ⟨7, .data⟩, ⟨1, .guard⟩], some (1, true)⟩) (v := ?_) (Or.inl ⟨by rfl, ?_⟩) ?_
  rotate_left 1
  ·(intro u hSw; go_simp; try with_reducible rfl)
  try simp only [Act.put, sA, sB, sC]
  refine tk (i := 9) (oi := ⟨some 14, .pick (.tmp 6) (.tmp 13) (.const (Value.bool false)), 4, "law.go:46", #[⟨1, .data⟩, ⟨8, .data⟩], none⟩) (v := ?_) (Or.inl ⟨by rfl, ?_⟩) ?_
  rotate_left 1
  ·(intro u hSw; go_simp; try with_reducible rfl)
  try simp only [Act.put, sA, sB, sC]
  refine tk (i := 10) (oi := ⟨some 15, .move (.tmp 14), 4, "law.go:46", #[⟨9, .data⟩, ⟨7, .chain⟩], none⟩) (v := ?_) (Or.inl ⟨by rfl, ?_⟩) ?_
  rotate_left 1
  ·(intro u hSw; go_simp; try with_reducible rfl)
  try simp only [Act.put, sA, sB, sC]
  refine tk (i := 11) (oi := ⟨some 16, .load 30 (.tmp 3), 30, "law.go:46", #[⟨10, .guard⟩], some (10, true)⟩) (v := ?_) (Or.inl ⟨by rfl, ?_⟩) ?_
  rotate_left 1
  ·(intro u hSw; have k1 := (hSw.block w.heap.size (by rw [HSZ.out]; omega)).trans HXA.out; have k2 := (hSw.block (w.heap.size + 1) (by rw [HSZ.out]; omega)).trans HXB.out; have p0 := cell_at k1 0 rfl; have p1 := cell_at k1 1 rfl; have p2 := cell_at k1 2 rfl; have p3 := cell_at k1 3 rfl; have p4 := cell_at k1 4 rfl; have p5 := cell_at k1 5 rfl; have p6 := cell_at k1 6 rfl; have p7 := cell_at k1 7 rfl; have p8 := cell_at k1 8 rfl; have p9 := cell_at k1 9 rfl; have p10 := cell_at k1 10 rfl; have q0 := cell_at k2 0 rfl; have q1 := cell_at k2 1 rfl; have q2 := cell_at k2 2 rfl; have q3 := cell_at k2 3 rfl; have q4 := cell_at k2 4 rfl; have q5 := cell_at k2 5 rfl; have q6 := cell_at k2 6 rfl; have q7 := cell_at k2 7 rfl; have q8 := cell_at k2 8 rfl; have q9 := cell_at k2 9 rfl; have q10 := cell_at k2 10 rfl; go_simp; try with_reducible rfl)
  try simp only [Act.put, sA, sB, sC]
  refine tk (i := 12) (oi := ⟨some 17, .load 30 (.tmp 2), 30, "law.go:46", #[⟨10, .guard⟩], some (10, true)⟩) (v := ?_) (Or.inl ⟨by rfl, ?_⟩) ?_
  rotate_left 1
  ·(intro u hSw; have k1 := (hSw.block w.heap.size (by rw [HSZ.out]; omega)).trans HXA.out; have k2 := (hSw.block (w.heap.size + 1) (by rw [HSZ.out]; omega)).trans HXB.out; have p0 := cell_at k1 0 rfl; have p1 := cell_at k1 1 rfl; have p2 := cell_at k1 2 rfl; have p3 := cell_at k1 3 rfl; have p4 := cell_at k1 4 rfl; have p5 := cell_at k1 5 rfl; have p6 := cell_at k1 6 rfl; have p7 := cell_at k1 7 rfl; have p8 := cell_at k1 8 rfl; have p9 := cell_at k1 9 rfl; have p10 := cell_at k1 10 rfl; have q0 := cell_at k2 0 rfl; have q1 := cell_at k2 1 rfl; have q2 := cell_at k2 2 rfl; have q3 := cell_at k2 3 rfl; have q4 := cell_at k2 4 rfl; have q5 := cell_at k2 5 rfl; have q6 := cell_at k2 6 rfl; have q7 := cell_at k2 7 rfl; have q8 := cell_at k2 8 rfl; have q9 := cell_at k2 9 rfl; have q10 := cell_at k2 10 rfl; go_simp; try with_reducible rfl)
  try simp only [Act.put, sA, sB, sC]
  refine tk (i := 14) (oi := ⟨some 19, .load 30 (.tmp 2), 30, "law.go:46", #[⟨10, .guard⟩], some (10, true)⟩) (v := ?_) (Or.inl ⟨by rfl, ?_⟩) ?_
  rotate_left 1
  ·(intro u hSw; have k1 := (hSw.block w.heap.size (by rw [HSZ.out]; omega)).trans HXA.out; have k2 := (hSw.block (w.heap.size + 1) (by rw [HSZ.out]; omega)).trans HXB.out; have p0 := cell_at k1 0 rfl; have p1 := cell_at k1 1 rfl; have p2 := cell_at k1 2 rfl; have p3 := cell_at k1 3 rfl; have p4 := cell_at k1 4 rfl; have p5 := cell_at k1 5 rfl; have p6 := cell_at k1 6 rfl; have p7 := cell_at k1 7 rfl; have p8 := cell_at k1 8 rfl; have p9 := cell_at k1 9 rfl; have p10 := cell_at k1 10 rfl; have q0 := cell_at k2 0 rfl; have q1 := cell_at k2 1 rfl; have q2 := cell_at k2 2 rfl; have q3 := cell_at k2 3 rfl; have q4 := cell_at k2 4 rfl; have q5 := cell_at k2 5 rfl; have q6 := cell_at k2 6 rfl; have q7 := cell_at k2 7 rfl; have q8 := cell_at k2 8 rfl; have q9 := cell_at k2 9 rfl; have q10 := cell_at k2 10 rfl; go_simp; try with_reducible rfl)
  try simp only [Act.put, sA, sB, sC]
  refine tk (i := 15) (oi := ⟨some 20, .load 30 (.tmp 3), 30, "law.go:46", #[⟨10, .guard⟩], some (10, true)⟩) (v := ?_) (Or.inl ⟨by rfl, ?_⟩) ?_
  rotate_left 1
  ·(intro u hSw; have k1 := (hSw.block w.heap.size (by rw [HSZ.out]; omega)).trans HXA.out; have k2 := (hSw.block (w.heap.size + 1) (by rw [HSZ.out]; omega)).trans HXB.out; have p0 := cell_at k1 0 rfl; have p1 := cell_at k1 1 rfl; have p2 := cell_at k1 2 rfl; have p3 := cell_at k1 3 rfl; have p4 := cell_at k1 4 rfl; have p5 := cell_at k1 5 rfl; have p6 := cell_at k1 6 rfl; have p7 := cell_at k1 7 rfl; have p8 := cell_at k1 8 rfl; have p9 := cell_at k1 9 rfl; have p10 := cell_at k1 10 rfl; have q0 := cell_at k2 0 rfl; have q1 := cell_at k2 1 rfl; have q2 := cell_at k2 2 rfl; have q3 := cell_at k2 3 rfl; have q4 := cell_at k2 4 rfl; have q5 := cell_at k2 5 rfl; have q6 := cell_at k2 6 rfl; have q7 := cell_at k2 7 rfl; have q8 := cell_at k2 8 rfl; have q9 := cell_at k2 9 rfl; have q10 := cell_at k2 10 rfl; go_simp; try with_reducible rfl)
  try simp only [Act.put, sA, sB, sC]
  refine wpAnyH_ready (rs := [13]) (by kernel_rfl) (by simp) ?_
  refine (AllReadyH.cons (o := ⟨some 18, .call ⟨.value (.func 6), #[.tmp 16, .tmp 17], #[30, 30]⟩, 4, "law.go:46", #[⟨11, .data⟩, ⟨12, .data⟩, ⟨10, .chain⟩, ⟨10, .guard⟩], some (10, true)⟩) rfl (fun K hK => ?_) AllReadyH.nil)
  go_simp
  go_at_call 6
  have hh := HS2.out _ hHeld
  with_reducible refine Calls.mono hh ?_
  clear hh
  intro e w' hh
  obtain ⟨rfl, hb⟩ := hh
  go_wp2_with fail
  refine hK.out _ _ (hHeld.trans (hb.mono hHeld.size)) (fun hHeld => ?_)
  clear hK K
  try simp only [Act.put, sA, sB, sC]
  refine wpAnyH_ready (rs := [16]) (by kernel_rfl) (by simp) ?_
  refine (AllReadyH.cons (o := ⟨some 21, .call ⟨.value (.func 7), #[.tmp 19, .tmp 20], #[30, 30]⟩, 4, "law.go:46", #[⟨14, .data⟩, ⟨15, .data⟩, ⟨13, .chain⟩, ⟨10, .guard⟩], some (10, true)⟩) rfl (fun K hK => ?_) AllReadyH.nil)
  go_simp
  go_at_call 7
  have hh := HR1.out _ hHeld
  with_reducible refine Calls.mono hh ?_
  clear hh
  intro e w' hh
  obtain ⟨rfl, hb⟩ := hh
  go_wp2_with fail
  refine hK.out _ _ (hHeld.trans (hb.mono hHeld.size)) (fun hHeld => ?_)
  clear hK K
  try simp only [Act.put, sA, sB, sC]
  refine tk (i := 17) (oi := ⟨some 22, .binOp BinOp.eql 4 (.tmp 18) (.tmp 21) 4, 4, "law.go:46", #[⟨13, .data⟩, ⟨16, .data⟩, ⟨10, .guard⟩], some (10, true)⟩) (v := ?_) (Or.inl ⟨by rfl, ?_⟩) ?_
  rotate_left 1
  ·(intro u hSw; go_simp; try with_reducible rfl)
  try simp only [Act.put, sA, sB, sC]
  refine tk (i := 18) (oi := ⟨some 23, .pick (.tmp 15) (.tmp 22) (.const (Value.bool false)), 4, "law.go:46", #[⟨10, .data⟩, ⟨17, .data⟩], none⟩) (v := ?_) (Or.inl ⟨by rfl, ?_⟩) ?_
  rotate_left 1
  ·(intro u hSw; go_simp; try with_reducible rfl)
  try simp only [Act.put, sA, sB, sC]
  refine tk (i := 19) (oi := ⟨some 24, .move (.tmp 23), 4, "law.go:46", #[⟨18, .data⟩, ⟨16, .chain⟩], none⟩) (v := ?_) (Or.inl ⟨by rfl, ?_⟩) ?_
  rotate_left 1
  ·(intro u hSw; go_simp; try with_reducible rfl)
  try simp only [Act.put, sA, sB, sC]
  refine tk (i := 20) (oi := ⟨some 25, .load 30 (.tmp 2), 30, "law.go:46", #[⟨19, .guard⟩], some (19, true)⟩) (v := ?_) (Or.inl ⟨by rfl, ?_⟩) ?_
  rotate_left 1
  ·(intro u hSw; have k1 := (hSw.block w.heap.size (by rw [HSZ.out]; omega)).trans HXA.out; have k2 := (hSw.block (w.heap.size + 1) (by rw [HSZ.out]; omega)).trans HXB.out; have p0 := cell_at k1 0 rfl; have p1 := cell_at k1 1 rfl; have p2 := cell_at k1 2 rfl; have p3 := cell_at k1 3 rfl; have p4 := cell_at k1 4 rfl; have p5 := cell_at k1 5 rfl; have p6 := cell_at k1 6 rfl; have p7 := cell_at k1 7 rfl; have p8 := cell_at k1 8 rfl; have p9 := cell_at k1 9 rfl; have p10 := cell_at k1 10 rfl; have q0 := cell_at k2 0 rfl; have q1 := cell_at k2 1 rfl; have q2 := cell_at k2 2 rfl; have q3 := cell_at k2 3 rfl; have q4 := cell_at k2 4 rfl; have q5 := cell_at k2 5 rfl; have q6 := cell_at k2 6 rfl; have q7 := cell_at k2 7 rfl; have q8 := cell_at k2 8 rfl; have q9 := cell_at k2 9 rfl; have q10 := cell_at k2 10 rfl; go_simp; try with_reducible rfl)
  try simp only [Act.put, sA, sB, sC]
  refine tk (i := 21) (oi := ⟨some 26, .load 30 (.tmp 2), 30, "law.go:46", #[⟨19, .guard⟩], some (19, true)⟩) (v := ?_) (Or.inl ⟨by rfl, ?_⟩) ?_
  rotate_left 1
  ·(intro u hSw; have k1 := (hSw.block w.heap.size (by rw [HSZ.out]; omega)).trans HXA.out; have k2 := (hSw.block (w.heap.size + 1) (by rw [HSZ.out]; omega)).trans HXB.out; have p0 := cell_at k1 0 rfl; have p1 := cell_at k1 1 rfl; have p2 := cell_at k1 2 rfl; have p3 := cell_at k1 3 rfl; have p4 := cell_at k1 4 rfl; have p5 := cell_at k1 5 rfl; have p6 := cell_at k1 6 rfl; have p7 := cell_at k1 7 rfl; have p8 := cell_at k1 8 rfl; have p9 := cell_at k1 9 rfl; have p10 := cell_at k1 10 rfl; have q0 := cell_at k2 0 rfl; have q1 := cell_at k2 1 rfl; have q2 := cell_at k2 2 rfl; have q3 := cell_at k2 3 rfl; have q4 := cell_at k2 4 rfl; have q5 := cell_at k2 5 rfl; have q6 := cell_at k2 6 rfl; have q7 := cell_at k2 7 rfl; have q8 := cell_at k2 8 rfl; have q9 := cell_at k2 9 rfl; have q10 := cell_at k2 10 rfl; go_simp; try with_reducible rfl)
  try simp only [Act.put, sA, sB, sC]
  refine wpAnyH_ready (rs := [22]) (by kernel_rfl) (by simp) ?_
  refine (AllReadyH.cons (o := ⟨some 27, .call ⟨.value (.func 8), #[.tmp 26], #[30]⟩, 30, "law.go:46", #[⟨21, .data⟩, ⟨19, .chain⟩, ⟨19, .guard⟩], some (19, true)⟩) rfl (fun K hK => ?_) AllReadyH.nil)
  go_simp
  go_at_call 8
  have hh := HCP.out _ hHeld
  with_reducible refine Calls.mono hh ?_
  clear hh
  intro e w' hh
  obtain ⟨v, rfl, hv, hb⟩ := hh
  have HV := hid hv
  clear hv
  go_wp2_with fail
  refine hK.out _ _ (hHeld.trans (hb.mono hHeld.size)) (fun hHeld => ?_)
  clear hK K
  try simp only [Act.put, sA, sB, sC]
  refine wpAnyH_ready (rs := [23]) (by kernel_rfl) (by simp) ?_
  refine (AllReadyH.cons (o := ⟨some 28, .call ⟨.value (.func 6), #[.tmp 25, .tmp 27], #[30, 30]⟩, 4, "law.go:46", #[⟨20, .data⟩, ⟨22, .data⟩, ⟨22, .chain⟩, ⟨19, .guard⟩], some (19, true)⟩) rfl (fun K hK => ?_) AllReadyH.nil)
  go_simp
  go_at_call 6
  have hh := HSC.out _ hHeld v (by first | exact HV.out | exact HV.out.keep (Below.refl _ _).drew)
  with_reducible refine Calls.mono hh ?_
  clear hh
  intro e w' hh
  obtain ⟨rfl, hb⟩ := hh
  go_wp2_with fail
  refine hK.out _ _ (hHeld.trans (hb.mono hHeld.size)) (fun hHeld => ?_)
  clear hK K
  try simp only [Act.put, sA, sB, sC]
  refine tk (i := 24) (oi := ⟨some 29, .pick (.tmp 24) (.tmp 28) (.const (Value.bool false)), 4, "law.go:46", #[⟨19, .data⟩, ⟨23, .data⟩], none⟩) (v := ?_) (Or.inl ⟨by rfl, ?_⟩) ?_
  rotate_left 1
  ·(intro u hSw; go_simp; try with_reducible rfl)
  try simp only [Act.put, sA, sB, sC]
  refine tk (i := 25) (oi := ⟨some 4, .assign (.tmp 29), 4, "law.go:46", #[⟨24, .data⟩, ⟨23, .chain⟩, ⟨0, .phase⟩, ⟨1, .phase⟩, ⟨2, .phase⟩, ⟨3, .phase⟩, ⟨4, .phase⟩, ⟨5, .phase⟩, ⟨6, .phase⟩, ⟨7, .phase⟩, ⟨8, .phase⟩, ⟨9, .phase⟩, ⟨10, .phase⟩, ⟨11, .phase⟩, ⟨12, .phase⟩, ⟨13, .phase⟩, ⟨14, .phase⟩, ⟨15, .phase⟩, ⟨16, .phase⟩, ⟨17, .phase⟩, ⟨18, .phase⟩, ⟨19, .phase⟩, ⟨20, .phase⟩, ⟨21, .phase⟩, ⟨22, .phase⟩, ⟨23, .phase⟩, ⟨24, .phase⟩], none⟩) (v := ?_) (Or.inl ⟨by rfl, ?_⟩) ?_
  rotate_left 1
  ·(intro u hSw; go_simp; try with_reducible rfl)
  try simp only [Act.put, sA, sB, sC]
  refine wpAnyH_done (by kernel_rfl) ?_ _
  go_wp2_with fail
  go_ret
  exact ⟨rfl, HW2.out.trans (hHeld.mono HW2.out.size)⟩
end Go.Proofs.YtegkbagnbnoopaaGreatDoor
/- an argument that is a query is a tree -/
namespace Go.Proofs.YtegkbagnbnoopaaGreatDoor
open Go.ChangeShapes Go.WideShapes Go.ChangeAt Go.RowKit Go.Deep
open Go.Lib (hid)
theorem quv_of {W : World} {Tb : List (TypeId × List CK)} (hT : HasQ Tb) {cs : List Value} {b : Nat} {ds : List Da} (h : Reads W Tb LQu cs b ds) : ∃ x : Qu, ds = x.da ∧ x.OK ∧ Da.sizeR x.da ≤ b ∧ QuV W (.agg cs.toArray) x := by
 obtain ⟨h1, h2, h3, h4, h5⟩ := h
 obtain ⟨x, rfl, ox⟩ := qu_of hT ⟨h2, h4⟩
 refine ⟨x, rfl, ox, h5, ?_⟩
 match cs, h1 with
 | [c0, c1, c2, c3, c4, c5, c6, c7, c8, c9, c10], _ =>
  obtain ⟨op, ps, ⟨_, _, _, _, _, _⟩, _, _, _⟩ := x
  obtain rfl := dis_sc (h3 0 _ _ rfl rfl)
  have d1 := h3 1 _ _ rfl rfl
  obtain rfl := dis_sc (h3 2 _ _ rfl rfl)
  have d3 := h3 3 _ _ rfl rfl
  have d4 := h3 4 _ _ rfl rfl
  have d5 := h3 5 _ _ rfl rfl
  have d6 := h3 6 _ _ rfl rfl
  have d7 := h3 7 _ _ rfl rfl
  have d8 := h3 8 _ _ rfl rfl
  obtain rfl := dis_sc (h3 9 _ _ rfl rfl)
  obtain rfl := dis_sc (h3 10 _ _ rfl rfl)
  exact ⟨c1, c3, c4, c5, c6, c7, c8, rfl, d1, d3, d4, d5, d6, d7, d8⟩
end Go.Proofs.YtegkbagnbnoopaaGreatDoor
/- what the row of a law over print lays: its tables; its arguments are trees -/
namespace Go.Proofs.YtegkbagnbnoopaaGreatDoor
open Go.ChangeShapes Go.WideShapes Go.ChangeAt Go.RowKit Go.Deep
open Go.Lib (hid)
theorem laid_in {P : Program} {W : World} : ∀ {l : List (String × DataW Unit)} {ps : List MemPlace}, DataW.LaidVars P W l ps → ∀ n d, (n, d) ∈ l → ∃ g t cs fuel p, P.globalNamed n = some g ∧ (P.globals[g]?).map (·.type) = some t ∧ W.var? P n = some cs ∧ DataW.trod (fun _ => ()) P W 0 (fun _ => true) false fuel t cs.toList = some (d, p)
 | [], _, _, n, d, hx => by cases hx
 | (m, c) :: r, _, h, n, d, hx => by
  obtain ⟨g, t, cs, fuel, p, q, h1, h2, h3, h4, h5, -⟩ := h
  rcases List.mem_cons.1 hx with e | e
  ·injection e with e1 e2
   subst e1 e2
   exact ⟨g, t, cs, fuel, p, h1, h2, h3, h4⟩
  ·exact laid_in h5 n d e
section
variable {P : Program} {W : World} {fuel n : Nat} {t e : TypeId} {cs : List Value} {p : List MemPlace}
theorem tab_elem {D : List (DataW Unit)} (ht : P.underlying t = some (.array n e)) (h : DataW.trod (fun _ => ()) P W 0 (fun _ => true) false fuel t cs = some (.agg D, p)) (k : Nat) (d : DataW Unit) (hk : D[k]? = some d) :
  ∃ m q, DataW.trod (fun _ => ()) P W 0 (fun _ => true) false m e ((cs.drop (k * P.cellsOf e)).take (P.cellsOf e)) = some (d, q) := by
 obtain ⟨xs, m, -, hx, -, hn, hi⟩ := DataW.trod_array ht h
 injection hx with hx1 _
 injection hx1 with hx1
 have hkl := (List.getElem?_eq_some_iff.1 hk).1
 have hl : xs.length = D.length := by rw [hx1, List.length_map]
 have h2 := hi k (by omega)
 obtain ⟨y, hy⟩ : ∃ y, xs[k]? = some y := ⟨_, List.getElem?_eq_getElem (by omega)⟩
 rw [hy] at h2
 refine ⟨m, y.2, h2.trans ?_⟩
 rw [hx1, List.getElem?_map, hy] at hk
 injection hk with hk
 rw [← hk]
theorem tab_field {fs : Array Field} {D : List (DataW Unit)} (ht : P.underlying t = some (.struct fs)) (h : DataW.trod (fun _ => ()) P W 0 (fun _ => true) false fuel t cs = some (.agg D, p)) (k : Nat) (f : Field) (hf : fs[k]? = some f) (d : DataW Unit) (hk : D[k]? = some d) (o c : Nat) (ho : f.offset = o) (hc : P.cellsOf f.type = c) :
  ∃ m q, DataW.trod (fun _ => ()) P W 0 (fun _ => true) false m f.type ((cs.drop o).take c) = some (d, q) := by
 subst ho hc
 obtain ⟨xs, m, -, hx, -, hn, hi⟩ := DataW.trod_struct ht h
 injection hx with hx1 _
 injection hx1 with hx1
 have hkl := (List.getElem?_eq_some_iff.1 hk).1
 have hl : xs.length = D.length := by rw [hx1, List.length_map]
 have h2 := hi k f hf
 obtain ⟨y, hy⟩ : ∃ y, xs[k]? = some y := ⟨_, List.getElem?_eq_getElem (by omega)⟩
 rw [hy] at h2
 refine ⟨m, y.2, h2.trans ?_⟩
 rw [hx1, List.getElem?_map, hy] at hk
 injection hk with hk
 rw [← hk]
theorem lit_str {s : List UInt8} (ht : P.underlying t = some .string) (h : DataW.trod (fun _ => ()) P W 0 (fun _ => true) false fuel t cs = some (.lit (.string s), p)) : cs = [.string ⟨s.toArray⟩] := by
 obtain ⟨b, hb, hx, -⟩ := DataW.trod_string ht h
 injection hx with hx _
 injection hx with hx
 injection hx with hx
 rw [hb, hx]
theorem lit_int {i : Int} (ht : P.underlying t = some (.int .i64)) (h : DataW.trod (fun _ => ()) P W 0 (fun _ => true) false fuel t cs = some (.lit (.int .i64 i), p)) : cs = [.int .i64 i] := by
 obtain ⟨b, hb, hx, -⟩ := DataW.trod_int ht h
 injection hx with hx _
 injection hx with hx
 injection hx with _ hx
 rw [hb, hx]
theorem lit_bool {i : Bool} (ht : P.underlying t = some .bool) (h : DataW.trod (fun _ => ()) P W 0 (fun _ => true) false fuel t cs = some (.lit (.bool i), p)) : cs = [.bool i] := by
 obtain ⟨b, hb, hx⟩ := DataW.trod_bool ht h
 injection hx with hx _
 injection hx with hx
 injection hx with hx
 rw [hb, hx]
theorem take_one {l : List Value} {k : Nat} {v : Value} (h : (l.drop k).take 1 = [v]) : l[k]? = some v := by
  have := congrArg (·[0]?) h
  simpa [List.getElem?_take, List.getElem?_drop] using this
theorem take_in {l : List Value} {a b k : Nat} {v : Value} (h : (((l.drop a).take b).drop k).take 1 = [v]) : l[a + k]? = some v := by
  have := congrArg (·[0]?) h
  simp only [List.getElem?_take, List.getElem?_drop] at this
  split at this
  · split at this
    · simpa using this
    · cases this
  · cases this
end
def opD (q : List Int × Int) : DataW Unit := .agg [.lit (.string (q.1.map fun x => UInt8.ofNat x.toNat)), .lit (.int .i64 q.2)]
def strD (l : List Int) : DataW Unit := .lit (.string (l.map fun x => UInt8.ofNat x.toNat))
theorem data_ops : Rows.laid_touchmark_print_operators = .agg (opsL.map opD) := by kernel_rfl
theorem data_uni : Rows.laid_touchmark_print_unions = .agg (([[], [], unionT 2, unionT 3] : List (List Int)).map strD) := by kernel_rfl
theorem data_joi : Rows.laid_touchmark_print_joins = .agg (([[], joinT 1, joinT 2] : List (List Int)).map strD) := by kernel_rfl
theorem data_pow : (Rows.laid_internal_strconv_uint64pow10 : DataW Unit) = Lib.tabData .u64 Lib.pow10Tab := by kernel_rfl
theorem c1s : Tryz.prog.cellsOf 9 = 1 := by kernel_rfl
theorem c1i : Tryz.prog.cellsOf 3 = 1 := by kernel_rfl
theorem c1b : Tryz.prog.cellsOf 4 = 1 := by kernel_rfl
theorem c2o : Tryz.prog.cellsOf 156 = 2 := by kernel_rfl
theorem c6f : Tryz.prog.cellsOf 102 = 6 := by kernel_rfl
theorem laid_ops {W : World} {ps : List MemPlace} {l : List (String × DataW Unit)} (hl : DataW.LaidVars Tryz.prog W l ps) (hm : ("touchmark/print.operators", Rows.laid_touchmark_print_operators) ∈ l) : ∀ k, k < 30 → W.cell? ⟨4, 2 * k, none⟩ = some (.string (str (opT k))) ∧ W.cell? ⟨4, 2 * k + 1, none⟩ = some (.int .i64 (opL k)) := by
 obtain ⟨g, t, cs, fuel, p, hg, hty, hvar, hd⟩ := laid_in hl _ _ hm
 obtain rfl := Option.some.inj ((show Tryz.prog.globalNamed "touchmark/print.operators" = some 4 by kernel_rfl).symm.trans hg)
 obtain rfl := Option.some.inj ((show (Tryz.prog.globals[4]?).map (·.type) = some 157 by kernel_rfl).symm.trans hty)
 rw [data_ops] at hd
 intro k hk
 obtain ⟨q, hq⟩ : ∃ q, opsL[k]? = some q := ⟨_, List.getElem?_eq_getElem (show k < 30 from hk)⟩
 have hT : opT (k : Int) = q.1 := by unfold opT; rw [Int.toNat_natCast, List.getD_eq_getElem?_getD, hq]; rfl
 have hL : opL (k : Int) = q.2 := by unfold opL; rw [Int.toNat_natCast, List.getD_eq_getElem?_getD, hq]; rfl
 obtain ⟨m, p2, h1⟩ := tab_elem Tryz.underlying157 hd k (opD q) (by rw [List.getElem?_map, hq]; rfl)
 rw [c2o] at h1
 obtain ⟨m3, p3, h3⟩ := tab_field Tryz.underlying156 h1 0 _ rfl _ rfl 0 1 rfl c1s
 obtain ⟨m4, p4, h4⟩ := tab_field Tryz.underlying156 h1 1 _ rfl _ rfl 1 1 rfl c1i
 have e3 := lit_str Tryz.underlying9 h3
 have e4 := lit_int Tryz.underlying3 h4
 have r3 := take_in e3
 have r4 := take_in e4
 rw [hT, hL, World.var?_cell hg hvar, World.var?_cell hg hvar, ← Array.getElem?_toList, ← Array.getElem?_toList, Nat.mul_comm 2 k]
 exact ⟨r3, r4⟩
theorem laid_strs {W : World} {g t n : Nat} {cs : Array Value} {fuel : Nat} {p : List MemPlace} {name : String} {L : List (List Int)} (hg : Tryz.prog.globalNamed name = some g) (hvar : W.var? Tryz.prog name = some cs) (ht : Tryz.prog.underlying t = some (.array n 9)) (hd : DataW.trod (fun _ => ()) Tryz.prog W 0 (fun _ => true) false fuel t cs.toList = some (.agg (L.map strD), p)) (k : Nat) (l : List Int) (hk : L[k]? = some l) : W.cell? ⟨g, k, none⟩ = some (.string (str l)) := by
 obtain ⟨m, p2, h1⟩ := tab_elem ht hd k (strD l) (by rw [List.getElem?_map, hk]; rfl)
 have e := lit_str Tryz.underlying9 h1
 rw [c1s, Nat.mul_one] at e
 have r := take_one e
 rw [World.var?_cell hg hvar, ← Array.getElem?_toList]
 exact r
theorem laid_uni {W : World} {ps : List MemPlace} {l : List (String × DataW Unit)} (hl : DataW.LaidVars Tryz.prog W l ps) (hm : ("touchmark/print.unions", Rows.laid_touchmark_print_unions) ∈ l) : ∀ k, k < 4 → W.cell? ⟨1, k, none⟩ = some (.string (str (unionT k))) := by
 obtain ⟨g, t, cs, fuel, p, hg, hty, hvar, hd⟩ := laid_in hl _ _ hm
 obtain rfl := Option.some.inj ((show Tryz.prog.globalNamed "touchmark/print.unions" = some 1 by kernel_rfl).symm.trans hg)
 obtain rfl := Option.some.inj ((show (Tryz.prog.globals[1]?).map (·.type) = some 125 by kernel_rfl).symm.trans hty)
 rw [data_uni] at hd
 intro k hk
 refine laid_strs hg hvar Tryz.underlying125 hd k _ ?_
 match k, hk with
 | 0, _ => rfl
 | 1, _ => rfl
 | 2, _ => rfl
 | 3, _ => rfl
theorem laid_joi {W : World} {ps : List MemPlace} {l : List (String × DataW Unit)} (hl : DataW.LaidVars Tryz.prog W l ps) (hm : ("touchmark/print.joins", Rows.laid_touchmark_print_joins) ∈ l) : ∀ k, k < 3 → W.cell? ⟨3, k, none⟩ = some (.string (str (joinT k))) := by
 obtain ⟨g, t, cs, fuel, p, hg, hty, hvar, hd⟩ := laid_in hl _ _ hm
 obtain rfl := Option.some.inj ((show Tryz.prog.globalNamed "touchmark/print.joins" = some 3 by kernel_rfl).symm.trans hg)
 obtain rfl := Option.some.inj ((show (Tryz.prog.globals[3]?).map (·.type) = some 154 by kernel_rfl).symm.trans hty)
 rw [data_joi] at hd
 intro k hk
 refine laid_strs hg hvar Tryz.underlying154 hd k _ ?_
 match k, hk with
 | 0, _ => rfl
 | 1, _ => rfl
 | 2, _ => rfl
set_option maxRecDepth 100000 in
theorem laid_stm {W : World} {ps : List MemPlace} {l : List (String × DataW Unit)} (hl : DataW.LaidVars Tryz.prog W l ps) (hm : ("touchmark/print.statements", Rows.laid_touchmark_print_statements) ∈ l) : Tab7 W := by
 obtain ⟨g, t, cs, fuel, p, hg, hty, hvar, hd⟩ := laid_in hl _ _ hm
 obtain rfl := Option.some.inj ((show Tryz.prog.globalNamed "touchmark/print.statements" = some 0 by kernel_rfl).symm.trans hg)
 obtain rfl := Option.some.inj ((show (Tryz.prog.globals[0]?).map (·.type) = some 103 by kernel_rfl).symm.trans hty)
 obtain ⟨D, hD, hD7⟩ : ∃ D, (Rows.laid_touchmark_print_statements : DataW Unit) = .agg D ∧ D[7]? = some (.agg [.lit (.bool false), .lit (.bool false), .lit (.bool false), .lit (.bool false), .lit (.bool false), .lit (.bool false)]) := ⟨_, rfl, rfl⟩
 have hd2 : DataW.trod (fun _ => ()) Tryz.prog W 0 (fun _ => true) false fuel 103 cs.toList = some (.agg D, p) := by rw [hd, hD]
 obtain ⟨m, p2, h1⟩ := tab_elem Tryz.underlying103 hd2 7 _ hD7
 rw [c6f] at h1
 intro j hj
 rw [World.var?_cell hg hvar, ← Array.getElem?_toList]
 match j, hj with
 | 0, _ =>
  obtain ⟨m3, p3, h3⟩ := tab_field Tryz.underlying102 h1 0 _ rfl _ rfl 0 1 rfl c1b
  have e3 := lit_bool Tryz.underlying4 h3
  exact take_in e3
 | 1, _ =>
  obtain ⟨m3, p3, h3⟩ := tab_field Tryz.underlying102 h1 1 _ rfl _ rfl 1 1 rfl c1b
  have e3 := lit_bool Tryz.underlying4 h3
  exact take_in e3
 | 2, _ =>
  obtain ⟨m3, p3, h3⟩ := tab_field Tryz.underlying102 h1 2 _ rfl _ rfl 2 1 rfl c1b
  have e3 := lit_bool Tryz.underlying4 h3
  exact take_in e3
 | 3, _ =>
  obtain ⟨m3, p3, h3⟩ := tab_field Tryz.underlying102 h1 3 _ rfl _ rfl 3 1 rfl c1b
  have e3 := lit_bool Tryz.underlying4 h3
  exact take_in e3
 | 4, _ =>
  obtain ⟨m3, p3, h3⟩ := tab_field Tryz.underlying102 h1 4 _ rfl _ rfl 4 1 rfl c1b
  have e3 := lit_bool Tryz.underlying4 h3
  exact take_in e3
 | 5, _ =>
  obtain ⟨m3, p3, h3⟩ := tab_field Tryz.underlying102 h1 5 _ rfl _ rfl 5 1 rfl c1b
  have e3 := lit_bool Tryz.underlying4 h3
  exact take_in e3
theorem laid_pow {W : World} {ps : List MemPlace} {l : List (String × DataW Unit)} (hl : DataW.LaidVars Tryz.prog W l ps) (hm : ("internal/strconv.uint64pow10", Rows.laid_internal_strconv_uint64pow10) ∈ l) : Lib.TabIs Tryz.prog W "internal/strconv.uint64pow10" .u64 Lib.pow10Tab := by
 obtain ⟨g, t, cs, fuel, p, hg, hty, hvar, hd⟩ := laid_in hl _ _ hm
 obtain rfl := Option.some.inj ((show Tryz.prog.globalNamed "internal/strconv.uint64pow10" = some 5 by kernel_rfl).symm.trans hg)
 obtain rfl := Option.some.inj ((show (Tryz.prog.globals[5]?).map (·.type) = some 160 by kernel_rfl).symm.trans hty)
 rw [data_pow] at hd
 have h := Lib.cells_of_tab Tryz.underlying160 Tryz.underlying144 (by kernel_rfl) (by kernel_rfl) hd
 unfold Lib.TabIs
 rw [hvar, ← h]
theorem laid_tabs {W : World} {ps : List MemPlace} {l : List (String × DataW Unit)} (hl : DataW.LaidVars Tryz.prog W l ps) (m1 : ("touchmark/print.operators", Rows.laid_touchmark_print_operators) ∈ l) (m2 : ("touchmark/print.unions", Rows.laid_touchmark_print_unions) ∈ l) (m3 : ("touchmark/print.joins", Rows.laid_touchmark_print_joins) ∈ l) (m4 : ("internal/strconv.uint64pow10", Rows.laid_internal_strconv_uint64pow10) ∈ l) (hs : W.ShapedOpen Tryz.prog) : Tabs W :=
 ⟨laid_ops hl m1, laid_uni hl m2, laid_joi hl m3, laid_pow hl m4, cell_of_shapedOpen_int (g := 8) (t := 3) (zero := #[.int .i64 0]) hs (of_decide_eq_true (by kernel_rfl)) (by kernel_rfl) rfl (by kernel_rfl) (by kernel_rfl) Tryz.underlying3⟩
end Go.Proofs.YtegkbagnbnoopaaGreatDoor
