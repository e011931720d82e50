/- the checker of print: a query, by its kind -/
import Derived.Test.YtegkbagnbnoopaaGreatDoorPs16
import Derived.Test.YtegkbagnbnoopaaGreatDoorPs17
namespace Go.Proofs.YtegkbagnbnoopaaGreatDoor
open Go.ChangeShapes Go.WideShapes Go.ChangeAt Go.RowKit Go.Deep
open Go.Lib (hid)
set_option maxRecDepth 100000 in
set_option maxHeartbeats 6400000 in
theorem query1_3 {w0 w : World} {x : Qu} {H bc bx : Nat} {s : Ck} {a0 a1 a2 a3 a4 a5 a6 : Option Addr} {k0 k1 k2 k3 k4 k5 k6 : Nat} (hP : ∀ y ∈ x.parts, CIn w0 y) (hSel : CSe w0 x.sel) (hO : ∀ y ∈ x.ord, COb w0 y) (ox : x.OK) (hz : Da.sizeR x.da ≤ 1073741823) (hH : w0.heap.size ≤ H) (hw : Below w0.heap.size w0 w) (hc : CkC w H s)
  (hx1 : w.heap[bc]? = some (.cells #[.pointer (some ⟨H, 0, none⟩)] 67 (0, 0))) (hx2 : w.heap[bx]? = some (.cells #[.int .i64 x.op, .slice a0 x.parts.length k0, .bool x.sel.dist, .slice a1 x.sel.items.length k1, .slice a2 x.sel.fro.length k2, .slice a3 x.sel.wh.length k3, .slice a4 x.sel.gr.length k4, .slice a5 x.sel.hv.length k5, .slice a6 x.ord.length k6, .bool x.lim, .int .i64 x.n] 30 (0, 0))) (hn1 : bc ≠ H) (hn2 : bx ≠ H)
  (ho3 : x.op = 3) (h0 : DIs w0 (.slice a0 x.parts.length k0) (.sl (qusDa x.parts))) (h1 : DIs w0 (.slice a1 x.sel.items.length k1) (.sl (itsDa x.sel.items))) (h2 : DIs w0 (.slice a2 x.sel.fro.length k2) (.sl (sosDa x.sel.fro))) (h3 : DIs w0 (.slice a3 x.sel.wh.length k3) (.sl (exsDa x.sel.wh))) (h4 : DIs w0 (.slice a4 x.sel.gr.length k4) (.sl (exsDa x.sel.gr))) (h5 : DIs w0 (.slice a5 x.sel.hv.length k5) (.sl (exsDa x.sel.hv))) (h6 : DIs w0 (.slice a6 x.ord.length k6) (.sl (obsDa x.ord))) (g : Gd s (obsCk x.ord (x.sel.ck (qusCk x.parts (quB x s))))) :
  Calls Tryz.prog 39 #[.pointer (some ⟨bc, 0, none⟩), .pointer (some ⟨bx, 0, none⟩)] w (CkE w H (obsCk x.ord (x.sel.ck (qusCk x.parts (quB x s))))) := by
 have hl0 := qus_len (Nat.le_of_lt (qu_parts_lt x))
 have hl6 := obs_len (Nat.le_of_lt (qu_ord_lt x))
 obtain ⟨sB, hB⟩ : ∃ q, q = quB x s := ⟨_, rfl⟩
 have hB2 : sB = (s.req (decide (x.n = 0) || (x.lim && decide (0 < x.n)))).req (if x.op = 1 then x.parts.isEmpty && (!x.sel.items.isEmpty && !x.sel.fro.isEmpty) else if x.op = 2 ∨ x.op = 3 then decide (x.parts.length = 2) && x.sel.isZ else false) := hB
 obtain ⟨sC, hC⟩ : ∃ q, q = qusCk x.parts sB := ⟨_, rfl⟩
 obtain ⟨sD, hD⟩ : ∃ q, q = x.sel.ck sC := ⟨_, rfl⟩
 obtain ⟨sE, hE⟩ : ∃ q, q = obsCk x.ord sD := ⟨_, rfl⟩
 have pB : Pr s sB := by rw [hB]; exact (pr_req _ _).trans (pr_req _ _)
 have pC : Pr sB sC := by rw [hC]; exact qus_pr _ _
 have pD : Pr sC sD := by rw [hD]; exact x.sel.pr _
 have pE : Pr sD sE := by rw [hE]; exact obs_pr _ _
 rw [← hB, ← hC, ← hD, ← hE] at g ⊢
 have HRQ := hid (fun (t : Ck) (u : World) (b : Bool) (h : CkC u H t) => req_any H t b u h)
 have HC1 := hid (fun (u : World) (h : CkC u H sB) (hb : Below w0.heap.size w0 u) => by
  have q := eachQu hb hH h h0 (by omega) hP (by rw [← hC]; exact g.part pB (pD.trans pE))
  rw [← hC] at q; exact q)
 have HC2 := hid (fun (u : World) (h : CkC u H sC) (hb : Below w0.heap.size w0 u) => by
  have q := hSel H sC u (.agg #[.bool x.sel.dist, .slice a1 x.sel.items.length k1, .slice a2 x.sel.fro.length k2, .slice a3 x.sel.wh.length k3, .slice a4 x.sel.gr.length k4, .slice a5 x.sel.hv.length k5]) hH hb h ⟨_, _, _, _, _, rfl, h1, h2, h3, h4, h5⟩ (by rw [← hD]; exact g.part (pB.trans pC) pE)
  rw [← hD] at q; exact q)
 have HC3 := hid (fun (u : World) (h : CkC u H sD) (hb : Below w0.heap.size w0 u) => by
  have q := eachOb hb hH h h6 (by omega) hO (by rw [← hE]; exact g.part ((pB.trans pC).trans pD) (Pr.refl _))
  rw [← hE] at q; exact q)
 have HSS := hid (fun (u : World) (hu : Below w0.heap.size w0 u) => sameSelZ x.sel u (.agg #[.bool x.sel.dist, .slice a1 x.sel.items.length k1, .slice a2 x.sel.fro.length k2, .slice a3 x.sel.wh.length k3, .slice a4 x.sel.gr.length k4, .slice a5 x.sel.hv.length k5]) (by have := qu_sel_items_lt x; omega) (by have := qu_sel_fro_lt x; omega) (by have := qu_sel_wh_lt x; omega) (by have := qu_sel_gr_lt x; omega) (by have := qu_sel_hv_lt x; omega) (qu_sel_ok ox) ⟨_, _, _, _, _, rfl, h1.keep hu, h2.keep hu, h3.keep hu, h4.keep hu, h5.keep hu⟩)
 have Kkz : (x.n == (0 : Int)) = decide (x.n = 0) := rfl
 have Kk0 : ((x.parts.length : Int) == 0) = x.parts.isEmpty := len0 _
 have Kk2 : ((x.parts.length : Int) == 2) = decide (x.parts.length = 2) := by rw [Bool.eq_iff_iff, beq_iff_eq, decide_eq_true_eq]; omega
 have Kk4 : decide (0 < x.sel.items.length) = !x.sel.items.isEmpty := len1 _
 have Kk5 : decide (0 < x.sel.fro.length) = !x.sel.fro.isEmpty := len1 _
 have HBB := hid hB2
 have HW := hid hw
 have HNC := hid hn1
 have HNX := hid hn2
 have HS0 := hid hc
 have HB0 := hid (Chg.refl (fun k => k = H) w)
 have HX0 := hid (And.intro hx1 hx2)
 clear hP hSel hO ox hz hw hc hx1 hx2 hn1 hn2 h0 h1 h2 h3 h4 h5 h6 g hl0 hl6 hB hB2 hC hD hE pB pC pD pE
 obtain ⟨bp, Kkp⟩ : ∃ q, q = decide (0 < x.n) := ⟨_, rfl⟩
 rw [← Kkp] at HBB
 replace Kkp := Kkp.symm
 generalize decide (x.n = 0) = bz at *
 generalize x.parts.isEmpty = pe at *
 generalize x.sel.items.isEmpty = ie at *
 generalize x.sel.fro.isEmpty = fe at *
 generalize decide (x.parts.length = 2) = p2 at *
 generalize x.sel.isZ = sz at *
 generalize x.parts.length = n0 at *
 generalize x.sel.items.length = n1 at *
 generalize x.sel.fro.length = n2 at *
 generalize x.sel.wh.length = n3 at *
 generalize x.sel.gr.length = n4 at *
 generalize x.sel.hv.length = n5 at *
 generalize x.ord.length = n6 at *
 generalize hop : x.op = o at *
 clear hop
 generalize x.lim = bl at *
 generalize x.n = o9 at *
 generalize x.sel.dist = o2 at *
 have c0_c := cell_at HX0.out.1 0 rfl
 have c0_0 := cell_at HX0.out.2 0 rfl
 have c0_1 := cell_at HX0.out.2 1 rfl
 have c0_2 := cell_at HX0.out.2 2 rfl
 have c0_3 := cell_at HX0.out.2 3 rfl
 have c0_4 := cell_at HX0.out.2 4 rfl
 have c0_5 := cell_at HX0.out.2 5 rfl
 have c0_6 := cell_at HX0.out.2 6 rfl
 have c0_7 := cell_at HX0.out.2 7 rfl
 have c0_8 := cell_at HX0.out.2 8 rfl
 have c0_9 := cell_at HX0.out.2 9 rfl
 have c0_10 := cell_at HX0.out.2 10 rfl
 have HLim : (bz = true) ∨ (bz = false ∧ bl = false) ∨ (bz = false ∧ bl = true ∧ bp = false) ∨ (bz = false ∧ bl = true ∧ bp = true) := by cases bz <;> cases bl <;> cases bp <;> simp
 subst ho3
 rcases HLim with rfl | ⟨rfl, rfl⟩ | ⟨rfl, rfl, rfl⟩ | ⟨rfl, rfl, rfl⟩
 all_goals
  have HBC := hid (HBB.out.trans (by rw [if_neg (by omega), if_pos (by omega)]))
  clear HBB Kk0 Kk4 Kk5
  cases p2
  ·
   clear HSS
   go_enter Tryz.func39, Tryz.ntmps39
   go_wp2_with (first
    | (go_at_call 40; refine (HRQ.out _ _ _ HS0.out).mono ?_; rintro e w1 ⟨rfl, hc, hb⟩; have x1 := And.intro (chg1_blk hb HX0.out.1 HNC.out) (chg1_blk hb HX0.out.2 HNX.out); clear c0_c c0_0 c0_1 c0_2 c0_3 c0_4 c0_5 c0_6 c0_7 c0_8 c0_9 c0_10; have HX1 := hid x1; have c1_c := cell_at HX1.out.1 0 rfl; have c1_0 := cell_at HX1.out.2 0 rfl; have c1_1 := cell_at HX1.out.2 1 rfl; have c1_2 := cell_at HX1.out.2 2 rfl; have c1_3 := cell_at HX1.out.2 3 rfl; have c1_4 := cell_at HX1.out.2 4 rfl; have c1_5 := cell_at HX1.out.2 5 rfl; have c1_6 := cell_at HX1.out.2 6 rfl; have c1_7 := cell_at HX1.out.2 7 rfl; have c1_8 := cell_at HX1.out.2 8 rfl; have c1_9 := cell_at HX1.out.2 9 rfl; have c1_10 := cell_at HX1.out.2 10 rfl; have HS1 := hid hc; have HB1 := hid (chg1 HB0.out hb); clear hb hc x1)
    | fail)
   refine wp_region_held_drew (S := fun u => (u.heap[bc]? = some (.cells #[.pointer (some ⟨H, 0, none⟩)] 67 (0, 0)) ∧ ∃ q : Bool, u.heap[bx]? = some (.cells #[.int .i64 3, .slice a0 n0 k0, .bool o2, .slice a1 n1 k1, .slice a2 n2 k2, .slice a3 n3 k3, .slice a4 n4 k4, .slice a5 n5 k5, .slice a6 n6 k6, .bool q, .int .i64 o9] 30 (0, 0)))) (by kernel_rfl) (⟨HX1.out.1, _, HX1.out.2⟩) (fun hHeld => ?_)
   refine tk (i := 0) (oi := ⟨some 45, .load 67 (.tmp 0), 67, "checker.go:97", #[], none⟩) (v := ?_) (Or.inl ⟨by rfl, ?_⟩) ?_
   rotate_left 1
   ·(intro u hSw; obtain ⟨hs1, q, hs2⟩ := hSw; have p0 := cell_at hs1 0 rfl; have q0 := cell_at hs2 0 rfl; have q1 := cell_at hs2 1 rfl; have q2 := cell_at hs2 2 rfl; have q3 := cell_at hs2 3 rfl; have q4 := cell_at hs2 4 rfl; have q5 := cell_at hs2 5 rfl; have q6 := cell_at hs2 6 rfl; have q7 := cell_at hs2 7 rfl; have q8 := cell_at hs2 8 rfl; have q9 := cell_at hs2 9 rfl; have q10 := cell_at hs2 10 rfl; go_simp; try with_reducible rfl)
   try simp only [Act.put, sA, sB, sC]
   refine tk (i := 1) (oi := ⟨some 46, .fieldAddr 30 (.tmp 1) 1, 0, "checker.go:97", #[], none⟩) (v := ?_) (Or.inl ⟨by rfl, ?_⟩) ?_
   rotate_left 1
   ·(intro u hSw; go_simp; try with_reducible rfl)
   try simp only [Act.put, sA, sB, sC]
   refine tk (i := 2) (oi := ⟨some 47, .load 22 (.tmp 46), 22, "checker.go:97", #[⟨1, .data⟩], none⟩) (v := ?_) (Or.inl ⟨by rfl, ?_⟩) ?_
   rotate_left 1
   ·(intro u hSw; obtain ⟨hs1, q, hs2⟩ := hSw; have p0 := cell_at hs1 0 rfl; have q0 := cell_at hs2 0 rfl; have q1 := cell_at hs2 1 rfl; have q2 := cell_at hs2 2 rfl; have q3 := cell_at hs2 3 rfl; have q4 := cell_at hs2 4 rfl; have q5 := cell_at hs2 5 rfl; have q6 := cell_at hs2 6 rfl; have q7 := cell_at hs2 7 rfl; have q8 := cell_at hs2 8 rfl; have q9 := cell_at hs2 9 rfl; have q10 := cell_at hs2 10 rfl; go_simp; try with_reducible rfl)
   try simp only [Act.put, sA, sB, sC]
   refine tk (i := 3) (oi := ⟨some 48, .call ⟨.builtin .len, #[.tmp 47], #[22]⟩, 3, "checker.go:97", #[⟨2, .data⟩], none⟩) (v := ?_) (Or.inl ⟨by rfl, ?_⟩) ?_
   rotate_left 1
   ·(intro u hSw; go_simp; try with_reducible rfl)
   try simp only [Act.put, sA, sB, sC]
   refine tk (i := 4) (oi := ⟨some 49, .binOp BinOp.eql 3 (.tmp 48) (.const (Value.int IntKind.i64 2)) 3, 4, "checker.go:97", #[⟨3, .data⟩], none⟩) (v := ?_) (Or.inl ⟨by rfl, ?_⟩) ?_
   rotate_left 1
   ·(intro u hSw; go_simp; try with_reducible rfl)
   try simp only [Act.put, sA, sB, sC]
   refine tk (i := 5) (oi := ⟨some 50, .move (.tmp 49), 4, "checker.go:97", #[⟨4, .data⟩], none⟩) (v := ?_) (Or.inl ⟨by rfl, ?_⟩) ?_
   rotate_left 1
   ·(intro u hSw; go_simp; try with_reducible rfl)
   try simp only [Act.put, sA, sB, sC]
   refine wpAnyH_take (i := 6) (oi := ({ dst := some 51, op := .fieldAddr 30 (.tmp 1) 2, type := 0, pos := "checker.go:97", after := #[{ on := 5, ground := .guard }], guard := some (5, true) } : Oper)) (v := undef) rfl (by kernel_rfl) (by kernel_rfl) (by kernel_rfl) (fun _ _ _ h => h) (by exact .inr ⟨by rfl, rfl⟩) (by assumption) ?_
   try simp only [Act.put, sA, sB, sC]
   refine wpAnyH_take (i := 7) (oi := ({ dst := some 52, op := .load 27 (.tmp 51), type := 27, pos := "checker.go:97", after := #[{ on := 6, ground := .data }, { on := 5, ground := .guard }], guard := some (5, true) } : Oper)) (v := undef) rfl (by kernel_rfl) (by kernel_rfl) (by kernel_rfl) (fun _ _ _ h => h) (by exact .inr ⟨by rfl, rfl⟩) (by assumption) ?_
   try simp only [Act.put, sA, sB, sC]
   refine wpAnyH_take (i := 8) (oi := ({ dst := some 53, op := .build 27 #[], type := 27, pos := "checker.go:97", after := #[{ on := 5, ground := .guard }], guard := some (5, true) } : Oper)) (v := undef) rfl (by kernel_rfl) (by kernel_rfl) (by kernel_rfl) (fun _ _ _ h => h) (by exact .inr ⟨by rfl, rfl⟩) (by assumption) ?_
   try simp only [Act.put, sA, sB, sC]
   refine wpAnyH_take (i := 9) (oi := ({ dst := some 54, op := .call { callee := Callee.value (Operand.func 13), args := #[.tmp 52, .tmp 53], argTypes := #[27, 27] }, type := 4, pos := "checker.go:97", after := #[{ on := 7, ground := .data }, { on := 8, ground := .data }, { on := 5, ground := .chain }, { on := 5, ground := .guard }], guard := some (5, true) } : Oper)) (v := undef) rfl (by kernel_rfl) (by kernel_rfl) (by kernel_rfl) (fun _ _ _ h => h) (by exact .inr ⟨by rfl, rfl⟩) (by assumption) ?_
   try simp only [Act.put, sA, sB, sC]
   refine tk (i := 10) (oi := ⟨some 55, .pick (.tmp 50) (.tmp 54) (.const (Value.bool false)), 4, "checker.go:97", #[⟨5, .data⟩, ⟨9, .data⟩], none⟩) (v := ?_) (Or.inl ⟨by rfl, ?_⟩) ?_
   rotate_left 1
   ·(intro u hSw; go_simp; try with_reducible rfl)
   try simp only [Act.put, sA, sB, sC]
   refine wpAnyH_ready (rs := [11]) (by kernel_rfl) (by simp) ?_
   refine AllReadyH.cons (o := ⟨some 56, .call ⟨.value (.func 40), #[.tmp 45, .tmp 55], #[67, 4]⟩, 0, "checker.go:97", #[⟨0, .data⟩, ⟨10, .data⟩, ⟨9, .chain⟩], none⟩) rfl (fun K hK => ?_) AllReadyH.nil
   go_simp
   go_at_call 40
   refine (HRQ.out _ _ _ (show CkC w1.drew H _ from HS1.out)).mono ?_
   rintro e w2 ⟨rfl, hc, hb⟩
   go_wp2_with fail
   have HS2 := hid hc
   have HB2 := hid (chg1 HB1.out.drew hb)
   have HX2 := hid (And.intro (chg1_blk hb (show w1.drew.heap[bc]? = _ from HX1.out.1) HNC.out) (chg1_blk hb (show w1.drew.heap[bx]? = _ from HX1.out.2) HNX.out))
   clear hb hc
   refine hK.out _ _ ⟨HX2.out.1, _, HX2.out.2⟩ (fun _ => ?_)
   clear hK K
   try simp only [Act.put, sA, sB, sC]
   refine wpAnyH_done (by kernel_rfl) ?_ _
   have c2_c := cell_at HX2.out.1 0 rfl
   have c2_0 := cell_at HX2.out.2 0 rfl
   have c2_1 := cell_at HX2.out.2 1 rfl
   have c2_2 := cell_at HX2.out.2 2 rfl
   have c2_3 := cell_at HX2.out.2 3 rfl
   have c2_4 := cell_at HX2.out.2 4 rfl
   have c2_5 := cell_at HX2.out.2 5 rfl
   have c2_6 := cell_at HX2.out.2 6 rfl
   have c2_7 := cell_at HX2.out.2 7 rfl
   have c2_8 := cell_at HX2.out.2 8 rfl
   have c2_9 := cell_at HX2.out.2 9 rfl
   have c2_10 := cell_at HX2.out.2 10 rfl
   go_wp2_with (first
    | (go_at_call 41; refine (HC1.out _ (by rw [HBC.out]; exact HS2.out) (bw HW.out HB2.out hH)).mono ?_; clear HC1; rintro e w3 ⟨rfl, hc, hb⟩; have x1 := And.intro (chg1_blk hb HX2.out.1 HNC.out) (chg1_blk hb HX2.out.2 HNX.out); clear c2_c c2_0 c2_1 c2_2 c2_3 c2_4 c2_5 c2_6 c2_7 c2_8 c2_9 c2_10; have HX3 := hid x1; have c3_c := cell_at HX3.out.1 0 rfl; have c3_0 := cell_at HX3.out.2 0 rfl; have c3_1 := cell_at HX3.out.2 1 rfl; have c3_2 := cell_at HX3.out.2 2 rfl; have c3_3 := cell_at HX3.out.2 3 rfl; have c3_4 := cell_at HX3.out.2 4 rfl; have c3_5 := cell_at HX3.out.2 5 rfl; have c3_6 := cell_at HX3.out.2 6 rfl; have c3_7 := cell_at HX3.out.2 7 rfl; have c3_8 := cell_at HX3.out.2 8 rfl; have c3_9 := cell_at HX3.out.2 9 rfl; have c3_10 := cell_at HX3.out.2 10 rfl; have HS3 := hid hc; have HB3 := hid (chg1 HB2.out hb); clear hb hc x1)
    | (go_at_call 43; refine (HC2.out _ HS3.out (bw HW.out HB3.out hH)).mono ?_; clear HC2; rintro e w4 ⟨rfl, hc, hb⟩; have x1 := And.intro (chg1_blk hb HX3.out.1 HNC.out) (chg1_blk hb HX3.out.2 HNX.out); clear c3_c c3_0 c3_1 c3_2 c3_3 c3_4 c3_5 c3_6 c3_7 c3_8 c3_9 c3_10; have HX4 := hid x1; have c4_c := cell_at HX4.out.1 0 rfl; have c4_0 := cell_at HX4.out.2 0 rfl; have c4_1 := cell_at HX4.out.2 1 rfl; have c4_2 := cell_at HX4.out.2 2 rfl; have c4_3 := cell_at HX4.out.2 3 rfl; have c4_4 := cell_at HX4.out.2 4 rfl; have c4_5 := cell_at HX4.out.2 5 rfl; have c4_6 := cell_at HX4.out.2 6 rfl; have c4_7 := cell_at HX4.out.2 7 rfl; have c4_8 := cell_at HX4.out.2 8 rfl; have c4_9 := cell_at HX4.out.2 9 rfl; have c4_10 := cell_at HX4.out.2 10 rfl; have HS4 := hid hc; have HB4 := hid (chg1 HB3.out hb); clear hb hc x1)
    | (go_at_call 44; refine (HC3.out _ HS4.out (bw HW.out HB4.out hH)).mono ?_; clear HC3; rintro e w5 ⟨rfl, hc, hb⟩; have x1 := And.intro (chg1_blk hb HX4.out.1 HNC.out) (chg1_blk hb HX4.out.2 HNX.out); clear c4_c c4_0 c4_1 c4_2 c4_3 c4_4 c4_5 c4_6 c4_7 c4_8 c4_9 c4_10; have HX5 := hid x1; have c5_c := cell_at HX5.out.1 0 rfl; have c5_0 := cell_at HX5.out.2 0 rfl; have c5_1 := cell_at HX5.out.2 1 rfl; have c5_2 := cell_at HX5.out.2 2 rfl; have c5_3 := cell_at HX5.out.2 3 rfl; have c5_4 := cell_at HX5.out.2 4 rfl; have c5_5 := cell_at HX5.out.2 5 rfl; have c5_6 := cell_at HX5.out.2 6 rfl; have c5_7 := cell_at HX5.out.2 7 rfl; have c5_8 := cell_at HX5.out.2 8 rfl; have c5_9 := cell_at HX5.out.2 9 rfl; have c5_10 := cell_at HX5.out.2 10 rfl; have HS5 := hid hc; have HB5 := hid (chg1 HB4.out hb); clear hb hc x1)
    | fail)
   refine bodyPost_ret (results_none rfl _ _ _) rfl ?_
   exact ⟨rfl, HS5.out, HB5.out⟩
  ·
   go_enter Tryz.func39, Tryz.ntmps39
   go_wp2_with (first
    | (go_at_call 40; refine (HRQ.out _ _ _ HS0.out).mono ?_; rintro e w1 ⟨rfl, hc, hb⟩; have x1 := And.intro (chg1_blk hb HX0.out.1 HNC.out) (chg1_blk hb HX0.out.2 HNX.out); clear c0_c c0_0 c0_1 c0_2 c0_3 c0_4 c0_5 c0_6 c0_7 c0_8 c0_9 c0_10; have HX1 := hid x1; have c1_c := cell_at HX1.out.1 0 rfl; have c1_0 := cell_at HX1.out.2 0 rfl; have c1_1 := cell_at HX1.out.2 1 rfl; have c1_2 := cell_at HX1.out.2 2 rfl; have c1_3 := cell_at HX1.out.2 3 rfl; have c1_4 := cell_at HX1.out.2 4 rfl; have c1_5 := cell_at HX1.out.2 5 rfl; have c1_6 := cell_at HX1.out.2 6 rfl; have c1_7 := cell_at HX1.out.2 7 rfl; have c1_8 := cell_at HX1.out.2 8 rfl; have c1_9 := cell_at HX1.out.2 9 rfl; have c1_10 := cell_at HX1.out.2 10 rfl; have HS1 := hid hc; have HB1 := hid (chg1 HB0.out hb); clear hb hc x1)
    | fail)
   refine wp_region_held_drew (S := fun u => (u.heap[bc]? = some (.cells #[.pointer (some ⟨H, 0, none⟩)] 67 (0, 0)) ∧ ∃ q : Bool, u.heap[bx]? = some (.cells #[.int .i64 3, .slice a0 n0 k0, .bool o2, .slice a1 n1 k1, .slice a2 n2 k2, .slice a3 n3 k3, .slice a4 n4 k4, .slice a5 n5 k5, .slice a6 n6 k6, .bool q, .int .i64 o9] 30 (0, 0)))) (by kernel_rfl) (⟨HX1.out.1, _, HX1.out.2⟩) (fun hHeld => ?_)
   refine tk (i := 0) (oi := ⟨some 45, .load 67 (.tmp 0), 67, "checker.go:97", #[], none⟩) (v := ?_) (Or.inl ⟨by rfl, ?_⟩) ?_
   rotate_left 1
   ·(intro u hSw; obtain ⟨hs1, q, hs2⟩ := hSw; have p0 := cell_at hs1 0 rfl; have q0 := cell_at hs2 0 rfl; have q1 := cell_at hs2 1 rfl; have q2 := cell_at hs2 2 rfl; have q3 := cell_at hs2 3 rfl; have q4 := cell_at hs2 4 rfl; have q5 := cell_at hs2 5 rfl; have q6 := cell_at hs2 6 rfl; have q7 := cell_at hs2 7 rfl; have q8 := cell_at hs2 8 rfl; have q9 := cell_at hs2 9 rfl; have q10 := cell_at hs2 10 rfl; go_simp; try with_reducible rfl)
   try simp only [Act.put, sA, sB, sC]
   refine tk (i := 1) (oi := ⟨some 46, .fieldAddr 30 (.tmp 1) 1, 0, "checker.go:97", #[], none⟩) (v := ?_) (Or.inl ⟨by rfl, ?_⟩) ?_
   rotate_left 1
   ·(intro u hSw; go_simp; try with_reducible rfl)
   try simp only [Act.put, sA, sB, sC]
   refine tk (i := 2) (oi := ⟨some 47, .load 22 (.tmp 46), 22, "checker.go:97", #[⟨1, .data⟩], none⟩) (v := ?_) (Or.inl ⟨by rfl, ?_⟩) ?_
   rotate_left 1
   ·(intro u hSw; obtain ⟨hs1, q, hs2⟩ := hSw; have p0 := cell_at hs1 0 rfl; have q0 := cell_at hs2 0 rfl; have q1 := cell_at hs2 1 rfl; have q2 := cell_at hs2 2 rfl; have q3 := cell_at hs2 3 rfl; have q4 := cell_at hs2 4 rfl; have q5 := cell_at hs2 5 rfl; have q6 := cell_at hs2 6 rfl; have q7 := cell_at hs2 7 rfl; have q8 := cell_at hs2 8 rfl; have q9 := cell_at hs2 9 rfl; have q10 := cell_at hs2 10 rfl; go_simp; try with_reducible rfl)
   try simp only [Act.put, sA, sB, sC]
   refine tk (i := 3) (oi := ⟨some 48, .call ⟨.builtin .len, #[.tmp 47], #[22]⟩, 3, "checker.go:97", #[⟨2, .data⟩], none⟩) (v := ?_) (Or.inl ⟨by rfl, ?_⟩) ?_
   rotate_left 1
   ·(intro u hSw; go_simp; try with_reducible rfl)
   try simp only [Act.put, sA, sB, sC]
   refine tk (i := 4) (oi := ⟨some 49, .binOp BinOp.eql 3 (.tmp 48) (.const (Value.int IntKind.i64 2)) 3, 4, "checker.go:97", #[⟨3, .data⟩], none⟩) (v := ?_) (Or.inl ⟨by rfl, ?_⟩) ?_
   rotate_left 1
   ·(intro u hSw; go_simp; try with_reducible rfl)
   try simp only [Act.put, sA, sB, sC]
   refine tk (i := 5) (oi := ⟨some 50, .move (.tmp 49), 4, "checker.go:97", #[⟨4, .data⟩], none⟩) (v := ?_) (Or.inl ⟨by rfl, ?_⟩) ?_
   rotate_left 1
   ·(intro u hSw; go_simp; try with_reducible rfl)
   try simp only [Act.put, sA, sB, sC]
   refine tk (i := 6) (oi := ⟨some 51, .fieldAddr 30 (.tmp 1) 2, 0, "checker.go:97", #[⟨5, .guard⟩], some (5, true)⟩) (v := ?_) (Or.inl ⟨by rfl, ?_⟩) ?_
   rotate_left 1
   ·(intro u hSw; go_simp; try with_reducible rfl)
   try simp only [Act.put, sA, sB, sC]
   refine tk (i := 7) (oi := ⟨some 52, .load 27 (.tmp 51), 27, "checker.go:97", #[⟨6, .data⟩, ⟨5, .guard⟩], some (5, true)⟩) (v := ?_) (Or.inl ⟨by rfl, ?_⟩) ?_
   rotate_left 1
   ·(intro u hSw; obtain ⟨hs1, q, hs2⟩ := hSw; have p0 := cell_at hs1 0 rfl; have q0 := cell_at hs2 0 rfl; have q1 := cell_at hs2 1 rfl; have q2 := cell_at hs2 2 rfl; have q3 := cell_at hs2 3 rfl; have q4 := cell_at hs2 4 rfl; have q5 := cell_at hs2 5 rfl; have q6 := cell_at hs2 6 rfl; have q7 := cell_at hs2 7 rfl; have q8 := cell_at hs2 8 rfl; have q9 := cell_at hs2 9 rfl; have q10 := cell_at hs2 10 rfl; go_simp; try with_reducible rfl)
   try simp only [Act.put, sA, sB, sC]
   refine tk (i := 8) (oi := ⟨some 53, .build 27 #[], 27, "checker.go:97", #[⟨5, .guard⟩], some (5, true)⟩) (v := ?_) (Or.inl ⟨by rfl, ?_⟩) ?_
   rotate_left 1
   ·(intro u hSw; go_simp; try with_reducible rfl)
   try simp only [Act.put, sA, sB, sC]
   refine wpAnyH_ready (rs := [9]) (by kernel_rfl) (by simp) ?_
   refine AllReadyH.cons (o := ⟨some 54, .call ⟨.value (.func 13), #[.tmp 52, .tmp 53], #[27, 27]⟩, 4, "checker.go:97", #[⟨7, .data⟩, ⟨8, .data⟩, ⟨5, .chain⟩, ⟨5, .guard⟩], some (5, true)⟩) rfl (fun K hK => ?_) AllReadyH.nil
   go_simp
   go_at_call 13
   refine (HSS.out _ (bw HW.out HB1.out.drew hH)).mono ?_
   rintro e w8 ⟨rfl, hb⟩
   go_wp2_with fail
   have HS8 := hid ((hb.block H (bx_lt HS1.out)).trans HS1.out)
   have HB8 := hid (chg1 HB1.out.drew (Chg.fresh (F := fun k => k = H) hb))
   have HH8 := hid (And.intro ((hb.block bc (bx_lt HX1.out.1)).trans HX1.out.1) ((hb.block bx (bx_lt HX1.out.2)).trans HX1.out.2))
   clear hb
   refine hK.out _ _ ⟨HH8.out.1, _, HH8.out.2⟩ (fun hHeld => ?_)
   clear hK K
   try simp only [Act.put, sA, sB, sC]
   refine tk (i := 10) (oi := ⟨some 55, .pick (.tmp 50) (.tmp 54) (.const (Value.bool false)), 4, "checker.go:97", #[⟨5, .data⟩, ⟨9, .data⟩], none⟩) (v := ?_) (Or.inl ⟨by rfl, ?_⟩) ?_
   rotate_left 1
   ·(intro u hSw; go_simp; try with_reducible rfl)
   try simp only [Act.put, sA, sB, sC]
   refine wpAnyH_ready (rs := [11]) (by kernel_rfl) (by simp) ?_
   refine AllReadyH.cons (o := ⟨some 56, .call ⟨.value (.func 40), #[.tmp 45, .tmp 55], #[67, 4]⟩, 0, "checker.go:97", #[⟨0, .data⟩, ⟨10, .data⟩, ⟨9, .chain⟩], none⟩) rfl (fun K hK => ?_) AllReadyH.nil
   go_simp
   go_at_call 40
   refine (HRQ.out _ _ _ HS8.out).mono ?_
   rintro e w2 ⟨rfl, hc, hb⟩
   go_wp2_with fail
   have HS2 := hid hc
   have HB2 := hid (chg1 HB8.out hb)
   have HX2 := hid (And.intro (chg1_blk hb HH8.out.1 HNC.out) (chg1_blk hb HH8.out.2 HNX.out))
   clear hb hc
   refine hK.out _ _ ⟨HX2.out.1, _, HX2.out.2⟩ (fun _ => ?_)
   clear hK K
   try simp only [Act.put, sA, sB, sC]
   refine wpAnyH_done (by kernel_rfl) ?_ _
   have c2_c := cell_at HX2.out.1 0 rfl
   have c2_0 := cell_at HX2.out.2 0 rfl
   have c2_1 := cell_at HX2.out.2 1 rfl
   have c2_2 := cell_at HX2.out.2 2 rfl
   have c2_3 := cell_at HX2.out.2 3 rfl
   have c2_4 := cell_at HX2.out.2 4 rfl
   have c2_5 := cell_at HX2.out.2 5 rfl
   have c2_6 := cell_at HX2.out.2 6 rfl
   have c2_7 := cell_at HX2.out.2 7 rfl
   have c2_8 := cell_at HX2.out.2 8 rfl
   have c2_9 := cell_at HX2.out.2 9 rfl
   have c2_10 := cell_at HX2.out.2 10 rfl
   go_wp2_with (first
    | (go_at_call 41; refine (HC1.out _ (by rw [HBC.out]; exact HS2.out) (bw HW.out HB2.out hH)).mono ?_; clear HC1; rintro e w3 ⟨rfl, hc, hb⟩; have x1 := And.intro (chg1_blk hb HX2.out.1 HNC.out) (chg1_blk hb HX2.out.2 HNX.out); clear c2_c c2_0 c2_1 c2_2 c2_3 c2_4 c2_5 c2_6 c2_7 c2_8 c2_9 c2_10; have HX3 := hid x1; have c3_c := cell_at HX3.out.1 0 rfl; have c3_0 := cell_at HX3.out.2 0 rfl; have c3_1 := cell_at HX3.out.2 1 rfl; have c3_2 := cell_at HX3.out.2 2 rfl; have c3_3 := cell_at HX3.out.2 3 rfl; have c3_4 := cell_at HX3.out.2 4 rfl; have c3_5 := cell_at HX3.out.2 5 rfl; have c3_6 := cell_at HX3.out.2 6 rfl; have c3_7 := cell_at HX3.out.2 7 rfl; have c3_8 := cell_at HX3.out.2 8 rfl; have c3_9 := cell_at HX3.out.2 9 rfl; have c3_10 := cell_at HX3.out.2 10 rfl; have HS3 := hid hc; have HB3 := hid (chg1 HB2.out hb); clear hb hc x1)
    | (go_at_call 43; refine (HC2.out _ HS3.out (bw HW.out HB3.out hH)).mono ?_; clear HC2; rintro e w4 ⟨rfl, hc, hb⟩; have x1 := And.intro (chg1_blk hb HX3.out.1 HNC.out) (chg1_blk hb HX3.out.2 HNX.out); clear c3_c c3_0 c3_1 c3_2 c3_3 c3_4 c3_5 c3_6 c3_7 c3_8 c3_9 c3_10; have HX4 := hid x1; have c4_c := cell_at HX4.out.1 0 rfl; have c4_0 := cell_at HX4.out.2 0 rfl; have c4_1 := cell_at HX4.out.2 1 rfl; have c4_2 := cell_at HX4.out.2 2 rfl; have c4_3 := cell_at HX4.out.2 3 rfl; have c4_4 := cell_at HX4.out.2 4 rfl; have c4_5 := cell_at HX4.out.2 5 rfl; have c4_6 := cell_at HX4.out.2 6 rfl; have c4_7 := cell_at HX4.out.2 7 rfl; have c4_8 := cell_at HX4.out.2 8 rfl; have c4_9 := cell_at HX4.out.2 9 rfl; have c4_10 := cell_at HX4.out.2 10 rfl; have HS4 := hid hc; have HB4 := hid (chg1 HB3.out hb); clear hb hc x1)
    | (go_at_call 44; refine (HC3.out _ HS4.out (bw HW.out HB4.out hH)).mono ?_; clear HC3; rintro e w5 ⟨rfl, hc, hb⟩; have x1 := And.intro (chg1_blk hb HX4.out.1 HNC.out) (chg1_blk hb HX4.out.2 HNX.out); clear c4_c c4_0 c4_1 c4_2 c4_3 c4_4 c4_5 c4_6 c4_7 c4_8 c4_9 c4_10; have HX5 := hid x1; have c5_c := cell_at HX5.out.1 0 rfl; have c5_0 := cell_at HX5.out.2 0 rfl; have c5_1 := cell_at HX5.out.2 1 rfl; have c5_2 := cell_at HX5.out.2 2 rfl; have c5_3 := cell_at HX5.out.2 3 rfl; have c5_4 := cell_at HX5.out.2 4 rfl; have c5_5 := cell_at HX5.out.2 5 rfl; have c5_6 := cell_at HX5.out.2 6 rfl; have c5_7 := cell_at HX5.out.2 7 rfl; have c5_8 := cell_at HX5.out.2 8 rfl; have c5_9 := cell_at HX5.out.2 9 rfl; have c5_10 := cell_at HX5.out.2 10 rfl; have HS5 := hid hc; have HB5 := hid (chg1 HB4.out hb); clear hb hc x1)
    | fail)
   refine bodyPost_ret (results_none rfl _ _ _) rfl ?_
   exact ⟨rfl, HS5.out, HB5.out⟩
end Go.Proofs.YtegkbagnbnoopaaGreatDoor
/- the checker of print: a query, by its kind -/
namespace Go.Proofs.YtegkbagnbnoopaaGreatDoor
open Go.ChangeShapes Go.WideShapes Go.ChangeAt Go.RowKit Go.Deep
open Go.Lib (hid)
set_option maxRecDepth 100000 in
set_option maxHeartbeats 6400000 in
theorem query1_e {w0 w : World} {x : Qu} {H bc bx : Nat} {s : Ck} {a0 a1 a2 a3 a4 a5 a6 : Option Addr} {k0 k1 k2 k3 k4 k5 k6 : Nat} (hP : ∀ y ∈ x.parts, CIn w0 y) (hSel : CSe w0 x.sel) (hO : ∀ y ∈ x.ord, COb w0 y) (ox : x.OK) (hz : Da.sizeR x.da ≤ 1073741823) (hH : w0.heap.size ≤ H) (hw : Below w0.heap.size w0 w) (hc : CkC w H s)
  (hx1 : w.heap[bc]? = some (.cells #[.pointer (some ⟨H, 0, none⟩)] 67 (0, 0))) (hx2 : w.heap[bx]? = some (.cells #[.int .i64 x.op, .slice a0 x.parts.length k0, .bool x.sel.dist, .slice a1 x.sel.items.length k1, .slice a2 x.sel.fro.length k2, .slice a3 x.sel.wh.length k3, .slice a4 x.sel.gr.length k4, .slice a5 x.sel.hv.length k5, .slice a6 x.ord.length k6, .bool x.lim, .int .i64 x.n] 30 (0, 0))) (hn1 : bc ≠ H) (hn2 : bx ≠ H)
  (ho1 : ¬ x.op = 1) (ho2 : ¬ x.op = 2) (ho3 : ¬ x.op = 3) (h0 : DIs w0 (.slice a0 x.parts.length k0) (.sl (qusDa x.parts))) (h1 : DIs w0 (.slice a1 x.sel.items.length k1) (.sl (itsDa x.sel.items))) (h2 : DIs w0 (.slice a2 x.sel.fro.length k2) (.sl (sosDa x.sel.fro))) (h3 : DIs w0 (.slice a3 x.sel.wh.length k3) (.sl (exsDa x.sel.wh))) (h4 : DIs w0 (.slice a4 x.sel.gr.length k4) (.sl (exsDa x.sel.gr))) (h5 : DIs w0 (.slice a5 x.sel.hv.length k5) (.sl (exsDa x.sel.hv))) (h6 : DIs w0 (.slice a6 x.ord.length k6) (.sl (obsDa x.ord))) (g : Gd s (obsCk x.ord (x.sel.ck (qusCk x.parts (quB x s))))) :
  Calls Tryz.prog 39 #[.pointer (some ⟨bc, 0, none⟩), .pointer (some ⟨bx, 0, none⟩)] w (CkE w H (obsCk x.ord (x.sel.ck (qusCk x.parts (quB x s))))) := by
 have hl0 := qus_len (Nat.le_of_lt (qu_parts_lt x))
 have hl6 := obs_len (Nat.le_of_lt (qu_ord_lt x))
 obtain ⟨sB, hB⟩ : ∃ q, q = quB x s := ⟨_, rfl⟩
 have hB2 : sB = (s.req (decide (x.n = 0) || (x.lim && decide (0 < x.n)))).req (if x.op = 1 then x.parts.isEmpty && (!x.sel.items.isEmpty && !x.sel.fro.isEmpty) else if x.op = 2 ∨ x.op = 3 then decide (x.parts.length = 2) && x.sel.isZ else false) := hB
 obtain ⟨sC, hC⟩ : ∃ q, q = qusCk x.parts sB := ⟨_, rfl⟩
 obtain ⟨sD, hD⟩ : ∃ q, q = x.sel.ck sC := ⟨_, rfl⟩
 obtain ⟨sE, hE⟩ : ∃ q, q = obsCk x.ord sD := ⟨_, rfl⟩
 have pB : Pr s sB := by rw [hB]; exact (pr_req _ _).trans (pr_req _ _)
 have pC : Pr sB sC := by rw [hC]; exact qus_pr _ _
 have pD : Pr sC sD := by rw [hD]; exact x.sel.pr _
 have pE : Pr sD sE := by rw [hE]; exact obs_pr _ _
 rw [← hB, ← hC, ← hD, ← hE] at g ⊢
 have HRQ := hid (fun (t : Ck) (u : World) (b : Bool) (h : CkC u H t) => req_any H t b u h)
 have HC1 := hid (fun (u : World) (h : CkC u H sB) (hb : Below w0.heap.size w0 u) => by
  have q := eachQu hb hH h h0 (by omega) hP (by rw [← hC]; exact g.part pB (pD.trans pE))
  rw [← hC] at q; exact q)
 have HC2 := hid (fun (u : World) (h : CkC u H sC) (hb : Below w0.heap.size w0 u) => by
  have q := hSel H sC u (.agg #[.bool x.sel.dist, .slice a1 x.sel.items.length k1, .slice a2 x.sel.fro.length k2, .slice a3 x.sel.wh.length k3, .slice a4 x.sel.gr.length k4, .slice a5 x.sel.hv.length k5]) hH hb h ⟨_, _, _, _, _, rfl, h1, h2, h3, h4, h5⟩ (by rw [← hD]; exact g.part (pB.trans pC) pE)
  rw [← hD] at q; exact q)
 have HC3 := hid (fun (u : World) (h : CkC u H sD) (hb : Below w0.heap.size w0 u) => by
  have q := eachOb hb hH h h6 (by omega) hO (by rw [← hE]; exact g.part ((pB.trans pC).trans pD) (Pr.refl _))
  rw [← hE] at q; exact q)
 have HSS := hid (fun (u : World) (hu : Below w0.heap.size w0 u) => sameSelZ x.sel u (.agg #[.bool x.sel.dist, .slice a1 x.sel.items.length k1, .slice a2 x.sel.fro.length k2, .slice a3 x.sel.wh.length k3, .slice a4 x.sel.gr.length k4, .slice a5 x.sel.hv.length k5]) (by have := qu_sel_items_lt x; omega) (by have := qu_sel_fro_lt x; omega) (by have := qu_sel_wh_lt x; omega) (by have := qu_sel_gr_lt x; omega) (by have := qu_sel_hv_lt x; omega) (qu_sel_ok ox) ⟨_, _, _, _, _, rfl, h1.keep hu, h2.keep hu, h3.keep hu, h4.keep hu, h5.keep hu⟩)
 have Kkz : (x.n == (0 : Int)) = decide (x.n = 0) := rfl
 have Kk0 : ((x.parts.length : Int) == 0) = x.parts.isEmpty := len0 _
 have Kk2 : ((x.parts.length : Int) == 2) = decide (x.parts.length = 2) := by rw [Bool.eq_iff_iff, beq_iff_eq, decide_eq_true_eq]; omega
 have Kk4 : decide (0 < x.sel.items.length) = !x.sel.items.isEmpty := len1 _
 have Kk5 : decide (0 < x.sel.fro.length) = !x.sel.fro.isEmpty := len1 _
 have HBB := hid hB2
 have HW := hid hw
 have HNC := hid hn1
 have HNX := hid hn2
 have HS0 := hid hc
 have HB0 := hid (Chg.refl (fun k => k = H) w)
 have HX0 := hid (And.intro hx1 hx2)
 clear hP hSel hO ox hz hw hc hx1 hx2 hn1 hn2 h0 h1 h2 h3 h4 h5 h6 g hl0 hl6 hB hB2 hC hD hE pB pC pD pE
 obtain ⟨bp, Kkp⟩ : ∃ q, q = decide (0 < x.n) := ⟨_, rfl⟩
 rw [← Kkp] at HBB
 replace Kkp := Kkp.symm
 generalize decide (x.n = 0) = bz at *
 generalize x.parts.isEmpty = pe at *
 generalize x.sel.items.isEmpty = ie at *
 generalize x.sel.fro.isEmpty = fe at *
 generalize decide (x.parts.length = 2) = p2 at *
 generalize x.sel.isZ = sz at *
 generalize x.parts.length = n0 at *
 generalize x.sel.items.length = n1 at *
 generalize x.sel.fro.length = n2 at *
 generalize x.sel.wh.length = n3 at *
 generalize x.sel.gr.length = n4 at *
 generalize x.sel.hv.length = n5 at *
 generalize x.ord.length = n6 at *
 generalize hop : x.op = o at *
 clear hop
 generalize x.lim = bl at *
 generalize x.n = o9 at *
 generalize x.sel.dist = o2 at *
 have c0_c := cell_at HX0.out.1 0 rfl
 have c0_0 := cell_at HX0.out.2 0 rfl
 have c0_1 := cell_at HX0.out.2 1 rfl
 have c0_2 := cell_at HX0.out.2 2 rfl
 have c0_3 := cell_at HX0.out.2 3 rfl
 have c0_4 := cell_at HX0.out.2 4 rfl
 have c0_5 := cell_at HX0.out.2 5 rfl
 have c0_6 := cell_at HX0.out.2 6 rfl
 have c0_7 := cell_at HX0.out.2 7 rfl
 have c0_8 := cell_at HX0.out.2 8 rfl
 have c0_9 := cell_at HX0.out.2 9 rfl
 have c0_10 := cell_at HX0.out.2 10 rfl
 have HLim : (bz = true) ∨ (bz = false ∧ bl = false) ∨ (bz = false ∧ bl = true ∧ bp = false) ∨ (bz = false ∧ bl = true ∧ bp = true) := by cases bz <;> cases bl <;> cases bp <;> simp
 have e1 : (o == (1 : Int)) = false := beq_eq_false_iff_ne.2 ho1
 have e2 : (o == (2 : Int)) = false := beq_eq_false_iff_ne.2 ho2
 have e3 : (o == (3 : Int)) = false := beq_eq_false_iff_ne.2 ho3
 rcases HLim with rfl | ⟨rfl, rfl⟩ | ⟨rfl, rfl, rfl⟩ | ⟨rfl, rfl, rfl⟩
 all_goals
  have HBC := hid (HBB.out.trans (by rw [if_neg ho1, if_neg (by omega)]))
  clear HBB HSS Kk2 Kk0 Kk4 Kk5
  go_enter Tryz.func39, Tryz.ntmps39
  go_wp2_with (first
   | (go_at_call 40; refine (HRQ.out _ _ _ HS0.out).mono ?_; rintro e w1 ⟨rfl, hc, hb⟩; have x1 := And.intro (chg1_blk hb HX0.out.1 HNC.out) (chg1_blk hb HX0.out.2 HNX.out); clear c0_c c0_0 c0_1 c0_2 c0_3 c0_4 c0_5 c0_6 c0_7 c0_8 c0_9 c0_10; have HX1 := hid x1; have c1_c := cell_at HX1.out.1 0 rfl; have c1_0 := cell_at HX1.out.2 0 rfl; have c1_1 := cell_at HX1.out.2 1 rfl; have c1_2 := cell_at HX1.out.2 2 rfl; have c1_3 := cell_at HX1.out.2 3 rfl; have c1_4 := cell_at HX1.out.2 4 rfl; have c1_5 := cell_at HX1.out.2 5 rfl; have c1_6 := cell_at HX1.out.2 6 rfl; have c1_7 := cell_at HX1.out.2 7 rfl; have c1_8 := cell_at HX1.out.2 8 rfl; have c1_9 := cell_at HX1.out.2 9 rfl; have c1_10 := cell_at HX1.out.2 10 rfl; have HS1 := hid hc; have HB1 := hid (chg1 HB0.out hb); clear hb hc x1)
   | (go_at_call 40; refine (HRQ.out _ _ _ HS1.out).mono ?_; clear HRQ; rintro e w2 ⟨rfl, hc, hb⟩; have x1 := And.intro (chg1_blk hb HX1.out.1 HNC.out) (chg1_blk hb HX1.out.2 HNX.out); clear c1_c c1_0 c1_1 c1_2 c1_3 c1_4 c1_5 c1_6 c1_7 c1_8 c1_9 c1_10; have HX2 := hid x1; have c2_c := cell_at HX2.out.1 0 rfl; have c2_0 := cell_at HX2.out.2 0 rfl; have c2_1 := cell_at HX2.out.2 1 rfl; have c2_2 := cell_at HX2.out.2 2 rfl; have c2_3 := cell_at HX2.out.2 3 rfl; have c2_4 := cell_at HX2.out.2 4 rfl; have c2_5 := cell_at HX2.out.2 5 rfl; have c2_6 := cell_at HX2.out.2 6 rfl; have c2_7 := cell_at HX2.out.2 7 rfl; have c2_8 := cell_at HX2.out.2 8 rfl; have c2_9 := cell_at HX2.out.2 9 rfl; have c2_10 := cell_at HX2.out.2 10 rfl; have HS2 := hid hc; have HB2 := hid (chg1 HB1.out hb); clear hb hc x1)
   | (go_at_call 41; refine (HC1.out _ (by rw [HBC.out]; exact HS2.out) (bw HW.out HB2.out hH)).mono ?_; clear HC1; rintro e w3 ⟨rfl, hc, hb⟩; have x1 := And.intro (chg1_blk hb HX2.out.1 HNC.out) (chg1_blk hb HX2.out.2 HNX.out); clear c2_c c2_0 c2_1 c2_2 c2_3 c2_4 c2_5 c2_6 c2_7 c2_8 c2_9 c2_10; have HX3 := hid x1; have c3_c := cell_at HX3.out.1 0 rfl; have c3_0 := cell_at HX3.out.2 0 rfl; have c3_1 := cell_at HX3.out.2 1 rfl; have c3_2 := cell_at HX3.out.2 2 rfl; have c3_3 := cell_at HX3.out.2 3 rfl; have c3_4 := cell_at HX3.out.2 4 rfl; have c3_5 := cell_at HX3.out.2 5 rfl; have c3_6 := cell_at HX3.out.2 6 rfl; have c3_7 := cell_at HX3.out.2 7 rfl; have c3_8 := cell_at HX3.out.2 8 rfl; have c3_9 := cell_at HX3.out.2 9 rfl; have c3_10 := cell_at HX3.out.2 10 rfl; have HS3 := hid hc; have HB3 := hid (chg1 HB2.out hb); clear hb hc x1)
   | (go_at_call 43; refine (HC2.out _ HS3.out (bw HW.out HB3.out hH)).mono ?_; clear HC2; rintro e w4 ⟨rfl, hc, hb⟩; have x1 := And.intro (chg1_blk hb HX3.out.1 HNC.out) (chg1_blk hb HX3.out.2 HNX.out); clear c3_c c3_0 c3_1 c3_2 c3_3 c3_4 c3_5 c3_6 c3_7 c3_8 c3_9 c3_10; have HX4 := hid x1; have c4_c := cell_at HX4.out.1 0 rfl; have c4_0 := cell_at HX4.out.2 0 rfl; have c4_1 := cell_at HX4.out.2 1 rfl; have c4_2 := cell_at HX4.out.2 2 rfl; have c4_3 := cell_at HX4.out.2 3 rfl; have c4_4 := cell_at HX4.out.2 4 rfl; have c4_5 := cell_at HX4.out.2 5 rfl; have c4_6 := cell_at HX4.out.2 6 rfl; have c4_7 := cell_at HX4.out.2 7 rfl; have c4_8 := cell_at HX4.out.2 8 rfl; have c4_9 := cell_at HX4.out.2 9 rfl; have c4_10 := cell_at HX4.out.2 10 rfl; have HS4 := hid hc; have HB4 := hid (chg1 HB3.out hb); clear hb hc x1)
   | (go_at_call 44; refine (HC3.out _ HS4.out (bw HW.out HB4.out hH)).mono ?_; clear HC3; rintro e w5 ⟨rfl, hc, hb⟩; have x1 := And.intro (chg1_blk hb HX4.out.1 HNC.out) (chg1_blk hb HX4.out.2 HNX.out); clear c4_c c4_0 c4_1 c4_2 c4_3 c4_4 c4_5 c4_6 c4_7 c4_8 c4_9 c4_10; have HX5 := hid x1; have c5_c := cell_at HX5.out.1 0 rfl; have c5_0 := cell_at HX5.out.2 0 rfl; have c5_1 := cell_at HX5.out.2 1 rfl; have c5_2 := cell_at HX5.out.2 2 rfl; have c5_3 := cell_at HX5.out.2 3 rfl; have c5_4 := cell_at HX5.out.2 4 rfl; have c5_5 := cell_at HX5.out.2 5 rfl; have c5_6 := cell_at HX5.out.2 6 rfl; have c5_7 := cell_at HX5.out.2 7 rfl; have c5_8 := cell_at HX5.out.2 8 rfl; have c5_9 := cell_at HX5.out.2 9 rfl; have c5_10 := cell_at HX5.out.2 10 rfl; have HS5 := hid hc; have HB5 := hid (chg1 HB4.out hb); clear hb hc x1)
   | fail)
  refine bodyPost_ret (results_none rfl _ _ _) rfl ?_
  exact ⟨rfl, HS5.out, HB5.out⟩
end Go.Proofs.YtegkbagnbnoopaaGreatDoor
/- the checker of print, whole: any tree -/
namespace Go.Proofs.YtegkbagnbnoopaaGreatDoor
open Go.ChangeShapes Go.WideShapes Go.ChangeAt Go.RowKit Go.Deep
open Go.Lib (hid)
theorem gd_enter {s s2 : Ck} (g : Gd s (if s.enter.dp = true then s.enter else s2).leave) (hd : s.enter.dp = false) : Gd s.enter s2 := by
 have e : (if s.enter.dp = true then s.enter else s2) = s2 := if_neg (by rw [hd]; simp)
 have n2 := g.n2
 rw [e] at n2
 have h1 := g.o1
 have h2 := g.n1
 have h24 : ¬ 24 < s.op + 1 := by
  intro h
  have : s.enter.dp = (s.dp || decide (24 < s.op + 1)) := rfl
  rw [this, decide_eq_true h, Bool.or_true] at hd
  cases hd
 refine ⟨?_, ?_, ?_, n2⟩
 ·show 0 ≤ s.op + 1; omega
 ·show s.op + 1 ≤ 24; omega
 ·show 0 ≤ s.nd + 1; omega
theorem call_q1 (args : Array Value) (u : World) : (callFunc 39 args).run Tryz.prog u = .ok (.enter 39 args) u := by kernel_rfl
theorem call_e1 (args : Array Value) (u : World) : (callFunc 88 args).run Tryz.prog u = .ok (.enter 88 args) u := by kernel_rfl
theorem query1_step {w0 w : World} {x : Qu} {H bc bx : Nat} {s : Ck} {a0 a1 a2 a3 a4 a5 a6 : Option Addr} {k0 k1 k2 k3 k4 k5 k6 : Nat} (hP : ∀ y ∈ x.parts, CIn w0 y) (hSel : CSe w0 x.sel) (hO : ∀ y ∈ x.ord, COb w0 y) (ox : x.OK) (hz : Da.sizeR x.da ≤ 1073741823) (hH : w0.heap.size ≤ H) (hw : Below w0.heap.size w0 w) (hc : CkC w H s)
  (hx1 : w.heap[bc]? = some (.cells #[.pointer (some ⟨H, 0, none⟩)] 67 (0, 0))) (hx2 : w.heap[bx]? = some (.cells #[.int .i64 x.op, .slice a0 x.parts.length k0, .bool x.sel.dist, .slice a1 x.sel.items.length k1, .slice a2 x.sel.fro.length k2, .slice a3 x.sel.wh.length k3, .slice a4 x.sel.gr.length k4, .slice a5 x.sel.hv.length k5, .slice a6 x.ord.length k6, .bool x.lim, .int .i64 x.n] 30 (0, 0))) (hn1 : bc ≠ H) (hn2 : bx ≠ H)
  (h0 : DIs w0 (.slice a0 x.parts.length k0) (.sl (qusDa x.parts))) (h1 : DIs w0 (.slice a1 x.sel.items.length k1) (.sl (itsDa x.sel.items))) (h2 : DIs w0 (.slice a2 x.sel.fro.length k2) (.sl (sosDa x.sel.fro))) (h3 : DIs w0 (.slice a3 x.sel.wh.length k3) (.sl (exsDa x.sel.wh))) (h4 : DIs w0 (.slice a4 x.sel.gr.length k4) (.sl (exsDa x.sel.gr))) (h5 : DIs w0 (.slice a5 x.sel.hv.length k5) (.sl (exsDa x.sel.hv))) (h6 : DIs w0 (.slice a6 x.ord.length k6) (.sl (obsDa x.ord))) (g : Gd s (obsCk x.ord (x.sel.ck (qusCk x.parts (quB x s))))) :
  Calls Tryz.prog 39 #[.pointer (some ⟨bc, 0, none⟩), .pointer (some ⟨bx, 0, none⟩)] w (CkE w H (obsCk x.ord (x.sel.ck (qusCk x.parts (quB x s))))) := by
 by_cases h_1 : x.op = 1
 ·exact query1_1 hP hSel hO ox hz hH hw hc hx1 hx2 hn1 hn2 h_1 h0 h1 h2 h3 h4 h5 h6 g
 by_cases h_2 : x.op = 2
 ·exact query1_2 hP hSel hO ox hz hH hw hc hx1 hx2 hn1 hn2 h_2 h0 h1 h2 h3 h4 h5 h6 g
 by_cases h_3 : x.op = 3
 ·exact query1_3 hP hSel hO ox hz hH hw hc hx1 hx2 hn1 hn2 h_3 h0 h1 h2 h3 h4 h5 h6 g
 exact query1_e hP hSel hO ox hz hH hw hc hx1 hx2 hn1 hn2 h_1 h_2 h_3 h0 h1 h2 h3 h4 h5 h6 g
set_option maxRecDepth 100000 in
set_option maxHeartbeats 6400000 in
theorem query_step {w0 : World} {x : Qu} (hP : ∀ y ∈ x.parts, CIn w0 y) (hSel : CSe w0 x.sel) (hO : ∀ y ∈ x.ord, COb w0 y) (ox : x.OK) (hz : Da.sizeR x.da ≤ 1073741823) : CQu w0 x := by
 intro H s w v hH hw hc hv g
 obtain ⟨p0, p1, p2, p3, p4, p5, p6, rfl, h0, h1, h2, h3, h4, h5, h6⟩ := hv
 obtain ⟨a0, k0, rfl, -, -⟩ := qus_rows h0
 obtain ⟨a1, k1, rfl, -, -⟩ := its_rows h1
 obtain ⟨a2, k2, rfl, -, -⟩ := sos_rows h2
 obtain ⟨a3, k3, rfl, -, -⟩ := exs_rows h3
 obtain ⟨a4, k4, rfl, -, -⟩ := exs_rows h4
 obtain ⟨a5, k5, rfl, -, -⟩ := exs_rows h5
 obtain ⟨a6, k6, rfl, -, -⟩ := obs_rows h6
 have E1 : x.ck s = (if s.enter.dp = true then s.enter else obsCk x.ord (x.sel.ck (qusCk x.parts (quB x s.enter)))).leave := by cases x; unfold Qu.ck; rfl
 rw [E1] at g ⊢
 have hlt := hc.lt
 have pr : Pr s.enter (obsCk x.ord (x.sel.ck (qusCk x.parts (quB x s.enter)))) := ((((pr_req _ _).trans (pr_req _ _)).trans (qus_pr _ _)).trans (x.sel.pr _)).trans (obs_pr _ _)
 have HWI := hid (fun (u : World) (hcu : CkC u H s) (hbu : Below w0.heap.size w0 u) (hx1 : u.heap[w.heap.size]? = some (.cells #[.pointer (some ⟨H, 0, none⟩)] 67 (0, 0))) (hx2 : u.heap[w.heap.size + 1]? = some (.cells #[.int .i64 x.op, .slice a0 x.parts.length k0, .bool x.sel.dist, .slice a1 x.sel.items.length k1, .slice a2 x.sel.fro.length k2, .slice a3 x.sel.wh.length k3, .slice a4 x.sel.gr.length k4, .slice a5 x.sel.hv.length k5, .slice a6 x.ord.length k6, .bool x.lim, .int .i64 x.n] 30 (0, 0))) =>
  within_any H s (obsCk x.ord (x.sel.ck (qusCk x.parts (quB x s.enter)))) 39 #[.pointer (some ⟨w.heap.size, 0, none⟩), .pointer (some ⟨w.heap.size + 1, 0, none⟩)] u hcu g.o1 g.o2 g.n1 (g.nd (by have := x.pr s; rw [E1] at this; exact this)) call_q1
   (fun hd u' hc' hg' => query1_step hP hSel hO ox hz hH (bw hbu hg' hH) hc' (chg1_blk hg' hx1 (by omega)) (chg1_blk hg' hx2 (by omega)) (by omega) (by omega) h0 h1 h2 h3 h4 h5 h6 (gd_enter g hd)) (fun _ => pr.op))
 have HC := hid (fun (o1 o2 : Obj) => hp_al (hp_al hc o1) o2)
 have HBW := hid (fun (o1 o2 : Obj) => (hw.alloc hw.size o1).alloc (by have := hw.size; simp; omega) o2)
 have HCH := hid (fun (o1 o2 : Obj) => ((Chg.refl (fun k => k = H) w).alloc o1).alloc o2)
 have HX1 := hid (fun (o1 o2 : Obj) => hp_al (heap_alloc_new w o1) o2)
 have HX2 := hid (fun (o1 o2 : Obj) => (by have := heap_alloc_new (w.alloc o1) o2; simpa using this : ((w.alloc o1).alloc o2).heap[w.heap.size + 1]? = some o2))
 clear hP hSel hO ox hz hw hc g pr E1 h0 h1 h2 h3 h4 h5 h6
 generalize (if s.enter.dp = true then s.enter else obsCk x.ord (x.sel.ck (qusCk x.parts (quB x s.enter)))).leave = sZ at *
 go_enter Tryz.func22, Tryz.ntmps22
 go_wp2_with (go_at_call 38; refine (HWI.out _ (HC.out _ _) (HBW.out _ _) (HX1.out _ _) (HX2.out _ _)).mono ?_; rintro e w1 ⟨rfl, hc, hb⟩; have HS1 := hid hc; have HB1 := hid (chg1 (HCH.out _ _) hb); clear hb hc)
 refine bodyPost_ret (results_none rfl _ _ _) rfl ?_
 exact ⟨rfl, HS1.out, HB1.out⟩
set_option maxRecDepth 100000 in
set_option maxHeartbeats 6400000 in
theorem expr_step {w0 : World} {x : Ex} (hA : ∀ y ∈ x.args, CEx w0 y) (hQ : ∀ y ∈ x.qs, CIn w0 y) (ox : x.OK) (hz : Da.sizeR x.da ≤ 1073741823) : CEx w0 x := by
 intro H s w v hH hw hc hv g
 obtain ⟨p0, p1, rfl, h0, h1⟩ := hv
 obtain ⟨a0, k0, rfl, -, -⟩ := exs_rows h0
 obtain ⟨a1, k1, rfl, -, -⟩ := qus_rows h1
 have E1 : x.ck s = (if s.enter.dp = true then s.enter else qusCk x.qs (exsCk x.args (exB x.op x.tb x.nm x.v x.args x.qs s.enter))).leave := by cases x; unfold Ex.ck; rfl
 rw [E1] at g ⊢
 have hlt := hc.lt
 have pr : Pr s.enter (qusCk x.qs (exsCk x.args (exB x.op x.tb x.nm x.v x.args x.qs s.enter))) := ((pr_exB _ _ _ _ _ _ _).trans (exs_pr _ _)).trans (qus_pr _ _)
 have HWI := hid (fun (u : World) (hcu : CkC u H s) (hbu : Below w0.heap.size w0 u) (hx1 : u.heap[w.heap.size]? = some (.cells #[.pointer (some ⟨H, 0, none⟩)] 67 (0, 0))) (hx2 : u.heap[w.heap.size + 1]? = some (.cells #[.int .i64 x.op, .string (str x.tb), .string (str x.nm), .int .i64 x.v.k, .int .i64 x.v.n, .string (str x.v.s), .slice a0 x.args.length k0, .slice a1 x.qs.length k1] 40 (0, 0))) =>
  within_any H s (qusCk x.qs (exsCk x.args (exB x.op x.tb x.nm x.v x.args x.qs s.enter))) 88 #[.pointer (some ⟨w.heap.size, 0, none⟩), .pointer (some ⟨w.heap.size + 1, 0, none⟩)] u hcu g.o1 g.o2 g.n1 (g.nd (by have := x.pr s; rw [E1] at this; exact this)) call_e1
   (fun hd u' hc' hg' => expr1_step hA hQ ox hz hH (bw hbu hg' hH) hc' (chg1_blk hg' hx1 (by omega)) (chg1_blk hg' hx2 (by omega)) (by omega) (by omega) h0 h1 (gd_enter g hd)) (fun _ => pr.op))
 have HC := hid (fun (o1 o2 : Obj) => hp_al (hp_al hc o1) o2)
 have HBW := hid (fun (o1 o2 : Obj) => (hw.alloc hw.size o1).alloc (by have := hw.size; simp; omega) o2)
 have HCH := hid (fun (o1 o2 : Obj) => ((Chg.refl (fun k => k = H) w).alloc o1).alloc o2)
 have HX1 := hid (fun (o1 o2 : Obj) => hp_al (heap_alloc_new w o1) o2)
 have HX2 := hid (fun (o1 o2 : Obj) => (by have := heap_alloc_new (w.alloc o1) o2; simpa using this : ((w.alloc o1).alloc o2).heap[w.heap.size + 1]? = some o2))
 clear hA hQ ox hz hw hc g pr E1 h0 h1
 generalize (if s.enter.dp = true then s.enter else qusCk x.qs (exsCk x.args (exB x.op x.tb x.nm x.v x.args x.qs s.enter))).leave = sZ at *
 go_enter Tryz.func71, Tryz.ntmps71
 go_wp2_with (go_at_call 38; refine (HWI.out _ (HC.out _ _) (HBW.out _ _) (HX1.out _ _) (HX2.out _ _)).mono ?_; rintro e w1 ⟨rfl, hc, hb⟩; have HS1 := hid hc; have HB1 := hid (chg1 (HCH.out _ _) hb); clear hb hc)
 refine bodyPost_ret (results_none rfl _ _ _) rfl ?_
 exact ⟨rfl, HS1.out, HB1.out⟩
theorem ck_all (w0 : World) : ∀ n : Nat, (∀ x : Ex, Da.sizeR x.da < n → Da.sizeR x.da ≤ 1073741823 → x.OK → CEx w0 x) ∧ (∀ x : Qu, Da.sizeR x.da < n → Da.sizeR x.da ≤ 1073741823 → x.OK → CQu w0 x) ∧ (∀ x : It, Da.sizeR x.da < n → Da.sizeR x.da ≤ 1073741823 → x.OK → CIt w0 x) ∧ (∀ x : So, Da.sizeR x.da < n → Da.sizeR x.da ≤ 1073741823 → x.OK → CSo w0 x) ∧ (∀ x : Ob, Da.sizeR x.da < n → Da.sizeR x.da ≤ 1073741823 → x.OK → COb w0 x) := by
 intro n
 induction n with
 | zero => exact ⟨fun x h => absurd h (Nat.not_lt_zero _), fun x h => absurd h (Nat.not_lt_zero _), fun x h => absurd h (Nat.not_lt_zero _), fun x h => absurd h (Nat.not_lt_zero _), fun x h => absurd h (Nat.not_lt_zero _)⟩
 | succ n ih =>
  obtain ⟨iE, iQ, iI, iS, iO⟩ := ih
  have lE : ∀ l : List Ex, Da.sizeK (exsDa l) < n → Da.sizeK (exsDa l) ≤ 1073741823 → exsOK l → ∀ y ∈ l, CEx w0 y := fun l h1 h2 h3 y hy => by have := exs_mem hy; exact iE y (by omega) (by omega) (exsOK_mem h3 y hy)
  have lQ : ∀ l : List Qu, Da.sizeK (qusDa l) < n → Da.sizeK (qusDa l) ≤ 1073741823 → qusOK l → ∀ y ∈ l, CIn w0 y := fun l h1 h2 h3 y hy => by have := qus_mem hy; exact inner_step (iQ y (by omega) (by omega) (qusOK_mem h3 y hy))
  have lI : ∀ l : List It, Da.sizeK (itsDa l) < n → Da.sizeK (itsDa l) ≤ 1073741823 → itsOK l → ∀ y ∈ l, CIt w0 y := fun l h1 h2 h3 y hy => by have := its_mem hy; exact iI y (by omega) (by omega) (itsOK_mem h3 y hy)
  have lS : ∀ l : List So, Da.sizeK (sosDa l) < n → Da.sizeK (sosDa l) ≤ 1073741823 → sosOK l → ∀ y ∈ l, CSo w0 y := fun l h1 h2 h3 y hy => by have := sos_mem hy; exact iS y (by omega) (by omega) (sosOK_mem h3 y hy)
  have lO : ∀ l : List Ob, Da.sizeK (obsDa l) < n → Da.sizeK (obsDa l) ≤ 1073741823 → obsOK l → ∀ y ∈ l, COb w0 y := fun l h1 h2 h3 y hy => by have := obs_mem hy; exact iO y (by omega) (by omega) (obsOK_mem h3 y hy)
  refine ⟨fun x hn hz ox => ?_, fun x hn hz ox => ?_, fun x hn hz ox => ?_, fun x hn hz ox => ?_, fun x hn hz ox => ?_⟩
  ·have a := ex_args_lt x
   have b := ex_qs_lt x
   exact expr_step (lE _ (by omega) (by omega) (ex_args_ok ox)) (lQ _ (by omega) (by omega) (ex_qs_ok ox)) ox hz
  ·have a0 := qu_parts_lt x
   have a1 := qu_sel_items_lt x
   have a2 := qu_sel_fro_lt x
   have a3 := qu_sel_wh_lt x
   have a4 := qu_sel_gr_lt x
   have a5 := qu_sel_hv_lt x
   have a6 := qu_ord_lt x
   have os := qu_sel_ok ox
   have m1 := its_len (Nat.le_of_lt a1)
   have m2 := sos_len (Nat.le_of_lt a2)
   have m3 := exs_len (Nat.le_of_lt a3)
   have m4 := exs_len (Nat.le_of_lt a4)
   have m5 := exs_len (Nat.le_of_lt a5)
   exact query_step (lQ _ (by omega) (by omega) (qu_parts_ok ox)) (selects_step (lI _ (by omega) (by omega) (se_items_ok os)) (lS _ (by omega) (by omega) (se_fro_ok os)) (lE _ (by omega) (by omega) (se_wh_ok os)) (lE _ (by omega) (by omega) (se_gr_ok os)) (lE _ (by omega) (by omega) (se_hv_ok os)) (by omega) (by omega) (by omega) (by omega) (by omega)) (lO _ (by omega) (by omega) (qu_ord_ok ox)) ox hz
  ·exact item_step (iE x.x (by have := it_x_lt x; omega) (by have := it_x_lt x; omega) (it_x_ok ox)) ox hz
  ·have a := so_q_lt x
   have b := so_on_lt x
   exact source_step (lQ _ (by omega) (by omega) (so_q_ok ox)) (lE _ (by omega) (by omega) (so_on_ok ox)) ox hz
  ·exact order_step (iE x.x (by have := ob_x_lt x; omega) (by have := ob_x_lt x; omega) (ob_x_ok ox))
end Go.Proofs.YtegkbagnbnoopaaGreatDoor
