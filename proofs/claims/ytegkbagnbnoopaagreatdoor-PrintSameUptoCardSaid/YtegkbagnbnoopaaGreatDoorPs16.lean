/- the checker of print: one step of expr -/
import Derived.Test.YtegkbagnbnoopaaGreatDoorPs15
namespace Go.Proofs.YtegkbagnbnoopaaGreatDoor
open Go.ChangeShapes Go.WideShapes Go.ChangeAt Go.RowKit Go.Deep
open Go.Lib (hid)
set_option maxRecDepth 100000 in
set_option maxHeartbeats 6400000 in
theorem expr1_step {w0 w : World} {x : Ex} {H bc bx : Nat} {s : Ck} {a0 a1 : Option Addr} {k0 k1 : Nat} (hA : ∀ y ∈ x.args, CEx w0 y) (hQ : ∀ y ∈ x.qs, CIn w0 y) (ox : x.OK) (hz : Da.sizeR x.da ≤ 1073741823) (hH : w0.heap.size ≤ H) (hw : Below w0.heap.size w0 w) (hc : CkC w H s)
  (hx1 : w.heap[bc]? = some (.cells #[.pointer (some ⟨H, 0, none⟩)] 67 (0, 0))) (hx2 : w.heap[bx]? = some (.cells #[.int .i64 x.op, .string (str x.tb), .string (str x.nm), .int .i64 x.v.k, .int .i64 x.v.n, .string (str x.v.s), .slice a0 x.args.length k0, .slice a1 x.qs.length k1] 40 (0, 0))) (hn1 : bc ≠ H) (hn2 : bx ≠ H)
  (h0 : DIs w0 (.slice a0 x.args.length k0) (.sl (exsDa x.args))) (h1 : DIs w0 (.slice a1 x.qs.length k1) (.sl (qusDa x.qs))) (g : Gd s (qusCk x.qs (exsCk x.args (exB x.op x.tb x.nm x.v x.args x.qs s)))) :
  Calls Tryz.prog 88 #[.pointer (some ⟨bc, 0, none⟩), .pointer (some ⟨bx, 0, none⟩)] w (CkE w H (qusCk x.qs (exsCk x.args (exB x.op x.tb x.nm x.v x.args x.qs s)))) := by
 have htl := ex_tb_len x
 have hal := ex_nm_len x
 have hql := qus_len (Nat.le_of_lt (ex_qs_lt x))
 have hol := exs_len (Nat.le_of_lt (ex_args_lt x))
 obtain ⟨sF, hF⟩ : ∃ q, q = hasF x.op x.tb x.nm x.v x.args.length x.qs.length := ⟨_, rfl⟩
 obtain ⟨sB, hB⟩ : ∃ q, q = exB x.op x.tb x.nm x.v x.args x.qs s := ⟨_, rfl⟩
 have hB2 : sB = if x.op = 1 then (s.req sF).inv (mayV x.v) else if x.op = 2 then ((s.req sF).opt x.tb).nam x.nm else s.req sF := by rw [hB, hF]; rfl
 obtain ⟨sC, hC⟩ : ∃ q, q = exsCk x.args sB := ⟨_, rfl⟩
 obtain ⟨sD, hD⟩ : ∃ q, q = qusCk x.qs sC := ⟨_, rfl⟩
 have pB : Pr s sB := by rw [hB]; exact pr_exB _ _ _ _ _ _ _
 have pC : Pr sB sC := by rw [hC]; exact exs_pr _ _
 have pD : Pr sC sD := by rw [hD]; exact qus_pr _ _
 rw [← hB, ← hC, ← hD] at g ⊢
 have HHF := hid (fun (u : World) (hu : Below w0.heap.size w0 u) => by
  have q := hasForm_any x u (.agg #[.int .i64 x.op, .string (str x.tb), .string (str x.nm), .int .i64 x.v.k, .int .i64 x.v.n, .string (str x.v.s), .slice a0 x.args.length k0, .slice a1 x.qs.length k1]) ⟨_, _, rfl, h0.keep hu, h1.keep hu⟩ (ex_tb ox) (ex_nm ox) (ex_v ox)
  rw [← hF] at q; exact q)
 have HRQ := hid (fun (u : World) (b : Bool) (h : CkC u H s) => req_any H s b u h)
 have HCA := hid (fun (u : World) (h : CkC u H sB) (hb : Below w0.heap.size w0 u) => by
  have q := eachEx hb hH h h0 (by omega) hA (by rw [← hC]; exact g.part pB pD)
  rw [← hC] at q; exact q)
 have HCQ := hid (fun (u : World) (h : CkC u H sC) (hb : Below w0.heap.size w0 u) => by
  have q := eachQu hb hH h h1 (by omega) hQ (by rw [← hD]; exact g.part (pB.trans pC) (Pr.refl _))
  rw [← hD] at q; exact q)
 have HOP := hid (fun (u : World) (h : CkC u H (s.req sF)) => opt_any H (s.req sF) x.tb u h (ex_tb ox) (by omega))
 have HNM := hid (fun (u : World) (h : CkC u H ((s.req sF).opt x.tb)) => nam_any H ((s.req sF).opt x.tb) x.nm u h (ex_nm ox) (by omega))
 have HMY := hid (fun (u : World) => may_any x.v u (ex_v ox))
 have HBB := hid hB2
 have HW := hid hw
 have HNC := hid hn1
 have HNX := hid hn2
 have HS0 := hid hc
 have HB0 := hid (Chg.refl (fun k => k = H) w)
 have HX0 := hid (And.intro hx1 hx2)
 clear hA hQ ox hz hw hc hx1 hx2 hn1 hn2 h0 h1 g htl hal hql hol hF hB hB2 hC hD pB pC pD
 generalize hna : x.args.length = na at *
 generalize hnq : x.qs.length = nq at *
 clear hna hnq
 generalize hop : x.op = o at *
 clear hop
 go_enter Tryz.func88, Tryz.ntmps88
 go_wp2_with fail
 refine wp_region_held_drew (S := fun u => (u.heap[bc]? = some (.cells #[.pointer (some ⟨H, 0, none⟩)] 67 (0, 0)) ∧ u.heap[bx]? = some (.cells #[.int .i64 o, .string (str x.tb), .string (str x.nm), .int .i64 x.v.k, .int .i64 x.v.n, .string (str x.v.s), .slice a0 na k0, .slice a1 nq k1] 40 (0, 0)))) (by kernel_rfl) (HX0.out) (fun hHeld => ?_)
 refine tk (i := 0) (oi := ⟨some 2, .load 67 (.tmp 0), 67, "checker.go:69", #[], none⟩) (v := ?_) (Or.inl ⟨by rfl, ?_⟩) ?_
 rotate_left 1
 ·(intro u hSw; have p0 := cell_at hSw.1 0 rfl; have q0 := cell_at hSw.2 0 rfl; have q1 := cell_at hSw.2 1 rfl; have q2 := cell_at hSw.2 2 rfl; have q3 := cell_at hSw.2 3 rfl; have q4 := cell_at hSw.2 4 rfl; have q5 := cell_at hSw.2 5 rfl; have q6 := cell_at hSw.2 6 rfl; have q7 := cell_at hSw.2 7 rfl; go_simp; try with_reducible rfl)
 try simp only [Act.put, sA, sB, sC]
 refine tk (i := 1) (oi := ⟨some 3, .load 40 (.tmp 1), 40, "checker.go:69", #[], none⟩) (v := ?_) (Or.inl ⟨by rfl, ?_⟩) ?_
 rotate_left 1
 ·(intro u hSw; have p0 := cell_at hSw.1 0 rfl; have q0 := cell_at hSw.2 0 rfl; have q1 := cell_at hSw.2 1 rfl; have q2 := cell_at hSw.2 2 rfl; have q3 := cell_at hSw.2 3 rfl; have q4 := cell_at hSw.2 4 rfl; have q5 := cell_at hSw.2 5 rfl; have q6 := cell_at hSw.2 6 rfl; have q7 := cell_at hSw.2 7 rfl; go_simp; try with_reducible rfl)
 try simp only [Act.put, sA, sB, sC]
 refine wpAnyH_ready (rs := [2]) (by kernel_rfl) (by simp) ?_
 refine AllReadyH.cons (o := ⟨some 4, .call ⟨.value (.func 89), #[.tmp 3], #[40]⟩, 4, "checker.go:69", #[⟨1, .data⟩], none⟩) rfl (fun K hK => ?_) AllReadyH.nil
 go_simp
 go_at_call 89
 refine (HHF.out _ HW.out.drew).mono ?_
 rintro e w1 ⟨rfl, hb⟩
 go_wp2_with fail
 have HS1 := hid ((hb.block H (bx_lt HS0.out)).trans HS0.out)
 have HB1 := hid (chg1 HB0.out.drew (Chg.fresh (F := fun k => k = H) hb))
 have HH1 := hid (And.intro ((hb.block bc (bx_lt hHeld.1)).trans hHeld.1) ((hb.block bx (bx_lt hHeld.2)).trans hHeld.2))
 clear hb
 refine hK.out _ _ HH1.out (fun hHeld => ?_)
 clear hK K
 try simp only [Act.put, sA, sB, sC]
 refine wpAnyH_ready (rs := [3]) (by kernel_rfl) (by simp) ?_
 refine AllReadyH.cons (o := ⟨some 5, .call ⟨.value (.func 40), #[.tmp 2, .tmp 4], #[67, 4]⟩, 0, "checker.go:69", #[⟨0, .data⟩, ⟨2, .data⟩, ⟨2, .chain⟩], none⟩) rfl (fun K hK => ?_) AllReadyH.nil
 go_simp
 go_at_call 40
 refine (HRQ.out _ _ HS1.out).mono ?_
 rintro e w2 ⟨rfl, hc, hb⟩
 go_wp2_with fail
 have HS2 := hid hc
 have HB2 := hid (chg1 HB1.out hb)
 have HX2 := hid (And.intro (chg1_blk hb HH1.out.1 HNC.out) (chg1_blk hb HH1.out.2 HNX.out))
 clear hb hc
 refine hK.out _ _ HX2.out (fun _ => ?_)
 clear hK K
 try simp only [Act.put, sA, sB, sC]
 refine wpAnyH_done (by kernel_rfl) ?_ _
 clear HS0 HB0 HX0 HS1 HB1 HH1 HHF HRQ
 by_cases ho1 : o = 1
 ·subst ho1
  have HBC := hid (HBB.out.trans (if_pos rfl))
  clear HOP HNM HBB
  generalize mayV x.v = mv at *
  obtain ⟨r0, r1, r2, r3, r4, r5⟩ := s
  cases r5
  ·cases mv
   ·
    have c2_c := cell_at HX2.out.1 0 rfl
    have c2_0 := cell_at HX2.out.2 0 rfl
    have c2_1 := cell_at HX2.out.2 1 rfl
    have c2_2 := cell_at HX2.out.2 2 rfl
    have c2_3 := cell_at HX2.out.2 3 rfl
    have c2_4 := cell_at HX2.out.2 4 rfl
    have c2_5 := cell_at HX2.out.2 5 rfl
    have c2_6 := cell_at HX2.out.2 6 rfl
    have c2_7 := cell_at HX2.out.2 7 rfl
    go_wp2_with fail
    refine wp_region_held_drew (S := fun u => (u.heap[bc]? = some (.cells #[.pointer (some ⟨H, 0, none⟩)] 67 (0, 0)) ∧ u.heap[bx]? = some (.cells #[.int .i64 1, .string (str x.tb), .string (str x.nm), .int .i64 x.v.k, .int .i64 x.v.n, .string (str x.v.s), .slice a0 na k0, .slice a1 nq k1] 40 (0, 0)))) (by kernel_rfl) (HX2.out) (fun hHeld => ?_)
    refine tk (i := 0) (oi := ⟨some 10, .load 67 (.tmp 0), 67, "checker.go:72", #[], none⟩) (v := ?_) (Or.inl ⟨by rfl, ?_⟩) ?_
    rotate_left 1
    ·(intro u hSw; have p0 := cell_at hSw.1 0 rfl; have q0 := cell_at hSw.2 0 rfl; have q1 := cell_at hSw.2 1 rfl; have q2 := cell_at hSw.2 2 rfl; have q3 := cell_at hSw.2 3 rfl; have q4 := cell_at hSw.2 4 rfl; have q5 := cell_at hSw.2 5 rfl; have q6 := cell_at hSw.2 6 rfl; have q7 := cell_at hSw.2 7 rfl; go_simp; try with_reducible rfl)
    try simp only [Act.put, sA, sB, sC]
    refine tk (i := 1) (oi := ⟨some 11, .load 67 (.tmp 0), 67, "checker.go:72", #[], none⟩) (v := ?_) (Or.inl ⟨by rfl, ?_⟩) ?_
    rotate_left 1
    ·(intro u hSw; have p0 := cell_at hSw.1 0 rfl; have q0 := cell_at hSw.2 0 rfl; have q1 := cell_at hSw.2 1 rfl; have q2 := cell_at hSw.2 2 rfl; have q3 := cell_at hSw.2 3 rfl; have q4 := cell_at hSw.2 4 rfl; have q5 := cell_at hSw.2 5 rfl; have q6 := cell_at hSw.2 6 rfl; have q7 := cell_at hSw.2 7 rfl; go_simp; try with_reducible rfl)
    try simp only [Act.put, sA, sB, sC]
    refine tk (i := 2) (oi := ⟨some 12, .nilCheck (.tmp 11), 0, "checker.go:72", #[⟨1, .data⟩], none⟩) (v := ?_) (Or.inl ⟨by rfl, ?_⟩) ?_
    rotate_left 1
    ·(intro u hSw; go_simp; try with_reducible rfl)
    try simp only [Act.put, sA, sB, sC]
    refine tk (i := 3) (oi := ⟨some 13, .fieldAddr 81 (.tmp 12) 5, 0, "checker.go:72", #[⟨2, .data⟩], none⟩) (v := ?_) (Or.inl ⟨by rfl, ?_⟩) ?_
    rotate_left 1
    ·(intro u hSw; go_simp; try with_reducible rfl)
    try simp only [Act.put, sA, sB, sC]
    refine wpAnyH_ready (rs := [4]) (by kernel_rfl) (by simp) ?_
    refine AllReadyH.cons (o := ⟨some 14, .load 4 (.tmp 13), 4, "checker.go:72", #[⟨3, .data⟩], none⟩) rfl (fun K hK => ?_) AllReadyH.nil
    have HSd := hid (show CkC w2.drew H _ from HS2.out)
    have HBd := hid HB2.out.drew
    generalize World.drew w2 = wd at *
    obtain ⟨d0, d1, d2, d3, d4, d5, df⟩ := HSd.out.cells
    have f5 := df 5
    clear df
    replace d5 : wd.cell? ⟨H, 5, none⟩ = some (.bool false) := d5
    go_simp
    refine hK.out _ _ hHeld (fun hHeld => ?_)
    clear hK K
    try simp only [Act.put, sA, sB, sC]
    refine tk (i := 5) (oi := ⟨some 15, .move (.tmp 14), 4, "checker.go:72", #[⟨4, .data⟩], none⟩) (v := ?_) (Or.inl ⟨by rfl, ?_⟩) ?_
    rotate_left 1
    ·(intro u hSw; go_simp; try with_reducible rfl)
    try simp only [Act.put, sA, sB, sC]
    refine tk (i := 6) (oi := ⟨some 16, .fieldAddr 40 (.tmp 1) 3, 0, "checker.go:72", #[⟨5, .guard⟩], some (5, false)⟩) (v := ?_) (Or.inl ⟨by rfl, ?_⟩) ?_
    rotate_left 1
    ·(intro u hSw; go_simp; try with_reducible rfl)
    try simp only [Act.put, sA, sB, sC]
    refine tk (i := 7) (oi := ⟨some 17, .load 38 (.tmp 16), 38, "checker.go:72", #[⟨6, .data⟩, ⟨5, .guard⟩], some (5, false)⟩) (v := ?_) (Or.inl ⟨by rfl, ?_⟩) ?_
    rotate_left 1
    ·(intro u hSw; have p0 := cell_at hSw.1 0 rfl; have q0 := cell_at hSw.2 0 rfl; have q1 := cell_at hSw.2 1 rfl; have q2 := cell_at hSw.2 2 rfl; have q3 := cell_at hSw.2 3 rfl; have q4 := cell_at hSw.2 4 rfl; have q5 := cell_at hSw.2 5 rfl; have q6 := cell_at hSw.2 6 rfl; have q7 := cell_at hSw.2 7 rfl; go_simp; try with_reducible rfl)
    try simp only [Act.put, sA, sB, sC]
    refine wpAnyH_ready (rs := [8]) (by kernel_rfl) (by simp) ?_
    refine AllReadyH.cons (o := ⟨some 18, .call ⟨.value (.func 90), #[.tmp 17], #[38]⟩, 4, "checker.go:72", #[⟨7, .data⟩, ⟨5, .chain⟩, ⟨5, .guard⟩], some (5, false)⟩) rfl (fun K hK => ?_) AllReadyH.nil
    go_simp
    go_at_call 90
    refine (HMY.out _).mono ?_
    clear HMY
    rintro e w3 ⟨rfl, hb⟩
    go_wp2_with fail
    have hc := (hb.block H (bx_lt HSd.out)).trans HSd.out
    have g5 := frozen_of_row w3 H 5 _ _ hc
    have g6 := cell_at hc 5 rfl
    have x1 := And.intro ((hb.block bc (bx_lt hHeld.1)).trans hHeld.1) ((hb.block bx (bx_lt hHeld.2)).trans hHeld.2)
    replace HSd := hid hc
    replace HBd := hid (chg1 HBd.out (Chg.fresh (F := fun k => k = H) hb))
    clear hb hc
    refine hK.out _ _ x1 (fun hHeld => ?_)
    clear hK K
    try simp only [Act.put, sA, sB, sC]
    refine tk (i := 9) (oi := ⟨some 19, .unOp UnOp.not 4 (.tmp 18), 4, "checker.go:72", #[⟨8, .data⟩, ⟨5, .guard⟩], some (5, false)⟩) (v := ?_) (Or.inl ⟨by rfl, ?_⟩) ?_
    rotate_left 1
    ·(intro u hSw; go_simp; try with_reducible rfl)
    try simp only [Act.put, sA, sB, sC]
    refine tk (i := 10) (oi := ⟨some 20, .pick (.tmp 15) (.const (Value.bool true)) (.tmp 19), 4, "checker.go:72", #[⟨5, .data⟩, ⟨9, .data⟩], none⟩) (v := ?_) (Or.inl ⟨by rfl, ?_⟩) ?_
    rotate_left 1
    ·(intro u hSw; go_simp; try with_reducible rfl)
    try simp only [Act.put, sA, sB, sC]
    refine tk (i := 11) (oi := ⟨some 21, .nilCheck (.tmp 10), 0, "checker.go:72", #[⟨0, .data⟩, ⟨0, .phase⟩, ⟨1, .phase⟩, ⟨2, .phase⟩, ⟨3, .phase⟩, ⟨4, .phase⟩, ⟨5, .phase⟩, ⟨6, .phase⟩, ⟨7, .phase⟩, ⟨8, .phase⟩, ⟨9, .phase⟩, ⟨10, .phase⟩], none⟩) (v := ?_) (Or.inl ⟨by rfl, ?_⟩) ?_
    rotate_left 1
    ·(intro u hSw; go_simp; try with_reducible rfl)
    try simp only [Act.put, sA, sB, sC]
    refine tk (i := 12) (oi := ⟨some 22, .fieldAddr 81 (.tmp 21) 5, 0, "checker.go:72", #[⟨11, .data⟩, ⟨0, .phase⟩, ⟨1, .phase⟩, ⟨2, .phase⟩, ⟨3, .phase⟩, ⟨4, .phase⟩, ⟨5, .phase⟩, ⟨6, .phase⟩, ⟨7, .phase⟩, ⟨8, .phase⟩, ⟨9, .phase⟩, ⟨10, .phase⟩], none⟩) (v := ?_) (Or.inl ⟨by rfl, ?_⟩) ?_
    rotate_left 1
    ·(intro u hSw; go_simp; try with_reducible rfl)
    try simp only [Act.put, sA, sB, sC]
    refine wpAnyH_ready (rs := [13]) (by kernel_rfl) (by simp) ?_
    refine AllReadyH.cons (o := ⟨none, .store 4 (.tmp 22) (.tmp 20), 0, "checker.go:72", #[⟨12, .data⟩, ⟨10, .data⟩, ⟨8, .chain⟩, ⟨0, .phase⟩, ⟨1, .phase⟩, ⟨2, .phase⟩, ⟨3, .phase⟩, ⟨4, .phase⟩, ⟨5, .phase⟩, ⟨6, .phase⟩, ⟨7, .phase⟩, ⟨8, .phase⟩, ⟨9, .phase⟩, ⟨10, .phase⟩], none⟩) rfl (fun K hK => ?_) AllReadyH.nil
    go_simp
    have HS3 := hid (show CkC _ H sB from by rw [HBC.out]; exact CkC.set5 HSd.out (true))
    have HB3 := hid (chs HBd.out 5 (.bool true))
    have HX3 := hid (And.intro (chg1_blk (chs (Chg.refl (fun k => k = H) w3) 5 (.bool true)) hHeld.1 HNC.out) (chg1_blk (chs (Chg.refl (fun k => k = H) w3) 5 (.bool true)) hHeld.2 HNX.out))
    refine hK.out _ _ HX3.out (fun _ => ?_)
    clear hK K
    try simp only [Act.put]
    refine wpAnyH_done (by kernel_rfl) ?_ _
    have c3_c := cell_at HX3.out.1 0 rfl
    have c3_0 := cell_at HX3.out.2 0 rfl
    have c3_1 := cell_at HX3.out.2 1 rfl
    have c3_2 := cell_at HX3.out.2 2 rfl
    have c3_3 := cell_at HX3.out.2 3 rfl
    have c3_4 := cell_at HX3.out.2 4 rfl
    have c3_5 := cell_at HX3.out.2 5 rfl
    have c3_6 := cell_at HX3.out.2 6 rfl
    have c3_7 := cell_at HX3.out.2 7 rfl
    go_wp2_with (first
     | (go_at_call 70; refine (HCA.out _ HS3.out (bw HW.out HB3.out hH)).mono ?_; clear HCA; rintro e w4 ⟨rfl, hc, hb⟩; have x1 := And.intro (chg1_blk hb HX3.out.1 HNC.out) (chg1_blk hb HX3.out.2 HNX.out); clear c3_c c3_0 c3_1 c3_2 c3_3 c3_4 c3_5 c3_6 c3_7; have HX4 := hid x1; have c4_c := cell_at HX4.out.1 0 rfl; have c4_0 := cell_at HX4.out.2 0 rfl; have c4_1 := cell_at HX4.out.2 1 rfl; have c4_2 := cell_at HX4.out.2 2 rfl; have c4_3 := cell_at HX4.out.2 3 rfl; have c4_4 := cell_at HX4.out.2 4 rfl; have c4_5 := cell_at HX4.out.2 5 rfl; have c4_6 := cell_at HX4.out.2 6 rfl; have c4_7 := cell_at HX4.out.2 7 rfl; have HS4 := hid hc; have HB4 := hid (chg1 HB3.out hb); clear hb hc x1)
     | (go_at_call 41; refine (HCQ.out _ HS4.out (bw HW.out HB4.out hH)).mono ?_; clear HCQ; rintro e w5 ⟨rfl, hc, hb⟩; have x1 := And.intro (chg1_blk hb HX4.out.1 HNC.out) (chg1_blk hb HX4.out.2 HNX.out); clear c4_c c4_0 c4_1 c4_2 c4_3 c4_4 c4_5 c4_6 c4_7; have HX5 := hid x1; have c5_c := cell_at HX5.out.1 0 rfl; have c5_0 := cell_at HX5.out.2 0 rfl; have c5_1 := cell_at HX5.out.2 1 rfl; have c5_2 := cell_at HX5.out.2 2 rfl; have c5_3 := cell_at HX5.out.2 3 rfl; have c5_4 := cell_at HX5.out.2 4 rfl; have c5_5 := cell_at HX5.out.2 5 rfl; have c5_6 := cell_at HX5.out.2 6 rfl; have c5_7 := cell_at HX5.out.2 7 rfl; have HS5 := hid hc; have HB5 := hid (chg1 HB4.out hb); clear hb hc x1)
     | fail)
    refine bodyPost_ret (results_none rfl _ _ _) rfl ?_
    exact ⟨rfl, HS5.out, HB5.out⟩
   ·
    have c2_c := cell_at HX2.out.1 0 rfl
    have c2_0 := cell_at HX2.out.2 0 rfl
    have c2_1 := cell_at HX2.out.2 1 rfl
    have c2_2 := cell_at HX2.out.2 2 rfl
    have c2_3 := cell_at HX2.out.2 3 rfl
    have c2_4 := cell_at HX2.out.2 4 rfl
    have c2_5 := cell_at HX2.out.2 5 rfl
    have c2_6 := cell_at HX2.out.2 6 rfl
    have c2_7 := cell_at HX2.out.2 7 rfl
    go_wp2_with fail
    refine wp_region_held_drew (S := fun u => (u.heap[bc]? = some (.cells #[.pointer (some ⟨H, 0, none⟩)] 67 (0, 0)) ∧ u.heap[bx]? = some (.cells #[.int .i64 1, .string (str x.tb), .string (str x.nm), .int .i64 x.v.k, .int .i64 x.v.n, .string (str x.v.s), .slice a0 na k0, .slice a1 nq k1] 40 (0, 0)))) (by kernel_rfl) (HX2.out) (fun hHeld => ?_)
    refine tk (i := 0) (oi := ⟨some 10, .load 67 (.tmp 0), 67, "checker.go:72", #[], none⟩) (v := ?_) (Or.inl ⟨by rfl, ?_⟩) ?_
    rotate_left 1
    ·(intro u hSw; have p0 := cell_at hSw.1 0 rfl; have q0 := cell_at hSw.2 0 rfl; have q1 := cell_at hSw.2 1 rfl; have q2 := cell_at hSw.2 2 rfl; have q3 := cell_at hSw.2 3 rfl; have q4 := cell_at hSw.2 4 rfl; have q5 := cell_at hSw.2 5 rfl; have q6 := cell_at hSw.2 6 rfl; have q7 := cell_at hSw.2 7 rfl; go_simp; try with_reducible rfl)
    try simp only [Act.put, sA, sB, sC]
    refine tk (i := 1) (oi := ⟨some 11, .load 67 (.tmp 0), 67, "checker.go:72", #[], none⟩) (v := ?_) (Or.inl ⟨by rfl, ?_⟩) ?_
    rotate_left 1
    ·(intro u hSw; have p0 := cell_at hSw.1 0 rfl; have q0 := cell_at hSw.2 0 rfl; have q1 := cell_at hSw.2 1 rfl; have q2 := cell_at hSw.2 2 rfl; have q3 := cell_at hSw.2 3 rfl; have q4 := cell_at hSw.2 4 rfl; have q5 := cell_at hSw.2 5 rfl; have q6 := cell_at hSw.2 6 rfl; have q7 := cell_at hSw.2 7 rfl; go_simp; try with_reducible rfl)
    try simp only [Act.put, sA, sB, sC]
    refine tk (i := 2) (oi := ⟨some 12, .nilCheck (.tmp 11), 0, "checker.go:72", #[⟨1, .data⟩], none⟩) (v := ?_) (Or.inl ⟨by rfl, ?_⟩) ?_
    rotate_left 1
    ·(intro u hSw; go_simp; try with_reducible rfl)
    try simp only [Act.put, sA, sB, sC]
    refine tk (i := 3) (oi := ⟨some 13, .fieldAddr 81 (.tmp 12) 5, 0, "checker.go:72", #[⟨2, .data⟩], none⟩) (v := ?_) (Or.inl ⟨by rfl, ?_⟩) ?_
    rotate_left 1
    ·(intro u hSw; go_simp; try with_reducible rfl)
    try simp only [Act.put, sA, sB, sC]
    refine wpAnyH_ready (rs := [4]) (by kernel_rfl) (by simp) ?_
    refine AllReadyH.cons (o := ⟨some 14, .load 4 (.tmp 13), 4, "checker.go:72", #[⟨3, .data⟩], none⟩) rfl (fun K hK => ?_) AllReadyH.nil
    have HSd := hid (show CkC w2.drew H _ from HS2.out)
    have HBd := hid HB2.out.drew
    generalize World.drew w2 = wd at *
    obtain ⟨d0, d1, d2, d3, d4, d5, df⟩ := HSd.out.cells
    have f5 := df 5
    clear df
    replace d5 : wd.cell? ⟨H, 5, none⟩ = some (.bool false) := d5
    go_simp
    refine hK.out _ _ hHeld (fun hHeld => ?_)
    clear hK K
    try simp only [Act.put, sA, sB, sC]
    refine tk (i := 5) (oi := ⟨some 15, .move (.tmp 14), 4, "checker.go:72", #[⟨4, .data⟩], none⟩) (v := ?_) (Or.inl ⟨by rfl, ?_⟩) ?_
    rotate_left 1
    ·(intro u hSw; go_simp; try with_reducible rfl)
    try simp only [Act.put, sA, sB, sC]
    refine tk (i := 6) (oi := ⟨some 16, .fieldAddr 40 (.tmp 1) 3, 0, "checker.go:72", #[⟨5, .guard⟩], some (5, false)⟩) (v := ?_) (Or.inl ⟨by rfl, ?_⟩) ?_
    rotate_left 1
    ·(intro u hSw; go_simp; try with_reducible rfl)
    try simp only [Act.put, sA, sB, sC]
    refine tk (i := 7) (oi := ⟨some 17, .load 38 (.tmp 16), 38, "checker.go:72", #[⟨6, .data⟩, ⟨5, .guard⟩], some (5, false)⟩) (v := ?_) (Or.inl ⟨by rfl, ?_⟩) ?_
    rotate_left 1
    ·(intro u hSw; have p0 := cell_at hSw.1 0 rfl; have q0 := cell_at hSw.2 0 rfl; have q1 := cell_at hSw.2 1 rfl; have q2 := cell_at hSw.2 2 rfl; have q3 := cell_at hSw.2 3 rfl; have q4 := cell_at hSw.2 4 rfl; have q5 := cell_at hSw.2 5 rfl; have q6 := cell_at hSw.2 6 rfl; have q7 := cell_at hSw.2 7 rfl; go_simp; try with_reducible rfl)
    try simp only [Act.put, sA, sB, sC]
    refine wpAnyH_ready (rs := [8]) (by kernel_rfl) (by simp) ?_
    refine AllReadyH.cons (o := ⟨some 18, .call ⟨.value (.func 90), #[.tmp 17], #[38]⟩, 4, "checker.go:72", #[⟨7, .data⟩, ⟨5, .chain⟩, ⟨5, .guard⟩], some (5, false)⟩) rfl (fun K hK => ?_) AllReadyH.nil
    go_simp
    go_at_call 90
    refine (HMY.out _).mono ?_
    clear HMY
    rintro e w3 ⟨rfl, hb⟩
    go_wp2_with fail
    have hc := (hb.block H (bx_lt HSd.out)).trans HSd.out
    have g5 := frozen_of_row w3 H 5 _ _ hc
    have g6 := cell_at hc 5 rfl
    have x1 := And.intro ((hb.block bc (bx_lt hHeld.1)).trans hHeld.1) ((hb.block bx (bx_lt hHeld.2)).trans hHeld.2)
    replace HSd := hid hc
    replace HBd := hid (chg1 HBd.out (Chg.fresh (F := fun k => k = H) hb))
    clear hb hc
    refine hK.out _ _ x1 (fun hHeld => ?_)
    clear hK K
    try simp only [Act.put, sA, sB, sC]
    refine tk (i := 9) (oi := ⟨some 19, .unOp UnOp.not 4 (.tmp 18), 4, "checker.go:72", #[⟨8, .data⟩, ⟨5, .guard⟩], some (5, false)⟩) (v := ?_) (Or.inl ⟨by rfl, ?_⟩) ?_
    rotate_left 1
    ·(intro u hSw; go_simp; try with_reducible rfl)
    try simp only [Act.put, sA, sB, sC]
    refine tk (i := 10) (oi := ⟨some 20, .pick (.tmp 15) (.const (Value.bool true)) (.tmp 19), 4, "checker.go:72", #[⟨5, .data⟩, ⟨9, .data⟩], none⟩) (v := ?_) (Or.inl ⟨by rfl, ?_⟩) ?_
    rotate_left 1
    ·(intro u hSw; go_simp; try with_reducible rfl)
    try simp only [Act.put, sA, sB, sC]
    refine tk (i := 11) (oi := ⟨some 21, .nilCheck (.tmp 10), 0, "checker.go:72", #[⟨0, .data⟩, ⟨0, .phase⟩, ⟨1, .phase⟩, ⟨2, .phase⟩, ⟨3, .phase⟩, ⟨4, .phase⟩, ⟨5, .phase⟩, ⟨6, .phase⟩, ⟨7, .phase⟩, ⟨8, .phase⟩, ⟨9, .phase⟩, ⟨10, .phase⟩], none⟩) (v := ?_) (Or.inl ⟨by rfl, ?_⟩) ?_
    rotate_left 1
    ·(intro u hSw; go_simp; try with_reducible rfl)
    try simp only [Act.put, sA, sB, sC]
    refine tk (i := 12) (oi := ⟨some 22, .fieldAddr 81 (.tmp 21) 5, 0, "checker.go:72", #[⟨11, .data⟩, ⟨0, .phase⟩, ⟨1, .phase⟩, ⟨2, .phase⟩, ⟨3, .phase⟩, ⟨4, .phase⟩, ⟨5, .phase⟩, ⟨6, .phase⟩, ⟨7, .phase⟩, ⟨8, .phase⟩, ⟨9, .phase⟩, ⟨10, .phase⟩], none⟩) (v := ?_) (Or.inl ⟨by rfl, ?_⟩) ?_
    rotate_left 1
    ·(intro u hSw; go_simp; try with_reducible rfl)
    try simp only [Act.put, sA, sB, sC]
    refine wpAnyH_ready (rs := [13]) (by kernel_rfl) (by simp) ?_
    refine AllReadyH.cons (o := ⟨none, .store 4 (.tmp 22) (.tmp 20), 0, "checker.go:72", #[⟨12, .data⟩, ⟨10, .data⟩, ⟨8, .chain⟩, ⟨0, .phase⟩, ⟨1, .phase⟩, ⟨2, .phase⟩, ⟨3, .phase⟩, ⟨4, .phase⟩, ⟨5, .phase⟩, ⟨6, .phase⟩, ⟨7, .phase⟩, ⟨8, .phase⟩, ⟨9, .phase⟩, ⟨10, .phase⟩], none⟩) rfl (fun K hK => ?_) AllReadyH.nil
    go_simp
    have HS3 := hid (show CkC _ H sB from by rw [HBC.out]; exact CkC.set5 HSd.out (false))
    have HB3 := hid (chs HBd.out 5 (.bool false))
    have HX3 := hid (And.intro (chg1_blk (chs (Chg.refl (fun k => k = H) w3) 5 (.bool false)) hHeld.1 HNC.out) (chg1_blk (chs (Chg.refl (fun k => k = H) w3) 5 (.bool false)) hHeld.2 HNX.out))
    refine hK.out _ _ HX3.out (fun _ => ?_)
    clear hK K
    try simp only [Act.put]
    refine wpAnyH_done (by kernel_rfl) ?_ _
    have c3_c := cell_at HX3.out.1 0 rfl
    have c3_0 := cell_at HX3.out.2 0 rfl
    have c3_1 := cell_at HX3.out.2 1 rfl
    have c3_2 := cell_at HX3.out.2 2 rfl
    have c3_3 := cell_at HX3.out.2 3 rfl
    have c3_4 := cell_at HX3.out.2 4 rfl
    have c3_5 := cell_at HX3.out.2 5 rfl
    have c3_6 := cell_at HX3.out.2 6 rfl
    have c3_7 := cell_at HX3.out.2 7 rfl
    go_wp2_with (first
     | (go_at_call 70; refine (HCA.out _ HS3.out (bw HW.out HB3.out hH)).mono ?_; clear HCA; rintro e w4 ⟨rfl, hc, hb⟩; have x1 := And.intro (chg1_blk hb HX3.out.1 HNC.out) (chg1_blk hb HX3.out.2 HNX.out); clear c3_c c3_0 c3_1 c3_2 c3_3 c3_4 c3_5 c3_6 c3_7; have HX4 := hid x1; have c4_c := cell_at HX4.out.1 0 rfl; have c4_0 := cell_at HX4.out.2 0 rfl; have c4_1 := cell_at HX4.out.2 1 rfl; have c4_2 := cell_at HX4.out.2 2 rfl; have c4_3 := cell_at HX4.out.2 3 rfl; have c4_4 := cell_at HX4.out.2 4 rfl; have c4_5 := cell_at HX4.out.2 5 rfl; have c4_6 := cell_at HX4.out.2 6 rfl; have c4_7 := cell_at HX4.out.2 7 rfl; have HS4 := hid hc; have HB4 := hid (chg1 HB3.out hb); clear hb hc x1)
     | (go_at_call 41; refine (HCQ.out _ HS4.out (bw HW.out HB4.out hH)).mono ?_; clear HCQ; rintro e w5 ⟨rfl, hc, hb⟩; have x1 := And.intro (chg1_blk hb HX4.out.1 HNC.out) (chg1_blk hb HX4.out.2 HNX.out); clear c4_c c4_0 c4_1 c4_2 c4_3 c4_4 c4_5 c4_6 c4_7; have HX5 := hid x1; have c5_c := cell_at HX5.out.1 0 rfl; have c5_0 := cell_at HX5.out.2 0 rfl; have c5_1 := cell_at HX5.out.2 1 rfl; have c5_2 := cell_at HX5.out.2 2 rfl; have c5_3 := cell_at HX5.out.2 3 rfl; have c5_4 := cell_at HX5.out.2 4 rfl; have c5_5 := cell_at HX5.out.2 5 rfl; have c5_6 := cell_at HX5.out.2 6 rfl; have c5_7 := cell_at HX5.out.2 7 rfl; have HS5 := hid hc; have HB5 := hid (chg1 HB4.out hb); clear hb hc x1)
     | fail)
    refine bodyPost_ret (results_none rfl _ _ _) rfl ?_
    exact ⟨rfl, HS5.out, HB5.out⟩
  ·
   have c2_c := cell_at HX2.out.1 0 rfl
   have c2_0 := cell_at HX2.out.2 0 rfl
   have c2_1 := cell_at HX2.out.2 1 rfl
   have c2_2 := cell_at HX2.out.2 2 rfl
   have c2_3 := cell_at HX2.out.2 3 rfl
   have c2_4 := cell_at HX2.out.2 4 rfl
   have c2_5 := cell_at HX2.out.2 5 rfl
   have c2_6 := cell_at HX2.out.2 6 rfl
   have c2_7 := cell_at HX2.out.2 7 rfl
   go_wp2_with fail
   refine wp_region_held_drew (S := fun u => (u.heap[bc]? = some (.cells #[.pointer (some ⟨H, 0, none⟩)] 67 (0, 0)) ∧ u.heap[bx]? = some (.cells #[.int .i64 1, .string (str x.tb), .string (str x.nm), .int .i64 x.v.k, .int .i64 x.v.n, .string (str x.v.s), .slice a0 na k0, .slice a1 nq k1] 40 (0, 0)))) (by kernel_rfl) (HX2.out) (fun hHeld => ?_)
   refine tk (i := 0) (oi := ⟨some 10, .load 67 (.tmp 0), 67, "checker.go:72", #[], none⟩) (v := ?_) (Or.inl ⟨by rfl, ?_⟩) ?_
   rotate_left 1
   ·(intro u hSw; have p0 := cell_at hSw.1 0 rfl; have q0 := cell_at hSw.2 0 rfl; have q1 := cell_at hSw.2 1 rfl; have q2 := cell_at hSw.2 2 rfl; have q3 := cell_at hSw.2 3 rfl; have q4 := cell_at hSw.2 4 rfl; have q5 := cell_at hSw.2 5 rfl; have q6 := cell_at hSw.2 6 rfl; have q7 := cell_at hSw.2 7 rfl; go_simp; try with_reducible rfl)
   try simp only [Act.put, sA, sB, sC]
   refine tk (i := 1) (oi := ⟨some 11, .load 67 (.tmp 0), 67, "checker.go:72", #[], none⟩) (v := ?_) (Or.inl ⟨by rfl, ?_⟩) ?_
   rotate_left 1
   ·(intro u hSw; have p0 := cell_at hSw.1 0 rfl; have q0 := cell_at hSw.2 0 rfl; have q1 := cell_at hSw.2 1 rfl; have q2 := cell_at hSw.2 2 rfl; have q3 := cell_at hSw.2 3 rfl; have q4 := cell_at hSw.2 4 rfl; have q5 := cell_at hSw.2 5 rfl; have q6 := cell_at hSw.2 6 rfl; have q7 := cell_at hSw.2 7 rfl; go_simp; try with_reducible rfl)
   try simp only [Act.put, sA, sB, sC]
   refine tk (i := 2) (oi := ⟨some 12, .nilCheck (.tmp 11), 0, "checker.go:72", #[⟨1, .data⟩], none⟩) (v := ?_) (Or.inl ⟨by rfl, ?_⟩) ?_
   rotate_left 1
   ·(intro u hSw; go_simp; try with_reducible rfl)
   try simp only [Act.put, sA, sB, sC]
   refine tk (i := 3) (oi := ⟨some 13, .fieldAddr 81 (.tmp 12) 5, 0, "checker.go:72", #[⟨2, .data⟩], none⟩) (v := ?_) (Or.inl ⟨by rfl, ?_⟩) ?_
   rotate_left 1
   ·(intro u hSw; go_simp; try with_reducible rfl)
   try simp only [Act.put, sA, sB, sC]
   refine wpAnyH_ready (rs := [4]) (by kernel_rfl) (by simp) ?_
   refine AllReadyH.cons (o := ⟨some 14, .load 4 (.tmp 13), 4, "checker.go:72", #[⟨3, .data⟩], none⟩) rfl (fun K hK => ?_) AllReadyH.nil
   have HSd := hid (show CkC w2.drew H _ from HS2.out)
   have HBd := hid HB2.out.drew
   generalize World.drew w2 = wd at *
   obtain ⟨d0, d1, d2, d3, d4, d5, df⟩ := HSd.out.cells
   have f5 := df 5
   clear df
   replace d5 : wd.cell? ⟨H, 5, none⟩ = some (.bool true) := d5
   go_simp
   refine hK.out _ _ hHeld (fun hHeld => ?_)
   clear hK K
   try simp only [Act.put, sA, sB, sC]
   refine tk (i := 5) (oi := ⟨some 15, .move (.tmp 14), 4, "checker.go:72", #[⟨4, .data⟩], none⟩) (v := ?_) (Or.inl ⟨by rfl, ?_⟩) ?_
   rotate_left 1
   ·(intro u hSw; go_simp; try with_reducible rfl)
   try simp only [Act.put, sA, sB, sC]
   refine tk (i := 6) (oi := ⟨some 16, .fieldAddr 40 (.tmp 1) 3, 0, "checker.go:72", #[⟨5, .guard⟩], some (5, false)⟩) (v := undef) (by exact .inr ⟨by rfl, rfl⟩) ?_
   try simp only [Act.put, sA, sB, sC]
   refine tk (i := 7) (oi := ⟨some 17, .load 38 (.tmp 16), 38, "checker.go:72", #[⟨6, .data⟩, ⟨5, .guard⟩], some (5, false)⟩) (v := undef) (by exact .inr ⟨by rfl, rfl⟩) ?_
   try simp only [Act.put, sA, sB, sC]
   refine tk (i := 8) (oi := ⟨some 18, .call ⟨.value (.func 90), #[.tmp 17], #[38]⟩, 4, "checker.go:72", #[⟨7, .data⟩, ⟨5, .chain⟩, ⟨5, .guard⟩], some (5, false)⟩) (v := undef) (by exact .inr ⟨by rfl, rfl⟩) ?_
   try simp only [Act.put, sA, sB, sC]
   refine tk (i := 9) (oi := ⟨some 19, .unOp UnOp.not 4 (.tmp 18), 4, "checker.go:72", #[⟨8, .data⟩, ⟨5, .guard⟩], some (5, false)⟩) (v := undef) (by exact .inr ⟨by rfl, rfl⟩) ?_
   try simp only [Act.put, sA, sB, sC]
   refine tk (i := 10) (oi := ⟨some 20, .pick (.tmp 15) (.const (Value.bool true)) (.tmp 19), 4, "checker.go:72", #[⟨5, .data⟩, ⟨9, .data⟩], none⟩) (v := ?_) (Or.inl ⟨by rfl, ?_⟩) ?_
   rotate_left 1
   ·(intro u hSw; go_simp; try with_reducible rfl)
   try simp only [Act.put, sA, sB, sC]
   refine tk (i := 11) (oi := ⟨some 21, .nilCheck (.tmp 10), 0, "checker.go:72", #[⟨0, .data⟩, ⟨0, .phase⟩, ⟨1, .phase⟩, ⟨2, .phase⟩, ⟨3, .phase⟩, ⟨4, .phase⟩, ⟨5, .phase⟩, ⟨6, .phase⟩, ⟨7, .phase⟩, ⟨8, .phase⟩, ⟨9, .phase⟩, ⟨10, .phase⟩], none⟩) (v := ?_) (Or.inl ⟨by rfl, ?_⟩) ?_
   rotate_left 1
   ·(intro u hSw; go_simp; try with_reducible rfl)
   try simp only [Act.put, sA, sB, sC]
   refine tk (i := 12) (oi := ⟨some 22, .fieldAddr 81 (.tmp 21) 5, 0, "checker.go:72", #[⟨11, .data⟩, ⟨0, .phase⟩, ⟨1, .phase⟩, ⟨2, .phase⟩, ⟨3, .phase⟩, ⟨4, .phase⟩, ⟨5, .phase⟩, ⟨6, .phase⟩, ⟨7, .phase⟩, ⟨8, .phase⟩, ⟨9, .phase⟩, ⟨10, .phase⟩], none⟩) (v := ?_) (Or.inl ⟨by rfl, ?_⟩) ?_
   rotate_left 1
   ·(intro u hSw; go_simp; try with_reducible rfl)
   try simp only [Act.put, sA, sB, sC]
   refine wpAnyH_ready (rs := [13]) (by kernel_rfl) (by simp) ?_
   refine AllReadyH.cons (o := ⟨none, .store 4 (.tmp 22) (.tmp 20), 0, "checker.go:72", #[⟨12, .data⟩, ⟨10, .data⟩, ⟨8, .chain⟩, ⟨0, .phase⟩, ⟨1, .phase⟩, ⟨2, .phase⟩, ⟨3, .phase⟩, ⟨4, .phase⟩, ⟨5, .phase⟩, ⟨6, .phase⟩, ⟨7, .phase⟩, ⟨8, .phase⟩, ⟨9, .phase⟩, ⟨10, .phase⟩], none⟩) rfl (fun K hK => ?_) AllReadyH.nil
   go_simp
   have HS3 := hid (show CkC _ H sB from by rw [HBC.out]; exact CkC.set5 HSd.out (true))
   have HB3 := hid (chs HBd.out 5 (.bool true))
   have HX3 := hid (And.intro (chg1_blk (chs (Chg.refl (fun k => k = H) wd) 5 (.bool true)) hHeld.1 HNC.out) (chg1_blk (chs (Chg.refl (fun k => k = H) wd) 5 (.bool true)) hHeld.2 HNX.out))
   refine hK.out _ _ HX3.out (fun _ => ?_)
   clear hK K
   try simp only [Act.put]
   refine wpAnyH_done (by kernel_rfl) ?_ _
   have c3_c := cell_at HX3.out.1 0 rfl
   have c3_0 := cell_at HX3.out.2 0 rfl
   have c3_1 := cell_at HX3.out.2 1 rfl
   have c3_2 := cell_at HX3.out.2 2 rfl
   have c3_3 := cell_at HX3.out.2 3 rfl
   have c3_4 := cell_at HX3.out.2 4 rfl
   have c3_5 := cell_at HX3.out.2 5 rfl
   have c3_6 := cell_at HX3.out.2 6 rfl
   have c3_7 := cell_at HX3.out.2 7 rfl
   go_wp2_with (first
    | (go_at_call 70; refine (HCA.out _ HS3.out (bw HW.out HB3.out hH)).mono ?_; clear HCA; rintro e w4 ⟨rfl, hc, hb⟩; have x1 := And.intro (chg1_blk hb HX3.out.1 HNC.out) (chg1_blk hb HX3.out.2 HNX.out); clear c3_c c3_0 c3_1 c3_2 c3_3 c3_4 c3_5 c3_6 c3_7; have HX4 := hid x1; have c4_c := cell_at HX4.out.1 0 rfl; have c4_0 := cell_at HX4.out.2 0 rfl; have c4_1 := cell_at HX4.out.2 1 rfl; have c4_2 := cell_at HX4.out.2 2 rfl; have c4_3 := cell_at HX4.out.2 3 rfl; have c4_4 := cell_at HX4.out.2 4 rfl; have c4_5 := cell_at HX4.out.2 5 rfl; have c4_6 := cell_at HX4.out.2 6 rfl; have c4_7 := cell_at HX4.out.2 7 rfl; have HS4 := hid hc; have HB4 := hid (chg1 HB3.out hb); clear hb hc x1)
    | (go_at_call 41; refine (HCQ.out _ HS4.out (bw HW.out HB4.out hH)).mono ?_; clear HCQ; rintro e w5 ⟨rfl, hc, hb⟩; have x1 := And.intro (chg1_blk hb HX4.out.1 HNC.out) (chg1_blk hb HX4.out.2 HNX.out); clear c4_c c4_0 c4_1 c4_2 c4_3 c4_4 c4_5 c4_6 c4_7; have HX5 := hid x1; have c5_c := cell_at HX5.out.1 0 rfl; have c5_0 := cell_at HX5.out.2 0 rfl; have c5_1 := cell_at HX5.out.2 1 rfl; have c5_2 := cell_at HX5.out.2 2 rfl; have c5_3 := cell_at HX5.out.2 3 rfl; have c5_4 := cell_at HX5.out.2 4 rfl; have c5_5 := cell_at HX5.out.2 5 rfl; have c5_6 := cell_at HX5.out.2 6 rfl; have c5_7 := cell_at HX5.out.2 7 rfl; have HS5 := hid hc; have HB5 := hid (chg1 HB4.out hb); clear hb hc x1)
    | fail)
   refine bodyPost_ret (results_none rfl _ _ _) rfl ?_
   exact ⟨rfl, HS5.out, HB5.out⟩
 ·have e1 : (o == (1 : Int)) = false := beq_eq_false_iff_ne.2 ho1
  clear HMY
  have c2_c := cell_at HX2.out.1 0 rfl
  have c2_0 := cell_at HX2.out.2 0 rfl
  have c2_1 := cell_at HX2.out.2 1 rfl
  have c2_2 := cell_at HX2.out.2 2 rfl
  have c2_3 := cell_at HX2.out.2 3 rfl
  have c2_4 := cell_at HX2.out.2 4 rfl
  have c2_5 := cell_at HX2.out.2 5 rfl
  have c2_6 := cell_at HX2.out.2 6 rfl
  have c2_7 := cell_at HX2.out.2 7 rfl
  by_cases ho2 : o = 2
  ·subst ho2
   have HBC := hid ((HBB.out.trans (if_neg (by omega))).trans (if_pos rfl))
   clear HBB
   go_wp2_with (first
    | (go_at_call 87; refine (HOP.out _ HS2.out).mono ?_; clear HOP; rintro e w3 ⟨rfl, hc, hb⟩; have x1 := And.intro (chg1_blk hb HX2.out.1 HNC.out) (chg1_blk hb HX2.out.2 HNX.out); clear c2_c c2_0 c2_1 c2_2 c2_3 c2_4 c2_5 c2_6 c2_7; have HX3 := hid x1; have c3_c := cell_at HX3.out.1 0 rfl; have c3_0 := cell_at HX3.out.2 0 rfl; have c3_1 := cell_at HX3.out.2 1 rfl; have c3_2 := cell_at HX3.out.2 2 rfl; have c3_3 := cell_at HX3.out.2 3 rfl; have c3_4 := cell_at HX3.out.2 4 rfl; have c3_5 := cell_at HX3.out.2 5 rfl; have c3_6 := cell_at HX3.out.2 6 rfl; have c3_7 := cell_at HX3.out.2 7 rfl; have HS3 := hid hc; have HB3 := hid (chg1 HB2.out hb); clear hb hc x1)
    | (go_at_call 51; refine (HNM.out _ HS3.out).mono ?_; clear HNM; rintro e w6 ⟨rfl, hc, hb⟩; have x1 := And.intro (chg1_blk hb HX3.out.1 HNC.out) (chg1_blk hb HX3.out.2 HNX.out); clear c3_c c3_0 c3_1 c3_2 c3_3 c3_4 c3_5 c3_6 c3_7; have HX6 := hid x1; have c6_c := cell_at HX6.out.1 0 rfl; have c6_0 := cell_at HX6.out.2 0 rfl; have c6_1 := cell_at HX6.out.2 1 rfl; have c6_2 := cell_at HX6.out.2 2 rfl; have c6_3 := cell_at HX6.out.2 3 rfl; have c6_4 := cell_at HX6.out.2 4 rfl; have c6_5 := cell_at HX6.out.2 5 rfl; have c6_6 := cell_at HX6.out.2 6 rfl; have c6_7 := cell_at HX6.out.2 7 rfl; have HS6 := hid hc; have HB6 := hid (chg1 HB3.out hb); clear hb hc x1)
    | (go_at_call 70; refine (HCA.out _ (by rw [HBC.out]; exact HS6.out) (bw HW.out HB6.out hH)).mono ?_; clear HCA; rintro e w4 ⟨rfl, hc, hb⟩; have x1 := And.intro (chg1_blk hb HX6.out.1 HNC.out) (chg1_blk hb HX6.out.2 HNX.out); clear c6_c c6_0 c6_1 c6_2 c6_3 c6_4 c6_5 c6_6 c6_7; have HX4 := hid x1; have c4_c := cell_at HX4.out.1 0 rfl; have c4_0 := cell_at HX4.out.2 0 rfl; have c4_1 := cell_at HX4.out.2 1 rfl; have c4_2 := cell_at HX4.out.2 2 rfl; have c4_3 := cell_at HX4.out.2 3 rfl; have c4_4 := cell_at HX4.out.2 4 rfl; have c4_5 := cell_at HX4.out.2 5 rfl; have c4_6 := cell_at HX4.out.2 6 rfl; have c4_7 := cell_at HX4.out.2 7 rfl; have HS4 := hid hc; have HB4 := hid (chg1 HB6.out hb); clear hb hc x1)
    | (go_at_call 41; refine (HCQ.out _ HS4.out (bw HW.out HB4.out hH)).mono ?_; clear HCQ; rintro e w5 ⟨rfl, hc, hb⟩; have x1 := And.intro (chg1_blk hb HX4.out.1 HNC.out) (chg1_blk hb HX4.out.2 HNX.out); clear c4_c c4_0 c4_1 c4_2 c4_3 c4_4 c4_5 c4_6 c4_7; have HX5 := hid x1; have c5_c := cell_at HX5.out.1 0 rfl; have c5_0 := cell_at HX5.out.2 0 rfl; have c5_1 := cell_at HX5.out.2 1 rfl; have c5_2 := cell_at HX5.out.2 2 rfl; have c5_3 := cell_at HX5.out.2 3 rfl; have c5_4 := cell_at HX5.out.2 4 rfl; have c5_5 := cell_at HX5.out.2 5 rfl; have c5_6 := cell_at HX5.out.2 6 rfl; have c5_7 := cell_at HX5.out.2 7 rfl; have HS5 := hid hc; have HB5 := hid (chg1 HB4.out hb); clear hb hc x1)
    | fail)
   refine bodyPost_ret (results_none rfl _ _ _) rfl ?_
   exact ⟨rfl, HS5.out, HB5.out⟩
  ·have e2 : (o == (2 : Int)) = false := beq_eq_false_iff_ne.2 ho2
   have HBC := hid ((HBB.out.trans (if_neg ho1)).trans (if_neg ho2))
   clear HBB HOP HNM
   go_wp2_with (first
    | (go_at_call 70; refine (HCA.out _ (by rw [HBC.out]; exact HS2.out) (bw HW.out HB2.out hH)).mono ?_; clear HCA; rintro e w4 ⟨rfl, hc, hb⟩; have x1 := And.intro (chg1_blk hb HX2.out.1 HNC.out) (chg1_blk hb HX2.out.2 HNX.out); clear c2_c c2_0 c2_1 c2_2 c2_3 c2_4 c2_5 c2_6 c2_7; have HX4 := hid x1; have c4_c := cell_at HX4.out.1 0 rfl; have c4_0 := cell_at HX4.out.2 0 rfl; have c4_1 := cell_at HX4.out.2 1 rfl; have c4_2 := cell_at HX4.out.2 2 rfl; have c4_3 := cell_at HX4.out.2 3 rfl; have c4_4 := cell_at HX4.out.2 4 rfl; have c4_5 := cell_at HX4.out.2 5 rfl; have c4_6 := cell_at HX4.out.2 6 rfl; have c4_7 := cell_at HX4.out.2 7 rfl; have HS4 := hid hc; have HB4 := hid (chg1 HB2.out hb); clear hb hc x1)
    | (go_at_call 41; refine (HCQ.out _ HS4.out (bw HW.out HB4.out hH)).mono ?_; clear HCQ; rintro e w5 ⟨rfl, hc, hb⟩; have x1 := And.intro (chg1_blk hb HX4.out.1 HNC.out) (chg1_blk hb HX4.out.2 HNX.out); clear c4_c c4_0 c4_1 c4_2 c4_3 c4_4 c4_5 c4_6 c4_7; have HX5 := hid x1; have c5_c := cell_at HX5.out.1 0 rfl; have c5_0 := cell_at HX5.out.2 0 rfl; have c5_1 := cell_at HX5.out.2 1 rfl; have c5_2 := cell_at HX5.out.2 2 rfl; have c5_3 := cell_at HX5.out.2 3 rfl; have c5_4 := cell_at HX5.out.2 4 rfl; have c5_5 := cell_at HX5.out.2 5 rfl; have c5_6 := cell_at HX5.out.2 6 rfl; have c5_7 := cell_at HX5.out.2 7 rfl; have HS5 := hid hc; have HB5 := hid (chg1 HB4.out hb); clear hb hc x1)
    | fail)
   refine bodyPost_ret (results_none rfl _ _ _) rfl ?_
   exact ⟨rfl, HS5.out, HB5.out⟩
end Go.Proofs.YtegkbagnbnoopaaGreatDoor
/- the checker of print: one step of query -/
namespace Go.Proofs.YtegkbagnbnoopaaGreatDoor
open Go.ChangeShapes Go.WideShapes Go.ChangeAt Go.RowKit Go.Deep
open Go.Lib (hid)
theorem len1 {α : Type} (l : List α) : decide (0 < l.length) = !l.isEmpty := by cases l <;> simp
/-- a query within -/
def quB (x : Qu) (s : Ck) : Ck := (s.req (decide (x.n = 0) || (x.lim && decide (0 < x.n)))).req (if x.op = 1 then x.parts.isEmpty && (!x.sel.items.isEmpty && !x.sel.fro.isEmpty) else if x.op = 2 ∨ x.op = 3 then decide (x.parts.length = 2) && x.sel.isZ else false)
end Go.Proofs.YtegkbagnbnoopaaGreatDoor
