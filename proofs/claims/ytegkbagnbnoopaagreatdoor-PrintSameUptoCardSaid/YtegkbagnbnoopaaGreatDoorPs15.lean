/- the checker of print: one step of selects -/
import Derived.Test.YtegkbagnbnoopaaGreatDoorPs14
namespace Go.Proofs.YtegkbagnbnoopaaGreatDoor
open Go.ChangeShapes Go.WideShapes Go.ChangeAt Go.RowKit Go.Deep
open Go.Lib (hid)
set_option maxRecDepth 100000 in
set_option maxHeartbeats 6400000 in
theorem sos_snoc (l : List So) (k : Nat) (x : So) (s : Ck) (h : l[k]? = some x) : sosCk true (l.take (k + 1)) s = x.ck ((sosCk true (l.take k) s).req (joinsOK (decide (k = 0)) x.kind x.on.length)) := by
 have key : ∀ (l : List So) (k : Nat) (x : So) (f : Bool) (s : Ck), l[k]? = some x → sosCk f (l.take (k + 1)) s = x.ck ((sosCk f (l.take k) s).req (joinsOK (f && decide (k = 0)) x.kind x.on.length)) := by
  intro l
  induction l with
  | nil => intro k x f s h; simp at h
  | cons y l ih =>
   intro k x f s h
   cases k with
   | zero =>
    injection h with h
    subst h
    simp [sosCk]
   | succ k =>
    have h : l[k]? = some x := by simpa using h
    show sosCk false (l.take (k + 1)) _ = _
    rw [ih k x false _ h]
    have e : decide (k + 1 = 0) = false := decide_eq_false (by omega)
    rw [e, Bool.false_and, Bool.and_false]
    rfl
 simpa using key l k x true s h
theorem sos_split (l : List So) (k : Nat) (x : So) (s : Ck) (_ : l[k]? = some x) : Pr (sosCk true (l.take (k + 1)) s) (sosCk true l s) := by
 have key : ∀ (l : List So) (k : Nat) (f : Bool) (s : Ck), Pr (sosCk f (l.take k) s) (sosCk f l s) := by
  intro l
  induction l with
  | nil => intro k f s; simp; exact Pr.refl _
  | cons y l ih =>
   intro k f s
   cases k with
   | zero => exact sos_pr f _ s
   | succ k => exact ih k false _
 exact key l (k + 1) true s
set_option maxRecDepth 100000 in
set_option maxHeartbeats 6400000 in
theorem selects_step {w0 : World} {x : Se} (hI : ∀ y ∈ x.items, CIt w0 y) (hS : ∀ y ∈ x.fro, CSo w0 y) (hw3 : ∀ y ∈ x.wh, CEx w0 y) (hg3 : ∀ y ∈ x.gr, CEx w0 y) (hh3 : ∀ y ∈ x.hv, CEx w0 y)
  (y0 : x.items.length ≤ 1073741823) (y1 : x.fro.length ≤ 1073741823) (y2 : x.wh.length ≤ 1073741823) (y3 : x.gr.length ≤ 1073741823) (y4 : x.hv.length ≤ 1073741823) : CSe w0 x := by
 intro H s w v hH hw hc hv g
 obtain ⟨p0, p1, p2, p3, p4, rfl, h0, h1, h2, h3, h4⟩ := hv
 obtain ⟨e0, m0, z0, rfl⟩ := dis_slice h0
 obtain ⟨e1, z1, rfl, hc1, hcell1⟩ := sos_rows h1
 obtain ⟨e2, m2, z2, rfl⟩ := dis_slice h2
 obtain ⟨e3, m3, z3, rfl⟩ := dis_slice h3
 obtain ⟨e4, m4, z4, rfl⟩ := dis_slice h4
 have HS0 := hid (fun o => hp_al hc o)
 have HB0 := hid (fun o => (Chg.refl (fun k => k = H) w).alloc o)
 have HX0 := hid (heap_alloc_new w (.cells #[.bool x.dist, .slice e0 m0 z0, .slice e1 x.fro.length z1, .slice e2 m2 z2, .slice e3 m3 z3, .slice e4 m4 z4] 27))
 have HNE := hid (show w.heap.size ≠ H from by have := hc.lt; omega)
 have HW := hid hw
 have E1 : x.ck s = exsCk x.hv ((exsCk x.gr (exsCk x.wh ((sosCk true x.fro (itsCk x.items s)).req (decide (x.wh.length ≤ 1))))).req (decide (x.hv.length ≤ 1))) := by cases x; unfold Se.ck; rfl
 rw [E1] at g ⊢
 obtain ⟨sA, hA⟩ : ∃ q, q = itsCk x.items s := ⟨_, rfl⟩
 obtain ⟨sB, hB⟩ : ∃ q, q = sosCk true x.fro sA := ⟨_, rfl⟩
 obtain ⟨sC, hC⟩ : ∃ q, q = exsCk x.wh (sB.req (decide (x.wh.length ≤ 1))) := ⟨_, rfl⟩
 obtain ⟨sD, hD⟩ : ∃ q, q = exsCk x.gr sC := ⟨_, rfl⟩
 obtain ⟨sE, hF⟩ : ∃ q, q = exsCk x.hv (sD.req (decide (x.hv.length ≤ 1))) := ⟨_, rfl⟩
 rw [← hA, ← hB, ← hC, ← hD, ← hF] at g ⊢
 have pA : Pr s sA := by rw [hA]; exact its_pr _ _
 have pB : Pr sA sB := by rw [hB]; exact sos_pr _ _ _
 have pC : Pr sB sC := by rw [hC]; exact (pr_req _ _).trans (exs_pr _ _)
 have pD : Pr sC sD := by rw [hD]; exact exs_pr _ _
 have pE : Pr sD sE := by rw [hF]; exact (pr_req _ _).trans (exs_pr _ _)
 have HC1 := hid (fun (u : World) (h : CkC u H s) (hb : Below w0.heap.size w0 u) => by
  have q := eachIt hb hH h h0 y0 hI (by rw [← hA]; exact g.part (Pr.refl _) (((pB.trans pC).trans pD).trans pE))
  rw [← hA] at q; exact q)
 have HJ := hid (fun (k : Nat) (y : So) (hy : x.fro[k]? = some y) (u : World) (a : Value) (h : CkC u H (sosCk true (x.fro.take k) sA)) (ha : SoV w0 a y) => joins_step (decide (k = 0)) h ha)
 have HSO := hid (fun (k : Nat) (y : So) (hy : x.fro[k]? = some y) (u : World) (a : Value) (h : CkC u H ((sosCk true (x.fro.take k) sA).req (joinsOK (decide (k = 0)) y.kind y.on.length))) (hb : Below w0.heap.size w0 u) (ha : SoV w0 a y) => by
  have q := hS y (List.mem_of_getElem? hy) H _ u a hH hb h ha (by
   rw [← sos_snoc x.fro k y sA hy]
   exact g.part ((pA.trans (sos_pr _ _ _)).trans (pr_req _ _)) ((sos_split x.fro k y sA hy).trans (by rw [← hB]; exact (pC.trans pD).trans pE)))
  rw [← sos_snoc x.fro k y sA hy] at q; exact q)
 have HC3 := hid (fun (u : World) (h : CkC u H sB) (hb : Below w0.heap.size w0 u) => by
  have q := clause_step hb hH h h2 y2 hw3 (by rw [← hC]; exact g.part (pA.trans pB) (pD.trans pE))
  rw [← hC] at q; exact q)
 have HC4 := hid (fun (u : World) (h : CkC u H sC) (hb : Below w0.heap.size w0 u) => by
  have q := eachEx hb hH h h3 y3 hg3 (by rw [← hD]; exact g.part ((pA.trans pB).trans pC) pE)
  rw [← hD] at q; exact q)
 have HC5 := hid (fun (u : World) (h : CkC u H sD) (hb : Below w0.heap.size w0 u) => by
  have q := clause_step hb hH h h4 y4 hh3 (by rw [← hF]; exact g.part (((pA.trans pB).trans pC).trans pD) (Pr.refl _))
  rw [← hF] at q; exact q)
 have HR := hid hcell1
 have HBE := hid hB
 have hb0 := hw.size
 generalize hn : x.fro.length = n at *
 have HN := hid hn
 generalize x.dist = xd at *
 clear hc hw hI hS hw3 hg3 hh3 E1 g hA hB hC hD hF pA pB pC pD pE hn hcell1 y0 y2 y3 y4 h0 h1 h2 h3 h4
 go_enter Tryz.func43, Tryz.ntmps43
 go_wp2_with (first
  | (go_at_call 66; refine (HC1.out _ (HS0.out _) (bw HW.out (HB0.out _) hH)).mono ?_; clear HC1; rintro e w1 ⟨rfl, hc, hb⟩; have x1 := chg1_blk hb HX0.out HNE.out; have c1_0 := cell_at x1 0 rfl; have c1_1 := cell_at x1 1 rfl; have c1_2 := cell_at x1 2 rfl; have c1_3 := cell_at x1 3 rfl; have c1_4 := cell_at x1 4 rfl; have c1_5 := cell_at x1 5 rfl; have HX1 := hid x1; have HS1 := hid hc; have HB1 := hid (chg1 (HB0.out _) hb); clear hb hc x1)
  | fail)
 go_loopw [14] (fun i wr => ∃ k : Nat, k ≤ n ∧ i = .int .i64 k ∧ Hid (Chg (fun k => k = H) w wr) ∧ Hid (CkC wr H (sosCk true (x.fro.take k) sA)) ∧ Hid (wr.heap[w.heap.size]? = some (.cells #[.bool xd, .slice e0 m0 z0, .slice e1 n z1, .slice e2 m2 z2, .slice e3 m3 z3, .slice e4 m4 z4] 27 (0, 0)))) (fun i _ => n - (intOf i).toNat)
 case atStart => exact ⟨0, Nat.zero_le _, rfl, HB1, HS1, HX1⟩
 case round =>
  obtain ⟨k, hk1, rfl, HBC, HS, HXX⟩ := hrel
  have HBW := hid (bw HW.out HBC.out hH)
  have hsz := HBC.out.size
  by_cases hlt1 : k < n
  ·obtain ⟨b1, o1, rfl, hb1, hd1⟩ := HR.out (by omega)
   obtain ⟨y, hy⟩ : ∃ y, x.fro[k]? = some y := ⟨_, List.getElem?_eq_getElem (by rw [HN.out]; exact hlt1)⟩
   obtain ⟨s0, s1, p0, p1, p2, p3, p4, h0, h1⟩ := hd1 k y hy
   replace p0 := (HBW.out.cell (p := ⟨b1, o1 + k * 5, none⟩) hb1).trans p0
   replace p1 := (HBW.out.cell (p := ⟨b1, o1 + k * 5 + 1, none⟩) hb1).trans p1
   replace p2 := (HBW.out.cell (p := ⟨b1, o1 + k * 5 + 2, none⟩) hb1).trans p2
   replace p3 := (HBW.out.cell (p := ⟨b1, o1 + k * 5 + 3, none⟩) hb1).trans p3
   replace p4 := (HBW.out.cell (p := ⟨b1, o1 + k * 5 + 4, none⟩) hb1).trans p4
   obtain ⟨f0, r0, t0, rfl⟩ := dis_slice h0
   obtain ⟨f1, r1, t1, rfl⟩ := dis_slice h1
   have hb1r2 : b1 < wr.heap.size := by omega
   have hb1r : b1 < wr.heap.size := by omega
   have HJ1 := hid (fun (u : World) (h : CkC u H (sosCk true (x.fro.take k) sA)) => HJ.out k y hy u (.agg #[.int .i64 y.kind, .string (str y.tb), .slice f0 r0 t0, .string (str y.al), .slice f1 r1 t1]) h ⟨_, _, rfl, h0, h1⟩)
   have HSO1 := hid (fun (u : World) (h : CkC u H ((sosCk true (x.fro.take k) sA).req (joinsOK (decide (k = 0)) y.kind y.on.length))) (hb : Below w0.heap.size w0 u) => HSO.out k y hy u (.agg #[.int .i64 y.kind, .string (str y.tb), .slice f0 r0 t0, .string (str y.al), .slice f1 r1 t1]) h hb ⟨_, _, rfl, h0, h1⟩)
   have HB0 := hid (fun o => HBC.out.alloc o)
   have HX0 := hid (heap_alloc_new wr (.cells #[.int .i64 y.kind, .string (str y.tb), .slice f0 r0 t0, .string (str y.al), .slice f1 r1 t1] 44))
   have HNE1 := hid (show wr.heap.size ≠ H from by have := bx_lt HS.out; omega)
   have HNE2 := hid HNE.out
   have HXS := hid (fun o => hp_al HXX.out o)
   clear hd1 hy h0 h1 HJ HSO
   have hkz : ((k : Int) == 0) = decide (k = 0) := by rw [Bool.eq_iff_iff, beq_iff_eq, decide_eq_true_eq]; omega
   generalize decide (k = 0) = dk at *
   cases dk
   all_goals
    go_wp2_with (first
     | (go_at_call 68; refine (HJ1.out _ (hp_al HS.out _)).mono ?_; clear HJ1; rintro e w2 ⟨rfl, hc, hb⟩; have x1 := chg1_blk hb HX0.out HNE1.out; have d_0 := cell_at x1 0 rfl; have d_1 := cell_at x1 1 rfl; have d_2 := cell_at x1 2 rfl; have d_3 := cell_at x1 3 rfl; have d_4 := cell_at x1 4 rfl; have x2 := chg1_blk hb (HXS.out _) HNE2.out; have HX2 := hid x2; have HS2 := hid hc; have HB2 := hid (chg1 (HB0.out _) hb); clear hb hc x1 x2)
     | (go_at_call 69; refine (HSO1.out _ HS2.out (bw HW.out HB2.out hH)).mono ?_; clear HSO1; rintro e w3 ⟨rfl, hc, hb⟩; have x2 := chg1_blk hb HX2.out HNE2.out; have HX3 := hid x2; have HS3 := hid hc; have HB3 := hid (chg1 HB2.out hb); clear hb hc x2)
     | fail)
    go_roundw
    case rel => exact ⟨k + 1, by omega, by go_num, HB3, HS3, HX3⟩
    case measure => simp [intOf]; omega
  ·have hkn : k = n := by omega
   subst hkn
   have hcn : decide ((k : Int) < (k : Int)) = false := decide_eq_false (by omega)
   have HTK := hid (show sosCk true (x.fro.take k) sA = sB from by rw [HBE.out, List.take_of_length_le (by rw [HN.out]; omega)])
   have HS := hid (show CkC wr H sB from by have h := HS.out; rw [HTK.out] at h; exact h)
   have x1 := HXX.out
   have c2_0 := cell_at x1 0 rfl
   have c2_1 := cell_at x1 1 rfl
   have c2_2 := cell_at x1 2 rfl
   have c2_3 := cell_at x1 3 rfl
   have c2_4 := cell_at x1 4 rfl
   have c2_5 := cell_at x1 5 rfl
   have HX2 := hid x1
   clear x1
   go_wp2_with (first
    | (go_at_call 57; refine (HC3.out _ HS.out (bw HW.out HBC.out hH)).mono ?_; clear HC3; rintro e w3 ⟨rfl, hc, hb⟩; have x1 := chg1_blk hb HX2.out HNE.out; clear c2_0 c2_1 c2_2 c2_3 c2_4 c2_5; have c3_0 := cell_at x1 0 rfl; have c3_1 := cell_at x1 1 rfl; have c3_2 := cell_at x1 2 rfl; have c3_3 := cell_at x1 3 rfl; have c3_4 := cell_at x1 4 rfl; have c3_5 := cell_at x1 5 rfl; have HX3 := hid x1; have HS3 := hid hc; have HB3 := hid (chg1 HBC.out hb); clear hb hc x1)
    | (go_at_call 70; refine (HC4.out _ HS3.out (bw HW.out HB3.out hH)).mono ?_; clear HC4; rintro e w4 ⟨rfl, hc, hb⟩; have x1 := chg1_blk hb HX3.out HNE.out; clear c3_0 c3_1 c3_2 c3_3 c3_4 c3_5; have c4_0 := cell_at x1 0 rfl; have c4_1 := cell_at x1 1 rfl; have c4_2 := cell_at x1 2 rfl; have c4_3 := cell_at x1 3 rfl; have c4_4 := cell_at x1 4 rfl; have c4_5 := cell_at x1 5 rfl; have HX4 := hid x1; have HS4 := hid hc; have HB4 := hid (chg1 HB3.out hb); clear hb hc x1)
    | (go_at_call 57; refine (HC5.out _ HS4.out (bw HW.out HB4.out hH)).mono ?_; clear HC5; rintro e w5 ⟨rfl, hc, hb⟩; have x1 := chg1_blk hb HX4.out HNE.out; clear c4_0 c4_1 c4_2 c4_3 c4_4 c4_5; have c5_0 := cell_at x1 0 rfl; have c5_1 := cell_at x1 1 rfl; have c5_2 := cell_at x1 2 rfl; have c5_3 := cell_at x1 3 rfl; have c5_4 := cell_at x1 4 rfl; have c5_5 := cell_at x1 5 rfl; have HX5 := hid x1; have HS5 := hid hc; have HB5 := hid (chg1 HB4.out hb); clear hb hc x1)
    | fail)
   refine bodyPost_ret (results_none rfl _ _ _) rfl ?_
   exact ⟨rfl, HS5.out, HB5.out⟩
end Go.Proofs.YtegkbagnbnoopaaGreatDoor
/- the checker of print: one step of source -/
namespace Go.Proofs.YtegkbagnbnoopaaGreatDoor
open Go.ChangeShapes Go.WideShapes Go.ChangeAt Go.RowKit Go.Deep
open Go.Lib (hid)
set_option maxRecDepth 100000 in
set_option maxHeartbeats 6400000 in
theorem source_step {w0 : World} {x : So} (hQ : ∀ y ∈ x.q, CIn w0 y) (hE : ∀ y ∈ x.on, CEx w0 y) (ox : x.OK) (hz : Da.sizeR x.da ≤ 1073741823) : CSo w0 x := by
 intro H s w v hH hw hc hv g
 obtain ⟨p0, p1, rfl, h0, h1⟩ := hv
 obtain ⟨a0, k0, rfl, -, -⟩ := qus_rows h0
 obtain ⟨e1, m1, z1, rfl⟩ := dis_slice h1
 obtain ⟨c0, c1, c2, c3, c4, c5, cf⟩ := hc.cells
 have f1 := cf 1
 have hn1 := g.n1
 have hn2 := g.nd (x.pr s)
 have hH2 := hc.lt
 have HS0 := hid (fun o => hp_al (CkC.set1 hc (s.nd + 1)) o)
 have HB0 := hid (fun o => (chs (Chg.refl (fun k => k = H) w) 1 (.int .i64 (s.nd + 1))).alloc o)
 have HX0 := hid (show ((w.setCell ⟨H, 1, none⟩ (.int .i64 (s.nd + 1))).alloc (.cells #[.int .i64 x.kind, .string (str x.tb), .slice a0 x.q.length k0, .string (str x.al), .slice e1 m1 z1] 44)).heap[w.heap.size]? = some (.cells #[.int .i64 x.kind, .string (str x.tb), .slice a0 x.q.length k0, .string (str x.al), .slice e1 m1 z1] 44) from by
  have h := heap_alloc_new (w.setCell ⟨H, 1, none⟩ (.int .i64 (s.nd + 1))) (.cells #[.int .i64 x.kind, .string (str x.tb), .slice a0 x.q.length k0, .string (str x.al), .slice e1 m1 z1] 44)
  rwa [show (w.setCell ⟨H, 1, none⟩ (.int .i64 (s.nd + 1))).heap.size = w.heap.size from by simp] at h)
 have HNE := hid (show w.heap.size ≠ H from by omega)
 have HW := hid hw
 have htl := so_tb_len x
 have hal := so_al_len x
 have hql := qus_len (Nat.le_of_lt (so_q_lt x))
 have hol := exs_len (Nat.le_of_lt (so_on_lt x))
 have E1 : x.ck s = exsCk x.on (qusCk x.q ((if x.q = [] then s.more.nam x.tb else s.more.req (decide (x.tb = []) && (decide (x.q.length = 1) && decide (x.al ≠ [])))).opt x.al)) := by cases x; unfold So.ck; rfl
 have ht : ((str x.tb).toList == []) = decide (x.tb = []) := (by rw [str_toL [] ]; rfl : ((str x.tb).toList == []) = ((str x.tb).toList == (str []).toList)).trans (str_beq (so_tb ox) (rngB rfl))
 have ha : ((str x.al).toList != []) = decide (x.al ≠ []) := by
  rw [bne, (by rw [str_toL [] ]; rfl : ((str x.al).toList == []) = ((str x.al).toList == (str []).toList)), str_beq (so_al ox) (rngB rfl), decide_not]
 have hl1 : ((x.q.length : Int) == 1) = decide (x.q.length = 1) := by rw [Bool.eq_iff_iff, beq_iff_eq, decide_eq_true_eq]; omega
 have HOX := hid (so_al ox)
 have HP0 : ∀ s2, Pr s.more s2 → x.ck s = exsCk x.on (qusCk x.q (s2.opt x.al)) → (Gd (s2.opt x.al) (qusCk x.q (s2.opt x.al)) ∧ Gd (qusCk x.q (s2.opt x.al)) (exsCk x.on (qusCk x.q (s2.opt x.al)))) := by
  intro s2 h2 e2
  have g2 := g
  rw [e2] at g2
  exact ⟨g2.part (((pr_more _).trans h2).trans (pr_opt _ _)) (exs_pr _ _), g2.part ((((pr_more _).trans h2).trans (pr_opt _ _)).trans (qus_pr _ _)) (Pr.refl _)⟩
 have HC2 := hid (fun (s2 : Ck) (u : World) (h : CkC u H s2) => opt_any H s2 x.al u h (so_al ox) (by omega))
 have HC3 := hid (fun (s2 : Ck) (g2 : Gd s2 (qusCk x.q s2)) (u : World) (h : CkC u H s2) (hb : Below w0.heap.size w0 u) => eachQu hb hH h h0 (by omega) hQ g2)
 have HC4 := hid (fun (s2 : Ck) (g2 : Gd s2 (exsCk x.on s2)) (u : World) (h : CkC u H s2) (hb : Below w0.heap.size w0 u) => eachEx hb hH h h1 (by omega) hE g2)
 by_cases hq : x.q = []
 ·have hl0 : ((x.q.length : Int) == 0) = true := by rw [hq]; rfl
  have E2 : x.ck s = exsCk x.on (qusCk x.q ((s.more.nam x.tb).opt x.al)) := by rw [E1, if_pos hq]
  obtain ⟨g3, g4⟩ := HP0 _ (pr_nam _ _) E2
  have HC1 := hid (fun (u : World) (h : CkC u H s.more) => nam_any H s.more x.tb u h (so_tb ox) (by omega))
  have HC3 := hid (HC3.out _ g3)
  have HC4 := hid (HC4.out _ g4)
  rw [E2]
  clear cf hc g hw hE hQ E1 E2 ox hz htl hal hql hol ht ha hl1 HP0 g3 g4 hq h0 h1
  go_enter Tryz.func69, Tryz.ntmps69
  go_wp2_with (first
   | (go_at_call 51; refine (HC1.out _ (HS0.out _)).mono ?_; clear HC1; rintro e w1 ⟨rfl, hc, hb⟩; have x1 := chg1_blk hb HX0.out HNE.out; have c1_0 := cell_at x1 0 rfl; have c1_1 := cell_at x1 1 rfl; have c1_2 := cell_at x1 2 rfl; have c1_3 := cell_at x1 3 rfl; have c1_4 := cell_at x1 4 rfl; have HX1 := hid x1; have HS1 := hid hc; have HB1 := hid (chg1 (HB0.out _) hb); clear hb hc x1)
   | (go_at_call 87; refine (HC2.out _ _ HS1.out).mono ?_; clear HC2; rintro e w2 ⟨rfl, hc, hb⟩; have x1 := chg1_blk hb HX1.out HNE.out; clear c1_0 c1_1 c1_2 c1_3 c1_4; have c2_0 := cell_at x1 0 rfl; have c2_1 := cell_at x1 1 rfl; have c2_2 := cell_at x1 2 rfl; have c2_3 := cell_at x1 3 rfl; have c2_4 := cell_at x1 4 rfl; have HX2 := hid x1; have HS2 := hid hc; have HB2 := hid (chg1 HB1.out hb); clear hb hc x1)
   | (go_at_call 41; refine (HC3.out _ HS2.out (bw HW.out HB2.out hH)).mono ?_; clear HC3; rintro e w3 ⟨rfl, hc, hb⟩; have x1 := chg1_blk hb HX2.out HNE.out; clear c2_0 c2_1 c2_2 c2_3 c2_4; have c3_0 := cell_at x1 0 rfl; have c3_1 := cell_at x1 1 rfl; have c3_2 := cell_at x1 2 rfl; have c3_3 := cell_at x1 3 rfl; have c3_4 := cell_at x1 4 rfl; have HX3 := hid x1; have HS3 := hid hc; have HB3 := hid (chg1 HB2.out hb); clear hb hc x1)
   | (go_at_call 70; refine (HC4.out _ HS3.out (bw HW.out HB3.out hH)).mono ?_; clear HC4; rintro e w4 ⟨rfl, hc, hb⟩; have x1 := chg1_blk hb HX3.out HNE.out; clear c3_0 c3_1 c3_2 c3_3 c3_4; have c4_0 := cell_at x1 0 rfl; have c4_1 := cell_at x1 1 rfl; have c4_2 := cell_at x1 2 rfl; have c4_3 := cell_at x1 3 rfl; have c4_4 := cell_at x1 4 rfl; have HX4 := hid x1; have HS4 := hid hc; have HB4 := hid (chg1 HB3.out hb); clear hb hc x1)
   | fail)
  refine bodyPost_ret (results_none rfl _ _ _) rfl ?_
  exact ⟨rfl, HS4.out, HB4.out⟩
 ·have hl0 : ((x.q.length : Int) == 0) = false := by
   cases hx : x.q with
   | nil => exact absurd hx hq
   | cons a r => rw [beq_eq_false_iff_ne]; simp; omega
  have E2 : x.ck s = exsCk x.on (qusCk x.q ((s.more.req (decide (x.tb = []) && (decide (x.q.length = 1) && decide (x.al ≠ [])))).opt x.al)) := by rw [E1, if_neg hq]
  obtain ⟨g3, g4⟩ := HP0 _ (pr_req _ _) E2
  have HC1 := hid (fun (u : World) (b : Bool) (h : CkC u H s.more) => req_any H _ b u h)
  have HC3 := hid (HC3.out _ g3)
  have HC4 := hid (HC4.out _ g4)
  rw [E2]
  clear cf hc g hw hE hQ E1 E2 ox hz htl hal hql hol HP0 g3 g4 hq h0 h1
  generalize decide (x.tb = []) = b1 at *
  generalize decide (x.q.length = 1) = b2 at *
  rw [show decide (x.al ≠ []) = !decide (x.al = []) from decide_not] at ha ⊢
  have ha2 : ((str x.al).toList == []) = decide (x.al = []) := (by rw [str_toL [] ]; rfl : ((str x.al).toList == []) = ((str x.al).toList == (str []).toList)).trans (str_beq (HOX.out) (rngB rfl))
  rw [show decide (x.al ≠ []) = !decide (x.al = []) from decide_not] at HC3 HC4
  generalize decide (x.al = []) = b3 at *
  cases b1 <;> cases b2 <;> cases b3
  all_goals
   go_enter Tryz.func69, Tryz.ntmps69
   go_wp2_with (first
    | (go_at_call 40; refine (HC1.out _ _ (HS0.out _)).mono ?_; clear HC1; rintro e w1 ⟨rfl, hc, hb⟩; have x1 := chg1_blk hb HX0.out HNE.out; have c1_0 := cell_at x1 0 rfl; have c1_1 := cell_at x1 1 rfl; have c1_2 := cell_at x1 2 rfl; have c1_3 := cell_at x1 3 rfl; have c1_4 := cell_at x1 4 rfl; have HX1 := hid x1; have HS1 := hid hc; have HB1 := hid (chg1 (HB0.out _) hb); clear hb hc x1)
    | (go_at_call 87; refine (HC2.out _ _ HS1.out).mono ?_; clear HC2; rintro e w2 ⟨rfl, hc, hb⟩; have x1 := chg1_blk hb HX1.out HNE.out; clear c1_0 c1_1 c1_2 c1_3 c1_4; have c2_0 := cell_at x1 0 rfl; have c2_1 := cell_at x1 1 rfl; have c2_2 := cell_at x1 2 rfl; have c2_3 := cell_at x1 3 rfl; have c2_4 := cell_at x1 4 rfl; have HX2 := hid x1; have HS2 := hid hc; have HB2 := hid (chg1 HB1.out hb); clear hb hc x1)
    | (go_at_call 41; refine (HC3.out _ HS2.out (bw HW.out HB2.out hH)).mono ?_; clear HC3; rintro e w3 ⟨rfl, hc, hb⟩; have x1 := chg1_blk hb HX2.out HNE.out; clear c2_0 c2_1 c2_2 c2_3 c2_4; have c3_0 := cell_at x1 0 rfl; have c3_1 := cell_at x1 1 rfl; have c3_2 := cell_at x1 2 rfl; have c3_3 := cell_at x1 3 rfl; have c3_4 := cell_at x1 4 rfl; have HX3 := hid x1; have HS3 := hid hc; have HB3 := hid (chg1 HB2.out hb); clear hb hc x1)
    | (go_at_call 70; refine (HC4.out _ HS3.out (bw HW.out HB3.out hH)).mono ?_; clear HC4; rintro e w4 ⟨rfl, hc, hb⟩; have x1 := chg1_blk hb HX3.out HNE.out; clear c3_0 c3_1 c3_2 c3_3 c3_4; have c4_0 := cell_at x1 0 rfl; have c4_1 := cell_at x1 1 rfl; have c4_2 := cell_at x1 2 rfl; have c4_3 := cell_at x1 3 rfl; have c4_4 := cell_at x1 4 rfl; have HX4 := hid x1; have HS4 := hid hc; have HB4 := hid (chg1 HB3.out hb); clear hb hc x1)
    | fail)
   refine bodyPost_ret (results_none rfl _ _ _) rfl ?_
   exact ⟨rfl, HS4.out, HB4.out⟩
end Go.Proofs.YtegkbagnbnoopaaGreatDoor
