/- the reference's selects -/
import Derived.Test.YtegkbagnbnoopaaGreatDoorPs00
import Derived.Test.YtegkbagnbnoopaaGreatDoorPs04
namespace Go.Proofs.YtegkbagnbnoopaaGreatDoor
open Go.ChangeShapes Go.WideShapes Go.ChangeAt Go.RowKit Go.Deep
open Go.Lib (hid)
/-- a slice of one expression, just made -/
theorem ex_lit {u : World} {T : TypeId} {x : Ex} {p q : Value} {H : Nat} (hH : u.heap[H]? = some (.cells #[Value.int .i64 x.op, .string (str x.tb), .string (str x.nm), .int .i64 x.v.k, .int .i64 x.v.n, .string (str x.v.s), p, q] T (0, 0))) (h1 : DIs u p (.sl (exsDa x.args))) (h2 : DIs u q (.sl (qusDa x.qs))) : DIs u (.slice (some ⟨H, 0, none⟩) 1 1) (.sl (exsDa [x])) := by
 have hl := bx_lt hH
 have e : exsDa [x] = [x.da] := rfl
 rw [e]
 obtain ⟨op, tb, nm, v, args, qs⟩ := x
 refine .sl _ 1 1 8 _ (fun _ j => (#[Value.int .i64 op, .string (str tb), .string (str nm), .int .i64 v.k, .int .i64 v.n, .string (str v.s), p, q] : Array Value).getD j undef) rfl (Nat.le_refl 1) (fun r hr => by
  rw [List.mem_singleton] at hr
  subst hr
  rfl) (fun _ => ⟨H, 0, rfl, hl⟩) (fun i j r d hi hj g o he => ?_) (fun i j r d hi hj => ?_)
 ·obtain ⟨rfl, hi2⟩ : i = 0 ∧ (Ex.mk op tb nm v args qs).da = r := by
   cases i with
   | zero => exact ⟨rfl, Option.some.inj hi⟩
   | succ i => simp at hi
  subst hi2
  injection he with he
  injection he with e1 e2 _
  subst e1 e2
  have hj8 := (List.getElem?_eq_some_iff.1 hj).1
  have hj8 : j < 8 := hj8
  rw [show 0 + (0 * 8 + j) = j by omega]
  refine cell_at hH j ?_
  match j, hj8 with
  | 0, _ => rfl
  | 1, _ => rfl
  | 2, _ => rfl
  | 3, _ => rfl
  | 4, _ => rfl
  | 5, _ => rfl
  | 6, _ => rfl
  | 7, _ => rfl
 ·obtain ⟨rfl, hi2⟩ : i = 0 ∧ (Ex.mk op tb nm v args qs).da = r := by
   cases i with
   | zero => exact ⟨rfl, Option.some.inj hi⟩
   | succ i => simp at hi
  subst hi2
  have hj8 := (List.getElem?_eq_some_iff.1 hj).1
  have hj8 : j < 8 := hj8
  match j, hj8, hj with
  | 0, _, hj => injection hj with hj; subst hj; exact .sc _
  | 1, _, hj => injection hj with hj; subst hj; exact .sc _
  | 2, _, hj => injection hj with hj; subst hj; exact .sc _
  | 3, _, hj => injection hj with hj; subst hj; exact .sc _
  | 4, _, hj => injection hj with hj; subst hj; exact .sc _
  | 5, _, hj => injection hj with hj; subst hj; exact .sc _
  | 6, _, hj => injection hj with hj; subst hj; exact h1
  | 7, _, hj => injection hj with hj; subst hj; exact h2
theorem four_get {w : World} {o1 o2 o3 o4 : Obj} : ((((w.alloc o1).alloc o2).alloc o3).alloc o4).heap[w.heap.size + 2]? = some o3 ∧ ((((w.alloc o1).alloc o2).alloc o3).alloc o4).heap[w.heap.size + 3]? = some o4 := by
 have h1 := heap_alloc_new ((w.alloc o1).alloc o2) o3
 have h2 := heap_alloc_new (((w.alloc o1).alloc o2).alloc o3) o4
 refine ⟨(heap_alloc_old _ _ (by simp)).trans ?_, ?_⟩
 ·simpa using h1
 ·simpa using h2
set_option maxRecDepth 100000 in
set_option maxHeartbeats 6400000 in
theorem rselects_step (x y : Se) (w : World) (va vb : Value) (hx : SeV w va x) (hy : SeV w vb y) (okr : itsOK x.items) (oks : itsOK y.items) (hl : x.items.length ≤ 1073741824) (hm : y.items.length ≤ 1073741824)
  (HI : ∀ x' ∈ x.items, ∀ y' ∈ y.items, ∀ (u : World) (a b : Value), Below w.heap.size w u → DIs u a (.sl (exsDa [x'.x])) → DIs u b (.sl (exsDa [y'.x])) → Calls Tryz.prog 16 #[a, b] u (EQ u ([x'.x] = [y'.x])))
  (H1 : ∀ (u : World) (a b : Value), Below w.heap.size w u → DIs u a (.sl (sosDa x.fro)) → DIs u b (.sl (sosDa y.fro)) → Calls Tryz.prog 33 #[a, b] u (EQ u (x.fro = y.fro)))
  (H2 : ∀ (u : World) (a b : Value), Below w.heap.size w u → DIs u a (.sl (exsDa x.wh)) → DIs u b (.sl (exsDa y.wh)) → Calls Tryz.prog 16 #[a, b] u (EQ u (x.wh = y.wh)))
  (H3 : ∀ (u : World) (a b : Value), Below w.heap.size w u → DIs u a (.sl (exsDa x.gr)) → DIs u b (.sl (exsDa y.gr)) → Calls Tryz.prog 16 #[a, b] u (EQ u (x.gr = y.gr)))
  (H4 : ∀ (u : World) (a b : Value), Below w.heap.size w u → DIs u a (.sl (exsDa x.hv)) → DIs u b (.sl (exsDa y.hv)) → Calls Tryz.prog 16 #[a, b] u (EQ u (x.hv = y.hv))) :
  Calls Tryz.prog 18 #[va, vb] w (EQ w (x = y)) := by
 obtain ⟨s0, s1, s2, s3, s4, rfl, h0, h1, h2, h3, h4⟩ := hx
 obtain ⟨t0, t1, t2, t3, t4, rfl, g0, g1, g2, g3, g4⟩ := hy
 obtain ⟨A0, C0, rfl, hc1, hcell1⟩ := its_rows h0
 obtain ⟨B0, D0, rfl, hc2, hcell2⟩ := its_rows g0
 obtain ⟨A1, M1, C1, rfl⟩ := dis_slice h1
 obtain ⟨B1, N1, D1, rfl⟩ := dis_slice g1
 obtain ⟨A2, M2, C2, rfl⟩ := dis_slice h2
 obtain ⟨B2, N2, D2, rfl⟩ := dis_slice g2
 obtain ⟨A3, M3, C3, rfl⟩ := dis_slice h3
 obtain ⟨B3, N3, D3, rfl⟩ := dis_slice g3
 obtain ⟨A4, M4, C4, rfl⟩ := dis_slice h4
 obtain ⟨B4, N4, D4, rfl⟩ := dis_slice g4
 have HC1 := hid (fun (u : World) (hu : Below w.heap.size w u) => H1 u _ _ hu (h1.keep hu) (g1.keep hu))
 have HC2 := hid (fun (u : World) (hu : Below w.heap.size w u) => H2 u _ _ hu (h2.keep hu) (g2.keep hu))
 have HC3 := hid (fun (u : World) (hu : Below w.heap.size w u) => H3 u _ _ hu (h3.keep hu) (g3.keep hu))
 have HC4 := hid (fun (u : World) (hu : Below w.heap.size w u) => H4 u _ _ hu (h4.keep hu) (g4.keep hu))
 have HR1 := hid hcell1
 have HR2 := hid hcell2
 have HI := hid HI
 have HOR := hid okr
 have HOS := hid oks
 have HB2 := hid (fun (o1 o2 : Obj) => ((Below.refl w.heap.size w).alloc (Nat.le_refl _) o1).alloc (by simp) o2)
 have HN1 := hid (fun (u : World) (h : Below ((w.alloc (.cells #[.bool x.dist, .slice A0 x.items.length C0, .slice A1 M1 C1, .slice A2 M2 C2, .slice A3 M3 C3, .slice A4 M4 C4] 27)).alloc (.cells #[.bool y.dist, .slice B0 y.items.length D0, .slice B1 N1 D1, .slice B2 N2 D2, .slice B3 N3 D3, .slice B4 N4 D4] 27)).heap.size ((w.alloc (.cells #[.bool x.dist, .slice A0 x.items.length C0, .slice A1 M1 C1, .slice A2 M2 C2, .slice A3 M3 C3, .slice A4 M4 C4] 27)).alloc (.cells #[.bool y.dist, .slice B0 y.items.length D0, .slice B1 N1 D1, .slice B2 N2 D2, .slice B3 N3 D3, .slice B4 N4 D4] 27)) u) => two_kept h)
 clear hcell1 hcell2 h0 h1 h2 h3 h4 g0 g1 g2 g3 g4 H1 H2 H3 H4 okr oks
 generalize hn : x.items.length = n at *
 generalize ho : y.items.length = o at *
 have HN := hid hn
 have HO := hid ho
 clear hn ho
 generalize hdx : x.dist = dx at *
 generalize hdy : y.dist = dy at *
 have HDX := hid hdx
 have HDY := hid hdy
 clear hdx hdy
 go_enter Tryz.func18, Tryz.ntmps18
 by_cases k_dist : dx = dy
 ·subst k_dist
  have K_dist := hid (HDX.out.trans HDY.out.symm)
  by_cases hno : n = o
  ·subst hno
   go_wp2_with fail
   go_loopw [5] (fun i wr => ∃ k : Nat, k ≤ n ∧ i = .int .i64 k ∧ Below w.heap.size w wr ∧ Hid (wr.heap[w.heap.size]? = some (.cells #[.bool dx, .slice A0 n C0, .slice A1 M1 C1, .slice A2 M2 C2, .slice A3 M3 C3, .slice A4 M4 C4] 27 (0, 0))) ∧ Hid (wr.heap[w.heap.size + 1]? = some (.cells #[.bool dx, .slice B0 n D0, .slice B1 N1 D1, .slice B2 N2 D2, .slice B3 N3 D3, .slice B4 N4 D4] 27 (0, 0))) ∧ Hid (x.items.take k = y.items.take k)) (fun i _ => n - (intOf i).toNat)
   case atStart =>
    obtain ⟨z1, z2⟩ := HN1.out _ (Below.refl _ _)
    exact ⟨0, Nat.zero_le _, rfl, HB2.out _ _, hid z1, hid z2, hid rfl⟩
   case round =>
    obtain ⟨k, hk1, rfl, hbw, HX1, HX2, heq⟩ := hrel
    have hsz := hbw.size
    have HBW := hid hbw
    clear hbw
    have hw1 := bx_lt HX1.out
    have hw2 := bx_lt HX2.out
    have c1 := cell_at HX1.out 1 rfl
    have d1 := cell_at HX2.out 1 rfl
    by_cases hlt1 : k < n
    ·obtain ⟨b1, o1, rfl, hb1, hd1⟩ := HR1.out (by omega)
     obtain ⟨b2, o2, rfl, hb2, hd2⟩ := HR2.out (by omega)
     obtain ⟨xi, hx⟩ : ∃ xi, x.items[k]? = some xi := ⟨_, List.getElem?_eq_getElem (by rw [HN.out]; exact hlt1)⟩
     obtain ⟨yi, hy⟩ : ∃ yi, y.items[k]? = some yi := ⟨_, List.getElem?_eq_getElem (by rw [HO.out]; exact hlt1)⟩
     obtain ⟨s0, s1, p0, p1, p2, p3, p4, p5, p6, p7, p8, p9, h0, h1⟩ := hd1 k xi hx
     obtain ⟨t0, t1, q0, q1, q2, q3, q4, q5, q6, q7, q8, q9, g0, g1⟩ := hd2 k yi hy
     replace p0 := (HBW.out.cell (p := ⟨b1, o1 + k * 10, none⟩) hb1).trans p0
     replace q0 := (HBW.out.cell (p := ⟨b2, o2 + k * 10, none⟩) hb2).trans q0
     replace p1 := (HBW.out.cell (p := ⟨b1, o1 + k * 10 + 1, none⟩) hb1).trans p1
     replace q1 := (HBW.out.cell (p := ⟨b2, o2 + k * 10 + 1, none⟩) hb2).trans q1
     replace p2 := (HBW.out.cell (p := ⟨b1, o1 + k * 10 + 2, none⟩) hb1).trans p2
     replace q2 := (HBW.out.cell (p := ⟨b2, o2 + k * 10 + 2, none⟩) hb2).trans q2
     replace p3 := (HBW.out.cell (p := ⟨b1, o1 + k * 10 + 3, none⟩) hb1).trans p3
     replace q3 := (HBW.out.cell (p := ⟨b2, o2 + k * 10 + 3, none⟩) hb2).trans q3
     replace p4 := (HBW.out.cell (p := ⟨b1, o1 + k * 10 + 4, none⟩) hb1).trans p4
     replace q4 := (HBW.out.cell (p := ⟨b2, o2 + k * 10 + 4, none⟩) hb2).trans q4
     replace p5 := (HBW.out.cell (p := ⟨b1, o1 + k * 10 + 5, none⟩) hb1).trans p5
     replace q5 := (HBW.out.cell (p := ⟨b2, o2 + k * 10 + 5, none⟩) hb2).trans q5
     replace p6 := (HBW.out.cell (p := ⟨b1, o1 + k * 10 + 6, none⟩) hb1).trans p6
     replace q6 := (HBW.out.cell (p := ⟨b2, o2 + k * 10 + 6, none⟩) hb2).trans q6
     replace p7 := (HBW.out.cell (p := ⟨b1, o1 + k * 10 + 7, none⟩) hb1).trans p7
     replace q7 := (HBW.out.cell (p := ⟨b2, o2 + k * 10 + 7, none⟩) hb2).trans q7
     replace p8 := (HBW.out.cell (p := ⟨b1, o1 + k * 10 + 8, none⟩) hb1).trans p8
     replace q8 := (HBW.out.cell (p := ⟨b2, o2 + k * 10 + 8, none⟩) hb2).trans q8
     replace p9 := (HBW.out.cell (p := ⟨b1, o1 + k * 10 + 9, none⟩) hb1).trans p9
     replace q9 := (HBW.out.cell (p := ⟨b2, o2 + k * 10 + 9, none⟩) hb2).trans q9
     obtain ⟨e0, m0, n0, rfl⟩ := dis_slice h0
     obtain ⟨e10, m10, n10, rfl⟩ := dis_slice g0
     obtain ⟨e1, m1, n1, rfl⟩ := dis_slice h1
     obtain ⟨e11, m11, n11, rfl⟩ := dis_slice g1
     have ox := itsOK_mem HOR.out xi (List.mem_of_getElem? hx)
     have oy := itsOK_mem HOS.out yi (List.mem_of_getElem? hy)
     have HRnm := hid (str_beq (l := xi.nm) (m := yi.nm) (it_nm ox) (it_nm oy))
     have HB4 := hid (fun (o1 o2 o3 o4 : Obj) => ((((Below.refl wr.heap.size wr).alloc (Nat.le_refl _) o1).alloc (by simp) o2).alloc (by simp; omega) o3).alloc (by simp; omega) o4)
     have HB3 := hid (fun (o1 o2 : Obj) => ((Below.refl wr.heap.size wr).alloc (Nat.le_refl _) o1).alloc (by simp) o2)
     have HCI := hid (fun (o1 o2 : Obj) => HI.out xi (List.mem_of_getElem? hx) yi (List.mem_of_getElem? hy) ((((wr.alloc o1).alloc o2).alloc (.cells #[.int .i64 xi.x.op, .string (str xi.x.tb), .string (str xi.x.nm), .int .i64 xi.x.v.k, .int .i64 xi.x.v.n, .string (str xi.x.v.s), .slice e0 m0 n0, .slice e1 m1 n1] 40)).alloc (.cells #[.int .i64 yi.x.op, .string (str yi.x.tb), .string (str yi.x.nm), .int .i64 yi.x.v.k, .int .i64 yi.x.v.n, .string (str yi.x.v.s), .slice e10 m10 n10, .slice e11 m11 n11] 40)) (.slice (some ⟨wr.heap.size + 2, 0, none⟩) 1 1) (.slice (some ⟨wr.heap.size + 3, 0, none⟩) 1 1) (HBW.out.trans ((HB4.out _ _ _ _).mono (by omega)))
      (ex_lit (T := 40) four_get.1 (h0.keep (HBW.out.trans ((HB4.out _ _ _ _).mono (by omega)))) (h1.keep (HBW.out.trans ((HB4.out _ _ _ _).mono (by omega)))))
      (ex_lit (T := 40) four_get.2 (g0.keep (HBW.out.trans ((HB4.out _ _ _ _).mono (by omega)))) (g1.keep (HBW.out.trans ((HB4.out _ _ _ _).mono (by omega))))))
     have HX := hid hx
     have HY := hid hy
     have hb1r : b1 < wr.heap.size := by omega
     have hb2r : b2 < wr.heap.size := by omega
     clear hd1 hd2 hx hy h0 h1 g0 g1 ox oy
     generalize hsx : xi.star = sx at *
     generalize hsy : yi.star = sy at *
     have HSX := hid hsx
     have HSY := hid hsy
     clear hsx hsy
     by_cases k_star : sx = sy
     ·subst k_star
      have K_star := hid (HSX.out.trans HSY.out.symm)
      by_cases k_nm : xi.nm = yi.nm
      ·have b_nm : (str xi.nm).toList = (str yi.nm).toList := by rw [k_nm]
       have K_nm := hid k_nm
       clear k_nm
       go_wp2_with (go_at_call 16; refine (HCI.out _ _).mono ?_; rintro e w1 ⟨c0, rfl, hc, hb⟩; have HK0 := hid ((HB4.out _ _ _ _).trans (hb.mono (by simp; omega))); have HE0 := hid hc; clear hb hc; cases c0)
       ·go_ret
        exact ⟨false, rfl, by
         have f0 := at_ne HX.out HY.out (by have f0 := HE0.out; rw [Ne, it_eq_iff]; simp at f0; simp [f0])
         constructor
         ·intro h; cases h
         ·intro h; rw [h] at f0; exact f0.2 rfl, HBW.out.trans (HK0.out.mono (by omega))⟩
       ·go_roundw
        case rel => exact ⟨k + 1, by omega, by go_num, HBW.out.trans (HK0.out.mono (by omega)), hid ((HK0.out.block _ hw1).trans HX1.out), hid ((HK0.out.block _ hw2).trans HX2.out), hid (by
          have e : xi = yi := by have f0 := HE0.out; rw [it_eq_iff]; simp at f0; simp [K_star.out, K_nm.out, f0]
          rw [List.take_add_one, List.take_add_one, heq.out, HX.out, HY.out, e])⟩
        case measure => simp [intOf]; omega
      ·have b_nm : ¬ (str xi.nm).toList = (str yi.nm).toList := beq_eq_false_iff_ne.1 (HRnm.out.trans (decide_eq_false k_nm))
       have K_nm := hid k_nm
       clear k_nm
       go_wp2_with fail
       go_ret
       exact ⟨false, rfl, by
        have f0 := at_ne HX.out HY.out (by rw [Ne, it_eq_iff]; simp [K_nm.out])
        constructor
        ·intro h; cases h
        ·intro h; rw [h] at f0; exact f0.2 rfl, HBW.out.trans ((HB3.out _ _).mono (by omega))⟩
     ·have K_star := hid (show ¬ xi.star = yi.star from by rw [HSX.out, HSY.out]; exact k_star)
      go_wp2_with fail
      go_ret
      exact ⟨false, rfl, by
       have f0 := at_ne HX.out HY.out (by rw [Ne, it_eq_iff]; simp [K_star.out])
       constructor
       ·intro h; cases h
       ·intro h; rw [h] at f0; exact f0.2 rfl, HBW.out.trans ((HB3.out _ _).mono (by omega))⟩
    ·have hkn : k = n := by omega
     subst hkn
     have hcn : decide ((k : Int) < (k : Int)) = false := decide_eq_false (by omega)
     have KI := hid (show x.items = y.items from by
      have e := heq.out
      rw [List.take_of_length_le (by rw [HN.out]; omega), List.take_of_length_le (by rw [HO.out]; omega)] at e
      exact e)
     have c2 := cell_at HX1.out 2 rfl
     have d2 := cell_at HX2.out 2 rfl
     have c3 := cell_at HX1.out 3 rfl
     have d3 := cell_at HX2.out 3 rfl
     have c4 := cell_at HX1.out 4 rfl
     have d4 := cell_at HX2.out 4 rfl
     have c5 := cell_at HX1.out 5 rfl
     have d5 := cell_at HX2.out 5 rfl
     go_wp2_with (first | (go_at_call 33; refine (HC1.out _ HBW.out).mono ?_; clear HC1; rintro e w1 ⟨c0_, rfl, hc, hb⟩; have x1 := (hb.block _ (bx_lt HX1.out)).trans HX1.out; have x2 := (hb.block _ (bx_lt HX2.out)).trans HX2.out; have HK0 := hid (HBW.out.trans (hb.mono HBW.out.size)); have c0_3 := cell_at x1 3 rfl; have d0_3 := cell_at x2 3 rfl; have c0_4 := cell_at x1 4 rfl; have d0_4 := cell_at x2 4 rfl; have c0_5 := cell_at x1 5 rfl; have d0_5 := cell_at x2 5 rfl; have HZ0a := hid x1; have HZ0b := hid x2; have HE0 := hid hc; clear hb hc x1 x2; cases c0_) | (go_at_call 16; refine (HC2.out _ HK0.out).mono ?_; clear HC2; rintro e w2 ⟨c1_, rfl, hc, hb⟩; have x1 := (hb.block _ (bx_lt HZ0a.out)).trans HZ0a.out; have x2 := (hb.block _ (bx_lt HZ0b.out)).trans HZ0b.out; have HK1 := hid (HK0.out.trans (hb.mono HK0.out.size)); have c1_4 := cell_at x1 4 rfl; have d1_4 := cell_at x2 4 rfl; have c1_5 := cell_at x1 5 rfl; have d1_5 := cell_at x2 5 rfl; have HZ1a := hid x1; have HZ1b := hid x2; have HE1 := hid hc; clear hb hc x1 x2; cases c1_) | (go_at_call 16; refine (HC3.out _ HK1.out).mono ?_; clear HC3; rintro e w3 ⟨c2_, rfl, hc, hb⟩; have x1 := (hb.block _ (bx_lt HZ1a.out)).trans HZ1a.out; have x2 := (hb.block _ (bx_lt HZ1b.out)).trans HZ1b.out; have HK2 := hid (HK1.out.trans (hb.mono HK1.out.size)); have c2_5 := cell_at x1 5 rfl; have d2_5 := cell_at x2 5 rfl; have HZ2a := hid x1; have HZ2b := hid x2; have HE2 := hid hc; clear hb hc x1 x2; cases c2_) | (go_at_call 16; refine (HC4.out _ HK2.out).mono ?_; clear HC4; rintro e w4 ⟨c3_, rfl, hc, hb⟩; have x1 := (hb.block _ (bx_lt HZ2a.out)).trans HZ2a.out; have x2 := (hb.block _ (bx_lt HZ2b.out)).trans HZ2b.out; have HK3 := hid (HK2.out.trans (hb.mono HK2.out.size)); have HZ3a := hid x1; have HZ3b := hid x2; have HE3 := hid hc; clear hb hc x1 x2; cases c3_))
     ·go_ret
      refine ⟨false, rfl, ?_, HK0.out⟩
      have f0 := HE0.out; rw [se_eq_iff]; simp at f0; simp [K_dist.out, KI.out, f0]
     ·go_ret
      refine ⟨false, rfl, ?_, HK1.out⟩
      have f0 := HE0.out; have f1 := HE1.out; rw [se_eq_iff]; simp at f0 f1; simp [K_dist.out, KI.out, f0, f1]
     ·go_ret
      refine ⟨false, rfl, ?_, HK2.out⟩
      have f0 := HE0.out; have f1 := HE1.out; have f2 := HE2.out; rw [se_eq_iff]; simp at f0 f1 f2; simp [K_dist.out, KI.out, f0, f1, f2]
     ·go_ret
      refine ⟨false, rfl, ?_, HK3.out⟩
      have f0 := HE0.out; have f1 := HE1.out; have f2 := HE2.out; have f3 := HE3.out; rw [se_eq_iff]; simp at f0 f1 f2 f3; simp [K_dist.out, KI.out, f0, f1, f2, f3]
     ·go_ret
      refine ⟨true, rfl, ?_, HK3.out⟩
      have f0 := HE0.out; have f1 := HE1.out; have f2 := HE2.out; have f3 := HE3.out; rw [se_eq_iff]; simp at f0 f1 f2 f3; simp [K_dist.out, KI.out, f0, f1, f2, f3]
  ·have hne : ((n : Int) != (o : Int)) = true := bne_iff_ne.2 (by omega)
   go_wp2_with fail
   go_ret
   exact ⟨false, rfl, by
    constructor
    ·intro h0; cases h0
    ·intro h0
     subst h0
     exact absurd (HN.out.symm.trans HO.out) hno, HB2.out _ _⟩
 ·have K_dist := hid (show ¬ x.dist = y.dist from by rw [HDX.out, HDY.out]; exact k_dist)
  go_wp2_with fail
  go_ret
  exact ⟨false, rfl, by rw [se_eq_iff]; simp [K_dist.out], HB2.out _ _⟩
end Go.Proofs.YtegkbagnbnoopaaGreatDoor
/- value.May alone -/
namespace Go.Proofs.YtegkbagnbnoopaaGreatDoor
open Go.RowKit
open Go.Lib (hid)
def normV (v : Val) : Val := if v.k = 1 then ⟨1, v.n, []⟩ else if v.k = 2 then ⟨2, 0, v.s⟩ else if v.k = 3 then ⟨3, if v.n = 0 then 0 else 1, []⟩ else ⟨0, 0, []⟩
abbrev BX (k n : Int) (s : ByteArray) : Obj := .cells #[.int .i64 k, .int .i64 n, .string s] 38
theorem bl_al {a w : World} (h : Below a.heap.size a w) (o : Obj) : Below a.heap.size a (w.alloc o) := h.alloc h.size o
theorem bl_tr {a w u : World} (h : Below a.heap.size a w) (h2 : Below w.heap.size w u) : Below a.heap.size a u := h.trans (h2.mono h.size)
attribute [local go_sem ↓] eql32_eq neq32_eq
theorem integer_any (n : Int) (w : World) : Calls Tryz.prog 117 #[.int .i64 n] w fun e w' => e = .returned (.agg #[.int .i64 1, .int .i64 n, .string ⟨#[]⟩]) ∧ w' = w.alloc (BX 1 n ⟨#[]⟩) := by
 go_enter Tryz.func117, Tryz.ntmps117
 go_wp2_with fail
 refine bodyPost_ret (v := .agg #[.int .i64 1, .int .i64 n, .string ⟨#[]⟩]) (by simp [results, Tryz.results117, go_sem]) rfl ⟨?_, ?_⟩
 ·rfl
 ·rfl
theorem boolean_any (b : Bool) (w : World) : Calls Tryz.prog 118 #[.bool b] w fun e w' => e = .returned (.agg #[.int .i64 3, .int .i64 (if b = true then 1 else 0), .string ⟨#[]⟩]) ∧ w' = w.alloc (BX 3 (if b = true then 1 else 0) ⟨#[]⟩) := by
 cases b
 ·go_enter Tryz.func118, Tryz.ntmps118
  go_wp2_with fail
  refine bodyPost_ret (v := .agg #[.int .i64 3, .int .i64 0, .string ⟨#[]⟩]) (by simp [results, Tryz.results118, go_sem]) rfl ⟨?_, ?_⟩
  ·rfl
  ·rfl
 ·go_enter Tryz.func118, Tryz.ntmps118
  go_wp2_with fail
  refine bodyPost_ret (v := .agg #[.int .i64 3, .int .i64 1, .string ⟨#[]⟩]) (by simp [results, Tryz.results118, go_sem]) rfl ⟨?_, ?_⟩
  ·rfl
  ·rfl
theorem norm_1 {x : Val} (h : x.k = 1) : normV x = ⟨1, x.n, []⟩ := by rw [normV, if_pos h]
theorem norm_2 {x : Val} (h : x.k = 2) : normV x = ⟨2, 0, x.s⟩ := by rw [normV, if_neg (by omega), if_pos h]
theorem norm_3 {x : Val} (h : x.k = 3) : normV x = ⟨3, if x.n = 0 then 0 else 1, []⟩ := by rw [normV, if_neg (by omega), if_neg (by omega), if_pos h]
theorem norm_0 {x : Val} (h1 : x.k ≠ 1) (h2 : x.k ≠ 2) (h3 : x.k ≠ 3) : normV x = ⟨0, 0, []⟩ := by rw [normV, if_neg h1, if_neg h2, if_neg h3]
theorem plain_any (x : Val) (w : World) : Calls Tryz.prog 105 #[.agg #[.int .i64 x.k, .int .i64 x.n, .string (str x.s)]] w fun e w' => e = .returned (.agg #[.int .i64 (normV x).k, .int .i64 (normV x).n, .string (str (normV x).s)]) ∧ Below w.heap.size w w' := by
 obtain ⟨k, n, s⟩ := x
 simp only
 by_cases k1 : k = 1
 ·subst k1
  rw [norm_1 rfl]
  go_enter Tryz.func105, Tryz.ntmps105
  go_wp2_with (go_at_call 117; refine (integer_any _ _).mono ?_; rintro e w' ⟨rfl, rfl⟩)
  refine bodyPost_ret (v := .agg #[.int .i64 1, .int .i64 n, .string ⟨#[]⟩]) (by simp [results, Tryz.results105, go_sem]) rfl ⟨?_, ?_⟩
  ·rfl
  ·exact bl_al (bl_al (bl_al (Below.refl _ _) _) _) _
 by_cases k2 : k = 2
 ·subst k2
  rw [norm_2 rfl]
  go_enter Tryz.func105, Tryz.ntmps105
  go_wp2_with fail
  refine bodyPost_ret (v := .agg #[.int .i64 2, .int .i64 0, .string (str s)]) (by simp [results, Tryz.results105, go_sem]) rfl ⟨?_, ?_⟩
  ·rfl
  ·exact bl_al (bl_al (Below.refl _ _) _) _
 by_cases k3 : k = 3
 ·subst k3
  rw [norm_3 rfl]
  by_cases n0 : n = 0
  ·subst n0
   go_enter Tryz.func105, Tryz.ntmps105
   go_wp2_with (go_at_call 118; refine (boolean_any _ _).mono ?_; rintro e w' ⟨rfl, rfl⟩)
   refine bodyPost_ret (v := .agg #[.int .i64 3, .int .i64 0, .string ⟨#[]⟩]) (by simp [results, Tryz.results105, go_sem]) rfl ⟨?_, ?_⟩
   ·rfl
   ·exact bl_al (bl_al (bl_al (Below.refl _ _) _) _) _
  ·simp only [if_neg n0]
   have hb : (!decide (n = 0)) = true := by simp [n0]
   go_enter Tryz.func105, Tryz.ntmps105
   go_wp2_with (go_at_call 118; refine (boolean_any _ _).mono ?_; rintro e w' ⟨rfl, rfl⟩)
   refine bodyPost_ret (v := .agg #[.int .i64 3, .int .i64 1, .string ⟨#[]⟩]) (by simp [results, Tryz.results105, go_sem]) rfl ⟨?_, ?_⟩
   ·rfl
   ·exact bl_al (bl_al (bl_al (Below.refl _ _) _) _) _
 ·rw [norm_0 k1 k2 k3]
  go_enter Tryz.func105, Tryz.ntmps105
  go_wp2_with fail
  refine bodyPost_ret (v := .agg #[.int .i64 0, .int .i64 0, .string ⟨#[]⟩]) (by simp [results, Tryz.results105, go_sem]) rfl ⟨?_, ?_⟩
  ·rfl
  ·exact bl_al (bl_al (Below.refl _ _) _) _
theorem hp_al {w : World} {H : Nat} {x : Obj} (h : w.heap[H]? = some x) (o : Obj) : (w.alloc o).heap[H]? = some x := by
 have hl : H < w.heap.size := by rcases Nat.lt_or_ge H w.heap.size with h' | h'; exact h'; rw [Array.getElem?_eq_none h'] at h; cases h
 show (w.heap.push o)[H]? = _
 rw [Array.getElem?_push_lt hl, ← Array.getElem?_eq_getElem hl]; exact h
theorem norm_rng {x : Val} (h : Rng x.s) : Rng (normV x).s := by
 unfold normV; split
 ·exact fun x hx => by simp at hx
 split
 ·exact h
 split <;> exact fun x hx => by simp at hx
def One (w u : World) (x : Val) : Prop := u.heap[w.heap.size]? = some (BX x.k x.n (str x.s)) ∧ Below w.heap.size w u
theorem One.al {w u : World} {x : Val} (h : One w u x) (o : Obj) : One w (u.alloc o) x := ⟨hp_al h.1 o, bl_al h.2 o⟩
theorem One.drew {w u : World} {x : Val} (h : One w u x) : One w u.drew x := ⟨h.1, h.2.drew⟩
theorem One.below {w u v : World} {x : Val} (h : One w u x) (hb : Below u.heap.size u v) : One w v x :=
 ⟨(hb.block _ (by rcases Nat.lt_or_ge w.heap.size u.heap.size with h' | h'; exact h'; have := h.1; rw [Array.getElem?_eq_none h'] at this; cases this)).trans h.1, bl_tr h.2 hb⟩
theorem one_new (w : World) (x : Val) : One w (w.alloc (BX x.k x.n (str x.s))) x := ⟨heap_alloc_new _ _, bl_al (Below.refl _ _) _⟩
def mayV (x : Val) : Bool := decide (normV x = x) && decide (x.s.length ≤ 64)
set_option maxRecDepth 100000 in
set_option maxHeartbeats 1600000 in
theorem may_any (x : Val) (w : World) (hx : Rng x.s) : Calls Tryz.prog 90 #[.agg #[.int .i64 x.k, .int .i64 x.n, .string (str x.s)]] w fun e w' => e = .returned (.bool (mayV x)) ∧ Below w.heap.size w w' := by
 have HT := hid (one_new w x).drew
 have hl := str_len x.s
 by_cases hn : normV x = x
 ·have he := fun (u : World) => run_eql32 u x (normV x) hx (norm_rng hx)
  simp only [show decide (x = normV x) = true from decide_eq_true hn.symm] at he
  rw [show mayV x = decide (x.s.length ≤ 64) by rw [mayV, decide_eq_true hn, Bool.true_and]]
  clear hn
  go_enter Tryz.func90, Tryz.ntmps90
  go_wp2_with fail
  refine wp_region_held_drew (S := fun u => One w u x) (by kernel_rfl) (HT.out) (fun hHeld => ?_)
  refine tk (i := 0) (oi := ⟨some 3, .load 38 (.tmp 1), 38, "value.go:14", #[], none⟩) (v := ?_) (Or.inl ⟨by rfl, ?_⟩) ?_
  rotate_left 1
  ·(intro u hSw; have p0 := (cell_of_row u (w.heap.size) 0 _ _ _ hSw.1).trans (show (#[Value.int .i64 x.k, .int .i64 x.n, .string (str x.s)] : Array Value)[0]? = some (.int .i64 x.k) from rfl); have p1 := (cell_of_row u (w.heap.size) 1 _ _ _ hSw.1).trans (show (#[Value.int .i64 x.k, .int .i64 x.n, .string (str x.s)] : Array Value)[1]? = some (.int .i64 x.n) from rfl); have p2 := (cell_of_row u (w.heap.size) 2 _ _ _ hSw.1).trans (show (#[Value.int .i64 x.k, .int .i64 x.n, .string (str x.s)] : Array Value)[2]? = some (.string (str x.s)) from rfl); go_simp; try with_reducible rfl)
  try simp only [Act.put, sA, sB, sC]
  refine tk (i := 1) (oi := ⟨some 4, .load 38 (.tmp 1), 38, "value.go:14", #[], none⟩) (v := ?_) (Or.inl ⟨by rfl, ?_⟩) ?_
  rotate_left 1
  ·(intro u hSw; have p0 := (cell_of_row u (w.heap.size) 0 _ _ _ hSw.1).trans (show (#[Value.int .i64 x.k, .int .i64 x.n, .string (str x.s)] : Array Value)[0]? = some (.int .i64 x.k) from rfl); have p1 := (cell_of_row u (w.heap.size) 1 _ _ _ hSw.1).trans (show (#[Value.int .i64 x.k, .int .i64 x.n, .string (str x.s)] : Array Value)[1]? = some (.int .i64 x.n) from rfl); have p2 := (cell_of_row u (w.heap.size) 2 _ _ _ hSw.1).trans (show (#[Value.int .i64 x.k, .int .i64 x.n, .string (str x.s)] : Array Value)[2]? = some (.string (str x.s)) from rfl); go_simp; try with_reducible rfl)
  try simp only [Act.put, sA, sB, sC]
  refine wpAnyH_ready (rs := [2]) (by kernel_rfl) (by simp) ?_
  refine AllReadyH.cons (o := ⟨some 5, .call ⟨.value (.func 105), #[.tmp 4], #[38]⟩, 38, "value.go:14", #[⟨1, .data⟩], none⟩) rfl (fun K hK => ?_) AllReadyH.nil
  go_simp
  go_at_call 105
  refine (plain_any x _).mono ?_
  rintro e w' ⟨rfl, hb⟩
  go_wp2_with fail
  refine hK.out _ _ (hHeld.below hb) (fun hHeld => ?_)
  clear hK K
  try simp only [Act.put, sA, sB, sC]
  refine tk (i := 3) (oi := ⟨some 6, .binOp BinOp.eql 38 (.tmp 3) (.tmp 5) 38, 4, "value.go:14", #[⟨0, .data⟩, ⟨2, .data⟩], none⟩) (v := ?_) (Or.inl ⟨by rfl, ?_⟩) ?_
  rotate_left 1
  ·(intro u hSw; go_simp; try with_reducible rfl)
  try simp only [Act.put, sA, sB, sC]
  refine tk (i := 4) (oi := ⟨some 7, .move (.tmp 6), 4, "value.go:14", #[⟨3, .data⟩, ⟨2, .chain⟩], none⟩) (v := ?_) (Or.inl ⟨by rfl, ?_⟩) ?_
  rotate_left 1
  ·(intro u hSw; go_simp; try with_reducible rfl)
  try simp only [Act.put, sA, sB, sC]
  refine tk (i := 5) (oi := ⟨some 8, .fieldAddr 38 (.tmp 1) 2, 0, "value.go:14", #[⟨4, .guard⟩], some (4, true)⟩) (v := ?_) (Or.inl ⟨by rfl, ?_⟩) ?_
  rotate_left 1
  ·(intro u hSw; go_simp; try with_reducible rfl)
  try simp only [Act.put, sA, sB, sC]
  refine tk (i := 6) (oi := ⟨some 9, .load 9 (.tmp 8), 9, "value.go:14", #[⟨5, .data⟩, ⟨4, .guard⟩], some (4, true)⟩) (v := ?_) (Or.inl ⟨by rfl, ?_⟩) ?_
  rotate_left 1
  ·(intro u hSw; have p0 := (cell_of_row u (w.heap.size) 0 _ _ _ hSw.1).trans (show (#[Value.int .i64 x.k, .int .i64 x.n, .string (str x.s)] : Array Value)[0]? = some (.int .i64 x.k) from rfl); have p1 := (cell_of_row u (w.heap.size) 1 _ _ _ hSw.1).trans (show (#[Value.int .i64 x.k, .int .i64 x.n, .string (str x.s)] : Array Value)[1]? = some (.int .i64 x.n) from rfl); have p2 := (cell_of_row u (w.heap.size) 2 _ _ _ hSw.1).trans (show (#[Value.int .i64 x.k, .int .i64 x.n, .string (str x.s)] : Array Value)[2]? = some (.string (str x.s)) from rfl); go_simp; try with_reducible rfl)
  try simp only [Act.put, sA, sB, sC]
  refine tk (i := 7) (oi := ⟨some 10, .call ⟨.builtin .len, #[.tmp 9], #[9]⟩, 3, "value.go:14", #[⟨6, .data⟩, ⟨4, .guard⟩], some (4, true)⟩) (v := ?_) (Or.inl ⟨by rfl, ?_⟩) ?_
  rotate_left 1
  ·(intro u hSw; go_simp; try with_reducible rfl)
  try simp only [Act.put, sA, sB, sC]
  refine tk (i := 8) (oi := ⟨some 11, .binOp BinOp.leq 3 (.tmp 10) (.const (Value.int IntKind.i64 64)) 3, 4, "value.go:14", #[⟨7, .data⟩, ⟨4, .guard⟩], some (4, true)⟩) (v := ?_) (Or.inl ⟨by rfl, ?_⟩) ?_
  rotate_left 1
  ·(intro u hSw; go_simp; try with_reducible rfl)
  try simp only [Act.put, sA, sB, sC]
  refine tk (i := 9) (oi := ⟨some 12, .pick (.tmp 7) (.tmp 11) (.const (Value.bool false)), 4, "value.go:14", #[⟨4, .data⟩, ⟨8, .data⟩], none⟩) (v := ?_) (Or.inl ⟨by rfl, ?_⟩) ?_
  rotate_left 1
  ·(intro u hSw; go_simp; try with_reducible rfl)
  try simp only [Act.put, sA, sB, sC]
  refine tk (i := 10) (oi := ⟨some 2, .assign (.tmp 12), 4, "value.go:14", #[⟨9, .data⟩, ⟨4, .chain⟩, ⟨0, .phase⟩, ⟨1, .phase⟩, ⟨2, .phase⟩, ⟨3, .phase⟩, ⟨4, .phase⟩, ⟨5, .phase⟩, ⟨6, .phase⟩, ⟨7, .phase⟩, ⟨8, .phase⟩, ⟨9, .phase⟩], none⟩) (v := ?_) (Or.inl ⟨by rfl, ?_⟩) ?_
  rotate_left 1
  ·(intro u hSw; go_simp; try with_reducible rfl)
  try simp only [Act.put, sA, sB, sC]
  refine wpAnyH_done (by kernel_rfl) ?_ _
  go_wp2_with fail
  go_ret
  exact ⟨by simp; omega, hHeld.2⟩
 ·have he := fun (u : World) => run_eql32 u x (normV x) hx (norm_rng hx)
  simp only [show decide (x = normV x) = false from decide_eq_false (fun e => hn e.symm)] at he
  rw [show mayV x = false by rw [mayV, decide_eq_false hn, Bool.false_and]]
  clear hn
  go_enter Tryz.func90, Tryz.ntmps90
  go_wp2_with fail
  refine wp_region_held_drew (S := fun u => One w u x) (by kernel_rfl) (HT.out) (fun hHeld => ?_)
  refine tk (i := 0) (oi := ⟨some 3, .load 38 (.tmp 1), 38, "value.go:14", #[], none⟩) (v := ?_) (Or.inl ⟨by rfl, ?_⟩) ?_
  rotate_left 1
  ·(intro u hSw; have p0 := (cell_of_row u (w.heap.size) 0 _ _ _ hSw.1).trans (show (#[Value.int .i64 x.k, .int .i64 x.n, .string (str x.s)] : Array Value)[0]? = some (.int .i64 x.k) from rfl); have p1 := (cell_of_row u (w.heap.size) 1 _ _ _ hSw.1).trans (show (#[Value.int .i64 x.k, .int .i64 x.n, .string (str x.s)] : Array Value)[1]? = some (.int .i64 x.n) from rfl); have p2 := (cell_of_row u (w.heap.size) 2 _ _ _ hSw.1).trans (show (#[Value.int .i64 x.k, .int .i64 x.n, .string (str x.s)] : Array Value)[2]? = some (.string (str x.s)) from rfl); go_simp; try with_reducible rfl)
  try simp only [Act.put, sA, sB, sC]
  refine tk (i := 1) (oi := ⟨some 4, .load 38 (.tmp 1), 38, "value.go:14", #[], none⟩) (v := ?_) (Or.inl ⟨by rfl, ?_⟩) ?_
  rotate_left 1
  ·(intro u hSw; have p0 := (cell_of_row u (w.heap.size) 0 _ _ _ hSw.1).trans (show (#[Value.int .i64 x.k, .int .i64 x.n, .string (str x.s)] : Array Value)[0]? = some (.int .i64 x.k) from rfl); have p1 := (cell_of_row u (w.heap.size) 1 _ _ _ hSw.1).trans (show (#[Value.int .i64 x.k, .int .i64 x.n, .string (str x.s)] : Array Value)[1]? = some (.int .i64 x.n) from rfl); have p2 := (cell_of_row u (w.heap.size) 2 _ _ _ hSw.1).trans (show (#[Value.int .i64 x.k, .int .i64 x.n, .string (str x.s)] : Array Value)[2]? = some (.string (str x.s)) from rfl); go_simp; try with_reducible rfl)
  try simp only [Act.put, sA, sB, sC]
  refine wpAnyH_ready (rs := [2]) (by kernel_rfl) (by simp) ?_
  refine AllReadyH.cons (o := ⟨some 5, .call ⟨.value (.func 105), #[.tmp 4], #[38]⟩, 38, "value.go:14", #[⟨1, .data⟩], none⟩) rfl (fun K hK => ?_) AllReadyH.nil
  go_simp
  go_at_call 105
  refine (plain_any x _).mono ?_
  rintro e w' ⟨rfl, hb⟩
  go_wp2_with fail
  refine hK.out _ _ (hHeld.below hb) (fun hHeld => ?_)
  clear hK K
  try simp only [Act.put, sA, sB, sC]
  refine tk (i := 3) (oi := ⟨some 6, .binOp BinOp.eql 38 (.tmp 3) (.tmp 5) 38, 4, "value.go:14", #[⟨0, .data⟩, ⟨2, .data⟩], none⟩) (v := ?_) (Or.inl ⟨by rfl, ?_⟩) ?_
  rotate_left 1
  ·(intro u hSw; go_simp; try with_reducible rfl)
  try simp only [Act.put, sA, sB, sC]
  refine tk (i := 4) (oi := ⟨some 7, .move (.tmp 6), 4, "value.go:14", #[⟨3, .data⟩, ⟨2, .chain⟩], none⟩) (v := ?_) (Or.inl ⟨by rfl, ?_⟩) ?_
  rotate_left 1
  ·(intro u hSw; go_simp; try with_reducible rfl)
  try simp only [Act.put, sA, sB, sC]
  refine tk (i := 5) (oi := ⟨some 8, .fieldAddr 38 (.tmp 1) 2, 0, "value.go:14", #[⟨4, .guard⟩], some (4, true)⟩) (v := undef) (by exact Or.inr ⟨by rfl, rfl⟩) ?_
  try simp only [Act.put, sA, sB, sC]
  refine tk (i := 6) (oi := ⟨some 9, .load 9 (.tmp 8), 9, "value.go:14", #[⟨5, .data⟩, ⟨4, .guard⟩], some (4, true)⟩) (v := undef) (by exact Or.inr ⟨by rfl, rfl⟩) ?_
  try simp only [Act.put, sA, sB, sC]
  refine tk (i := 7) (oi := ⟨some 10, .call ⟨.builtin .len, #[.tmp 9], #[9]⟩, 3, "value.go:14", #[⟨6, .data⟩, ⟨4, .guard⟩], some (4, true)⟩) (v := undef) (by exact Or.inr ⟨by rfl, rfl⟩) ?_
  try simp only [Act.put, sA, sB, sC]
  refine tk (i := 8) (oi := ⟨some 11, .binOp BinOp.leq 3 (.tmp 10) (.const (Value.int IntKind.i64 64)) 3, 4, "value.go:14", #[⟨7, .data⟩, ⟨4, .guard⟩], some (4, true)⟩) (v := undef) (by exact Or.inr ⟨by rfl, rfl⟩) ?_
  try simp only [Act.put, sA, sB, sC]
  refine tk (i := 9) (oi := ⟨some 12, .pick (.tmp 7) (.tmp 11) (.const (Value.bool false)), 4, "value.go:14", #[⟨4, .data⟩, ⟨8, .data⟩], none⟩) (v := ?_) (Or.inl ⟨by rfl, ?_⟩) ?_
  rotate_left 1
  ·(intro u hSw; go_simp; try with_reducible rfl)
  try simp only [Act.put, sA, sB, sC]
  refine tk (i := 10) (oi := ⟨some 2, .assign (.tmp 12), 4, "value.go:14", #[⟨9, .data⟩, ⟨4, .chain⟩, ⟨0, .phase⟩, ⟨1, .phase⟩, ⟨2, .phase⟩, ⟨3, .phase⟩, ⟨4, .phase⟩, ⟨5, .phase⟩, ⟨6, .phase⟩, ⟨7, .phase⟩, ⟨8, .phase⟩, ⟨9, .phase⟩], none⟩) (v := ?_) (Or.inl ⟨by rfl, ?_⟩) ?_
  rotate_left 1
  ·(intro u hSw; go_simp; try with_reducible rfl)
  try simp only [Act.put, sA, sB, sC]
  refine wpAnyH_done (by kernel_rfl) ?_ _
  go_wp2_with fail
  go_ret
  exact ⟨rfl, hHeld.2⟩
end Go.Proofs.YtegkbagnbnoopaaGreatDoor
