/- slices.EqualFunc over trees -/
import Derived.Test.YtegkbagnbnoopaaGreatDoorPs01
import Derived.Test.YtegkbagnbnoopaaGreatDoorPs02
import Derived.Test.YtegkbagnbnoopaaGreatDoorPs06
namespace Go.Proofs.YtegkbagnbnoopaaGreatDoor
open Go.ChangeShapes Go.WideShapes Go.ChangeAt Go.RowKit Go.Deep
open Go.Lib (hid)
set_option maxRecDepth 100000 in
set_option maxHeartbeats 6400000 in
theorem eqf_ex (v1 v2 : Value) (r s : List Ex) (w : World) (hv1 : DIs w v1 (.sl (exsDa r))) (hv2 : DIs w v2 (.sl (exsDa s))) (hl : r.length ≤ 1073741824) (hm : s.length ≤ 1073741824)
  (hf : ∀ x ∈ r, ∀ y ∈ s, ∀ (u : World) (a b : Value), Below w.heap.size w u → ExV u a x → ExV u b y → Calls Tryz.prog 32 #[a, b] u fun e u' => ∃ c, e = .returned (.bool c) ∧ (c = true ↔ x = y) ∧ Below u.heap.size u u') :
  Calls Tryz.prog 64 #[v1, v2, .func (.func 32) #[] #[]] w fun e w' => ∃ c, e = .returned (.bool c) ∧ (c = true ↔ r = s) ∧ Below w.heap.size w w' := by
 obtain ⟨a1, c1, rfl, hc1, hcell1⟩ := exs_rows hv1
 obtain ⟨a2, c2, rfl, hc2, hcell2⟩ := exs_rows hv2
 have HC1 := hid hcell1
 have HC2 := hid hcell2
 have HF := hid hf
 have hz := zero32
 generalize hn : r.length = n at *
 generalize ho : s.length = o at *
 have HN := hid hn
 have HO := hid ho
 clear hcell1 hcell2 hn ho hv1 hv2 hf
 go_enter Tryz.func64, Tryz.ntmps64
 by_cases hno : n = o
 ·subst hno
  go_wp2_with fail
  go_loopw [17] (fun i wr => ∃ k : Nat, k ≤ n ∧ i = .int .i64 k ∧ Below w.heap.size w wr ∧ Hid (r.take k = s.take k)) (fun i _ => n - (intOf i).toNat)
  case atStart => exact ⟨0, Nat.zero_le _, rfl, Below.refl _ _, hid rfl⟩
  case round =>
   obtain ⟨k, hk1, rfl, hbw, heq⟩ := hrel
   have hsz := hbw.size
   have HBW := hid hbw
   clear hbw
   by_cases hlt1 : k < n
   ·obtain ⟨b1, o1, rfl, hb1, hd1⟩ := HC1.out (by omega)
    obtain ⟨b2, o2, rfl, hb2, hd2⟩ := HC2.out (by omega)
    obtain ⟨x, hx⟩ : ∃ x, r[k]? = some x := ⟨_, List.getElem?_eq_getElem (by rw [HN.out]; exact hlt1)⟩
    obtain ⟨y, hy⟩ : ∃ y, s[k]? = some y := ⟨_, List.getElem?_eq_getElem (by rw [HO.out]; exact hlt1)⟩
    obtain ⟨s0, s1, p0, p1, p2, p3, p4, p5, p6, p7, h0, h1⟩ := hd1 k x hx
    obtain ⟨t0, t1, q0, q1, q2, q3, q4, q5, q6, q7, g0, g1⟩ := hd2 k y hy
    replace p0 := (HBW.out.cell (p := ⟨b1, o1 + k * 8, none⟩) hb1).trans p0
    replace q0 := (HBW.out.cell (p := ⟨b2, o2 + k * 8, none⟩) hb2).trans q0
    replace p1 := (HBW.out.cell (p := ⟨b1, o1 + k * 8 + 1, none⟩) hb1).trans p1
    replace q1 := (HBW.out.cell (p := ⟨b2, o2 + k * 8 + 1, none⟩) hb2).trans q1
    replace p2 := (HBW.out.cell (p := ⟨b1, o1 + k * 8 + 2, none⟩) hb1).trans p2
    replace q2 := (HBW.out.cell (p := ⟨b2, o2 + k * 8 + 2, none⟩) hb2).trans q2
    replace p3 := (HBW.out.cell (p := ⟨b1, o1 + k * 8 + 3, none⟩) hb1).trans p3
    replace q3 := (HBW.out.cell (p := ⟨b2, o2 + k * 8 + 3, none⟩) hb2).trans q3
    replace p4 := (HBW.out.cell (p := ⟨b1, o1 + k * 8 + 4, none⟩) hb1).trans p4
    replace q4 := (HBW.out.cell (p := ⟨b2, o2 + k * 8 + 4, none⟩) hb2).trans q4
    replace p5 := (HBW.out.cell (p := ⟨b1, o1 + k * 8 + 5, none⟩) hb1).trans p5
    replace q5 := (HBW.out.cell (p := ⟨b2, o2 + k * 8 + 5, none⟩) hb2).trans q5
    replace p6 := (HBW.out.cell (p := ⟨b1, o1 + k * 8 + 6, none⟩) hb1).trans p6
    replace q6 := (HBW.out.cell (p := ⟨b2, o2 + k * 8 + 6, none⟩) hb2).trans q6
    replace p7 := (HBW.out.cell (p := ⟨b1, o1 + k * 8 + 7, none⟩) hb1).trans p7
    replace q7 := (HBW.out.cell (p := ⟨b2, o2 + k * 8 + 7, none⟩) hb2).trans q7
    obtain ⟨e0, m0, n0, rfl⟩ := dis_slice h0
    obtain ⟨e10, m10, n10, rfl⟩ := dis_slice g0
    obtain ⟨e1, m1, n1, rfl⟩ := dis_slice h1
    obtain ⟨e11, m11, n11, rfl⟩ := dis_slice g1
    have HCMP := hid (fun (u : World) (hu : Below w.heap.size w u) => HF.out x (List.mem_of_getElem? hx) y (List.mem_of_getElem? hy) u _ _ hu ⟨_, _, rfl, (h0.keep hu), (h1.keep hu)⟩ ⟨_, _, rfl, (g0.keep hu), (g1.keep hu)⟩)
    have HX := hid hx
    have HY := hid hy
    have hb1r : b1 < wr.heap.size := by omega
    have hb2r : b2 < wr.heap.size := by omega
    clear hd1 hd2 hx hy h0 h1 g0 g1
    have HB2 := hid (fun (o1 o2 : Obj) => (HBW.out.alloc (by omega) o1).alloc (by simp; omega) o2)
    go_wp2_with (go_at_call 32; refine (HCMP.out _ (HB2.out _ _)).mono ?_; rintro e w' ⟨c, rfl, hc, hb⟩; have HB3 := hid hb; have HXY := hid hc; clear hb hc; cases c)
    ·go_ret
     exact ⟨false, rfl, by
      have h := HXY.out
      constructor
      ·intro h0; cases h0
      ·intro h0
       subst h0
       have e := HX.out.symm.trans HY.out
       injection e with e
       exact h.2 e, (HB2.out _ _).trans (HB3.out.mono (by simp; omega))⟩
    ·go_roundw
     case rel => exact ⟨k + 1, by omega, by go_num, (HB2.out _ _).trans (HB3.out.mono (by simp; omega)), hid (by rw [List.take_add_one, List.take_add_one, heq.out, HX.out, HY.out, HXY.out.1 trivial])⟩
     case measure => simp [intOf]; omega
   ·have hkn : k = n := by omega
    subst hkn
    have hcn : decide ((k : Int) < (k : Int)) = false := decide_eq_false (by omega)
    go_wp2_with fail
    go_ret
    exact ⟨true, rfl, by
     have e := heq.out
     rw [List.take_of_length_le (by rw [HN.out]; omega), List.take_of_length_le (by rw [HO.out]; omega)] at e
     exact ⟨fun _ => e, fun _ => rfl⟩, HBW.out⟩
 ·have hne : ((n : Int) != (o : Int)) = true := bne_iff_ne.2 (by omega)
  go_wp2_with fail
  go_ret
  exact ⟨false, rfl, by
   constructor
   ·intro h0; cases h0
   ·intro h0
    subst h0
    exact absurd (HN.out.symm.trans HO.out) hno, Below.refl _ _⟩
end Go.Proofs.YtegkbagnbnoopaaGreatDoor
/- slices.EqualFunc over trees -/
namespace Go.Proofs.YtegkbagnbnoopaaGreatDoor
open Go.ChangeShapes Go.WideShapes Go.ChangeAt Go.RowKit Go.Deep
open Go.Lib (hid)
set_option maxRecDepth 100000 in
set_option maxHeartbeats 6400000 in
theorem eqf_qu (v1 v2 : Value) (r s : List Qu) (w : World) (hv1 : DIs w v1 (.sl (qusDa r))) (hv2 : DIs w v2 (.sl (qusDa s))) (hl : r.length ≤ 1073741824) (hm : s.length ≤ 1073741824)
  (hf : ∀ x ∈ r, ∀ y ∈ s, ∀ (u : World) (a b : Value), Below w.heap.size w u → QuV u a x → QuV u b y → Calls Tryz.prog 6 #[a, b] u fun e u' => ∃ c, e = .returned (.bool c) ∧ (c = true ↔ x = y) ∧ Below u.heap.size u u') :
  Calls Tryz.prog 12 #[v1, v2, .func (.func 6) #[] #[]] w fun e w' => ∃ c, e = .returned (.bool c) ∧ (c = true ↔ r = s) ∧ Below w.heap.size w w' := by
 obtain ⟨a1, c1, rfl, hc1, hcell1⟩ := qus_rows hv1
 obtain ⟨a2, c2, rfl, hc2, hcell2⟩ := qus_rows hv2
 have HC1 := hid hcell1
 have HC2 := hid hcell2
 have HF := hid hf
 have hz := zero32
 generalize hn : r.length = n at *
 generalize ho : s.length = o at *
 have HN := hid hn
 have HO := hid ho
 clear hcell1 hcell2 hn ho hv1 hv2 hf
 go_enter Tryz.func12, Tryz.ntmps12
 by_cases hno : n = o
 ·subst hno
  go_wp2_with fail
  go_loopw [17] (fun i wr => ∃ k : Nat, k ≤ n ∧ i = .int .i64 k ∧ Below w.heap.size w wr ∧ Hid (r.take k = s.take k)) (fun i _ => n - (intOf i).toNat)
  case atStart => exact ⟨0, Nat.zero_le _, rfl, Below.refl _ _, hid rfl⟩
  case round =>
   obtain ⟨k, hk1, rfl, hbw, heq⟩ := hrel
   have hsz := hbw.size
   have HBW := hid hbw
   clear hbw
   by_cases hlt1 : k < n
   ·obtain ⟨b1, o1, rfl, hb1, hd1⟩ := HC1.out (by omega)
    obtain ⟨b2, o2, rfl, hb2, hd2⟩ := HC2.out (by omega)
    obtain ⟨x, hx⟩ : ∃ x, r[k]? = some x := ⟨_, List.getElem?_eq_getElem (by rw [HN.out]; exact hlt1)⟩
    obtain ⟨y, hy⟩ : ∃ y, s[k]? = some y := ⟨_, List.getElem?_eq_getElem (by rw [HO.out]; exact hlt1)⟩
    obtain ⟨s0, s1, s2, s3, s4, s5, s6, p0, p1, p2, p3, p4, p5, p6, p7, p8, p9, p10, h0, h1, h2, h3, h4, h5, h6⟩ := hd1 k x hx
    obtain ⟨t0, t1, t2, t3, t4, t5, t6, q0, q1, q2, q3, q4, q5, q6, q7, q8, q9, q10, g0, g1, g2, g3, g4, g5, g6⟩ := hd2 k y hy
    replace p0 := (HBW.out.cell (p := ⟨b1, o1 + k * 11, none⟩) hb1).trans p0
    replace q0 := (HBW.out.cell (p := ⟨b2, o2 + k * 11, none⟩) hb2).trans q0
    replace p1 := (HBW.out.cell (p := ⟨b1, o1 + k * 11 + 1, none⟩) hb1).trans p1
    replace q1 := (HBW.out.cell (p := ⟨b2, o2 + k * 11 + 1, none⟩) hb2).trans q1
    replace p2 := (HBW.out.cell (p := ⟨b1, o1 + k * 11 + 2, none⟩) hb1).trans p2
    replace q2 := (HBW.out.cell (p := ⟨b2, o2 + k * 11 + 2, none⟩) hb2).trans q2
    replace p3 := (HBW.out.cell (p := ⟨b1, o1 + k * 11 + 3, none⟩) hb1).trans p3
    replace q3 := (HBW.out.cell (p := ⟨b2, o2 + k * 11 + 3, none⟩) hb2).trans q3
    replace p4 := (HBW.out.cell (p := ⟨b1, o1 + k * 11 + 4, none⟩) hb1).trans p4
    replace q4 := (HBW.out.cell (p := ⟨b2, o2 + k * 11 + 4, none⟩) hb2).trans q4
    replace p5 := (HBW.out.cell (p := ⟨b1, o1 + k * 11 + 5, none⟩) hb1).trans p5
    replace q5 := (HBW.out.cell (p := ⟨b2, o2 + k * 11 + 5, none⟩) hb2).trans q5
    replace p6 := (HBW.out.cell (p := ⟨b1, o1 + k * 11 + 6, none⟩) hb1).trans p6
    replace q6 := (HBW.out.cell (p := ⟨b2, o2 + k * 11 + 6, none⟩) hb2).trans q6
    replace p7 := (HBW.out.cell (p := ⟨b1, o1 + k * 11 + 7, none⟩) hb1).trans p7
    replace q7 := (HBW.out.cell (p := ⟨b2, o2 + k * 11 + 7, none⟩) hb2).trans q7
    replace p8 := (HBW.out.cell (p := ⟨b1, o1 + k * 11 + 8, none⟩) hb1).trans p8
    replace q8 := (HBW.out.cell (p := ⟨b2, o2 + k * 11 + 8, none⟩) hb2).trans q8
    replace p9 := (HBW.out.cell (p := ⟨b1, o1 + k * 11 + 9, none⟩) hb1).trans p9
    replace q9 := (HBW.out.cell (p := ⟨b2, o2 + k * 11 + 9, none⟩) hb2).trans q9
    replace p10 := (HBW.out.cell (p := ⟨b1, o1 + k * 11 + 10, none⟩) hb1).trans p10
    replace q10 := (HBW.out.cell (p := ⟨b2, o2 + k * 11 + 10, none⟩) hb2).trans q10
    obtain ⟨e0, m0, n0, rfl⟩ := dis_slice h0
    obtain ⟨e10, m10, n10, rfl⟩ := dis_slice g0
    obtain ⟨e1, m1, n1, rfl⟩ := dis_slice h1
    obtain ⟨e11, m11, n11, rfl⟩ := dis_slice g1
    obtain ⟨e2, m2, n2, rfl⟩ := dis_slice h2
    obtain ⟨e12, m12, n12, rfl⟩ := dis_slice g2
    obtain ⟨e3, m3, n3, rfl⟩ := dis_slice h3
    obtain ⟨e13, m13, n13, rfl⟩ := dis_slice g3
    obtain ⟨e4, m4, n4, rfl⟩ := dis_slice h4
    obtain ⟨e14, m14, n14, rfl⟩ := dis_slice g4
    obtain ⟨e5, m5, n5, rfl⟩ := dis_slice h5
    obtain ⟨e15, m15, n15, rfl⟩ := dis_slice g5
    obtain ⟨e6, m6, n6, rfl⟩ := dis_slice h6
    obtain ⟨e16, m16, n16, rfl⟩ := dis_slice g6
    have HCMP := hid (fun (u : World) (hu : Below w.heap.size w u) => HF.out x (List.mem_of_getElem? hx) y (List.mem_of_getElem? hy) u _ _ hu ⟨_, _, _, _, _, _, _, rfl, (h0.keep hu), (h1.keep hu), (h2.keep hu), (h3.keep hu), (h4.keep hu), (h5.keep hu), (h6.keep hu)⟩ ⟨_, _, _, _, _, _, _, rfl, (g0.keep hu), (g1.keep hu), (g2.keep hu), (g3.keep hu), (g4.keep hu), (g5.keep hu), (g6.keep hu)⟩)
    have HX := hid hx
    have HY := hid hy
    have hb1r : b1 < wr.heap.size := by omega
    have hb2r : b2 < wr.heap.size := by omega
    clear hd1 hd2 hx hy h0 h1 h2 h3 h4 h5 h6 g0 g1 g2 g3 g4 g5 g6
    have HB2 := hid (fun (o1 o2 : Obj) => (HBW.out.alloc (by omega) o1).alloc (by simp; omega) o2)
    go_wp2_with (go_at_call 6; refine (HCMP.out _ (HB2.out _ _)).mono ?_; rintro e w' ⟨c, rfl, hc, hb⟩; have HB3 := hid hb; have HXY := hid hc; clear hb hc; cases c)
    ·go_ret
     exact ⟨false, rfl, by
      have h := HXY.out
      constructor
      ·intro h0; cases h0
      ·intro h0
       subst h0
       have e := HX.out.symm.trans HY.out
       injection e with e
       exact h.2 e, (HB2.out _ _).trans (HB3.out.mono (by simp; omega))⟩
    ·go_roundw
     case rel => exact ⟨k + 1, by omega, by go_num, (HB2.out _ _).trans (HB3.out.mono (by simp; omega)), hid (by rw [List.take_add_one, List.take_add_one, heq.out, HX.out, HY.out, HXY.out.1 trivial])⟩
     case measure => simp [intOf]; omega
   ·have hkn : k = n := by omega
    subst hkn
    have hcn : decide ((k : Int) < (k : Int)) = false := decide_eq_false (by omega)
    go_wp2_with fail
    go_ret
    exact ⟨true, rfl, by
     have e := heq.out
     rw [List.take_of_length_le (by rw [HN.out]; omega), List.take_of_length_le (by rw [HO.out]; omega)] at e
     exact ⟨fun _ => e, fun _ => rfl⟩, HBW.out⟩
 ·have hne : ((n : Int) != (o : Int)) = true := bne_iff_ne.2 (by omega)
  go_wp2_with fail
  go_ret
  exact ⟨false, rfl, by
   constructor
   ·intro h0; cases h0
   ·intro h0
    subst h0
    exact absurd (HN.out.symm.trans HO.out) hno, Below.refl _ _⟩
end Go.Proofs.YtegkbagnbnoopaaGreatDoor
/- slices.EqualFunc over trees -/
namespace Go.Proofs.YtegkbagnbnoopaaGreatDoor
open Go.ChangeShapes Go.WideShapes Go.ChangeAt Go.RowKit Go.Deep
open Go.Lib (hid)
set_option maxRecDepth 100000 in
set_option maxHeartbeats 6400000 in
theorem eqf_it (v1 v2 : Value) (r s : List It) (w : World) (hv1 : DIs w v1 (.sl (itsDa r))) (hv2 : DIs w v2 (.sl (itsDa s))) (hl : r.length ≤ 1073741824) (hm : s.length ≤ 1073741824)
  (hf : ∀ x ∈ r, ∀ y ∈ s, ∀ (u : World) (a b : Value), Below w.heap.size w u → ItV u a x → ItV u b y → Calls Tryz.prog 28 #[a, b] u fun e u' => ∃ c, e = .returned (.bool c) ∧ (c = true ↔ x = y) ∧ Below u.heap.size u u') :
  Calls Tryz.prog 27 #[v1, v2, .func (.func 28) #[] #[]] w fun e w' => ∃ c, e = .returned (.bool c) ∧ (c = true ↔ r = s) ∧ Below w.heap.size w w' := by
 obtain ⟨a1, c1, rfl, hc1, hcell1⟩ := its_rows hv1
 obtain ⟨a2, c2, rfl, hc2, hcell2⟩ := its_rows hv2
 have HC1 := hid hcell1
 have HC2 := hid hcell2
 have HF := hid hf
 have hz := zero32
 generalize hn : r.length = n at *
 generalize ho : s.length = o at *
 have HN := hid hn
 have HO := hid ho
 clear hcell1 hcell2 hn ho hv1 hv2 hf
 go_enter Tryz.func27, Tryz.ntmps27
 by_cases hno : n = o
 ·subst hno
  go_wp2_with fail
  go_loopw [17] (fun i wr => ∃ k : Nat, k ≤ n ∧ i = .int .i64 k ∧ Below w.heap.size w wr ∧ Hid (r.take k = s.take k)) (fun i _ => n - (intOf i).toNat)
  case atStart => exact ⟨0, Nat.zero_le _, rfl, Below.refl _ _, hid rfl⟩
  case round =>
   obtain ⟨k, hk1, rfl, hbw, heq⟩ := hrel
   have hsz := hbw.size
   have HBW := hid hbw
   clear hbw
   by_cases hlt1 : k < n
   ·obtain ⟨b1, o1, rfl, hb1, hd1⟩ := HC1.out (by omega)
    obtain ⟨b2, o2, rfl, hb2, hd2⟩ := HC2.out (by omega)
    obtain ⟨x, hx⟩ : ∃ x, r[k]? = some x := ⟨_, List.getElem?_eq_getElem (by rw [HN.out]; exact hlt1)⟩
    obtain ⟨y, hy⟩ : ∃ y, s[k]? = some y := ⟨_, List.getElem?_eq_getElem (by rw [HO.out]; exact hlt1)⟩
    obtain ⟨s0, s1, p0, p1, p2, p3, p4, p5, p6, p7, p8, p9, h0, h1⟩ := hd1 k x hx
    obtain ⟨t0, t1, q0, q1, q2, q3, q4, q5, q6, q7, q8, q9, g0, g1⟩ := hd2 k y hy
    replace p0 := (HBW.out.cell (p := ⟨b1, o1 + k * 10, none⟩) hb1).trans p0
    replace q0 := (HBW.out.cell (p := ⟨b2, o2 + k * 10, none⟩) hb2).trans q0
    replace p1 := (HBW.out.cell (p := ⟨b1, o1 + k * 10 + 1, none⟩) hb1).trans p1
    replace q1 := (HBW.out.cell (p := ⟨b2, o2 + k * 10 + 1, none⟩) hb2).trans q1
    replace p2 := (HBW.out.cell (p := ⟨b1, o1 + k * 10 + 2, none⟩) hb1).trans p2
    replace q2 := (HBW.out.cell (p := ⟨b2, o2 + k * 10 + 2, none⟩) hb2).trans q2
    replace p3 := (HBW.out.cell (p := ⟨b1, o1 + k * 10 + 3, none⟩) hb1).trans p3
    replace q3 := (HBW.out.cell (p := ⟨b2, o2 + k * 10 + 3, none⟩) hb2).trans q3
    replace p4 := (HBW.out.cell (p := ⟨b1, o1 + k * 10 + 4, none⟩) hb1).trans p4
    replace q4 := (HBW.out.cell (p := ⟨b2, o2 + k * 10 + 4, none⟩) hb2).trans q4
    replace p5 := (HBW.out.cell (p := ⟨b1, o1 + k * 10 + 5, none⟩) hb1).trans p5
    replace q5 := (HBW.out.cell (p := ⟨b2, o2 + k * 10 + 5, none⟩) hb2).trans q5
    replace p6 := (HBW.out.cell (p := ⟨b1, o1 + k * 10 + 6, none⟩) hb1).trans p6
    replace q6 := (HBW.out.cell (p := ⟨b2, o2 + k * 10 + 6, none⟩) hb2).trans q6
    replace p7 := (HBW.out.cell (p := ⟨b1, o1 + k * 10 + 7, none⟩) hb1).trans p7
    replace q7 := (HBW.out.cell (p := ⟨b2, o2 + k * 10 + 7, none⟩) hb2).trans q7
    replace p8 := (HBW.out.cell (p := ⟨b1, o1 + k * 10 + 8, none⟩) hb1).trans p8
    replace q8 := (HBW.out.cell (p := ⟨b2, o2 + k * 10 + 8, none⟩) hb2).trans q8
    replace p9 := (HBW.out.cell (p := ⟨b1, o1 + k * 10 + 9, none⟩) hb1).trans p9
    replace q9 := (HBW.out.cell (p := ⟨b2, o2 + k * 10 + 9, none⟩) hb2).trans q9
    obtain ⟨e0, m0, n0, rfl⟩ := dis_slice h0
    obtain ⟨e10, m10, n10, rfl⟩ := dis_slice g0
    obtain ⟨e1, m1, n1, rfl⟩ := dis_slice h1
    obtain ⟨e11, m11, n11, rfl⟩ := dis_slice g1
    have HCMP := hid (fun (u : World) (hu : Below w.heap.size w u) => HF.out x (List.mem_of_getElem? hx) y (List.mem_of_getElem? hy) u _ _ hu ⟨_, _, rfl, (h0.keep hu), (h1.keep hu)⟩ ⟨_, _, rfl, (g0.keep hu), (g1.keep hu)⟩)
    have HX := hid hx
    have HY := hid hy
    have hb1r : b1 < wr.heap.size := by omega
    have hb2r : b2 < wr.heap.size := by omega
    clear hd1 hd2 hx hy h0 h1 g0 g1
    have HB2 := hid (fun (o1 o2 : Obj) => (HBW.out.alloc (by omega) o1).alloc (by simp; omega) o2)
    go_wp2_with (go_at_call 28; refine (HCMP.out _ (HB2.out _ _)).mono ?_; rintro e w' ⟨c, rfl, hc, hb⟩; have HB3 := hid hb; have HXY := hid hc; clear hb hc; cases c)
    ·go_ret
     exact ⟨false, rfl, by
      have h := HXY.out
      constructor
      ·intro h0; cases h0
      ·intro h0
       subst h0
       have e := HX.out.symm.trans HY.out
       injection e with e
       exact h.2 e, (HB2.out _ _).trans (HB3.out.mono (by simp; omega))⟩
    ·go_roundw
     case rel => exact ⟨k + 1, by omega, by go_num, (HB2.out _ _).trans (HB3.out.mono (by simp; omega)), hid (by rw [List.take_add_one, List.take_add_one, heq.out, HX.out, HY.out, HXY.out.1 trivial])⟩
     case measure => simp [intOf]; omega
   ·have hkn : k = n := by omega
    subst hkn
    have hcn : decide ((k : Int) < (k : Int)) = false := decide_eq_false (by omega)
    go_wp2_with fail
    go_ret
    exact ⟨true, rfl, by
     have e := heq.out
     rw [List.take_of_length_le (by rw [HN.out]; omega), List.take_of_length_le (by rw [HO.out]; omega)] at e
     exact ⟨fun _ => e, fun _ => rfl⟩, HBW.out⟩
 ·have hne : ((n : Int) != (o : Int)) = true := bne_iff_ne.2 (by omega)
  go_wp2_with fail
  go_ret
  exact ⟨false, rfl, by
   constructor
   ·intro h0; cases h0
   ·intro h0
    subst h0
    exact absurd (HN.out.symm.trans HO.out) hno, Below.refl _ _⟩
end Go.Proofs.YtegkbagnbnoopaaGreatDoor
/- slices.EqualFunc over trees -/
namespace Go.Proofs.YtegkbagnbnoopaaGreatDoor
open Go.ChangeShapes Go.WideShapes Go.ChangeAt Go.RowKit Go.Deep
open Go.Lib (hid)
set_option maxRecDepth 100000 in
set_option maxHeartbeats 6400000 in
theorem eqf_so (v1 v2 : Value) (r s : List So) (w : World) (hv1 : DIs w v1 (.sl (sosDa r))) (hv2 : DIs w v2 (.sl (sosDa s))) (hl : r.length ≤ 1073741824) (hm : s.length ≤ 1073741824)
  (hf : ∀ x ∈ r, ∀ y ∈ s, ∀ (u : World) (a b : Value), Below w.heap.size w u → SoV u a x → SoV u b y → Calls Tryz.prog 30 #[a, b] u fun e u' => ∃ c, e = .returned (.bool c) ∧ (c = true ↔ x = y) ∧ Below u.heap.size u u') :
  Calls Tryz.prog 29 #[v1, v2, .func (.func 30) #[] #[]] w fun e w' => ∃ c, e = .returned (.bool c) ∧ (c = true ↔ r = s) ∧ Below w.heap.size w w' := by
 obtain ⟨a1, c1, rfl, hc1, hcell1⟩ := sos_rows hv1
 obtain ⟨a2, c2, rfl, hc2, hcell2⟩ := sos_rows hv2
 have HC1 := hid hcell1
 have HC2 := hid hcell2
 have HF := hid hf
 have hz := zero32
 generalize hn : r.length = n at *
 generalize ho : s.length = o at *
 have HN := hid hn
 have HO := hid ho
 clear hcell1 hcell2 hn ho hv1 hv2 hf
 go_enter Tryz.func29, Tryz.ntmps29
 by_cases hno : n = o
 ·subst hno
  go_wp2_with fail
  go_loopw [17] (fun i wr => ∃ k : Nat, k ≤ n ∧ i = .int .i64 k ∧ Below w.heap.size w wr ∧ Hid (r.take k = s.take k)) (fun i _ => n - (intOf i).toNat)
  case atStart => exact ⟨0, Nat.zero_le _, rfl, Below.refl _ _, hid rfl⟩
  case round =>
   obtain ⟨k, hk1, rfl, hbw, heq⟩ := hrel
   have hsz := hbw.size
   have HBW := hid hbw
   clear hbw
   by_cases hlt1 : k < n
   ·obtain ⟨b1, o1, rfl, hb1, hd1⟩ := HC1.out (by omega)
    obtain ⟨b2, o2, rfl, hb2, hd2⟩ := HC2.out (by omega)
    obtain ⟨x, hx⟩ : ∃ x, r[k]? = some x := ⟨_, List.getElem?_eq_getElem (by rw [HN.out]; exact hlt1)⟩
    obtain ⟨y, hy⟩ : ∃ y, s[k]? = some y := ⟨_, List.getElem?_eq_getElem (by rw [HO.out]; exact hlt1)⟩
    obtain ⟨s0, s1, p0, p1, p2, p3, p4, h0, h1⟩ := hd1 k x hx
    obtain ⟨t0, t1, q0, q1, q2, q3, q4, g0, g1⟩ := hd2 k y hy
    replace p0 := (HBW.out.cell (p := ⟨b1, o1 + k * 5, none⟩) hb1).trans p0
    replace q0 := (HBW.out.cell (p := ⟨b2, o2 + k * 5, none⟩) hb2).trans q0
    replace p1 := (HBW.out.cell (p := ⟨b1, o1 + k * 5 + 1, none⟩) hb1).trans p1
    replace q1 := (HBW.out.cell (p := ⟨b2, o2 + k * 5 + 1, none⟩) hb2).trans q1
    replace p2 := (HBW.out.cell (p := ⟨b1, o1 + k * 5 + 2, none⟩) hb1).trans p2
    replace q2 := (HBW.out.cell (p := ⟨b2, o2 + k * 5 + 2, none⟩) hb2).trans q2
    replace p3 := (HBW.out.cell (p := ⟨b1, o1 + k * 5 + 3, none⟩) hb1).trans p3
    replace q3 := (HBW.out.cell (p := ⟨b2, o2 + k * 5 + 3, none⟩) hb2).trans q3
    replace p4 := (HBW.out.cell (p := ⟨b1, o1 + k * 5 + 4, none⟩) hb1).trans p4
    replace q4 := (HBW.out.cell (p := ⟨b2, o2 + k * 5 + 4, none⟩) hb2).trans q4
    obtain ⟨e0, m0, n0, rfl⟩ := dis_slice h0
    obtain ⟨e10, m10, n10, rfl⟩ := dis_slice g0
    obtain ⟨e1, m1, n1, rfl⟩ := dis_slice h1
    obtain ⟨e11, m11, n11, rfl⟩ := dis_slice g1
    have HCMP := hid (fun (u : World) (hu : Below w.heap.size w u) => HF.out x (List.mem_of_getElem? hx) y (List.mem_of_getElem? hy) u _ _ hu ⟨_, _, rfl, (h0.keep hu), (h1.keep hu)⟩ ⟨_, _, rfl, (g0.keep hu), (g1.keep hu)⟩)
    have HX := hid hx
    have HY := hid hy
    have hb1r : b1 < wr.heap.size := by omega
    have hb2r : b2 < wr.heap.size := by omega
    clear hd1 hd2 hx hy h0 h1 g0 g1
    have HB2 := hid (fun (o1 o2 : Obj) => (HBW.out.alloc (by omega) o1).alloc (by simp; omega) o2)
    go_wp2_with (go_at_call 30; refine (HCMP.out _ (HB2.out _ _)).mono ?_; rintro e w' ⟨c, rfl, hc, hb⟩; have HB3 := hid hb; have HXY := hid hc; clear hb hc; cases c)
    ·go_ret
     exact ⟨false, rfl, by
      have h := HXY.out
      constructor
      ·intro h0; cases h0
      ·intro h0
       subst h0
       have e := HX.out.symm.trans HY.out
       injection e with e
       exact h.2 e, (HB2.out _ _).trans (HB3.out.mono (by simp; omega))⟩
    ·go_roundw
     case rel => exact ⟨k + 1, by omega, by go_num, (HB2.out _ _).trans (HB3.out.mono (by simp; omega)), hid (by rw [List.take_add_one, List.take_add_one, heq.out, HX.out, HY.out, HXY.out.1 trivial])⟩
     case measure => simp [intOf]; omega
   ·have hkn : k = n := by omega
    subst hkn
    have hcn : decide ((k : Int) < (k : Int)) = false := decide_eq_false (by omega)
    go_wp2_with fail
    go_ret
    exact ⟨true, rfl, by
     have e := heq.out
     rw [List.take_of_length_le (by rw [HN.out]; omega), List.take_of_length_le (by rw [HO.out]; omega)] at e
     exact ⟨fun _ => e, fun _ => rfl⟩, HBW.out⟩
 ·have hne : ((n : Int) != (o : Int)) = true := bne_iff_ne.2 (by omega)
  go_wp2_with fail
  go_ret
  exact ⟨false, rfl, by
   constructor
   ·intro h0; cases h0
   ·intro h0
    subst h0
    exact absurd (HN.out.symm.trans HO.out) hno, Below.refl _ _⟩
end Go.Proofs.YtegkbagnbnoopaaGreatDoor
/- slices.EqualFunc over trees -/
namespace Go.Proofs.YtegkbagnbnoopaaGreatDoor
open Go.ChangeShapes Go.WideShapes Go.ChangeAt Go.RowKit Go.Deep
open Go.Lib (hid)
set_option maxRecDepth 100000 in
set_option maxHeartbeats 6400000 in
theorem eqf_ob (v1 v2 : Value) (r s : List Ob) (w : World) (hv1 : DIs w v1 (.sl (obsDa r))) (hv2 : DIs w v2 (.sl (obsDa s))) (hl : r.length ≤ 1073741824) (hm : s.length ≤ 1073741824)
  (hf : ∀ x ∈ r, ∀ y ∈ s, ∀ (u : World) (a b : Value), Below w.heap.size w u → ObV u a x → ObV u b y → Calls Tryz.prog 15 #[a, b] u fun e u' => ∃ c, e = .returned (.bool c) ∧ (c = true ↔ x = y) ∧ Below u.heap.size u u') :
  Calls Tryz.prog 14 #[v1, v2, .func (.func 15) #[] #[]] w fun e w' => ∃ c, e = .returned (.bool c) ∧ (c = true ↔ r = s) ∧ Below w.heap.size w w' := by
 obtain ⟨a1, c1, rfl, hc1, hcell1⟩ := obs_rows hv1
 obtain ⟨a2, c2, rfl, hc2, hcell2⟩ := obs_rows hv2
 have HC1 := hid hcell1
 have HC2 := hid hcell2
 have HF := hid hf
 have hz := zero32
 generalize hn : r.length = n at *
 generalize ho : s.length = o at *
 have HN := hid hn
 have HO := hid ho
 clear hcell1 hcell2 hn ho hv1 hv2 hf
 go_enter Tryz.func14, Tryz.ntmps14
 by_cases hno : n = o
 ·subst hno
  go_wp2_with fail
  go_loopw [17] (fun i wr => ∃ k : Nat, k ≤ n ∧ i = .int .i64 k ∧ Below w.heap.size w wr ∧ Hid (r.take k = s.take k)) (fun i _ => n - (intOf i).toNat)
  case atStart => exact ⟨0, Nat.zero_le _, rfl, Below.refl _ _, hid rfl⟩
  case round =>
   obtain ⟨k, hk1, rfl, hbw, heq⟩ := hrel
   have hsz := hbw.size
   have HBW := hid hbw
   clear hbw
   by_cases hlt1 : k < n
   ·obtain ⟨b1, o1, rfl, hb1, hd1⟩ := HC1.out (by omega)
    obtain ⟨b2, o2, rfl, hb2, hd2⟩ := HC2.out (by omega)
    obtain ⟨x, hx⟩ : ∃ x, r[k]? = some x := ⟨_, List.getElem?_eq_getElem (by rw [HN.out]; exact hlt1)⟩
    obtain ⟨y, hy⟩ : ∃ y, s[k]? = some y := ⟨_, List.getElem?_eq_getElem (by rw [HO.out]; exact hlt1)⟩
    obtain ⟨s0, s1, p0, p1, p2, p3, p4, p5, p6, p7, p8, h0, h1⟩ := hd1 k x hx
    obtain ⟨t0, t1, q0, q1, q2, q3, q4, q5, q6, q7, q8, g0, g1⟩ := hd2 k y hy
    replace p0 := (HBW.out.cell (p := ⟨b1, o1 + k * 9, none⟩) hb1).trans p0
    replace q0 := (HBW.out.cell (p := ⟨b2, o2 + k * 9, none⟩) hb2).trans q0
    replace p1 := (HBW.out.cell (p := ⟨b1, o1 + k * 9 + 1, none⟩) hb1).trans p1
    replace q1 := (HBW.out.cell (p := ⟨b2, o2 + k * 9 + 1, none⟩) hb2).trans q1
    replace p2 := (HBW.out.cell (p := ⟨b1, o1 + k * 9 + 2, none⟩) hb1).trans p2
    replace q2 := (HBW.out.cell (p := ⟨b2, o2 + k * 9 + 2, none⟩) hb2).trans q2
    replace p3 := (HBW.out.cell (p := ⟨b1, o1 + k * 9 + 3, none⟩) hb1).trans p3
    replace q3 := (HBW.out.cell (p := ⟨b2, o2 + k * 9 + 3, none⟩) hb2).trans q3
    replace p4 := (HBW.out.cell (p := ⟨b1, o1 + k * 9 + 4, none⟩) hb1).trans p4
    replace q4 := (HBW.out.cell (p := ⟨b2, o2 + k * 9 + 4, none⟩) hb2).trans q4
    replace p5 := (HBW.out.cell (p := ⟨b1, o1 + k * 9 + 5, none⟩) hb1).trans p5
    replace q5 := (HBW.out.cell (p := ⟨b2, o2 + k * 9 + 5, none⟩) hb2).trans q5
    replace p6 := (HBW.out.cell (p := ⟨b1, o1 + k * 9 + 6, none⟩) hb1).trans p6
    replace q6 := (HBW.out.cell (p := ⟨b2, o2 + k * 9 + 6, none⟩) hb2).trans q6
    replace p7 := (HBW.out.cell (p := ⟨b1, o1 + k * 9 + 7, none⟩) hb1).trans p7
    replace q7 := (HBW.out.cell (p := ⟨b2, o2 + k * 9 + 7, none⟩) hb2).trans q7
    replace p8 := (HBW.out.cell (p := ⟨b1, o1 + k * 9 + 8, none⟩) hb1).trans p8
    replace q8 := (HBW.out.cell (p := ⟨b2, o2 + k * 9 + 8, none⟩) hb2).trans q8
    obtain ⟨e0, m0, n0, rfl⟩ := dis_slice h0
    obtain ⟨e10, m10, n10, rfl⟩ := dis_slice g0
    obtain ⟨e1, m1, n1, rfl⟩ := dis_slice h1
    obtain ⟨e11, m11, n11, rfl⟩ := dis_slice g1
    have HCMP := hid (fun (u : World) (hu : Below w.heap.size w u) => HF.out x (List.mem_of_getElem? hx) y (List.mem_of_getElem? hy) u _ _ hu ⟨_, _, rfl, (h0.keep hu), (h1.keep hu)⟩ ⟨_, _, rfl, (g0.keep hu), (g1.keep hu)⟩)
    have HX := hid hx
    have HY := hid hy
    have hb1r : b1 < wr.heap.size := by omega
    have hb2r : b2 < wr.heap.size := by omega
    clear hd1 hd2 hx hy h0 h1 g0 g1
    have HB2 := hid (fun (o1 o2 : Obj) => (HBW.out.alloc (by omega) o1).alloc (by simp; omega) o2)
    go_wp2_with (go_at_call 15; refine (HCMP.out _ (HB2.out _ _)).mono ?_; rintro e w' ⟨c, rfl, hc, hb⟩; have HB3 := hid hb; have HXY := hid hc; clear hb hc; cases c)
    ·go_ret
     exact ⟨false, rfl, by
      have h := HXY.out
      constructor
      ·intro h0; cases h0
      ·intro h0
       subst h0
       have e := HX.out.symm.trans HY.out
       injection e with e
       exact h.2 e, (HB2.out _ _).trans (HB3.out.mono (by simp; omega))⟩
    ·go_roundw
     case rel => exact ⟨k + 1, by omega, by go_num, (HB2.out _ _).trans (HB3.out.mono (by simp; omega)), hid (by rw [List.take_add_one, List.take_add_one, heq.out, HX.out, HY.out, HXY.out.1 trivial])⟩
     case measure => simp [intOf]; omega
   ·have hkn : k = n := by omega
    subst hkn
    have hcn : decide ((k : Int) < (k : Int)) = false := decide_eq_false (by omega)
    go_wp2_with fail
    go_ret
    exact ⟨true, rfl, by
     have e := heq.out
     rw [List.take_of_length_le (by rw [HN.out]; omega), List.take_of_length_le (by rw [HO.out]; omega)] at e
     exact ⟨fun _ => e, fun _ => rfl⟩, HBW.out⟩
 ·have hne : ((n : Int) != (o : Int)) = true := bne_iff_ne.2 (by omega)
  go_wp2_with fail
  go_ret
  exact ⟨false, rfl, by
   constructor
   ·intro h0; cases h0
   ·intro h0
    subst h0
    exact absurd (HN.out.symm.trans HO.out) hno, Below.refl _ _⟩
end Go.Proofs.YtegkbagnbnoopaaGreatDoor
/- print.Same, whole -/
namespace Go.Proofs.YtegkbagnbnoopaaGreatDoor
open Go.ChangeShapes Go.WideShapes Go.ChangeAt Go.RowKit Go.Deep
open Go.Lib (hid)
theorem size_dB (b : Bool) : Da.size (dB b) = 1 := rfl
theorem ex_args_lt (x : Ex) : Da.sizeK (exsDa x.args) < Da.sizeR x.da := by
 obtain ⟨_, _, _, _, _, _⟩ := x
 simp only [Ex.da, Ex.args, sizeR_cons, size_sl, sizeR_nil]
 omega
theorem ex_qs_lt (x : Ex) : Da.sizeK (qusDa x.qs) < Da.sizeR x.da := by
 obtain ⟨_, _, _, _, _, _⟩ := x
 simp only [Ex.da, Ex.qs, sizeR_cons, size_sl, sizeR_nil]
 omega
theorem qu_parts_lt (x : Qu) : Da.sizeK (qusDa x.parts) < Da.sizeR x.da := by
 obtain ⟨_, _, ⟨_, _, _, _, _, _⟩, _, _, _⟩ := x
 simp only [Qu.da, Se.da, Qu.parts, List.cons_append, List.nil_append, sizeR_cons, size_sl, sizeR_nil]
 omega
theorem qu_sel_items_lt (x : Qu) : Da.sizeK (itsDa x.sel.items) < Da.sizeR x.da := by
 obtain ⟨_, _, ⟨_, _, _, _, _, _⟩, _, _, _⟩ := x
 simp only [Qu.da, Se.da, Qu.sel, Se.items, List.cons_append, List.nil_append, sizeR_cons, size_sl, sizeR_nil]
 omega
theorem qu_sel_fro_lt (x : Qu) : Da.sizeK (sosDa x.sel.fro) < Da.sizeR x.da := by
 obtain ⟨_, _, ⟨_, _, _, _, _, _⟩, _, _, _⟩ := x
 simp only [Qu.da, Se.da, Qu.sel, Se.fro, List.cons_append, List.nil_append, sizeR_cons, size_sl, sizeR_nil]
 omega
theorem qu_sel_wh_lt (x : Qu) : Da.sizeK (exsDa x.sel.wh) < Da.sizeR x.da := by
 obtain ⟨_, _, ⟨_, _, _, _, _, _⟩, _, _, _⟩ := x
 simp only [Qu.da, Se.da, Qu.sel, Se.wh, List.cons_append, List.nil_append, sizeR_cons, size_sl, sizeR_nil]
 omega
theorem qu_sel_gr_lt (x : Qu) : Da.sizeK (exsDa x.sel.gr) < Da.sizeR x.da := by
 obtain ⟨_, _, ⟨_, _, _, _, _, _⟩, _, _, _⟩ := x
 simp only [Qu.da, Se.da, Qu.sel, Se.gr, List.cons_append, List.nil_append, sizeR_cons, size_sl, sizeR_nil]
 omega
theorem qu_sel_hv_lt (x : Qu) : Da.sizeK (exsDa x.sel.hv) < Da.sizeR x.da := by
 obtain ⟨_, _, ⟨_, _, _, _, _, _⟩, _, _, _⟩ := x
 simp only [Qu.da, Se.da, Qu.sel, Se.hv, List.cons_append, List.nil_append, sizeR_cons, size_sl, sizeR_nil]
 omega
theorem qu_ord_lt (x : Qu) : Da.sizeK (obsDa x.ord) < Da.sizeR x.da := by
 obtain ⟨_, _, ⟨_, _, _, _, _, _⟩, _, _, _⟩ := x
 simp only [Qu.da, Se.da, Qu.ord, List.cons_append, List.nil_append, sizeR_cons, size_sl, sizeR_nil]
 omega
theorem so_q_lt (x : So) : Da.sizeK (qusDa x.q) < Da.sizeR x.da := by
 obtain ⟨_, _, _, _, _⟩ := x
 simp only [So.da, So.q, sizeR_cons, size_sl, sizeR_nil]
 omega
theorem so_on_lt (x : So) : Da.sizeK (exsDa x.on) < Da.sizeR x.da := by
 obtain ⟨_, _, _, _, _⟩ := x
 simp only [So.da, So.on, sizeR_cons, size_sl, sizeR_nil]
 omega
theorem it_x_lt (x : It) : Da.sizeR x.x.da < Da.sizeR x.da := by
 obtain ⟨_, _, _⟩ := x
 simp only [It.da, It.x, sizeR_cons, sizeR_app, sizeR_nil, size_dB]
 omega
theorem ob_x_lt (x : Ob) : Da.sizeR x.x.da < Da.sizeR x.da := by
 obtain ⟨_, _⟩ := x
 simp only [Ob.da, Ob.x, sizeR_cons, sizeR_app, sizeR_nil, size_dB]
 omega
theorem ex_args_ok {x : Ex} (h : x.OK) : exsOK x.args := by
 obtain ⟨_, _, _, _, _, _⟩ := x
 exact h.2.2.2.2.1
theorem ex_qs_ok {x : Ex} (h : x.OK) : qusOK x.qs := by
 obtain ⟨_, _, _, _, _, _⟩ := x
 exact h.2.2.2.2.2
theorem qu_parts_ok {x : Qu} (h : x.OK) : qusOK x.parts := by
 obtain ⟨_, _, _, _, _, _⟩ := x
 exact h.2.1
theorem qu_sel_ok {x : Qu} (h : x.OK) : x.sel.OK := by
 obtain ⟨_, _, _, _, _, _⟩ := x
 exact h.2.2.1
theorem qu_ord_ok {x : Qu} (h : x.OK) : obsOK x.ord := by
 obtain ⟨_, _, _, _, _, _⟩ := x
 exact h.2.2.2.1
theorem so_q_ok {x : So} (h : x.OK) : qusOK x.q := by
 obtain ⟨_, _, _, _, _⟩ := x
 exact h.2.2.1
theorem so_on_ok {x : So} (h : x.OK) : exsOK x.on := by
 obtain ⟨_, _, _, _, _⟩ := x
 exact h.2.2.2.2
theorem it_x_ok {x : It} (h : x.OK) : x.x.OK := by
 obtain ⟨_, _, _⟩ := x
 exact h.1
theorem ob_x_ok {x : Ob} (h : x.OK) : x.x.OK := by
 obtain ⟨_, _⟩ := x
 exact h
theorem se_items_ok {x : Se} (h : x.OK) : itsOK x.items := by
 obtain ⟨_, _, _, _, _, _⟩ := x
 exact h.1
theorem se_fro_ok {x : Se} (h : x.OK) : sosOK x.fro := by
 obtain ⟨_, _, _, _, _, _⟩ := x
 exact h.2.1
theorem se_wh_ok {x : Se} (h : x.OK) : exsOK x.wh := by
 obtain ⟨_, _, _, _, _, _⟩ := x
 exact h.2.2.1
theorem se_gr_ok {x : Se} (h : x.OK) : exsOK x.gr := by
 obtain ⟨_, _, _, _, _, _⟩ := x
 exact h.2.2.2.1
theorem se_hv_ok {x : Se} (h : x.OK) : exsOK x.hv := by
 obtain ⟨_, _, _, _, _, _⟩ := x
 exact h.2.2.2.2
theorem exs_same {n : Nat} (IH : ∀ (x y : Ex) (w : World) (va vb : Value), Da.sizeR x.da < n → Da.sizeR x.da ≤ 1073741824 → Da.sizeR y.da ≤ 1073741824 → x.OK → y.OK → ExV w va x → ExV w vb y → Calls Tryz.prog 32 #[va, vb] w (EQ w (x = y))) (r s : List Ex) (w : World) (va vb : Value) (hn : Da.sizeK (exsDa r) < n) (hr : Da.sizeK (exsDa r) ≤ 1073741824) (hs : Da.sizeK (exsDa s) ≤ 1073741824) (okr : exsOK r) (oks : exsOK s) (h1 : DIs w va (.sl (exsDa r))) (h2 : DIs w vb (.sl (exsDa s))) :
  Calls Tryz.prog 64 #[va, vb, .func (.func 32) #[] #[]] w (EQ w (r = s)) := by
 refine eqf_ex va vb r s w h1 h2 (exs_len hr) (exs_len hs) (fun x hx y hy u a b _ ha hb => ?_)
 have k1 := exs_mem hx
 have k2 := exs_mem hy
 exact IH x y u a b (by omega) (by omega) (by omega) (exsOK_mem okr x hx) (exsOK_mem oks y hy) ha hb
theorem qus_same {n : Nat} (IH : ∀ (x y : Qu) (w : World) (va vb : Value), Da.sizeR x.da < n → Da.sizeR x.da ≤ 1073741824 → Da.sizeR y.da ≤ 1073741824 → x.OK → y.OK → QuV w va x → QuV w vb y → Calls Tryz.prog 6 #[va, vb] w (EQ w (x = y))) (r s : List Qu) (w : World) (va vb : Value) (hn : Da.sizeK (qusDa r) < n) (hr : Da.sizeK (qusDa r) ≤ 1073741824) (hs : Da.sizeK (qusDa s) ≤ 1073741824) (okr : qusOK r) (oks : qusOK s) (h1 : DIs w va (.sl (qusDa r))) (h2 : DIs w vb (.sl (qusDa s))) :
  Calls Tryz.prog 12 #[va, vb, .func (.func 6) #[] #[]] w (EQ w (r = s)) := by
 refine eqf_qu va vb r s w h1 h2 (qus_len hr) (qus_len hs) (fun x hx y hy u a b _ ha hb => ?_)
 have k1 := qus_mem hx
 have k2 := qus_mem hy
 exact IH x y u a b (by omega) (by omega) (by omega) (qusOK_mem okr x hx) (qusOK_mem oks y hy) ha hb
theorem its_same {n : Nat} (IH : ∀ (x y : It) (w : World) (va vb : Value), Da.sizeR x.da < n → Da.sizeR x.da ≤ 1073741824 → Da.sizeR y.da ≤ 1073741824 → x.OK → y.OK → ItV w va x → ItV w vb y → Calls Tryz.prog 28 #[va, vb] w (EQ w (x = y))) (r s : List It) (w : World) (va vb : Value) (hn : Da.sizeK (itsDa r) < n) (hr : Da.sizeK (itsDa r) ≤ 1073741824) (hs : Da.sizeK (itsDa s) ≤ 1073741824) (okr : itsOK r) (oks : itsOK s) (h1 : DIs w va (.sl (itsDa r))) (h2 : DIs w vb (.sl (itsDa s))) :
  Calls Tryz.prog 27 #[va, vb, .func (.func 28) #[] #[]] w (EQ w (r = s)) := by
 refine eqf_it va vb r s w h1 h2 (its_len hr) (its_len hs) (fun x hx y hy u a b _ ha hb => ?_)
 have k1 := its_mem hx
 have k2 := its_mem hy
 exact IH x y u a b (by omega) (by omega) (by omega) (itsOK_mem okr x hx) (itsOK_mem oks y hy) ha hb
theorem sos_same {n : Nat} (IH : ∀ (x y : So) (w : World) (va vb : Value), Da.sizeR x.da < n → Da.sizeR x.da ≤ 1073741824 → Da.sizeR y.da ≤ 1073741824 → x.OK → y.OK → SoV w va x → SoV w vb y → Calls Tryz.prog 30 #[va, vb] w (EQ w (x = y))) (r s : List So) (w : World) (va vb : Value) (hn : Da.sizeK (sosDa r) < n) (hr : Da.sizeK (sosDa r) ≤ 1073741824) (hs : Da.sizeK (sosDa s) ≤ 1073741824) (okr : sosOK r) (oks : sosOK s) (h1 : DIs w va (.sl (sosDa r))) (h2 : DIs w vb (.sl (sosDa s))) :
  Calls Tryz.prog 29 #[va, vb, .func (.func 30) #[] #[]] w (EQ w (r = s)) := by
 refine eqf_so va vb r s w h1 h2 (sos_len hr) (sos_len hs) (fun x hx y hy u a b _ ha hb => ?_)
 have k1 := sos_mem hx
 have k2 := sos_mem hy
 exact IH x y u a b (by omega) (by omega) (by omega) (sosOK_mem okr x hx) (sosOK_mem oks y hy) ha hb
theorem obs_same {n : Nat} (IH : ∀ (x y : Ob) (w : World) (va vb : Value), Da.sizeR x.da < n → Da.sizeR x.da ≤ 1073741824 → Da.sizeR y.da ≤ 1073741824 → x.OK → y.OK → ObV w va x → ObV w vb y → Calls Tryz.prog 15 #[va, vb] w (EQ w (x = y))) (r s : List Ob) (w : World) (va vb : Value) (hn : Da.sizeK (obsDa r) < n) (hr : Da.sizeK (obsDa r) ≤ 1073741824) (hs : Da.sizeK (obsDa s) ≤ 1073741824) (okr : obsOK r) (oks : obsOK s) (h1 : DIs w va (.sl (obsDa r))) (h2 : DIs w vb (.sl (obsDa s))) :
  Calls Tryz.prog 14 #[va, vb, .func (.func 15) #[] #[]] w (EQ w (r = s)) := by
 refine eqf_ob va vb r s w h1 h2 (obs_len hr) (obs_len hs) (fun x hx y hy u a b _ ha hb => ?_)
 have k1 := obs_mem hx
 have k2 := obs_mem hy
 exact IH x y u a b (by omega) (by omega) (by omega) (obsOK_mem okr x hx) (obsOK_mem oks y hy) ha hb
theorem exprs_same {n : Nat} (IH : ∀ (x y : Ex) (w : World) (va vb : Value), Da.sizeR x.da < n → Da.sizeR x.da ≤ 1073741824 → Da.sizeR y.da ≤ 1073741824 → x.OK → y.OK → ExV w va x → ExV w vb y → Calls Tryz.prog 32 #[va, vb] w (EQ w (x = y))) (r s : List Ex) (w : World) (va vb : Value) (hn : Da.sizeK (exsDa r) < n) (hr : Da.sizeK (exsDa r) ≤ 1073741824) (hs : Da.sizeK (exsDa s) ≤ 1073741824) (okr : exsOK r) (oks : exsOK s) (h1 : DIs w va (.sl (exsDa r))) (h2 : DIs w vb (.sl (exsDa s))) :
  Calls Tryz.prog 31 #[va, vb] w (EQ w (r = s)) := by
 have HC := hid (exs_same IH r s w va vb hn hr hs okr oks h1 h2)
 obtain ⟨a1, n1, c1, rfl⟩ := dis_slice h1
 obtain ⟨a2, n2, c2, rfl⟩ := dis_slice h2
 clear h1 h2 hn hr hs okr oks IH
 go_enter Tryz.func31, Tryz.ntmps31
 go_wp2_with (go_at_call 64; refine HC.out.mono ?_; rintro e w1 ⟨c, rfl, hc, hb⟩; have HB := hid hb; have HE := hid hc; clear hb hc)
 go_ret
 exact ⟨c, rfl, HE.out, HB.out⟩
theorem same_all : ∀ n : Nat, (∀ (x y : Ex) (w : World) (va vb : Value), Da.sizeR x.da < n → Da.sizeR x.da ≤ 1073741824 → Da.sizeR y.da ≤ 1073741824 → x.OK → y.OK → ExV w va x → ExV w vb y → Calls Tryz.prog 32 #[va, vb] w (EQ w (x = y))) ∧ (∀ (x y : Qu) (w : World) (va vb : Value), Da.sizeR x.da < n → Da.sizeR x.da ≤ 1073741824 → Da.sizeR y.da ≤ 1073741824 → x.OK → y.OK → QuV w va x → QuV w vb y → Calls Tryz.prog 6 #[va, vb] w (EQ w (x = y))) ∧ (∀ (x y : It) (w : World) (va vb : Value), Da.sizeR x.da < n → Da.sizeR x.da ≤ 1073741824 → Da.sizeR y.da ≤ 1073741824 → x.OK → y.OK → ItV w va x → ItV w vb y → Calls Tryz.prog 28 #[va, vb] w (EQ w (x = y))) ∧ (∀ (x y : So) (w : World) (va vb : Value), Da.sizeR x.da < n → Da.sizeR x.da ≤ 1073741824 → Da.sizeR y.da ≤ 1073741824 → x.OK → y.OK → SoV w va x → SoV w vb y → Calls Tryz.prog 30 #[va, vb] w (EQ w (x = y))) ∧ (∀ (x y : Ob) (w : World) (va vb : Value), Da.sizeR x.da < n → Da.sizeR x.da ≤ 1073741824 → Da.sizeR y.da ≤ 1073741824 → x.OK → y.OK → ObV w va x → ObV w vb y → Calls Tryz.prog 15 #[va, vb] w (EQ w (x = y))) := by
 intro n
 induction n with
 | zero => exact ⟨fun x y w va vb h => absurd h (Nat.not_lt_zero _), fun x y w va vb h => absurd h (Nat.not_lt_zero _), fun x y w va vb h => absurd h (Nat.not_lt_zero _), fun x y w va vb h => absurd h (Nat.not_lt_zero _), fun x y w va vb h => absurd h (Nat.not_lt_zero _)⟩
 | succ n ih =>
  obtain ⟨iE, iQ, iI, iS, iO⟩ := ih
  refine ⟨fun x y w va vb hn hx hy ox oy h1 h2 => ?_, fun x y w va vb hn hx hy ox oy h1 h2 => ?_, fun x y w va vb hn hx hy ox oy h1 h2 => ?_, fun x y w va vb hn hx hy ox oy h1 h2 => ?_, fun x y w va vb hn hx hy ox oy h1 h2 => ?_⟩
  ·exact sameExpr_step x y w va vb h1 h2 ox oy (fun u a b _ ha hb => exprs_same iE _ _ u a b (by have := (ex_args_lt x); omega) (by have := (ex_args_lt x); omega) (by have := (ex_args_lt y); omega) (ex_args_ok ox) (ex_args_ok oy) ha hb)
    (fun u a b _ ha hb => qus_same iQ _ _ u a b (by have := (ex_qs_lt x); omega) (by have := (ex_qs_lt x); omega) (by have := (ex_qs_lt y); omega) (ex_qs_ok ox) (ex_qs_ok oy) ha hb)
  ·exact Same_step x y w va vb h1 h2 ox oy (fun u a b _ ha hb => qus_same iQ _ _ u a b (by have := (qu_parts_lt x); omega) (by have := (qu_parts_lt x); omega) (by have := (qu_parts_lt y); omega) (qu_parts_ok ox) (qu_parts_ok oy) ha hb)
    (fun u a b _ ha hb => sameSelect_step x.sel y.sel u a b ha hb (qu_sel_ok ox) (qu_sel_ok oy) (fun u a b _ ha hb => its_same iI _ _ u a b (by have := (qu_sel_items_lt x); omega) (by have := (qu_sel_items_lt x); omega) (by have := (qu_sel_items_lt y); omega) (se_items_ok (qu_sel_ok ox)) (se_items_ok (qu_sel_ok oy)) ha hb) (fun u a b _ ha hb => sos_same iS _ _ u a b (by have := (qu_sel_fro_lt x); omega) (by have := (qu_sel_fro_lt x); omega) (by have := (qu_sel_fro_lt y); omega) (se_fro_ok (qu_sel_ok ox)) (se_fro_ok (qu_sel_ok oy)) ha hb) (fun u a b _ ha hb => exprs_same iE _ _ u a b (by have := (qu_sel_wh_lt x); omega) (by have := (qu_sel_wh_lt x); omega) (by have := (qu_sel_wh_lt y); omega) (se_wh_ok (qu_sel_ok ox)) (se_wh_ok (qu_sel_ok oy)) ha hb) (fun u a b _ ha hb => exprs_same iE _ _ u a b (by have := (qu_sel_gr_lt x); omega) (by have := (qu_sel_gr_lt x); omega) (by have := (qu_sel_gr_lt y); omega) (se_gr_ok (qu_sel_ok ox)) (se_gr_ok (qu_sel_ok oy)) ha hb) (fun u a b _ ha hb => exprs_same iE _ _ u a b (by have := (qu_sel_hv_lt x); omega) (by have := (qu_sel_hv_lt x); omega) (by have := (qu_sel_hv_lt y); omega) (se_hv_ok (qu_sel_ok ox)) (se_hv_ok (qu_sel_ok oy)) ha hb))
    (fun u a b _ ha hb => obs_same iO _ _ u a b (by have := (qu_ord_lt x); omega) (by have := (qu_ord_lt x); omega) (by have := (qu_ord_lt y); omega) (qu_ord_ok ox) (qu_ord_ok oy) ha hb)
  ·exact sameItem_step x y w va vb h1 h2 ox oy (fun u a b _ ha hb => iE x.x y.x u a b (by have := it_x_lt x; omega) (by have := it_x_lt x; omega) (by have := it_x_lt y; omega) (it_x_ok ox) (it_x_ok oy) ha hb)
  ·exact sameSource_step x y w va vb h1 h2 ox oy (fun u a b _ ha hb => qus_same iQ _ _ u a b (by have := (so_q_lt x); omega) (by have := (so_q_lt x); omega) (by have := (so_q_lt y); omega) (so_q_ok ox) (so_q_ok oy) ha hb)
    (fun u a b _ ha hb => exprs_same iE _ _ u a b (by have := (so_on_lt x); omega) (by have := (so_on_lt x); omega) (by have := (so_on_lt y); omega) (so_on_ok ox) (so_on_ok oy) ha hb)
  ·exact sameOrder_step x y w va vb h1 h2 ox oy (fun u a b _ ha hb => iE x.x y.x u a b (by have := ob_x_lt x; omega) (by have := ob_x_lt x; omega) (by have := ob_x_lt y; omega) (ob_x_ok ox) (ob_x_ok oy) ha hb)
/-- Same: whether two queries are the same tree -/
theorem same_any (x y : Qu) (w : World) (va vb : Value) (hx : Da.sizeR x.da ≤ 1073741824) (hy : Da.sizeR y.da ≤ 1073741824) (ox : x.OK) (oy : y.OK) (h1 : QuV w va x) (h2 : QuV w vb y) : Calls Tryz.prog 6 #[va, vb] w (EQ w (x = y)) :=
 (same_all _).2.1 x y w va vb (Nat.lt_succ_self _) hx hy ox oy h1 h2
end Go.Proofs.YtegkbagnbnoopaaGreatDoor
/- the reference's Copy, whole -/
namespace Go.Proofs.YtegkbagnbnoopaaGreatDoor
open Go.ChangeShapes Go.WideShapes Go.ChangeAt Go.RowKit Go.Deep
open Go.Lib (hid)
theorem ex_one (y : Ex) : Da.sizeK (exsDa [y]) = Da.sizeR y.da := rfl
theorem copy_all : ∀ n : Nat, (∀ l : List Ex, Da.sizeK (exsDa l) < n → Da.sizeK (exsDa l) ≤ 1073741823 → ∀ (w : World) (v : Value), DIs w v (.sl (exsDa l)) → Calls Tryz.prog 20 #[v] w (CP w (exsDa l))) ∧ (∀ l : List Qu, Da.sizeK (qusDa l) < n → Da.sizeK (qusDa l) ≤ 1073741823 → ∀ (w : World) (v : Value), DIs w v (.sl (qusDa l)) → Calls Tryz.prog 19 #[v] w (CP w (qusDa l))) ∧ (∀ x : Qu, Da.sizeR x.da < n → Da.sizeR x.da ≤ 1073741823 → ∀ (w : World) (a : Value), QuV w a x → Calls Tryz.prog 8 #[a] w (CQ w x)) := by
 intro n
 induction n with
 | zero => exact ⟨fun l h => absurd h (Nat.not_lt_zero _), fun l h => absurd h (Nat.not_lt_zero _), fun x h => absurd h (Nat.not_lt_zero _)⟩
 | succ n ih =>
  obtain ⟨iE, iQ, -⟩ := ih
  have hC : ∀ x : Qu, Da.sizeR x.da < n + 1 → Da.sizeR x.da ≤ 1073741823 → ∀ (w : World) (a : Value), QuV w a x → Calls Tryz.prog 8 #[a] w (CQ w x) := by
   intro x hn hz w a ha
   have a0 := qu_parts_lt x
   have a1 := qu_sel_items_lt x
   have a2 := qu_sel_fro_lt x
   have a3 := qu_sel_wh_lt x
   have a4 := qu_sel_gr_lt x
   have a5 := qu_sel_hv_lt x
   have a6 := qu_ord_lt x
   have m1 := its_len (Nat.le_of_lt a1)
   have m2 := sos_len (Nat.le_of_lt a2)
   have m6 := obs_len (Nat.le_of_lt a6)
   refine rcopy_step x w a ha (by omega) (by omega) (by omega) (fun l hl u b hb => ?_) (fun l hl u b hb => ?_)
   ·have hs : Da.sizeK (exsDa l) < Da.sizeR x.da := by
     rcases hl with rfl | rfl | rfl | ⟨y, hy, rfl⟩ | ⟨y, hy, rfl⟩ | ⟨y, hy, rfl⟩
     ·exact a3
     ·exact a4
     ·exact a5
     ·have := its_mem hy; have := it_x_lt y; rw [ex_one]; omega
     ·have := sos_mem hy; have := so_on_lt y; omega
     ·have := obs_mem hy; have := ob_x_lt y; rw [ex_one]; omega
    exact iE l (by omega) (by omega) u b hb
   ·have hs : Da.sizeK (qusDa l) < Da.sizeR x.da := by
     rcases hl with rfl | ⟨y, hy, rfl⟩
     ·exact a0
     ·have := sos_mem hy; have := so_q_lt y; omega
    exact iQ l (by omega) (by omega) u b hb
  refine ⟨fun l hn hz w v hv => ?_, fun l hn hz w v hv => ?_, hC⟩
  ·have m := exs_len (Nat.le_refl (Da.sizeK (exsDa l)))
   exact rcopyExprs_step v l w hv (by omega) (fun x hx u a _ ha => by have := exs_mem hx; have := ex_args_lt x; exact iE _ (by omega) (by omega) u a ha) (fun x hx u a _ ha => by have := exs_mem hx; have := ex_qs_lt x; exact iQ _ (by omega) (by omega) u a ha)
  ·have m := qus_len (Nat.le_refl (Da.sizeK (qusDa l)))
   exact rcopyQueries_step v l w hv (by omega) (fun x hx u a _ ha => by have := qus_mem hx; exact hC x (by omega) (by omega) u a ha)
/-- a copy: the same query, what there was is left -/
theorem rcopy_any (x : Qu) (hz : Da.sizeR x.da ≤ 1073741823) (w : World) (a : Value) (ha : QuV w a x) : Calls Tryz.prog 8 #[a] w fun e w' => ∃ v, e = .returned v ∧ QuV w' v x ∧ Below w.heap.size w w' := by
 refine ((copy_all (Da.sizeR x.da + 1)).2.2 x (by omega) hz w a ha).mono ?_
 rintro e w' ⟨v, rfl, ⟨p0, p1, p2, p3, p4, p5, p6, rfl, d0, d1, d2, d3, d4, d5, d6⟩, hb⟩
 exact ⟨_, rfl, ⟨_, _, _, _, _, _, _, rfl, d0.dis, d1.dis, d2.dis, d3.dis, d4.dis, d5.dis, d6.dis⟩, hb⟩
end Go.Proofs.YtegkbagnbnoopaaGreatDoor
