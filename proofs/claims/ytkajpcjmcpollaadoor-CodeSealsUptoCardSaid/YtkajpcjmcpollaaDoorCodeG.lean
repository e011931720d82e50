import Derived.Test.YtkajpcjmcpollaaDoorCodeF
import Derived.Test.YtkajpcjmcpollaaDoorCodeA
import Derived.Laws.Strings
import Derived.WalkKit
import Derived.ProofKit
import Derived.BigQuiet
import Derived.Deep.QuietTactic
import Derived.WalkSpells
import Derived.WalkLawsBesides
import Derived.Lib.Hide
import Derived.Deep.MidRow
import Derived.Deep.RegionLaw
import Derived.BigRegion
import Derived.Lib.SlBytesConst
import Derived.Laws.AppendOwnNone
import Derived.Deep.DeepMust
import Derived.Deep.AppendLies
import Derived.RegionTactic
import Derived.Deep.WholeRow
import Derived.BigFrame
import Derived.Deep.RegionWith
import Derived.Deep.RegionHeld3
import Derived.Maps.RangeWalk
import Derived.Laws.CopyOwn
import Derived.StillTailTactics
namespace Go.Proofs.YtkajpcjmcpollaaDoor
open Go.RowKit
theorem index_str (w : World) (s : List Int) (k : Nat) (hr : Rng s) (hk : k < s.length) : (Instr.index 9 (.string (str s)) (.int .i64 k)).run Tryd.prog w = .ok (.int .u8 (s[k]?.getD 0)) w := by
  have h := run_index_string (P := Tryd.prog) (w := w) 9 (str s) .i64 (k : Int) Tryd.underlying9
  have h1 := str_get s k hr hk
  have h2 := str_len s
  rw [h, dif_pos (by omega), ← h1]
  have h3 : (str s).data.toList.getD k 0 = (str s)[k]'(by omega) := by
    have h4 : k < (str s).data.toList.length := by
      have : (str s).data.toList.length = (str s).size := by rw [Array.length_toList]; rfl
      omega
    rw [List.getD, List.getElem?_eq_getElem h4]
    rfl
  rw [h3]
  rfl
theorem isValue_any (v : Val) (w : World) (ho : v.OK) (hs : v.s.length ≤ 1099511627776) :
    Calls Tryd.prog 25 #[vagg v] w fun e w' => e = .returned (.bool (vld v)) ∧ Below w.heap.size w w' := by
  obtain ⟨k, n, s⟩ := v
  obtain ⟨o1, o2, o3, o4, o5⟩ := ho
  simp only [vagg] at *
  have hl := str_len s
  have HE := Lib.hid (show ((s.length : Int) == 0) = decide (s = []) by
    rw [Bool.eq_iff_iff, beq_iff_eq, decide_eq_true_eq, ← List.length_eq_zero_iff]; omega)
  generalize hS : str s = S at *
  clear hS
  by_cases k0 : k = 0
  · subst k0
    go_enter Tryd.func25, Tryd.ntmps25
    go_wp2
    all_goals go_ret
    all_goals refine ⟨ret_bool ?_, (Below.refl _ _).alloc (Nat.le_refl _) _⟩
    all_goals (first | rw [HE.out] | skip)
    all_goals simp [vld, *]
  by_cases k1 : k = 1
  · subst k1
    go_enter Tryd.func25, Tryd.ntmps25
    go_wp2
    all_goals go_ret
    all_goals refine ⟨ret_bool ?_, (Below.refl _ _).alloc (Nat.le_refl _) _⟩
    all_goals (first | rw [HE.out] | skip)
    all_goals simp [vld, *]
  by_cases k2 : k = 2
  · subst k2
    go_enter Tryd.func25, Tryd.ntmps25
    go_wp2
    all_goals go_ret
    all_goals refine ⟨ret_bool ?_, (Below.refl _ _).alloc (Nat.le_refl _) _⟩
    all_goals (first | rw [HE.out] | skip)
    all_goals simp [vld, *]
    all_goals omega
  by_cases k3 : k = 3
  · subst k3
    go_enter Tryd.func25, Tryd.ntmps25
    go_wp2
    all_goals go_ret
    all_goals refine ⟨ret_bool ?_, (Below.refl _ _).alloc (Nat.le_refl _) _⟩
    all_goals (first | rw [HE.out] | skip)
    all_goals simp [vld, *]
  · go_enter Tryd.func25, Tryd.ntmps25
    go_wp2
    all_goals go_ret
    all_goals refine ⟨ret_bool ?_, (Below.refl _ _).alloc (Nat.le_refl _) _⟩
    all_goals (first | rw [HE.out] | skip)
    all_goals simp [vld, *]
theorem dg8_at (k j : Nat) (h : j < 8) : (dg 8 k).take (j + 1) = (dg 8 k).take j ++ [(k : Int) / 2 ^ (8 * (7 - j)) % 256] := by
  rw [dg8_succ k j h, show 56 - 8 * j = 8 * (7 - j) by omega]
set_option maxHeartbeats 400000 in
theorem number3_any (k : Nat) (w : World) (hk : k < 18446744073709551616) :
    Calls Tryd.prog 26 #[.int .u64 k] w fun e w' => ∃ v', e = .returned v' ∧ Own w' w.heap.size v' (dg 8 k) ∧ Below w.heap.size w w' := by
  have HK := Lib.hid hk
  have h8 := dg_len 8 k
  clear hk
  go_enter Tryd.func26, Tryd.ntmps26
  go_wp2_with (refine wpList_build_empty (o := ⟨some 5, _, _, _, _, _⟩) rfl 25 5 1 rfl buildB ?_; intro v5 w1 ho1 hb1 hob1 hs1; have O1 := Lib.hid (show Own w1 w.heap.size v5 [] from ho1); have B1 := Lib.hid hb1; clear ho1 hb1 hob1 hs1)
  go_loopw [3, 4] (fun v0 s wr => ∃ j : Nat, j ≤ 8 ∧ s = .int .i64 (7 - (j : Int)) ∧ Own wr w.heap.size v0 ((dg 8 k).take j) ∧ Below w.heap.size w wr)
    (fun _ s _ => (intOf s + 1).toNat)
  case atStart => exact ⟨0, by omega, by simp, by simpa using O1.out, B1.out⟩
  case round =>
    obtain ⟨j, hj, rfl, hown, hbw⟩ := hrel
    have hsz := hbw.size
    by_cases hlt : j < 8
    · obtain ⟨i, hi⟩ : ∃ i : Nat, i = 7 - j := ⟨_, rfl⟩
      have hij : (7 : Int) - (j : Int) = (i : Int) := by omega
      have HB := Lib.hid (show (dg 8 k).take (j + 1) = (dg 8 k).take j ++ [(k : Int) / 2 ^ (8 * i) % 256] by rw [hi]; exact dg8_at k j hlt)
      have HBW := Lib.hid hbw
      have HOW := Lib.hid hown
      have H8 := Lib.hid h8
      have HIJ := Lib.hid hij
      rw [hij]
      have hi7 : i ≤ 7 := by omega
      have hmm : (8 : Int) * (i : Int) = ((8 * i : Nat) : Int) := by omega
      have HM := Lib.hid hmm
      have HI := Lib.hid hi
      clear hbw hown h8 hij hmm hi
      go_wp2_with (at_builtin; refine wpList_append_Own rfl (Operand.tmp 10) (Operand.tmp 16) rfl w.heap.size _ ((dg 8 k).take j) rfl (HOW.out.alloc _) _ [(k : Int) / 2 ^ (8 * i) % 256] rfl (lit_bs2 wr _ [_] _ 1 1 rfl (Nat.le_refl 1) _ rfl) (by simp [H8.out]; omega) (by simp; omega) ?_; intro v' w2 hown' hgrow; have HO1 := Lib.hid hown'; have HG1 := Lib.hid hgrow; clear hown' hgrow)
      go_roundw
      case rel =>
        have hij := HIJ.out
        refine ⟨j + 1, by omega, by congr 1; omega, HO1.out.eq HB.out.symm, ?_⟩
        exact (HBW.out.alloc (by omega) _).trans HG1.out
      case measure => simp [intOf]
    · have hj8 : j = 8 := by omega
      rw [hj8] at hown
      rw [List.take_of_length_le (by omega)] at hown
      have hj9 : 8 ≤ j := by omega
      have hneg : (7 : Int) - (j : Int) < 0 := by omega
      have HBW := Lib.hid hbw
      have HOW := Lib.hid hown
      clear hbw hown hj8 hlt h8
      go_wp2_with fail
      go_ret
      exact ⟨_, rfl, HOW.out, HBW.out⟩
def RValuePost (x : Val) (w : World) (e : Ending) (w' : World) : Prop :=
  Below w.heap.size w w' ∧ if vld x = true then ∃ v', e = .returned (.tuple #[v', .bool true]) ∧ Own w' w.heap.size v' (keyV x) else e = .returned (.tuple #[.slice none 0 0, .bool false])
theorem Own.lit {w : World} {B : Nat} (C : List Int) {n : Nat} (hn : C.length = n) (hm : n ≤ 1099511627776) (hB : B ≤ w.heap.size) : Own (w.alloc (.cells (C.map (Value.int .u8)).toArray 5)) B (.slice (some ⟨w.heap.size, 0, none⟩) n n) C := by
  subst hn
  have h := World.ownsRow_lit (base := B) (e := 5) (size := 1) w (C.map (Value.int .u8)).toArray C.length hB (by unfold maxLen; omega) (by simp)
  simpa [Own] using h
set_option maxHeartbeats 1600000 in
theorem rvalue_any (x : Val) (w : World) (ho : x.OK) (hl : x.s.length ≤ 1099511627) : Calls Tryd.prog 14 #[vagg x] w fun e w' => RValuePost x w e w' := by
  cases hvx : vld x with
  | false =>
    have hv := isValue_any x
    rw [hvx] at hv
    have HV := Lib.hid hv
    have HO := Lib.hid ho
    have HX := Lib.hid hvx
    unfold vagg at *
    clear hv ho hvx
    go_enter Tryd.func14, Tryd.ntmps14
    go_wp2_with fail
    refine (HV.out _ HO.out (by omega)).mono ?_
    rintro e w1 ⟨rfl, hb1⟩
    have B1 := Lib.hid (((Below.refl w.heap.size w).alloc (Nat.le_refl _) _).trans (hb1.mono (by simp)))
    clear hb1
    go_wp2_with fail
    go_ret2
    refine ⟨B1.out, ?_⟩
    rw [if_neg (by rw [HX.out]; simp)]
    rfl
  | true =>
    have hv := isValue_any x
    rw [hvx] at hv
    have HV := Lib.hid hv
    have HO := Lib.hid ho
    have HX := Lib.hid hvx
    have hpost : ∀ (w' : World) (B : Nat) (v' : Value), w.heap.size ≤ B → Below w.heap.size w w' → Own w' B v' (keyV x) → RValuePost x w (.returned (.tuple #[v', .bool true])) w' := fun w' B v' h1 h2 h3 => by
      refine ⟨h2, ?_⟩
      rw [if_pos HX.out]
      exact ⟨_, rfl, h3.base h1⟩
    have HP := Lib.hid hpost
    obtain ⟨k, n, s⟩ := x
    obtain ⟨o1, o2, o3, o4, o5⟩ := ho
    simp only [vagg] at *
    clear hv hpost
    by_cases k0 : k = 0
    · subst k0
      simp [vld] at hvx
      obtain ⟨rfl, rfl⟩ := hvx
      go_enter Tryd.func14, Tryd.ntmps14
      go_wp2_with fail
      refine (HV.out _ HO.out (by omega)).mono ?_
      rintro e w1 ⟨rfl, hb1⟩
      obtain ⟨q0, q1, q2⟩ := box_below hb1
      have B1 := Lib.hid (((Below.refl w.heap.size w).alloc (Nat.le_refl _) _).trans (hb1.mono (by simp)))
      have hs1 : w.heap.size < w1.heap.size := by have := hb1.size; simp at this; omega
      clear hb1
      obtain ⟨B, hB⟩ : ∃ B, B = w1.heap.size := ⟨_, rfl⟩
      have HB := Lib.hid hB
      have hB1 : B ≤ w1.heap.size := by omega
      have hB2 : w.heap.size < B := by omega
      have L1 := Lib.hid (Own.lit (w := w1) (B := B) [1] rfl (by decide) hB1)
      have M1 := Lib.hid ((Below.refl B w1).alloc hB1 (.cells ([1].map (Value.int .u8)).toArray 5))
      clear hB
      go_wp2_with fail
      go_ret2
      exact HP.out _ B _ (by omega) (B1.out.trans (M1.out.mono (by omega))) (L1.out.eq (by simp [keyV, body]))
    by_cases k1 : k = 1
    · subst k1
      simp [vld] at hvx
      subst hvx
      have hnum : IntKind.u64.wrap (IntKind.u64.wrap n + 9223372036854775808) = ((num n : Nat) : Int) := by rw [IntKind.wrap_u64, IntKind.wrap_u64]; unfold num; omega
      have HN := Lib.hid hnum
      clear hnum
      go_enter Tryd.func14, Tryd.ntmps14
      go_wp2_with fail
      refine (HV.out _ HO.out (by omega)).mono ?_
      rintro e w1 ⟨rfl, hb1⟩
      obtain ⟨q0, q1, q2⟩ := box_below hb1
      have B1 := Lib.hid (((Below.refl w.heap.size w).alloc (Nat.le_refl _) _).trans (hb1.mono (by simp)))
      have hs1 : w.heap.size < w1.heap.size := by have := hb1.size; simp at this; omega
      clear hb1
      obtain ⟨B, hB⟩ : ∃ B, B = w1.heap.size := ⟨_, rfl⟩
      have HB := Lib.hid hB
      have hB1 : B ≤ w1.heap.size := by omega
      have hB2 : w.heap.size < B := by omega
      have L1 := Lib.hid (Own.lit (w := w1) (B := B) [2] rfl (by decide) hB1)
      have M1 := Lib.hid ((Below.refl B w1).alloc hB1 (.cells ([2].map (Value.int .u8)).toArray 5))
      clear hB
      go_wp2_with fail
      rw [HN.out]
      refine (number3_any (num n) _ (by unfold num; omega)).mono ?_
      rintro e w2 ⟨v2, rfl, hown2, hb2⟩
      have N2 := Lib.hid hown2.bs
      have L2 := Lib.hid (L1.out.below hb2 (Nat.le_refl _))
      have M2 := Lib.hid (M1.out.trans (hb2.mono (by simp; omega)))
      have hs2 := M2.out.size
      have q2a := (M2.out.cell (p := ⟨w.heap.size, 0, none⟩) hB2).trans q0
      have h8 := Lib.hid (dg_len 8 (num n))
      clear hown2 hb2 q0 q1 q2
      go_wp2_with (at_builtin; refine wpList_append_Own rfl (Operand.tmp 19) (Operand.tmp 24) rfl B _ [2] rfl L2.out _ (dg 8 (num n)) rfl N2.out (by rw [h8.out]; decide) (by omega) ?_; intro v3 w3 hown3 hb3; have L3 := Lib.hid hown3; have M3 := Lib.hid (M2.out.trans hb3); have q3a := (hb3.cell (p := ⟨w.heap.size, 0, none⟩) hB2).trans q2a; clear hown3 hb3)
      go_ret2
      exact HP.out _ B _ (by omega) (B1.out.trans (M3.out.mono (by omega))) (L3.out.eq (by simp [keyV, body]))
    by_cases k2 : k = 2
    · subst k2
      simp [vld] at hvx
      obtain ⟨rfl, hl64⟩ := hvx
      have hsl := str_len s
      have HIX := Lib.hid (fun (k : Nat) (hk : k < s.length) (u : World) => index_str u s k o1 hk)
      go_enter Tryd.func14, Tryd.ntmps14
      go_wp2_with fail
      refine (HV.out _ HO.out (by omega)).mono ?_
      rintro e w1 ⟨rfl, hb1⟩
      obtain ⟨q0, q1, q2⟩ := box_below hb1
      have B1 := Lib.hid (((Below.refl w.heap.size w).alloc (Nat.le_refl _) _).trans (hb1.mono (by simp)))
      have hs1 : w.heap.size < w1.heap.size := by have := hb1.size; simp at this; omega
      clear hb1
      obtain ⟨B, hB⟩ : ∃ B, B = w1.heap.size := ⟨_, rfl⟩
      have HB := Lib.hid hB
      have hB1 : B ≤ w1.heap.size := by omega
      have hB2 : w.heap.size < B := by omega
      have L1 := Lib.hid (Own.lit (w := w1) (B := B) [3] rfl (by decide) hB1)
      have M1 := Lib.hid ((Below.refl B w1).alloc hB1 (.cells ([3].map (Value.int .u8)).toArray 5))
      clear hB
      go_wp2_with fail
      have hBl : B ≤ (w1.alloc (.cells ([3].map (Value.int .u8)).toArray 5)).heap.size := by simp; omega
      have QB := Lib.hid (fun (wr : World) (h : Below B w1 wr) => (⟨(h.cell (p := ⟨w.heap.size, 0, none⟩) hB2).trans q0, (h.cell (p := ⟨w.heap.size, 2, none⟩) hB2).trans q2⟩ : wr.cell? ⟨w.heap.size, 0, none⟩ = some (.int .i64 2) ∧ wr.cell? ⟨w.heap.size, 2, none⟩ = some (.string (str s))))
      clear q0 q1 q2
      go_loopw [5, 6] (fun v5 i wr => ∃ j : Nat, j ≤ s.length ∧ i = .int .i64 j ∧ Own wr B v5 (3 :: esc (s.take j)) ∧ Below B w1 wr) (fun _ i _ => s.length - (intOf i).toNat)
      case atStart => exact ⟨0, Nat.zero_le _, rfl, L1.out, M1.out⟩
      case round =>
        obtain ⟨j, hj, rfl, hown, hbw⟩ := hrel
        have hsz := hbw.size
        obtain ⟨c0, c2⟩ := QB.out _ hbw
        have HBW := Lib.hid hbw
        have HOW := Lib.hid hown
        have hel := esc_len_le (s.take j)
        have htl : (s.take j).length ≤ j := List.length_take_le _ _
        have hBr : B ≤ wr.heap.size := by omega
        by_cases hlt : j < s.length
        · have hix := HIX.out j hlt
          have hx := o1 _ (List.getElem_mem hlt)
          have HES := Lib.hid (esc_take_succ s j hlt)
          have hgx : s[j]?.getD 0 = s[j] := by rw [List.getElem?_eq_getElem hlt]; rfl
          rw [← hgx] at hx
          generalize hX : s[j]?.getD 0 = y at *
          clear hbw hown hX hgx
          by_cases h0 : y = 0
          · have hy0 : (y == 0) = true := by simpa using h0
            have H0 := Lib.hid h0
            clear h0
            go_wp2_with (first
              | (at_builtin; refine wpList_append_Own (o := ⟨some 51, _, _, _, _, _⟩) rfl (Operand.tmp 45) (Operand.tmp 50) rfl B _ _ rfl (HOW.out.alloc _) _ [y] rfl (lit_bs2 wr _ [_] _ 1 1 rfl (Nat.le_refl 1) _ rfl) (by simp; omega) (by simp; omega) ?_; intro v6 w6 hown6 hb6; have O6 := Lib.hid hown6; have B6 := Lib.hid ((HBW.out.alloc hBr _).trans hb6); obtain ⟨c0', c2'⟩ := QB.out _ B6.out; have hs6 := B6.out.size; have hB6 : B ≤ w6.heap.size := (by omega); clear hown6 hb6)
              | (at_builtin; refine wpList_append_Own (o := ⟨some 59, _, _, _, _, _⟩) rfl (Operand.tmp 57) (Operand.tmp 58) rfl B _ _ rfl (O6.out.alloc _) _ [255] rfl (lit_bs2 w6 _ [_] _ 1 1 rfl (Nat.le_refl 1) _ rfl) (by simp; omega) (by simp; omega) ?_; intro v7 w7 hown7 hb7; have O7 := Lib.hid hown7; have B7 := Lib.hid ((B6.out.alloc hB6 _).trans hb7); clear hown7 hb7))
            go_roundw
            case rel => exact ⟨j + 1, by omega, by go_num, O7.out.eq (by rw [HES.out, if_pos H0.out, H0.out]; simp), B7.out⟩
            case measure => simp [intOf]; omega
          · have hy0 : (y == 0) = false := by simpa using h0
            have H0 := Lib.hid h0
            clear h0
            go_wp2_with (at_builtin; refine wpList_append_Own (o := ⟨some 51, _, _, _, _, _⟩) rfl (Operand.tmp 45) (Operand.tmp 50) rfl B _ _ rfl (HOW.out.alloc _) _ [y] rfl (lit_bs2 wr _ [_] _ 1 1 rfl (Nat.le_refl 1) _ rfl) (by simp; omega) (by simp; omega) ?_; intro v6 w6 hown6 hb6; have O6 := Lib.hid hown6; have B6 := Lib.hid ((HBW.out.alloc hBr _).trans hb6); obtain ⟨c0', c2'⟩ := QB.out _ B6.out; clear hown6 hb6)
            go_roundw
            case rel => exact ⟨j + 1, by omega, by go_num, O6.out.eq (by rw [HES.out, if_neg H0.out]; simp), B6.out⟩
            case measure => simp [intOf]; omega
        · have hj2 : s.length ≤ j := by omega
          have hts : s.take j = s := List.take_of_length_le hj2
          rw [hts] at HOW hel
          clear hbw hown hts hlt
          go_wp2_with (at_builtin; refine wpList_append_Own rfl (Operand.tmp 60) (Operand.tmp 61) rfl B _ _ rfl (HOW.out.alloc _) _ [0, 1] rfl (lit_bs2 wr _ [_, _] _ 2 2 rfl (Nat.le_refl 2) _ rfl) (by simp; omega) (by simp; omega) ?_; intro v6 w6 hown6 hb6; have O6 := Lib.hid hown6; have B6 := Lib.hid ((HBW.out.alloc hBr _).trans hb6); clear hown6 hb6)
          go_ret2
          exact HP.out _ B _ (by omega) (B1.out.trans (B6.out.mono (by omega))) (O6.out.eq (by simp [keyV, body]))
    by_cases k3 : k = 3
    · subst k3
      simp [vld] at hvx
      obtain ⟨hvx, rfl⟩ := hvx
      have hn2 : n % 256 = n := by omega
      go_enter Tryd.func14, Tryd.ntmps14
      go_wp2_with fail
      refine (HV.out _ HO.out (by omega)).mono ?_
      rintro e w1 ⟨rfl, hb1⟩
      obtain ⟨q0, q1, q2⟩ := box_below hb1
      have B1 := Lib.hid (((Below.refl w.heap.size w).alloc (Nat.le_refl _) _).trans (hb1.mono (by simp)))
      have hs1 : w.heap.size < w1.heap.size := by have := hb1.size; simp at this; omega
      clear hb1
      obtain ⟨B, hB⟩ : ∃ B, B = w1.heap.size := ⟨_, rfl⟩
      have HB := Lib.hid hB
      have hB1 : B ≤ w1.heap.size := by omega
      have hB2 : w.heap.size < B := by omega
      have L1 := Lib.hid (Own.lit (w := w1) (B := B) [4] rfl (by decide) hB1)
      have M1 := Lib.hid ((Below.refl B w1).alloc hB1 (.cells ([4].map (Value.int .u8)).toArray 5))
      clear hB
      go_wp2_with (at_builtin; refine wpList_append_Own rfl (Operand.tmp 29) (Operand.tmp 33) rfl B _ [4] rfl (L1.out.alloc _) _ [n] rfl (lit_bs2 _ _ [_] _ 1 1 rfl (Nat.le_refl 1) _ (by simp)) (by simp) (by simp; omega) ?_; intro v3 w3 hown3 hb3; have L3 := Lib.hid hown3; have M3 := Lib.hid ((M1.out.alloc (by simp; omega) _).trans hb3); have q3a := (M3.out.cell (p := ⟨w.heap.size, 0, none⟩) hB2).trans q0; clear hown3 hb3)
      go_ret2
      exact HP.out _ B _ (by omega) (B1.out.trans (M3.out.mono (by omega))) (L3.out.eq (by simp [keyV, body]))
    · simp [vld, k0, k1, k2, k3] at hvx
end Go.Proofs.YtkajpcjmcpollaaDoor
