/- the writer of print: put -/
import Derived.Test.YtegkbagnbnoopaaGreatDoorPs11
import Derived.Lib.Replace
import Derived.Lib.ItoaNum
namespace Go.Proofs.YtegkbagnbnoopaaGreatDoor
open Go.ChangeShapes Go.WideShapes Go.ChangeAt Go.RowKit Go.Deep
open Go.Lib (hid)
theorem put1_len (s : Wr) (t : List Int) : s.tx.length + t.length ≤ (s.put1 t).tx.length ∧ (s.put1 t).tx.length ≤ s.tx.length + t.length + 1 := by
 simp only [Wr.put1, List.length_append]
 split <;> simp <;> omega
theorem put_take (s : Wr) (ts : List (List Int)) (k : Nat) (t : List Int) (h : ts[k]? = some t) : s.put (ts.take (k + 1)) = (s.put (ts.take k)).put1 t := by
 unfold Wr.put
 rw [List.take_add_one, h, List.foldl_append]; rfl
theorem put_mono (s : Wr) : ∀ ts : List (List Int), s.tx.length ≤ (s.put ts).tx.length
  | [] => Nat.le_refl _
  | t :: ts => by
    have h := put_mono (s.put1 t) ts
    have := (put1_len s t).1
    show _ ≤ ((s.put1 t).put ts).tx.length
    omega
theorem put_part (s : Wr) (ts : List (List Int)) (k : Nat) (t : List Int) (h : ts[k]? = some t) : (s.put (ts.take k)).tx.length + t.length + 1 ≤ (s.put ts).tx.length + 1 := by
  have h1 : s.put ts = (s.put (ts.take (k + 1))).put (ts.drop (k + 1)) := by unfold Wr.put; rw [← List.foldl_append, List.take_append_drop]
  have h2 := put_mono (s.put (ts.take (k + 1))) (ts.drop (k + 1))
  rw [← h1, put_take s ts k t h] at h2
  have := (put1_len (s.put (ts.take k)) t).1
  omega
/-- the case of a round -/
theorem put1_b {s : Wr} {t : List Int} (h : s.ti = false ∧ t ≠ [41] ∧ t ≠ [44] ∧ t ≠ [46]) : s.put1 t = ⟨(s.tx ++ [32]) ++ t, t, decide (t = [40]) || decide (t = [46])⟩ := by
 unfold Wr.put1; rw [if_pos h]; simp
theorem put1_n {s : Wr} {t : List Int} (h : ¬ (s.ti = false ∧ t ≠ [41] ∧ t ≠ [44] ∧ t ≠ [46])) : s.put1 t = ⟨s.tx ++ t, t, decide (t = [40]) || decide (t = [46])⟩ := by
 unfold Wr.put1; rw [if_neg h]
theorem str_c (l m : List Int) (h : Rng l) (hm : Rng m) (c : List UInt8) (hc : m.map (fun x => UInt8.ofNat x.toNat) = c) : ((str l).toList == c) = decide (l = m) := by
 rw [← hc, ← str_toL m]; exact str_beq h hm
theorem str_n (l m : List Int) (h : Rng l) (hm : Rng m) (c : List UInt8) (hc : m.map (fun x => UInt8.ofNat x.toNat) = c) : ((str l).toList != c) = !decide (l = m) := by
 rw [bne, str_c l m h hm c hc]
set_option maxRecDepth 100000 in
set_option maxHeartbeats 6400000 in
theorem put_any {w : World} {A H B : Nat} {g : Option Nat} {s : Wr} (ts : List (List Int)) (b : Nat) (hc : WrC w A H B g s) (hb : Els H B w g b (.cells (ts.map (fun l => Value.string (str l))).toArray 9 (0, 0))) (hr : ∀ l ∈ ts, Rng l) (hn : ts.length ≤ 1073741823) (hl : (s.put ts).tx.length ≤ 1099511627775) :
  Calls Tryz.prog 47 #[.pointer (some ⟨H, 0, none⟩), .slice (some ⟨b, 0, none⟩) ts.length ts.length] w (WrE w A H B g (s.put ts)) := by
 have HB := hid hb
 have HR := hid hr
 have HL := hid hl
 have HC := hid hc
 generalize hm : ts.length = n at *
 have HM := hid hm
 clear hb hr hl hc hm
 go_enter Tryz.func47, Tryz.ntmps47
 go_wp2_with fail
 go_loopw [8] (fun i wr => ∃ k : Nat, k ≤ n ∧ i = .int .i64 k ∧ ∃ gk, Hid (WrC wr A H B gk (s.put (ts.take k))) ∧ Hid (WK H B w g wr gk)) (fun i _ => n - (intOf i).toNat)
 case atStart => exact ⟨0, Nat.zero_le _, rfl, g, hid HC.out, hid (WK.refl H B w g)⟩
 case round =>
  obtain ⟨k, hk1, rfl, gk, HS, HK⟩ := hrel
  by_cases hlt1 : k < n
  ·obtain ⟨t, ht⟩ : ∃ t, ts[k]? = some t := ⟨_, List.getElem?_eq_getElem (by rw [HM.out]; exact hlt1)⟩
   have HT := hid ht
   have hrt : Rng t := HR.out t (List.mem_of_getElem? ht)
   have hp := put_part s ts k t ht
   have HE := hid (HB.out.keep HK.out)
   have ck := cell_at HE.out.at_ k (v := .string (str t)) (by simp [ht])
   have HPT := hid (put_take s ts k t ht)
   have HLL := hid (show (s.put (ts.take k)).tx.length + t.length ≤ 1099511627775 from by have := HL.out; omega)
   clear ht hp
   generalize s.put (ts.take k) = q at *
   obtain ⟨qt, ql, qb⟩ := q
   have b0 := cell_at HS.out.box 0 rfl
   have b2 := cell_at HS.out.box 2 rfl
   have HRT := hid hrt
   cases qb with
   | false =>
    by_cases h_41 : t = [41]
    ·have HTE := hid h_41
     clear h_41
     have f41 : ((str t).toList == [41]) = true := (str_c t [41] HRT.out (rngB rfl) [41] rfl).trans (by rw [HTE.out]; decide)
     have g41 : ((str t).toList != [41]) = false := (str_n t [41] HRT.out (rngB rfl) [41] rfl).trans (by rw [HTE.out]; decide)
     have f44 : ((str t).toList == [44]) = false := (str_c t [44] HRT.out (rngB rfl) [44] rfl).trans (by rw [HTE.out]; decide)
     have g44 : ((str t).toList != [44]) = true := (str_n t [44] HRT.out (rngB rfl) [44] rfl).trans (by rw [HTE.out]; decide)
     have f46 : ((str t).toList == [46]) = false := (str_c t [46] HRT.out (rngB rfl) [46] rfl).trans (by rw [HTE.out]; decide)
     have g46 : ((str t).toList != [46]) = true := (str_n t [46] HRT.out (rngB rfl) [46] rfl).trans (by rw [HTE.out]; decide)
     have f40 : ((str t).toList == [40]) = false := (str_c t [40] HRT.out (rngB rfl) [40] rfl).trans (by rw [HTE.out]; decide)
     have g40 : ((str t).toList != [40]) = true := (str_n t [40] HRT.out (rngB rfl) [40] rfl).trans (by rw [HTE.out]; decide)
     have HP := hid (put1_n (s := ⟨qt, ql, false⟩) (t := t) (by intro h; exact h.2.1 HTE.out))
     have HD := hid (show (decide (t = [40]) || decide (t = [46])) = false from by rw [HTE.out]; decide)
     go_wp2_with (first
      | (go_at_call 35; refine (wr_write t HS.out HRT.out (by have h : qt.length + t.length ≤ 1099511627775 := HLL.out; show qt.length + _ ≤ _; omega)).mono ?_; rintro e w2 ⟨rfl, g2, hc2, hk2_⟩; have e0 := cell_at hc2.box 1 rfl; have e1 := cell_at hc2.box 2 rfl; have x1 := frozen_of_row w2 H 1 _ _ hc2.box; have x2 := frozen_of_row w2 H 2 _ _ hc2.box; have HS2 := hid hc2; have HK2 := hid (HK.out.trans hk2_); clear hc2 hk2_)
      | fail)
     go_roundw
     case rel => exact ⟨k + 1, by omega, by go_num, g2, hid (by rw [HPT.out, HP.out, HD.out]; exact HS2.out.setLT HRT.out false), hid ((HK2.out.set _ _).set _ _)⟩
     case measure => simp [intOf]; omega
    have H41 := hid h_41
    clear h_41
    by_cases h_44 : t = [44]
    ·have HTE := hid h_44
     clear h_44
     have f41 : ((str t).toList == [41]) = false := (str_c t [41] HRT.out (rngB rfl) [41] rfl).trans (by rw [HTE.out]; decide)
     have g41 : ((str t).toList != [41]) = true := (str_n t [41] HRT.out (rngB rfl) [41] rfl).trans (by rw [HTE.out]; decide)
     have f44 : ((str t).toList == [44]) = true := (str_c t [44] HRT.out (rngB rfl) [44] rfl).trans (by rw [HTE.out]; decide)
     have g44 : ((str t).toList != [44]) = false := (str_n t [44] HRT.out (rngB rfl) [44] rfl).trans (by rw [HTE.out]; decide)
     have f46 : ((str t).toList == [46]) = false := (str_c t [46] HRT.out (rngB rfl) [46] rfl).trans (by rw [HTE.out]; decide)
     have g46 : ((str t).toList != [46]) = true := (str_n t [46] HRT.out (rngB rfl) [46] rfl).trans (by rw [HTE.out]; decide)
     have f40 : ((str t).toList == [40]) = false := (str_c t [40] HRT.out (rngB rfl) [40] rfl).trans (by rw [HTE.out]; decide)
     have g40 : ((str t).toList != [40]) = true := (str_n t [40] HRT.out (rngB rfl) [40] rfl).trans (by rw [HTE.out]; decide)
     have HP := hid (put1_n (s := ⟨qt, ql, false⟩) (t := t) (by intro h; exact h.2.2.1 HTE.out))
     have HD := hid (show (decide (t = [40]) || decide (t = [46])) = false from by rw [HTE.out]; decide)
     go_wp2_with (first
      | (go_at_call 35; refine (wr_write t HS.out HRT.out (by have h : qt.length + t.length ≤ 1099511627775 := HLL.out; show qt.length + _ ≤ _; omega)).mono ?_; rintro e w2 ⟨rfl, g2, hc2, hk2_⟩; have e0 := cell_at hc2.box 1 rfl; have e1 := cell_at hc2.box 2 rfl; have x1 := frozen_of_row w2 H 1 _ _ hc2.box; have x2 := frozen_of_row w2 H 2 _ _ hc2.box; have HS2 := hid hc2; have HK2 := hid (HK.out.trans hk2_); clear hc2 hk2_)
      | fail)
     go_roundw
     case rel => exact ⟨k + 1, by omega, by go_num, g2, hid (by rw [HPT.out, HP.out, HD.out]; exact HS2.out.setLT HRT.out false), hid ((HK2.out.set _ _).set _ _)⟩
     case measure => simp [intOf]; omega
    have H44 := hid h_44
    clear h_44
    by_cases h_46 : t = [46]
    ·have HTE := hid h_46
     clear h_46
     have f41 : ((str t).toList == [41]) = false := (str_c t [41] HRT.out (rngB rfl) [41] rfl).trans (by rw [HTE.out]; decide)
     have g41 : ((str t).toList != [41]) = true := (str_n t [41] HRT.out (rngB rfl) [41] rfl).trans (by rw [HTE.out]; decide)
     have f44 : ((str t).toList == [44]) = false := (str_c t [44] HRT.out (rngB rfl) [44] rfl).trans (by rw [HTE.out]; decide)
     have g44 : ((str t).toList != [44]) = true := (str_n t [44] HRT.out (rngB rfl) [44] rfl).trans (by rw [HTE.out]; decide)
     have f46 : ((str t).toList == [46]) = true := (str_c t [46] HRT.out (rngB rfl) [46] rfl).trans (by rw [HTE.out]; decide)
     have g46 : ((str t).toList != [46]) = false := (str_n t [46] HRT.out (rngB rfl) [46] rfl).trans (by rw [HTE.out]; decide)
     have f40 : ((str t).toList == [40]) = false := (str_c t [40] HRT.out (rngB rfl) [40] rfl).trans (by rw [HTE.out]; decide)
     have g40 : ((str t).toList != [40]) = true := (str_n t [40] HRT.out (rngB rfl) [40] rfl).trans (by rw [HTE.out]; decide)
     have HP := hid (put1_n (s := ⟨qt, ql, false⟩) (t := t) (by intro h; exact h.2.2.2 HTE.out))
     have HD := hid (show (decide (t = [40]) || decide (t = [46])) = true from by rw [HTE.out]; decide)
     go_wp2_with (first
      | (go_at_call 35; refine (wr_write t HS.out HRT.out (by have h : qt.length + t.length ≤ 1099511627775 := HLL.out; show qt.length + _ ≤ _; omega)).mono ?_; rintro e w2 ⟨rfl, g2, hc2, hk2_⟩; have e0 := cell_at hc2.box 1 rfl; have e1 := cell_at hc2.box 2 rfl; have x1 := frozen_of_row w2 H 1 _ _ hc2.box; have x2 := frozen_of_row w2 H 2 _ _ hc2.box; have HS2 := hid hc2; have HK2 := hid (HK.out.trans hk2_); clear hc2 hk2_)
      | fail)
     go_roundw
     case rel => exact ⟨k + 1, by omega, by go_num, g2, hid (by rw [HPT.out, HP.out, HD.out]; exact HS2.out.setLT HRT.out true), hid ((HK2.out.set _ _).set _ _)⟩
     case measure => simp [intOf]; omega
    have H46 := hid h_46
    clear h_46
    by_cases h_40 : t = [40]
    ·have HTE := hid h_40
     clear h_40
     have f41 : ((str t).toList == [41]) = false := (str_c t [41] HRT.out (rngB rfl) [41] rfl).trans (by rw [HTE.out]; decide)
     have g41 : ((str t).toList != [41]) = true := (str_n t [41] HRT.out (rngB rfl) [41] rfl).trans (by rw [HTE.out]; decide)
     have f44 : ((str t).toList == [44]) = false := (str_c t [44] HRT.out (rngB rfl) [44] rfl).trans (by rw [HTE.out]; decide)
     have g44 : ((str t).toList != [44]) = true := (str_n t [44] HRT.out (rngB rfl) [44] rfl).trans (by rw [HTE.out]; decide)
     have f46 : ((str t).toList == [46]) = false := (str_c t [46] HRT.out (rngB rfl) [46] rfl).trans (by rw [HTE.out]; decide)
     have g46 : ((str t).toList != [46]) = true := (str_n t [46] HRT.out (rngB rfl) [46] rfl).trans (by rw [HTE.out]; decide)
     have f40 : ((str t).toList == [40]) = true := (str_c t [40] HRT.out (rngB rfl) [40] rfl).trans (by rw [HTE.out]; decide)
     have g40 : ((str t).toList != [40]) = false := (str_n t [40] HRT.out (rngB rfl) [40] rfl).trans (by rw [HTE.out]; decide)
     have HP := hid (put1_b (s := ⟨qt, ql, false⟩) (t := t) ⟨rfl, by rw [HTE.out]; decide, by rw [HTE.out]; decide, by rw [HTE.out]; decide⟩)
     have HD := hid (show (decide (t = [40]) || decide (t = [46])) = true from by rw [HTE.out]; decide)
     have HW1 := hid (show Calls Tryz.prog 35 #[.pointer (some ⟨B, 0, none⟩), .string ⟨#[32]⟩] wr (fun e w' => e = .returned (.tuple #[.int .i64 1, .nilIface]) ∧ ∃ g', WrC w' A H B g' ⟨qt ++ [32], ql, false⟩ ∧ WK H B wr gk w' g') from wr_write [32] HS.out (rngB rfl) (by have h : qt.length + t.length ≤ 1099511627775 := HLL.out; simp only [List.length_cons, List.length_nil]; omega))
     go_wp2_with (first
      | (go_at_call 35; refine HW1.out.mono ?_; clear HW1; rintro e w1 ⟨rfl, g1, hc1, hk1_⟩; have d0 := cell_at hc1.box 0 rfl; have HS1 := hid hc1; have HK1 := hid (HK.out.trans hk1_); clear hc1 hk1_)
      | (go_at_call 35; refine (wr_write t HS1.out HRT.out (by have h : qt.length + t.length ≤ 1099511627775 := HLL.out; simp only [List.length_append, List.length_cons, List.length_nil]; omega)).mono ?_; rintro e w2 ⟨rfl, g2, hc2, hk2_⟩; have e0 := cell_at hc2.box 1 rfl; have e1 := cell_at hc2.box 2 rfl; have x1 := frozen_of_row w2 H 1 _ _ hc2.box; have x2 := frozen_of_row w2 H 2 _ _ hc2.box; have HS2 := hid hc2; have HK2 := hid (HK1.out.trans hk2_); clear hc2 hk2_)
      | fail)
     go_roundw
     case rel => exact ⟨k + 1, by omega, by go_num, g2, hid (by rw [HPT.out, HP.out, HD.out]; exact HS2.out.setLT HRT.out true), hid ((HK2.out.set _ _).set _ _)⟩
     case measure => simp [intOf]; omega
    have H40 := hid h_40
    clear h_40
    have f41 : ((str t).toList == [41]) = false := (str_c t [41] HRT.out (rngB rfl) [41] rfl).trans (decide_eq_false H41.out)
    have g41 : ((str t).toList != [41]) = true := (str_n t [41] HRT.out (rngB rfl) [41] rfl).trans (by rw [decide_eq_false H41.out]; rfl)
    have f44 : ((str t).toList == [44]) = false := (str_c t [44] HRT.out (rngB rfl) [44] rfl).trans (decide_eq_false H44.out)
    have g44 : ((str t).toList != [44]) = true := (str_n t [44] HRT.out (rngB rfl) [44] rfl).trans (by rw [decide_eq_false H44.out]; rfl)
    have f46 : ((str t).toList == [46]) = false := (str_c t [46] HRT.out (rngB rfl) [46] rfl).trans (decide_eq_false H46.out)
    have g46 : ((str t).toList != [46]) = true := (str_n t [46] HRT.out (rngB rfl) [46] rfl).trans (by rw [decide_eq_false H46.out]; rfl)
    have f40 : ((str t).toList == [40]) = false := (str_c t [40] HRT.out (rngB rfl) [40] rfl).trans (decide_eq_false H40.out)
    have g40 : ((str t).toList != [40]) = true := (str_n t [40] HRT.out (rngB rfl) [40] rfl).trans (by rw [decide_eq_false H40.out]; rfl)
    have HP := hid (put1_b (s := ⟨qt, ql, false⟩) (t := t) ⟨rfl, H41.out, H44.out, H46.out⟩)
    have HD := hid (show (decide (t = [40]) || decide (t = [46])) = false from by rw [decide_eq_false H40.out, decide_eq_false H46.out]; rfl)
    have HW1 := hid (show Calls Tryz.prog 35 #[.pointer (some ⟨B, 0, none⟩), .string ⟨#[32]⟩] wr (fun e w' => e = .returned (.tuple #[.int .i64 1, .nilIface]) ∧ ∃ g', WrC w' A H B g' ⟨qt ++ [32], ql, false⟩ ∧ WK H B wr gk w' g') from wr_write [32] HS.out (rngB rfl) (by have h : qt.length + t.length ≤ 1099511627775 := HLL.out; simp only [List.length_cons, List.length_nil]; omega))
    go_wp2_with (first
     | (go_at_call 35; refine HW1.out.mono ?_; clear HW1; rintro e w1 ⟨rfl, g1, hc1, hk1_⟩; have d0 := cell_at hc1.box 0 rfl; have HS1 := hid hc1; have HK1 := hid (HK.out.trans hk1_); clear hc1 hk1_)
     | (go_at_call 35; refine (wr_write t HS1.out HRT.out (by have h : qt.length + t.length ≤ 1099511627775 := HLL.out; simp only [List.length_append, List.length_cons, List.length_nil]; omega)).mono ?_; rintro e w2 ⟨rfl, g2, hc2, hk2_⟩; have e0 := cell_at hc2.box 1 rfl; have e1 := cell_at hc2.box 2 rfl; have x1 := frozen_of_row w2 H 1 _ _ hc2.box; have x2 := frozen_of_row w2 H 2 _ _ hc2.box; have HS2 := hid hc2; have HK2 := hid (HK1.out.trans hk2_); clear hc2 hk2_)
     | fail)
    go_roundw
    case rel => exact ⟨k + 1, by omega, by go_num, g2, hid (by rw [HPT.out, HP.out, HD.out]; exact HS2.out.setLT HRT.out false), hid ((HK2.out.set _ _).set _ _)⟩
    case measure => simp [intOf]; omega
   | true =>
    by_cases h_41 : t = [41]
    ·have HTE := hid h_41
     clear h_41
     have f41 : ((str t).toList == [41]) = true := (str_c t [41] HRT.out (rngB rfl) [41] rfl).trans (by rw [HTE.out]; decide)
     have g41 : ((str t).toList != [41]) = false := (str_n t [41] HRT.out (rngB rfl) [41] rfl).trans (by rw [HTE.out]; decide)
     have f44 : ((str t).toList == [44]) = false := (str_c t [44] HRT.out (rngB rfl) [44] rfl).trans (by rw [HTE.out]; decide)
     have g44 : ((str t).toList != [44]) = true := (str_n t [44] HRT.out (rngB rfl) [44] rfl).trans (by rw [HTE.out]; decide)
     have f46 : ((str t).toList == [46]) = false := (str_c t [46] HRT.out (rngB rfl) [46] rfl).trans (by rw [HTE.out]; decide)
     have g46 : ((str t).toList != [46]) = true := (str_n t [46] HRT.out (rngB rfl) [46] rfl).trans (by rw [HTE.out]; decide)
     have f40 : ((str t).toList == [40]) = false := (str_c t [40] HRT.out (rngB rfl) [40] rfl).trans (by rw [HTE.out]; decide)
     have g40 : ((str t).toList != [40]) = true := (str_n t [40] HRT.out (rngB rfl) [40] rfl).trans (by rw [HTE.out]; decide)
     have HP := hid (put1_n (s := ⟨qt, ql, true⟩) (t := t) (by intro h; cases h.1))
     have HD := hid (show (decide (t = [40]) || decide (t = [46])) = false from by rw [HTE.out]; decide)
     go_wp2_with (first
      | (go_at_call 35; refine (wr_write t HS.out HRT.out (by have h : qt.length + t.length ≤ 1099511627775 := HLL.out; show qt.length + _ ≤ _; omega)).mono ?_; rintro e w2 ⟨rfl, g2, hc2, hk2_⟩; have e0 := cell_at hc2.box 1 rfl; have e1 := cell_at hc2.box 2 rfl; have x1 := frozen_of_row w2 H 1 _ _ hc2.box; have x2 := frozen_of_row w2 H 2 _ _ hc2.box; have HS2 := hid hc2; have HK2 := hid (HK.out.trans hk2_); clear hc2 hk2_)
      | fail)
     go_roundw
     case rel => exact ⟨k + 1, by omega, by go_num, g2, hid (by rw [HPT.out, HP.out, HD.out]; exact HS2.out.setLT HRT.out false), hid ((HK2.out.set _ _).set _ _)⟩
     case measure => simp [intOf]; omega
    have H41 := hid h_41
    clear h_41
    by_cases h_44 : t = [44]
    ·have HTE := hid h_44
     clear h_44
     have f41 : ((str t).toList == [41]) = false := (str_c t [41] HRT.out (rngB rfl) [41] rfl).trans (by rw [HTE.out]; decide)
     have g41 : ((str t).toList != [41]) = true := (str_n t [41] HRT.out (rngB rfl) [41] rfl).trans (by rw [HTE.out]; decide)
     have f44 : ((str t).toList == [44]) = true := (str_c t [44] HRT.out (rngB rfl) [44] rfl).trans (by rw [HTE.out]; decide)
     have g44 : ((str t).toList != [44]) = false := (str_n t [44] HRT.out (rngB rfl) [44] rfl).trans (by rw [HTE.out]; decide)
     have f46 : ((str t).toList == [46]) = false := (str_c t [46] HRT.out (rngB rfl) [46] rfl).trans (by rw [HTE.out]; decide)
     have g46 : ((str t).toList != [46]) = true := (str_n t [46] HRT.out (rngB rfl) [46] rfl).trans (by rw [HTE.out]; decide)
     have f40 : ((str t).toList == [40]) = false := (str_c t [40] HRT.out (rngB rfl) [40] rfl).trans (by rw [HTE.out]; decide)
     have g40 : ((str t).toList != [40]) = true := (str_n t [40] HRT.out (rngB rfl) [40] rfl).trans (by rw [HTE.out]; decide)
     have HP := hid (put1_n (s := ⟨qt, ql, true⟩) (t := t) (by intro h; cases h.1))
     have HD := hid (show (decide (t = [40]) || decide (t = [46])) = false from by rw [HTE.out]; decide)
     go_wp2_with (first
      | (go_at_call 35; refine (wr_write t HS.out HRT.out (by have h : qt.length + t.length ≤ 1099511627775 := HLL.out; show qt.length + _ ≤ _; omega)).mono ?_; rintro e w2 ⟨rfl, g2, hc2, hk2_⟩; have e0 := cell_at hc2.box 1 rfl; have e1 := cell_at hc2.box 2 rfl; have x1 := frozen_of_row w2 H 1 _ _ hc2.box; have x2 := frozen_of_row w2 H 2 _ _ hc2.box; have HS2 := hid hc2; have HK2 := hid (HK.out.trans hk2_); clear hc2 hk2_)
      | fail)
     go_roundw
     case rel => exact ⟨k + 1, by omega, by go_num, g2, hid (by rw [HPT.out, HP.out, HD.out]; exact HS2.out.setLT HRT.out false), hid ((HK2.out.set _ _).set _ _)⟩
     case measure => simp [intOf]; omega
    have H44 := hid h_44
    clear h_44
    by_cases h_46 : t = [46]
    ·have HTE := hid h_46
     clear h_46
     have f41 : ((str t).toList == [41]) = false := (str_c t [41] HRT.out (rngB rfl) [41] rfl).trans (by rw [HTE.out]; decide)
     have g41 : ((str t).toList != [41]) = true := (str_n t [41] HRT.out (rngB rfl) [41] rfl).trans (by rw [HTE.out]; decide)
     have f44 : ((str t).toList == [44]) = false := (str_c t [44] HRT.out (rngB rfl) [44] rfl).trans (by rw [HTE.out]; decide)
     have g44 : ((str t).toList != [44]) = true := (str_n t [44] HRT.out (rngB rfl) [44] rfl).trans (by rw [HTE.out]; decide)
     have f46 : ((str t).toList == [46]) = true := (str_c t [46] HRT.out (rngB rfl) [46] rfl).trans (by rw [HTE.out]; decide)
     have g46 : ((str t).toList != [46]) = false := (str_n t [46] HRT.out (rngB rfl) [46] rfl).trans (by rw [HTE.out]; decide)
     have f40 : ((str t).toList == [40]) = false := (str_c t [40] HRT.out (rngB rfl) [40] rfl).trans (by rw [HTE.out]; decide)
     have g40 : ((str t).toList != [40]) = true := (str_n t [40] HRT.out (rngB rfl) [40] rfl).trans (by rw [HTE.out]; decide)
     have HP := hid (put1_n (s := ⟨qt, ql, true⟩) (t := t) (by intro h; cases h.1))
     have HD := hid (show (decide (t = [40]) || decide (t = [46])) = true from by rw [HTE.out]; decide)
     go_wp2_with (first
      | (go_at_call 35; refine (wr_write t HS.out HRT.out (by have h : qt.length + t.length ≤ 1099511627775 := HLL.out; show qt.length + _ ≤ _; omega)).mono ?_; rintro e w2 ⟨rfl, g2, hc2, hk2_⟩; have e0 := cell_at hc2.box 1 rfl; have e1 := cell_at hc2.box 2 rfl; have x1 := frozen_of_row w2 H 1 _ _ hc2.box; have x2 := frozen_of_row w2 H 2 _ _ hc2.box; have HS2 := hid hc2; have HK2 := hid (HK.out.trans hk2_); clear hc2 hk2_)
      | fail)
     go_roundw
     case rel => exact ⟨k + 1, by omega, by go_num, g2, hid (by rw [HPT.out, HP.out, HD.out]; exact HS2.out.setLT HRT.out true), hid ((HK2.out.set _ _).set _ _)⟩
     case measure => simp [intOf]; omega
    have H46 := hid h_46
    clear h_46
    by_cases h_40 : t = [40]
    ·have HTE := hid h_40
     clear h_40
     have f41 : ((str t).toList == [41]) = false := (str_c t [41] HRT.out (rngB rfl) [41] rfl).trans (by rw [HTE.out]; decide)
     have g41 : ((str t).toList != [41]) = true := (str_n t [41] HRT.out (rngB rfl) [41] rfl).trans (by rw [HTE.out]; decide)
     have f44 : ((str t).toList == [44]) = false := (str_c t [44] HRT.out (rngB rfl) [44] rfl).trans (by rw [HTE.out]; decide)
     have g44 : ((str t).toList != [44]) = true := (str_n t [44] HRT.out (rngB rfl) [44] rfl).trans (by rw [HTE.out]; decide)
     have f46 : ((str t).toList == [46]) = false := (str_c t [46] HRT.out (rngB rfl) [46] rfl).trans (by rw [HTE.out]; decide)
     have g46 : ((str t).toList != [46]) = true := (str_n t [46] HRT.out (rngB rfl) [46] rfl).trans (by rw [HTE.out]; decide)
     have f40 : ((str t).toList == [40]) = true := (str_c t [40] HRT.out (rngB rfl) [40] rfl).trans (by rw [HTE.out]; decide)
     have g40 : ((str t).toList != [40]) = false := (str_n t [40] HRT.out (rngB rfl) [40] rfl).trans (by rw [HTE.out]; decide)
     have HP := hid (put1_n (s := ⟨qt, ql, true⟩) (t := t) (by intro h; cases h.1))
     have HD := hid (show (decide (t = [40]) || decide (t = [46])) = true from by rw [HTE.out]; decide)
     go_wp2_with (first
      | (go_at_call 35; refine (wr_write t HS.out HRT.out (by have h : qt.length + t.length ≤ 1099511627775 := HLL.out; show qt.length + _ ≤ _; omega)).mono ?_; rintro e w2 ⟨rfl, g2, hc2, hk2_⟩; have e0 := cell_at hc2.box 1 rfl; have e1 := cell_at hc2.box 2 rfl; have x1 := frozen_of_row w2 H 1 _ _ hc2.box; have x2 := frozen_of_row w2 H 2 _ _ hc2.box; have HS2 := hid hc2; have HK2 := hid (HK.out.trans hk2_); clear hc2 hk2_)
      | fail)
     go_roundw
     case rel => exact ⟨k + 1, by omega, by go_num, g2, hid (by rw [HPT.out, HP.out, HD.out]; exact HS2.out.setLT HRT.out true), hid ((HK2.out.set _ _).set _ _)⟩
     case measure => simp [intOf]; omega
    have H40 := hid h_40
    clear h_40
    have f41 : ((str t).toList == [41]) = false := (str_c t [41] HRT.out (rngB rfl) [41] rfl).trans (decide_eq_false H41.out)
    have g41 : ((str t).toList != [41]) = true := (str_n t [41] HRT.out (rngB rfl) [41] rfl).trans (by rw [decide_eq_false H41.out]; rfl)
    have f44 : ((str t).toList == [44]) = false := (str_c t [44] HRT.out (rngB rfl) [44] rfl).trans (decide_eq_false H44.out)
    have g44 : ((str t).toList != [44]) = true := (str_n t [44] HRT.out (rngB rfl) [44] rfl).trans (by rw [decide_eq_false H44.out]; rfl)
    have f46 : ((str t).toList == [46]) = false := (str_c t [46] HRT.out (rngB rfl) [46] rfl).trans (decide_eq_false H46.out)
    have g46 : ((str t).toList != [46]) = true := (str_n t [46] HRT.out (rngB rfl) [46] rfl).trans (by rw [decide_eq_false H46.out]; rfl)
    have f40 : ((str t).toList == [40]) = false := (str_c t [40] HRT.out (rngB rfl) [40] rfl).trans (decide_eq_false H40.out)
    have g40 : ((str t).toList != [40]) = true := (str_n t [40] HRT.out (rngB rfl) [40] rfl).trans (by rw [decide_eq_false H40.out]; rfl)
    have HP := hid (put1_n (s := ⟨qt, ql, true⟩) (t := t) (by intro h; cases h.1))
    have HD := hid (show (decide (t = [40]) || decide (t = [46])) = false from by rw [decide_eq_false H40.out, decide_eq_false H46.out]; rfl)
    go_wp2_with (first
     | (go_at_call 35; refine (wr_write t HS.out HRT.out (by have h : qt.length + t.length ≤ 1099511627775 := HLL.out; show qt.length + _ ≤ _; omega)).mono ?_; rintro e w2 ⟨rfl, g2, hc2, hk2_⟩; have e0 := cell_at hc2.box 1 rfl; have e1 := cell_at hc2.box 2 rfl; have x1 := frozen_of_row w2 H 1 _ _ hc2.box; have x2 := frozen_of_row w2 H 2 _ _ hc2.box; have HS2 := hid hc2; have HK2 := hid (HK.out.trans hk2_); clear hc2 hk2_)
     | fail)
    go_roundw
    case rel => exact ⟨k + 1, by omega, by go_num, g2, hid (by rw [HPT.out, HP.out, HD.out]; exact HS2.out.setLT HRT.out false), hid ((HK2.out.set _ _).set _ _)⟩
    case measure => simp [intOf]; omega
  ·have hkn : k = n := by omega
   subst hkn
   have hcn : decide ((k : Int) < (k : Int)) = false := decide_eq_false (by omega)
   have HTK := hid (show ts.take k = ts from List.take_of_length_le (by rw [HM.out]; omega))
   go_wp2_with fail
   refine bodyPost_ret (results_none rfl _ _ _) rfl ?_
   exact ⟨rfl, gk, by have h := HS.out; rw [HTK.out] at h; exact h, HK.out⟩
end Go.Proofs.YtegkbagnbnoopaaGreatDoor
/- the writer of print, as a plain function -/
namespace Go.Proofs.YtegkbagnbnoopaaGreatDoor
/-- the operators: their texts, and how tightly they bind -/
def opsL : List (List Int × Int) := [([], 0), ([], 8), ([], 8), ([], 0), ([45], 7), ([43], 5), ([45], 5), ([42], 6), ([47], 6), ([37], 6), ([61], 4), ([60, 62], 4), ([60], 4), ([60, 61], 4), ([62], 4), ([62, 61], 4), ([110, 111, 116], 3), ([97, 110, 100], 2), ([111, 114], 1), ([105, 115, 32, 110, 117, 108, 108], 4), ([105, 115, 32, 110, 111, 116, 32, 110, 117, 108, 108], 4), ([99, 111, 117, 110, 116], 8), ([99, 111, 117, 110, 116], 8), ([115, 117, 109], 8), ([109, 105, 110], 8), ([109, 97, 120], 8), ([101, 120, 105, 115, 116, 115], 8), ([110, 111, 116, 32, 101, 120, 105, 115, 116, 115], 3), ([105, 110], 4), ([110, 111, 116, 32, 105, 110], 4)]
def opT (op : Int) : List Int := (opsL.getD op.toNat ([], 0)).1
def opL (op : Int) : Int := (opsL.getD op.toNat ([], 0)).2
def Wr.tight (s : Wr) : Wr := ⟨s.tx, s.la, true⟩
def Wr.par (f : Wr → Wr) (s : Wr) : Wr := (f (s.put [[40]])).put [[41]]
def byI (l : List UInt8) : List Int := l.map (fun c => (c.toNat : Int))
def valF (v : Val) (s : Wr) : Wr :=
 if v.k = 1 then s.put [byI (Lib.itoa v.n)]
 else if v.k = 2 then s.put [39 :: (byI (Lib.replaceAll (v.s.map (fun c => UInt8.ofNat c.toNat)) [39] [39, 39]) ++ [39])]
 else if v.k = 3 then s.put [if v.n = 1 then [116, 114, 117, 101] else [102, 97, 108, 115, 101]]
 else s.put [[110, 117, 108, 108]]
def refF (tb nm : List Int) (s : Wr) : Wr := if tb = [] then s.put [nm] else (s.put [tb, [46]]).put [nm]
def joinsF (op : Int) (v : Val) (s : Wr) : Bool := if op = 26 then decide (s.la = [110, 111, 116]) else if op = 1 then decide (s.la = [45]) && (s.ti && (decide (v.k = 1) && decide (0 ≤ v.n))) else false
def argF (l : List (Int → Wr → Wr)) (k : Nat) : Int → Wr → Wr := l.getD k (fun _ s => s)
def quF (l : List (Int × (Wr → Wr))) (k : Nat) : Int × (Wr → Wr) := l.getD k (0, fun s => s)
def opF (op : Int) (tb nm : List Int) (v : Val) (ar : List (Int → Wr → Wr)) (qs : List (Int × (Wr → Wr))) (s : Wr) : Wr :=
 if op = 1 then valF v s
 else if op = 2 then refF tb nm s
 else if op = 4 then argF ar 0 7 (s.put [opT op]).tight
 else if op = 16 then argF ar 0 3 (s.put [opT op])
 else if op = 19 ∨ op = 20 then (argF ar 0 5 s).put [opT op]
 else if op = 21 then Wr.par (fun s => s.put [[42]]) (s.put [opT op]).tight
 else if op = 22 ∨ op = 23 ∨ op = 24 ∨ op = 25 then Wr.par (argF ar 0 1) (s.put [opT op]).tight
 else if op = 26 ∨ op = 27 then Wr.par (quF qs 0).2 (s.put [opT op])
 else if op = 28 ∨ op = 29 then Wr.par (quF qs 0).2 ((argF ar 0 5 s).put [opT op])
 else argF ar 1 (opL op + 1) ((argF ar 0 (if opL op = 4 then 5 else opL op) s).put [opT op])
def operF (op : Int) (v : Val) (f : Wr → Wr) (least : Int) (s : Wr) : Wr := if opL op < least ∨ joinsF op v s = true then Wr.par f s else f s
/-- a list's elements with commas -/
def listF : Bool → List (Wr → Wr) → Wr → Wr
 | _, [], s => s
 | first, f :: l, s => listF false l (f (if first = true then s else s.put [[44]]))
def clauseF (kw : List Int) (l : List (Wr → Wr)) (s : Wr) : Wr := if l = [] then s else listF true l (s.put [kw])
def asF (nm : List Int) (s : Wr) : Wr := if nm = [] then s else s.put [[97, 115], nm]
def joinT (kind : Int) : List Int := if kind = 1 then [106, 111, 105, 110] else if kind = 2 then [108, 101, 102, 116, 32, 106, 111, 105, 110] else []
def unionT (op : Int) : List Int := if op = 2 then [117, 110, 105, 111, 110, 32, 97, 108, 108] else if op = 3 then [101, 120, 99, 101, 112, 116, 32, 97, 108, 108] else []
def unitF (p : Int × (Wr → Wr)) (s : Wr) : Wr := if p.1 = 1 then p.2 s else Wr.par p.2 s
mutual
def Ex.wr : Ex → Int → Wr → Wr
 | .mk op tb nm v args qs, least, s => operF op v (opF op tb nm v (exsWr args) (qusWr qs)) least s
def exsWr : List Ex → List (Int → Wr → Wr)
 | [] => []
 | x :: l => x.wr :: exsWr l
def Qu.bd : Qu → Wr → Wr
 | .mk op parts sel _ _ _, s => if op = 1 then sel.wr s else unitF (quF (qusWr parts) 1) (((quF (qusWr parts) 0).2 s).put [unionT op])
def qusWr : List Qu → List (Int × (Wr → Wr))
 | [] => []
 | x :: l => (x.op, x.bd) :: qusWr l
def Se.wr : Se → Wr → Wr
 | .mk dist items fro wh gr hv, s =>
  clauseF [104, 97, 118, 105, 110, 103] ((exsWr hv).map (fun f => f 1)) (clauseF [103, 114, 111, 117, 112, 32, 98, 121] ((exsWr gr).map (fun f => f 1)) (clauseF [119, 104, 101, 114, 101] ((exsWr wh).map (fun f => f 1))
   (sosWr fro ((listF true (itsWr items) (if dist = true then (s.put [[115, 101, 108, 101, 99, 116]]).put [[100, 105, 115, 116, 105, 110, 99, 116]] else s.put [[115, 101, 108, 101, 99, 116]])).put [[102, 114, 111, 109]]))))
def It.wr : It → Wr → Wr
 | .mk star x nm, s => if star = true then s.put [[42]] else asF nm (x.wr 1 s)
def itsWr : List It → List (Wr → Wr)
 | [] => []
 | x :: l => x.wr :: itsWr l
def So.wr : So → Wr → Wr
 | .mk kind tb q al on, s => clauseF [111, 110] ((exsWr on).map (fun f => f 1)) (asF al (if tb = [] then Wr.par (quF (qusWr q) 0).2 (if kind = 0 then s else s.put [joinT kind]) else (if kind = 0 then s else s.put [joinT kind]).put [tb]))
def sosWr : List So → Wr → Wr
 | [], s => s
 | x :: l, s => sosWr l (x.wr s)
def Ob.wr : Ob → Wr → Wr
 | .mk x down, s => if down = true then (x.wr 1 s).put [[100, 101, 115, 99]] else x.wr 1 s
def obsWr : List Ob → List (Wr → Wr)
 | [] => []
 | x :: l => x.wr :: obsWr l
end
def Qu.wr (x : Qu) (s : Wr) : Wr :=
 if x.lim = true then (if x.ord = [] then x.bd s else listF true (obsWr x.ord) ((x.bd s).put [[111, 114, 100, 101, 114, 32, 98, 121]])).put [[108, 105, 109, 105, 116], byI (Lib.itoa x.n)]
 else (if x.ord = [] then x.bd s else listF true (obsWr x.ord) ((x.bd s).put [[111, 114, 100, 101, 114, 32, 98, 121]]))
def wr0 : Wr := ⟨[], [], true⟩
/-- the text of a query, and its first error -/
def Qu.text (x : Qu) : List Int × Int := if (x.ck ck0).first ≠ 0 then ([], (x.ck ck0).first) else if 4096 < (x.wr wr0).tx.length then ([], 4) else ((x.wr wr0).tx, 0)
end Go.Proofs.YtegkbagnbnoopaaGreatDoor
/- the writer of print: putTight, inParens, list -/
namespace Go.Proofs.YtegkbagnbnoopaaGreatDoor
open Go.ChangeShapes Go.WideShapes Go.ChangeAt Go.RowKit Go.Deep
open Go.Lib (hid)
def Mo (f : Wr → Wr) : Prop := ∀ s, s.tx.length ≤ (f s).tx.length
/-- a method of a writer with one argument does f; with two -/
def W1 (w0 : World) (F : FuncId) (v : Value) (f : Wr → Wr) : Prop := ∀ (A H B : Nat) (g : Option Nat) (s : Wr) (u : World), w0.heap.size ≤ A → Below w0.heap.size w0 u → WrC u A H B g s → (f s).tx.length ≤ 1099511627775 → Calls Tryz.prog F #[.pointer (some ⟨H, 0, none⟩), v] u (WrE u A H B g (f s))
def W2 (w0 : World) (F : FuncId) (v v2 : Value) (f : Wr → Wr) : Prop := ∀ (A H B : Nat) (g : Option Nat) (s : Wr) (u : World), w0.heap.size ≤ A → Below w0.heap.size w0 u → WrC u A H B g s → (f s).tx.length ≤ 1099511627775 → Calls Tryz.prog F #[.pointer (some ⟨H, 0, none⟩), v, v2] u (WrE u A H B g (f s))
theorem WrE.from {w w1 w' : World} {A H B : Nat} {g g1 : Option Nat} {s : Wr} {e : Ending} (h : WrE w1 A H B g1 s e w') (k : WK H B w g w1 g1) : WrE w A H B g s e w' := by
 obtain ⟨h1, g', h2, h3⟩ := h
 exact ⟨h1, g', h2, k.trans h3⟩
theorem new_els {w : World} {A H B : Nat} {g : Option Nat} {s : Wr} (hc : WrC w A H B g s) (o : Obj) : Els H B (w.alloc o) g w.heap.size o := by
  refine ⟨heap_alloc_new w o, ?_, ?_, ?_⟩
  · have := bx_lt hc.box; omega
  · obtain ⟨hA, p, v, hp, hb, _⟩ := hc.bld
    have := bx_lt hb; omega
  · intro e
    have := (hc.bld.low w.heap.size (by rw [e])).2
    omega
theorem put_one {w : World} {A H B : Nat} {g : Option Nat} {s : Wr} (t : List Int) (c : ByteArray) (e : c = str t) (hc : WrC w A H B g s) (hr : Rng t) (hl : (s.put [t]).tx.length ≤ 1099511627775) :
  Calls Tryz.prog 47 #[.pointer (some ⟨H, 0, none⟩), .slice (some ⟨w.heap.size, 0, none⟩) 1 1] (w.alloc (.cells #[.string c] 9)) (WrE w A H B g (s.put [t])) := by
 subst e
 exact (put_any [t] w.heap.size (hc.alloc _) (new_els hc _) (fun l h => by rw [List.mem_singleton] at h; subst h; exact hr) (by simp) hl).mono (fun _ _ h => h.from ((WK.refl H B w g).alloc _))
theorem put_two {w : World} {A H B : Nat} {g : Option Nat} {s : Wr} (t t2 : List Int) (c c2 : ByteArray) (e : c = str t) (e2 : c2 = str t2) (hc : WrC w A H B g s) (hr : Rng t) (hr2 : Rng t2) (hl : (s.put [t, t2]).tx.length ≤ 1099511627775) :
  Calls Tryz.prog 47 #[.pointer (some ⟨H, 0, none⟩), .slice (some ⟨w.heap.size, 0, none⟩) 2 2] (w.alloc (.cells #[.string c, .string c2] 9)) (WrE w A H B g (s.put [t, t2])) := by
 subst e e2
 exact (put_any [t, t2] w.heap.size (hc.alloc _) (new_els hc _) (fun l h => by
  rcases List.mem_cons.1 h with rfl | h
  ·exact hr
  ·rw [List.mem_singleton] at h; subst h; exact hr2) (by simp) hl).mono (fun _ _ h => h.from ((WK.refl H B w g).alloc _))
theorem put_oneB {w : World} {A H B : Nat} {g : Option Nat} {s : Wr} (b : Nat) (hb : w.heap.size = b) (t : List Int) (c : ByteArray) (e : c = str t) (hc : WrC w A H B g s) (hr : Rng t) (hl : (s.put [t]).tx.length ≤ 1099511627775) :
  Calls Tryz.prog 47 #[.pointer (some ⟨H, 0, none⟩), .slice (some ⟨b, 0, none⟩) 1 1] (w.alloc (.cells #[.string c] 9)) (WrE w A H B g (s.put [t])) := by
 subst hb
 exact put_one t c e hc hr hl
theorem put_twoB {w : World} {A H B : Nat} {g : Option Nat} {s : Wr} (b : Nat) (hb : w.heap.size = b) (t t2 : List Int) (c c2 : ByteArray) (e : c = str t) (e2 : c2 = str t2) (hc : WrC w A H B g s) (hr : Rng t) (hr2 : Rng t2) (hl : (s.put [t, t2]).tx.length ≤ 1099511627775) :
  Calls Tryz.prog 47 #[.pointer (some ⟨H, 0, none⟩), .slice (some ⟨b, 0, none⟩) 2 2] (w.alloc (.cells #[.string c, .string c2] 9)) (WrE w A H B g (s.put [t, t2])) := by
 subst hb
 exact put_two t t2 c c2 e e2 hc hr hr2 hl
set_option maxRecDepth 100000 in
set_option maxHeartbeats 6400000 in
theorem putTight_any {w : World} {A H B : Nat} {g : Option Nat} {s : Wr} (t : List Int) (hc : WrC w A H B g s) (hr : Rng t) (hl : (s.put [t]).tx.length ≤ 1099511627775) :
  Calls Tryz.prog 121 #[.pointer (some ⟨H, 0, none⟩), .string (str t)] w (WrE w A H B g (s.put [t]).tight) := by
 have HP := hid (put_one t (str t) rfl hc hr hl)
 clear hr hl hc
 go_enter Tryz.func121, Tryz.ntmps121
 go_wp2_with (go_at_call 47; refine HP.out.mono ?_; clear HP; rintro e w1 ⟨rfl, g1, hc1, hk1⟩; have x2 := frozen_of_row w1 H 2 _ _ hc1.box; have c2 := cell_at hc1.box 2 rfl; have HS1 := hid hc1; have HK1 := hid hk1; clear hc1 hk1)
 refine bodyPost_ret (results_none rfl _ _ _) rfl ?_
 exact ⟨rfl, g1, HS1.out.setT true, HK1.out.set _ _⟩
set_option maxRecDepth 100000 in
set_option maxHeartbeats 6400000 in
theorem inParens_any {w : World} {A H B : Nat} {g : Option Nat} {s : Wr} (f : Wr → Wr) (q : FuncId) (caps : Array Value) (hc : WrC w A H B g s) (hf : Mo f) (hl : (Wr.par f s).tx.length ≤ 1099511627775)
  (hg : ∀ args u, (callFunc q args).run Tryz.prog u = .ok (.enter q args) u)
  (hP : ∀ (g1 : Option Nat) (u : World), WrC u A H B g1 (s.put [[40]]) → WK H B w g u g1 → (f (s.put [[40]])).tx.length ≤ 1099511627775 → Calls Tryz.prog q caps u (WrE u A H B g1 (f (s.put [[40]])))) :
  Calls Tryz.prog 79 #[.pointer (some ⟨H, 0, none⟩), .func (.func q) #[] caps] w (WrE w A H B g (Wr.par f s)) := by
 have l2 := put_mono (f (s.put [[40]])) [[41]]
 have l3 : ((f (s.put [[40]])).put [[41]]).tx.length ≤ 1099511627775 := hl
 have l1 := hf (s.put [[40]])
 have HP := hid (put_one [40] ⟨#[40]⟩ rfl hc (rngB rfl) (by omega))
 have HF := hid (fun g1 u h1 h2 => hP g1 u h1 h2 (by omega))
 have HG := hid hg
 have HQ := hid (fun (g2 : Option Nat) (u : World) (h : WrC u A H B g2 (f (s.put [[40]]))) => put_one [41] ⟨#[41]⟩ rfl h (rngB rfl) l3)
 have HE := hid (show Wr.par f s = (f (s.put [[40]])).put [[41]] from rfl)
 rw [HE.out]
 generalize f (s.put [[40]]) = s2 at *
 generalize s.put [[40]] = s1 at *
 clear hl l1 l2 l3 hc hP hg hf HE
 go_enter Tryz.func79, Tryz.ntmps79
 go_wp2_with (go_at_call 47; refine HP.out.mono ?_; clear HP; rintro e w1 ⟨rfl, g1, hc1, hk1⟩; have HS1 := hid hc1; have HK1 := hid hk1; clear hc1 hk1)
 rw [HG.out, Oper.upon_enter]
 refine (HF.out g1 w1 HS1.out HK1.out).mono ?_
 clear HF HG
 rintro e w2 ⟨rfl, g2, hc2, hk2⟩
 have HS2 := hid hc2
 have HK2 := hid (HK1.out.trans hk2)
 clear hc2 hk2
 go_wp2_with (go_at_call 47; refine (HQ.out g2 _ HS2.out).mono ?_; clear HQ; rintro e w3 ⟨rfl, g3, hc3, hk3⟩; have HS3 := hid hc3; have HK3 := hid (HK2.out.trans hk3); clear hc3 hk3)
 refine bodyPost_ret (results_none rfl _ _ _) rfl ?_
 exact ⟨rfl, g3, HS3.out, HK3.out⟩
theorem listF_snoc : ∀ (l : List (Wr → Wr)) (k : Nat) (f : Wr → Wr) (b : Bool) (s : Wr), l[k]? = some f → listF b (l.take (k + 1)) s = f (if (b && decide (k = 0)) = true then listF b (l.take k) s else (listF b (l.take k) s).put [[44]])
 | [], k, f, b, s, h => by simp at h
 | x :: l, 0, f, b, s, h => by
  injection h with h
  subst h
  simp [listF]
 | x :: l, k + 1, f, b, s, h => by
  have h : l[k]? = some f := by simpa using h
  show listF false (l.take (k + 1)) _ = _
  rw [listF_snoc l k f false _ h]
  have e : decide (k + 1 = 0) = false := decide_eq_false (by omega)
  rw [e, Bool.false_and, Bool.and_false]
  rfl
theorem listF_mo : ∀ (l : List (Wr → Wr)) (b : Bool), (∀ f ∈ l, Mo f) → Mo (listF b l)
 | [], _, _ => fun s => Nat.le_refl _
 | x :: l, b, h => fun s => by
  have h1 := listF_mo l false (fun f hf => h f (List.mem_cons_of_mem _ hf)) (x (if b = true then s else s.put [[44]]))
  have h2 := h x List.mem_cons_self (if b = true then s else s.put [[44]])
  have h3 := put_mono s [[44]]
  show _ ≤ (listF false l (x (if b = true then s else s.put [[44]]))).tx.length
  split at h2 <;> split at h1 <;> simp_all <;> omega
theorem listF_part : ∀ (l : List (Wr → Wr)) (k : Nat) (b : Bool) (s : Wr), (∀ f ∈ l, Mo f) → (listF b (l.take k) s).tx.length ≤ (listF b l s).tx.length
 | [], k, b, s, h => by simp
 | x :: l, 0, b, s, h => listF_mo (x :: l) b h s
 | x :: l, k + 1, b, s, h => listF_part l k false _ (fun f hf => h f (List.mem_cons_of_mem _ hf))
end Go.Proofs.YtegkbagnbnoopaaGreatDoor
