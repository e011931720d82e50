/- scan.Name: which strings are names -/
import Derived.Test.YtegkbagnbnoopaaGreatDoorPs02
import Derived.Test.YtegkbagnbnoopaaGreatDoorPs09
namespace Go.Proofs.YtegkbagnbnoopaaGreatDoor
open Go.ChangeShapes Go.WideShapes Go.ChangeAt Go.RowKit Go.Deep
open Go.Lib (hid)
def BO (w : World) (b : Bool) : Ending → World → Prop := fun e w' => e = .returned (.bool b) ∧ Below w.heap.size w w'
theorem isLetter_any (c : Int) (w : World) : Calls Tryz.prog 100 #[.int .u8 c] w (BO w (lett c)) := by
 by_cases h1 : 97 ≤ c
 ·have d1 : decide (97 ≤ c) = true := decide_eq_true h1
  by_cases h2 : c ≤ 122
  ·have d2 : decide (c ≤ 122) = true := decide_eq_true h2
   go_enter Tryz.func100, Tryz.ntmps100
   go_wp2_with fail
   go_ret
   exact ⟨by rw [lett, d1, d2]; rfl, Below.refl _ _⟩
  ·have d2 : decide (c ≤ 122) = false := decide_eq_false h2
   go_enter Tryz.func100, Tryz.ntmps100
   go_wp2_with fail
   go_ret
   exact ⟨by rw [lett, d1, d2]; rfl, Below.refl _ _⟩
 ·have d1 : decide (97 ≤ c) = false := decide_eq_false h1
  go_enter Tryz.func100, Tryz.ntmps100
  go_wp2_with fail
  go_ret
  exact ⟨by rw [lett, d1]; rfl, Below.refl _ _⟩
theorem isDigit_any (c : Int) (w : World) : Calls Tryz.prog 116 #[.int .u8 c] w (BO w (digt c)) := by
 by_cases h1 : 48 ≤ c
 ·have d1 : decide (48 ≤ c) = true := decide_eq_true h1
  by_cases h2 : c ≤ 57
  ·have d2 : decide (c ≤ 57) = true := decide_eq_true h2
   go_enter Tryz.func116, Tryz.ntmps116
   go_wp2_with fail
   go_ret
   exact ⟨by rw [digt, d1, d2]; rfl, Below.refl _ _⟩
  ·have d2 : decide (c ≤ 57) = false := decide_eq_false h2
   go_enter Tryz.func116, Tryz.ntmps116
   go_wp2_with fail
   go_ret
   exact ⟨by rw [digt, d1, d2]; rfl, Below.refl _ _⟩
 ·have d1 : decide (48 ≤ c) = false := decide_eq_false h1
  go_enter Tryz.func116, Tryz.ntmps116
  go_wp2_with fail
  go_ret
  exact ⟨by rw [digt, d1]; rfl, Below.refl _ _⟩
theorem isLD_any (c : Int) (w : World) : Calls Tryz.prog 102 #[.int .u8 c] w (BO w (lett c || digt c)) := by
 have HL := hid (isLetter_any c w)
 have HD := hid (fun u => isDigit_any c u)
 generalize lett c = a at *
 generalize digt c = b at *
 cases a
 all_goals
  go_enter Tryz.func102, Tryz.ntmps102
  go_wp2_with (first
   | (go_at_call 100; refine HL.out.mono ?_; rintro e w1 ⟨rfl, hb⟩; have HB1 := hid hb; clear hb)
   | (go_at_call 116; refine (HD.out _).mono ?_; rintro e w2 ⟨rfl, hb⟩; have HB2 := hid hb; clear hb))
  go_ret
  exact ⟨rfl, by first | exact HB1.out.trans (HB2.out.mono HB1.out.size) | exact HB1.out⟩
theorem str_toL (l : List Int) : (str l).toList = l.map (fun x => UInt8.ofNat x.toNat) := by rw [ByteArray.toList_eq]; simp [str]
theorem word_0 (l : List Int) (w : World) (hl : l = [115, 101, 108, 101, 99, 116]) : Calls Tryz.prog 103 #[.string (str l)] w (BO w true) := by
 have f0 : ((str l).toList == [115, 101, 108, 101, 99, 116]) = true := by rw [hl, str_toL]; rfl
 clear hl
 go_enter Tryz.func103, Tryz.ntmps103
 go_wp2_with fail
 go_ret
 exact ⟨rfl, Below.refl _ _⟩
theorem word_1 (l : List Int) (w : World) (hl : l = [100, 105, 115, 116, 105, 110, 99, 116]) : Calls Tryz.prog 103 #[.string (str l)] w (BO w true) := by
 have f0 : ((str l).toList == [115, 101, 108, 101, 99, 116]) = false := by rw [hl, str_toL]; rfl
 have f1 : ((str l).toList == [100, 105, 115, 116, 105, 110, 99, 116]) = true := by rw [hl, str_toL]; rfl
 clear hl
 go_enter Tryz.func103, Tryz.ntmps103
 go_wp2_with fail
 go_ret
 exact ⟨rfl, Below.refl _ _⟩
theorem word_2 (l : List Int) (w : World) (hl : l = [102, 114, 111, 109]) : Calls Tryz.prog 103 #[.string (str l)] w (BO w true) := by
 have f0 : ((str l).toList == [115, 101, 108, 101, 99, 116]) = false := by rw [hl, str_toL]; rfl
 have f1 : ((str l).toList == [100, 105, 115, 116, 105, 110, 99, 116]) = false := by rw [hl, str_toL]; rfl
 have f2 : ((str l).toList == [102, 114, 111, 109]) = true := by rw [hl, str_toL]; rfl
 clear hl
 go_enter Tryz.func103, Tryz.ntmps103
 go_wp2_with fail
 go_ret
 exact ⟨rfl, Below.refl _ _⟩
theorem word_3 (l : List Int) (w : World) (hl : l = [106, 111, 105, 110]) : Calls Tryz.prog 103 #[.string (str l)] w (BO w true) := by
 have f0 : ((str l).toList == [115, 101, 108, 101, 99, 116]) = false := by rw [hl, str_toL]; rfl
 have f1 : ((str l).toList == [100, 105, 115, 116, 105, 110, 99, 116]) = false := by rw [hl, str_toL]; rfl
 have f2 : ((str l).toList == [102, 114, 111, 109]) = false := by rw [hl, str_toL]; rfl
 have f3 : ((str l).toList == [106, 111, 105, 110]) = true := by rw [hl, str_toL]; rfl
 clear hl
 go_enter Tryz.func103, Tryz.ntmps103
 go_wp2_with fail
 go_ret
 exact ⟨rfl, Below.refl _ _⟩
theorem word_4 (l : List Int) (w : World) (hl : l = [108, 101, 102, 116]) : Calls Tryz.prog 103 #[.string (str l)] w (BO w true) := by
 have f0 : ((str l).toList == [115, 101, 108, 101, 99, 116]) = false := by rw [hl, str_toL]; rfl
 have f1 : ((str l).toList == [100, 105, 115, 116, 105, 110, 99, 116]) = false := by rw [hl, str_toL]; rfl
 have f2 : ((str l).toList == [102, 114, 111, 109]) = false := by rw [hl, str_toL]; rfl
 have f3 : ((str l).toList == [106, 111, 105, 110]) = false := by rw [hl, str_toL]; rfl
 have f4 : ((str l).toList == [108, 101, 102, 116]) = true := by rw [hl, str_toL]; rfl
 clear hl
 go_enter Tryz.func103, Tryz.ntmps103
 go_wp2_with fail
 go_ret
 exact ⟨rfl, Below.refl _ _⟩
theorem word_5 (l : List Int) (w : World) (hl : l = [111, 110]) : Calls Tryz.prog 103 #[.string (str l)] w (BO w true) := by
 have f0 : ((str l).toList == [115, 101, 108, 101, 99, 116]) = false := by rw [hl, str_toL]; rfl
 have f1 : ((str l).toList == [100, 105, 115, 116, 105, 110, 99, 116]) = false := by rw [hl, str_toL]; rfl
 have f2 : ((str l).toList == [102, 114, 111, 109]) = false := by rw [hl, str_toL]; rfl
 have f3 : ((str l).toList == [106, 111, 105, 110]) = false := by rw [hl, str_toL]; rfl
 have f4 : ((str l).toList == [108, 101, 102, 116]) = false := by rw [hl, str_toL]; rfl
 have f5 : ((str l).toList == [111, 110]) = true := by rw [hl, str_toL]; rfl
 clear hl
 go_enter Tryz.func103, Tryz.ntmps103
 go_wp2_with fail
 go_ret
 exact ⟨rfl, Below.refl _ _⟩
theorem word_6 (l : List Int) (w : World) (hl : l = [119, 104, 101, 114, 101]) : Calls Tryz.prog 103 #[.string (str l)] w (BO w true) := by
 have f0 : ((str l).toList == [115, 101, 108, 101, 99, 116]) = false := by rw [hl, str_toL]; rfl
 have f1 : ((str l).toList == [100, 105, 115, 116, 105, 110, 99, 116]) = false := by rw [hl, str_toL]; rfl
 have f2 : ((str l).toList == [102, 114, 111, 109]) = false := by rw [hl, str_toL]; rfl
 have f3 : ((str l).toList == [106, 111, 105, 110]) = false := by rw [hl, str_toL]; rfl
 have f4 : ((str l).toList == [108, 101, 102, 116]) = false := by rw [hl, str_toL]; rfl
 have f5 : ((str l).toList == [111, 110]) = false := by rw [hl, str_toL]; rfl
 have f6 : ((str l).toList == [119, 104, 101, 114, 101]) = true := by rw [hl, str_toL]; rfl
 clear hl
 go_enter Tryz.func103, Tryz.ntmps103
 go_wp2_with fail
 go_ret
 exact ⟨rfl, Below.refl _ _⟩
theorem word_7 (l : List Int) (w : World) (hl : l = [103, 114, 111, 117, 112]) : Calls Tryz.prog 103 #[.string (str l)] w (BO w true) := by
 have f0 : ((str l).toList == [115, 101, 108, 101, 99, 116]) = false := by rw [hl, str_toL]; rfl
 have f1 : ((str l).toList == [100, 105, 115, 116, 105, 110, 99, 116]) = false := by rw [hl, str_toL]; rfl
 have f2 : ((str l).toList == [102, 114, 111, 109]) = false := by rw [hl, str_toL]; rfl
 have f3 : ((str l).toList == [106, 111, 105, 110]) = false := by rw [hl, str_toL]; rfl
 have f4 : ((str l).toList == [108, 101, 102, 116]) = false := by rw [hl, str_toL]; rfl
 have f5 : ((str l).toList == [111, 110]) = false := by rw [hl, str_toL]; rfl
 have f6 : ((str l).toList == [119, 104, 101, 114, 101]) = false := by rw [hl, str_toL]; rfl
 have f7 : ((str l).toList == [103, 114, 111, 117, 112]) = true := by rw [hl, str_toL]; rfl
 clear hl
 go_enter Tryz.func103, Tryz.ntmps103
 go_wp2_with fail
 go_ret
 exact ⟨rfl, Below.refl _ _⟩
theorem word_8 (l : List Int) (w : World) (hl : l = [98, 121]) : Calls Tryz.prog 103 #[.string (str l)] w (BO w true) := by
 have f0 : ((str l).toList == [115, 101, 108, 101, 99, 116]) = false := by rw [hl, str_toL]; rfl
 have f1 : ((str l).toList == [100, 105, 115, 116, 105, 110, 99, 116]) = false := by rw [hl, str_toL]; rfl
 have f2 : ((str l).toList == [102, 114, 111, 109]) = false := by rw [hl, str_toL]; rfl
 have f3 : ((str l).toList == [106, 111, 105, 110]) = false := by rw [hl, str_toL]; rfl
 have f4 : ((str l).toList == [108, 101, 102, 116]) = false := by rw [hl, str_toL]; rfl
 have f5 : ((str l).toList == [111, 110]) = false := by rw [hl, str_toL]; rfl
 have f6 : ((str l).toList == [119, 104, 101, 114, 101]) = false := by rw [hl, str_toL]; rfl
 have f7 : ((str l).toList == [103, 114, 111, 117, 112]) = false := by rw [hl, str_toL]; rfl
 have f8 : ((str l).toList == [98, 121]) = true := by rw [hl, str_toL]; rfl
 clear hl
 go_enter Tryz.func103, Tryz.ntmps103
 go_wp2_with fail
 go_ret
 exact ⟨rfl, Below.refl _ _⟩
theorem word_9 (l : List Int) (w : World) (hl : l = [104, 97, 118, 105, 110, 103]) : Calls Tryz.prog 103 #[.string (str l)] w (BO w true) := by
 have f0 : ((str l).toList == [115, 101, 108, 101, 99, 116]) = false := by rw [hl, str_toL]; rfl
 have f1 : ((str l).toList == [100, 105, 115, 116, 105, 110, 99, 116]) = false := by rw [hl, str_toL]; rfl
 have f2 : ((str l).toList == [102, 114, 111, 109]) = false := by rw [hl, str_toL]; rfl
 have f3 : ((str l).toList == [106, 111, 105, 110]) = false := by rw [hl, str_toL]; rfl
 have f4 : ((str l).toList == [108, 101, 102, 116]) = false := by rw [hl, str_toL]; rfl
 have f5 : ((str l).toList == [111, 110]) = false := by rw [hl, str_toL]; rfl
 have f6 : ((str l).toList == [119, 104, 101, 114, 101]) = false := by rw [hl, str_toL]; rfl
 have f7 : ((str l).toList == [103, 114, 111, 117, 112]) = false := by rw [hl, str_toL]; rfl
 have f8 : ((str l).toList == [98, 121]) = false := by rw [hl, str_toL]; rfl
 have f9 : ((str l).toList == [104, 97, 118, 105, 110, 103]) = true := by rw [hl, str_toL]; rfl
 clear hl
 go_enter Tryz.func103, Tryz.ntmps103
 go_wp2_with fail
 go_ret
 exact ⟨rfl, Below.refl _ _⟩
theorem word_10 (l : List Int) (w : World) (hl : l = [111, 114, 100, 101, 114]) : Calls Tryz.prog 103 #[.string (str l)] w (BO w true) := by
 have f0 : ((str l).toList == [115, 101, 108, 101, 99, 116]) = false := by rw [hl, str_toL]; rfl
 have f1 : ((str l).toList == [100, 105, 115, 116, 105, 110, 99, 116]) = false := by rw [hl, str_toL]; rfl
 have f2 : ((str l).toList == [102, 114, 111, 109]) = false := by rw [hl, str_toL]; rfl
 have f3 : ((str l).toList == [106, 111, 105, 110]) = false := by rw [hl, str_toL]; rfl
 have f4 : ((str l).toList == [108, 101, 102, 116]) = false := by rw [hl, str_toL]; rfl
 have f5 : ((str l).toList == [111, 110]) = false := by rw [hl, str_toL]; rfl
 have f6 : ((str l).toList == [119, 104, 101, 114, 101]) = false := by rw [hl, str_toL]; rfl
 have f7 : ((str l).toList == [103, 114, 111, 117, 112]) = false := by rw [hl, str_toL]; rfl
 have f8 : ((str l).toList == [98, 121]) = false := by rw [hl, str_toL]; rfl
 have f9 : ((str l).toList == [104, 97, 118, 105, 110, 103]) = false := by rw [hl, str_toL]; rfl
 have f10 : ((str l).toList == [111, 114, 100, 101, 114]) = true := by rw [hl, str_toL]; rfl
 clear hl
 go_enter Tryz.func103, Tryz.ntmps103
 go_wp2_with fail
 go_ret
 exact ⟨rfl, Below.refl _ _⟩
theorem word_11 (l : List Int) (w : World) (hl : l = [100, 101, 115, 99]) : Calls Tryz.prog 103 #[.string (str l)] w (BO w true) := by
 have f0 : ((str l).toList == [115, 101, 108, 101, 99, 116]) = false := by rw [hl, str_toL]; rfl
 have f1 : ((str l).toList == [100, 105, 115, 116, 105, 110, 99, 116]) = false := by rw [hl, str_toL]; rfl
 have f2 : ((str l).toList == [102, 114, 111, 109]) = false := by rw [hl, str_toL]; rfl
 have f3 : ((str l).toList == [106, 111, 105, 110]) = false := by rw [hl, str_toL]; rfl
 have f4 : ((str l).toList == [108, 101, 102, 116]) = false := by rw [hl, str_toL]; rfl
 have f5 : ((str l).toList == [111, 110]) = false := by rw [hl, str_toL]; rfl
 have f6 : ((str l).toList == [119, 104, 101, 114, 101]) = false := by rw [hl, str_toL]; rfl
 have f7 : ((str l).toList == [103, 114, 111, 117, 112]) = false := by rw [hl, str_toL]; rfl
 have f8 : ((str l).toList == [98, 121]) = false := by rw [hl, str_toL]; rfl
 have f9 : ((str l).toList == [104, 97, 118, 105, 110, 103]) = false := by rw [hl, str_toL]; rfl
 have f10 : ((str l).toList == [111, 114, 100, 101, 114]) = false := by rw [hl, str_toL]; rfl
 have f11 : ((str l).toList == [100, 101, 115, 99]) = true := by rw [hl, str_toL]; rfl
 clear hl
 go_enter Tryz.func103, Tryz.ntmps103
 go_wp2_with fail
 go_ret
 exact ⟨rfl, Below.refl _ _⟩
theorem word_12 (l : List Int) (w : World) (hl : l = [108, 105, 109, 105, 116]) : Calls Tryz.prog 103 #[.string (str l)] w (BO w true) := by
 have f0 : ((str l).toList == [115, 101, 108, 101, 99, 116]) = false := by rw [hl, str_toL]; rfl
 have f1 : ((str l).toList == [100, 105, 115, 116, 105, 110, 99, 116]) = false := by rw [hl, str_toL]; rfl
 have f2 : ((str l).toList == [102, 114, 111, 109]) = false := by rw [hl, str_toL]; rfl
 have f3 : ((str l).toList == [106, 111, 105, 110]) = false := by rw [hl, str_toL]; rfl
 have f4 : ((str l).toList == [108, 101, 102, 116]) = false := by rw [hl, str_toL]; rfl
 have f5 : ((str l).toList == [111, 110]) = false := by rw [hl, str_toL]; rfl
 have f6 : ((str l).toList == [119, 104, 101, 114, 101]) = false := by rw [hl, str_toL]; rfl
 have f7 : ((str l).toList == [103, 114, 111, 117, 112]) = false := by rw [hl, str_toL]; rfl
 have f8 : ((str l).toList == [98, 121]) = false := by rw [hl, str_toL]; rfl
 have f9 : ((str l).toList == [104, 97, 118, 105, 110, 103]) = false := by rw [hl, str_toL]; rfl
 have f10 : ((str l).toList == [111, 114, 100, 101, 114]) = false := by rw [hl, str_toL]; rfl
 have f11 : ((str l).toList == [100, 101, 115, 99]) = false := by rw [hl, str_toL]; rfl
 have f12 : ((str l).toList == [108, 105, 109, 105, 116]) = true := by rw [hl, str_toL]; rfl
 clear hl
 go_enter Tryz.func103, Tryz.ntmps103
 go_wp2_with fail
 go_ret
 exact ⟨rfl, Below.refl _ _⟩
theorem word_13 (l : List Int) (w : World) (hl : l = [117, 110, 105, 111, 110]) : Calls Tryz.prog 103 #[.string (str l)] w (BO w true) := by
 have f0 : ((str l).toList == [115, 101, 108, 101, 99, 116]) = false := by rw [hl, str_toL]; rfl
 have f1 : ((str l).toList == [100, 105, 115, 116, 105, 110, 99, 116]) = false := by rw [hl, str_toL]; rfl
 have f2 : ((str l).toList == [102, 114, 111, 109]) = false := by rw [hl, str_toL]; rfl
 have f3 : ((str l).toList == [106, 111, 105, 110]) = false := by rw [hl, str_toL]; rfl
 have f4 : ((str l).toList == [108, 101, 102, 116]) = false := by rw [hl, str_toL]; rfl
 have f5 : ((str l).toList == [111, 110]) = false := by rw [hl, str_toL]; rfl
 have f6 : ((str l).toList == [119, 104, 101, 114, 101]) = false := by rw [hl, str_toL]; rfl
 have f7 : ((str l).toList == [103, 114, 111, 117, 112]) = false := by rw [hl, str_toL]; rfl
 have f8 : ((str l).toList == [98, 121]) = false := by rw [hl, str_toL]; rfl
 have f9 : ((str l).toList == [104, 97, 118, 105, 110, 103]) = false := by rw [hl, str_toL]; rfl
 have f10 : ((str l).toList == [111, 114, 100, 101, 114]) = false := by rw [hl, str_toL]; rfl
 have f11 : ((str l).toList == [100, 101, 115, 99]) = false := by rw [hl, str_toL]; rfl
 have f12 : ((str l).toList == [108, 105, 109, 105, 116]) = false := by rw [hl, str_toL]; rfl
 have f13 : ((str l).toList == [117, 110, 105, 111, 110]) = true := by rw [hl, str_toL]; rfl
 clear hl
 go_enter Tryz.func103, Tryz.ntmps103
 go_wp2_with fail
 go_ret
 exact ⟨rfl, Below.refl _ _⟩
theorem word_14 (l : List Int) (w : World) (hl : l = [97, 108, 108]) : Calls Tryz.prog 103 #[.string (str l)] w (BO w true) := by
 have f0 : ((str l).toList == [115, 101, 108, 101, 99, 116]) = false := by rw [hl, str_toL]; rfl
 have f1 : ((str l).toList == [100, 105, 115, 116, 105, 110, 99, 116]) = false := by rw [hl, str_toL]; rfl
 have f2 : ((str l).toList == [102, 114, 111, 109]) = false := by rw [hl, str_toL]; rfl
 have f3 : ((str l).toList == [106, 111, 105, 110]) = false := by rw [hl, str_toL]; rfl
 have f4 : ((str l).toList == [108, 101, 102, 116]) = false := by rw [hl, str_toL]; rfl
 have f5 : ((str l).toList == [111, 110]) = false := by rw [hl, str_toL]; rfl
 have f6 : ((str l).toList == [119, 104, 101, 114, 101]) = false := by rw [hl, str_toL]; rfl
 have f7 : ((str l).toList == [103, 114, 111, 117, 112]) = false := by rw [hl, str_toL]; rfl
 have f8 : ((str l).toList == [98, 121]) = false := by rw [hl, str_toL]; rfl
 have f9 : ((str l).toList == [104, 97, 118, 105, 110, 103]) = false := by rw [hl, str_toL]; rfl
 have f10 : ((str l).toList == [111, 114, 100, 101, 114]) = false := by rw [hl, str_toL]; rfl
 have f11 : ((str l).toList == [100, 101, 115, 99]) = false := by rw [hl, str_toL]; rfl
 have f12 : ((str l).toList == [108, 105, 109, 105, 116]) = false := by rw [hl, str_toL]; rfl
 have f13 : ((str l).toList == [117, 110, 105, 111, 110]) = false := by rw [hl, str_toL]; rfl
 have f14 : ((str l).toList == [97, 108, 108]) = true := by rw [hl, str_toL]; rfl
 clear hl
 go_enter Tryz.func103, Tryz.ntmps103
 go_wp2_with fail
 go_ret
 exact ⟨rfl, Below.refl _ _⟩
theorem word_15 (l : List Int) (w : World) (hl : l = [101, 120, 99, 101, 112, 116]) : Calls Tryz.prog 103 #[.string (str l)] w (BO w true) := by
 have f0 : ((str l).toList == [115, 101, 108, 101, 99, 116]) = false := by rw [hl, str_toL]; rfl
 have f1 : ((str l).toList == [100, 105, 115, 116, 105, 110, 99, 116]) = false := by rw [hl, str_toL]; rfl
 have f2 : ((str l).toList == [102, 114, 111, 109]) = false := by rw [hl, str_toL]; rfl
 have f3 : ((str l).toList == [106, 111, 105, 110]) = false := by rw [hl, str_toL]; rfl
 have f4 : ((str l).toList == [108, 101, 102, 116]) = false := by rw [hl, str_toL]; rfl
 have f5 : ((str l).toList == [111, 110]) = false := by rw [hl, str_toL]; rfl
 have f6 : ((str l).toList == [119, 104, 101, 114, 101]) = false := by rw [hl, str_toL]; rfl
 have f7 : ((str l).toList == [103, 114, 111, 117, 112]) = false := by rw [hl, str_toL]; rfl
 have f8 : ((str l).toList == [98, 121]) = false := by rw [hl, str_toL]; rfl
 have f9 : ((str l).toList == [104, 97, 118, 105, 110, 103]) = false := by rw [hl, str_toL]; rfl
 have f10 : ((str l).toList == [111, 114, 100, 101, 114]) = false := by rw [hl, str_toL]; rfl
 have f11 : ((str l).toList == [100, 101, 115, 99]) = false := by rw [hl, str_toL]; rfl
 have f12 : ((str l).toList == [108, 105, 109, 105, 116]) = false := by rw [hl, str_toL]; rfl
 have f13 : ((str l).toList == [117, 110, 105, 111, 110]) = false := by rw [hl, str_toL]; rfl
 have f14 : ((str l).toList == [97, 108, 108]) = false := by rw [hl, str_toL]; rfl
 have f15 : ((str l).toList == [101, 120, 99, 101, 112, 116]) = true := by rw [hl, str_toL]; rfl
 clear hl
 go_enter Tryz.func103, Tryz.ntmps103
 go_wp2_with fail
 go_ret
 exact ⟨rfl, Below.refl _ _⟩
theorem word_16 (l : List Int) (w : World) (hl : l = [97, 115]) : Calls Tryz.prog 103 #[.string (str l)] w (BO w true) := by
 have f0 : ((str l).toList == [115, 101, 108, 101, 99, 116]) = false := by rw [hl, str_toL]; rfl
 have f1 : ((str l).toList == [100, 105, 115, 116, 105, 110, 99, 116]) = false := by rw [hl, str_toL]; rfl
 have f2 : ((str l).toList == [102, 114, 111, 109]) = false := by rw [hl, str_toL]; rfl
 have f3 : ((str l).toList == [106, 111, 105, 110]) = false := by rw [hl, str_toL]; rfl
 have f4 : ((str l).toList == [108, 101, 102, 116]) = false := by rw [hl, str_toL]; rfl
 have f5 : ((str l).toList == [111, 110]) = false := by rw [hl, str_toL]; rfl
 have f6 : ((str l).toList == [119, 104, 101, 114, 101]) = false := by rw [hl, str_toL]; rfl
 have f7 : ((str l).toList == [103, 114, 111, 117, 112]) = false := by rw [hl, str_toL]; rfl
 have f8 : ((str l).toList == [98, 121]) = false := by rw [hl, str_toL]; rfl
 have f9 : ((str l).toList == [104, 97, 118, 105, 110, 103]) = false := by rw [hl, str_toL]; rfl
 have f10 : ((str l).toList == [111, 114, 100, 101, 114]) = false := by rw [hl, str_toL]; rfl
 have f11 : ((str l).toList == [100, 101, 115, 99]) = false := by rw [hl, str_toL]; rfl
 have f12 : ((str l).toList == [108, 105, 109, 105, 116]) = false := by rw [hl, str_toL]; rfl
 have f13 : ((str l).toList == [117, 110, 105, 111, 110]) = false := by rw [hl, str_toL]; rfl
 have f14 : ((str l).toList == [97, 108, 108]) = false := by rw [hl, str_toL]; rfl
 have f15 : ((str l).toList == [101, 120, 99, 101, 112, 116]) = false := by rw [hl, str_toL]; rfl
 have f16 : ((str l).toList == [97, 115]) = true := by rw [hl, str_toL]; rfl
 clear hl
 go_enter Tryz.func103, Tryz.ntmps103
 go_wp2_with fail
 go_ret
 exact ⟨rfl, Below.refl _ _⟩
theorem word_17 (l : List Int) (w : World) (hl : l = [97, 110, 100]) : Calls Tryz.prog 103 #[.string (str l)] w (BO w true) := by
 have f0 : ((str l).toList == [115, 101, 108, 101, 99, 116]) = false := by rw [hl, str_toL]; rfl
 have f1 : ((str l).toList == [100, 105, 115, 116, 105, 110, 99, 116]) = false := by rw [hl, str_toL]; rfl
 have f2 : ((str l).toList == [102, 114, 111, 109]) = false := by rw [hl, str_toL]; rfl
 have f3 : ((str l).toList == [106, 111, 105, 110]) = false := by rw [hl, str_toL]; rfl
 have f4 : ((str l).toList == [108, 101, 102, 116]) = false := by rw [hl, str_toL]; rfl
 have f5 : ((str l).toList == [111, 110]) = false := by rw [hl, str_toL]; rfl
 have f6 : ((str l).toList == [119, 104, 101, 114, 101]) = false := by rw [hl, str_toL]; rfl
 have f7 : ((str l).toList == [103, 114, 111, 117, 112]) = false := by rw [hl, str_toL]; rfl
 have f8 : ((str l).toList == [98, 121]) = false := by rw [hl, str_toL]; rfl
 have f9 : ((str l).toList == [104, 97, 118, 105, 110, 103]) = false := by rw [hl, str_toL]; rfl
 have f10 : ((str l).toList == [111, 114, 100, 101, 114]) = false := by rw [hl, str_toL]; rfl
 have f11 : ((str l).toList == [100, 101, 115, 99]) = false := by rw [hl, str_toL]; rfl
 have f12 : ((str l).toList == [108, 105, 109, 105, 116]) = false := by rw [hl, str_toL]; rfl
 have f13 : ((str l).toList == [117, 110, 105, 111, 110]) = false := by rw [hl, str_toL]; rfl
 have f14 : ((str l).toList == [97, 108, 108]) = false := by rw [hl, str_toL]; rfl
 have f15 : ((str l).toList == [101, 120, 99, 101, 112, 116]) = false := by rw [hl, str_toL]; rfl
 have f16 : ((str l).toList == [97, 115]) = false := by rw [hl, str_toL]; rfl
 have f17 : ((str l).toList == [97, 110, 100]) = true := by rw [hl, str_toL]; rfl
 clear hl
 go_enter Tryz.func103, Tryz.ntmps103
 go_wp2_with fail
 go_ret
 exact ⟨rfl, Below.refl _ _⟩
theorem word_18 (l : List Int) (w : World) (hl : l = [111, 114]) : Calls Tryz.prog 103 #[.string (str l)] w (BO w true) := by
 have f0 : ((str l).toList == [115, 101, 108, 101, 99, 116]) = false := by rw [hl, str_toL]; rfl
 have f1 : ((str l).toList == [100, 105, 115, 116, 105, 110, 99, 116]) = false := by rw [hl, str_toL]; rfl
 have f2 : ((str l).toList == [102, 114, 111, 109]) = false := by rw [hl, str_toL]; rfl
 have f3 : ((str l).toList == [106, 111, 105, 110]) = false := by rw [hl, str_toL]; rfl
 have f4 : ((str l).toList == [108, 101, 102, 116]) = false := by rw [hl, str_toL]; rfl
 have f5 : ((str l).toList == [111, 110]) = false := by rw [hl, str_toL]; rfl
 have f6 : ((str l).toList == [119, 104, 101, 114, 101]) = false := by rw [hl, str_toL]; rfl
 have f7 : ((str l).toList == [103, 114, 111, 117, 112]) = false := by rw [hl, str_toL]; rfl
 have f8 : ((str l).toList == [98, 121]) = false := by rw [hl, str_toL]; rfl
 have f9 : ((str l).toList == [104, 97, 118, 105, 110, 103]) = false := by rw [hl, str_toL]; rfl
 have f10 : ((str l).toList == [111, 114, 100, 101, 114]) = false := by rw [hl, str_toL]; rfl
 have f11 : ((str l).toList == [100, 101, 115, 99]) = false := by rw [hl, str_toL]; rfl
 have f12 : ((str l).toList == [108, 105, 109, 105, 116]) = false := by rw [hl, str_toL]; rfl
 have f13 : ((str l).toList == [117, 110, 105, 111, 110]) = false := by rw [hl, str_toL]; rfl
 have f14 : ((str l).toList == [97, 108, 108]) = false := by rw [hl, str_toL]; rfl
 have f15 : ((str l).toList == [101, 120, 99, 101, 112, 116]) = false := by rw [hl, str_toL]; rfl
 have f16 : ((str l).toList == [97, 115]) = false := by rw [hl, str_toL]; rfl
 have f17 : ((str l).toList == [97, 110, 100]) = false := by rw [hl, str_toL]; rfl
 have f18 : ((str l).toList == [111, 114]) = true := by rw [hl, str_toL]; rfl
 clear hl
 go_enter Tryz.func103, Tryz.ntmps103
 go_wp2_with fail
 go_ret
 exact ⟨rfl, Below.refl _ _⟩
theorem word_19 (l : List Int) (w : World) (hl : l = [110, 111, 116]) : Calls Tryz.prog 103 #[.string (str l)] w (BO w true) := by
 have f0 : ((str l).toList == [115, 101, 108, 101, 99, 116]) = false := by rw [hl, str_toL]; rfl
 have f1 : ((str l).toList == [100, 105, 115, 116, 105, 110, 99, 116]) = false := by rw [hl, str_toL]; rfl
 have f2 : ((str l).toList == [102, 114, 111, 109]) = false := by rw [hl, str_toL]; rfl
 have f3 : ((str l).toList == [106, 111, 105, 110]) = false := by rw [hl, str_toL]; rfl
 have f4 : ((str l).toList == [108, 101, 102, 116]) = false := by rw [hl, str_toL]; rfl
 have f5 : ((str l).toList == [111, 110]) = false := by rw [hl, str_toL]; rfl
 have f6 : ((str l).toList == [119, 104, 101, 114, 101]) = false := by rw [hl, str_toL]; rfl
 have f7 : ((str l).toList == [103, 114, 111, 117, 112]) = false := by rw [hl, str_toL]; rfl
 have f8 : ((str l).toList == [98, 121]) = false := by rw [hl, str_toL]; rfl
 have f9 : ((str l).toList == [104, 97, 118, 105, 110, 103]) = false := by rw [hl, str_toL]; rfl
 have f10 : ((str l).toList == [111, 114, 100, 101, 114]) = false := by rw [hl, str_toL]; rfl
 have f11 : ((str l).toList == [100, 101, 115, 99]) = false := by rw [hl, str_toL]; rfl
 have f12 : ((str l).toList == [108, 105, 109, 105, 116]) = false := by rw [hl, str_toL]; rfl
 have f13 : ((str l).toList == [117, 110, 105, 111, 110]) = false := by rw [hl, str_toL]; rfl
 have f14 : ((str l).toList == [97, 108, 108]) = false := by rw [hl, str_toL]; rfl
 have f15 : ((str l).toList == [101, 120, 99, 101, 112, 116]) = false := by rw [hl, str_toL]; rfl
 have f16 : ((str l).toList == [97, 115]) = false := by rw [hl, str_toL]; rfl
 have f17 : ((str l).toList == [97, 110, 100]) = false := by rw [hl, str_toL]; rfl
 have f18 : ((str l).toList == [111, 114]) = false := by rw [hl, str_toL]; rfl
 have f19 : ((str l).toList == [110, 111, 116]) = true := by rw [hl, str_toL]; rfl
 clear hl
 go_enter Tryz.func103, Tryz.ntmps103
 go_wp2_with fail
 go_ret
 exact ⟨rfl, Below.refl _ _⟩
theorem word_20 (l : List Int) (w : World) (hl : l = [110, 117, 108, 108]) : Calls Tryz.prog 103 #[.string (str l)] w (BO w true) := by
 have f0 : ((str l).toList == [115, 101, 108, 101, 99, 116]) = false := by rw [hl, str_toL]; rfl
 have f1 : ((str l).toList == [100, 105, 115, 116, 105, 110, 99, 116]) = false := by rw [hl, str_toL]; rfl
 have f2 : ((str l).toList == [102, 114, 111, 109]) = false := by rw [hl, str_toL]; rfl
 have f3 : ((str l).toList == [106, 111, 105, 110]) = false := by rw [hl, str_toL]; rfl
 have f4 : ((str l).toList == [108, 101, 102, 116]) = false := by rw [hl, str_toL]; rfl
 have f5 : ((str l).toList == [111, 110]) = false := by rw [hl, str_toL]; rfl
 have f6 : ((str l).toList == [119, 104, 101, 114, 101]) = false := by rw [hl, str_toL]; rfl
 have f7 : ((str l).toList == [103, 114, 111, 117, 112]) = false := by rw [hl, str_toL]; rfl
 have f8 : ((str l).toList == [98, 121]) = false := by rw [hl, str_toL]; rfl
 have f9 : ((str l).toList == [104, 97, 118, 105, 110, 103]) = false := by rw [hl, str_toL]; rfl
 have f10 : ((str l).toList == [111, 114, 100, 101, 114]) = false := by rw [hl, str_toL]; rfl
 have f11 : ((str l).toList == [100, 101, 115, 99]) = false := by rw [hl, str_toL]; rfl
 have f12 : ((str l).toList == [108, 105, 109, 105, 116]) = false := by rw [hl, str_toL]; rfl
 have f13 : ((str l).toList == [117, 110, 105, 111, 110]) = false := by rw [hl, str_toL]; rfl
 have f14 : ((str l).toList == [97, 108, 108]) = false := by rw [hl, str_toL]; rfl
 have f15 : ((str l).toList == [101, 120, 99, 101, 112, 116]) = false := by rw [hl, str_toL]; rfl
 have f16 : ((str l).toList == [97, 115]) = false := by rw [hl, str_toL]; rfl
 have f17 : ((str l).toList == [97, 110, 100]) = false := by rw [hl, str_toL]; rfl
 have f18 : ((str l).toList == [111, 114]) = false := by rw [hl, str_toL]; rfl
 have f19 : ((str l).toList == [110, 111, 116]) = false := by rw [hl, str_toL]; rfl
 have f20 : ((str l).toList == [110, 117, 108, 108]) = true := by rw [hl, str_toL]; rfl
 clear hl
 go_enter Tryz.func103, Tryz.ntmps103
 go_wp2_with fail
 go_ret
 exact ⟨rfl, Below.refl _ _⟩
theorem word_21 (l : List Int) (w : World) (hl : l = [116, 114, 117, 101]) : Calls Tryz.prog 103 #[.string (str l)] w (BO w true) := by
 have f0 : ((str l).toList == [115, 101, 108, 101, 99, 116]) = false := by rw [hl, str_toL]; rfl
 have f1 : ((str l).toList == [100, 105, 115, 116, 105, 110, 99, 116]) = false := by rw [hl, str_toL]; rfl
 have f2 : ((str l).toList == [102, 114, 111, 109]) = false := by rw [hl, str_toL]; rfl
 have f3 : ((str l).toList == [106, 111, 105, 110]) = false := by rw [hl, str_toL]; rfl
 have f4 : ((str l).toList == [108, 101, 102, 116]) = false := by rw [hl, str_toL]; rfl
 have f5 : ((str l).toList == [111, 110]) = false := by rw [hl, str_toL]; rfl
 have f6 : ((str l).toList == [119, 104, 101, 114, 101]) = false := by rw [hl, str_toL]; rfl
 have f7 : ((str l).toList == [103, 114, 111, 117, 112]) = false := by rw [hl, str_toL]; rfl
 have f8 : ((str l).toList == [98, 121]) = false := by rw [hl, str_toL]; rfl
 have f9 : ((str l).toList == [104, 97, 118, 105, 110, 103]) = false := by rw [hl, str_toL]; rfl
 have f10 : ((str l).toList == [111, 114, 100, 101, 114]) = false := by rw [hl, str_toL]; rfl
 have f11 : ((str l).toList == [100, 101, 115, 99]) = false := by rw [hl, str_toL]; rfl
 have f12 : ((str l).toList == [108, 105, 109, 105, 116]) = false := by rw [hl, str_toL]; rfl
 have f13 : ((str l).toList == [117, 110, 105, 111, 110]) = false := by rw [hl, str_toL]; rfl
 have f14 : ((str l).toList == [97, 108, 108]) = false := by rw [hl, str_toL]; rfl
 have f15 : ((str l).toList == [101, 120, 99, 101, 112, 116]) = false := by rw [hl, str_toL]; rfl
 have f16 : ((str l).toList == [97, 115]) = false := by rw [hl, str_toL]; rfl
 have f17 : ((str l).toList == [97, 110, 100]) = false := by rw [hl, str_toL]; rfl
 have f18 : ((str l).toList == [111, 114]) = false := by rw [hl, str_toL]; rfl
 have f19 : ((str l).toList == [110, 111, 116]) = false := by rw [hl, str_toL]; rfl
 have f20 : ((str l).toList == [110, 117, 108, 108]) = false := by rw [hl, str_toL]; rfl
 have f21 : ((str l).toList == [116, 114, 117, 101]) = true := by rw [hl, str_toL]; rfl
 clear hl
 go_enter Tryz.func103, Tryz.ntmps103
 go_wp2_with fail
 go_ret
 exact ⟨rfl, Below.refl _ _⟩
theorem word_22 (l : List Int) (w : World) (hl : l = [102, 97, 108, 115, 101]) : Calls Tryz.prog 103 #[.string (str l)] w (BO w true) := by
 have f0 : ((str l).toList == [115, 101, 108, 101, 99, 116]) = false := by rw [hl, str_toL]; rfl
 have f1 : ((str l).toList == [100, 105, 115, 116, 105, 110, 99, 116]) = false := by rw [hl, str_toL]; rfl
 have f2 : ((str l).toList == [102, 114, 111, 109]) = false := by rw [hl, str_toL]; rfl
 have f3 : ((str l).toList == [106, 111, 105, 110]) = false := by rw [hl, str_toL]; rfl
 have f4 : ((str l).toList == [108, 101, 102, 116]) = false := by rw [hl, str_toL]; rfl
 have f5 : ((str l).toList == [111, 110]) = false := by rw [hl, str_toL]; rfl
 have f6 : ((str l).toList == [119, 104, 101, 114, 101]) = false := by rw [hl, str_toL]; rfl
 have f7 : ((str l).toList == [103, 114, 111, 117, 112]) = false := by rw [hl, str_toL]; rfl
 have f8 : ((str l).toList == [98, 121]) = false := by rw [hl, str_toL]; rfl
 have f9 : ((str l).toList == [104, 97, 118, 105, 110, 103]) = false := by rw [hl, str_toL]; rfl
 have f10 : ((str l).toList == [111, 114, 100, 101, 114]) = false := by rw [hl, str_toL]; rfl
 have f11 : ((str l).toList == [100, 101, 115, 99]) = false := by rw [hl, str_toL]; rfl
 have f12 : ((str l).toList == [108, 105, 109, 105, 116]) = false := by rw [hl, str_toL]; rfl
 have f13 : ((str l).toList == [117, 110, 105, 111, 110]) = false := by rw [hl, str_toL]; rfl
 have f14 : ((str l).toList == [97, 108, 108]) = false := by rw [hl, str_toL]; rfl
 have f15 : ((str l).toList == [101, 120, 99, 101, 112, 116]) = false := by rw [hl, str_toL]; rfl
 have f16 : ((str l).toList == [97, 115]) = false := by rw [hl, str_toL]; rfl
 have f17 : ((str l).toList == [97, 110, 100]) = false := by rw [hl, str_toL]; rfl
 have f18 : ((str l).toList == [111, 114]) = false := by rw [hl, str_toL]; rfl
 have f19 : ((str l).toList == [110, 111, 116]) = false := by rw [hl, str_toL]; rfl
 have f20 : ((str l).toList == [110, 117, 108, 108]) = false := by rw [hl, str_toL]; rfl
 have f21 : ((str l).toList == [116, 114, 117, 101]) = false := by rw [hl, str_toL]; rfl
 have f22 : ((str l).toList == [102, 97, 108, 115, 101]) = true := by rw [hl, str_toL]; rfl
 clear hl
 go_enter Tryz.func103, Tryz.ntmps103
 go_wp2_with fail
 go_ret
 exact ⟨rfl, Below.refl _ _⟩
theorem word_23 (l : List Int) (w : World) (hl : l = [105, 115]) : Calls Tryz.prog 103 #[.string (str l)] w (BO w true) := by
 have f0 : ((str l).toList == [115, 101, 108, 101, 99, 116]) = false := by rw [hl, str_toL]; rfl
 have f1 : ((str l).toList == [100, 105, 115, 116, 105, 110, 99, 116]) = false := by rw [hl, str_toL]; rfl
 have f2 : ((str l).toList == [102, 114, 111, 109]) = false := by rw [hl, str_toL]; rfl
 have f3 : ((str l).toList == [106, 111, 105, 110]) = false := by rw [hl, str_toL]; rfl
 have f4 : ((str l).toList == [108, 101, 102, 116]) = false := by rw [hl, str_toL]; rfl
 have f5 : ((str l).toList == [111, 110]) = false := by rw [hl, str_toL]; rfl
 have f6 : ((str l).toList == [119, 104, 101, 114, 101]) = false := by rw [hl, str_toL]; rfl
 have f7 : ((str l).toList == [103, 114, 111, 117, 112]) = false := by rw [hl, str_toL]; rfl
 have f8 : ((str l).toList == [98, 121]) = false := by rw [hl, str_toL]; rfl
 have f9 : ((str l).toList == [104, 97, 118, 105, 110, 103]) = false := by rw [hl, str_toL]; rfl
 have f10 : ((str l).toList == [111, 114, 100, 101, 114]) = false := by rw [hl, str_toL]; rfl
 have f11 : ((str l).toList == [100, 101, 115, 99]) = false := by rw [hl, str_toL]; rfl
 have f12 : ((str l).toList == [108, 105, 109, 105, 116]) = false := by rw [hl, str_toL]; rfl
 have f13 : ((str l).toList == [117, 110, 105, 111, 110]) = false := by rw [hl, str_toL]; rfl
 have f14 : ((str l).toList == [97, 108, 108]) = false := by rw [hl, str_toL]; rfl
 have f15 : ((str l).toList == [101, 120, 99, 101, 112, 116]) = false := by rw [hl, str_toL]; rfl
 have f16 : ((str l).toList == [97, 115]) = false := by rw [hl, str_toL]; rfl
 have f17 : ((str l).toList == [97, 110, 100]) = false := by rw [hl, str_toL]; rfl
 have f18 : ((str l).toList == [111, 114]) = false := by rw [hl, str_toL]; rfl
 have f19 : ((str l).toList == [110, 111, 116]) = false := by rw [hl, str_toL]; rfl
 have f20 : ((str l).toList == [110, 117, 108, 108]) = false := by rw [hl, str_toL]; rfl
 have f21 : ((str l).toList == [116, 114, 117, 101]) = false := by rw [hl, str_toL]; rfl
 have f22 : ((str l).toList == [102, 97, 108, 115, 101]) = false := by rw [hl, str_toL]; rfl
 have f23 : ((str l).toList == [105, 115]) = true := by rw [hl, str_toL]; rfl
 clear hl
 go_enter Tryz.func103, Tryz.ntmps103
 go_wp2_with fail
 go_ret
 exact ⟨rfl, Below.refl _ _⟩
theorem word_24 (l : List Int) (w : World) (hl : l = [105, 110]) : Calls Tryz.prog 103 #[.string (str l)] w (BO w true) := by
 have f0 : ((str l).toList == [115, 101, 108, 101, 99, 116]) = false := by rw [hl, str_toL]; rfl
 have f1 : ((str l).toList == [100, 105, 115, 116, 105, 110, 99, 116]) = false := by rw [hl, str_toL]; rfl
 have f2 : ((str l).toList == [102, 114, 111, 109]) = false := by rw [hl, str_toL]; rfl
 have f3 : ((str l).toList == [106, 111, 105, 110]) = false := by rw [hl, str_toL]; rfl
 have f4 : ((str l).toList == [108, 101, 102, 116]) = false := by rw [hl, str_toL]; rfl
 have f5 : ((str l).toList == [111, 110]) = false := by rw [hl, str_toL]; rfl
 have f6 : ((str l).toList == [119, 104, 101, 114, 101]) = false := by rw [hl, str_toL]; rfl
 have f7 : ((str l).toList == [103, 114, 111, 117, 112]) = false := by rw [hl, str_toL]; rfl
 have f8 : ((str l).toList == [98, 121]) = false := by rw [hl, str_toL]; rfl
 have f9 : ((str l).toList == [104, 97, 118, 105, 110, 103]) = false := by rw [hl, str_toL]; rfl
 have f10 : ((str l).toList == [111, 114, 100, 101, 114]) = false := by rw [hl, str_toL]; rfl
 have f11 : ((str l).toList == [100, 101, 115, 99]) = false := by rw [hl, str_toL]; rfl
 have f12 : ((str l).toList == [108, 105, 109, 105, 116]) = false := by rw [hl, str_toL]; rfl
 have f13 : ((str l).toList == [117, 110, 105, 111, 110]) = false := by rw [hl, str_toL]; rfl
 have f14 : ((str l).toList == [97, 108, 108]) = false := by rw [hl, str_toL]; rfl
 have f15 : ((str l).toList == [101, 120, 99, 101, 112, 116]) = false := by rw [hl, str_toL]; rfl
 have f16 : ((str l).toList == [97, 115]) = false := by rw [hl, str_toL]; rfl
 have f17 : ((str l).toList == [97, 110, 100]) = false := by rw [hl, str_toL]; rfl
 have f18 : ((str l).toList == [111, 114]) = false := by rw [hl, str_toL]; rfl
 have f19 : ((str l).toList == [110, 111, 116]) = false := by rw [hl, str_toL]; rfl
 have f20 : ((str l).toList == [110, 117, 108, 108]) = false := by rw [hl, str_toL]; rfl
 have f21 : ((str l).toList == [116, 114, 117, 101]) = false := by rw [hl, str_toL]; rfl
 have f22 : ((str l).toList == [102, 97, 108, 115, 101]) = false := by rw [hl, str_toL]; rfl
 have f23 : ((str l).toList == [105, 115]) = false := by rw [hl, str_toL]; rfl
 have f24 : ((str l).toList == [105, 110]) = true := by rw [hl, str_toL]; rfl
 clear hl
 go_enter Tryz.func103, Tryz.ntmps103
 go_wp2_with fail
 go_ret
 exact ⟨rfl, Below.refl _ _⟩
theorem word_25 (l : List Int) (w : World) (hl : l = [101, 120, 105, 115, 116, 115]) : Calls Tryz.prog 103 #[.string (str l)] w (BO w true) := by
 have f0 : ((str l).toList == [115, 101, 108, 101, 99, 116]) = false := by rw [hl, str_toL]; rfl
 have f1 : ((str l).toList == [100, 105, 115, 116, 105, 110, 99, 116]) = false := by rw [hl, str_toL]; rfl
 have f2 : ((str l).toList == [102, 114, 111, 109]) = false := by rw [hl, str_toL]; rfl
 have f3 : ((str l).toList == [106, 111, 105, 110]) = false := by rw [hl, str_toL]; rfl
 have f4 : ((str l).toList == [108, 101, 102, 116]) = false := by rw [hl, str_toL]; rfl
 have f5 : ((str l).toList == [111, 110]) = false := by rw [hl, str_toL]; rfl
 have f6 : ((str l).toList == [119, 104, 101, 114, 101]) = false := by rw [hl, str_toL]; rfl
 have f7 : ((str l).toList == [103, 114, 111, 117, 112]) = false := by rw [hl, str_toL]; rfl
 have f8 : ((str l).toList == [98, 121]) = false := by rw [hl, str_toL]; rfl
 have f9 : ((str l).toList == [104, 97, 118, 105, 110, 103]) = false := by rw [hl, str_toL]; rfl
 have f10 : ((str l).toList == [111, 114, 100, 101, 114]) = false := by rw [hl, str_toL]; rfl
 have f11 : ((str l).toList == [100, 101, 115, 99]) = false := by rw [hl, str_toL]; rfl
 have f12 : ((str l).toList == [108, 105, 109, 105, 116]) = false := by rw [hl, str_toL]; rfl
 have f13 : ((str l).toList == [117, 110, 105, 111, 110]) = false := by rw [hl, str_toL]; rfl
 have f14 : ((str l).toList == [97, 108, 108]) = false := by rw [hl, str_toL]; rfl
 have f15 : ((str l).toList == [101, 120, 99, 101, 112, 116]) = false := by rw [hl, str_toL]; rfl
 have f16 : ((str l).toList == [97, 115]) = false := by rw [hl, str_toL]; rfl
 have f17 : ((str l).toList == [97, 110, 100]) = false := by rw [hl, str_toL]; rfl
 have f18 : ((str l).toList == [111, 114]) = false := by rw [hl, str_toL]; rfl
 have f19 : ((str l).toList == [110, 111, 116]) = false := by rw [hl, str_toL]; rfl
 have f20 : ((str l).toList == [110, 117, 108, 108]) = false := by rw [hl, str_toL]; rfl
 have f21 : ((str l).toList == [116, 114, 117, 101]) = false := by rw [hl, str_toL]; rfl
 have f22 : ((str l).toList == [102, 97, 108, 115, 101]) = false := by rw [hl, str_toL]; rfl
 have f23 : ((str l).toList == [105, 115]) = false := by rw [hl, str_toL]; rfl
 have f24 : ((str l).toList == [105, 110]) = false := by rw [hl, str_toL]; rfl
 have f25 : ((str l).toList == [101, 120, 105, 115, 116, 115]) = true := by rw [hl, str_toL]; rfl
 clear hl
 go_enter Tryz.func103, Tryz.ntmps103
 go_wp2_with fail
 go_ret
 exact ⟨rfl, Below.refl _ _⟩
theorem word_26 (l : List Int) (w : World) (hl : l = [99, 111, 117, 110, 116]) : Calls Tryz.prog 103 #[.string (str l)] w (BO w true) := by
 have f0 : ((str l).toList == [115, 101, 108, 101, 99, 116]) = false := by rw [hl, str_toL]; rfl
 have f1 : ((str l).toList == [100, 105, 115, 116, 105, 110, 99, 116]) = false := by rw [hl, str_toL]; rfl
 have f2 : ((str l).toList == [102, 114, 111, 109]) = false := by rw [hl, str_toL]; rfl
 have f3 : ((str l).toList == [106, 111, 105, 110]) = false := by rw [hl, str_toL]; rfl
 have f4 : ((str l).toList == [108, 101, 102, 116]) = false := by rw [hl, str_toL]; rfl
 have f5 : ((str l).toList == [111, 110]) = false := by rw [hl, str_toL]; rfl
 have f6 : ((str l).toList == [119, 104, 101, 114, 101]) = false := by rw [hl, str_toL]; rfl
 have f7 : ((str l).toList == [103, 114, 111, 117, 112]) = false := by rw [hl, str_toL]; rfl
 have f8 : ((str l).toList == [98, 121]) = false := by rw [hl, str_toL]; rfl
 have f9 : ((str l).toList == [104, 97, 118, 105, 110, 103]) = false := by rw [hl, str_toL]; rfl
 have f10 : ((str l).toList == [111, 114, 100, 101, 114]) = false := by rw [hl, str_toL]; rfl
 have f11 : ((str l).toList == [100, 101, 115, 99]) = false := by rw [hl, str_toL]; rfl
 have f12 : ((str l).toList == [108, 105, 109, 105, 116]) = false := by rw [hl, str_toL]; rfl
 have f13 : ((str l).toList == [117, 110, 105, 111, 110]) = false := by rw [hl, str_toL]; rfl
 have f14 : ((str l).toList == [97, 108, 108]) = false := by rw [hl, str_toL]; rfl
 have f15 : ((str l).toList == [101, 120, 99, 101, 112, 116]) = false := by rw [hl, str_toL]; rfl
 have f16 : ((str l).toList == [97, 115]) = false := by rw [hl, str_toL]; rfl
 have f17 : ((str l).toList == [97, 110, 100]) = false := by rw [hl, str_toL]; rfl
 have f18 : ((str l).toList == [111, 114]) = false := by rw [hl, str_toL]; rfl
 have f19 : ((str l).toList == [110, 111, 116]) = false := by rw [hl, str_toL]; rfl
 have f20 : ((str l).toList == [110, 117, 108, 108]) = false := by rw [hl, str_toL]; rfl
 have f21 : ((str l).toList == [116, 114, 117, 101]) = false := by rw [hl, str_toL]; rfl
 have f22 : ((str l).toList == [102, 97, 108, 115, 101]) = false := by rw [hl, str_toL]; rfl
 have f23 : ((str l).toList == [105, 115]) = false := by rw [hl, str_toL]; rfl
 have f24 : ((str l).toList == [105, 110]) = false := by rw [hl, str_toL]; rfl
 have f25 : ((str l).toList == [101, 120, 105, 115, 116, 115]) = false := by rw [hl, str_toL]; rfl
 have f26 : ((str l).toList == [99, 111, 117, 110, 116]) = true := by rw [hl, str_toL]; rfl
 clear hl
 go_enter Tryz.func103, Tryz.ntmps103
 go_wp2_with fail
 go_ret
 exact ⟨rfl, Below.refl _ _⟩
theorem word_27 (l : List Int) (w : World) (hl : l = [115, 117, 109]) : Calls Tryz.prog 103 #[.string (str l)] w (BO w true) := by
 have f0 : ((str l).toList == [115, 101, 108, 101, 99, 116]) = false := by rw [hl, str_toL]; rfl
 have f1 : ((str l).toList == [100, 105, 115, 116, 105, 110, 99, 116]) = false := by rw [hl, str_toL]; rfl
 have f2 : ((str l).toList == [102, 114, 111, 109]) = false := by rw [hl, str_toL]; rfl
 have f3 : ((str l).toList == [106, 111, 105, 110]) = false := by rw [hl, str_toL]; rfl
 have f4 : ((str l).toList == [108, 101, 102, 116]) = false := by rw [hl, str_toL]; rfl
 have f5 : ((str l).toList == [111, 110]) = false := by rw [hl, str_toL]; rfl
 have f6 : ((str l).toList == [119, 104, 101, 114, 101]) = false := by rw [hl, str_toL]; rfl
 have f7 : ((str l).toList == [103, 114, 111, 117, 112]) = false := by rw [hl, str_toL]; rfl
 have f8 : ((str l).toList == [98, 121]) = false := by rw [hl, str_toL]; rfl
 have f9 : ((str l).toList == [104, 97, 118, 105, 110, 103]) = false := by rw [hl, str_toL]; rfl
 have f10 : ((str l).toList == [111, 114, 100, 101, 114]) = false := by rw [hl, str_toL]; rfl
 have f11 : ((str l).toList == [100, 101, 115, 99]) = false := by rw [hl, str_toL]; rfl
 have f12 : ((str l).toList == [108, 105, 109, 105, 116]) = false := by rw [hl, str_toL]; rfl
 have f13 : ((str l).toList == [117, 110, 105, 111, 110]) = false := by rw [hl, str_toL]; rfl
 have f14 : ((str l).toList == [97, 108, 108]) = false := by rw [hl, str_toL]; rfl
 have f15 : ((str l).toList == [101, 120, 99, 101, 112, 116]) = false := by rw [hl, str_toL]; rfl
 have f16 : ((str l).toList == [97, 115]) = false := by rw [hl, str_toL]; rfl
 have f17 : ((str l).toList == [97, 110, 100]) = false := by rw [hl, str_toL]; rfl
 have f18 : ((str l).toList == [111, 114]) = false := by rw [hl, str_toL]; rfl
 have f19 : ((str l).toList == [110, 111, 116]) = false := by rw [hl, str_toL]; rfl
 have f20 : ((str l).toList == [110, 117, 108, 108]) = false := by rw [hl, str_toL]; rfl
 have f21 : ((str l).toList == [116, 114, 117, 101]) = false := by rw [hl, str_toL]; rfl
 have f22 : ((str l).toList == [102, 97, 108, 115, 101]) = false := by rw [hl, str_toL]; rfl
 have f23 : ((str l).toList == [105, 115]) = false := by rw [hl, str_toL]; rfl
 have f24 : ((str l).toList == [105, 110]) = false := by rw [hl, str_toL]; rfl
 have f25 : ((str l).toList == [101, 120, 105, 115, 116, 115]) = false := by rw [hl, str_toL]; rfl
 have f26 : ((str l).toList == [99, 111, 117, 110, 116]) = false := by rw [hl, str_toL]; rfl
 have f27 : ((str l).toList == [115, 117, 109]) = true := by rw [hl, str_toL]; rfl
 clear hl
 go_enter Tryz.func103, Tryz.ntmps103
 go_wp2_with fail
 go_ret
 exact ⟨rfl, Below.refl _ _⟩
theorem word_28 (l : List Int) (w : World) (hl : l = [109, 105, 110]) : Calls Tryz.prog 103 #[.string (str l)] w (BO w true) := by
 have f0 : ((str l).toList == [115, 101, 108, 101, 99, 116]) = false := by rw [hl, str_toL]; rfl
 have f1 : ((str l).toList == [100, 105, 115, 116, 105, 110, 99, 116]) = false := by rw [hl, str_toL]; rfl
 have f2 : ((str l).toList == [102, 114, 111, 109]) = false := by rw [hl, str_toL]; rfl
 have f3 : ((str l).toList == [106, 111, 105, 110]) = false := by rw [hl, str_toL]; rfl
 have f4 : ((str l).toList == [108, 101, 102, 116]) = false := by rw [hl, str_toL]; rfl
 have f5 : ((str l).toList == [111, 110]) = false := by rw [hl, str_toL]; rfl
 have f6 : ((str l).toList == [119, 104, 101, 114, 101]) = false := by rw [hl, str_toL]; rfl
 have f7 : ((str l).toList == [103, 114, 111, 117, 112]) = false := by rw [hl, str_toL]; rfl
 have f8 : ((str l).toList == [98, 121]) = false := by rw [hl, str_toL]; rfl
 have f9 : ((str l).toList == [104, 97, 118, 105, 110, 103]) = false := by rw [hl, str_toL]; rfl
 have f10 : ((str l).toList == [111, 114, 100, 101, 114]) = false := by rw [hl, str_toL]; rfl
 have f11 : ((str l).toList == [100, 101, 115, 99]) = false := by rw [hl, str_toL]; rfl
 have f12 : ((str l).toList == [108, 105, 109, 105, 116]) = false := by rw [hl, str_toL]; rfl
 have f13 : ((str l).toList == [117, 110, 105, 111, 110]) = false := by rw [hl, str_toL]; rfl
 have f14 : ((str l).toList == [97, 108, 108]) = false := by rw [hl, str_toL]; rfl
 have f15 : ((str l).toList == [101, 120, 99, 101, 112, 116]) = false := by rw [hl, str_toL]; rfl
 have f16 : ((str l).toList == [97, 115]) = false := by rw [hl, str_toL]; rfl
 have f17 : ((str l).toList == [97, 110, 100]) = false := by rw [hl, str_toL]; rfl
 have f18 : ((str l).toList == [111, 114]) = false := by rw [hl, str_toL]; rfl
 have f19 : ((str l).toList == [110, 111, 116]) = false := by rw [hl, str_toL]; rfl
 have f20 : ((str l).toList == [110, 117, 108, 108]) = false := by rw [hl, str_toL]; rfl
 have f21 : ((str l).toList == [116, 114, 117, 101]) = false := by rw [hl, str_toL]; rfl
 have f22 : ((str l).toList == [102, 97, 108, 115, 101]) = false := by rw [hl, str_toL]; rfl
 have f23 : ((str l).toList == [105, 115]) = false := by rw [hl, str_toL]; rfl
 have f24 : ((str l).toList == [105, 110]) = false := by rw [hl, str_toL]; rfl
 have f25 : ((str l).toList == [101, 120, 105, 115, 116, 115]) = false := by rw [hl, str_toL]; rfl
 have f26 : ((str l).toList == [99, 111, 117, 110, 116]) = false := by rw [hl, str_toL]; rfl
 have f27 : ((str l).toList == [115, 117, 109]) = false := by rw [hl, str_toL]; rfl
 have f28 : ((str l).toList == [109, 105, 110]) = true := by rw [hl, str_toL]; rfl
 clear hl
 go_enter Tryz.func103, Tryz.ntmps103
 go_wp2_with fail
 go_ret
 exact ⟨rfl, Below.refl _ _⟩
theorem word_29 (l : List Int) (w : World) (hl : l = [109, 97, 120]) : Calls Tryz.prog 103 #[.string (str l)] w (BO w true) := by
 have f0 : ((str l).toList == [115, 101, 108, 101, 99, 116]) = false := by rw [hl, str_toL]; rfl
 have f1 : ((str l).toList == [100, 105, 115, 116, 105, 110, 99, 116]) = false := by rw [hl, str_toL]; rfl
 have f2 : ((str l).toList == [102, 114, 111, 109]) = false := by rw [hl, str_toL]; rfl
 have f3 : ((str l).toList == [106, 111, 105, 110]) = false := by rw [hl, str_toL]; rfl
 have f4 : ((str l).toList == [108, 101, 102, 116]) = false := by rw [hl, str_toL]; rfl
 have f5 : ((str l).toList == [111, 110]) = false := by rw [hl, str_toL]; rfl
 have f6 : ((str l).toList == [119, 104, 101, 114, 101]) = false := by rw [hl, str_toL]; rfl
 have f7 : ((str l).toList == [103, 114, 111, 117, 112]) = false := by rw [hl, str_toL]; rfl
 have f8 : ((str l).toList == [98, 121]) = false := by rw [hl, str_toL]; rfl
 have f9 : ((str l).toList == [104, 97, 118, 105, 110, 103]) = false := by rw [hl, str_toL]; rfl
 have f10 : ((str l).toList == [111, 114, 100, 101, 114]) = false := by rw [hl, str_toL]; rfl
 have f11 : ((str l).toList == [100, 101, 115, 99]) = false := by rw [hl, str_toL]; rfl
 have f12 : ((str l).toList == [108, 105, 109, 105, 116]) = false := by rw [hl, str_toL]; rfl
 have f13 : ((str l).toList == [117, 110, 105, 111, 110]) = false := by rw [hl, str_toL]; rfl
 have f14 : ((str l).toList == [97, 108, 108]) = false := by rw [hl, str_toL]; rfl
 have f15 : ((str l).toList == [101, 120, 99, 101, 112, 116]) = false := by rw [hl, str_toL]; rfl
 have f16 : ((str l).toList == [97, 115]) = false := by rw [hl, str_toL]; rfl
 have f17 : ((str l).toList == [97, 110, 100]) = false := by rw [hl, str_toL]; rfl
 have f18 : ((str l).toList == [111, 114]) = false := by rw [hl, str_toL]; rfl
 have f19 : ((str l).toList == [110, 111, 116]) = false := by rw [hl, str_toL]; rfl
 have f20 : ((str l).toList == [110, 117, 108, 108]) = false := by rw [hl, str_toL]; rfl
 have f21 : ((str l).toList == [116, 114, 117, 101]) = false := by rw [hl, str_toL]; rfl
 have f22 : ((str l).toList == [102, 97, 108, 115, 101]) = false := by rw [hl, str_toL]; rfl
 have f23 : ((str l).toList == [105, 115]) = false := by rw [hl, str_toL]; rfl
 have f24 : ((str l).toList == [105, 110]) = false := by rw [hl, str_toL]; rfl
 have f25 : ((str l).toList == [101, 120, 105, 115, 116, 115]) = false := by rw [hl, str_toL]; rfl
 have f26 : ((str l).toList == [99, 111, 117, 110, 116]) = false := by rw [hl, str_toL]; rfl
 have f27 : ((str l).toList == [115, 117, 109]) = false := by rw [hl, str_toL]; rfl
 have f28 : ((str l).toList == [109, 105, 110]) = false := by rw [hl, str_toL]; rfl
 have f29 : ((str l).toList == [109, 97, 120]) = true := by rw [hl, str_toL]; rfl
 clear hl
 go_enter Tryz.func103, Tryz.ntmps103
 go_wp2_with fail
 go_ret
 exact ⟨rfl, Below.refl _ _⟩
theorem word_30 (l : List Int) (w : World) (hl : l = [99, 114, 101, 97, 116, 101]) : Calls Tryz.prog 103 #[.string (str l)] w (BO w true) := by
 have f0 : ((str l).toList == [115, 101, 108, 101, 99, 116]) = false := by rw [hl, str_toL]; rfl
 have f1 : ((str l).toList == [100, 105, 115, 116, 105, 110, 99, 116]) = false := by rw [hl, str_toL]; rfl
 have f2 : ((str l).toList == [102, 114, 111, 109]) = false := by rw [hl, str_toL]; rfl
 have f3 : ((str l).toList == [106, 111, 105, 110]) = false := by rw [hl, str_toL]; rfl
 have f4 : ((str l).toList == [108, 101, 102, 116]) = false := by rw [hl, str_toL]; rfl
 have f5 : ((str l).toList == [111, 110]) = false := by rw [hl, str_toL]; rfl
 have f6 : ((str l).toList == [119, 104, 101, 114, 101]) = false := by rw [hl, str_toL]; rfl
 have f7 : ((str l).toList == [103, 114, 111, 117, 112]) = false := by rw [hl, str_toL]; rfl
 have f8 : ((str l).toList == [98, 121]) = false := by rw [hl, str_toL]; rfl
 have f9 : ((str l).toList == [104, 97, 118, 105, 110, 103]) = false := by rw [hl, str_toL]; rfl
 have f10 : ((str l).toList == [111, 114, 100, 101, 114]) = false := by rw [hl, str_toL]; rfl
 have f11 : ((str l).toList == [100, 101, 115, 99]) = false := by rw [hl, str_toL]; rfl
 have f12 : ((str l).toList == [108, 105, 109, 105, 116]) = false := by rw [hl, str_toL]; rfl
 have f13 : ((str l).toList == [117, 110, 105, 111, 110]) = false := by rw [hl, str_toL]; rfl
 have f14 : ((str l).toList == [97, 108, 108]) = false := by rw [hl, str_toL]; rfl
 have f15 : ((str l).toList == [101, 120, 99, 101, 112, 116]) = false := by rw [hl, str_toL]; rfl
 have f16 : ((str l).toList == [97, 115]) = false := by rw [hl, str_toL]; rfl
 have f17 : ((str l).toList == [97, 110, 100]) = false := by rw [hl, str_toL]; rfl
 have f18 : ((str l).toList == [111, 114]) = false := by rw [hl, str_toL]; rfl
 have f19 : ((str l).toList == [110, 111, 116]) = false := by rw [hl, str_toL]; rfl
 have f20 : ((str l).toList == [110, 117, 108, 108]) = false := by rw [hl, str_toL]; rfl
 have f21 : ((str l).toList == [116, 114, 117, 101]) = false := by rw [hl, str_toL]; rfl
 have f22 : ((str l).toList == [102, 97, 108, 115, 101]) = false := by rw [hl, str_toL]; rfl
 have f23 : ((str l).toList == [105, 115]) = false := by rw [hl, str_toL]; rfl
 have f24 : ((str l).toList == [105, 110]) = false := by rw [hl, str_toL]; rfl
 have f25 : ((str l).toList == [101, 120, 105, 115, 116, 115]) = false := by rw [hl, str_toL]; rfl
 have f26 : ((str l).toList == [99, 111, 117, 110, 116]) = false := by rw [hl, str_toL]; rfl
 have f27 : ((str l).toList == [115, 117, 109]) = false := by rw [hl, str_toL]; rfl
 have f28 : ((str l).toList == [109, 105, 110]) = false := by rw [hl, str_toL]; rfl
 have f29 : ((str l).toList == [109, 97, 120]) = false := by rw [hl, str_toL]; rfl
 have f30 : ((str l).toList == [99, 114, 101, 97, 116, 101]) = true := by rw [hl, str_toL]; rfl
 clear hl
 go_enter Tryz.func103, Tryz.ntmps103
 go_wp2_with fail
 go_ret
 exact ⟨rfl, Below.refl _ _⟩
theorem word_31 (l : List Int) (w : World) (hl : l = [116, 97, 98, 108, 101]) : Calls Tryz.prog 103 #[.string (str l)] w (BO w true) := by
 have f0 : ((str l).toList == [115, 101, 108, 101, 99, 116]) = false := by rw [hl, str_toL]; rfl
 have f1 : ((str l).toList == [100, 105, 115, 116, 105, 110, 99, 116]) = false := by rw [hl, str_toL]; rfl
 have f2 : ((str l).toList == [102, 114, 111, 109]) = false := by rw [hl, str_toL]; rfl
 have f3 : ((str l).toList == [106, 111, 105, 110]) = false := by rw [hl, str_toL]; rfl
 have f4 : ((str l).toList == [108, 101, 102, 116]) = false := by rw [hl, str_toL]; rfl
 have f5 : ((str l).toList == [111, 110]) = false := by rw [hl, str_toL]; rfl
 have f6 : ((str l).toList == [119, 104, 101, 114, 101]) = false := by rw [hl, str_toL]; rfl
 have f7 : ((str l).toList == [103, 114, 111, 117, 112]) = false := by rw [hl, str_toL]; rfl
 have f8 : ((str l).toList == [98, 121]) = false := by rw [hl, str_toL]; rfl
 have f9 : ((str l).toList == [104, 97, 118, 105, 110, 103]) = false := by rw [hl, str_toL]; rfl
 have f10 : ((str l).toList == [111, 114, 100, 101, 114]) = false := by rw [hl, str_toL]; rfl
 have f11 : ((str l).toList == [100, 101, 115, 99]) = false := by rw [hl, str_toL]; rfl
 have f12 : ((str l).toList == [108, 105, 109, 105, 116]) = false := by rw [hl, str_toL]; rfl
 have f13 : ((str l).toList == [117, 110, 105, 111, 110]) = false := by rw [hl, str_toL]; rfl
 have f14 : ((str l).toList == [97, 108, 108]) = false := by rw [hl, str_toL]; rfl
 have f15 : ((str l).toList == [101, 120, 99, 101, 112, 116]) = false := by rw [hl, str_toL]; rfl
 have f16 : ((str l).toList == [97, 115]) = false := by rw [hl, str_toL]; rfl
 have f17 : ((str l).toList == [97, 110, 100]) = false := by rw [hl, str_toL]; rfl
 have f18 : ((str l).toList == [111, 114]) = false := by rw [hl, str_toL]; rfl
 have f19 : ((str l).toList == [110, 111, 116]) = false := by rw [hl, str_toL]; rfl
 have f20 : ((str l).toList == [110, 117, 108, 108]) = false := by rw [hl, str_toL]; rfl
 have f21 : ((str l).toList == [116, 114, 117, 101]) = false := by rw [hl, str_toL]; rfl
 have f22 : ((str l).toList == [102, 97, 108, 115, 101]) = false := by rw [hl, str_toL]; rfl
 have f23 : ((str l).toList == [105, 115]) = false := by rw [hl, str_toL]; rfl
 have f24 : ((str l).toList == [105, 110]) = false := by rw [hl, str_toL]; rfl
 have f25 : ((str l).toList == [101, 120, 105, 115, 116, 115]) = false := by rw [hl, str_toL]; rfl
 have f26 : ((str l).toList == [99, 111, 117, 110, 116]) = false := by rw [hl, str_toL]; rfl
 have f27 : ((str l).toList == [115, 117, 109]) = false := by rw [hl, str_toL]; rfl
 have f28 : ((str l).toList == [109, 105, 110]) = false := by rw [hl, str_toL]; rfl
 have f29 : ((str l).toList == [109, 97, 120]) = false := by rw [hl, str_toL]; rfl
 have f30 : ((str l).toList == [99, 114, 101, 97, 116, 101]) = false := by rw [hl, str_toL]; rfl
 have f31 : ((str l).toList == [116, 97, 98, 108, 101]) = true := by rw [hl, str_toL]; rfl
 clear hl
 go_enter Tryz.func103, Tryz.ntmps103
 go_wp2_with fail
 go_ret
 exact ⟨rfl, Below.refl _ _⟩
theorem word_32 (l : List Int) (w : World) (hl : l = [118, 105, 101, 119]) : Calls Tryz.prog 103 #[.string (str l)] w (BO w true) := by
 have f0 : ((str l).toList == [115, 101, 108, 101, 99, 116]) = false := by rw [hl, str_toL]; rfl
 have f1 : ((str l).toList == [100, 105, 115, 116, 105, 110, 99, 116]) = false := by rw [hl, str_toL]; rfl
 have f2 : ((str l).toList == [102, 114, 111, 109]) = false := by rw [hl, str_toL]; rfl
 have f3 : ((str l).toList == [106, 111, 105, 110]) = false := by rw [hl, str_toL]; rfl
 have f4 : ((str l).toList == [108, 101, 102, 116]) = false := by rw [hl, str_toL]; rfl
 have f5 : ((str l).toList == [111, 110]) = false := by rw [hl, str_toL]; rfl
 have f6 : ((str l).toList == [119, 104, 101, 114, 101]) = false := by rw [hl, str_toL]; rfl
 have f7 : ((str l).toList == [103, 114, 111, 117, 112]) = false := by rw [hl, str_toL]; rfl
 have f8 : ((str l).toList == [98, 121]) = false := by rw [hl, str_toL]; rfl
 have f9 : ((str l).toList == [104, 97, 118, 105, 110, 103]) = false := by rw [hl, str_toL]; rfl
 have f10 : ((str l).toList == [111, 114, 100, 101, 114]) = false := by rw [hl, str_toL]; rfl
 have f11 : ((str l).toList == [100, 101, 115, 99]) = false := by rw [hl, str_toL]; rfl
 have f12 : ((str l).toList == [108, 105, 109, 105, 116]) = false := by rw [hl, str_toL]; rfl
 have f13 : ((str l).toList == [117, 110, 105, 111, 110]) = false := by rw [hl, str_toL]; rfl
 have f14 : ((str l).toList == [97, 108, 108]) = false := by rw [hl, str_toL]; rfl
 have f15 : ((str l).toList == [101, 120, 99, 101, 112, 116]) = false := by rw [hl, str_toL]; rfl
 have f16 : ((str l).toList == [97, 115]) = false := by rw [hl, str_toL]; rfl
 have f17 : ((str l).toList == [97, 110, 100]) = false := by rw [hl, str_toL]; rfl
 have f18 : ((str l).toList == [111, 114]) = false := by rw [hl, str_toL]; rfl
 have f19 : ((str l).toList == [110, 111, 116]) = false := by rw [hl, str_toL]; rfl
 have f20 : ((str l).toList == [110, 117, 108, 108]) = false := by rw [hl, str_toL]; rfl
 have f21 : ((str l).toList == [116, 114, 117, 101]) = false := by rw [hl, str_toL]; rfl
 have f22 : ((str l).toList == [102, 97, 108, 115, 101]) = false := by rw [hl, str_toL]; rfl
 have f23 : ((str l).toList == [105, 115]) = false := by rw [hl, str_toL]; rfl
 have f24 : ((str l).toList == [105, 110]) = false := by rw [hl, str_toL]; rfl
 have f25 : ((str l).toList == [101, 120, 105, 115, 116, 115]) = false := by rw [hl, str_toL]; rfl
 have f26 : ((str l).toList == [99, 111, 117, 110, 116]) = false := by rw [hl, str_toL]; rfl
 have f27 : ((str l).toList == [115, 117, 109]) = false := by rw [hl, str_toL]; rfl
 have f28 : ((str l).toList == [109, 105, 110]) = false := by rw [hl, str_toL]; rfl
 have f29 : ((str l).toList == [109, 97, 120]) = false := by rw [hl, str_toL]; rfl
 have f30 : ((str l).toList == [99, 114, 101, 97, 116, 101]) = false := by rw [hl, str_toL]; rfl
 have f31 : ((str l).toList == [116, 97, 98, 108, 101]) = false := by rw [hl, str_toL]; rfl
 have f32 : ((str l).toList == [118, 105, 101, 119]) = true := by rw [hl, str_toL]; rfl
 clear hl
 go_enter Tryz.func103, Tryz.ntmps103
 go_wp2_with fail
 go_ret
 exact ⟨rfl, Below.refl _ _⟩
theorem word_33 (l : List Int) (w : World) (hl : l = [105, 110, 116]) : Calls Tryz.prog 103 #[.string (str l)] w (BO w true) := by
 have f0 : ((str l).toList == [115, 101, 108, 101, 99, 116]) = false := by rw [hl, str_toL]; rfl
 have f1 : ((str l).toList == [100, 105, 115, 116, 105, 110, 99, 116]) = false := by rw [hl, str_toL]; rfl
 have f2 : ((str l).toList == [102, 114, 111, 109]) = false := by rw [hl, str_toL]; rfl
 have f3 : ((str l).toList == [106, 111, 105, 110]) = false := by rw [hl, str_toL]; rfl
 have f4 : ((str l).toList == [108, 101, 102, 116]) = false := by rw [hl, str_toL]; rfl
 have f5 : ((str l).toList == [111, 110]) = false := by rw [hl, str_toL]; rfl
 have f6 : ((str l).toList == [119, 104, 101, 114, 101]) = false := by rw [hl, str_toL]; rfl
 have f7 : ((str l).toList == [103, 114, 111, 117, 112]) = false := by rw [hl, str_toL]; rfl
 have f8 : ((str l).toList == [98, 121]) = false := by rw [hl, str_toL]; rfl
 have f9 : ((str l).toList == [104, 97, 118, 105, 110, 103]) = false := by rw [hl, str_toL]; rfl
 have f10 : ((str l).toList == [111, 114, 100, 101, 114]) = false := by rw [hl, str_toL]; rfl
 have f11 : ((str l).toList == [100, 101, 115, 99]) = false := by rw [hl, str_toL]; rfl
 have f12 : ((str l).toList == [108, 105, 109, 105, 116]) = false := by rw [hl, str_toL]; rfl
 have f13 : ((str l).toList == [117, 110, 105, 111, 110]) = false := by rw [hl, str_toL]; rfl
 have f14 : ((str l).toList == [97, 108, 108]) = false := by rw [hl, str_toL]; rfl
 have f15 : ((str l).toList == [101, 120, 99, 101, 112, 116]) = false := by rw [hl, str_toL]; rfl
 have f16 : ((str l).toList == [97, 115]) = false := by rw [hl, str_toL]; rfl
 have f17 : ((str l).toList == [97, 110, 100]) = false := by rw [hl, str_toL]; rfl
 have f18 : ((str l).toList == [111, 114]) = false := by rw [hl, str_toL]; rfl
 have f19 : ((str l).toList == [110, 111, 116]) = false := by rw [hl, str_toL]; rfl
 have f20 : ((str l).toList == [110, 117, 108, 108]) = false := by rw [hl, str_toL]; rfl
 have f21 : ((str l).toList == [116, 114, 117, 101]) = false := by rw [hl, str_toL]; rfl
 have f22 : ((str l).toList == [102, 97, 108, 115, 101]) = false := by rw [hl, str_toL]; rfl
 have f23 : ((str l).toList == [105, 115]) = false := by rw [hl, str_toL]; rfl
 have f24 : ((str l).toList == [105, 110]) = false := by rw [hl, str_toL]; rfl
 have f25 : ((str l).toList == [101, 120, 105, 115, 116, 115]) = false := by rw [hl, str_toL]; rfl
 have f26 : ((str l).toList == [99, 111, 117, 110, 116]) = false := by rw [hl, str_toL]; rfl
 have f27 : ((str l).toList == [115, 117, 109]) = false := by rw [hl, str_toL]; rfl
 have f28 : ((str l).toList == [109, 105, 110]) = false := by rw [hl, str_toL]; rfl
 have f29 : ((str l).toList == [109, 97, 120]) = false := by rw [hl, str_toL]; rfl
 have f30 : ((str l).toList == [99, 114, 101, 97, 116, 101]) = false := by rw [hl, str_toL]; rfl
 have f31 : ((str l).toList == [116, 97, 98, 108, 101]) = false := by rw [hl, str_toL]; rfl
 have f32 : ((str l).toList == [118, 105, 101, 119]) = false := by rw [hl, str_toL]; rfl
 have f33 : ((str l).toList == [105, 110, 116]) = true := by rw [hl, str_toL]; rfl
 clear hl
 go_enter Tryz.func103, Tryz.ntmps103
 go_wp2_with fail
 go_ret
 exact ⟨rfl, Below.refl _ _⟩
theorem word_34 (l : List Int) (w : World) (hl : l = [116, 101, 120, 116]) : Calls Tryz.prog 103 #[.string (str l)] w (BO w true) := by
 have f0 : ((str l).toList == [115, 101, 108, 101, 99, 116]) = false := by rw [hl, str_toL]; rfl
 have f1 : ((str l).toList == [100, 105, 115, 116, 105, 110, 99, 116]) = false := by rw [hl, str_toL]; rfl
 have f2 : ((str l).toList == [102, 114, 111, 109]) = false := by rw [hl, str_toL]; rfl
 have f3 : ((str l).toList == [106, 111, 105, 110]) = false := by rw [hl, str_toL]; rfl
 have f4 : ((str l).toList == [108, 101, 102, 116]) = false := by rw [hl, str_toL]; rfl
 have f5 : ((str l).toList == [111, 110]) = false := by rw [hl, str_toL]; rfl
 have f6 : ((str l).toList == [119, 104, 101, 114, 101]) = false := by rw [hl, str_toL]; rfl
 have f7 : ((str l).toList == [103, 114, 111, 117, 112]) = false := by rw [hl, str_toL]; rfl
 have f8 : ((str l).toList == [98, 121]) = false := by rw [hl, str_toL]; rfl
 have f9 : ((str l).toList == [104, 97, 118, 105, 110, 103]) = false := by rw [hl, str_toL]; rfl
 have f10 : ((str l).toList == [111, 114, 100, 101, 114]) = false := by rw [hl, str_toL]; rfl
 have f11 : ((str l).toList == [100, 101, 115, 99]) = false := by rw [hl, str_toL]; rfl
 have f12 : ((str l).toList == [108, 105, 109, 105, 116]) = false := by rw [hl, str_toL]; rfl
 have f13 : ((str l).toList == [117, 110, 105, 111, 110]) = false := by rw [hl, str_toL]; rfl
 have f14 : ((str l).toList == [97, 108, 108]) = false := by rw [hl, str_toL]; rfl
 have f15 : ((str l).toList == [101, 120, 99, 101, 112, 116]) = false := by rw [hl, str_toL]; rfl
 have f16 : ((str l).toList == [97, 115]) = false := by rw [hl, str_toL]; rfl
 have f17 : ((str l).toList == [97, 110, 100]) = false := by rw [hl, str_toL]; rfl
 have f18 : ((str l).toList == [111, 114]) = false := by rw [hl, str_toL]; rfl
 have f19 : ((str l).toList == [110, 111, 116]) = false := by rw [hl, str_toL]; rfl
 have f20 : ((str l).toList == [110, 117, 108, 108]) = false := by rw [hl, str_toL]; rfl
 have f21 : ((str l).toList == [116, 114, 117, 101]) = false := by rw [hl, str_toL]; rfl
 have f22 : ((str l).toList == [102, 97, 108, 115, 101]) = false := by rw [hl, str_toL]; rfl
 have f23 : ((str l).toList == [105, 115]) = false := by rw [hl, str_toL]; rfl
 have f24 : ((str l).toList == [105, 110]) = false := by rw [hl, str_toL]; rfl
 have f25 : ((str l).toList == [101, 120, 105, 115, 116, 115]) = false := by rw [hl, str_toL]; rfl
 have f26 : ((str l).toList == [99, 111, 117, 110, 116]) = false := by rw [hl, str_toL]; rfl
 have f27 : ((str l).toList == [115, 117, 109]) = false := by rw [hl, str_toL]; rfl
 have f28 : ((str l).toList == [109, 105, 110]) = false := by rw [hl, str_toL]; rfl
 have f29 : ((str l).toList == [109, 97, 120]) = false := by rw [hl, str_toL]; rfl
 have f30 : ((str l).toList == [99, 114, 101, 97, 116, 101]) = false := by rw [hl, str_toL]; rfl
 have f31 : ((str l).toList == [116, 97, 98, 108, 101]) = false := by rw [hl, str_toL]; rfl
 have f32 : ((str l).toList == [118, 105, 101, 119]) = false := by rw [hl, str_toL]; rfl
 have f33 : ((str l).toList == [105, 110, 116]) = false := by rw [hl, str_toL]; rfl
 have f34 : ((str l).toList == [116, 101, 120, 116]) = true := by rw [hl, str_toL]; rfl
 clear hl
 go_enter Tryz.func103, Tryz.ntmps103
 go_wp2_with fail
 go_ret
 exact ⟨rfl, Below.refl _ _⟩
theorem word_35 (l : List Int) (w : World) (hl : l = [98, 111, 111, 108]) : Calls Tryz.prog 103 #[.string (str l)] w (BO w true) := by
 have f0 : ((str l).toList == [115, 101, 108, 101, 99, 116]) = false := by rw [hl, str_toL]; rfl
 have f1 : ((str l).toList == [100, 105, 115, 116, 105, 110, 99, 116]) = false := by rw [hl, str_toL]; rfl
 have f2 : ((str l).toList == [102, 114, 111, 109]) = false := by rw [hl, str_toL]; rfl
 have f3 : ((str l).toList == [106, 111, 105, 110]) = false := by rw [hl, str_toL]; rfl
 have f4 : ((str l).toList == [108, 101, 102, 116]) = false := by rw [hl, str_toL]; rfl
 have f5 : ((str l).toList == [111, 110]) = false := by rw [hl, str_toL]; rfl
 have f6 : ((str l).toList == [119, 104, 101, 114, 101]) = false := by rw [hl, str_toL]; rfl
 have f7 : ((str l).toList == [103, 114, 111, 117, 112]) = false := by rw [hl, str_toL]; rfl
 have f8 : ((str l).toList == [98, 121]) = false := by rw [hl, str_toL]; rfl
 have f9 : ((str l).toList == [104, 97, 118, 105, 110, 103]) = false := by rw [hl, str_toL]; rfl
 have f10 : ((str l).toList == [111, 114, 100, 101, 114]) = false := by rw [hl, str_toL]; rfl
 have f11 : ((str l).toList == [100, 101, 115, 99]) = false := by rw [hl, str_toL]; rfl
 have f12 : ((str l).toList == [108, 105, 109, 105, 116]) = false := by rw [hl, str_toL]; rfl
 have f13 : ((str l).toList == [117, 110, 105, 111, 110]) = false := by rw [hl, str_toL]; rfl
 have f14 : ((str l).toList == [97, 108, 108]) = false := by rw [hl, str_toL]; rfl
 have f15 : ((str l).toList == [101, 120, 99, 101, 112, 116]) = false := by rw [hl, str_toL]; rfl
 have f16 : ((str l).toList == [97, 115]) = false := by rw [hl, str_toL]; rfl
 have f17 : ((str l).toList == [97, 110, 100]) = false := by rw [hl, str_toL]; rfl
 have f18 : ((str l).toList == [111, 114]) = false := by rw [hl, str_toL]; rfl
 have f19 : ((str l).toList == [110, 111, 116]) = false := by rw [hl, str_toL]; rfl
 have f20 : ((str l).toList == [110, 117, 108, 108]) = false := by rw [hl, str_toL]; rfl
 have f21 : ((str l).toList == [116, 114, 117, 101]) = false := by rw [hl, str_toL]; rfl
 have f22 : ((str l).toList == [102, 97, 108, 115, 101]) = false := by rw [hl, str_toL]; rfl
 have f23 : ((str l).toList == [105, 115]) = false := by rw [hl, str_toL]; rfl
 have f24 : ((str l).toList == [105, 110]) = false := by rw [hl, str_toL]; rfl
 have f25 : ((str l).toList == [101, 120, 105, 115, 116, 115]) = false := by rw [hl, str_toL]; rfl
 have f26 : ((str l).toList == [99, 111, 117, 110, 116]) = false := by rw [hl, str_toL]; rfl
 have f27 : ((str l).toList == [115, 117, 109]) = false := by rw [hl, str_toL]; rfl
 have f28 : ((str l).toList == [109, 105, 110]) = false := by rw [hl, str_toL]; rfl
 have f29 : ((str l).toList == [109, 97, 120]) = false := by rw [hl, str_toL]; rfl
 have f30 : ((str l).toList == [99, 114, 101, 97, 116, 101]) = false := by rw [hl, str_toL]; rfl
 have f31 : ((str l).toList == [116, 97, 98, 108, 101]) = false := by rw [hl, str_toL]; rfl
 have f32 : ((str l).toList == [118, 105, 101, 119]) = false := by rw [hl, str_toL]; rfl
 have f33 : ((str l).toList == [105, 110, 116]) = false := by rw [hl, str_toL]; rfl
 have f34 : ((str l).toList == [116, 101, 120, 116]) = false := by rw [hl, str_toL]; rfl
 have f35 : ((str l).toList == [98, 111, 111, 108]) = true := by rw [hl, str_toL]; rfl
 clear hl
 go_enter Tryz.func103, Tryz.ntmps103
 go_wp2_with fail
 go_ret
 exact ⟨rfl, Below.refl _ _⟩
theorem word_36 (l : List Int) (w : World) (hl : l = [112, 114, 105, 109, 97, 114, 121]) : Calls Tryz.prog 103 #[.string (str l)] w (BO w true) := by
 have f0 : ((str l).toList == [115, 101, 108, 101, 99, 116]) = false := by rw [hl, str_toL]; rfl
 have f1 : ((str l).toList == [100, 105, 115, 116, 105, 110, 99, 116]) = false := by rw [hl, str_toL]; rfl
 have f2 : ((str l).toList == [102, 114, 111, 109]) = false := by rw [hl, str_toL]; rfl
 have f3 : ((str l).toList == [106, 111, 105, 110]) = false := by rw [hl, str_toL]; rfl
 have f4 : ((str l).toList == [108, 101, 102, 116]) = false := by rw [hl, str_toL]; rfl
 have f5 : ((str l).toList == [111, 110]) = false := by rw [hl, str_toL]; rfl
 have f6 : ((str l).toList == [119, 104, 101, 114, 101]) = false := by rw [hl, str_toL]; rfl
 have f7 : ((str l).toList == [103, 114, 111, 117, 112]) = false := by rw [hl, str_toL]; rfl
 have f8 : ((str l).toList == [98, 121]) = false := by rw [hl, str_toL]; rfl
 have f9 : ((str l).toList == [104, 97, 118, 105, 110, 103]) = false := by rw [hl, str_toL]; rfl
 have f10 : ((str l).toList == [111, 114, 100, 101, 114]) = false := by rw [hl, str_toL]; rfl
 have f11 : ((str l).toList == [100, 101, 115, 99]) = false := by rw [hl, str_toL]; rfl
 have f12 : ((str l).toList == [108, 105, 109, 105, 116]) = false := by rw [hl, str_toL]; rfl
 have f13 : ((str l).toList == [117, 110, 105, 111, 110]) = false := by rw [hl, str_toL]; rfl
 have f14 : ((str l).toList == [97, 108, 108]) = false := by rw [hl, str_toL]; rfl
 have f15 : ((str l).toList == [101, 120, 99, 101, 112, 116]) = false := by rw [hl, str_toL]; rfl
 have f16 : ((str l).toList == [97, 115]) = false := by rw [hl, str_toL]; rfl
 have f17 : ((str l).toList == [97, 110, 100]) = false := by rw [hl, str_toL]; rfl
 have f18 : ((str l).toList == [111, 114]) = false := by rw [hl, str_toL]; rfl
 have f19 : ((str l).toList == [110, 111, 116]) = false := by rw [hl, str_toL]; rfl
 have f20 : ((str l).toList == [110, 117, 108, 108]) = false := by rw [hl, str_toL]; rfl
 have f21 : ((str l).toList == [116, 114, 117, 101]) = false := by rw [hl, str_toL]; rfl
 have f22 : ((str l).toList == [102, 97, 108, 115, 101]) = false := by rw [hl, str_toL]; rfl
 have f23 : ((str l).toList == [105, 115]) = false := by rw [hl, str_toL]; rfl
 have f24 : ((str l).toList == [105, 110]) = false := by rw [hl, str_toL]; rfl
 have f25 : ((str l).toList == [101, 120, 105, 115, 116, 115]) = false := by rw [hl, str_toL]; rfl
 have f26 : ((str l).toList == [99, 111, 117, 110, 116]) = false := by rw [hl, str_toL]; rfl
 have f27 : ((str l).toList == [115, 117, 109]) = false := by rw [hl, str_toL]; rfl
 have f28 : ((str l).toList == [109, 105, 110]) = false := by rw [hl, str_toL]; rfl
 have f29 : ((str l).toList == [109, 97, 120]) = false := by rw [hl, str_toL]; rfl
 have f30 : ((str l).toList == [99, 114, 101, 97, 116, 101]) = false := by rw [hl, str_toL]; rfl
 have f31 : ((str l).toList == [116, 97, 98, 108, 101]) = false := by rw [hl, str_toL]; rfl
 have f32 : ((str l).toList == [118, 105, 101, 119]) = false := by rw [hl, str_toL]; rfl
 have f33 : ((str l).toList == [105, 110, 116]) = false := by rw [hl, str_toL]; rfl
 have f34 : ((str l).toList == [116, 101, 120, 116]) = false := by rw [hl, str_toL]; rfl
 have f35 : ((str l).toList == [98, 111, 111, 108]) = false := by rw [hl, str_toL]; rfl
 have f36 : ((str l).toList == [112, 114, 105, 109, 97, 114, 121]) = true := by rw [hl, str_toL]; rfl
 clear hl
 go_enter Tryz.func103, Tryz.ntmps103
 go_wp2_with fail
 go_ret
 exact ⟨rfl, Below.refl _ _⟩
theorem word_37 (l : List Int) (w : World) (hl : l = [107, 101, 121]) : Calls Tryz.prog 103 #[.string (str l)] w (BO w true) := by
 have f0 : ((str l).toList == [115, 101, 108, 101, 99, 116]) = false := by rw [hl, str_toL]; rfl
 have f1 : ((str l).toList == [100, 105, 115, 116, 105, 110, 99, 116]) = false := by rw [hl, str_toL]; rfl
 have f2 : ((str l).toList == [102, 114, 111, 109]) = false := by rw [hl, str_toL]; rfl
 have f3 : ((str l).toList == [106, 111, 105, 110]) = false := by rw [hl, str_toL]; rfl
 have f4 : ((str l).toList == [108, 101, 102, 116]) = false := by rw [hl, str_toL]; rfl
 have f5 : ((str l).toList == [111, 110]) = false := by rw [hl, str_toL]; rfl
 have f6 : ((str l).toList == [119, 104, 101, 114, 101]) = false := by rw [hl, str_toL]; rfl
 have f7 : ((str l).toList == [103, 114, 111, 117, 112]) = false := by rw [hl, str_toL]; rfl
 have f8 : ((str l).toList == [98, 121]) = false := by rw [hl, str_toL]; rfl
 have f9 : ((str l).toList == [104, 97, 118, 105, 110, 103]) = false := by rw [hl, str_toL]; rfl
 have f10 : ((str l).toList == [111, 114, 100, 101, 114]) = false := by rw [hl, str_toL]; rfl
 have f11 : ((str l).toList == [100, 101, 115, 99]) = false := by rw [hl, str_toL]; rfl
 have f12 : ((str l).toList == [108, 105, 109, 105, 116]) = false := by rw [hl, str_toL]; rfl
 have f13 : ((str l).toList == [117, 110, 105, 111, 110]) = false := by rw [hl, str_toL]; rfl
 have f14 : ((str l).toList == [97, 108, 108]) = false := by rw [hl, str_toL]; rfl
 have f15 : ((str l).toList == [101, 120, 99, 101, 112, 116]) = false := by rw [hl, str_toL]; rfl
 have f16 : ((str l).toList == [97, 115]) = false := by rw [hl, str_toL]; rfl
 have f17 : ((str l).toList == [97, 110, 100]) = false := by rw [hl, str_toL]; rfl
 have f18 : ((str l).toList == [111, 114]) = false := by rw [hl, str_toL]; rfl
 have f19 : ((str l).toList == [110, 111, 116]) = false := by rw [hl, str_toL]; rfl
 have f20 : ((str l).toList == [110, 117, 108, 108]) = false := by rw [hl, str_toL]; rfl
 have f21 : ((str l).toList == [116, 114, 117, 101]) = false := by rw [hl, str_toL]; rfl
 have f22 : ((str l).toList == [102, 97, 108, 115, 101]) = false := by rw [hl, str_toL]; rfl
 have f23 : ((str l).toList == [105, 115]) = false := by rw [hl, str_toL]; rfl
 have f24 : ((str l).toList == [105, 110]) = false := by rw [hl, str_toL]; rfl
 have f25 : ((str l).toList == [101, 120, 105, 115, 116, 115]) = false := by rw [hl, str_toL]; rfl
 have f26 : ((str l).toList == [99, 111, 117, 110, 116]) = false := by rw [hl, str_toL]; rfl
 have f27 : ((str l).toList == [115, 117, 109]) = false := by rw [hl, str_toL]; rfl
 have f28 : ((str l).toList == [109, 105, 110]) = false := by rw [hl, str_toL]; rfl
 have f29 : ((str l).toList == [109, 97, 120]) = false := by rw [hl, str_toL]; rfl
 have f30 : ((str l).toList == [99, 114, 101, 97, 116, 101]) = false := by rw [hl, str_toL]; rfl
 have f31 : ((str l).toList == [116, 97, 98, 108, 101]) = false := by rw [hl, str_toL]; rfl
 have f32 : ((str l).toList == [118, 105, 101, 119]) = false := by rw [hl, str_toL]; rfl
 have f33 : ((str l).toList == [105, 110, 116]) = false := by rw [hl, str_toL]; rfl
 have f34 : ((str l).toList == [116, 101, 120, 116]) = false := by rw [hl, str_toL]; rfl
 have f35 : ((str l).toList == [98, 111, 111, 108]) = false := by rw [hl, str_toL]; rfl
 have f36 : ((str l).toList == [112, 114, 105, 109, 97, 114, 121]) = false := by rw [hl, str_toL]; rfl
 have f37 : ((str l).toList == [107, 101, 121]) = true := by rw [hl, str_toL]; rfl
 clear hl
 go_enter Tryz.func103, Tryz.ntmps103
 go_wp2_with fail
 go_ret
 exact ⟨rfl, Below.refl _ _⟩
theorem word_38 (l : List Int) (w : World) (hl : l = [105, 110, 115, 101, 114, 116]) : Calls Tryz.prog 103 #[.string (str l)] w (BO w true) := by
 have f0 : ((str l).toList == [115, 101, 108, 101, 99, 116]) = false := by rw [hl, str_toL]; rfl
 have f1 : ((str l).toList == [100, 105, 115, 116, 105, 110, 99, 116]) = false := by rw [hl, str_toL]; rfl
 have f2 : ((str l).toList == [102, 114, 111, 109]) = false := by rw [hl, str_toL]; rfl
 have f3 : ((str l).toList == [106, 111, 105, 110]) = false := by rw [hl, str_toL]; rfl
 have f4 : ((str l).toList == [108, 101, 102, 116]) = false := by rw [hl, str_toL]; rfl
 have f5 : ((str l).toList == [111, 110]) = false := by rw [hl, str_toL]; rfl
 have f6 : ((str l).toList == [119, 104, 101, 114, 101]) = false := by rw [hl, str_toL]; rfl
 have f7 : ((str l).toList == [103, 114, 111, 117, 112]) = false := by rw [hl, str_toL]; rfl
 have f8 : ((str l).toList == [98, 121]) = false := by rw [hl, str_toL]; rfl
 have f9 : ((str l).toList == [104, 97, 118, 105, 110, 103]) = false := by rw [hl, str_toL]; rfl
 have f10 : ((str l).toList == [111, 114, 100, 101, 114]) = false := by rw [hl, str_toL]; rfl
 have f11 : ((str l).toList == [100, 101, 115, 99]) = false := by rw [hl, str_toL]; rfl
 have f12 : ((str l).toList == [108, 105, 109, 105, 116]) = false := by rw [hl, str_toL]; rfl
 have f13 : ((str l).toList == [117, 110, 105, 111, 110]) = false := by rw [hl, str_toL]; rfl
 have f14 : ((str l).toList == [97, 108, 108]) = false := by rw [hl, str_toL]; rfl
 have f15 : ((str l).toList == [101, 120, 99, 101, 112, 116]) = false := by rw [hl, str_toL]; rfl
 have f16 : ((str l).toList == [97, 115]) = false := by rw [hl, str_toL]; rfl
 have f17 : ((str l).toList == [97, 110, 100]) = false := by rw [hl, str_toL]; rfl
 have f18 : ((str l).toList == [111, 114]) = false := by rw [hl, str_toL]; rfl
 have f19 : ((str l).toList == [110, 111, 116]) = false := by rw [hl, str_toL]; rfl
 have f20 : ((str l).toList == [110, 117, 108, 108]) = false := by rw [hl, str_toL]; rfl
 have f21 : ((str l).toList == [116, 114, 117, 101]) = false := by rw [hl, str_toL]; rfl
 have f22 : ((str l).toList == [102, 97, 108, 115, 101]) = false := by rw [hl, str_toL]; rfl
 have f23 : ((str l).toList == [105, 115]) = false := by rw [hl, str_toL]; rfl
 have f24 : ((str l).toList == [105, 110]) = false := by rw [hl, str_toL]; rfl
 have f25 : ((str l).toList == [101, 120, 105, 115, 116, 115]) = false := by rw [hl, str_toL]; rfl
 have f26 : ((str l).toList == [99, 111, 117, 110, 116]) = false := by rw [hl, str_toL]; rfl
 have f27 : ((str l).toList == [115, 117, 109]) = false := by rw [hl, str_toL]; rfl
 have f28 : ((str l).toList == [109, 105, 110]) = false := by rw [hl, str_toL]; rfl
 have f29 : ((str l).toList == [109, 97, 120]) = false := by rw [hl, str_toL]; rfl
 have f30 : ((str l).toList == [99, 114, 101, 97, 116, 101]) = false := by rw [hl, str_toL]; rfl
 have f31 : ((str l).toList == [116, 97, 98, 108, 101]) = false := by rw [hl, str_toL]; rfl
 have f32 : ((str l).toList == [118, 105, 101, 119]) = false := by rw [hl, str_toL]; rfl
 have f33 : ((str l).toList == [105, 110, 116]) = false := by rw [hl, str_toL]; rfl
 have f34 : ((str l).toList == [116, 101, 120, 116]) = false := by rw [hl, str_toL]; rfl
 have f35 : ((str l).toList == [98, 111, 111, 108]) = false := by rw [hl, str_toL]; rfl
 have f36 : ((str l).toList == [112, 114, 105, 109, 97, 114, 121]) = false := by rw [hl, str_toL]; rfl
 have f37 : ((str l).toList == [107, 101, 121]) = false := by rw [hl, str_toL]; rfl
 have f38 : ((str l).toList == [105, 110, 115, 101, 114, 116]) = true := by rw [hl, str_toL]; rfl
 clear hl
 go_enter Tryz.func103, Tryz.ntmps103
 go_wp2_with fail
 go_ret
 exact ⟨rfl, Below.refl _ _⟩
theorem word_39 (l : List Int) (w : World) (hl : l = [105, 110, 116, 111]) : Calls Tryz.prog 103 #[.string (str l)] w (BO w true) := by
 have f0 : ((str l).toList == [115, 101, 108, 101, 99, 116]) = false := by rw [hl, str_toL]; rfl
 have f1 : ((str l).toList == [100, 105, 115, 116, 105, 110, 99, 116]) = false := by rw [hl, str_toL]; rfl
 have f2 : ((str l).toList == [102, 114, 111, 109]) = false := by rw [hl, str_toL]; rfl
 have f3 : ((str l).toList == [106, 111, 105, 110]) = false := by rw [hl, str_toL]; rfl
 have f4 : ((str l).toList == [108, 101, 102, 116]) = false := by rw [hl, str_toL]; rfl
 have f5 : ((str l).toList == [111, 110]) = false := by rw [hl, str_toL]; rfl
 have f6 : ((str l).toList == [119, 104, 101, 114, 101]) = false := by rw [hl, str_toL]; rfl
 have f7 : ((str l).toList == [103, 114, 111, 117, 112]) = false := by rw [hl, str_toL]; rfl
 have f8 : ((str l).toList == [98, 121]) = false := by rw [hl, str_toL]; rfl
 have f9 : ((str l).toList == [104, 97, 118, 105, 110, 103]) = false := by rw [hl, str_toL]; rfl
 have f10 : ((str l).toList == [111, 114, 100, 101, 114]) = false := by rw [hl, str_toL]; rfl
 have f11 : ((str l).toList == [100, 101, 115, 99]) = false := by rw [hl, str_toL]; rfl
 have f12 : ((str l).toList == [108, 105, 109, 105, 116]) = false := by rw [hl, str_toL]; rfl
 have f13 : ((str l).toList == [117, 110, 105, 111, 110]) = false := by rw [hl, str_toL]; rfl
 have f14 : ((str l).toList == [97, 108, 108]) = false := by rw [hl, str_toL]; rfl
 have f15 : ((str l).toList == [101, 120, 99, 101, 112, 116]) = false := by rw [hl, str_toL]; rfl
 have f16 : ((str l).toList == [97, 115]) = false := by rw [hl, str_toL]; rfl
 have f17 : ((str l).toList == [97, 110, 100]) = false := by rw [hl, str_toL]; rfl
 have f18 : ((str l).toList == [111, 114]) = false := by rw [hl, str_toL]; rfl
 have f19 : ((str l).toList == [110, 111, 116]) = false := by rw [hl, str_toL]; rfl
 have f20 : ((str l).toList == [110, 117, 108, 108]) = false := by rw [hl, str_toL]; rfl
 have f21 : ((str l).toList == [116, 114, 117, 101]) = false := by rw [hl, str_toL]; rfl
 have f22 : ((str l).toList == [102, 97, 108, 115, 101]) = false := by rw [hl, str_toL]; rfl
 have f23 : ((str l).toList == [105, 115]) = false := by rw [hl, str_toL]; rfl
 have f24 : ((str l).toList == [105, 110]) = false := by rw [hl, str_toL]; rfl
 have f25 : ((str l).toList == [101, 120, 105, 115, 116, 115]) = false := by rw [hl, str_toL]; rfl
 have f26 : ((str l).toList == [99, 111, 117, 110, 116]) = false := by rw [hl, str_toL]; rfl
 have f27 : ((str l).toList == [115, 117, 109]) = false := by rw [hl, str_toL]; rfl
 have f28 : ((str l).toList == [109, 105, 110]) = false := by rw [hl, str_toL]; rfl
 have f29 : ((str l).toList == [109, 97, 120]) = false := by rw [hl, str_toL]; rfl
 have f30 : ((str l).toList == [99, 114, 101, 97, 116, 101]) = false := by rw [hl, str_toL]; rfl
 have f31 : ((str l).toList == [116, 97, 98, 108, 101]) = false := by rw [hl, str_toL]; rfl
 have f32 : ((str l).toList == [118, 105, 101, 119]) = false := by rw [hl, str_toL]; rfl
 have f33 : ((str l).toList == [105, 110, 116]) = false := by rw [hl, str_toL]; rfl
 have f34 : ((str l).toList == [116, 101, 120, 116]) = false := by rw [hl, str_toL]; rfl
 have f35 : ((str l).toList == [98, 111, 111, 108]) = false := by rw [hl, str_toL]; rfl
 have f36 : ((str l).toList == [112, 114, 105, 109, 97, 114, 121]) = false := by rw [hl, str_toL]; rfl
 have f37 : ((str l).toList == [107, 101, 121]) = false := by rw [hl, str_toL]; rfl
 have f38 : ((str l).toList == [105, 110, 115, 101, 114, 116]) = false := by rw [hl, str_toL]; rfl
 have f39 : ((str l).toList == [105, 110, 116, 111]) = true := by rw [hl, str_toL]; rfl
 clear hl
 go_enter Tryz.func103, Tryz.ntmps103
 go_wp2_with fail
 go_ret
 exact ⟨rfl, Below.refl _ _⟩
theorem word_40 (l : List Int) (w : World) (hl : l = [118, 97, 108, 117, 101, 115]) : Calls Tryz.prog 103 #[.string (str l)] w (BO w true) := by
 have f0 : ((str l).toList == [115, 101, 108, 101, 99, 116]) = false := by rw [hl, str_toL]; rfl
 have f1 : ((str l).toList == [100, 105, 115, 116, 105, 110, 99, 116]) = false := by rw [hl, str_toL]; rfl
 have f2 : ((str l).toList == [102, 114, 111, 109]) = false := by rw [hl, str_toL]; rfl
 have f3 : ((str l).toList == [106, 111, 105, 110]) = false := by rw [hl, str_toL]; rfl
 have f4 : ((str l).toList == [108, 101, 102, 116]) = false := by rw [hl, str_toL]; rfl
 have f5 : ((str l).toList == [111, 110]) = false := by rw [hl, str_toL]; rfl
 have f6 : ((str l).toList == [119, 104, 101, 114, 101]) = false := by rw [hl, str_toL]; rfl
 have f7 : ((str l).toList == [103, 114, 111, 117, 112]) = false := by rw [hl, str_toL]; rfl
 have f8 : ((str l).toList == [98, 121]) = false := by rw [hl, str_toL]; rfl
 have f9 : ((str l).toList == [104, 97, 118, 105, 110, 103]) = false := by rw [hl, str_toL]; rfl
 have f10 : ((str l).toList == [111, 114, 100, 101, 114]) = false := by rw [hl, str_toL]; rfl
 have f11 : ((str l).toList == [100, 101, 115, 99]) = false := by rw [hl, str_toL]; rfl
 have f12 : ((str l).toList == [108, 105, 109, 105, 116]) = false := by rw [hl, str_toL]; rfl
 have f13 : ((str l).toList == [117, 110, 105, 111, 110]) = false := by rw [hl, str_toL]; rfl
 have f14 : ((str l).toList == [97, 108, 108]) = false := by rw [hl, str_toL]; rfl
 have f15 : ((str l).toList == [101, 120, 99, 101, 112, 116]) = false := by rw [hl, str_toL]; rfl
 have f16 : ((str l).toList == [97, 115]) = false := by rw [hl, str_toL]; rfl
 have f17 : ((str l).toList == [97, 110, 100]) = false := by rw [hl, str_toL]; rfl
 have f18 : ((str l).toList == [111, 114]) = false := by rw [hl, str_toL]; rfl
 have f19 : ((str l).toList == [110, 111, 116]) = false := by rw [hl, str_toL]; rfl
 have f20 : ((str l).toList == [110, 117, 108, 108]) = false := by rw [hl, str_toL]; rfl
 have f21 : ((str l).toList == [116, 114, 117, 101]) = false := by rw [hl, str_toL]; rfl
 have f22 : ((str l).toList == [102, 97, 108, 115, 101]) = false := by rw [hl, str_toL]; rfl
 have f23 : ((str l).toList == [105, 115]) = false := by rw [hl, str_toL]; rfl
 have f24 : ((str l).toList == [105, 110]) = false := by rw [hl, str_toL]; rfl
 have f25 : ((str l).toList == [101, 120, 105, 115, 116, 115]) = false := by rw [hl, str_toL]; rfl
 have f26 : ((str l).toList == [99, 111, 117, 110, 116]) = false := by rw [hl, str_toL]; rfl
 have f27 : ((str l).toList == [115, 117, 109]) = false := by rw [hl, str_toL]; rfl
 have f28 : ((str l).toList == [109, 105, 110]) = false := by rw [hl, str_toL]; rfl
 have f29 : ((str l).toList == [109, 97, 120]) = false := by rw [hl, str_toL]; rfl
 have f30 : ((str l).toList == [99, 114, 101, 97, 116, 101]) = false := by rw [hl, str_toL]; rfl
 have f31 : ((str l).toList == [116, 97, 98, 108, 101]) = false := by rw [hl, str_toL]; rfl
 have f32 : ((str l).toList == [118, 105, 101, 119]) = false := by rw [hl, str_toL]; rfl
 have f33 : ((str l).toList == [105, 110, 116]) = false := by rw [hl, str_toL]; rfl
 have f34 : ((str l).toList == [116, 101, 120, 116]) = false := by rw [hl, str_toL]; rfl
 have f35 : ((str l).toList == [98, 111, 111, 108]) = false := by rw [hl, str_toL]; rfl
 have f36 : ((str l).toList == [112, 114, 105, 109, 97, 114, 121]) = false := by rw [hl, str_toL]; rfl
 have f37 : ((str l).toList == [107, 101, 121]) = false := by rw [hl, str_toL]; rfl
 have f38 : ((str l).toList == [105, 110, 115, 101, 114, 116]) = false := by rw [hl, str_toL]; rfl
 have f39 : ((str l).toList == [105, 110, 116, 111]) = false := by rw [hl, str_toL]; rfl
 have f40 : ((str l).toList == [118, 97, 108, 117, 101, 115]) = true := by rw [hl, str_toL]; rfl
 clear hl
 go_enter Tryz.func103, Tryz.ntmps103
 go_wp2_with fail
 go_ret
 exact ⟨rfl, Below.refl _ _⟩
theorem word_41 (l : List Int) (w : World) (hl : l = [100, 101, 108, 101, 116, 101]) : Calls Tryz.prog 103 #[.string (str l)] w (BO w true) := by
 have f0 : ((str l).toList == [115, 101, 108, 101, 99, 116]) = false := by rw [hl, str_toL]; rfl
 have f1 : ((str l).toList == [100, 105, 115, 116, 105, 110, 99, 116]) = false := by rw [hl, str_toL]; rfl
 have f2 : ((str l).toList == [102, 114, 111, 109]) = false := by rw [hl, str_toL]; rfl
 have f3 : ((str l).toList == [106, 111, 105, 110]) = false := by rw [hl, str_toL]; rfl
 have f4 : ((str l).toList == [108, 101, 102, 116]) = false := by rw [hl, str_toL]; rfl
 have f5 : ((str l).toList == [111, 110]) = false := by rw [hl, str_toL]; rfl
 have f6 : ((str l).toList == [119, 104, 101, 114, 101]) = false := by rw [hl, str_toL]; rfl
 have f7 : ((str l).toList == [103, 114, 111, 117, 112]) = false := by rw [hl, str_toL]; rfl
 have f8 : ((str l).toList == [98, 121]) = false := by rw [hl, str_toL]; rfl
 have f9 : ((str l).toList == [104, 97, 118, 105, 110, 103]) = false := by rw [hl, str_toL]; rfl
 have f10 : ((str l).toList == [111, 114, 100, 101, 114]) = false := by rw [hl, str_toL]; rfl
 have f11 : ((str l).toList == [100, 101, 115, 99]) = false := by rw [hl, str_toL]; rfl
 have f12 : ((str l).toList == [108, 105, 109, 105, 116]) = false := by rw [hl, str_toL]; rfl
 have f13 : ((str l).toList == [117, 110, 105, 111, 110]) = false := by rw [hl, str_toL]; rfl
 have f14 : ((str l).toList == [97, 108, 108]) = false := by rw [hl, str_toL]; rfl
 have f15 : ((str l).toList == [101, 120, 99, 101, 112, 116]) = false := by rw [hl, str_toL]; rfl
 have f16 : ((str l).toList == [97, 115]) = false := by rw [hl, str_toL]; rfl
 have f17 : ((str l).toList == [97, 110, 100]) = false := by rw [hl, str_toL]; rfl
 have f18 : ((str l).toList == [111, 114]) = false := by rw [hl, str_toL]; rfl
 have f19 : ((str l).toList == [110, 111, 116]) = false := by rw [hl, str_toL]; rfl
 have f20 : ((str l).toList == [110, 117, 108, 108]) = false := by rw [hl, str_toL]; rfl
 have f21 : ((str l).toList == [116, 114, 117, 101]) = false := by rw [hl, str_toL]; rfl
 have f22 : ((str l).toList == [102, 97, 108, 115, 101]) = false := by rw [hl, str_toL]; rfl
 have f23 : ((str l).toList == [105, 115]) = false := by rw [hl, str_toL]; rfl
 have f24 : ((str l).toList == [105, 110]) = false := by rw [hl, str_toL]; rfl
 have f25 : ((str l).toList == [101, 120, 105, 115, 116, 115]) = false := by rw [hl, str_toL]; rfl
 have f26 : ((str l).toList == [99, 111, 117, 110, 116]) = false := by rw [hl, str_toL]; rfl
 have f27 : ((str l).toList == [115, 117, 109]) = false := by rw [hl, str_toL]; rfl
 have f28 : ((str l).toList == [109, 105, 110]) = false := by rw [hl, str_toL]; rfl
 have f29 : ((str l).toList == [109, 97, 120]) = false := by rw [hl, str_toL]; rfl
 have f30 : ((str l).toList == [99, 114, 101, 97, 116, 101]) = false := by rw [hl, str_toL]; rfl
 have f31 : ((str l).toList == [116, 97, 98, 108, 101]) = false := by rw [hl, str_toL]; rfl
 have f32 : ((str l).toList == [118, 105, 101, 119]) = false := by rw [hl, str_toL]; rfl
 have f33 : ((str l).toList == [105, 110, 116]) = false := by rw [hl, str_toL]; rfl
 have f34 : ((str l).toList == [116, 101, 120, 116]) = false := by rw [hl, str_toL]; rfl
 have f35 : ((str l).toList == [98, 111, 111, 108]) = false := by rw [hl, str_toL]; rfl
 have f36 : ((str l).toList == [112, 114, 105, 109, 97, 114, 121]) = false := by rw [hl, str_toL]; rfl
 have f37 : ((str l).toList == [107, 101, 121]) = false := by rw [hl, str_toL]; rfl
 have f38 : ((str l).toList == [105, 110, 115, 101, 114, 116]) = false := by rw [hl, str_toL]; rfl
 have f39 : ((str l).toList == [105, 110, 116, 111]) = false := by rw [hl, str_toL]; rfl
 have f40 : ((str l).toList == [118, 97, 108, 117, 101, 115]) = false := by rw [hl, str_toL]; rfl
 have f41 : ((str l).toList == [100, 101, 108, 101, 116, 101]) = true := by rw [hl, str_toL]; rfl
 clear hl
 go_enter Tryz.func103, Tryz.ntmps103
 go_wp2_with fail
 go_ret
 exact ⟨rfl, Below.refl _ _⟩
theorem word_42 (l : List Int) (w : World) (hl : l = [117, 112, 100, 97, 116, 101]) : Calls Tryz.prog 103 #[.string (str l)] w (BO w true) := by
 have f0 : ((str l).toList == [115, 101, 108, 101, 99, 116]) = false := by rw [hl, str_toL]; rfl
 have f1 : ((str l).toList == [100, 105, 115, 116, 105, 110, 99, 116]) = false := by rw [hl, str_toL]; rfl
 have f2 : ((str l).toList == [102, 114, 111, 109]) = false := by rw [hl, str_toL]; rfl
 have f3 : ((str l).toList == [106, 111, 105, 110]) = false := by rw [hl, str_toL]; rfl
 have f4 : ((str l).toList == [108, 101, 102, 116]) = false := by rw [hl, str_toL]; rfl
 have f5 : ((str l).toList == [111, 110]) = false := by rw [hl, str_toL]; rfl
 have f6 : ((str l).toList == [119, 104, 101, 114, 101]) = false := by rw [hl, str_toL]; rfl
 have f7 : ((str l).toList == [103, 114, 111, 117, 112]) = false := by rw [hl, str_toL]; rfl
 have f8 : ((str l).toList == [98, 121]) = false := by rw [hl, str_toL]; rfl
 have f9 : ((str l).toList == [104, 97, 118, 105, 110, 103]) = false := by rw [hl, str_toL]; rfl
 have f10 : ((str l).toList == [111, 114, 100, 101, 114]) = false := by rw [hl, str_toL]; rfl
 have f11 : ((str l).toList == [100, 101, 115, 99]) = false := by rw [hl, str_toL]; rfl
 have f12 : ((str l).toList == [108, 105, 109, 105, 116]) = false := by rw [hl, str_toL]; rfl
 have f13 : ((str l).toList == [117, 110, 105, 111, 110]) = false := by rw [hl, str_toL]; rfl
 have f14 : ((str l).toList == [97, 108, 108]) = false := by rw [hl, str_toL]; rfl
 have f15 : ((str l).toList == [101, 120, 99, 101, 112, 116]) = false := by rw [hl, str_toL]; rfl
 have f16 : ((str l).toList == [97, 115]) = false := by rw [hl, str_toL]; rfl
 have f17 : ((str l).toList == [97, 110, 100]) = false := by rw [hl, str_toL]; rfl
 have f18 : ((str l).toList == [111, 114]) = false := by rw [hl, str_toL]; rfl
 have f19 : ((str l).toList == [110, 111, 116]) = false := by rw [hl, str_toL]; rfl
 have f20 : ((str l).toList == [110, 117, 108, 108]) = false := by rw [hl, str_toL]; rfl
 have f21 : ((str l).toList == [116, 114, 117, 101]) = false := by rw [hl, str_toL]; rfl
 have f22 : ((str l).toList == [102, 97, 108, 115, 101]) = false := by rw [hl, str_toL]; rfl
 have f23 : ((str l).toList == [105, 115]) = false := by rw [hl, str_toL]; rfl
 have f24 : ((str l).toList == [105, 110]) = false := by rw [hl, str_toL]; rfl
 have f25 : ((str l).toList == [101, 120, 105, 115, 116, 115]) = false := by rw [hl, str_toL]; rfl
 have f26 : ((str l).toList == [99, 111, 117, 110, 116]) = false := by rw [hl, str_toL]; rfl
 have f27 : ((str l).toList == [115, 117, 109]) = false := by rw [hl, str_toL]; rfl
 have f28 : ((str l).toList == [109, 105, 110]) = false := by rw [hl, str_toL]; rfl
 have f29 : ((str l).toList == [109, 97, 120]) = false := by rw [hl, str_toL]; rfl
 have f30 : ((str l).toList == [99, 114, 101, 97, 116, 101]) = false := by rw [hl, str_toL]; rfl
 have f31 : ((str l).toList == [116, 97, 98, 108, 101]) = false := by rw [hl, str_toL]; rfl
 have f32 : ((str l).toList == [118, 105, 101, 119]) = false := by rw [hl, str_toL]; rfl
 have f33 : ((str l).toList == [105, 110, 116]) = false := by rw [hl, str_toL]; rfl
 have f34 : ((str l).toList == [116, 101, 120, 116]) = false := by rw [hl, str_toL]; rfl
 have f35 : ((str l).toList == [98, 111, 111, 108]) = false := by rw [hl, str_toL]; rfl
 have f36 : ((str l).toList == [112, 114, 105, 109, 97, 114, 121]) = false := by rw [hl, str_toL]; rfl
 have f37 : ((str l).toList == [107, 101, 121]) = false := by rw [hl, str_toL]; rfl
 have f38 : ((str l).toList == [105, 110, 115, 101, 114, 116]) = false := by rw [hl, str_toL]; rfl
 have f39 : ((str l).toList == [105, 110, 116, 111]) = false := by rw [hl, str_toL]; rfl
 have f40 : ((str l).toList == [118, 97, 108, 117, 101, 115]) = false := by rw [hl, str_toL]; rfl
 have f41 : ((str l).toList == [100, 101, 108, 101, 116, 101]) = false := by rw [hl, str_toL]; rfl
 have f42 : ((str l).toList == [117, 112, 100, 97, 116, 101]) = true := by rw [hl, str_toL]; rfl
 clear hl
 go_enter Tryz.func103, Tryz.ntmps103
 go_wp2_with fail
 go_ret
 exact ⟨rfl, Below.refl _ _⟩
theorem word_43 (l : List Int) (w : World) (hl : l = [115, 101, 116]) : Calls Tryz.prog 103 #[.string (str l)] w (BO w true) := by
 have f0 : ((str l).toList == [115, 101, 108, 101, 99, 116]) = false := by rw [hl, str_toL]; rfl
 have f1 : ((str l).toList == [100, 105, 115, 116, 105, 110, 99, 116]) = false := by rw [hl, str_toL]; rfl
 have f2 : ((str l).toList == [102, 114, 111, 109]) = false := by rw [hl, str_toL]; rfl
 have f3 : ((str l).toList == [106, 111, 105, 110]) = false := by rw [hl, str_toL]; rfl
 have f4 : ((str l).toList == [108, 101, 102, 116]) = false := by rw [hl, str_toL]; rfl
 have f5 : ((str l).toList == [111, 110]) = false := by rw [hl, str_toL]; rfl
 have f6 : ((str l).toList == [119, 104, 101, 114, 101]) = false := by rw [hl, str_toL]; rfl
 have f7 : ((str l).toList == [103, 114, 111, 117, 112]) = false := by rw [hl, str_toL]; rfl
 have f8 : ((str l).toList == [98, 121]) = false := by rw [hl, str_toL]; rfl
 have f9 : ((str l).toList == [104, 97, 118, 105, 110, 103]) = false := by rw [hl, str_toL]; rfl
 have f10 : ((str l).toList == [111, 114, 100, 101, 114]) = false := by rw [hl, str_toL]; rfl
 have f11 : ((str l).toList == [100, 101, 115, 99]) = false := by rw [hl, str_toL]; rfl
 have f12 : ((str l).toList == [108, 105, 109, 105, 116]) = false := by rw [hl, str_toL]; rfl
 have f13 : ((str l).toList == [117, 110, 105, 111, 110]) = false := by rw [hl, str_toL]; rfl
 have f14 : ((str l).toList == [97, 108, 108]) = false := by rw [hl, str_toL]; rfl
 have f15 : ((str l).toList == [101, 120, 99, 101, 112, 116]) = false := by rw [hl, str_toL]; rfl
 have f16 : ((str l).toList == [97, 115]) = false := by rw [hl, str_toL]; rfl
 have f17 : ((str l).toList == [97, 110, 100]) = false := by rw [hl, str_toL]; rfl
 have f18 : ((str l).toList == [111, 114]) = false := by rw [hl, str_toL]; rfl
 have f19 : ((str l).toList == [110, 111, 116]) = false := by rw [hl, str_toL]; rfl
 have f20 : ((str l).toList == [110, 117, 108, 108]) = false := by rw [hl, str_toL]; rfl
 have f21 : ((str l).toList == [116, 114, 117, 101]) = false := by rw [hl, str_toL]; rfl
 have f22 : ((str l).toList == [102, 97, 108, 115, 101]) = false := by rw [hl, str_toL]; rfl
 have f23 : ((str l).toList == [105, 115]) = false := by rw [hl, str_toL]; rfl
 have f24 : ((str l).toList == [105, 110]) = false := by rw [hl, str_toL]; rfl
 have f25 : ((str l).toList == [101, 120, 105, 115, 116, 115]) = false := by rw [hl, str_toL]; rfl
 have f26 : ((str l).toList == [99, 111, 117, 110, 116]) = false := by rw [hl, str_toL]; rfl
 have f27 : ((str l).toList == [115, 117, 109]) = false := by rw [hl, str_toL]; rfl
 have f28 : ((str l).toList == [109, 105, 110]) = false := by rw [hl, str_toL]; rfl
 have f29 : ((str l).toList == [109, 97, 120]) = false := by rw [hl, str_toL]; rfl
 have f30 : ((str l).toList == [99, 114, 101, 97, 116, 101]) = false := by rw [hl, str_toL]; rfl
 have f31 : ((str l).toList == [116, 97, 98, 108, 101]) = false := by rw [hl, str_toL]; rfl
 have f32 : ((str l).toList == [118, 105, 101, 119]) = false := by rw [hl, str_toL]; rfl
 have f33 : ((str l).toList == [105, 110, 116]) = false := by rw [hl, str_toL]; rfl
 have f34 : ((str l).toList == [116, 101, 120, 116]) = false := by rw [hl, str_toL]; rfl
 have f35 : ((str l).toList == [98, 111, 111, 108]) = false := by rw [hl, str_toL]; rfl
 have f36 : ((str l).toList == [112, 114, 105, 109, 97, 114, 121]) = false := by rw [hl, str_toL]; rfl
 have f37 : ((str l).toList == [107, 101, 121]) = false := by rw [hl, str_toL]; rfl
 have f38 : ((str l).toList == [105, 110, 115, 101, 114, 116]) = false := by rw [hl, str_toL]; rfl
 have f39 : ((str l).toList == [105, 110, 116, 111]) = false := by rw [hl, str_toL]; rfl
 have f40 : ((str l).toList == [118, 97, 108, 117, 101, 115]) = false := by rw [hl, str_toL]; rfl
 have f41 : ((str l).toList == [100, 101, 108, 101, 116, 101]) = false := by rw [hl, str_toL]; rfl
 have f42 : ((str l).toList == [117, 112, 100, 97, 116, 101]) = false := by rw [hl, str_toL]; rfl
 have f43 : ((str l).toList == [115, 101, 116]) = true := by rw [hl, str_toL]; rfl
 clear hl
 go_enter Tryz.func103, Tryz.ntmps103
 go_wp2_with fail
 go_ret
 exact ⟨rfl, Below.refl _ _⟩
theorem word_44 (l : List Int) (w : World) (hl : l = [99, 111, 109, 109, 105, 116]) : Calls Tryz.prog 103 #[.string (str l)] w (BO w true) := by
 have f0 : ((str l).toList == [115, 101, 108, 101, 99, 116]) = false := by rw [hl, str_toL]; rfl
 have f1 : ((str l).toList == [100, 105, 115, 116, 105, 110, 99, 116]) = false := by rw [hl, str_toL]; rfl
 have f2 : ((str l).toList == [102, 114, 111, 109]) = false := by rw [hl, str_toL]; rfl
 have f3 : ((str l).toList == [106, 111, 105, 110]) = false := by rw [hl, str_toL]; rfl
 have f4 : ((str l).toList == [108, 101, 102, 116]) = false := by rw [hl, str_toL]; rfl
 have f5 : ((str l).toList == [111, 110]) = false := by rw [hl, str_toL]; rfl
 have f6 : ((str l).toList == [119, 104, 101, 114, 101]) = false := by rw [hl, str_toL]; rfl
 have f7 : ((str l).toList == [103, 114, 111, 117, 112]) = false := by rw [hl, str_toL]; rfl
 have f8 : ((str l).toList == [98, 121]) = false := by rw [hl, str_toL]; rfl
 have f9 : ((str l).toList == [104, 97, 118, 105, 110, 103]) = false := by rw [hl, str_toL]; rfl
 have f10 : ((str l).toList == [111, 114, 100, 101, 114]) = false := by rw [hl, str_toL]; rfl
 have f11 : ((str l).toList == [100, 101, 115, 99]) = false := by rw [hl, str_toL]; rfl
 have f12 : ((str l).toList == [108, 105, 109, 105, 116]) = false := by rw [hl, str_toL]; rfl
 have f13 : ((str l).toList == [117, 110, 105, 111, 110]) = false := by rw [hl, str_toL]; rfl
 have f14 : ((str l).toList == [97, 108, 108]) = false := by rw [hl, str_toL]; rfl
 have f15 : ((str l).toList == [101, 120, 99, 101, 112, 116]) = false := by rw [hl, str_toL]; rfl
 have f16 : ((str l).toList == [97, 115]) = false := by rw [hl, str_toL]; rfl
 have f17 : ((str l).toList == [97, 110, 100]) = false := by rw [hl, str_toL]; rfl
 have f18 : ((str l).toList == [111, 114]) = false := by rw [hl, str_toL]; rfl
 have f19 : ((str l).toList == [110, 111, 116]) = false := by rw [hl, str_toL]; rfl
 have f20 : ((str l).toList == [110, 117, 108, 108]) = false := by rw [hl, str_toL]; rfl
 have f21 : ((str l).toList == [116, 114, 117, 101]) = false := by rw [hl, str_toL]; rfl
 have f22 : ((str l).toList == [102, 97, 108, 115, 101]) = false := by rw [hl, str_toL]; rfl
 have f23 : ((str l).toList == [105, 115]) = false := by rw [hl, str_toL]; rfl
 have f24 : ((str l).toList == [105, 110]) = false := by rw [hl, str_toL]; rfl
 have f25 : ((str l).toList == [101, 120, 105, 115, 116, 115]) = false := by rw [hl, str_toL]; rfl
 have f26 : ((str l).toList == [99, 111, 117, 110, 116]) = false := by rw [hl, str_toL]; rfl
 have f27 : ((str l).toList == [115, 117, 109]) = false := by rw [hl, str_toL]; rfl
 have f28 : ((str l).toList == [109, 105, 110]) = false := by rw [hl, str_toL]; rfl
 have f29 : ((str l).toList == [109, 97, 120]) = false := by rw [hl, str_toL]; rfl
 have f30 : ((str l).toList == [99, 114, 101, 97, 116, 101]) = false := by rw [hl, str_toL]; rfl
 have f31 : ((str l).toList == [116, 97, 98, 108, 101]) = false := by rw [hl, str_toL]; rfl
 have f32 : ((str l).toList == [118, 105, 101, 119]) = false := by rw [hl, str_toL]; rfl
 have f33 : ((str l).toList == [105, 110, 116]) = false := by rw [hl, str_toL]; rfl
 have f34 : ((str l).toList == [116, 101, 120, 116]) = false := by rw [hl, str_toL]; rfl
 have f35 : ((str l).toList == [98, 111, 111, 108]) = false := by rw [hl, str_toL]; rfl
 have f36 : ((str l).toList == [112, 114, 105, 109, 97, 114, 121]) = false := by rw [hl, str_toL]; rfl
 have f37 : ((str l).toList == [107, 101, 121]) = false := by rw [hl, str_toL]; rfl
 have f38 : ((str l).toList == [105, 110, 115, 101, 114, 116]) = false := by rw [hl, str_toL]; rfl
 have f39 : ((str l).toList == [105, 110, 116, 111]) = false := by rw [hl, str_toL]; rfl
 have f40 : ((str l).toList == [118, 97, 108, 117, 101, 115]) = false := by rw [hl, str_toL]; rfl
 have f41 : ((str l).toList == [100, 101, 108, 101, 116, 101]) = false := by rw [hl, str_toL]; rfl
 have f42 : ((str l).toList == [117, 112, 100, 97, 116, 101]) = false := by rw [hl, str_toL]; rfl
 have f43 : ((str l).toList == [115, 101, 116]) = false := by rw [hl, str_toL]; rfl
 have f44 : ((str l).toList == [99, 111, 109, 109, 105, 116]) = true := by rw [hl, str_toL]; rfl
 clear hl
 go_enter Tryz.func103, Tryz.ntmps103
 go_wp2_with fail
 go_ret
 exact ⟨rfl, Below.refl _ _⟩
theorem word_45 (l : List Int) (w : World) (hl : l = [97, 98, 111, 114, 116]) : Calls Tryz.prog 103 #[.string (str l)] w (BO w true) := by
 have f0 : ((str l).toList == [115, 101, 108, 101, 99, 116]) = false := by rw [hl, str_toL]; rfl
 have f1 : ((str l).toList == [100, 105, 115, 116, 105, 110, 99, 116]) = false := by rw [hl, str_toL]; rfl
 have f2 : ((str l).toList == [102, 114, 111, 109]) = false := by rw [hl, str_toL]; rfl
 have f3 : ((str l).toList == [106, 111, 105, 110]) = false := by rw [hl, str_toL]; rfl
 have f4 : ((str l).toList == [108, 101, 102, 116]) = false := by rw [hl, str_toL]; rfl
 have f5 : ((str l).toList == [111, 110]) = false := by rw [hl, str_toL]; rfl
 have f6 : ((str l).toList == [119, 104, 101, 114, 101]) = false := by rw [hl, str_toL]; rfl
 have f7 : ((str l).toList == [103, 114, 111, 117, 112]) = false := by rw [hl, str_toL]; rfl
 have f8 : ((str l).toList == [98, 121]) = false := by rw [hl, str_toL]; rfl
 have f9 : ((str l).toList == [104, 97, 118, 105, 110, 103]) = false := by rw [hl, str_toL]; rfl
 have f10 : ((str l).toList == [111, 114, 100, 101, 114]) = false := by rw [hl, str_toL]; rfl
 have f11 : ((str l).toList == [100, 101, 115, 99]) = false := by rw [hl, str_toL]; rfl
 have f12 : ((str l).toList == [108, 105, 109, 105, 116]) = false := by rw [hl, str_toL]; rfl
 have f13 : ((str l).toList == [117, 110, 105, 111, 110]) = false := by rw [hl, str_toL]; rfl
 have f14 : ((str l).toList == [97, 108, 108]) = false := by rw [hl, str_toL]; rfl
 have f15 : ((str l).toList == [101, 120, 99, 101, 112, 116]) = false := by rw [hl, str_toL]; rfl
 have f16 : ((str l).toList == [97, 115]) = false := by rw [hl, str_toL]; rfl
 have f17 : ((str l).toList == [97, 110, 100]) = false := by rw [hl, str_toL]; rfl
 have f18 : ((str l).toList == [111, 114]) = false := by rw [hl, str_toL]; rfl
 have f19 : ((str l).toList == [110, 111, 116]) = false := by rw [hl, str_toL]; rfl
 have f20 : ((str l).toList == [110, 117, 108, 108]) = false := by rw [hl, str_toL]; rfl
 have f21 : ((str l).toList == [116, 114, 117, 101]) = false := by rw [hl, str_toL]; rfl
 have f22 : ((str l).toList == [102, 97, 108, 115, 101]) = false := by rw [hl, str_toL]; rfl
 have f23 : ((str l).toList == [105, 115]) = false := by rw [hl, str_toL]; rfl
 have f24 : ((str l).toList == [105, 110]) = false := by rw [hl, str_toL]; rfl
 have f25 : ((str l).toList == [101, 120, 105, 115, 116, 115]) = false := by rw [hl, str_toL]; rfl
 have f26 : ((str l).toList == [99, 111, 117, 110, 116]) = false := by rw [hl, str_toL]; rfl
 have f27 : ((str l).toList == [115, 117, 109]) = false := by rw [hl, str_toL]; rfl
 have f28 : ((str l).toList == [109, 105, 110]) = false := by rw [hl, str_toL]; rfl
 have f29 : ((str l).toList == [109, 97, 120]) = false := by rw [hl, str_toL]; rfl
 have f30 : ((str l).toList == [99, 114, 101, 97, 116, 101]) = false := by rw [hl, str_toL]; rfl
 have f31 : ((str l).toList == [116, 97, 98, 108, 101]) = false := by rw [hl, str_toL]; rfl
 have f32 : ((str l).toList == [118, 105, 101, 119]) = false := by rw [hl, str_toL]; rfl
 have f33 : ((str l).toList == [105, 110, 116]) = false := by rw [hl, str_toL]; rfl
 have f34 : ((str l).toList == [116, 101, 120, 116]) = false := by rw [hl, str_toL]; rfl
 have f35 : ((str l).toList == [98, 111, 111, 108]) = false := by rw [hl, str_toL]; rfl
 have f36 : ((str l).toList == [112, 114, 105, 109, 97, 114, 121]) = false := by rw [hl, str_toL]; rfl
 have f37 : ((str l).toList == [107, 101, 121]) = false := by rw [hl, str_toL]; rfl
 have f38 : ((str l).toList == [105, 110, 115, 101, 114, 116]) = false := by rw [hl, str_toL]; rfl
 have f39 : ((str l).toList == [105, 110, 116, 111]) = false := by rw [hl, str_toL]; rfl
 have f40 : ((str l).toList == [118, 97, 108, 117, 101, 115]) = false := by rw [hl, str_toL]; rfl
 have f41 : ((str l).toList == [100, 101, 108, 101, 116, 101]) = false := by rw [hl, str_toL]; rfl
 have f42 : ((str l).toList == [117, 112, 100, 97, 116, 101]) = false := by rw [hl, str_toL]; rfl
 have f43 : ((str l).toList == [115, 101, 116]) = false := by rw [hl, str_toL]; rfl
 have f44 : ((str l).toList == [99, 111, 109, 109, 105, 116]) = false := by rw [hl, str_toL]; rfl
 have f45 : ((str l).toList == [97, 98, 111, 114, 116]) = true := by rw [hl, str_toL]; rfl
 clear hl
 go_enter Tryz.func103, Tryz.ntmps103
 go_wp2_with fail
 go_ret
 exact ⟨rfl, Below.refl _ _⟩
theorem word_no (l : List Int) (w : World) (h : Rng l) (hl : isWord l = false) : Calls Tryz.prog 103 #[.string (str l)] w (BO w false) := by
  have hn : ∀ m ∈ wordsL, ((str l).toList == (str m).toList) = false := fun m hm => by
    rw [str_beq h (by have : ∀ m ∈ wordsL, m.all (fun x => decide (0 ≤ x) && decide (x < 256)) = true := by decide
                      exact rngB (this m hm))]
    have := List.any_eq_false.1 hl m hm
    simpa using this
  have f0 : ((str l).toList == [115, 101, 108, 101, 99, 116]) = false := by have := hn [115, 101, 108, 101, 99, 116] (by decide); rw [str_toL [115, 101, 108, 101, 99, 116]] at this; exact this
  have f1 : ((str l).toList == [100, 105, 115, 116, 105, 110, 99, 116]) = false := by have := hn [100, 105, 115, 116, 105, 110, 99, 116] (by decide); rw [str_toL [100, 105, 115, 116, 105, 110, 99, 116]] at this; exact this
  have f2 : ((str l).toList == [102, 114, 111, 109]) = false := by have := hn [102, 114, 111, 109] (by decide); rw [str_toL [102, 114, 111, 109]] at this; exact this
  have f3 : ((str l).toList == [106, 111, 105, 110]) = false := by have := hn [106, 111, 105, 110] (by decide); rw [str_toL [106, 111, 105, 110]] at this; exact this
  have f4 : ((str l).toList == [108, 101, 102, 116]) = false := by have := hn [108, 101, 102, 116] (by decide); rw [str_toL [108, 101, 102, 116]] at this; exact this
  have f5 : ((str l).toList == [111, 110]) = false := by have := hn [111, 110] (by decide); rw [str_toL [111, 110]] at this; exact this
  have f6 : ((str l).toList == [119, 104, 101, 114, 101]) = false := by have := hn [119, 104, 101, 114, 101] (by decide); rw [str_toL [119, 104, 101, 114, 101]] at this; exact this
  have f7 : ((str l).toList == [103, 114, 111, 117, 112]) = false := by have := hn [103, 114, 111, 117, 112] (by decide); rw [str_toL [103, 114, 111, 117, 112]] at this; exact this
  have f8 : ((str l).toList == [98, 121]) = false := by have := hn [98, 121] (by decide); rw [str_toL [98, 121]] at this; exact this
  have f9 : ((str l).toList == [104, 97, 118, 105, 110, 103]) = false := by have := hn [104, 97, 118, 105, 110, 103] (by decide); rw [str_toL [104, 97, 118, 105, 110, 103]] at this; exact this
  have f10 : ((str l).toList == [111, 114, 100, 101, 114]) = false := by have := hn [111, 114, 100, 101, 114] (by decide); rw [str_toL [111, 114, 100, 101, 114]] at this; exact this
  have f11 : ((str l).toList == [100, 101, 115, 99]) = false := by have := hn [100, 101, 115, 99] (by decide); rw [str_toL [100, 101, 115, 99]] at this; exact this
  have f12 : ((str l).toList == [108, 105, 109, 105, 116]) = false := by have := hn [108, 105, 109, 105, 116] (by decide); rw [str_toL [108, 105, 109, 105, 116]] at this; exact this
  have f13 : ((str l).toList == [117, 110, 105, 111, 110]) = false := by have := hn [117, 110, 105, 111, 110] (by decide); rw [str_toL [117, 110, 105, 111, 110]] at this; exact this
  have f14 : ((str l).toList == [97, 108, 108]) = false := by have := hn [97, 108, 108] (by decide); rw [str_toL [97, 108, 108]] at this; exact this
  have f15 : ((str l).toList == [101, 120, 99, 101, 112, 116]) = false := by have := hn [101, 120, 99, 101, 112, 116] (by decide); rw [str_toL [101, 120, 99, 101, 112, 116]] at this; exact this
  have f16 : ((str l).toList == [97, 115]) = false := by have := hn [97, 115] (by decide); rw [str_toL [97, 115]] at this; exact this
  have f17 : ((str l).toList == [97, 110, 100]) = false := by have := hn [97, 110, 100] (by decide); rw [str_toL [97, 110, 100]] at this; exact this
  have f18 : ((str l).toList == [111, 114]) = false := by have := hn [111, 114] (by decide); rw [str_toL [111, 114]] at this; exact this
  have f19 : ((str l).toList == [110, 111, 116]) = false := by have := hn [110, 111, 116] (by decide); rw [str_toL [110, 111, 116]] at this; exact this
  have f20 : ((str l).toList == [110, 117, 108, 108]) = false := by have := hn [110, 117, 108, 108] (by decide); rw [str_toL [110, 117, 108, 108]] at this; exact this
  have f21 : ((str l).toList == [116, 114, 117, 101]) = false := by have := hn [116, 114, 117, 101] (by decide); rw [str_toL [116, 114, 117, 101]] at this; exact this
  have f22 : ((str l).toList == [102, 97, 108, 115, 101]) = false := by have := hn [102, 97, 108, 115, 101] (by decide); rw [str_toL [102, 97, 108, 115, 101]] at this; exact this
  have f23 : ((str l).toList == [105, 115]) = false := by have := hn [105, 115] (by decide); rw [str_toL [105, 115]] at this; exact this
  have f24 : ((str l).toList == [105, 110]) = false := by have := hn [105, 110] (by decide); rw [str_toL [105, 110]] at this; exact this
  have f25 : ((str l).toList == [101, 120, 105, 115, 116, 115]) = false := by have := hn [101, 120, 105, 115, 116, 115] (by decide); rw [str_toL [101, 120, 105, 115, 116, 115]] at this; exact this
  have f26 : ((str l).toList == [99, 111, 117, 110, 116]) = false := by have := hn [99, 111, 117, 110, 116] (by decide); rw [str_toL [99, 111, 117, 110, 116]] at this; exact this
  have f27 : ((str l).toList == [115, 117, 109]) = false := by have := hn [115, 117, 109] (by decide); rw [str_toL [115, 117, 109]] at this; exact this
  have f28 : ((str l).toList == [109, 105, 110]) = false := by have := hn [109, 105, 110] (by decide); rw [str_toL [109, 105, 110]] at this; exact this
  have f29 : ((str l).toList == [109, 97, 120]) = false := by have := hn [109, 97, 120] (by decide); rw [str_toL [109, 97, 120]] at this; exact this
  have f30 : ((str l).toList == [99, 114, 101, 97, 116, 101]) = false := by have := hn [99, 114, 101, 97, 116, 101] (by decide); rw [str_toL [99, 114, 101, 97, 116, 101]] at this; exact this
  have f31 : ((str l).toList == [116, 97, 98, 108, 101]) = false := by have := hn [116, 97, 98, 108, 101] (by decide); rw [str_toL [116, 97, 98, 108, 101]] at this; exact this
  have f32 : ((str l).toList == [118, 105, 101, 119]) = false := by have := hn [118, 105, 101, 119] (by decide); rw [str_toL [118, 105, 101, 119]] at this; exact this
  have f33 : ((str l).toList == [105, 110, 116]) = false := by have := hn [105, 110, 116] (by decide); rw [str_toL [105, 110, 116]] at this; exact this
  have f34 : ((str l).toList == [116, 101, 120, 116]) = false := by have := hn [116, 101, 120, 116] (by decide); rw [str_toL [116, 101, 120, 116]] at this; exact this
  have f35 : ((str l).toList == [98, 111, 111, 108]) = false := by have := hn [98, 111, 111, 108] (by decide); rw [str_toL [98, 111, 111, 108]] at this; exact this
  have f36 : ((str l).toList == [112, 114, 105, 109, 97, 114, 121]) = false := by have := hn [112, 114, 105, 109, 97, 114, 121] (by decide); rw [str_toL [112, 114, 105, 109, 97, 114, 121]] at this; exact this
  have f37 : ((str l).toList == [107, 101, 121]) = false := by have := hn [107, 101, 121] (by decide); rw [str_toL [107, 101, 121]] at this; exact this
  have f38 : ((str l).toList == [105, 110, 115, 101, 114, 116]) = false := by have := hn [105, 110, 115, 101, 114, 116] (by decide); rw [str_toL [105, 110, 115, 101, 114, 116]] at this; exact this
  have f39 : ((str l).toList == [105, 110, 116, 111]) = false := by have := hn [105, 110, 116, 111] (by decide); rw [str_toL [105, 110, 116, 111]] at this; exact this
  have f40 : ((str l).toList == [118, 97, 108, 117, 101, 115]) = false := by have := hn [118, 97, 108, 117, 101, 115] (by decide); rw [str_toL [118, 97, 108, 117, 101, 115]] at this; exact this
  have f41 : ((str l).toList == [100, 101, 108, 101, 116, 101]) = false := by have := hn [100, 101, 108, 101, 116, 101] (by decide); rw [str_toL [100, 101, 108, 101, 116, 101]] at this; exact this
  have f42 : ((str l).toList == [117, 112, 100, 97, 116, 101]) = false := by have := hn [117, 112, 100, 97, 116, 101] (by decide); rw [str_toL [117, 112, 100, 97, 116, 101]] at this; exact this
  have f43 : ((str l).toList == [115, 101, 116]) = false := by have := hn [115, 101, 116] (by decide); rw [str_toL [115, 101, 116]] at this; exact this
  have f44 : ((str l).toList == [99, 111, 109, 109, 105, 116]) = false := by have := hn [99, 111, 109, 109, 105, 116] (by decide); rw [str_toL [99, 111, 109, 109, 105, 116]] at this; exact this
  have f45 : ((str l).toList == [97, 98, 111, 114, 116]) = false := by have := hn [97, 98, 111, 114, 116] (by decide); rw [str_toL [97, 98, 111, 114, 116]] at this; exact this
  clear hn hl h
  go_enter Tryz.func103, Tryz.ntmps103
  go_wp2_with fail
  go_ret
  exact ⟨rfl, Below.refl _ _⟩
theorem word_any (l : List Int) (w : World) (h : Rng l) : Calls Tryz.prog 103 #[.string (str l)] w (BO w (isWord l)) := by
 cases hw : isWord l with
 | false => exact word_no l w h hw
 | true =>
  obtain ⟨m, hm, he⟩ := List.any_eq_true.1 hw
  have he : l = m := of_decide_eq_true he
  simp only [wordsL, List.mem_cons, List.not_mem_nil, or_false] at hm
  rcases hm with rfl | rfl | rfl | rfl | rfl | rfl | rfl | rfl | rfl | rfl | rfl | rfl | rfl | rfl | rfl | rfl | rfl | rfl | rfl | rfl | rfl | rfl | rfl | rfl | rfl | rfl | rfl | rfl | rfl | rfl | rfl | rfl | rfl | rfl | rfl | rfl | rfl | rfl | rfl | rfl | rfl | rfl | rfl | rfl | rfl | rfl
  ·exact word_0 l w he
  ·exact word_1 l w he
  ·exact word_2 l w he
  ·exact word_3 l w he
  ·exact word_4 l w he
  ·exact word_5 l w he
  ·exact word_6 l w he
  ·exact word_7 l w he
  ·exact word_8 l w he
  ·exact word_9 l w he
  ·exact word_10 l w he
  ·exact word_11 l w he
  ·exact word_12 l w he
  ·exact word_13 l w he
  ·exact word_14 l w he
  ·exact word_15 l w he
  ·exact word_16 l w he
  ·exact word_17 l w he
  ·exact word_18 l w he
  ·exact word_19 l w he
  ·exact word_20 l w he
  ·exact word_21 l w he
  ·exact word_22 l w he
  ·exact word_23 l w he
  ·exact word_24 l w he
  ·exact word_25 l w he
  ·exact word_26 l w he
  ·exact word_27 l w he
  ·exact word_28 l w he
  ·exact word_29 l w he
  ·exact word_30 l w he
  ·exact word_31 l w he
  ·exact word_32 l w he
  ·exact word_33 l w he
  ·exact word_34 l w he
  ·exact word_35 l w he
  ·exact word_36 l w he
  ·exact word_37 l w he
  ·exact word_38 l w he
  ·exact word_39 l w he
  ·exact word_40 l w he
  ·exact word_41 l w he
  ·exact word_42 l w he
  ·exact word_43 l w he
  ·exact word_44 l w he
  ·exact word_45 l w he
end Go.Proofs.YtegkbagnbnoopaaGreatDoor
