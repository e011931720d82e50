/-
  ValueKinds: of any operation and any two kinds the kind of the result, or the error, is as the document's own answer has it; the arguments stay. Condition: the second form's bound, which three integers always meet.
-/
import Derived.Test.YtkcjegdmcboohaaVq00
import Derived.Test.YtkcjegdmcboohaaVq06
import Derived.Test.YtkcjegdmcboohaaVq07
import Derived.Test.YtkcjegdmcboohaaVq08
import Derived.Test.YtkcjegdmcboohaaVq09
import Derived.WalkKit
import Derived.ProofKit
import Derived.OpenShut
namespace Go.Proofs.Ytkcjegdmcboohaa
open Go.RowKit
set_option maxHeartbeats 6400000 in
theorem rres_19 (a b : Int) (w : World) : Calls Try.prog 25 #[.int .i64 19, .int .i64 a, .int .i64 b] w fun e w' => e = .returned (.tuple #[.int .i64 (resR 19 a a).1, .int .i64 (resR 19 a a).2]) ∧ w' = w := by
  have h1 := fun w => rone_any 19 w
  have h2 := fun w => rtwo_any 19 w
  have h3 := fun w => rsums_any 19 w
  simp only [show decide ((19 : Int) = 4 ∨ (19 : Int) = 16 ∨ (19 : Int) = 19 ∨ (19 : Int) = 20) = true from by decide] at h1
  simp only [show decide (5 ≤ (19 : Int) ∧ (19 : Int) ≤ 15 ∨ (19 : Int) = 17 ∨ (19 : Int) = 18) = false from by decide] at h2
  simp only [show decide (4 ≤ (19 : Int) ∧ (19 : Int) ≤ 9) = false from by decide] at h3
  have H1 := Lib.hid h1
  have H2 := Lib.hid h2
  have H3 := Lib.hid h3
  clear h1 h2 h3
  by_cases la : a < 0
  · skip
    have HE := Lib.hid (show resR 19 a a = (0, 1) by (unfold resR isK ok2 okK smK; simp only [Bool.and_eq_false_imp, Bool.and_eq_true, decide_eq_true_eq, decide_eq_false_iff_not]; repeat' split) <;> first | rfl | (exfalso; omega) | (exfalso; simp_all; omega) | (exfalso; simp_all))
    skip
    go_enter Try.func25, Try.ntmps25
    go_wp2_with (first
      | (go_at_call 39; refine (H1.out _).mono ?_; rintro e w' ⟨rfl, rfl⟩)
      | (go_at_call 41; refine (H2.out _).mono ?_; rintro e w' ⟨rfl, rfl⟩)
      | (go_at_call 43; refine (H3.out _).mono ?_; rintro e w' ⟨rfl, rfl⟩))
    refine bodyPost_ret (v := .tuple #[.int .i64 (0), .int .i64 (1)]) (by simp [results, Try.results25, go_sem]) rfl ⟨tup2 HE.out, rfl⟩
  have La : decide (a < 0) = false := decide_eq_false la
  by_cases ma : 3 < a
  · skip
    have HE := Lib.hid (show resR 19 a a = (0, 1) by (unfold resR isK ok2 okK smK; simp only [Bool.and_eq_false_imp, Bool.and_eq_true, decide_eq_true_eq, decide_eq_false_iff_not]; repeat' split) <;> first | rfl | (exfalso; omega) | (exfalso; simp_all; omega) | (exfalso; simp_all))
    skip
    go_enter Try.func25, Try.ntmps25
    go_wp2_with (first
      | (go_at_call 39; refine (H1.out _).mono ?_; rintro e w' ⟨rfl, rfl⟩)
      | (go_at_call 41; refine (H2.out _).mono ?_; rintro e w' ⟨rfl, rfl⟩)
      | (go_at_call 43; refine (H3.out _).mono ?_; rintro e w' ⟨rfl, rfl⟩))
    refine bodyPost_ret (v := .tuple #[.int .i64 (0), .int .i64 (1)]) (by simp [results, Try.results25, go_sem]) rfl ⟨tup2 HE.out, rfl⟩
  have Ma : decide (3 < a) = false := decide_eq_false ma
  have HE := Lib.hid (show resR 19 a a = (3, 0) by (unfold resR isK ok2 okK smK; simp only [Bool.and_eq_false_imp, Bool.and_eq_true, decide_eq_true_eq, decide_eq_false_iff_not]; repeat' split) <;> first | rfl | (exfalso; omega) | (exfalso; simp_all; omega) | (exfalso; simp_all))
  skip
  go_enter Try.func25, Try.ntmps25
  go_wp2_with (first
    | (go_at_call 39; refine (H1.out _).mono ?_; rintro e w' ⟨rfl, rfl⟩)
    | (go_at_call 41; refine (H2.out _).mono ?_; rintro e w' ⟨rfl, rfl⟩)
    | (go_at_call 43; refine (H3.out _).mono ?_; rintro e w' ⟨rfl, rfl⟩))
  refine bodyPost_ret (v := .tuple #[.int .i64 (3), .int .i64 (0)]) (by simp [results, Try.results25, go_sem]) rfl ⟨tup2 HE.out, rfl⟩
set_option maxHeartbeats 6400000 in
theorem rres_20 (a b : Int) (w : World) : Calls Try.prog 25 #[.int .i64 20, .int .i64 a, .int .i64 b] w fun e w' => e = .returned (.tuple #[.int .i64 (resR 20 a a).1, .int .i64 (resR 20 a a).2]) ∧ w' = w := by
  have h1 := fun w => rone_any 20 w
  have h2 := fun w => rtwo_any 20 w
  have h3 := fun w => rsums_any 20 w
  simp only [show decide ((20 : Int) = 4 ∨ (20 : Int) = 16 ∨ (20 : Int) = 19 ∨ (20 : Int) = 20) = true from by decide] at h1
  simp only [show decide (5 ≤ (20 : Int) ∧ (20 : Int) ≤ 15 ∨ (20 : Int) = 17 ∨ (20 : Int) = 18) = false from by decide] at h2
  simp only [show decide (4 ≤ (20 : Int) ∧ (20 : Int) ≤ 9) = false from by decide] at h3
  have H1 := Lib.hid h1
  have H2 := Lib.hid h2
  have H3 := Lib.hid h3
  clear h1 h2 h3
  by_cases la : a < 0
  · skip
    have HE := Lib.hid (show resR 20 a a = (0, 1) by (unfold resR isK ok2 okK smK; simp only [Bool.and_eq_false_imp, Bool.and_eq_true, decide_eq_true_eq, decide_eq_false_iff_not]; repeat' split) <;> first | rfl | (exfalso; omega) | (exfalso; simp_all; omega) | (exfalso; simp_all))
    skip
    go_enter Try.func25, Try.ntmps25
    go_wp2_with (first
      | (go_at_call 39; refine (H1.out _).mono ?_; rintro e w' ⟨rfl, rfl⟩)
      | (go_at_call 41; refine (H2.out _).mono ?_; rintro e w' ⟨rfl, rfl⟩)
      | (go_at_call 43; refine (H3.out _).mono ?_; rintro e w' ⟨rfl, rfl⟩))
    refine bodyPost_ret (v := .tuple #[.int .i64 (0), .int .i64 (1)]) (by simp [results, Try.results25, go_sem]) rfl ⟨tup2 HE.out, rfl⟩
  have La : decide (a < 0) = false := decide_eq_false la
  by_cases ma : 3 < a
  · skip
    have HE := Lib.hid (show resR 20 a a = (0, 1) by (unfold resR isK ok2 okK smK; simp only [Bool.and_eq_false_imp, Bool.and_eq_true, decide_eq_true_eq, decide_eq_false_iff_not]; repeat' split) <;> first | rfl | (exfalso; omega) | (exfalso; simp_all; omega) | (exfalso; simp_all))
    skip
    go_enter Try.func25, Try.ntmps25
    go_wp2_with (first
      | (go_at_call 39; refine (H1.out _).mono ?_; rintro e w' ⟨rfl, rfl⟩)
      | (go_at_call 41; refine (H2.out _).mono ?_; rintro e w' ⟨rfl, rfl⟩)
      | (go_at_call 43; refine (H3.out _).mono ?_; rintro e w' ⟨rfl, rfl⟩))
    refine bodyPost_ret (v := .tuple #[.int .i64 (0), .int .i64 (1)]) (by simp [results, Try.results25, go_sem]) rfl ⟨tup2 HE.out, rfl⟩
  have Ma : decide (3 < a) = false := decide_eq_false ma
  have HE := Lib.hid (show resR 20 a a = (3, 0) by (unfold resR isK ok2 okK smK; simp only [Bool.and_eq_false_imp, Bool.and_eq_true, decide_eq_true_eq, decide_eq_false_iff_not]; repeat' split) <;> first | rfl | (exfalso; omega) | (exfalso; simp_all; omega) | (exfalso; simp_all))
  skip
  go_enter Try.func25, Try.ntmps25
  go_wp2_with (first
    | (go_at_call 39; refine (H1.out _).mono ?_; rintro e w' ⟨rfl, rfl⟩)
    | (go_at_call 41; refine (H2.out _).mono ?_; rintro e w' ⟨rfl, rfl⟩)
    | (go_at_call 43; refine (H3.out _).mono ?_; rintro e w' ⟨rfl, rfl⟩))
  refine bodyPost_ret (v := .tuple #[.int .i64 (3), .int .i64 (0)]) (by simp [results, Try.results25, go_sem]) rfl ⟨tup2 HE.out, rfl⟩
set_option maxHeartbeats 6400000 in
theorem rres_22 (a b : Int) (w : World) : Calls Try.prog 25 #[.int .i64 22, .int .i64 a, .int .i64 b] w fun e w' => e = .returned (.tuple #[.int .i64 (resR 22 a a).1, .int .i64 (resR 22 a a).2]) ∧ w' = w := by
  have h1 := fun w => rone_any 22 w
  have h2 := fun w => rtwo_any 22 w
  have h3 := fun w => rsums_any 22 w
  simp only [show decide ((22 : Int) = 4 ∨ (22 : Int) = 16 ∨ (22 : Int) = 19 ∨ (22 : Int) = 20) = false from by decide] at h1
  simp only [show decide (5 ≤ (22 : Int) ∧ (22 : Int) ≤ 15 ∨ (22 : Int) = 17 ∨ (22 : Int) = 18) = false from by decide] at h2
  simp only [show decide (4 ≤ (22 : Int) ∧ (22 : Int) ≤ 9) = false from by decide] at h3
  have H1 := Lib.hid h1
  have H2 := Lib.hid h2
  have H3 := Lib.hid h3
  clear h1 h2 h3
  by_cases la : a < 0
  · skip
    have HE := Lib.hid (show resR 22 a a = (0, 1) by (unfold resR isK ok2 okK smK; simp only [Bool.and_eq_false_imp, Bool.and_eq_true, decide_eq_true_eq, decide_eq_false_iff_not]; repeat' split) <;> first | rfl | (exfalso; omega) | (exfalso; simp_all; omega) | (exfalso; simp_all))
    skip
    go_enter Try.func25, Try.ntmps25
    go_wp2_with (first
      | (go_at_call 39; refine (H1.out _).mono ?_; rintro e w' ⟨rfl, rfl⟩)
      | (go_at_call 41; refine (H2.out _).mono ?_; rintro e w' ⟨rfl, rfl⟩)
      | (go_at_call 43; refine (H3.out _).mono ?_; rintro e w' ⟨rfl, rfl⟩))
    refine bodyPost_ret (v := .tuple #[.int .i64 (0), .int .i64 (1)]) (by simp [results, Try.results25, go_sem]) rfl ⟨tup2 HE.out, rfl⟩
  have La : decide (a < 0) = false := decide_eq_false la
  by_cases ma : 3 < a
  · skip
    have HE := Lib.hid (show resR 22 a a = (0, 1) by (unfold resR isK ok2 okK smK; simp only [Bool.and_eq_false_imp, Bool.and_eq_true, decide_eq_true_eq, decide_eq_false_iff_not]; repeat' split) <;> first | rfl | (exfalso; omega) | (exfalso; simp_all; omega) | (exfalso; simp_all))
    skip
    go_enter Try.func25, Try.ntmps25
    go_wp2_with (first
      | (go_at_call 39; refine (H1.out _).mono ?_; rintro e w' ⟨rfl, rfl⟩)
      | (go_at_call 41; refine (H2.out _).mono ?_; rintro e w' ⟨rfl, rfl⟩)
      | (go_at_call 43; refine (H3.out _).mono ?_; rintro e w' ⟨rfl, rfl⟩))
    refine bodyPost_ret (v := .tuple #[.int .i64 (0), .int .i64 (1)]) (by simp [results, Try.results25, go_sem]) rfl ⟨tup2 HE.out, rfl⟩
  have Ma : decide (3 < a) = false := decide_eq_false ma
  have HE := Lib.hid (show resR 22 a a = (1, 0) by (unfold resR isK ok2 okK smK; simp only [Bool.and_eq_false_imp, Bool.and_eq_true, decide_eq_true_eq, decide_eq_false_iff_not]; repeat' split) <;> first | rfl | (exfalso; omega) | (exfalso; simp_all; omega) | (exfalso; simp_all))
  skip
  go_enter Try.func25, Try.ntmps25
  go_wp2_with (first
    | (go_at_call 39; refine (H1.out _).mono ?_; rintro e w' ⟨rfl, rfl⟩)
    | (go_at_call 41; refine (H2.out _).mono ?_; rintro e w' ⟨rfl, rfl⟩)
    | (go_at_call 43; refine (H3.out _).mono ?_; rintro e w' ⟨rfl, rfl⟩))
  refine bodyPost_ret (v := .tuple #[.int .i64 (1), .int .i64 (0)]) (by simp [results, Try.results25, go_sem]) rfl ⟨tup2 HE.out, rfl⟩
set_option maxHeartbeats 6400000 in
theorem rres_24 (a b : Int) (w : World) : Calls Try.prog 25 #[.int .i64 24, .int .i64 a, .int .i64 b] w fun e w' => e = .returned (.tuple #[.int .i64 (resR 24 a a).1, .int .i64 (resR 24 a a).2]) ∧ w' = w := by
  have h1 := fun w => rone_any 24 w
  have h2 := fun w => rtwo_any 24 w
  have h3 := fun w => rsums_any 24 w
  simp only [show decide ((24 : Int) = 4 ∨ (24 : Int) = 16 ∨ (24 : Int) = 19 ∨ (24 : Int) = 20) = false from by decide] at h1
  simp only [show decide (5 ≤ (24 : Int) ∧ (24 : Int) ≤ 15 ∨ (24 : Int) = 17 ∨ (24 : Int) = 18) = false from by decide] at h2
  simp only [show decide (4 ≤ (24 : Int) ∧ (24 : Int) ≤ 9) = false from by decide] at h3
  have H1 := Lib.hid h1
  have H2 := Lib.hid h2
  have H3 := Lib.hid h3
  clear h1 h2 h3
  by_cases la : a < 0
  · skip
    have HE := Lib.hid (show resR 24 a a = (0, 1) by (unfold resR isK ok2 okK smK; simp only [Bool.and_eq_false_imp, Bool.and_eq_true, decide_eq_true_eq, decide_eq_false_iff_not]; repeat' split) <;> first | rfl | (exfalso; omega) | (exfalso; simp_all; omega) | (exfalso; simp_all))
    skip
    go_enter Try.func25, Try.ntmps25
    go_wp2_with (first
      | (go_at_call 39; refine (H1.out _).mono ?_; rintro e w' ⟨rfl, rfl⟩)
      | (go_at_call 41; refine (H2.out _).mono ?_; rintro e w' ⟨rfl, rfl⟩)
      | (go_at_call 43; refine (H3.out _).mono ?_; rintro e w' ⟨rfl, rfl⟩))
    refine bodyPost_ret (v := .tuple #[.int .i64 (0), .int .i64 (1)]) (by simp [results, Try.results25, go_sem]) rfl ⟨tup2 HE.out, rfl⟩
  have La : decide (a < 0) = false := decide_eq_false la
  by_cases ma : 3 < a
  · skip
    have HE := Lib.hid (show resR 24 a a = (0, 1) by (unfold resR isK ok2 okK smK; simp only [Bool.and_eq_false_imp, Bool.and_eq_true, decide_eq_true_eq, decide_eq_false_iff_not]; repeat' split) <;> first | rfl | (exfalso; omega) | (exfalso; simp_all; omega) | (exfalso; simp_all))
    skip
    go_enter Try.func25, Try.ntmps25
    go_wp2_with (first
      | (go_at_call 39; refine (H1.out _).mono ?_; rintro e w' ⟨rfl, rfl⟩)
      | (go_at_call 41; refine (H2.out _).mono ?_; rintro e w' ⟨rfl, rfl⟩)
      | (go_at_call 43; refine (H3.out _).mono ?_; rintro e w' ⟨rfl, rfl⟩))
    refine bodyPost_ret (v := .tuple #[.int .i64 (0), .int .i64 (1)]) (by simp [results, Try.results25, go_sem]) rfl ⟨tup2 HE.out, rfl⟩
  have Ma : decide (3 < a) = false := decide_eq_false ma
  have HE := Lib.hid (show resR 24 a a = (a, 0) by (unfold resR isK ok2 okK smK; simp only [Bool.and_eq_false_imp, Bool.and_eq_true, decide_eq_true_eq, decide_eq_false_iff_not]; repeat' split) <;> first | rfl | (exfalso; omega) | (exfalso; simp_all; omega) | (exfalso; simp_all))
  skip
  go_enter Try.func25, Try.ntmps25
  go_wp2_with (first
    | (go_at_call 39; refine (H1.out _).mono ?_; rintro e w' ⟨rfl, rfl⟩)
    | (go_at_call 41; refine (H2.out _).mono ?_; rintro e w' ⟨rfl, rfl⟩)
    | (go_at_call 43; refine (H3.out _).mono ?_; rintro e w' ⟨rfl, rfl⟩))
  refine bodyPost_ret (v := .tuple #[.int .i64 (a), .int .i64 (0)]) (by simp [results, Try.results25, go_sem]) rfl ⟨tup2 HE.out, rfl⟩
set_option maxHeartbeats 6400000 in
theorem rres_25 (a b : Int) (w : World) : Calls Try.prog 25 #[.int .i64 25, .int .i64 a, .int .i64 b] w fun e w' => e = .returned (.tuple #[.int .i64 (resR 25 a a).1, .int .i64 (resR 25 a a).2]) ∧ w' = w := by
  have h1 := fun w => rone_any 25 w
  have h2 := fun w => rtwo_any 25 w
  have h3 := fun w => rsums_any 25 w
  simp only [show decide ((25 : Int) = 4 ∨ (25 : Int) = 16 ∨ (25 : Int) = 19 ∨ (25 : Int) = 20) = false from by decide] at h1
  simp only [show decide (5 ≤ (25 : Int) ∧ (25 : Int) ≤ 15 ∨ (25 : Int) = 17 ∨ (25 : Int) = 18) = false from by decide] at h2
  simp only [show decide (4 ≤ (25 : Int) ∧ (25 : Int) ≤ 9) = false from by decide] at h3
  have H1 := Lib.hid h1
  have H2 := Lib.hid h2
  have H3 := Lib.hid h3
  clear h1 h2 h3
  by_cases la : a < 0
  · skip
    have HE := Lib.hid (show resR 25 a a = (0, 1) by (unfold resR isK ok2 okK smK; simp only [Bool.and_eq_false_imp, Bool.and_eq_true, decide_eq_true_eq, decide_eq_false_iff_not]; repeat' split) <;> first | rfl | (exfalso; omega) | (exfalso; simp_all; omega) | (exfalso; simp_all))
    skip
    go_enter Try.func25, Try.ntmps25
    go_wp2_with (first
      | (go_at_call 39; refine (H1.out _).mono ?_; rintro e w' ⟨rfl, rfl⟩)
      | (go_at_call 41; refine (H2.out _).mono ?_; rintro e w' ⟨rfl, rfl⟩)
      | (go_at_call 43; refine (H3.out _).mono ?_; rintro e w' ⟨rfl, rfl⟩))
    refine bodyPost_ret (v := .tuple #[.int .i64 (0), .int .i64 (1)]) (by simp [results, Try.results25, go_sem]) rfl ⟨tup2 HE.out, rfl⟩
  have La : decide (a < 0) = false := decide_eq_false la
  by_cases ma : 3 < a
  · skip
    have HE := Lib.hid (show resR 25 a a = (0, 1) by (unfold resR isK ok2 okK smK; simp only [Bool.and_eq_false_imp, Bool.and_eq_true, decide_eq_true_eq, decide_eq_false_iff_not]; repeat' split) <;> first | rfl | (exfalso; omega) | (exfalso; simp_all; omega) | (exfalso; simp_all))
    skip
    go_enter Try.func25, Try.ntmps25
    go_wp2_with (first
      | (go_at_call 39; refine (H1.out _).mono ?_; rintro e w' ⟨rfl, rfl⟩)
      | (go_at_call 41; refine (H2.out _).mono ?_; rintro e w' ⟨rfl, rfl⟩)
      | (go_at_call 43; refine (H3.out _).mono ?_; rintro e w' ⟨rfl, rfl⟩))
    refine bodyPost_ret (v := .tuple #[.int .i64 (0), .int .i64 (1)]) (by simp [results, Try.results25, go_sem]) rfl ⟨tup2 HE.out, rfl⟩
  have Ma : decide (3 < a) = false := decide_eq_false ma
  have HE := Lib.hid (show resR 25 a a = (a, 0) by (unfold resR isK ok2 okK smK; simp only [Bool.and_eq_false_imp, Bool.and_eq_true, decide_eq_true_eq, decide_eq_false_iff_not]; repeat' split) <;> first | rfl | (exfalso; omega) | (exfalso; simp_all; omega) | (exfalso; simp_all))
  skip
  go_enter Try.func25, Try.ntmps25
  go_wp2_with (first
    | (go_at_call 39; refine (H1.out _).mono ?_; rintro e w' ⟨rfl, rfl⟩)
    | (go_at_call 41; refine (H2.out _).mono ?_; rintro e w' ⟨rfl, rfl⟩)
    | (go_at_call 43; refine (H3.out _).mono ?_; rintro e w' ⟨rfl, rfl⟩))
  refine bodyPost_ret (v := .tuple #[.int .i64 (a), .int .i64 (0)]) (by simp [results, Try.results25, go_sem]) rfl ⟨tup2 HE.out, rfl⟩
set_option maxHeartbeats 6400000 in
theorem rres_low (op : Int) (hop : op < 4) (a b : Int) (w : World) : Calls Try.prog 25 #[.int .i64 op, .int .i64 a, .int .i64 b] w fun e w' => e = .returned (.tuple #[.int .i64 (resR op a b).1, .int .i64 (resR op a b).2]) ∧ w' = w := by
  have h1 := fun w => rone_any op w
  have h2 := fun w => rtwo_any op w
  have h3 := fun w => rsums_any op w
  simp only [show decide (op = 4 ∨ op = 16 ∨ op = 19 ∨ op = 20) = false from decide_eq_false (by omega)] at h1
  simp only [show decide (5 ≤ op ∧ op ≤ 15 ∨ op = 17 ∨ op = 18) = false from decide_eq_false (by omega)] at h2
  simp only [show decide (4 ≤ op ∧ op ≤ 9) = false from decide_eq_false (by omega)] at h3
  have e16 : (op == 16) = false := beq_false_of_ne (by omega)
  have e17 : (op == 17) = false := beq_false_of_ne (by omega)
  have e18 : (op == 18) = false := beq_false_of_ne (by omega)
  have e19 : (op == 19) = false := beq_false_of_ne (by omega)
  have e20 : (op == 20) = false := beq_false_of_ne (by omega)
  have e21 : (op == 21) = false := beq_false_of_ne (by omega)
  have e22 : (op == 22) = false := beq_false_of_ne (by omega)
  have e23 : (op == 23) = false := beq_false_of_ne (by omega)
  have e24 : (op == 24) = false := beq_false_of_ne (by omega)
  have e25 : (op == 25) = false := beq_false_of_ne (by omega)
  have n0 : decide (22 ≤ op) = false := decide_eq_false (by omega)
  have H1 := Lib.hid h1
  have H2 := Lib.hid h2
  have H3 := Lib.hid h3
  clear h1 h2 h3
  have HE := Lib.hid (show resR op a b = (0, 1) by (unfold resR isK ok2 okK smK; simp only [Bool.and_eq_false_imp, Bool.and_eq_true, decide_eq_true_eq, decide_eq_false_iff_not]; repeat' split) <;> first | rfl | (exfalso; omega) | (exfalso; simp_all; omega) | (exfalso; simp_all))
  skip
  go_enter Try.func25, Try.ntmps25
  go_wp2_with (first
    | (go_at_call 39; refine (H1.out _).mono ?_; rintro e w' ⟨rfl, rfl⟩)
    | (go_at_call 41; refine (H2.out _).mono ?_; rintro e w' ⟨rfl, rfl⟩)
    | (go_at_call 43; refine (H3.out _).mono ?_; rintro e w' ⟨rfl, rfl⟩))
  refine bodyPost_ret (v := .tuple #[.int .i64 (0), .int .i64 (1)]) (by simp [results, Try.results25, go_sem]) rfl ⟨tup2 HE.out, rfl⟩
set_option maxHeartbeats 6400000 in
theorem rres_high (op : Int) (hop : 25 < op) (a b : Int) (w : World) : Calls Try.prog 25 #[.int .i64 op, .int .i64 a, .int .i64 b] w fun e w' => e = .returned (.tuple #[.int .i64 (resR op a b).1, .int .i64 (resR op a b).2]) ∧ w' = w := by
  have h1 := fun w => rone_any op w
  have h2 := fun w => rtwo_any op w
  have h3 := fun w => rsums_any op w
  simp only [show decide (op = 4 ∨ op = 16 ∨ op = 19 ∨ op = 20) = false from decide_eq_false (by omega)] at h1
  simp only [show decide (5 ≤ op ∧ op ≤ 15 ∨ op = 17 ∨ op = 18) = false from decide_eq_false (by omega)] at h2
  simp only [show decide (4 ≤ op ∧ op ≤ 9) = false from decide_eq_false (by omega)] at h3
  have e16 : (op == 16) = false := beq_false_of_ne (by omega)
  have e17 : (op == 17) = false := beq_false_of_ne (by omega)
  have e18 : (op == 18) = false := beq_false_of_ne (by omega)
  have e19 : (op == 19) = false := beq_false_of_ne (by omega)
  have e20 : (op == 20) = false := beq_false_of_ne (by omega)
  have e21 : (op == 21) = false := beq_false_of_ne (by omega)
  have e22 : (op == 22) = false := beq_false_of_ne (by omega)
  have e23 : (op == 23) = false := beq_false_of_ne (by omega)
  have e24 : (op == 24) = false := beq_false_of_ne (by omega)
  have e25 : (op == 25) = false := beq_false_of_ne (by omega)
  have n0 : decide (22 ≤ op) = true := decide_eq_true (by omega)
  have n1 : decide (op ≤ 25) = false := decide_eq_false (by omega)
  have H1 := Lib.hid h1
  have H2 := Lib.hid h2
  have H3 := Lib.hid h3
  clear h1 h2 h3
  have HE := Lib.hid (show resR op a b = (0, 1) by (unfold resR isK ok2 okK smK; simp only [Bool.and_eq_false_imp, Bool.and_eq_true, decide_eq_true_eq, decide_eq_false_iff_not]; repeat' split) <;> first | rfl | (exfalso; omega) | (exfalso; simp_all; omega) | (exfalso; simp_all))
  skip
  go_enter Try.func25, Try.ntmps25
  go_wp2_with (first
    | (go_at_call 39; refine (H1.out _).mono ?_; rintro e w' ⟨rfl, rfl⟩)
    | (go_at_call 41; refine (H2.out _).mono ?_; rintro e w' ⟨rfl, rfl⟩)
    | (go_at_call 43; refine (H3.out _).mono ?_; rintro e w' ⟨rfl, rfl⟩))
  refine bodyPost_ret (v := .tuple #[.int .i64 (0), .int .i64 (1)]) (by simp [results, Try.results25, go_sem]) rfl ⟨tup2 HE.out, rfl⟩
end Go.Proofs.Ytkcjegdmcboohaa
namespace Go.Proofs.Ytkcjegdmcboohaa
open Go.RowKit
theorem rresult_any (op a b : Int) (w : World) : Calls Try.prog 25 #[.int .i64 op, .int .i64 a, .int .i64 b] w fun e w' => e = .returned (.tuple #[.int .i64 (resR op a (if oneOf op = true then a else b)).1, .int .i64 (resR op a (if oneOf op = true then a else b)).2]) ∧ w' = w := by
  by_cases h5 : 5 ≤ op ∧ op ≤ 9
  · rw [show oneOf op = false from decide_eq_false (by omega)]
    exact rres_calc op h5 a b w
  by_cases h10 : 10 ≤ op ∧ op ≤ 15
  · rw [show oneOf op = false from decide_eq_false (by omega)]
    exact rres_comp op h10 a b w
  by_cases ho : 4 ≤ op ∧ op ≤ 25
  · have h17 : op = 4 ∨ op = 16 ∨ op = 17 ∨ op = 18 ∨ op = 19 ∨ op = 20 ∨ op = 21 ∨ op = 22 ∨ op = 23 ∨ op = 24 ∨ op = 25 := by omega
    rcases h17 with rfl | rfl | rfl | rfl | rfl | rfl | rfl | rfl | rfl | rfl | rfl
    · exact rres_4 a b w
    · exact rres_16 a b w
    · exact rres_17 a b w
    · exact rres_18 a b w
    · exact rres_19 a b w
    · exact rres_20 a b w
    · exact rres_21 a b w
    · exact rres_22 a b w
    · exact rres_23 a b w
    · exact rres_24 a b w
    · exact rres_25 a b w
  · rw [show oneOf op = false from decide_eq_false (by omega)]
    by_cases hlo : op < 4
    · exact rres_low op hlo a b w
    · exact rres_high op (by omega) a b w
set_option maxHeartbeats 3200000 in
theorem kinds_walk (op a b : Int) (w : World) : Calls Try.prog 6 #[.int .i64 op, .int .i64 a, .int .i64 b] w fun e w' => e = .returned (.bool true) ∧ Below w.heap.size w w' := by
  have HR := Lib.hid (fun u => result_any op a b u)
  have HS := Lib.hid (fun u => rresult_any op a b u)
  generalize resR op a (if oneOf op = true then a else b) = q at *
  obtain ⟨x, y⟩ := q
  go_enter Try.func6, Try.ntmps6
  go_wp2_with (first
    | (go_at_call 12; refine (awake_any _).mono ?_; rintro e w2 ⟨rfl, hb2⟩; have HB2 := Lib.hid hb2; clear hb2)
    | (go_at_call 24; with_reducible refine (HR.out _).mono ?_; rintro e w3 ⟨rfl, hb3⟩; have HB3 := Lib.hid (bl_tr HB2.out hb3); clear hb3)
    | (go_at_call 25; with_reducible refine (HS.out _).mono ?_; rintro e w4 ⟨rfl, rfl⟩))
  go_ret
  exact ⟨rfl, HB3.out⟩
end Go.Proofs.Ytkcjegdmcboohaa
namespace Go.Proofs.Ytkcjegdmcboohaa
open Go.ChangeShapes Go.WideShapes Go.ChangeAt Go.RowKit Go.Deep
namespace plainValueKinds
set_option maxRecDepth 100000 in
theorem contract (H : Type) (enc : TypeId × Value → H) (W : World) (base : Nat) (args : Array Value) (ds gs : List (DataW H)) (before : List MemPlace)
    (hval : ∀ (j : Nat) t v, Try.f6.params[j]? = some t → args[j]? = some v → Value.okWide Try.prog W .any base t v)
    (hW : DataW.Whole enc Try.prog Try.f6.params.toList Rows.valueKindsSpec.vars false W args.toList ds gs before) (hk : Rows.uptoSmall H (ds ++ gs) = true) :
    Calls Try.prog 6 args W fun e W' => ∃ v, e = .returned v ∧ Rows.valueKindsSpec.post enc Try.prog Try.f6 false true false false W args v W' := by
  have hW' := hW
  obtain ⟨p, q, hA0, hV, rfl, hfz, hnd⟩ := hW
  have hA : DataW.TrodAll enc Try.prog W 0 (fun _ => true) true Try.f6.params.toList args.toList ds p := hA0
  rw [Try.params6] at hA hval
  obtain ⟨v0, vs0, d0, ds0, p0, q0, hargs, rfl, rfl, h0, r0⟩ := trodAll_cons hA
  obtain ⟨v1, vs1, d1, ds1, p1, q1, rfl, rfl, rfl, h1, r1⟩ := trodAll_cons r0
  obtain ⟨v2, vs2, d2, ds2, p2, q2, rfl, rfl, rfl, h2, r2⟩ := trodAll_cons r1
  obtain ⟨rfl, rfl, rfl⟩ := trodAll_nil r2
  obtain rfl : args = #[v0, v1, v2] := by cases args; simp_all
  obtain ⟨rfl, rfl⟩ := trodVars_none hV
  have hbulk : Rows.uptoBulkAll ([d0, d1, d2] ++ []) ≤ 1048576 := of_decide_eq_true hk
  simp only [List.append_nil, Rows.uptoBulkAll] at hbulk
  obtain ⟨a0, rfl, rfl, rfl, g0⟩ := open_int Try.underlying3 (hval 0 3 v0 rfl rfl) h0
  replace g0 := i64_of_wf g0
  obtain ⟨a1, rfl, rfl, rfl, g1⟩ := open_int Try.underlying3 (hval 1 3 v1 rfl rfl) h1
  replace g1 := i64_of_wf g1
  obtain ⟨a2, rfl, rfl, rfl, g2⟩ := open_int Try.underlying3 (hval 2 3 v2 rfl rfl) h2
  replace g2 := i64_of_wf g2
  refine (kinds_walk a0 a1 a2 W).mono fun e W' ⟨he, hb⟩ => ⟨_, he, ?_⟩
  exact law_post (T := 4) laidOut (by rw [Try.params6]; decide +kernel) rfl rfl Try.underlying4 (fun gs h => by subst h; rfl) hW' hb
set_option maxRecDepth 100000 in
theorem lifted (os : Os) (started : os.Started) (H : Type) (enc : TypeId × Value → H) (F : Stop.Interp) :
    ReturnsInHanded {} Try.checked os 6 .any ((Rows.OpenSpec.upto Rows.valueKindsSpec).pre6 enc Try.prog Try.f6 Rows.valueKindsUptoRow.domain false) (((Rows.OpenSpec.upto Rows.valueKindsSpec).at F).post enc Try.prog Try.f6 false true false false) := by
  refine returnsInHanded_of_cond (C := Try.checked) (s := Rows.OpenSpec.upto Rows.valueKindsSpec) (k := Rows.uptoSmall) rfl own started (by kernel_rfl) Try.func6
    (OpenSpec.witness (enc := enc) (C := Try.checked) (s := Rows.OpenSpec.upto Rows.valueKindsSpec) (k := Rows.uptoSmall) rfl false ⟨#[], #[.int .i64 0, .int .i64 0, .int .i64 0], []⟩ 8 (by kernel_rfl) (by kernel_rfl) (by kernel_rfl)
      (x := ([.lit (.int .i64 0), .lit (.int .i64 0), .lit (.int .i64 0)], [], [])) (by kernel_rfl) rfl (by kernel_rfl)) ?_
  intro W base args ds gs before hval hW _ hk _
  exact contract H enc W base args ds gs before hval hW hk
theorem over : Rows.valueKindsUptoRow.holds Try.pinned (Rows.OpenSpec.upto Rows.valueKindsSpec) :=
  OpenClaim.holds_of_cond 6 Try.f6 rfl rfl rfl rfl rfl rfl rfl ⟨rfl, rfl, rfl, rfl, rfl⟩ rfl rfl rfl rfl rfl (by kernel_rfl) Try.func6 (by kernel_rfl)
    (of_decide_eq_true (by kernel_rfl)) (by unfold Func.isWrapper; first | (rw [if_pos (by decide +kernel)]; kernel_rfl) | (rw [if_neg (by decide +kernel)]; exact ⟨rfl, rfl⟩))
    (fun os started H enc _ F => lifted os started H enc F)
/-- the statement, its second form -/
theorem proved : Rows.ValueKindsUptoSaid := over
end plainValueKinds
theorem valueKindsUpto : Rows.ValueKindsUptoSaid := plainValueKinds.proved
end Go.Proofs.Ytkcjegdmcboohaa
