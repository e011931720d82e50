import Derived.Test.YtkcjegdmcboohaaVq08
namespace Go.Proofs.Ytkcjegdmcboohaa
open Go.RowKit
set_option maxHeartbeats 6400000 in
theorem rres_4 (a b : Int) (w : World) : Calls Try.prog 25 #[.int .i64 4, .int .i64 a, .int .i64 b] w fun e w' => e = .returned (.tuple #[.int .i64 (resR 4 a a).1, .int .i64 (resR 4 a a).2]) ∧ w' = w := by
  have h1 := fun w => rone_any 4 w
  have h2 := fun w => rtwo_any 4 w
  have h3 := fun w => rsums_any 4 w
  simp only [show decide ((4 : Int) = 4 ∨ (4 : Int) = 16 ∨ (4 : Int) = 19 ∨ (4 : Int) = 20) = true from by decide] at h1
  simp only [show decide (5 ≤ (4 : Int) ∧ (4 : Int) ≤ 15 ∨ (4 : Int) = 17 ∨ (4 : Int) = 18) = false from by decide] at h2
  simp only [show decide (4 ≤ (4 : Int) ∧ (4 : Int) ≤ 9) = true from by decide] at h3
  have H1 := Lib.hid h1
  have H2 := Lib.hid h2
  have H3 := Lib.hid h3
  clear h1 h2 h3
  by_cases la : a < 0
  · skip
    have HE := Lib.hid (show resR 4 a a = (0, 1) by (unfold resR isK ok2 okK smK; simp only [Bool.and_eq_false_imp, Bool.and_eq_true, decide_eq_true_eq, decide_eq_false_iff_not]; repeat' split) <;> first | rfl | (exfalso; omega) | (exfalso; simp_all; omega) | (exfalso; simp_all))
    skip
    go_enter Try.func25, Try.ntmps25
    go_wp2_with (first
      | (go_at_call 39; refine (H1.out _).mono ?_; rintro e w' ⟨rfl, rfl⟩)
      | (go_at_call 41; refine (H2.out _).mono ?_; rintro e w' ⟨rfl, rfl⟩)
      | (go_at_call 43; refine (H3.out _).mono ?_; rintro e w' ⟨rfl, rfl⟩))
    refine bodyPost_ret (v := .tuple #[.int .i64 (0), .int .i64 (1)]) (by simp [results, Try.results25, go_sem]) rfl ⟨tup2 HE.out, rfl⟩
  have La : decide (a < 0) = false := decide_eq_false la
  by_cases ma : 3 < a
  · skip
    have HE := Lib.hid (show resR 4 a a = (0, 1) by (unfold resR isK ok2 okK smK; simp only [Bool.and_eq_false_imp, Bool.and_eq_true, decide_eq_true_eq, decide_eq_false_iff_not]; repeat' split) <;> first | rfl | (exfalso; omega) | (exfalso; simp_all; omega) | (exfalso; simp_all))
    skip
    go_enter Try.func25, Try.ntmps25
    go_wp2_with (first
      | (go_at_call 39; refine (H1.out _).mono ?_; rintro e w' ⟨rfl, rfl⟩)
      | (go_at_call 41; refine (H2.out _).mono ?_; rintro e w' ⟨rfl, rfl⟩)
      | (go_at_call 43; refine (H3.out _).mono ?_; rintro e w' ⟨rfl, rfl⟩))
    refine bodyPost_ret (v := .tuple #[.int .i64 (0), .int .i64 (1)]) (by simp [results, Try.results25, go_sem]) rfl ⟨tup2 HE.out, rfl⟩
  have Ma : decide (3 < a) = false := decide_eq_false ma
  by_cases A1 : a = 1
  · have fa1 : (a != 1) = false := by simp [A1]
    have HE := Lib.hid (show resR 4 a a = (1, 0) by (unfold resR isK ok2 okK smK; simp only [Bool.and_eq_false_imp, Bool.and_eq_true, decide_eq_true_eq, decide_eq_false_iff_not]; repeat' split) <;> first | rfl | (exfalso; omega) | (exfalso; simp_all; omega) | (exfalso; simp_all))
    skip
    go_enter Try.func25, Try.ntmps25
    go_wp2_with (first
      | (go_at_call 39; refine (H1.out _).mono ?_; rintro e w' ⟨rfl, rfl⟩)
      | (go_at_call 41; refine (H2.out _).mono ?_; rintro e w' ⟨rfl, rfl⟩)
      | (go_at_call 43; refine (H3.out _).mono ?_; rintro e w' ⟨rfl, rfl⟩))
    refine bodyPost_ret (v := .tuple #[.int .i64 (1), .int .i64 (0)]) (by simp [results, Try.results25, go_sem]) rfl ⟨tup2 HE.out, rfl⟩
  have fa1 : (a != 1) = true := bne_iff_ne.2 A1
  by_cases A0 : a = 0
  · have fa0 : (a != 0) = false := by simp [A0]
    have HE := Lib.hid (show resR 4 a a = (1, 0) by (unfold resR isK ok2 okK smK; simp only [Bool.and_eq_false_imp, Bool.and_eq_true, decide_eq_true_eq, decide_eq_false_iff_not]; repeat' split) <;> first | rfl | (exfalso; omega) | (exfalso; simp_all; omega) | (exfalso; simp_all))
    skip
    go_enter Try.func25, Try.ntmps25
    go_wp2_with (first
      | (go_at_call 39; refine (H1.out _).mono ?_; rintro e w' ⟨rfl, rfl⟩)
      | (go_at_call 41; refine (H2.out _).mono ?_; rintro e w' ⟨rfl, rfl⟩)
      | (go_at_call 43; refine (H3.out _).mono ?_; rintro e w' ⟨rfl, rfl⟩))
    refine bodyPost_ret (v := .tuple #[.int .i64 (1), .int .i64 (0)]) (by simp [results, Try.results25, go_sem]) rfl ⟨tup2 HE.out, rfl⟩
  have fa0 : (a != 0) = true := bne_iff_ne.2 A0
  have HE := Lib.hid (show resR 4 a a = (0, 22) by (unfold resR isK ok2 okK smK; simp only [Bool.and_eq_false_imp, Bool.and_eq_true, decide_eq_true_eq, decide_eq_false_iff_not]; repeat' split) <;> first | rfl | (exfalso; omega) | (exfalso; simp_all; omega) | (exfalso; simp_all))
  skip
  go_enter Try.func25, Try.ntmps25
  go_wp2_with (first
    | (go_at_call 39; refine (H1.out _).mono ?_; rintro e w' ⟨rfl, rfl⟩)
    | (go_at_call 41; refine (H2.out _).mono ?_; rintro e w' ⟨rfl, rfl⟩)
    | (go_at_call 43; refine (H3.out _).mono ?_; rintro e w' ⟨rfl, rfl⟩))
  refine bodyPost_ret (v := .tuple #[.int .i64 (0), .int .i64 (22)]) (by simp [results, Try.results25, go_sem]) rfl ⟨tup2 HE.out, rfl⟩
set_option maxHeartbeats 6400000 in
theorem rres_23 (a b : Int) (w : World) : Calls Try.prog 25 #[.int .i64 23, .int .i64 a, .int .i64 b] w fun e w' => e = .returned (.tuple #[.int .i64 (resR 23 a a).1, .int .i64 (resR 23 a a).2]) ∧ w' = w := by
  have h1 := fun w => rone_any 23 w
  have h2 := fun w => rtwo_any 23 w
  have h3 := fun w => rsums_any 23 w
  simp only [show decide ((23 : Int) = 4 ∨ (23 : Int) = 16 ∨ (23 : Int) = 19 ∨ (23 : Int) = 20) = false from by decide] at h1
  simp only [show decide (5 ≤ (23 : Int) ∧ (23 : Int) ≤ 15 ∨ (23 : Int) = 17 ∨ (23 : Int) = 18) = false from by decide] at h2
  simp only [show decide (4 ≤ (23 : Int) ∧ (23 : Int) ≤ 9) = false from by decide] at h3
  have H1 := Lib.hid h1
  have H2 := Lib.hid h2
  have H3 := Lib.hid h3
  clear h1 h2 h3
  by_cases la : a < 0
  · skip
    have HE := Lib.hid (show resR 23 a a = (0, 1) by (unfold resR isK ok2 okK smK; simp only [Bool.and_eq_false_imp, Bool.and_eq_true, decide_eq_true_eq, decide_eq_false_iff_not]; repeat' split) <;> first | rfl | (exfalso; omega) | (exfalso; simp_all; omega) | (exfalso; simp_all))
    skip
    go_enter Try.func25, Try.ntmps25
    go_wp2_with (first
      | (go_at_call 39; refine (H1.out _).mono ?_; rintro e w' ⟨rfl, rfl⟩)
      | (go_at_call 41; refine (H2.out _).mono ?_; rintro e w' ⟨rfl, rfl⟩)
      | (go_at_call 43; refine (H3.out _).mono ?_; rintro e w' ⟨rfl, rfl⟩))
    refine bodyPost_ret (v := .tuple #[.int .i64 (0), .int .i64 (1)]) (by simp [results, Try.results25, go_sem]) rfl ⟨tup2 HE.out, rfl⟩
  have La : decide (a < 0) = false := decide_eq_false la
  by_cases ma : 3 < a
  · skip
    have HE := Lib.hid (show resR 23 a a = (0, 1) by (unfold resR isK ok2 okK smK; simp only [Bool.and_eq_false_imp, Bool.and_eq_true, decide_eq_true_eq, decide_eq_false_iff_not]; repeat' split) <;> first | rfl | (exfalso; omega) | (exfalso; simp_all; omega) | (exfalso; simp_all))
    skip
    go_enter Try.func25, Try.ntmps25
    go_wp2_with (first
      | (go_at_call 39; refine (H1.out _).mono ?_; rintro e w' ⟨rfl, rfl⟩)
      | (go_at_call 41; refine (H2.out _).mono ?_; rintro e w' ⟨rfl, rfl⟩)
      | (go_at_call 43; refine (H3.out _).mono ?_; rintro e w' ⟨rfl, rfl⟩))
    refine bodyPost_ret (v := .tuple #[.int .i64 (0), .int .i64 (1)]) (by simp [results, Try.results25, go_sem]) rfl ⟨tup2 HE.out, rfl⟩
  have Ma : decide (3 < a) = false := decide_eq_false ma
  by_cases A1 : a = 1
  · have fa1 : (a != 1) = false := by simp [A1]
    have HE := Lib.hid (show resR 23 a a = (1, 0) by (unfold resR isK ok2 okK smK; simp only [Bool.and_eq_false_imp, Bool.and_eq_true, decide_eq_true_eq, decide_eq_false_iff_not]; repeat' split) <;> first | rfl | (exfalso; omega) | (exfalso; simp_all; omega) | (exfalso; simp_all))
    skip
    go_enter Try.func25, Try.ntmps25
    go_wp2_with (first
      | (go_at_call 39; refine (H1.out _).mono ?_; rintro e w' ⟨rfl, rfl⟩)
      | (go_at_call 41; refine (H2.out _).mono ?_; rintro e w' ⟨rfl, rfl⟩)
      | (go_at_call 43; refine (H3.out _).mono ?_; rintro e w' ⟨rfl, rfl⟩))
    refine bodyPost_ret (v := .tuple #[.int .i64 (1), .int .i64 (0)]) (by simp [results, Try.results25, go_sem]) rfl ⟨tup2 HE.out, rfl⟩
  have fa1 : (a != 1) = true := bne_iff_ne.2 A1
  by_cases A0 : a = 0
  · have fa0 : (a != 0) = false := by simp [A0]
    have HE := Lib.hid (show resR 23 a a = (1, 0) by (unfold resR isK ok2 okK smK; simp only [Bool.and_eq_false_imp, Bool.and_eq_true, decide_eq_true_eq, decide_eq_false_iff_not]; repeat' split) <;> first | rfl | (exfalso; omega) | (exfalso; simp_all; omega) | (exfalso; simp_all))
    skip
    go_enter Try.func25, Try.ntmps25
    go_wp2_with (first
      | (go_at_call 39; refine (H1.out _).mono ?_; rintro e w' ⟨rfl, rfl⟩)
      | (go_at_call 41; refine (H2.out _).mono ?_; rintro e w' ⟨rfl, rfl⟩)
      | (go_at_call 43; refine (H3.out _).mono ?_; rintro e w' ⟨rfl, rfl⟩))
    refine bodyPost_ret (v := .tuple #[.int .i64 (1), .int .i64 (0)]) (by simp [results, Try.results25, go_sem]) rfl ⟨tup2 HE.out, rfl⟩
  have fa0 : (a != 0) = true := bne_iff_ne.2 A0
  have HE := Lib.hid (show resR 23 a a = (0, 22) by (unfold resR isK ok2 okK smK; simp only [Bool.and_eq_false_imp, Bool.and_eq_true, decide_eq_true_eq, decide_eq_false_iff_not]; repeat' split) <;> first | rfl | (exfalso; omega) | (exfalso; simp_all; omega) | (exfalso; simp_all))
  skip
  go_enter Try.func25, Try.ntmps25
  go_wp2_with (first
    | (go_at_call 39; refine (H1.out _).mono ?_; rintro e w' ⟨rfl, rfl⟩)
    | (go_at_call 41; refine (H2.out _).mono ?_; rintro e w' ⟨rfl, rfl⟩)
    | (go_at_call 43; refine (H3.out _).mono ?_; rintro e w' ⟨rfl, rfl⟩))
  refine bodyPost_ret (v := .tuple #[.int .i64 (0), .int .i64 (22)]) (by simp [results, Try.results25, go_sem]) rfl ⟨tup2 HE.out, rfl⟩
set_option maxHeartbeats 6400000 in
theorem rres_16 (a b : Int) (w : World) : Calls Try.prog 25 #[.int .i64 16, .int .i64 a, .int .i64 b] w fun e w' => e = .returned (.tuple #[.int .i64 (resR 16 a a).1, .int .i64 (resR 16 a a).2]) ∧ w' = w := by
  have h1 := fun w => rone_any 16 w
  have h2 := fun w => rtwo_any 16 w
  have h3 := fun w => rsums_any 16 w
  simp only [show decide ((16 : Int) = 4 ∨ (16 : Int) = 16 ∨ (16 : Int) = 19 ∨ (16 : Int) = 20) = true from by decide] at h1
  simp only [show decide (5 ≤ (16 : Int) ∧ (16 : Int) ≤ 15 ∨ (16 : Int) = 17 ∨ (16 : Int) = 18) = false from by decide] at h2
  simp only [show decide (4 ≤ (16 : Int) ∧ (16 : Int) ≤ 9) = false from by decide] at h3
  have H1 := Lib.hid h1
  have H2 := Lib.hid h2
  have H3 := Lib.hid h3
  clear h1 h2 h3
  by_cases la : a < 0
  · skip
    have HE := Lib.hid (show resR 16 a a = (0, 1) by (unfold resR isK ok2 okK smK; simp only [Bool.and_eq_false_imp, Bool.and_eq_true, decide_eq_true_eq, decide_eq_false_iff_not]; repeat' split) <;> first | rfl | (exfalso; omega) | (exfalso; simp_all; omega) | (exfalso; simp_all))
    skip
    go_enter Try.func25, Try.ntmps25
    go_wp2_with (first
      | (go_at_call 39; refine (H1.out _).mono ?_; rintro e w' ⟨rfl, rfl⟩)
      | (go_at_call 41; refine (H2.out _).mono ?_; rintro e w' ⟨rfl, rfl⟩)
      | (go_at_call 43; refine (H3.out _).mono ?_; rintro e w' ⟨rfl, rfl⟩))
    refine bodyPost_ret (v := .tuple #[.int .i64 (0), .int .i64 (1)]) (by simp [results, Try.results25, go_sem]) rfl ⟨tup2 HE.out, rfl⟩
  have La : decide (a < 0) = false := decide_eq_false la
  by_cases ma : 3 < a
  · skip
    have HE := Lib.hid (show resR 16 a a = (0, 1) by (unfold resR isK ok2 okK smK; simp only [Bool.and_eq_false_imp, Bool.and_eq_true, decide_eq_true_eq, decide_eq_false_iff_not]; repeat' split) <;> first | rfl | (exfalso; omega) | (exfalso; simp_all; omega) | (exfalso; simp_all))
    skip
    go_enter Try.func25, Try.ntmps25
    go_wp2_with (first
      | (go_at_call 39; refine (H1.out _).mono ?_; rintro e w' ⟨rfl, rfl⟩)
      | (go_at_call 41; refine (H2.out _).mono ?_; rintro e w' ⟨rfl, rfl⟩)
      | (go_at_call 43; refine (H3.out _).mono ?_; rintro e w' ⟨rfl, rfl⟩))
    refine bodyPost_ret (v := .tuple #[.int .i64 (0), .int .i64 (1)]) (by simp [results, Try.results25, go_sem]) rfl ⟨tup2 HE.out, rfl⟩
  have Ma : decide (3 < a) = false := decide_eq_false ma
  by_cases A1 : a = 3
  · have fa1 : (a != 3) = false := by simp [A1]
    have HE := Lib.hid (show resR 16 a a = (3, 0) by (unfold resR isK ok2 okK smK; simp only [Bool.and_eq_false_imp, Bool.and_eq_true, decide_eq_true_eq, decide_eq_false_iff_not]; repeat' split) <;> first | rfl | (exfalso; omega) | (exfalso; simp_all; omega) | (exfalso; simp_all))
    skip
    go_enter Try.func25, Try.ntmps25
    go_wp2_with (first
      | (go_at_call 39; refine (H1.out _).mono ?_; rintro e w' ⟨rfl, rfl⟩)
      | (go_at_call 41; refine (H2.out _).mono ?_; rintro e w' ⟨rfl, rfl⟩)
      | (go_at_call 43; refine (H3.out _).mono ?_; rintro e w' ⟨rfl, rfl⟩))
    refine bodyPost_ret (v := .tuple #[.int .i64 (3), .int .i64 (0)]) (by simp [results, Try.results25, go_sem]) rfl ⟨tup2 HE.out, rfl⟩
  have fa1 : (a != 3) = true := bne_iff_ne.2 A1
  by_cases A0 : a = 0
  · have fa0 : (a != 0) = false := by simp [A0]
    have HE := Lib.hid (show resR 16 a a = (3, 0) by (unfold resR isK ok2 okK smK; simp only [Bool.and_eq_false_imp, Bool.and_eq_true, decide_eq_true_eq, decide_eq_false_iff_not]; repeat' split) <;> first | rfl | (exfalso; omega) | (exfalso; simp_all; omega) | (exfalso; simp_all))
    skip
    go_enter Try.func25, Try.ntmps25
    go_wp2_with (first
      | (go_at_call 39; refine (H1.out _).mono ?_; rintro e w' ⟨rfl, rfl⟩)
      | (go_at_call 41; refine (H2.out _).mono ?_; rintro e w' ⟨rfl, rfl⟩)
      | (go_at_call 43; refine (H3.out _).mono ?_; rintro e w' ⟨rfl, rfl⟩))
    refine bodyPost_ret (v := .tuple #[.int .i64 (3), .int .i64 (0)]) (by simp [results, Try.results25, go_sem]) rfl ⟨tup2 HE.out, rfl⟩
  have fa0 : (a != 0) = true := bne_iff_ne.2 A0
  have HE := Lib.hid (show resR 16 a a = (0, 22) by (unfold resR isK ok2 okK smK; simp only [Bool.and_eq_false_imp, Bool.and_eq_true, decide_eq_true_eq, decide_eq_false_iff_not]; repeat' split) <;> first | rfl | (exfalso; omega) | (exfalso; simp_all; omega) | (exfalso; simp_all))
  skip
  go_enter Try.func25, Try.ntmps25
  go_wp2_with (first
    | (go_at_call 39; refine (H1.out _).mono ?_; rintro e w' ⟨rfl, rfl⟩)
    | (go_at_call 41; refine (H2.out _).mono ?_; rintro e w' ⟨rfl, rfl⟩)
    | (go_at_call 43; refine (H3.out _).mono ?_; rintro e w' ⟨rfl, rfl⟩))
  refine bodyPost_ret (v := .tuple #[.int .i64 (0), .int .i64 (22)]) (by simp [results, Try.results25, go_sem]) rfl ⟨tup2 HE.out, rfl⟩
set_option maxHeartbeats 6400000 in
theorem rres_17 (a b : Int) (w : World) : Calls Try.prog 25 #[.int .i64 17, .int .i64 a, .int .i64 b] w fun e w' => e = .returned (.tuple #[.int .i64 (resR 17 a b).1, .int .i64 (resR 17 a b).2]) ∧ w' = w := by
  have h1 := fun w => rone_any 17 w
  have h2 := fun w => rtwo_any 17 w
  have h3 := fun w => rsums_any 17 w
  simp only [show decide ((17 : Int) = 4 ∨ (17 : Int) = 16 ∨ (17 : Int) = 19 ∨ (17 : Int) = 20) = false from by decide] at h1
  simp only [show decide (5 ≤ (17 : Int) ∧ (17 : Int) ≤ 15 ∨ (17 : Int) = 17 ∨ (17 : Int) = 18) = true from by decide] at h2
  simp only [show decide (4 ≤ (17 : Int) ∧ (17 : Int) ≤ 9) = false from by decide] at h3
  have H1 := Lib.hid h1
  have H2 := Lib.hid h2
  have H3 := Lib.hid h3
  clear h1 h2 h3
  by_cases la : a < 0
  · skip
    have HE := Lib.hid (show resR 17 a b = (0, 1) by (unfold resR isK ok2 okK smK; simp only [Bool.and_eq_false_imp, Bool.and_eq_true, decide_eq_true_eq, decide_eq_false_iff_not]; repeat' split) <;> first | rfl | (exfalso; omega) | (exfalso; simp_all; omega) | (exfalso; simp_all))
    skip
    go_enter Try.func25, Try.ntmps25
    go_wp2_with (first
      | (go_at_call 39; refine (H1.out _).mono ?_; rintro e w' ⟨rfl, rfl⟩)
      | (go_at_call 41; refine (H2.out _).mono ?_; rintro e w' ⟨rfl, rfl⟩)
      | (go_at_call 43; refine (H3.out _).mono ?_; rintro e w' ⟨rfl, rfl⟩))
    refine bodyPost_ret (v := .tuple #[.int .i64 (0), .int .i64 (1)]) (by simp [results, Try.results25, go_sem]) rfl ⟨tup2 HE.out, rfl⟩
  have La : decide (a < 0) = false := decide_eq_false la
  by_cases ma : 3 < a
  · skip
    have HE := Lib.hid (show resR 17 a b = (0, 1) by (unfold resR isK ok2 okK smK; simp only [Bool.and_eq_false_imp, Bool.and_eq_true, decide_eq_true_eq, decide_eq_false_iff_not]; repeat' split) <;> first | rfl | (exfalso; omega) | (exfalso; simp_all; omega) | (exfalso; simp_all))
    skip
    go_enter Try.func25, Try.ntmps25
    go_wp2_with (first
      | (go_at_call 39; refine (H1.out _).mono ?_; rintro e w' ⟨rfl, rfl⟩)
      | (go_at_call 41; refine (H2.out _).mono ?_; rintro e w' ⟨rfl, rfl⟩)
      | (go_at_call 43; refine (H3.out _).mono ?_; rintro e w' ⟨rfl, rfl⟩))
    refine bodyPost_ret (v := .tuple #[.int .i64 (0), .int .i64 (1)]) (by simp [results, Try.results25, go_sem]) rfl ⟨tup2 HE.out, rfl⟩
  have Ma : decide (3 < a) = false := decide_eq_false ma
  by_cases lb : b < 0
  · skip
    have HE := Lib.hid (show resR 17 a b = (0, 1) by (unfold resR isK ok2 okK smK; simp only [Bool.and_eq_false_imp, Bool.and_eq_true, decide_eq_true_eq, decide_eq_false_iff_not]; repeat' split) <;> first | rfl | (exfalso; omega) | (exfalso; simp_all; omega) | (exfalso; simp_all))
    skip
    go_enter Try.func25, Try.ntmps25
    go_wp2_with (first
      | (go_at_call 39; refine (H1.out _).mono ?_; rintro e w' ⟨rfl, rfl⟩)
      | (go_at_call 41; refine (H2.out _).mono ?_; rintro e w' ⟨rfl, rfl⟩)
      | (go_at_call 43; refine (H3.out _).mono ?_; rintro e w' ⟨rfl, rfl⟩))
    refine bodyPost_ret (v := .tuple #[.int .i64 (0), .int .i64 (1)]) (by simp [results, Try.results25, go_sem]) rfl ⟨tup2 HE.out, rfl⟩
  have Lb : decide (b < 0) = false := decide_eq_false lb
  by_cases mb : 3 < b
  · skip
    have HE := Lib.hid (show resR 17 a b = (0, 1) by (unfold resR isK ok2 okK smK; simp only [Bool.and_eq_false_imp, Bool.and_eq_true, decide_eq_true_eq, decide_eq_false_iff_not]; repeat' split) <;> first | rfl | (exfalso; omega) | (exfalso; simp_all; omega) | (exfalso; simp_all))
    skip
    go_enter Try.func25, Try.ntmps25
    go_wp2_with (first
      | (go_at_call 39; refine (H1.out _).mono ?_; rintro e w' ⟨rfl, rfl⟩)
      | (go_at_call 41; refine (H2.out _).mono ?_; rintro e w' ⟨rfl, rfl⟩)
      | (go_at_call 43; refine (H3.out _).mono ?_; rintro e w' ⟨rfl, rfl⟩))
    refine bodyPost_ret (v := .tuple #[.int .i64 (0), .int .i64 (1)]) (by simp [results, Try.results25, go_sem]) rfl ⟨tup2 HE.out, rfl⟩
  have Mb : decide (3 < b) = false := decide_eq_false mb
  by_cases A1 : a = 3
  · have fa1 : (a != 3) = false := by simp [A1]
    by_cases B1 : b = 3
    · have fb1 : (b != 3) = false := by simp [B1]
      have HE := Lib.hid (show resR 17 a b = (3, 0) by (unfold resR isK ok2 okK smK; simp only [Bool.and_eq_false_imp, Bool.and_eq_true, decide_eq_true_eq, decide_eq_false_iff_not]; repeat' split) <;> first | rfl | (exfalso; omega) | (exfalso; simp_all; omega) | (exfalso; simp_all))
      skip
      go_enter Try.func25, Try.ntmps25
      go_wp2_with (first
        | (go_at_call 39; refine (H1.out _).mono ?_; rintro e w' ⟨rfl, rfl⟩)
        | (go_at_call 41; refine (H2.out _).mono ?_; rintro e w' ⟨rfl, rfl⟩)
        | (go_at_call 43; refine (H3.out _).mono ?_; rintro e w' ⟨rfl, rfl⟩))
      refine bodyPost_ret (v := .tuple #[.int .i64 (3), .int .i64 (0)]) (by simp [results, Try.results25, go_sem]) rfl ⟨tup2 HE.out, rfl⟩
    have fb1 : (b != 3) = true := bne_iff_ne.2 B1
    by_cases B0 : b = 0
    · have fb0 : (b != 0) = false := by simp [B0]
      have HE := Lib.hid (show resR 17 a b = (3, 0) by (unfold resR isK ok2 okK smK; simp only [Bool.and_eq_false_imp, Bool.and_eq_true, decide_eq_true_eq, decide_eq_false_iff_not]; repeat' split) <;> first | rfl | (exfalso; omega) | (exfalso; simp_all; omega) | (exfalso; simp_all))
      skip
      go_enter Try.func25, Try.ntmps25
      go_wp2_with (first
        | (go_at_call 39; refine (H1.out _).mono ?_; rintro e w' ⟨rfl, rfl⟩)
        | (go_at_call 41; refine (H2.out _).mono ?_; rintro e w' ⟨rfl, rfl⟩)
        | (go_at_call 43; refine (H3.out _).mono ?_; rintro e w' ⟨rfl, rfl⟩))
      refine bodyPost_ret (v := .tuple #[.int .i64 (3), .int .i64 (0)]) (by simp [results, Try.results25, go_sem]) rfl ⟨tup2 HE.out, rfl⟩
    have fb0 : (b != 0) = true := bne_iff_ne.2 B0
    have HE := Lib.hid (show resR 17 a b = (0, 22) by (unfold resR isK ok2 okK smK; simp only [Bool.and_eq_false_imp, Bool.and_eq_true, decide_eq_true_eq, decide_eq_false_iff_not]; repeat' split) <;> first | rfl | (exfalso; omega) | (exfalso; simp_all; omega) | (exfalso; simp_all))
    skip
    go_enter Try.func25, Try.ntmps25
    go_wp2_with (first
      | (go_at_call 39; refine (H1.out _).mono ?_; rintro e w' ⟨rfl, rfl⟩)
      | (go_at_call 41; refine (H2.out _).mono ?_; rintro e w' ⟨rfl, rfl⟩)
      | (go_at_call 43; refine (H3.out _).mono ?_; rintro e w' ⟨rfl, rfl⟩))
    refine bodyPost_ret (v := .tuple #[.int .i64 (0), .int .i64 (22)]) (by simp [results, Try.results25, go_sem]) rfl ⟨tup2 HE.out, rfl⟩
  have fa1 : (a != 3) = true := bne_iff_ne.2 A1
  by_cases A0 : a = 0
  · have fa0 : (a != 0) = false := by simp [A0]
    by_cases B1 : b = 3
    · have fb1 : (b != 3) = false := by simp [B1]
      have HE := Lib.hid (show resR 17 a b = (3, 0) by (unfold resR isK ok2 okK smK; simp only [Bool.and_eq_false_imp, Bool.and_eq_true, decide_eq_true_eq, decide_eq_false_iff_not]; repeat' split) <;> first | rfl | (exfalso; omega) | (exfalso; simp_all; omega) | (exfalso; simp_all))
      skip
      go_enter Try.func25, Try.ntmps25
      go_wp2_with (first
        | (go_at_call 39; refine (H1.out _).mono ?_; rintro e w' ⟨rfl, rfl⟩)
        | (go_at_call 41; refine (H2.out _).mono ?_; rintro e w' ⟨rfl, rfl⟩)
        | (go_at_call 43; refine (H3.out _).mono ?_; rintro e w' ⟨rfl, rfl⟩))
      refine bodyPost_ret (v := .tuple #[.int .i64 (3), .int .i64 (0)]) (by simp [results, Try.results25, go_sem]) rfl ⟨tup2 HE.out, rfl⟩
    have fb1 : (b != 3) = true := bne_iff_ne.2 B1
    by_cases B0 : b = 0
    · have fb0 : (b != 0) = false := by simp [B0]
      have HE := Lib.hid (show resR 17 a b = (3, 0) by (unfold resR isK ok2 okK smK; simp only [Bool.and_eq_false_imp, Bool.and_eq_true, decide_eq_true_eq, decide_eq_false_iff_not]; repeat' split) <;> first | rfl | (exfalso; omega) | (exfalso; simp_all; omega) | (exfalso; simp_all))
      skip
      go_enter Try.func25, Try.ntmps25
      go_wp2_with (first
        | (go_at_call 39; refine (H1.out _).mono ?_; rintro e w' ⟨rfl, rfl⟩)
        | (go_at_call 41; refine (H2.out _).mono ?_; rintro e w' ⟨rfl, rfl⟩)
        | (go_at_call 43; refine (H3.out _).mono ?_; rintro e w' ⟨rfl, rfl⟩))
      refine bodyPost_ret (v := .tuple #[.int .i64 (3), .int .i64 (0)]) (by simp [results, Try.results25, go_sem]) rfl ⟨tup2 HE.out, rfl⟩
    have fb0 : (b != 0) = true := bne_iff_ne.2 B0
    have HE := Lib.hid (show resR 17 a b = (0, 22) by (unfold resR isK ok2 okK smK; simp only [Bool.and_eq_false_imp, Bool.and_eq_true, decide_eq_true_eq, decide_eq_false_iff_not]; repeat' split) <;> first | rfl | (exfalso; omega) | (exfalso; simp_all; omega) | (exfalso; simp_all))
    skip
    go_enter Try.func25, Try.ntmps25
    go_wp2_with (first
      | (go_at_call 39; refine (H1.out _).mono ?_; rintro e w' ⟨rfl, rfl⟩)
      | (go_at_call 41; refine (H2.out _).mono ?_; rintro e w' ⟨rfl, rfl⟩)
      | (go_at_call 43; refine (H3.out _).mono ?_; rintro e w' ⟨rfl, rfl⟩))
    refine bodyPost_ret (v := .tuple #[.int .i64 (0), .int .i64 (22)]) (by simp [results, Try.results25, go_sem]) rfl ⟨tup2 HE.out, rfl⟩
  have fa0 : (a != 0) = true := bne_iff_ne.2 A0
  have HE := Lib.hid (show resR 17 a b = (0, 22) by (unfold resR isK ok2 okK smK; simp only [Bool.and_eq_false_imp, Bool.and_eq_true, decide_eq_true_eq, decide_eq_false_iff_not]; repeat' split) <;> first | rfl | (exfalso; omega) | (exfalso; simp_all; omega) | (exfalso; simp_all))
  skip
  go_enter Try.func25, Try.ntmps25
  go_wp2_with (first
    | (go_at_call 39; refine (H1.out _).mono ?_; rintro e w' ⟨rfl, rfl⟩)
    | (go_at_call 41; refine (H2.out _).mono ?_; rintro e w' ⟨rfl, rfl⟩)
    | (go_at_call 43; refine (H3.out _).mono ?_; rintro e w' ⟨rfl, rfl⟩))
  refine bodyPost_ret (v := .tuple #[.int .i64 (0), .int .i64 (22)]) (by simp [results, Try.results25, go_sem]) rfl ⟨tup2 HE.out, rfl⟩
set_option maxHeartbeats 6400000 in
theorem rres_18 (a b : Int) (w : World) : Calls Try.prog 25 #[.int .i64 18, .int .i64 a, .int .i64 b] w fun e w' => e = .returned (.tuple #[.int .i64 (resR 18 a b).1, .int .i64 (resR 18 a b).2]) ∧ w' = w := by
  have h1 := fun w => rone_any 18 w
  have h2 := fun w => rtwo_any 18 w
  have h3 := fun w => rsums_any 18 w
  simp only [show decide ((18 : Int) = 4 ∨ (18 : Int) = 16 ∨ (18 : Int) = 19 ∨ (18 : Int) = 20) = false from by decide] at h1
  simp only [show decide (5 ≤ (18 : Int) ∧ (18 : Int) ≤ 15 ∨ (18 : Int) = 17 ∨ (18 : Int) = 18) = true from by decide] at h2
  simp only [show decide (4 ≤ (18 : Int) ∧ (18 : Int) ≤ 9) = false from by decide] at h3
  have H1 := Lib.hid h1
  have H2 := Lib.hid h2
  have H3 := Lib.hid h3
  clear h1 h2 h3
  by_cases la : a < 0
  · skip
    have HE := Lib.hid (show resR 18 a b = (0, 1) by (unfold resR isK ok2 okK smK; simp only [Bool.and_eq_false_imp, Bool.and_eq_true, decide_eq_true_eq, decide_eq_false_iff_not]; repeat' split) <;> first | rfl | (exfalso; omega) | (exfalso; simp_all; omega) | (exfalso; simp_all))
    skip
    go_enter Try.func25, Try.ntmps25
    go_wp2_with (first
      | (go_at_call 39; refine (H1.out _).mono ?_; rintro e w' ⟨rfl, rfl⟩)
      | (go_at_call 41; refine (H2.out _).mono ?_; rintro e w' ⟨rfl, rfl⟩)
      | (go_at_call 43; refine (H3.out _).mono ?_; rintro e w' ⟨rfl, rfl⟩))
    refine bodyPost_ret (v := .tuple #[.int .i64 (0), .int .i64 (1)]) (by simp [results, Try.results25, go_sem]) rfl ⟨tup2 HE.out, rfl⟩
  have La : decide (a < 0) = false := decide_eq_false la
  by_cases ma : 3 < a
  · skip
    have HE := Lib.hid (show resR 18 a b = (0, 1) by (unfold resR isK ok2 okK smK; simp only [Bool.and_eq_false_imp, Bool.and_eq_true, decide_eq_true_eq, decide_eq_false_iff_not]; repeat' split) <;> first | rfl | (exfalso; omega) | (exfalso; simp_all; omega) | (exfalso; simp_all))
    skip
    go_enter Try.func25, Try.ntmps25
    go_wp2_with (first
      | (go_at_call 39; refine (H1.out _).mono ?_; rintro e w' ⟨rfl, rfl⟩)
      | (go_at_call 41; refine (H2.out _).mono ?_; rintro e w' ⟨rfl, rfl⟩)
      | (go_at_call 43; refine (H3.out _).mono ?_; rintro e w' ⟨rfl, rfl⟩))
    refine bodyPost_ret (v := .tuple #[.int .i64 (0), .int .i64 (1)]) (by simp [results, Try.results25, go_sem]) rfl ⟨tup2 HE.out, rfl⟩
  have Ma : decide (3 < a) = false := decide_eq_false ma
  by_cases lb : b < 0
  · skip
    have HE := Lib.hid (show resR 18 a b = (0, 1) by (unfold resR isK ok2 okK smK; simp only [Bool.and_eq_false_imp, Bool.and_eq_true, decide_eq_true_eq, decide_eq_false_iff_not]; repeat' split) <;> first | rfl | (exfalso; omega) | (exfalso; simp_all; omega) | (exfalso; simp_all))
    skip
    go_enter Try.func25, Try.ntmps25
    go_wp2_with (first
      | (go_at_call 39; refine (H1.out _).mono ?_; rintro e w' ⟨rfl, rfl⟩)
      | (go_at_call 41; refine (H2.out _).mono ?_; rintro e w' ⟨rfl, rfl⟩)
      | (go_at_call 43; refine (H3.out _).mono ?_; rintro e w' ⟨rfl, rfl⟩))
    refine bodyPost_ret (v := .tuple #[.int .i64 (0), .int .i64 (1)]) (by simp [results, Try.results25, go_sem]) rfl ⟨tup2 HE.out, rfl⟩
  have Lb : decide (b < 0) = false := decide_eq_false lb
  by_cases mb : 3 < b
  · skip
    have HE := Lib.hid (show resR 18 a b = (0, 1) by (unfold resR isK ok2 okK smK; simp only [Bool.and_eq_false_imp, Bool.and_eq_true, decide_eq_true_eq, decide_eq_false_iff_not]; repeat' split) <;> first | rfl | (exfalso; omega) | (exfalso; simp_all; omega) | (exfalso; simp_all))
    skip
    go_enter Try.func25, Try.ntmps25
    go_wp2_with (first
      | (go_at_call 39; refine (H1.out _).mono ?_; rintro e w' ⟨rfl, rfl⟩)
      | (go_at_call 41; refine (H2.out _).mono ?_; rintro e w' ⟨rfl, rfl⟩)
      | (go_at_call 43; refine (H3.out _).mono ?_; rintro e w' ⟨rfl, rfl⟩))
    refine bodyPost_ret (v := .tuple #[.int .i64 (0), .int .i64 (1)]) (by simp [results, Try.results25, go_sem]) rfl ⟨tup2 HE.out, rfl⟩
  have Mb : decide (3 < b) = false := decide_eq_false mb
  by_cases A1 : a = 3
  · have fa1 : (a != 3) = false := by simp [A1]
    by_cases B1 : b = 3
    · have fb1 : (b != 3) = false := by simp [B1]
      have HE := Lib.hid (show resR 18 a b = (3, 0) by (unfold resR isK ok2 okK smK; simp only [Bool.and_eq_false_imp, Bool.and_eq_true, decide_eq_true_eq, decide_eq_false_iff_not]; repeat' split) <;> first | rfl | (exfalso; omega) | (exfalso; simp_all; omega) | (exfalso; simp_all))
      skip
      go_enter Try.func25, Try.ntmps25
      go_wp2_with (first
        | (go_at_call 39; refine (H1.out _).mono ?_; rintro e w' ⟨rfl, rfl⟩)
        | (go_at_call 41; refine (H2.out _).mono ?_; rintro e w' ⟨rfl, rfl⟩)
        | (go_at_call 43; refine (H3.out _).mono ?_; rintro e w' ⟨rfl, rfl⟩))
      refine bodyPost_ret (v := .tuple #[.int .i64 (3), .int .i64 (0)]) (by simp [results, Try.results25, go_sem]) rfl ⟨tup2 HE.out, rfl⟩
    have fb1 : (b != 3) = true := bne_iff_ne.2 B1
    by_cases B0 : b = 0
    · have fb0 : (b != 0) = false := by simp [B0]
      have HE := Lib.hid (show resR 18 a b = (3, 0) by (unfold resR isK ok2 okK smK; simp only [Bool.and_eq_false_imp, Bool.and_eq_true, decide_eq_true_eq, decide_eq_false_iff_not]; repeat' split) <;> first | rfl | (exfalso; omega) | (exfalso; simp_all; omega) | (exfalso; simp_all))
      skip
      go_enter Try.func25, Try.ntmps25
      go_wp2_with (first
        | (go_at_call 39; refine (H1.out _).mono ?_; rintro e w' ⟨rfl, rfl⟩)
        | (go_at_call 41; refine (H2.out _).mono ?_; rintro e w' ⟨rfl, rfl⟩)
        | (go_at_call 43; refine (H3.out _).mono ?_; rintro e w' ⟨rfl, rfl⟩))
      refine bodyPost_ret (v := .tuple #[.int .i64 (3), .int .i64 (0)]) (by simp [results, Try.results25, go_sem]) rfl ⟨tup2 HE.out, rfl⟩
    have fb0 : (b != 0) = true := bne_iff_ne.2 B0
    have HE := Lib.hid (show resR 18 a b = (0, 22) by (unfold resR isK ok2 okK smK; simp only [Bool.and_eq_false_imp, Bool.and_eq_true, decide_eq_true_eq, decide_eq_false_iff_not]; repeat' split) <;> first | rfl | (exfalso; omega) | (exfalso; simp_all; omega) | (exfalso; simp_all))
    skip
    go_enter Try.func25, Try.ntmps25
    go_wp2_with (first
      | (go_at_call 39; refine (H1.out _).mono ?_; rintro e w' ⟨rfl, rfl⟩)
      | (go_at_call 41; refine (H2.out _).mono ?_; rintro e w' ⟨rfl, rfl⟩)
      | (go_at_call 43; refine (H3.out _).mono ?_; rintro e w' ⟨rfl, rfl⟩))
    refine bodyPost_ret (v := .tuple #[.int .i64 (0), .int .i64 (22)]) (by simp [results, Try.results25, go_sem]) rfl ⟨tup2 HE.out, rfl⟩
  have fa1 : (a != 3) = true := bne_iff_ne.2 A1
  by_cases A0 : a = 0
  · have fa0 : (a != 0) = false := by simp [A0]
    by_cases B1 : b = 3
    · have fb1 : (b != 3) = false := by simp [B1]
      have HE := Lib.hid (show resR 18 a b = (3, 0) by (unfold resR isK ok2 okK smK; simp only [Bool.and_eq_false_imp, Bool.and_eq_true, decide_eq_true_eq, decide_eq_false_iff_not]; repeat' split) <;> first | rfl | (exfalso; omega) | (exfalso; simp_all; omega) | (exfalso; simp_all))
      skip
      go_enter Try.func25, Try.ntmps25
      go_wp2_with (first
        | (go_at_call 39; refine (H1.out _).mono ?_; rintro e w' ⟨rfl, rfl⟩)
        | (go_at_call 41; refine (H2.out _).mono ?_; rintro e w' ⟨rfl, rfl⟩)
        | (go_at_call 43; refine (H3.out _).mono ?_; rintro e w' ⟨rfl, rfl⟩))
      refine bodyPost_ret (v := .tuple #[.int .i64 (3), .int .i64 (0)]) (by simp [results, Try.results25, go_sem]) rfl ⟨tup2 HE.out, rfl⟩
    have fb1 : (b != 3) = true := bne_iff_ne.2 B1
    by_cases B0 : b = 0
    · have fb0 : (b != 0) = false := by simp [B0]
      have HE := Lib.hid (show resR 18 a b = (3, 0) by (unfold resR isK ok2 okK smK; simp only [Bool.and_eq_false_imp, Bool.and_eq_true, decide_eq_true_eq, decide_eq_false_iff_not]; repeat' split) <;> first | rfl | (exfalso; omega) | (exfalso; simp_all; omega) | (exfalso; simp_all))
      skip
      go_enter Try.func25, Try.ntmps25
      go_wp2_with (first
        | (go_at_call 39; refine (H1.out _).mono ?_; rintro e w' ⟨rfl, rfl⟩)
        | (go_at_call 41; refine (H2.out _).mono ?_; rintro e w' ⟨rfl, rfl⟩)
        | (go_at_call 43; refine (H3.out _).mono ?_; rintro e w' ⟨rfl, rfl⟩))
      refine bodyPost_ret (v := .tuple #[.int .i64 (3), .int .i64 (0)]) (by simp [results, Try.results25, go_sem]) rfl ⟨tup2 HE.out, rfl⟩
    have fb0 : (b != 0) = true := bne_iff_ne.2 B0
    have HE := Lib.hid (show resR 18 a b = (0, 22) by (unfold resR isK ok2 okK smK; simp only [Bool.and_eq_false_imp, Bool.and_eq_true, decide_eq_true_eq, decide_eq_false_iff_not]; repeat' split) <;> first | rfl | (exfalso; omega) | (exfalso; simp_all; omega) | (exfalso; simp_all))
    skip
    go_enter Try.func25, Try.ntmps25
    go_wp2_with (first
      | (go_at_call 39; refine (H1.out _).mono ?_; rintro e w' ⟨rfl, rfl⟩)
      | (go_at_call 41; refine (H2.out _).mono ?_; rintro e w' ⟨rfl, rfl⟩)
      | (go_at_call 43; refine (H3.out _).mono ?_; rintro e w' ⟨rfl, rfl⟩))
    refine bodyPost_ret (v := .tuple #[.int .i64 (0), .int .i64 (22)]) (by simp [results, Try.results25, go_sem]) rfl ⟨tup2 HE.out, rfl⟩
  have fa0 : (a != 0) = true := bne_iff_ne.2 A0
  have HE := Lib.hid (show resR 18 a b = (0, 22) by (unfold resR isK ok2 okK smK; simp only [Bool.and_eq_false_imp, Bool.and_eq_true, decide_eq_true_eq, decide_eq_false_iff_not]; repeat' split) <;> first | rfl | (exfalso; omega) | (exfalso; simp_all; omega) | (exfalso; simp_all))
  skip
  go_enter Try.func25, Try.ntmps25
  go_wp2_with (first
    | (go_at_call 39; refine (H1.out _).mono ?_; rintro e w' ⟨rfl, rfl⟩)
    | (go_at_call 41; refine (H2.out _).mono ?_; rintro e w' ⟨rfl, rfl⟩)
    | (go_at_call 43; refine (H3.out _).mono ?_; rintro e w' ⟨rfl, rfl⟩))
  refine bodyPost_ret (v := .tuple #[.int .i64 (0), .int .i64 (22)]) (by simp [results, Try.results25, go_sem]) rfl ⟨tup2 HE.out, rfl⟩
end Go.Proofs.Ytkcjegdmcboohaa
