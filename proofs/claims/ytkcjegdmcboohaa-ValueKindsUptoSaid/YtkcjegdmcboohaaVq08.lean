import Derived.Test.YtkcjegdmcboohaaVq01
import Derived.Test.YtkcjegdmcboohaaVq05
namespace Go.Proofs.Ytkcjegdmcboohaa
open Go.RowKit
theorem tup2 {p : Int × Int} {x y : Int} (h : p = (x, y)) : Ending.returned (.tuple #[.int .i64 x, .int .i64 y]) = Ending.returned (.tuple #[.int .i64 p.1, .int .i64 p.2]) := by rw [h]
set_option maxHeartbeats 6400000 in
theorem rres_calc (op : Int) (hop : 5 ≤ op ∧ op ≤ 9) (a b : Int) (w : World) : Calls Try.prog 25 #[.int .i64 op, .int .i64 a, .int .i64 b] w fun e w' => e = .returned (.tuple #[.int .i64 (resR op a b).1, .int .i64 (resR op a b).2]) ∧ w' = w := by
  have h1 := fun w => rone_any op w
  have h2 := fun w => rtwo_any op w
  have h3 := fun w => rsums_any op w
  simp only [show decide (op = 4 ∨ op = 16 ∨ op = 19 ∨ op = 20) = false from decide_eq_false (by omega)] at h1
  simp only [show decide (5 ≤ op ∧ op ≤ 15 ∨ op = 17 ∨ op = 18) = true from decide_eq_true (by omega)] at h2
  simp only [show decide (4 ≤ op ∧ op ≤ 9) = true from decide_eq_true (by omega)] at h3
  have e16 : (op == 16) = false := beq_false_of_ne (by omega)
  have e17 : (op == 17) = false := beq_false_of_ne (by omega)
  have e18 : (op == 18) = false := beq_false_of_ne (by omega)
  have e19 : (op == 19) = false := beq_false_of_ne (by omega)
  have e20 : (op == 20) = false := beq_false_of_ne (by omega)
  have e21 : (op == 21) = false := beq_false_of_ne (by omega)
  have e22 : (op == 22) = false := beq_false_of_ne (by omega)
  have e23 : (op == 23) = false := beq_false_of_ne (by omega)
  have e24 : (op == 24) = false := beq_false_of_ne (by omega)
  have e25 : (op == 25) = false := beq_false_of_ne (by omega)
  have n1 : decide (22 ≤ op) = false := decide_eq_false (by omega)
  have H1 := Lib.hid h1
  have H2 := Lib.hid h2
  have H3 := Lib.hid h3
  clear h1 h2 h3
  by_cases la : a < 0
  · skip
    have HE := Lib.hid (show resR op a b = (0, 1) by (unfold resR isK ok2 okK smK; simp only [Bool.and_eq_false_imp, Bool.and_eq_true, decide_eq_true_eq, decide_eq_false_iff_not]; repeat' split) <;> first | rfl | (exfalso; omega) | (exfalso; simp_all; omega) | (exfalso; simp_all))
    skip
    go_enter Try.func25, Try.ntmps25
    go_wp2_with (first
      | (go_at_call 39; refine (H1.out _).mono ?_; rintro e w' ⟨rfl, rfl⟩)
      | (go_at_call 41; refine (H2.out _).mono ?_; rintro e w' ⟨rfl, rfl⟩)
      | (go_at_call 43; refine (H3.out _).mono ?_; rintro e w' ⟨rfl, rfl⟩))
    refine bodyPost_ret (v := .tuple #[.int .i64 (0), .int .i64 (1)]) (by simp [results, Try.results25, go_sem]) rfl ⟨tup2 HE.out, rfl⟩
  have La : decide (a < 0) = false := decide_eq_false la
  by_cases ma : 3 < a
  · skip
    have HE := Lib.hid (show resR op a b = (0, 1) by (unfold resR isK ok2 okK smK; simp only [Bool.and_eq_false_imp, Bool.and_eq_true, decide_eq_true_eq, decide_eq_false_iff_not]; repeat' split) <;> first | rfl | (exfalso; omega) | (exfalso; simp_all; omega) | (exfalso; simp_all))
    skip
    go_enter Try.func25, Try.ntmps25
    go_wp2_with (first
      | (go_at_call 39; refine (H1.out _).mono ?_; rintro e w' ⟨rfl, rfl⟩)
      | (go_at_call 41; refine (H2.out _).mono ?_; rintro e w' ⟨rfl, rfl⟩)
      | (go_at_call 43; refine (H3.out _).mono ?_; rintro e w' ⟨rfl, rfl⟩))
    refine bodyPost_ret (v := .tuple #[.int .i64 (0), .int .i64 (1)]) (by simp [results, Try.results25, go_sem]) rfl ⟨tup2 HE.out, rfl⟩
  have Ma : decide (3 < a) = false := decide_eq_false ma
  by_cases lb : b < 0
  · skip
    have HE := Lib.hid (show resR op a b = (0, 1) by (unfold resR isK ok2 okK smK; simp only [Bool.and_eq_false_imp, Bool.and_eq_true, decide_eq_true_eq, decide_eq_false_iff_not]; repeat' split) <;> first | rfl | (exfalso; omega) | (exfalso; simp_all; omega) | (exfalso; simp_all))
    skip
    go_enter Try.func25, Try.ntmps25
    go_wp2_with (first
      | (go_at_call 39; refine (H1.out _).mono ?_; rintro e w' ⟨rfl, rfl⟩)
      | (go_at_call 41; refine (H2.out _).mono ?_; rintro e w' ⟨rfl, rfl⟩)
      | (go_at_call 43; refine (H3.out _).mono ?_; rintro e w' ⟨rfl, rfl⟩))
    refine bodyPost_ret (v := .tuple #[.int .i64 (0), .int .i64 (1)]) (by simp [results, Try.results25, go_sem]) rfl ⟨tup2 HE.out, rfl⟩
  have Lb : decide (b < 0) = false := decide_eq_false lb
  by_cases mb : 3 < b
  · skip
    have HE := Lib.hid (show resR op a b = (0, 1) by (unfold resR isK ok2 okK smK; simp only [Bool.and_eq_false_imp, Bool.and_eq_true, decide_eq_true_eq, decide_eq_false_iff_not]; repeat' split) <;> first | rfl | (exfalso; omega) | (exfalso; simp_all; omega) | (exfalso; simp_all))
    skip
    go_enter Try.func25, Try.ntmps25
    go_wp2_with (first
      | (go_at_call 39; refine (H1.out _).mono ?_; rintro e w' ⟨rfl, rfl⟩)
      | (go_at_call 41; refine (H2.out _).mono ?_; rintro e w' ⟨rfl, rfl⟩)
      | (go_at_call 43; refine (H3.out _).mono ?_; rintro e w' ⟨rfl, rfl⟩))
    refine bodyPost_ret (v := .tuple #[.int .i64 (0), .int .i64 (1)]) (by simp [results, Try.results25, go_sem]) rfl ⟨tup2 HE.out, rfl⟩
  have Mb : decide (3 < b) = false := decide_eq_false mb
  by_cases A1 : a = 1
  · have fa1 : (a != 1) = false := by simp [A1]
    by_cases B1 : b = 1
    · have fb1 : (b != 1) = false := by simp [B1]
      have HE := Lib.hid (show resR op a b = (1, 0) by (unfold resR isK ok2 okK smK; simp only [Bool.and_eq_false_imp, Bool.and_eq_true, decide_eq_true_eq, decide_eq_false_iff_not]; repeat' split) <;> first | rfl | (exfalso; omega) | (exfalso; simp_all; omega) | (exfalso; simp_all))
      skip
      go_enter Try.func25, Try.ntmps25
      go_wp2_with (first
        | (go_at_call 39; refine (H1.out _).mono ?_; rintro e w' ⟨rfl, rfl⟩)
        | (go_at_call 41; refine (H2.out _).mono ?_; rintro e w' ⟨rfl, rfl⟩)
        | (go_at_call 43; refine (H3.out _).mono ?_; rintro e w' ⟨rfl, rfl⟩))
      refine bodyPost_ret (v := .tuple #[.int .i64 (1), .int .i64 (0)]) (by simp [results, Try.results25, go_sem]) rfl ⟨tup2 HE.out, rfl⟩
    have fb1 : (b != 1) = true := bne_iff_ne.2 B1
    by_cases B0 : b = 0
    · have fb0 : (b != 0) = false := by simp [B0]
      have HE := Lib.hid (show resR op a b = (1, 0) by (unfold resR isK ok2 okK smK; simp only [Bool.and_eq_false_imp, Bool.and_eq_true, decide_eq_true_eq, decide_eq_false_iff_not]; repeat' split) <;> first | rfl | (exfalso; omega) | (exfalso; simp_all; omega) | (exfalso; simp_all))
      skip
      go_enter Try.func25, Try.ntmps25
      go_wp2_with (first
        | (go_at_call 39; refine (H1.out _).mono ?_; rintro e w' ⟨rfl, rfl⟩)
        | (go_at_call 41; refine (H2.out _).mono ?_; rintro e w' ⟨rfl, rfl⟩)
        | (go_at_call 43; refine (H3.out _).mono ?_; rintro e w' ⟨rfl, rfl⟩))
      refine bodyPost_ret (v := .tuple #[.int .i64 (1), .int .i64 (0)]) (by simp [results, Try.results25, go_sem]) rfl ⟨tup2 HE.out, rfl⟩
    have fb0 : (b != 0) = true := bne_iff_ne.2 B0
    have HE := Lib.hid (show resR op a b = (0, 22) by (unfold resR isK ok2 okK smK; simp only [Bool.and_eq_false_imp, Bool.and_eq_true, decide_eq_true_eq, decide_eq_false_iff_not]; repeat' split) <;> first | rfl | (exfalso; omega) | (exfalso; simp_all; omega) | (exfalso; simp_all))
    skip
    go_enter Try.func25, Try.ntmps25
    go_wp2_with (first
      | (go_at_call 39; refine (H1.out _).mono ?_; rintro e w' ⟨rfl, rfl⟩)
      | (go_at_call 41; refine (H2.out _).mono ?_; rintro e w' ⟨rfl, rfl⟩)
      | (go_at_call 43; refine (H3.out _).mono ?_; rintro e w' ⟨rfl, rfl⟩))
    refine bodyPost_ret (v := .tuple #[.int .i64 (0), .int .i64 (22)]) (by simp [results, Try.results25, go_sem]) rfl ⟨tup2 HE.out, rfl⟩
  have fa1 : (a != 1) = true := bne_iff_ne.2 A1
  by_cases A0 : a = 0
  · have fa0 : (a != 0) = false := by simp [A0]
    by_cases B1 : b = 1
    · have fb1 : (b != 1) = false := by simp [B1]
      have HE := Lib.hid (show resR op a b = (1, 0) by (unfold resR isK ok2 okK smK; simp only [Bool.and_eq_false_imp, Bool.and_eq_true, decide_eq_true_eq, decide_eq_false_iff_not]; repeat' split) <;> first | rfl | (exfalso; omega) | (exfalso; simp_all; omega) | (exfalso; simp_all))
      skip
      go_enter Try.func25, Try.ntmps25
      go_wp2_with (first
        | (go_at_call 39; refine (H1.out _).mono ?_; rintro e w' ⟨rfl, rfl⟩)
        | (go_at_call 41; refine (H2.out _).mono ?_; rintro e w' ⟨rfl, rfl⟩)
        | (go_at_call 43; refine (H3.out _).mono ?_; rintro e w' ⟨rfl, rfl⟩))
      refine bodyPost_ret (v := .tuple #[.int .i64 (1), .int .i64 (0)]) (by simp [results, Try.results25, go_sem]) rfl ⟨tup2 HE.out, rfl⟩
    have fb1 : (b != 1) = true := bne_iff_ne.2 B1
    by_cases B0 : b = 0
    · have fb0 : (b != 0) = false := by simp [B0]
      have HE := Lib.hid (show resR op a b = (1, 0) by (unfold resR isK ok2 okK smK; simp only [Bool.and_eq_false_imp, Bool.and_eq_true, decide_eq_true_eq, decide_eq_false_iff_not]; repeat' split) <;> first | rfl | (exfalso; omega) | (exfalso; simp_all; omega) | (exfalso; simp_all))
      skip
      go_enter Try.func25, Try.ntmps25
      go_wp2_with (first
        | (go_at_call 39; refine (H1.out _).mono ?_; rintro e w' ⟨rfl, rfl⟩)
        | (go_at_call 41; refine (H2.out _).mono ?_; rintro e w' ⟨rfl, rfl⟩)
        | (go_at_call 43; refine (H3.out _).mono ?_; rintro e w' ⟨rfl, rfl⟩))
      refine bodyPost_ret (v := .tuple #[.int .i64 (1), .int .i64 (0)]) (by simp [results, Try.results25, go_sem]) rfl ⟨tup2 HE.out, rfl⟩
    have fb0 : (b != 0) = true := bne_iff_ne.2 B0
    have HE := Lib.hid (show resR op a b = (0, 22) by (unfold resR isK ok2 okK smK; simp only [Bool.and_eq_false_imp, Bool.and_eq_true, decide_eq_true_eq, decide_eq_false_iff_not]; repeat' split) <;> first | rfl | (exfalso; omega) | (exfalso; simp_all; omega) | (exfalso; simp_all))
    skip
    go_enter Try.func25, Try.ntmps25
    go_wp2_with (first
      | (go_at_call 39; refine (H1.out _).mono ?_; rintro e w' ⟨rfl, rfl⟩)
      | (go_at_call 41; refine (H2.out _).mono ?_; rintro e w' ⟨rfl, rfl⟩)
      | (go_at_call 43; refine (H3.out _).mono ?_; rintro e w' ⟨rfl, rfl⟩))
    refine bodyPost_ret (v := .tuple #[.int .i64 (0), .int .i64 (22)]) (by simp [results, Try.results25, go_sem]) rfl ⟨tup2 HE.out, rfl⟩
  have fa0 : (a != 0) = true := bne_iff_ne.2 A0
  have HE := Lib.hid (show resR op a b = (0, 22) by (unfold resR isK ok2 okK smK; simp only [Bool.and_eq_false_imp, Bool.and_eq_true, decide_eq_true_eq, decide_eq_false_iff_not]; repeat' split) <;> first | rfl | (exfalso; omega) | (exfalso; simp_all; omega) | (exfalso; simp_all))
  skip
  go_enter Try.func25, Try.ntmps25
  go_wp2_with (first
    | (go_at_call 39; refine (H1.out _).mono ?_; rintro e w' ⟨rfl, rfl⟩)
    | (go_at_call 41; refine (H2.out _).mono ?_; rintro e w' ⟨rfl, rfl⟩)
    | (go_at_call 43; refine (H3.out _).mono ?_; rintro e w' ⟨rfl, rfl⟩))
  refine bodyPost_ret (v := .tuple #[.int .i64 (0), .int .i64 (22)]) (by simp [results, Try.results25, go_sem]) rfl ⟨tup2 HE.out, rfl⟩
set_option maxHeartbeats 6400000 in
theorem rres_comp (op : Int) (hop : 10 ≤ op ∧ op ≤ 15) (a b : Int) (w : World) : Calls Try.prog 25 #[.int .i64 op, .int .i64 a, .int .i64 b] w fun e w' => e = .returned (.tuple #[.int .i64 (resR op a b).1, .int .i64 (resR op a b).2]) ∧ w' = w := by
  have h1 := fun w => rone_any op w
  have h2 := fun w => rtwo_any op w
  have h3 := fun w => rsums_any op w
  simp only [show decide (op = 4 ∨ op = 16 ∨ op = 19 ∨ op = 20) = false from decide_eq_false (by omega)] at h1
  simp only [show decide (5 ≤ op ∧ op ≤ 15 ∨ op = 17 ∨ op = 18) = true from decide_eq_true (by omega)] at h2
  simp only [show decide (4 ≤ op ∧ op ≤ 9) = false from decide_eq_false (by omega)] at h3
  have e16 : (op == 16) = false := beq_false_of_ne (by omega)
  have e17 : (op == 17) = false := beq_false_of_ne (by omega)
  have e18 : (op == 18) = false := beq_false_of_ne (by omega)
  have e19 : (op == 19) = false := beq_false_of_ne (by omega)
  have e20 : (op == 20) = false := beq_false_of_ne (by omega)
  have e21 : (op == 21) = false := beq_false_of_ne (by omega)
  have e22 : (op == 22) = false := beq_false_of_ne (by omega)
  have e23 : (op == 23) = false := beq_false_of_ne (by omega)
  have e24 : (op == 24) = false := beq_false_of_ne (by omega)
  have e25 : (op == 25) = false := beq_false_of_ne (by omega)
  have n1 : decide (22 ≤ op) = false := decide_eq_false (by omega)
  have H1 := Lib.hid h1
  have H2 := Lib.hid h2
  have H3 := Lib.hid h3
  clear h1 h2 h3
  by_cases la : a < 0
  · skip
    have HE := Lib.hid (show resR op a b = (0, 1) by (unfold resR isK ok2 okK smK; simp only [Bool.and_eq_false_imp, Bool.and_eq_true, decide_eq_true_eq, decide_eq_false_iff_not]; repeat' split) <;> first | rfl | (exfalso; omega) | (exfalso; simp_all; omega) | (exfalso; simp_all))
    skip
    go_enter Try.func25, Try.ntmps25
    go_wp2_with (first
      | (go_at_call 39; refine (H1.out _).mono ?_; rintro e w' ⟨rfl, rfl⟩)
      | (go_at_call 41; refine (H2.out _).mono ?_; rintro e w' ⟨rfl, rfl⟩)
      | (go_at_call 43; refine (H3.out _).mono ?_; rintro e w' ⟨rfl, rfl⟩))
    refine bodyPost_ret (v := .tuple #[.int .i64 (0), .int .i64 (1)]) (by simp [results, Try.results25, go_sem]) rfl ⟨tup2 HE.out, rfl⟩
  have La : decide (a < 0) = false := decide_eq_false la
  by_cases ma : 3 < a
  · skip
    have HE := Lib.hid (show resR op a b = (0, 1) by (unfold resR isK ok2 okK smK; simp only [Bool.and_eq_false_imp, Bool.and_eq_true, decide_eq_true_eq, decide_eq_false_iff_not]; repeat' split) <;> first | rfl | (exfalso; omega) | (exfalso; simp_all; omega) | (exfalso; simp_all))
    skip
    go_enter Try.func25, Try.ntmps25
    go_wp2_with (first
      | (go_at_call 39; refine (H1.out _).mono ?_; rintro e w' ⟨rfl, rfl⟩)
      | (go_at_call 41; refine (H2.out _).mono ?_; rintro e w' ⟨rfl, rfl⟩)
      | (go_at_call 43; refine (H3.out _).mono ?_; rintro e w' ⟨rfl, rfl⟩))
    refine bodyPost_ret (v := .tuple #[.int .i64 (0), .int .i64 (1)]) (by simp [results, Try.results25, go_sem]) rfl ⟨tup2 HE.out, rfl⟩
  have Ma : decide (3 < a) = false := decide_eq_false ma
  by_cases lb : b < 0
  · skip
    have HE := Lib.hid (show resR op a b = (0, 1) by (unfold resR isK ok2 okK smK; simp only [Bool.and_eq_false_imp, Bool.and_eq_true, decide_eq_true_eq, decide_eq_false_iff_not]; repeat' split) <;> first | rfl | (exfalso; omega) | (exfalso; simp_all; omega) | (exfalso; simp_all))
    skip
    go_enter Try.func25, Try.ntmps25
    go_wp2_with (first
      | (go_at_call 39; refine (H1.out _).mono ?_; rintro e w' ⟨rfl, rfl⟩)
      | (go_at_call 41; refine (H2.out _).mono ?_; rintro e w' ⟨rfl, rfl⟩)
      | (go_at_call 43; refine (H3.out _).mono ?_; rintro e w' ⟨rfl, rfl⟩))
    refine bodyPost_ret (v := .tuple #[.int .i64 (0), .int .i64 (1)]) (by simp [results, Try.results25, go_sem]) rfl ⟨tup2 HE.out, rfl⟩
  have Lb : decide (b < 0) = false := decide_eq_false lb
  by_cases mb : 3 < b
  · skip
    have HE := Lib.hid (show resR op a b = (0, 1) by (unfold resR isK ok2 okK smK; simp only [Bool.and_eq_false_imp, Bool.and_eq_true, decide_eq_true_eq, decide_eq_false_iff_not]; repeat' split) <;> first | rfl | (exfalso; omega) | (exfalso; simp_all; omega) | (exfalso; simp_all))
    skip
    go_enter Try.func25, Try.ntmps25
    go_wp2_with (first
      | (go_at_call 39; refine (H1.out _).mono ?_; rintro e w' ⟨rfl, rfl⟩)
      | (go_at_call 41; refine (H2.out _).mono ?_; rintro e w' ⟨rfl, rfl⟩)
      | (go_at_call 43; refine (H3.out _).mono ?_; rintro e w' ⟨rfl, rfl⟩))
    refine bodyPost_ret (v := .tuple #[.int .i64 (0), .int .i64 (1)]) (by simp [results, Try.results25, go_sem]) rfl ⟨tup2 HE.out, rfl⟩
  have Mb : decide (3 < b) = false := decide_eq_false mb
  by_cases e1 : a = b
  · have f1 : (a != b) = false := by simp [e1]
    have HE := Lib.hid (show resR op a b = (3, 0) by (unfold resR isK ok2 okK smK; simp only [Bool.and_eq_false_imp, Bool.and_eq_true, decide_eq_true_eq, decide_eq_false_iff_not]; repeat' split) <;> first | rfl | (exfalso; omega) | (exfalso; simp_all; omega) | (exfalso; simp_all))
    skip
    go_enter Try.func25, Try.ntmps25
    go_wp2_with (first
      | (go_at_call 39; refine (H1.out _).mono ?_; rintro e w' ⟨rfl, rfl⟩)
      | (go_at_call 41; refine (H2.out _).mono ?_; rintro e w' ⟨rfl, rfl⟩)
      | (go_at_call 43; refine (H3.out _).mono ?_; rintro e w' ⟨rfl, rfl⟩))
    refine bodyPost_ret (v := .tuple #[.int .i64 (3), .int .i64 (0)]) (by simp [results, Try.results25, go_sem]) rfl ⟨tup2 HE.out, rfl⟩
  have f1 : (a != b) = true := bne_iff_ne.2 e1
  by_cases e2 : a = 0
  · have f2 : (a != 0) = false := by simp [e2]
    have HE := Lib.hid (show resR op a b = (3, 0) by (unfold resR isK ok2 okK smK; simp only [Bool.and_eq_false_imp, Bool.and_eq_true, decide_eq_true_eq, decide_eq_false_iff_not]; repeat' split) <;> first | rfl | (exfalso; omega) | (exfalso; simp_all; omega) | (exfalso; simp_all))
    skip
    go_enter Try.func25, Try.ntmps25
    go_wp2_with (first
      | (go_at_call 39; refine (H1.out _).mono ?_; rintro e w' ⟨rfl, rfl⟩)
      | (go_at_call 41; refine (H2.out _).mono ?_; rintro e w' ⟨rfl, rfl⟩)
      | (go_at_call 43; refine (H3.out _).mono ?_; rintro e w' ⟨rfl, rfl⟩))
    refine bodyPost_ret (v := .tuple #[.int .i64 (3), .int .i64 (0)]) (by simp [results, Try.results25, go_sem]) rfl ⟨tup2 HE.out, rfl⟩
  have f2 : (a != 0) = true := bne_iff_ne.2 e2
  by_cases e3 : b = 0
  · have f3 : (b != 0) = false := by simp [e3]
    have HE := Lib.hid (show resR op a b = (3, 0) by (unfold resR isK ok2 okK smK; simp only [Bool.and_eq_false_imp, Bool.and_eq_true, decide_eq_true_eq, decide_eq_false_iff_not]; repeat' split) <;> first | rfl | (exfalso; omega) | (exfalso; simp_all; omega) | (exfalso; simp_all))
    skip
    go_enter Try.func25, Try.ntmps25
    go_wp2_with (first
      | (go_at_call 39; refine (H1.out _).mono ?_; rintro e w' ⟨rfl, rfl⟩)
      | (go_at_call 41; refine (H2.out _).mono ?_; rintro e w' ⟨rfl, rfl⟩)
      | (go_at_call 43; refine (H3.out _).mono ?_; rintro e w' ⟨rfl, rfl⟩))
    refine bodyPost_ret (v := .tuple #[.int .i64 (3), .int .i64 (0)]) (by simp [results, Try.results25, go_sem]) rfl ⟨tup2 HE.out, rfl⟩
  have f3 : (b != 0) = true := bne_iff_ne.2 e3
  have HE := Lib.hid (show resR op a b = (0, 22) by (unfold resR isK ok2 okK smK; simp only [Bool.and_eq_false_imp, Bool.and_eq_true, decide_eq_true_eq, decide_eq_false_iff_not]; repeat' split) <;> first | rfl | (exfalso; omega) | (exfalso; simp_all; omega) | (exfalso; simp_all))
  skip
  go_enter Try.func25, Try.ntmps25
  go_wp2_with (first
    | (go_at_call 39; refine (H1.out _).mono ?_; rintro e w' ⟨rfl, rfl⟩)
    | (go_at_call 41; refine (H2.out _).mono ?_; rintro e w' ⟨rfl, rfl⟩)
    | (go_at_call 43; refine (H3.out _).mono ?_; rintro e w' ⟨rfl, rfl⟩))
  refine bodyPost_ret (v := .tuple #[.int .i64 (0), .int .i64 (22)]) (by simp [results, Try.results25, go_sem]) rfl ⟨tup2 HE.out, rfl⟩
theorem rres_21 (a b : Int) (w : World) : Calls Try.prog 25 #[.int .i64 21, .int .i64 a, .int .i64 b] w fun e w' => e = .returned (.tuple #[.int .i64 1, .int .i64 0]) ∧ w' = w := by
  go_enter Try.func25, Try.ntmps25
  go_wp2_with (go_at_call 39; refine (rone_any _ _).mono ?_; rintro e w' ⟨rfl, rfl⟩)
  refine bodyPost_ret (v := .tuple #[.int .i64 1, .int .i64 0]) (by simp [results, Try.results25, go_sem]) rfl ⟨rfl, rfl⟩
end Go.Proofs.Ytkcjegdmcboohaa
