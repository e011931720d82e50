import Derived.Test.YtbhilmgpmebaiaaLg06
namespace Go.Proofs.Ytbhilmgpmebaiaa
open Go.RowKit
def isK (k : Int) : Bool := decide (0 ≤ k ∧ k ≤ 3)
def ok2 (k a b : Int) : Bool := okK k a && okK k b
def resR (op a b : Int) : Int × Int :=
  if op = 21 then (1, 0) else if (isK a && isK b) = false then (0, 1)
  else if 4 ≤ op ∧ op ≤ 9 ∨ op = 23 then (if ok2 1 a b = true then (1, 0) else (0, 22))
  else if 10 ≤ op ∧ op ≤ 15 then (if smK a b = true then (3, 0) else (0, 22))
  else if op = 16 ∨ op = 17 ∨ op = 18 then (if ok2 3 a b = true then (3, 0) else (0, 22))
  else if op = 19 ∨ op = 20 then (3, 0) else if op = 22 then (1, 0) else if op = 24 ∨ op = 25 then (a, 0) else (0, 1)
set_option maxHeartbeats 3200000 in
theorem res_comp (op : Int) (hop : 10 ≤ op ∧ op ≤ 15) (a b : Int) (w : World) : Calls Try.prog 24 #[.int .i64 op, .int .i64 a, .int .i64 b] w fun e w' => e = .returned (.tuple #[.int .i64 (resR op a b).1, .int .i64 (resR op a b).2]) ∧ Below w.heap.size w w' := by
  have ht1 := fun w => takesOne_any op w
  have ht2 := fun w => calculates_any op w
  have ht3 := fun w => compares_any op w
  have hka := fun w => isKind_any a w
  have hkb := fun w => isKind_any b w
  have hf1 : oneOf op = false := decide_eq_false (by omega)
  have hf2 : decide (4 ≤ op ∧ op ≤ 9) = false := decide_eq_false (by omega)
  have hf3 : decide (10 ≤ op ∧ op ≤ 15) = true := decide_eq_true (by omega)
  have e21 : (op == 21) = false := beq_false_of_ne (by omega)
  have e23 : (op == 23) = false := beq_false_of_ne (by omega)
  have n21 : ¬ op = 21 := by omega
  have nA : (4 ≤ op ∧ op ≤ 9 ∨ op = 23) = False := by simp; omega
  have nB : (10 ≤ op ∧ op ≤ 15) = True := by simp; omega
  simp only [hf1, hf2, hf3] at ht1 ht2 ht3
  have HT1 := Lib.hid ht1
  have HT2 := Lib.hid ht2
  have HT3 := Lib.hid ht3
  clear ht1 ht2 ht3 hf1 hf2 hf3
  cases h1 : isK a with
  | false =>
    simp only [show decide (0 ≤ a ∧ a ≤ 3) = false from h1] at hka
    have HKA := Lib.hid hka
    rw [show resR op a b = (0, 1) by simp [resR, h1, n21, nA, nB]]
    clear hka hkb h1
    go_enter Try.func24, Try.ntmps24
    go_wp2_with (first
      | (go_at_call 31; refine (HT1.out _).mono ?_; rintro e w' ⟨rfl, rfl⟩)
      | (go_at_call 53; refine (HKA.out _).mono ?_; rintro e w' ⟨rfl, rfl⟩))
    refine bodyPost_ret (v := .tuple #[.int .i64 0, .int .i64 1]) (by simp [results, Try.results24, go_sem]) rfl ⟨?_, ?_⟩
    · rfl
    · (repeat (first | exact Below.refl _ _ | exact HBW.out | refine bl_al ?_ _ | refine Below.setCell ?_ (by first | omega | (simp; done) | (simp; omega)) _ | refine Below.drew ?_))
  | true =>
    simp only [show decide (0 ≤ a ∧ a ≤ 3) = true from h1] at hka
    have HKA := Lib.hid hka
    cases h2 : isK b with
    | false =>
      simp only [show decide (0 ≤ b ∧ b ≤ 3) = false from h2] at hkb
      have HKB := Lib.hid hkb
      rw [show resR op a b = (0, 1) by simp [resR, h1, h2, n21, nA, nB]]
      clear hka hkb h1 h2
      go_enter Try.func24, Try.ntmps24
      go_wp2_with (first
        | (go_at_call 31; refine (HT1.out _).mono ?_; rintro e w' ⟨rfl, rfl⟩)
        | (go_at_call 53; refine (HKA.out _).mono ?_; rintro e w' ⟨rfl, rfl⟩; clear HKA)
        | (go_at_call 53; refine (HKB.out _).mono ?_; rintro e w' ⟨rfl, rfl⟩))
      refine bodyPost_ret (v := .tuple #[.int .i64 0, .int .i64 1]) (by simp [results, Try.results24, go_sem]) rfl ⟨?_, ?_⟩
      · rfl
      · (repeat (first | exact Below.refl _ _ | exact HBW.out | refine bl_al ?_ _ | refine Below.setCell ?_ (by first | omega | (simp; done) | (simp; omega)) _ | refine Below.drew ?_))
    | true =>
      simp only [show decide (0 ≤ b ∧ b ≤ 3) = true from h2] at hkb
      have HKB := Lib.hid hkb
      clear hka hkb
      have hsk := fun w => sameKind_any a b w
      cases h3 : smK a b with
      | false =>
        simp only [h3] at hsk
        have HSK := Lib.hid hsk
        rw [show resR op a b = (0, 22) by simp [resR, h1, h2, h3, n21, nA, nB]]
        clear hsk h3 h1 h2
        go_enter Try.func24, Try.ntmps24
        go_wp2_with (first
          | (go_at_call 31; refine (HT1.out _).mono ?_; rintro e w' ⟨rfl, rfl⟩)
          | (go_at_call 53; refine (HKA.out _).mono ?_; rintro e w' ⟨rfl, rfl⟩; clear HKA)
          | (go_at_call 53; refine (HKB.out _).mono ?_; rintro e w' ⟨rfl, rfl⟩)
          | (go_at_call 32; refine (HT2.out _).mono ?_; rintro e w' ⟨rfl, rfl⟩)
          | (go_at_call 35; refine (HT3.out _).mono ?_; rintro e w' ⟨rfl, rfl⟩)
          | (go_at_call 56; refine (HSK.out _).mono ?_; rintro e w' ⟨rfl, rfl⟩)
          | (go_at_call 54; refine (kindIf_any _ _ _).mono ?_; rintro e w' ⟨rfl, rfl⟩))
        refine bodyPost_ret (v := .tuple #[.int .i64 0, .int .i64 22]) (by simp [results, Try.results24, go_sem]) rfl ⟨?_, ?_⟩
        · rfl
        · (repeat (first | exact Below.refl _ _ | exact HBW.out | refine bl_al ?_ _ | refine Below.setCell ?_ (by first | omega | (simp; done) | (simp; omega)) _ | refine Below.drew ?_))
      | true =>
        simp only [h3] at hsk
        have HSK := Lib.hid hsk
        rw [show resR op a b = (3, 0) by simp [resR, h1, h2, h3, n21, nA, nB]]
        clear hsk h3 h1 h2
        go_enter Try.func24, Try.ntmps24
        go_wp2_with (first
          | (go_at_call 31; refine (HT1.out _).mono ?_; rintro e w' ⟨rfl, rfl⟩)
          | (go_at_call 53; refine (HKA.out _).mono ?_; rintro e w' ⟨rfl, rfl⟩; clear HKA)
          | (go_at_call 53; refine (HKB.out _).mono ?_; rintro e w' ⟨rfl, rfl⟩)
          | (go_at_call 32; refine (HT2.out _).mono ?_; rintro e w' ⟨rfl, rfl⟩)
          | (go_at_call 35; refine (HT3.out _).mono ?_; rintro e w' ⟨rfl, rfl⟩)
          | (go_at_call 56; refine (HSK.out _).mono ?_; rintro e w' ⟨rfl, rfl⟩)
          | (go_at_call 54; refine (kindIf_any _ _ _).mono ?_; rintro e w' ⟨rfl, rfl⟩))
        refine bodyPost_ret (v := .tuple #[.int .i64 3, .int .i64 0]) (by simp [results, Try.results24, go_sem]) rfl ⟨?_, ?_⟩
        · rfl
        · (repeat (first | exact Below.refl _ _ | exact HBW.out | refine bl_al ?_ _ | refine Below.setCell ?_ (by first | omega | (simp; done) | (simp; omega)) _ | refine Below.drew ?_))
end Go.Proofs.Ytbhilmgpmebaiaa
namespace Go.Proofs.Ytbhilmgpmebaiaa
open Go.RowKit
end Go.Proofs.Ytbhilmgpmebaiaa
