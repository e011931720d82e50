import Derived.Test.YtbhilmgpmebaiaaTy10
namespace Go.Proofs.Ytbhilmgpmebaiaa
open Go.RowKit
set_option maxHeartbeats 3200000 in
theorem res_4 (a b : Int) (w : World) : Calls Try.prog 24 #[.int .i64 4, .int .i64 a, .int .i64 b] w fun e w' => e = .returned (.tuple #[.int .i64 (resR 4 a a).1, .int .i64 (resR 4 a a).2]) ∧ Below w.heap.size w w' := by
  have ht1 := fun w => takesOne_any 4 w
  have ht2 := fun w => calculates_any 4 w
  have ht3 := fun w => compares_any 4 w
  have hka := fun w => isKind_any a w
  have hkb := fun w => isKind_any a w
  have hf1 : oneOf 4 = true := rfl
  have hf2 : decide (4 ≤ (4 : Int) ∧ (4 : Int) ≤ 9) = true := rfl
  have hf3 : decide (10 ≤ (4 : Int) ∧ (4 : Int) ≤ 15) = false := rfl
  simp only [hf1, hf2, hf3] at ht1 ht2 ht3
  have HT1 := Lib.hid ht1
  have HT2 := Lib.hid ht2
  have HT3 := Lib.hid ht3
  clear ht1 ht2 ht3 hf1 hf2 hf3
  cases h1 : isK a with
  | false =>
    simp only [show decide (0 ≤ a ∧ a ≤ 3) = false from h1] at hka
    have HKA := Lib.hid hka
    rw [show resR 4 a a = (0, 1) by simp [resR, h1]]
    clear hka hkb h1
    go_enter Try.func24, Try.ntmps24
    go_wp2_with (first
      | (go_at_call 31; refine (HT1.out _).mono ?_; rintro e w' ⟨rfl, rfl⟩)
      | (go_at_call 53; refine (HKA.out _).mono ?_; rintro e w' ⟨rfl, rfl⟩))
    refine bodyPost_ret (v := .tuple #[.int .i64 0, .int .i64 1]) (by simp [results, Try.results24, go_sem]) rfl ⟨?_, ?_⟩
    · rfl
    · (repeat (first | exact Below.refl _ _ | exact HBW.out | refine bl_al ?_ _ | refine Below.setCell ?_ (by first | omega | (simp; done) | (simp; omega)) _ | refine Below.drew ?_))
  | true =>
    simp only [show decide (0 ≤ a ∧ a ≤ 3) = true from h1] at hka
    have HKA := Lib.hid hka
    clear hka hkb
    have hao := fun H T w h => allOf2_any 1 a a H T w h
    cases h3 : ok2 1 a a with
    | false =>
      simp only [show (okK 1 a && okK 1 a) = false from h3] at hao
      have HAO := Lib.hid hao
      rw [show resR 4 a a = (0, 22) by simp [resR, h1, h3]]
      clear hao h3 h1
      go_enter Try.func24, Try.ntmps24
      go_wp2_with (first
        | (go_at_call 31; refine (HT1.out _).mono ?_; rintro e w' ⟨rfl, rfl⟩)
        | (go_at_call 53; refine (HKA.out _).mono ?_; rintro e w' ⟨rfl, rfl⟩)
        | (go_at_call 32; refine (HT2.out _).mono ?_; rintro e w' ⟨rfl, rfl⟩)
        | (go_at_call 35; refine (HT3.out _).mono ?_; rintro e w' ⟨rfl, rfl⟩)
        | (go_at_call 55; refine (HAO.out _ _ _ (hp_1 _ _)).mono ?_; rintro e w' ⟨rfl, rfl⟩)
        | (go_at_call 54; refine (kindIf_any _ _ _).mono ?_; rintro e w' ⟨rfl, rfl⟩))
      refine bodyPost_ret (v := .tuple #[.int .i64 0, .int .i64 22]) (by simp [results, Try.results24, go_sem]) rfl ⟨?_, ?_⟩
      · rfl
      · (repeat (first | exact Below.refl _ _ | exact HBW.out | refine bl_al ?_ _ | refine Below.setCell ?_ (by first | omega | (simp; done) | (simp; omega)) _ | refine Below.drew ?_))
    | true =>
      simp only [show (okK 1 a && okK 1 a) = true from h3] at hao
      have HAO := Lib.hid hao
      rw [show resR 4 a a = (1, 0) by simp [resR, h1, h3]]
      clear hao h3 h1
      go_enter Try.func24, Try.ntmps24
      go_wp2_with (first
        | (go_at_call 31; refine (HT1.out _).mono ?_; rintro e w' ⟨rfl, rfl⟩)
        | (go_at_call 53; refine (HKA.out _).mono ?_; rintro e w' ⟨rfl, rfl⟩)
        | (go_at_call 32; refine (HT2.out _).mono ?_; rintro e w' ⟨rfl, rfl⟩)
        | (go_at_call 35; refine (HT3.out _).mono ?_; rintro e w' ⟨rfl, rfl⟩)
        | (go_at_call 55; refine (HAO.out _ _ _ (hp_1 _ _)).mono ?_; rintro e w' ⟨rfl, rfl⟩)
        | (go_at_call 54; refine (kindIf_any _ _ _).mono ?_; rintro e w' ⟨rfl, rfl⟩))
      refine bodyPost_ret (v := .tuple #[.int .i64 1, .int .i64 0]) (by simp [results, Try.results24, go_sem]) rfl ⟨?_, ?_⟩
      · rfl
      · (repeat (first | exact Below.refl _ _ | exact HBW.out | refine bl_al ?_ _ | refine Below.setCell ?_ (by first | omega | (simp; done) | (simp; omega)) _ | refine Below.drew ?_))
set_option maxHeartbeats 3200000 in
theorem res_23 (a b : Int) (w : World) : Calls Try.prog 24 #[.int .i64 23, .int .i64 a, .int .i64 b] w fun e w' => e = .returned (.tuple #[.int .i64 (resR 23 a a).1, .int .i64 (resR 23 a a).2]) ∧ Below w.heap.size w w' := by
  have ht1 := fun w => takesOne_any 23 w
  have ht2 := fun w => calculates_any 23 w
  have ht3 := fun w => compares_any 23 w
  have hka := fun w => isKind_any a w
  have hkb := fun w => isKind_any a w
  have hf1 : oneOf 23 = true := rfl
  have hf2 : decide (4 ≤ (23 : Int) ∧ (23 : Int) ≤ 9) = false := rfl
  have hf3 : decide (10 ≤ (23 : Int) ∧ (23 : Int) ≤ 15) = false := rfl
  simp only [hf1, hf2, hf3] at ht1 ht2 ht3
  have HT1 := Lib.hid ht1
  have HT2 := Lib.hid ht2
  have HT3 := Lib.hid ht3
  clear ht1 ht2 ht3 hf1 hf2 hf3
  cases h1 : isK a with
  | false =>
    simp only [show decide (0 ≤ a ∧ a ≤ 3) = false from h1] at hka
    have HKA := Lib.hid hka
    rw [show resR 23 a a = (0, 1) by simp [resR, h1]]
    clear hka hkb h1
    go_enter Try.func24, Try.ntmps24
    go_wp2_with (first
      | (go_at_call 31; refine (HT1.out _).mono ?_; rintro e w' ⟨rfl, rfl⟩)
      | (go_at_call 53; refine (HKA.out _).mono ?_; rintro e w' ⟨rfl, rfl⟩))
    refine bodyPost_ret (v := .tuple #[.int .i64 0, .int .i64 1]) (by simp [results, Try.results24, go_sem]) rfl ⟨?_, ?_⟩
    · rfl
    · (repeat (first | exact Below.refl _ _ | exact HBW.out | refine bl_al ?_ _ | refine Below.setCell ?_ (by first | omega | (simp; done) | (simp; omega)) _ | refine Below.drew ?_))
  | true =>
    simp only [show decide (0 ≤ a ∧ a ≤ 3) = true from h1] at hka
    have HKA := Lib.hid hka
    clear hka hkb
    have hao := fun H T w h => allOf2_any 1 a a H T w h
    cases h3 : ok2 1 a a with
    | false =>
      simp only [show (okK 1 a && okK 1 a) = false from h3] at hao
      have HAO := Lib.hid hao
      rw [show resR 23 a a = (0, 22) by simp [resR, h1, h3]]
      clear hao h3 h1
      go_enter Try.func24, Try.ntmps24
      go_wp2_with (first
        | (go_at_call 31; refine (HT1.out _).mono ?_; rintro e w' ⟨rfl, rfl⟩)
        | (go_at_call 53; refine (HKA.out _).mono ?_; rintro e w' ⟨rfl, rfl⟩)
        | (go_at_call 32; refine (HT2.out _).mono ?_; rintro e w' ⟨rfl, rfl⟩)
        | (go_at_call 35; refine (HT3.out _).mono ?_; rintro e w' ⟨rfl, rfl⟩)
        | (go_at_call 55; refine (HAO.out _ _ _ (hp_1 _ _)).mono ?_; rintro e w' ⟨rfl, rfl⟩)
        | (go_at_call 54; refine (kindIf_any _ _ _).mono ?_; rintro e w' ⟨rfl, rfl⟩))
      refine bodyPost_ret (v := .tuple #[.int .i64 0, .int .i64 22]) (by simp [results, Try.results24, go_sem]) rfl ⟨?_, ?_⟩
      · rfl
      · (repeat (first | exact Below.refl _ _ | exact HBW.out | refine bl_al ?_ _ | refine Below.setCell ?_ (by first | omega | (simp; done) | (simp; omega)) _ | refine Below.drew ?_))
    | true =>
      simp only [show (okK 1 a && okK 1 a) = true from h3] at hao
      have HAO := Lib.hid hao
      rw [show resR 23 a a = (1, 0) by simp [resR, h1, h3]]
      clear hao h3 h1
      go_enter Try.func24, Try.ntmps24
      go_wp2_with (first
        | (go_at_call 31; refine (HT1.out _).mono ?_; rintro e w' ⟨rfl, rfl⟩)
        | (go_at_call 53; refine (HKA.out _).mono ?_; rintro e w' ⟨rfl, rfl⟩)
        | (go_at_call 32; refine (HT2.out _).mono ?_; rintro e w' ⟨rfl, rfl⟩)
        | (go_at_call 35; refine (HT3.out _).mono ?_; rintro e w' ⟨rfl, rfl⟩)
        | (go_at_call 55; refine (HAO.out _ _ _ (hp_1 _ _)).mono ?_; rintro e w' ⟨rfl, rfl⟩)
        | (go_at_call 54; refine (kindIf_any _ _ _).mono ?_; rintro e w' ⟨rfl, rfl⟩))
      refine bodyPost_ret (v := .tuple #[.int .i64 1, .int .i64 0]) (by simp [results, Try.results24, go_sem]) rfl ⟨?_, ?_⟩
      · rfl
      · (repeat (first | exact Below.refl _ _ | exact HBW.out | refine bl_al ?_ _ | refine Below.setCell ?_ (by first | omega | (simp; done) | (simp; omega)) _ | refine Below.drew ?_))
set_option maxHeartbeats 3200000 in
theorem res_16 (a b : Int) (w : World) : Calls Try.prog 24 #[.int .i64 16, .int .i64 a, .int .i64 b] w fun e w' => e = .returned (.tuple #[.int .i64 (resR 16 a a).1, .int .i64 (resR 16 a a).2]) ∧ Below w.heap.size w w' := by
  have ht1 := fun w => takesOne_any 16 w
  have ht2 := fun w => calculates_any 16 w
  have ht3 := fun w => compares_any 16 w
  have hka := fun w => isKind_any a w
  have hkb := fun w => isKind_any a w
  have hf1 : oneOf 16 = true := rfl
  have hf2 : decide (4 ≤ (16 : Int) ∧ (16 : Int) ≤ 9) = false := rfl
  have hf3 : decide (10 ≤ (16 : Int) ∧ (16 : Int) ≤ 15) = false := rfl
  simp only [hf1, hf2, hf3] at ht1 ht2 ht3
  have HT1 := Lib.hid ht1
  have HT2 := Lib.hid ht2
  have HT3 := Lib.hid ht3
  clear ht1 ht2 ht3 hf1 hf2 hf3
  cases h1 : isK a with
  | false =>
    simp only [show decide (0 ≤ a ∧ a ≤ 3) = false from h1] at hka
    have HKA := Lib.hid hka
    rw [show resR 16 a a = (0, 1) by simp [resR, h1]]
    clear hka hkb h1
    go_enter Try.func24, Try.ntmps24
    go_wp2_with (first
      | (go_at_call 31; refine (HT1.out _).mono ?_; rintro e w' ⟨rfl, rfl⟩)
      | (go_at_call 53; refine (HKA.out _).mono ?_; rintro e w' ⟨rfl, rfl⟩))
    refine bodyPost_ret (v := .tuple #[.int .i64 0, .int .i64 1]) (by simp [results, Try.results24, go_sem]) rfl ⟨?_, ?_⟩
    · rfl
    · (repeat (first | exact Below.refl _ _ | exact HBW.out | refine bl_al ?_ _ | refine Below.setCell ?_ (by first | omega | (simp; done) | (simp; omega)) _ | refine Below.drew ?_))
  | true =>
    simp only [show decide (0 ≤ a ∧ a ≤ 3) = true from h1] at hka
    have HKA := Lib.hid hka
    clear hka hkb
    have hao := fun H T w h => allOf2_any 3 a a H T w h
    cases h3 : ok2 3 a a with
    | false =>
      simp only [show (okK 3 a && okK 3 a) = false from h3] at hao
      have HAO := Lib.hid hao
      rw [show resR 16 a a = (0, 22) by simp [resR, h1, h3]]
      clear hao h3 h1
      go_enter Try.func24, Try.ntmps24
      go_wp2_with (first
        | (go_at_call 31; refine (HT1.out _).mono ?_; rintro e w' ⟨rfl, rfl⟩)
        | (go_at_call 53; refine (HKA.out _).mono ?_; rintro e w' ⟨rfl, rfl⟩)
        | (go_at_call 32; refine (HT2.out _).mono ?_; rintro e w' ⟨rfl, rfl⟩)
        | (go_at_call 35; refine (HT3.out _).mono ?_; rintro e w' ⟨rfl, rfl⟩)
        | (go_at_call 55; refine (HAO.out _ _ _ (hp_1 _ _)).mono ?_; rintro e w' ⟨rfl, rfl⟩)
        | (go_at_call 54; refine (kindIf_any _ _ _).mono ?_; rintro e w' ⟨rfl, rfl⟩))
      refine bodyPost_ret (v := .tuple #[.int .i64 0, .int .i64 22]) (by simp [results, Try.results24, go_sem]) rfl ⟨?_, ?_⟩
      · rfl
      · (repeat (first | exact Below.refl _ _ | exact HBW.out | refine bl_al ?_ _ | refine Below.setCell ?_ (by first | omega | (simp; done) | (simp; omega)) _ | refine Below.drew ?_))
    | true =>
      simp only [show (okK 3 a && okK 3 a) = true from h3] at hao
      have HAO := Lib.hid hao
      rw [show resR 16 a a = (3, 0) by simp [resR, h1, h3]]
      clear hao h3 h1
      go_enter Try.func24, Try.ntmps24
      go_wp2_with (first
        | (go_at_call 31; refine (HT1.out _).mono ?_; rintro e w' ⟨rfl, rfl⟩)
        | (go_at_call 53; refine (HKA.out _).mono ?_; rintro e w' ⟨rfl, rfl⟩)
        | (go_at_call 32; refine (HT2.out _).mono ?_; rintro e w' ⟨rfl, rfl⟩)
        | (go_at_call 35; refine (HT3.out _).mono ?_; rintro e w' ⟨rfl, rfl⟩)
        | (go_at_call 55; refine (HAO.out _ _ _ (hp_1 _ _)).mono ?_; rintro e w' ⟨rfl, rfl⟩)
        | (go_at_call 54; refine (kindIf_any _ _ _).mono ?_; rintro e w' ⟨rfl, rfl⟩))
      refine bodyPost_ret (v := .tuple #[.int .i64 3, .int .i64 0]) (by simp [results, Try.results24, go_sem]) rfl ⟨?_, ?_⟩
      · rfl
      · (repeat (first | exact Below.refl _ _ | exact HBW.out | refine bl_al ?_ _ | refine Below.setCell ?_ (by first | omega | (simp; done) | (simp; omega)) _ | refine Below.drew ?_))
set_option maxHeartbeats 3200000 in
theorem res_17 (a b : Int) (w : World) : Calls Try.prog 24 #[.int .i64 17, .int .i64 a, .int .i64 b] w fun e w' => e = .returned (.tuple #[.int .i64 (resR 17 a b).1, .int .i64 (resR 17 a b).2]) ∧ Below w.heap.size w w' := by
  have ht1 := fun w => takesOne_any 17 w
  have ht2 := fun w => calculates_any 17 w
  have ht3 := fun w => compares_any 17 w
  have hka := fun w => isKind_any a w
  have hkb := fun w => isKind_any b w
  have hf1 : oneOf 17 = false := rfl
  have hf2 : decide (4 ≤ (17 : Int) ∧ (17 : Int) ≤ 9) = false := rfl
  have hf3 : decide (10 ≤ (17 : Int) ∧ (17 : Int) ≤ 15) = false := rfl
  simp only [hf1, hf2, hf3] at ht1 ht2 ht3
  have HT1 := Lib.hid ht1
  have HT2 := Lib.hid ht2
  have HT3 := Lib.hid ht3
  clear ht1 ht2 ht3 hf1 hf2 hf3
  cases h1 : isK a with
  | false =>
    simp only [show decide (0 ≤ a ∧ a ≤ 3) = false from h1] at hka
    have HKA := Lib.hid hka
    rw [show resR 17 a b = (0, 1) by simp [resR, h1]]
    clear hka hkb h1
    go_enter Try.func24, Try.ntmps24
    go_wp2_with (first
      | (go_at_call 31; refine (HT1.out _).mono ?_; rintro e w' ⟨rfl, rfl⟩)
      | (go_at_call 53; refine (HKA.out _).mono ?_; rintro e w' ⟨rfl, rfl⟩))
    refine bodyPost_ret (v := .tuple #[.int .i64 0, .int .i64 1]) (by simp [results, Try.results24, go_sem]) rfl ⟨?_, ?_⟩
    · rfl
    · (repeat (first | exact Below.refl _ _ | exact HBW.out | refine bl_al ?_ _ | refine Below.setCell ?_ (by first | omega | (simp; done) | (simp; omega)) _ | refine Below.drew ?_))
  | true =>
    simp only [show decide (0 ≤ a ∧ a ≤ 3) = true from h1] at hka
    have HKA := Lib.hid hka
    cases h2 : isK b with
    | false =>
      simp only [show decide (0 ≤ b ∧ b ≤ 3) = false from h2] at hkb
      have HKB := Lib.hid hkb
      rw [show resR 17 a b = (0, 1) by simp [resR, h1, h2]]
      clear hka hkb h1 h2
      go_enter Try.func24, Try.ntmps24
      go_wp2_with (first
        | (go_at_call 31; refine (HT1.out _).mono ?_; rintro e w' ⟨rfl, rfl⟩)
        | (go_at_call 53; refine (HKA.out _).mono ?_; rintro e w' ⟨rfl, rfl⟩; clear HKA)
        | (go_at_call 53; refine (HKB.out _).mono ?_; rintro e w' ⟨rfl, rfl⟩))
      refine bodyPost_ret (v := .tuple #[.int .i64 0, .int .i64 1]) (by simp [results, Try.results24, go_sem]) rfl ⟨?_, ?_⟩
      · rfl
      · (repeat (first | exact Below.refl _ _ | exact HBW.out | refine bl_al ?_ _ | refine Below.setCell ?_ (by first | omega | (simp; done) | (simp; omega)) _ | refine Below.drew ?_))
    | true =>
      simp only [show decide (0 ≤ b ∧ b ≤ 3) = true from h2] at hkb
      have HKB := Lib.hid hkb
      clear hka hkb
      have hao := fun H T w h => allOf2_any 3 a b H T w h
      cases h3 : ok2 3 a b with
      | false =>
        simp only [show (okK 3 a && okK 3 b) = false from h3] at hao
        have HAO := Lib.hid hao
        rw [show resR 17 a b = (0, 22) by simp [resR, h1, h2, h3]]
        clear hao h3 h1 h2
        go_enter Try.func24, Try.ntmps24
        go_wp2_with (first
          | (go_at_call 31; refine (HT1.out _).mono ?_; rintro e w' ⟨rfl, rfl⟩)
          | (go_at_call 53; refine (HKA.out _).mono ?_; rintro e w' ⟨rfl, rfl⟩; clear HKA)
          | (go_at_call 53; refine (HKB.out _).mono ?_; rintro e w' ⟨rfl, rfl⟩)
          | (go_at_call 32; refine (HT2.out _).mono ?_; rintro e w' ⟨rfl, rfl⟩)
          | (go_at_call 35; refine (HT3.out _).mono ?_; rintro e w' ⟨rfl, rfl⟩)
          | (go_at_call 55; refine (HAO.out _ _ _ (hp_1 _ _)).mono ?_; rintro e w' ⟨rfl, rfl⟩)
          | (go_at_call 54; refine (kindIf_any _ _ _).mono ?_; rintro e w' ⟨rfl, rfl⟩))
        refine bodyPost_ret (v := .tuple #[.int .i64 0, .int .i64 22]) (by simp [results, Try.results24, go_sem]) rfl ⟨?_, ?_⟩
        · rfl
        · (repeat (first | exact Below.refl _ _ | exact HBW.out | refine bl_al ?_ _ | refine Below.setCell ?_ (by first | omega | (simp; done) | (simp; omega)) _ | refine Below.drew ?_))
      | true =>
        simp only [show (okK 3 a && okK 3 b) = true from h3] at hao
        have HAO := Lib.hid hao
        rw [show resR 17 a b = (3, 0) by simp [resR, h1, h2, h3]]
        clear hao h3 h1 h2
        go_enter Try.func24, Try.ntmps24
        go_wp2_with (first
          | (go_at_call 31; refine (HT1.out _).mono ?_; rintro e w' ⟨rfl, rfl⟩)
          | (go_at_call 53; refine (HKA.out _).mono ?_; rintro e w' ⟨rfl, rfl⟩; clear HKA)
          | (go_at_call 53; refine (HKB.out _).mono ?_; rintro e w' ⟨rfl, rfl⟩)
          | (go_at_call 32; refine (HT2.out _).mono ?_; rintro e w' ⟨rfl, rfl⟩)
          | (go_at_call 35; refine (HT3.out _).mono ?_; rintro e w' ⟨rfl, rfl⟩)
          | (go_at_call 55; refine (HAO.out _ _ _ (hp_1 _ _)).mono ?_; rintro e w' ⟨rfl, rfl⟩)
          | (go_at_call 54; refine (kindIf_any _ _ _).mono ?_; rintro e w' ⟨rfl, rfl⟩))
        refine bodyPost_ret (v := .tuple #[.int .i64 3, .int .i64 0]) (by simp [results, Try.results24, go_sem]) rfl ⟨?_, ?_⟩
        · rfl
        · (repeat (first | exact Below.refl _ _ | exact HBW.out | refine bl_al ?_ _ | refine Below.setCell ?_ (by first | omega | (simp; done) | (simp; omega)) _ | refine Below.drew ?_))
set_option maxHeartbeats 3200000 in
theorem res_18 (a b : Int) (w : World) : Calls Try.prog 24 #[.int .i64 18, .int .i64 a, .int .i64 b] w fun e w' => e = .returned (.tuple #[.int .i64 (resR 18 a b).1, .int .i64 (resR 18 a b).2]) ∧ Below w.heap.size w w' := by
  have ht1 := fun w => takesOne_any 18 w
  have ht2 := fun w => calculates_any 18 w
  have ht3 := fun w => compares_any 18 w
  have hka := fun w => isKind_any a w
  have hkb := fun w => isKind_any b w
  have hf1 : oneOf 18 = false := rfl
  have hf2 : decide (4 ≤ (18 : Int) ∧ (18 : Int) ≤ 9) = false := rfl
  have hf3 : decide (10 ≤ (18 : Int) ∧ (18 : Int) ≤ 15) = false := rfl
  simp only [hf1, hf2, hf3] at ht1 ht2 ht3
  have HT1 := Lib.hid ht1
  have HT2 := Lib.hid ht2
  have HT3 := Lib.hid ht3
  clear ht1 ht2 ht3 hf1 hf2 hf3
  cases h1 : isK a with
  | false =>
    simp only [show decide (0 ≤ a ∧ a ≤ 3) = false from h1] at hka
    have HKA := Lib.hid hka
    rw [show resR 18 a b = (0, 1) by simp [resR, h1]]
    clear hka hkb h1
    go_enter Try.func24, Try.ntmps24
    go_wp2_with (first
      | (go_at_call 31; refine (HT1.out _).mono ?_; rintro e w' ⟨rfl, rfl⟩)
      | (go_at_call 53; refine (HKA.out _).mono ?_; rintro e w' ⟨rfl, rfl⟩))
    refine bodyPost_ret (v := .tuple #[.int .i64 0, .int .i64 1]) (by simp [results, Try.results24, go_sem]) rfl ⟨?_, ?_⟩
    · rfl
    · (repeat (first | exact Below.refl _ _ | exact HBW.out | refine bl_al ?_ _ | refine Below.setCell ?_ (by first | omega | (simp; done) | (simp; omega)) _ | refine Below.drew ?_))
  | true =>
    simp only [show decide (0 ≤ a ∧ a ≤ 3) = true from h1] at hka
    have HKA := Lib.hid hka
    cases h2 : isK b with
    | false =>
      simp only [show decide (0 ≤ b ∧ b ≤ 3) = false from h2] at hkb
      have HKB := Lib.hid hkb
      rw [show resR 18 a b = (0, 1) by simp [resR, h1, h2]]
      clear hka hkb h1 h2
      go_enter Try.func24, Try.ntmps24
      go_wp2_with (first
        | (go_at_call 31; refine (HT1.out _).mono ?_; rintro e w' ⟨rfl, rfl⟩)
        | (go_at_call 53; refine (HKA.out _).mono ?_; rintro e w' ⟨rfl, rfl⟩; clear HKA)
        | (go_at_call 53; refine (HKB.out _).mono ?_; rintro e w' ⟨rfl, rfl⟩))
      refine bodyPost_ret (v := .tuple #[.int .i64 0, .int .i64 1]) (by simp [results, Try.results24, go_sem]) rfl ⟨?_, ?_⟩
      · rfl
      · (repeat (first | exact Below.refl _ _ | exact HBW.out | refine bl_al ?_ _ | refine Below.setCell ?_ (by first | omega | (simp; done) | (simp; omega)) _ | refine Below.drew ?_))
    | true =>
      simp only [show decide (0 ≤ b ∧ b ≤ 3) = true from h2] at hkb
      have HKB := Lib.hid hkb
      clear hka hkb
      have hao := fun H T w h => allOf2_any 3 a b H T w h
      cases h3 : ok2 3 a b with
      | false =>
        simp only [show (okK 3 a && okK 3 b) = false from h3] at hao
        have HAO := Lib.hid hao
        rw [show resR 18 a b = (0, 22) by simp [resR, h1, h2, h3]]
        clear hao h3 h1 h2
        go_enter Try.func24, Try.ntmps24
        go_wp2_with (first
          | (go_at_call 31; refine (HT1.out _).mono ?_; rintro e w' ⟨rfl, rfl⟩)
          | (go_at_call 53; refine (HKA.out _).mono ?_; rintro e w' ⟨rfl, rfl⟩; clear HKA)
          | (go_at_call 53; refine (HKB.out _).mono ?_; rintro e w' ⟨rfl, rfl⟩)
          | (go_at_call 32; refine (HT2.out _).mono ?_; rintro e w' ⟨rfl, rfl⟩)
          | (go_at_call 35; refine (HT3.out _).mono ?_; rintro e w' ⟨rfl, rfl⟩)
          | (go_at_call 55; refine (HAO.out _ _ _ (hp_1 _ _)).mono ?_; rintro e w' ⟨rfl, rfl⟩)
          | (go_at_call 54; refine (kindIf_any _ _ _).mono ?_; rintro e w' ⟨rfl, rfl⟩))
        refine bodyPost_ret (v := .tuple #[.int .i64 0, .int .i64 22]) (by simp [results, Try.results24, go_sem]) rfl ⟨?_, ?_⟩
        · rfl
        · (repeat (first | exact Below.refl _ _ | exact HBW.out | refine bl_al ?_ _ | refine Below.setCell ?_ (by first | omega | (simp; done) | (simp; omega)) _ | refine Below.drew ?_))
      | true =>
        simp only [show (okK 3 a && okK 3 b) = true from h3] at hao
        have HAO := Lib.hid hao
        rw [show resR 18 a b = (3, 0) by simp [resR, h1, h2, h3]]
        clear hao h3 h1 h2
        go_enter Try.func24, Try.ntmps24
        go_wp2_with (first
          | (go_at_call 31; refine (HT1.out _).mono ?_; rintro e w' ⟨rfl, rfl⟩)
          | (go_at_call 53; refine (HKA.out _).mono ?_; rintro e w' ⟨rfl, rfl⟩; clear HKA)
          | (go_at_call 53; refine (HKB.out _).mono ?_; rintro e w' ⟨rfl, rfl⟩)
          | (go_at_call 32; refine (HT2.out _).mono ?_; rintro e w' ⟨rfl, rfl⟩)
          | (go_at_call 35; refine (HT3.out _).mono ?_; rintro e w' ⟨rfl, rfl⟩)
          | (go_at_call 55; refine (HAO.out _ _ _ (hp_1 _ _)).mono ?_; rintro e w' ⟨rfl, rfl⟩)
          | (go_at_call 54; refine (kindIf_any _ _ _).mono ?_; rintro e w' ⟨rfl, rfl⟩))
        refine bodyPost_ret (v := .tuple #[.int .i64 3, .int .i64 0]) (by simp [results, Try.results24, go_sem]) rfl ⟨?_, ?_⟩
        · rfl
        · (repeat (first | exact Below.refl _ _ | exact HBW.out | refine bl_al ?_ _ | refine Below.setCell ?_ (by first | omega | (simp; done) | (simp; omega)) _ | refine Below.drew ?_))
set_option maxHeartbeats 3200000 in
theorem res_19 (a b : Int) (w : World) : Calls Try.prog 24 #[.int .i64 19, .int .i64 a, .int .i64 b] w fun e w' => e = .returned (.tuple #[.int .i64 (resR 19 a a).1, .int .i64 (resR 19 a a).2]) ∧ Below w.heap.size w w' := by
  have ht1 := fun w => takesOne_any 19 w
  have ht2 := fun w => calculates_any 19 w
  have ht3 := fun w => compares_any 19 w
  have hka := fun w => isKind_any a w
  have hkb := fun w => isKind_any a w
  have hf1 : oneOf 19 = true := rfl
  have hf2 : decide (4 ≤ (19 : Int) ∧ (19 : Int) ≤ 9) = false := rfl
  have hf3 : decide (10 ≤ (19 : Int) ∧ (19 : Int) ≤ 15) = false := rfl
  simp only [hf1, hf2, hf3] at ht1 ht2 ht3
  have HT1 := Lib.hid ht1
  have HT2 := Lib.hid ht2
  have HT3 := Lib.hid ht3
  clear ht1 ht2 ht3 hf1 hf2 hf3
  cases h1 : isK a with
  | false =>
    simp only [show decide (0 ≤ a ∧ a ≤ 3) = false from h1] at hka
    have HKA := Lib.hid hka
    rw [show resR 19 a a = (0, 1) by simp [resR, h1]]
    clear hka hkb h1
    go_enter Try.func24, Try.ntmps24
    go_wp2_with (first
      | (go_at_call 31; refine (HT1.out _).mono ?_; rintro e w' ⟨rfl, rfl⟩)
      | (go_at_call 53; refine (HKA.out _).mono ?_; rintro e w' ⟨rfl, rfl⟩))
    refine bodyPost_ret (v := .tuple #[.int .i64 0, .int .i64 1]) (by simp [results, Try.results24, go_sem]) rfl ⟨?_, ?_⟩
    · rfl
    · (repeat (first | exact Below.refl _ _ | exact HBW.out | refine bl_al ?_ _ | refine Below.setCell ?_ (by first | omega | (simp; done) | (simp; omega)) _ | refine Below.drew ?_))
  | true =>
    simp only [show decide (0 ≤ a ∧ a ≤ 3) = true from h1] at hka
    have HKA := Lib.hid hka
    clear hka hkb
    rw [show resR 19 a a = (3, 0) by simp [resR, h1]]
    clear h1
    go_enter Try.func24, Try.ntmps24
    go_wp2_with (first
      | (go_at_call 31; refine (HT1.out _).mono ?_; rintro e w' ⟨rfl, rfl⟩)
      | (go_at_call 53; refine (HKA.out _).mono ?_; rintro e w' ⟨rfl, rfl⟩)
      | (go_at_call 32; refine (HT2.out _).mono ?_; rintro e w' ⟨rfl, rfl⟩)
      | (go_at_call 35; refine (HT3.out _).mono ?_; rintro e w' ⟨rfl, rfl⟩))
    refine bodyPost_ret (v := .tuple #[.int .i64 3, .int .i64 0]) (by simp [results, Try.results24, go_sem]) rfl ⟨?_, ?_⟩
    · rfl
    · (repeat (first | exact Below.refl _ _ | exact HBW.out | refine bl_al ?_ _ | refine Below.setCell ?_ (by first | omega | (simp; done) | (simp; omega)) _ | refine Below.drew ?_))
set_option maxHeartbeats 3200000 in
theorem res_20 (a b : Int) (w : World) : Calls Try.prog 24 #[.int .i64 20, .int .i64 a, .int .i64 b] w fun e w' => e = .returned (.tuple #[.int .i64 (resR 20 a a).1, .int .i64 (resR 20 a a).2]) ∧ Below w.heap.size w w' := by
  have ht1 := fun w => takesOne_any 20 w
  have ht2 := fun w => calculates_any 20 w
  have ht3 := fun w => compares_any 20 w
  have hka := fun w => isKind_any a w
  have hkb := fun w => isKind_any a w
  have hf1 : oneOf 20 = true := rfl
  have hf2 : decide (4 ≤ (20 : Int) ∧ (20 : Int) ≤ 9) = false := rfl
  have hf3 : decide (10 ≤ (20 : Int) ∧ (20 : Int) ≤ 15) = false := rfl
  simp only [hf1, hf2, hf3] at ht1 ht2 ht3
  have HT1 := Lib.hid ht1
  have HT2 := Lib.hid ht2
  have HT3 := Lib.hid ht3
  clear ht1 ht2 ht3 hf1 hf2 hf3
  cases h1 : isK a with
  | false =>
    simp only [show decide (0 ≤ a ∧ a ≤ 3) = false from h1] at hka
    have HKA := Lib.hid hka
    rw [show resR 20 a a = (0, 1) by simp [resR, h1]]
    clear hka hkb h1
    go_enter Try.func24, Try.ntmps24
    go_wp2_with (first
      | (go_at_call 31; refine (HT1.out _).mono ?_; rintro e w' ⟨rfl, rfl⟩)
      | (go_at_call 53; refine (HKA.out _).mono ?_; rintro e w' ⟨rfl, rfl⟩))
    refine bodyPost_ret (v := .tuple #[.int .i64 0, .int .i64 1]) (by simp [results, Try.results24, go_sem]) rfl ⟨?_, ?_⟩
    · rfl
    · (repeat (first | exact Below.refl _ _ | exact HBW.out | refine bl_al ?_ _ | refine Below.setCell ?_ (by first | omega | (simp; done) | (simp; omega)) _ | refine Below.drew ?_))
  | true =>
    simp only [show decide (0 ≤ a ∧ a ≤ 3) = true from h1] at hka
    have HKA := Lib.hid hka
    clear hka hkb
    rw [show resR 20 a a = (3, 0) by simp [resR, h1]]
    clear h1
    go_enter Try.func24, Try.ntmps24
    go_wp2_with (first
      | (go_at_call 31; refine (HT1.out _).mono ?_; rintro e w' ⟨rfl, rfl⟩)
      | (go_at_call 53; refine (HKA.out _).mono ?_; rintro e w' ⟨rfl, rfl⟩)
      | (go_at_call 32; refine (HT2.out _).mono ?_; rintro e w' ⟨rfl, rfl⟩)
      | (go_at_call 35; refine (HT3.out _).mono ?_; rintro e w' ⟨rfl, rfl⟩))
    refine bodyPost_ret (v := .tuple #[.int .i64 3, .int .i64 0]) (by simp [results, Try.results24, go_sem]) rfl ⟨?_, ?_⟩
    · rfl
    · (repeat (first | exact Below.refl _ _ | exact HBW.out | refine bl_al ?_ _ | refine Below.setCell ?_ (by first | omega | (simp; done) | (simp; omega)) _ | refine Below.drew ?_))
set_option maxHeartbeats 3200000 in
theorem res_22 (a b : Int) (w : World) : Calls Try.prog 24 #[.int .i64 22, .int .i64 a, .int .i64 b] w fun e w' => e = .returned (.tuple #[.int .i64 (resR 22 a a).1, .int .i64 (resR 22 a a).2]) ∧ Below w.heap.size w w' := by
  have ht1 := fun w => takesOne_any 22 w
  have ht2 := fun w => calculates_any 22 w
  have ht3 := fun w => compares_any 22 w
  have hka := fun w => isKind_any a w
  have hkb := fun w => isKind_any a w
  have hf1 : oneOf 22 = true := rfl
  have hf2 : decide (4 ≤ (22 : Int) ∧ (22 : Int) ≤ 9) = false := rfl
  have hf3 : decide (10 ≤ (22 : Int) ∧ (22 : Int) ≤ 15) = false := rfl
  simp only [hf1, hf2, hf3] at ht1 ht2 ht3
  have HT1 := Lib.hid ht1
  have HT2 := Lib.hid ht2
  have HT3 := Lib.hid ht3
  clear ht1 ht2 ht3 hf1 hf2 hf3
  cases h1 : isK a with
  | false =>
    simp only [show decide (0 ≤ a ∧ a ≤ 3) = false from h1] at hka
    have HKA := Lib.hid hka
    rw [show resR 22 a a = (0, 1) by simp [resR, h1]]
    clear hka hkb h1
    go_enter Try.func24, Try.ntmps24
    go_wp2_with (first
      | (go_at_call 31; refine (HT1.out _).mono ?_; rintro e w' ⟨rfl, rfl⟩)
      | (go_at_call 53; refine (HKA.out _).mono ?_; rintro e w' ⟨rfl, rfl⟩))
    refine bodyPost_ret (v := .tuple #[.int .i64 0, .int .i64 1]) (by simp [results, Try.results24, go_sem]) rfl ⟨?_, ?_⟩
    · rfl
    · (repeat (first | exact Below.refl _ _ | exact HBW.out | refine bl_al ?_ _ | refine Below.setCell ?_ (by first | omega | (simp; done) | (simp; omega)) _ | refine Below.drew ?_))
  | true =>
    simp only [show decide (0 ≤ a ∧ a ≤ 3) = true from h1] at hka
    have HKA := Lib.hid hka
    clear hka hkb
    rw [show resR 22 a a = (1, 0) by simp [resR, h1]]
    clear h1
    go_enter Try.func24, Try.ntmps24
    go_wp2_with (first
      | (go_at_call 31; refine (HT1.out _).mono ?_; rintro e w' ⟨rfl, rfl⟩)
      | (go_at_call 53; refine (HKA.out _).mono ?_; rintro e w' ⟨rfl, rfl⟩)
      | (go_at_call 32; refine (HT2.out _).mono ?_; rintro e w' ⟨rfl, rfl⟩)
      | (go_at_call 35; refine (HT3.out _).mono ?_; rintro e w' ⟨rfl, rfl⟩))
    refine bodyPost_ret (v := .tuple #[.int .i64 1, .int .i64 0]) (by simp [results, Try.results24, go_sem]) rfl ⟨?_, ?_⟩
    · rfl
    · (repeat (first | exact Below.refl _ _ | exact HBW.out | refine bl_al ?_ _ | refine Below.setCell ?_ (by first | omega | (simp; done) | (simp; omega)) _ | refine Below.drew ?_))
set_option maxHeartbeats 3200000 in
theorem res_24 (a b : Int) (w : World) : Calls Try.prog 24 #[.int .i64 24, .int .i64 a, .int .i64 b] w fun e w' => e = .returned (.tuple #[.int .i64 (resR 24 a a).1, .int .i64 (resR 24 a a).2]) ∧ Below w.heap.size w w' := by
  have ht1 := fun w => takesOne_any 24 w
  have ht2 := fun w => calculates_any 24 w
  have ht3 := fun w => compares_any 24 w
  have hka := fun w => isKind_any a w
  have hkb := fun w => isKind_any a w
  have hf1 : oneOf 24 = true := rfl
  have hf2 : decide (4 ≤ (24 : Int) ∧ (24 : Int) ≤ 9) = false := rfl
  have hf3 : decide (10 ≤ (24 : Int) ∧ (24 : Int) ≤ 15) = false := rfl
  simp only [hf1, hf2, hf3] at ht1 ht2 ht3
  have HT1 := Lib.hid ht1
  have HT2 := Lib.hid ht2
  have HT3 := Lib.hid ht3
  clear ht1 ht2 ht3 hf1 hf2 hf3
  cases h1 : isK a with
  | false =>
    simp only [show decide (0 ≤ a ∧ a ≤ 3) = false from h1] at hka
    have HKA := Lib.hid hka
    rw [show resR 24 a a = (0, 1) by simp [resR, h1]]
    clear hka hkb h1
    go_enter Try.func24, Try.ntmps24
    go_wp2_with (first
      | (go_at_call 31; refine (HT1.out _).mono ?_; rintro e w' ⟨rfl, rfl⟩)
      | (go_at_call 53; refine (HKA.out _).mono ?_; rintro e w' ⟨rfl, rfl⟩))
    refine bodyPost_ret (v := .tuple #[.int .i64 0, .int .i64 1]) (by simp [results, Try.results24, go_sem]) rfl ⟨?_, ?_⟩
    · rfl
    · (repeat (first | exact Below.refl _ _ | exact HBW.out | refine bl_al ?_ _ | refine Below.setCell ?_ (by first | omega | (simp; done) | (simp; omega)) _ | refine Below.drew ?_))
  | true =>
    simp only [show decide (0 ≤ a ∧ a ≤ 3) = true from h1] at hka
    have HKA := Lib.hid hka
    clear hka hkb
    rw [show resR 24 a a = (a, 0) by simp [resR, h1]]
    clear h1
    go_enter Try.func24, Try.ntmps24
    go_wp2_with (first
      | (go_at_call 31; refine (HT1.out _).mono ?_; rintro e w' ⟨rfl, rfl⟩)
      | (go_at_call 53; refine (HKA.out _).mono ?_; rintro e w' ⟨rfl, rfl⟩)
      | (go_at_call 32; refine (HT2.out _).mono ?_; rintro e w' ⟨rfl, rfl⟩)
      | (go_at_call 35; refine (HT3.out _).mono ?_; rintro e w' ⟨rfl, rfl⟩))
    refine bodyPost_ret (v := .tuple #[.int .i64 a, .int .i64 0]) (by simp [results, Try.results24, go_sem]) rfl ⟨?_, ?_⟩
    · rfl
    · (repeat (first | exact Below.refl _ _ | exact HBW.out | refine bl_al ?_ _ | refine Below.setCell ?_ (by first | omega | (simp; done) | (simp; omega)) _ | refine Below.drew ?_))
set_option maxHeartbeats 3200000 in
theorem res_25 (a b : Int) (w : World) : Calls Try.prog 24 #[.int .i64 25, .int .i64 a, .int .i64 b] w fun e w' => e = .returned (.tuple #[.int .i64 (resR 25 a a).1, .int .i64 (resR 25 a a).2]) ∧ Below w.heap.size w w' := by
  have ht1 := fun w => takesOne_any 25 w
  have ht2 := fun w => calculates_any 25 w
  have ht3 := fun w => compares_any 25 w
  have hka := fun w => isKind_any a w
  have hkb := fun w => isKind_any a w
  have hf1 : oneOf 25 = true := rfl
  have hf2 : decide (4 ≤ (25 : Int) ∧ (25 : Int) ≤ 9) = false := rfl
  have hf3 : decide (10 ≤ (25 : Int) ∧ (25 : Int) ≤ 15) = false := rfl
  simp only [hf1, hf2, hf3] at ht1 ht2 ht3
  have HT1 := Lib.hid ht1
  have HT2 := Lib.hid ht2
  have HT3 := Lib.hid ht3
  clear ht1 ht2 ht3 hf1 hf2 hf3
  cases h1 : isK a with
  | false =>
    simp only [show decide (0 ≤ a ∧ a ≤ 3) = false from h1] at hka
    have HKA := Lib.hid hka
    rw [show resR 25 a a = (0, 1) by simp [resR, h1]]
    clear hka hkb h1
    go_enter Try.func24, Try.ntmps24
    go_wp2_with (first
      | (go_at_call 31; refine (HT1.out _).mono ?_; rintro e w' ⟨rfl, rfl⟩)
      | (go_at_call 53; refine (HKA.out _).mono ?_; rintro e w' ⟨rfl, rfl⟩))
    refine bodyPost_ret (v := .tuple #[.int .i64 0, .int .i64 1]) (by simp [results, Try.results24, go_sem]) rfl ⟨?_, ?_⟩
    · rfl
    · (repeat (first | exact Below.refl _ _ | exact HBW.out | refine bl_al ?_ _ | refine Below.setCell ?_ (by first | omega | (simp; done) | (simp; omega)) _ | refine Below.drew ?_))
  | true =>
    simp only [show decide (0 ≤ a ∧ a ≤ 3) = true from h1] at hka
    have HKA := Lib.hid hka
    clear hka hkb
    rw [show resR 25 a a = (a, 0) by simp [resR, h1]]
    clear h1
    go_enter Try.func24, Try.ntmps24
    go_wp2_with (first
      | (go_at_call 31; refine (HT1.out _).mono ?_; rintro e w' ⟨rfl, rfl⟩)
      | (go_at_call 53; refine (HKA.out _).mono ?_; rintro e w' ⟨rfl, rfl⟩)
      | (go_at_call 32; refine (HT2.out _).mono ?_; rintro e w' ⟨rfl, rfl⟩)
      | (go_at_call 35; refine (HT3.out _).mono ?_; rintro e w' ⟨rfl, rfl⟩))
    refine bodyPost_ret (v := .tuple #[.int .i64 a, .int .i64 0]) (by simp [results, Try.results24, go_sem]) rfl ⟨?_, ?_⟩
    · rfl
    · (repeat (first | exact Below.refl _ _ | exact HBW.out | refine bl_al ?_ _ | refine Below.setCell ?_ (by first | omega | (simp; done) | (simp; omega)) _ | refine Below.drew ?_))
theorem result_any (op a b : Int) (w : World) : Calls Try.prog 24 #[.int .i64 op, .int .i64 a, .int .i64 b] w fun e w' => e = .returned (.tuple #[.int .i64 (resR op a (if oneOf op = true then a else b)).1, .int .i64 (resR op a (if oneOf op = true then a else b)).2]) ∧ Below w.heap.size w w' := by
  by_cases h5 : 5 ≤ op ∧ op ≤ 9
  · rw [show oneOf op = false from decide_eq_false (by omega)]
    exact res_calc op h5 a b w
  by_cases h10 : 10 ≤ op ∧ op ≤ 15
  · rw [show oneOf op = false from decide_eq_false (by omega)]
    exact res_comp op h10 a b w
  by_cases ho : 4 ≤ op ∧ op ≤ 25
  · have h17 : op = 4 ∨ op = 16 ∨ op = 17 ∨ op = 18 ∨ op = 19 ∨ op = 20 ∨ op = 21 ∨ op = 22 ∨ op = 23 ∨ op = 24 ∨ op = 25 := by omega
    rcases h17 with rfl | rfl | rfl | rfl | rfl | rfl | rfl | rfl | rfl | rfl | rfl
    · exact res_4 a b w
    · exact res_16 a b w
    · exact res_17 a b w
    · exact res_18 a b w
    · exact res_19 a b w
    · exact res_20 a b w
    · exact (res_21 a b w).mono fun e w' h => ⟨h.1, h.2 ▸ Below.refl _ _⟩
    · exact res_22 a b w
    · exact res_23 a b w
    · exact res_24 a b w
    · exact res_25 a b w
  · rw [show oneOf op = false from decide_eq_false (by omega)]
    exact res_else op ho a b w
end Go.Proofs.Ytbhilmgpmebaiaa
namespace Go.Proofs.Ytbhilmgpmebaiaa
open Go.RowKit
def someV (l : List Val) : List Val := (l.map normV).filter fun v => decide (v ≠ nulV)
theorem someV_take {l : List Val} {k : Nat} {x : Val} (h : l[k]? = some x) : someV (l.take (k + 1)) = someV (l.take k) ++ (if normV x = nulV then [] else [normV x]) := by
  rw [take_succ_vs l k x h]
  simp only [someV, List.map_append, List.filter_append, List.map_cons, List.map_nil]
  by_cases hn : normV x = nulV <;> simp [hn]
theorem someV_len (l : List Val) : (someV l).length ≤ l.length := by
  unfold someV; exact Nat.le_trans (List.length_filter_le _ _) (by simp)
theorem someV_ok {l : List Val} (h : ∀ x ∈ l, x.OK) : ∀ x ∈ someV l, Nrm x := by
  intro x hx
  obtain ⟨h1, _⟩ := List.mem_filter.1 hx
  obtain ⟨y, hy, rfl⟩ := List.mem_map.1 h1
  exact nrm_norm (h y hy)
set_option maxRecDepth 100000 in
set_option maxHeartbeats 6400000 in
theorem notNull_any (v : Value) (l : List Val) (w : World) (hv : Rw w v l) (ho : ∀ x ∈ l, x.OK) (hl : l.length ≤ 1073741824) :
    Calls Try.prog 78 #[v] w fun e w' => ∃ v', e = .returned v' ∧ OwnR w' w.heap.size v' (someV l) ∧ Below w.heap.size w w' := by
  obtain ⟨i0, hi, hz0, hz1, hz2⟩ := info_parts info32
  have hz := zero32
  obtain ⟨a, cap, rfl, hcap, hcells⟩ := hv
  have HC := Lib.hid hcells
  have HOK := Lib.hid ho
  clear hcells ho
  generalize hn : l.length = n at *
  have HN := Lib.hid hn
  clear hn
  go_enter Try.func78, Try.ntmps78
  go_wp2_with fail
  go_loopw [3, 8] (fun v3 i wr => ∃ (k : Nat) (vs : List Val), k ≤ n ∧ i = .int .i64 k ∧ OwnR wr w.heap.size v3 vs ∧ Below w.heap.size w wr ∧ Hid (vs = someV (l.take k)) ∧ vs.length ≤ k) (fun _ i _ => n - (intOf i).toNat)
  case atStart => exact ⟨0, [], Nat.zero_le _, rfl, OwnR.nil _ _, Below.refl _ _, Lib.hid rfl, by simp⟩
  case round =>
    obtain ⟨k, vs, hk, rfl, hown, hbw, hti, hvk⟩ := hrel
    have hsz := hbw.size
    have HOW := Lib.hid hown
    have HBW := Lib.hid hbw
    clear hbw hown
    by_cases hlt : k < n
    · obtain ⟨b, off, rfl, hb, hce⟩ := HC.out (by omega)
      obtain ⟨x, hx⟩ : ∃ x, l[k]? = some x := ⟨_, List.getElem?_eq_getElem (by rw [HN.out]; exact hlt)⟩
      obtain ⟨p0, p1, p2⟩ := hce k x hx
      replace p0 := (HBW.out.cell (p := ⟨b, off + k * 3, none⟩) hb).trans p0
      replace p1 := (HBW.out.cell (p := ⟨b, off + k * 3 + 1, none⟩) hb).trans p1
      replace p2 := (HBW.out.cell (p := ⟨b, off + k * 3 + 2, none⟩) hb).trans p2
      have HTI := Lib.hid (someV_take hx)
      have HNUL := fun w => isNull_any (normV x) w (norm_rng (HOK.out x (List.mem_of_getElem? hx)).1)
      have hbr : b < wr.heap.size := by omega
      have hcn : (n : Int) ≤ (cap : Int) := by omega
      clear hce hx
      by_cases hxn : normV x = nulV
      · rw [if_pos hxn, List.append_nil] at HTI
        simp only [decide_eq_true hxn] at HNUL
        replace HNUL := Lib.hid HNUL
        clear hxn
        go_wp2_with (first
          | (go_at_call 30; refine (plain_any x _).mono ?_; rintro e w1 ⟨rfl, hb1⟩; have hx1 := (hb1.block wr.heap.size (by simp)).trans (heap_alloc_new _ _); obtain ⟨c0, c1, c2⟩ := bx_cells hx1; obtain ⟨f0, f1, f2⟩ := bx_free hx1; have hl1 := bx_lt hx1; have HW1 := Lib.hid (set3_below (H := wr.heap.size) (normV x) (bl_tr (bl_al (Below.refl wr.heap.size wr) _) hb1) (Nat.le_refl _)); have HO1 := Lib.hid (own_below HOW.out HW1.out (Nat.le_refl _)); clear hb1 hx1)
          | (go_at_call 65; refine (HNUL.out _).mono ?_; rintro e w' ⟨rfl, rfl⟩))
        go_roundw
        case rel =>
          refine ⟨k + 1, vs, by omega, by go_num, ?_, ?_, Lib.hid (hti.out.trans HTI.out.symm), by omega⟩
          · exact HO1.out.alloc _
          · exact (HBW.out.trans (HW1.out.mono hsz)).alloc (by have := HW1.out.size; omega) _
        case measure => simp [intOf]; omega
      · rw [if_neg hxn] at HTI
        simp only [decide_eq_false hxn] at HNUL
        replace HNUL := Lib.hid HNUL
        clear hxn
        go_wp2_with (first
          | (go_at_call 30; refine (plain_any x _).mono ?_; rintro e w1 ⟨rfl, hb1⟩; have hx1 := (hb1.block wr.heap.size (by simp)).trans (heap_alloc_new _ _); obtain ⟨c0, c1, c2⟩ := bx_cells hx1; obtain ⟨f0, f1, f2⟩ := bx_free hx1; have hl1 := bx_lt hx1; have HW1 := Lib.hid (set3_below (H := wr.heap.size) (normV x) (bl_tr (bl_al (Below.refl wr.heap.size wr) _) hb1) (Nat.le_refl _)); have HO1 := Lib.hid (own_below HOW.out HW1.out (Nat.le_refl _)); clear hb1 hx1)
          | (go_at_call 65; refine (HNUL.out _).mono ?_; rintro e w' ⟨rfl, rfl⟩)
          | (at_builtin; refine wpList_append_own _ rfl (Operand.tmp 17) (Operand.tmp 19) 29 rfl w.heap.size 23 i0 _ 3 32 Try.underlying29 hi hz0 hz1 hz2 rfl (by decide) _ _ _ rfl ((HO1.out.alloc _).alloc _) ⟨w1.heap.size + 1, 0, none⟩ 1 1 (vcells (normV x)) rfl rfl (cells_three_new _ _ _ _ _ (by simp)) (by intro u hu; simp [vcells] at hu; rcases hu with rfl | rfl | rfl <;> rfl) (by unfold maxLen; omega) (by omega) (by simp; omega) ?_; intro v2 w2 hown2 hg2 _; have HO2 := Lib.hid hown2; have HG2 := Lib.hid hg2; clear hown2 hg2))
        go_roundw
        case rel =>
          refine ⟨k + 1, vs ++ [normV x], by omega, by go_num, ?_, ?_, Lib.hid (by rw [hti.out]; exact HTI.out.symm), by simp; omega⟩
          · have := HO2.out
            unfold OwnR
            rw [List.length_append, List.flatMap_append, List.flatMap_singleton]
            exact this
          · have hs1 := HW1.out.size
            exact (((HBW.out.trans (HW1.out.mono hsz)).alloc (by omega) _).alloc (by simp; omega) _).grown HG2.out (by simp; omega) (fun g hg => (HO1.out.lt g hg).1)
        case measure => simp [intOf]; omega
    · have hkn : k = n := by omega
      subst hkn
      have HF := Lib.hid (hti.out.trans (by rw [List.take_of_length_le (by rw [HN.out]; exact Nat.le_refl _)]))
      clear hti hlt
      go_wp2_with fail
      go_ret
      exact ⟨_, rfl, HF.out ▸ HOW.out, HBW.out⟩
end Go.Proofs.Ytbhilmgpmebaiaa
