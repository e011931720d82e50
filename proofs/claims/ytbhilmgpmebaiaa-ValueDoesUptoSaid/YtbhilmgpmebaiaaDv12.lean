import Derived.Test.YtbhilmgpmebaiaaDv03
import Derived.Test.YtbhilmgpmebaiaaDv10
namespace Go.Proofs.Ytbhilmgpmebaiaa
open Go.RowKit
theorem mul_key2 {a b n : Int} (h0 : a ≠ 0) (h1 : b ≠ 0) (ha : I64 a) (hb : I64 b) (hn : wrap64 (a * b) = n) :
    (¬ (a = -1 ∧ b = -9223372036854775808) ∧ ¬ (b = -1 ∧ a = -9223372036854775808) ∧ wrap64 (n.tdiv b) = a) ∧ fit (a * b) = (n, 0) ∨ (a = -1 ∧ b = -9223372036854775808 ∨ b = -1 ∧ a = -9223372036854775808 ∨ (¬ (a = -1 ∧ b = -9223372036854775808) ∧ ¬ (b = -1 ∧ a = -9223372036854775808)) ∧ wrap64 (n.tdiv b) ≠ a) ∧ fit (a * b) = (0, 30) := by
  have hn2 : wrap64 (b * a) = n := by rw [Int.mul_comm]; exact hn
  have hk := mul_key h1 hb ha hn2
  rw [Int.mul_comm b a] at hk
  by_cases e1 : a = -1 ∧ b = -9223372036854775808
  · obtain ⟨rfl, rfl⟩ := e1
    exact .inr ⟨.inl ⟨rfl, rfl⟩, by decide⟩
  by_cases e2 : b = -1 ∧ a = -9223372036854775808
  · obtain ⟨rfl, rfl⟩ := e2
    exact .inr ⟨.inr (.inl ⟨rfl, rfl⟩), by decide⟩
  rcases hk with ⟨⟨h2, _⟩, h3⟩ | ⟨h2, h3⟩
  · exact .inl ⟨⟨e1, e2, h2⟩, h3⟩
  · refine .inr ⟨.inr (.inr ⟨⟨e1, e2⟩, ?_⟩), h3⟩
    rcases h2 with h2 | h2
    · exact h2
    · exact absurd h2 e2
set_option maxHeartbeats 1600000 in
theorem product_any (a b : Int) (ha : I64 a) (hb : I64 b) : ∃ n t, (fit (a * b) = if t = true then (n, 0) else (0, 30)) ∧ ∀ w, Calls Try.prog 75 #[.int .i64 a, .int .i64 b] w fun e w' => e = .returned (.tuple #[.int .i64 n, .bool t]) ∧ Below w.heap.size w w' := by
  by_cases h0 : a = 0
  · subst h0
    rw [Int.zero_mul]
    refine ⟨0, true, rfl, fun w => ?_⟩
    go_enter Try.func75, Try.ntmps75
    go_wp2_with fail
    refine bodyPost_ret (v := .tuple #[.int .i64 0, .bool true]) (by simp [results, Try.results75, go_sem]) rfl ⟨rfl, Below.refl _ _⟩
  by_cases h1 : b = 0
  · subst h1
    rw [Int.mul_zero]
    refine ⟨0, true, rfl, fun w => ?_⟩
    go_enter Try.func75, Try.ntmps75
    go_wp2_with fail
    refine bodyPost_ret (v := .tuple #[.int .i64 0, .bool true]) (by simp [results, Try.results75, go_sem]) rfl ⟨rfl, Below.refl _ _⟩
  obtain ⟨n, hn⟩ : ∃ n, wrap64 (a * b) = n := ⟨_, rfl⟩
  have hk := mul_key2 h0 h1 ha hb hn
  have hn' : IntKind.i64.wrap (a * b) = n := by rw [← hn]; exact wrap_eq64 _
  have g0 : (a == 0) = false := beq_false_of_ne h0
  have g1 : (b == 0) = false := beq_false_of_ne h1
  clear ha hb hn
  rcases hk with ⟨⟨e1, e2, e3⟩, hf⟩ | ⟨⟨k1, k2⟩ | ⟨k2, k1⟩ | ⟨⟨e1, e2⟩, e3⟩, hf⟩
  · have HF := Lib.hid hf
    clear hf
    by_cases k1 : a = -1
    · have a1 : (a == -1) = true := beq_iff_eq.2 k1
      have a2 : (b == -9223372036854775808) = false := beq_false_of_ne (fun e => e1 ⟨k1, e⟩)
      by_cases k2 : b = -1
      · have b1 : (b == -1) = true := beq_iff_eq.2 k2
        have b2 : (a == -9223372036854775808) = false := beq_false_of_ne (fun e => e2 ⟨k2, e⟩)
        clear e1 e2 k1 k2
        refine ⟨n, true, by rw [HF.out]; rfl, fun w => ?_⟩
        go_enter Try.func75, Try.ntmps75
        go_wp2_with fail
        go_quiet (fail)
        go_wp2_with fail
        refine bodyPost_ret (v := .tuple #[.int .i64 n, .bool true]) (by simp [results, Try.results75, go_sem]) rfl ⟨rfl, below_drewN (Below.refl _ _) _⟩
      · have b1 : (b == -1) = false := beq_false_of_ne k2
        clear e1 e2 k1 k2
        refine ⟨n, true, by rw [HF.out]; rfl, fun w => ?_⟩
        go_enter Try.func75, Try.ntmps75
        go_wp2_with fail
        go_quiet (fail)
        go_wp2_with fail
        refine bodyPost_ret (v := .tuple #[.int .i64 n, .bool true]) (by simp [results, Try.results75, go_sem]) rfl ⟨rfl, below_drewN (Below.refl _ _) _⟩
    · have a1 : (a == -1) = false := beq_false_of_ne k1
      by_cases k2 : b = -1
      · have b1 : (b == -1) = true := beq_iff_eq.2 k2
        have b2 : (a == -9223372036854775808) = false := beq_false_of_ne (fun e => e2 ⟨k2, e⟩)
        clear e1 e2 k1 k2
        refine ⟨n, true, by rw [HF.out]; rfl, fun w => ?_⟩
        go_enter Try.func75, Try.ntmps75
        go_wp2_with fail
        go_quiet (fail)
        go_wp2_with fail
        refine bodyPost_ret (v := .tuple #[.int .i64 n, .bool true]) (by simp [results, Try.results75, go_sem]) rfl ⟨rfl, below_drewN (Below.refl _ _) _⟩
      · have b1 : (b == -1) = false := beq_false_of_ne k2
        clear e1 e2 k1 k2
        refine ⟨n, true, by rw [HF.out]; rfl, fun w => ?_⟩
        go_enter Try.func75, Try.ntmps75
        go_wp2_with fail
        go_quiet (fail)
        go_wp2_with fail
        refine bodyPost_ret (v := .tuple #[.int .i64 n, .bool true]) (by simp [results, Try.results75, go_sem]) rfl ⟨rfl, below_drewN (Below.refl _ _) _⟩
  · have HF := Lib.hid hf
    have a1 : (a == -1) = true := beq_iff_eq.2 k1
    have a2 : (b == -9223372036854775808) = true := beq_iff_eq.2 k2
    clear hf k1 k2
    refine ⟨n, false, by rw [HF.out]; rfl, fun w => ?_⟩
    go_enter Try.func75, Try.ntmps75
    go_wp2_with fail
    go_quiet (fail)
    go_wp2_with fail
    refine bodyPost_ret (v := .tuple #[.int .i64 n, .bool false]) (by simp [results, Try.results75, go_sem]) rfl ⟨rfl, below_drewN (Below.refl _ _) _⟩
  · have HF := Lib.hid hf
    have a1 : (a == -1) = false := beq_false_of_ne (by omega)
    have b1 : (b == -1) = true := beq_iff_eq.2 k2
    have b2 : (a == -9223372036854775808) = true := beq_iff_eq.2 k1
    clear hf k1 k2
    refine ⟨n, false, by rw [HF.out]; rfl, fun w => ?_⟩
    go_enter Try.func75, Try.ntmps75
    go_wp2_with fail
    go_quiet (fail)
    go_wp2_with fail
    refine bodyPost_ret (v := .tuple #[.int .i64 n, .bool false]) (by simp [results, Try.results75, go_sem]) rfl ⟨rfl, below_drewN (Below.refl _ _) _⟩
  · have HF := Lib.hid hf
    have e4 : (wrap64 (n.tdiv b) == a) = false := beq_false_of_ne e3
    clear hf e3
    by_cases k1 : a = -1
    · have a1 : (a == -1) = true := beq_iff_eq.2 k1
      have a2 : (b == -9223372036854775808) = false := beq_false_of_ne (fun e => e1 ⟨k1, e⟩)
      by_cases k2 : b = -1
      · have b1 : (b == -1) = true := beq_iff_eq.2 k2
        have b2 : (a == -9223372036854775808) = false := beq_false_of_ne (fun e => e2 ⟨k2, e⟩)
        clear e1 e2 k1 k2
        refine ⟨n, false, by rw [HF.out]; rfl, fun w => ?_⟩
        go_enter Try.func75, Try.ntmps75
        go_wp2_with fail
        go_quiet (fail)
        go_wp2_with fail
        refine bodyPost_ret (v := .tuple #[.int .i64 n, .bool false]) (by simp [results, Try.results75, go_sem]) rfl ⟨rfl, below_drewN (Below.refl _ _) _⟩
      · have b1 : (b == -1) = false := beq_false_of_ne k2
        clear e1 e2 k1 k2
        refine ⟨n, false, by rw [HF.out]; rfl, fun w => ?_⟩
        go_enter Try.func75, Try.ntmps75
        go_wp2_with fail
        go_quiet (fail)
        go_wp2_with fail
        refine bodyPost_ret (v := .tuple #[.int .i64 n, .bool false]) (by simp [results, Try.results75, go_sem]) rfl ⟨rfl, below_drewN (Below.refl _ _) _⟩
    · have a1 : (a == -1) = false := beq_false_of_ne k1
      by_cases k2 : b = -1
      · have b1 : (b == -1) = true := beq_iff_eq.2 k2
        have b2 : (a == -9223372036854775808) = false := beq_false_of_ne (fun e => e2 ⟨k2, e⟩)
        clear e1 e2 k1 k2
        refine ⟨n, false, by rw [HF.out]; rfl, fun w => ?_⟩
        go_enter Try.func75, Try.ntmps75
        go_wp2_with fail
        go_quiet (fail)
        go_wp2_with fail
        refine bodyPost_ret (v := .tuple #[.int .i64 n, .bool false]) (by simp [results, Try.results75, go_sem]) rfl ⟨rfl, below_drewN (Below.refl _ _) _⟩
      · have b1 : (b == -1) = false := beq_false_of_ne k2
        clear e1 e2 k1 k2
        refine ⟨n, false, by rw [HF.out]; rfl, fun w => ?_⟩
        go_enter Try.func75, Try.ntmps75
        go_wp2_with fail
        go_quiet (fail)
        go_wp2_with fail
        refine bodyPost_ret (v := .tuple #[.int .i64 n, .bool false]) (by simp [results, Try.results75, go_sem]) rfl ⟨rfl, below_drewN (Below.refl _ _) _⟩

theorem holds_any (op c : Int) (w : World) (ho : 10 ≤ op ∧ op ≤ 15) : Calls Try.prog 45 #[.int .i64 op, .int .i64 c] w fun e w' => e = .returned (.bool (holdK op c)) ∧ w' = w := by
  have h6 : op = 10 ∨ op = 11 ∨ op = 12 ∨ op = 13 ∨ op = 14 ∨ op = 15 := by omega
  rcases h6 with rfl | rfl | rfl | rfl | rfl | rfl
  · rw [show holdK 10 c = decide (c = 0) from rfl]
    by_cases h : c = 0
    · rw [decide_eq_true h]
      subst h
      go_enter Try.func45, Try.ntmps45
      go_wp2_with fail
      go_ret
      exact ⟨rfl, rfl⟩
    · rw [decide_eq_false h]
      have g : (c == 0) = false := beq_false_of_ne h
      go_enter Try.func45, Try.ntmps45
      go_wp2_with fail
      go_ret
      exact ⟨rfl, rfl⟩
  · rw [show holdK 11 c = decide (c ≠ 0) from rfl]
    by_cases h : c ≠ 0
    · rw [decide_eq_true h]
      have g : (c != 0) = true := bne_iff_ne.2 h
      go_enter Try.func45, Try.ntmps45
      go_wp2_with fail
      go_ret
      exact ⟨rfl, rfl⟩
    · rw [decide_eq_false h]
      have g : c = 0 := Classical.not_not.1 h
      subst g
      go_enter Try.func45, Try.ntmps45
      go_wp2_with fail
      go_ret
      exact ⟨rfl, rfl⟩
  · rw [show holdK 12 c = decide (c < 0) from rfl]
    by_cases h : c < 0
    · rw [decide_eq_true h]
      skip
      go_enter Try.func45, Try.ntmps45
      go_wp2_with fail
      go_ret
      exact ⟨rfl, rfl⟩
    · rw [decide_eq_false h]
      have g : decide (c < 0) = false := decide_eq_false h
      go_enter Try.func45, Try.ntmps45
      go_wp2_with fail
      go_ret
      exact ⟨rfl, rfl⟩
  · rw [show holdK 13 c = decide (c ≤ 0) from rfl]
    by_cases h : c ≤ 0
    · rw [decide_eq_true h]
      skip
      go_enter Try.func45, Try.ntmps45
      go_wp2_with fail
      go_ret
      exact ⟨rfl, rfl⟩
    · rw [decide_eq_false h]
      have g : decide (c ≤ 0) = false := decide_eq_false h
      go_enter Try.func45, Try.ntmps45
      go_wp2_with fail
      go_ret
      exact ⟨rfl, rfl⟩
  · rw [show holdK 14 c = decide (0 < c) from rfl]
    by_cases h : 0 < c
    · rw [decide_eq_true h]
      skip
      go_enter Try.func45, Try.ntmps45
      go_wp2_with fail
      go_ret
      exact ⟨rfl, rfl⟩
    · rw [decide_eq_false h]
      have g : decide (0 < c) = false := decide_eq_false h
      go_enter Try.func45, Try.ntmps45
      go_wp2_with fail
      go_ret
      exact ⟨rfl, rfl⟩
  · rw [show holdK 15 c = decide (0 ≤ c) from rfl]
    by_cases h : 0 ≤ c
    · rw [decide_eq_true h]
      skip
      go_enter Try.func45, Try.ntmps45
      go_wp2_with fail
      go_ret
      exact ⟨rfl, rfl⟩
    · rw [decide_eq_false h]
      have g : decide (0 ≤ c) = false := decide_eq_false h
      go_enter Try.func45, Try.ntmps45
      go_wp2_with fail
      go_ret
      exact ⟨rfl, rfl⟩
end Go.Proofs.Ytbhilmgpmebaiaa
namespace Go.Proofs.Ytbhilmgpmebaiaa
open Go.RowKit
def cntR (q : Int × Int) : Val × Int := if q.2 ≠ 0 then (nulV, q.2) else (numV q.1, 0)
theorem cnt_err {e : Int} (h : e ≠ 0) : cntR (0, e) = (nulV, e) := by simp [cntR, h]
theorem cnt_ok (n : Int) : cntR (n, 0) = (numV n, 0) := by simp [cntR]
set_option maxHeartbeats 1600000 in
theorem rcount_5 (a b : Int) (w : World) (ha : I64 a) (hb : I64 b) : Calls Try.prog 44 #[.int .i64 5, .int .i64 a, .int .i64 b] w fun e w' => e = .returned (.tuple #[.agg #[.int .i64 ((cntR (fit (a + b))).1).k, .int .i64 ((cntR (fit (a + b))).1).n, .string (str ((cntR (fit (a + b))).1).s)], .int .i64 (cntR (fit (a + b))).2]) ∧ Below w.heap.size w w' := by
  obtain ⟨n, hn⟩ : ∃ n, wrap64 (a + b) = n := ⟨_, rfl⟩
  obtain ⟨m1, hm1⟩ : ∃ m, wrap64 (9223372036854775807 - b) = m := ⟨_, rfl⟩
  obtain ⟨m2, hm2⟩ : ∃ m, wrap64 (-9223372036854775808 - b) = m := ⟨_, rfl⟩
  have hn' : IntKind.i64.wrap (a + b) = n := by rw [wrap_eq64]; exact hn
  have hm1' : IntKind.i64.wrap (9223372036854775807 - b) = m1 := by rw [wrap_eq64]; exact hm1
  have hm2' : IntKind.i64.wrap (-9223372036854775808 - b) = m2 := by rw [wrap_eq64]; exact hm2
  have HN := Lib.hid hn
  have HM1 := Lib.hid hm1
  have HM2 := Lib.hid hm2
  clear hn hm1 hm2
  have HA := Lib.hid ha
  have HB := Lib.hid hb
  clear ha hb
  by_cases s1 : 0 < b
  · have v1 : m1 = 9223372036854775807 - b := by rw [← HM1.out]; exact w64_in (by have := HB.out; unfold I64 at *; omega)
    have V1 := Lib.hid v1
    clear v1
    by_cases t1 : m1 < a
    · rw [show fit (a + b) = (0, 30) from fit_out (by have := HA.out; have := HB.out; have := V1.out; unfold I64 at *; omega), cnt_err (by decide)]
      go_enter Try.func44, Try.ntmps44
      go_wp2_with (go_at_call 40; refine (rnumber_any _ _).mono ?_; rintro e w' ⟨rfl, rfl⟩)
      refine bodyPost_ret (v := .tuple #[.agg #[.int .i64 0, .int .i64 0, .string ⟨#[]⟩], .int .i64 30]) (by simp [results, Try.results44, go_sem]) rfl ⟨?_, ?_⟩
      · rfl
      · (repeat (first | exact Below.refl _ _ | exact HBW.out | refine bl_al ?_ _ | refine Below.setCell ?_ (by first | omega | (simp; done) | (simp; omega)) _ | refine Below.drew ?_))
    · have hi : I64 (a + b) := by have := HA.out; have := HB.out; have := V1.out; unfold I64 at *; omega
      have v2 : n = a + b := by rw [← HN.out]; exact w64_in hi
      have g1 : decide (m1 < a) = false := decide_eq_false t1
      have g2 : decide (b < 0) = false := decide_eq_false (by omega)
      rw [show fit (a + b) = (n, 0) by rw [v2]; exact fit_in hi, cnt_ok]
      clear hi v2
      go_enter Try.func44, Try.ntmps44
      go_wp2_with (go_at_call 40; refine (rnumber_any _ _).mono ?_; rintro e w' ⟨rfl, rfl⟩)
      refine bodyPost_ret (v := .tuple #[.agg #[.int .i64 1, .int .i64 (n), .string ⟨#[]⟩], .int .i64 0]) (by simp [results, Try.results44, go_sem]) rfl ⟨?_, ?_⟩
      · rfl
      · (repeat (first | exact Below.refl _ _ | exact HBW.out | refine bl_al ?_ _ | refine Below.setCell ?_ (by first | omega | (simp; done) | (simp; omega)) _ | refine Below.drew ?_))
  · have g0 : decide (0 < b) = false := decide_eq_false s1
    by_cases s2 : b < 0
    · have v1 : m2 = -9223372036854775808 - b := by rw [← HM2.out]; exact w64_in (by have := HB.out; unfold I64 at *; omega)
      have V1 := Lib.hid v1
      clear v1
      by_cases t1 : a < m2
      · rw [show fit (a + b) = (0, 30) from fit_out (by have := HA.out; have := HB.out; have := V1.out; unfold I64 at *; omega), cnt_err (by decide)]
        go_enter Try.func44, Try.ntmps44
        go_wp2_with (go_at_call 40; refine (rnumber_any _ _).mono ?_; rintro e w' ⟨rfl, rfl⟩)
        refine bodyPost_ret (v := .tuple #[.agg #[.int .i64 0, .int .i64 0, .string ⟨#[]⟩], .int .i64 30]) (by simp [results, Try.results44, go_sem]) rfl ⟨?_, ?_⟩
        · rfl
        · (repeat (first | exact Below.refl _ _ | exact HBW.out | refine bl_al ?_ _ | refine Below.setCell ?_ (by first | omega | (simp; done) | (simp; omega)) _ | refine Below.drew ?_))
      · have hi : I64 (a + b) := by have := HA.out; have := HB.out; have := V1.out; unfold I64 at *; omega
        have v2 : n = a + b := by rw [← HN.out]; exact w64_in hi
        have g1 : decide (a < m2) = false := decide_eq_false t1
        rw [show fit (a + b) = (n, 0) by rw [v2]; exact fit_in hi, cnt_ok]
        clear hi v2
        go_enter Try.func44, Try.ntmps44
        go_wp2_with (go_at_call 40; refine (rnumber_any _ _).mono ?_; rintro e w' ⟨rfl, rfl⟩)
        refine bodyPost_ret (v := .tuple #[.agg #[.int .i64 1, .int .i64 (n), .string ⟨#[]⟩], .int .i64 0]) (by simp [results, Try.results44, go_sem]) rfl ⟨?_, ?_⟩
        · rfl
        · (repeat (first | exact Below.refl _ _ | exact HBW.out | refine bl_al ?_ _ | refine Below.setCell ?_ (by first | omega | (simp; done) | (simp; omega)) _ | refine Below.drew ?_))
    · have hi : I64 (a + b) := by have := HA.out; have := HB.out; unfold I64 at *; omega
      have v2 : n = a + b := by rw [← HN.out]; exact w64_in hi
      have g1 : decide (b < 0) = false := decide_eq_false s2
      rw [show fit (a + b) = (n, 0) by rw [v2]; exact fit_in hi, cnt_ok]
      clear hi v2
      go_enter Try.func44, Try.ntmps44
      go_wp2_with (go_at_call 40; refine (rnumber_any _ _).mono ?_; rintro e w' ⟨rfl, rfl⟩)
      refine bodyPost_ret (v := .tuple #[.agg #[.int .i64 1, .int .i64 (n), .string ⟨#[]⟩], .int .i64 0]) (by simp [results, Try.results44, go_sem]) rfl ⟨?_, ?_⟩
      · rfl
      · (repeat (first | exact Below.refl _ _ | exact HBW.out | refine bl_al ?_ _ | refine Below.setCell ?_ (by first | omega | (simp; done) | (simp; omega)) _ | refine Below.drew ?_))
set_option maxHeartbeats 1600000 in
theorem rcount_6 (a b : Int) (w : World) (ha : I64 a) (hb : I64 b) : Calls Try.prog 44 #[.int .i64 6, .int .i64 a, .int .i64 b] w fun e w' => e = .returned (.tuple #[.agg #[.int .i64 ((cntR (fit (a - b))).1).k, .int .i64 ((cntR (fit (a - b))).1).n, .string (str ((cntR (fit (a - b))).1).s)], .int .i64 (cntR (fit (a - b))).2]) ∧ Below w.heap.size w w' := by
  obtain ⟨n, hn⟩ : ∃ n, wrap64 (a - b) = n := ⟨_, rfl⟩
  obtain ⟨m1, hm1⟩ : ∃ m, wrap64 (9223372036854775807 + b) = m := ⟨_, rfl⟩
  obtain ⟨m2, hm2⟩ : ∃ m, wrap64 (-9223372036854775808 + b) = m := ⟨_, rfl⟩
  have hn' : IntKind.i64.wrap (a - b) = n := by rw [wrap_eq64]; exact hn
  have hm1' : IntKind.i64.wrap (9223372036854775807 + b) = m1 := by rw [wrap_eq64]; exact hm1
  have hm2' : IntKind.i64.wrap (-9223372036854775808 + b) = m2 := by rw [wrap_eq64]; exact hm2
  have HN := Lib.hid hn
  have HM1 := Lib.hid hm1
  have HM2 := Lib.hid hm2
  clear hn hm1 hm2
  have HA := Lib.hid ha
  have HB := Lib.hid hb
  clear ha hb
  by_cases s1 : b < 0
  · have v1 : m1 = 9223372036854775807 + b := by rw [← HM1.out]; exact w64_in (by have := HB.out; unfold I64 at *; omega)
    have V1 := Lib.hid v1
    clear v1
    by_cases t1 : m1 < a
    · rw [show fit (a - b) = (0, 30) from fit_out (by have := HA.out; have := HB.out; have := V1.out; unfold I64 at *; omega), cnt_err (by decide)]
      go_enter Try.func44, Try.ntmps44
      go_wp2_with (go_at_call 40; refine (rnumber_any _ _).mono ?_; rintro e w' ⟨rfl, rfl⟩)
      refine bodyPost_ret (v := .tuple #[.agg #[.int .i64 0, .int .i64 0, .string ⟨#[]⟩], .int .i64 30]) (by simp [results, Try.results44, go_sem]) rfl ⟨?_, ?_⟩
      · rfl
      · (repeat (first | exact Below.refl _ _ | exact HBW.out | refine bl_al ?_ _ | refine Below.setCell ?_ (by first | omega | (simp; done) | (simp; omega)) _ | refine Below.drew ?_))
    · have hi : I64 (a - b) := by have := HA.out; have := HB.out; have := V1.out; unfold I64 at *; omega
      have v2 : n = a - b := by rw [← HN.out]; exact w64_in hi
      have g1 : decide (m1 < a) = false := decide_eq_false t1
      have g2 : decide (0 < b) = false := decide_eq_false (by omega)
      rw [show fit (a - b) = (n, 0) by rw [v2]; exact fit_in hi, cnt_ok]
      clear hi v2
      go_enter Try.func44, Try.ntmps44
      go_wp2_with (go_at_call 40; refine (rnumber_any _ _).mono ?_; rintro e w' ⟨rfl, rfl⟩)
      refine bodyPost_ret (v := .tuple #[.agg #[.int .i64 1, .int .i64 (n), .string ⟨#[]⟩], .int .i64 0]) (by simp [results, Try.results44, go_sem]) rfl ⟨?_, ?_⟩
      · rfl
      · (repeat (first | exact Below.refl _ _ | exact HBW.out | refine bl_al ?_ _ | refine Below.setCell ?_ (by first | omega | (simp; done) | (simp; omega)) _ | refine Below.drew ?_))
  · have g0 : decide (b < 0) = false := decide_eq_false s1
    by_cases s2 : 0 < b
    · have v1 : m2 = -9223372036854775808 + b := by rw [← HM2.out]; exact w64_in (by have := HB.out; unfold I64 at *; omega)
      have V1 := Lib.hid v1
      clear v1
      by_cases t1 : a < m2
      · rw [show fit (a - b) = (0, 30) from fit_out (by have := HA.out; have := HB.out; have := V1.out; unfold I64 at *; omega), cnt_err (by decide)]
        go_enter Try.func44, Try.ntmps44
        go_wp2_with (go_at_call 40; refine (rnumber_any _ _).mono ?_; rintro e w' ⟨rfl, rfl⟩)
        refine bodyPost_ret (v := .tuple #[.agg #[.int .i64 0, .int .i64 0, .string ⟨#[]⟩], .int .i64 30]) (by simp [results, Try.results44, go_sem]) rfl ⟨?_, ?_⟩
        · rfl
        · (repeat (first | exact Below.refl _ _ | exact HBW.out | refine bl_al ?_ _ | refine Below.setCell ?_ (by first | omega | (simp; done) | (simp; omega)) _ | refine Below.drew ?_))
      · have hi : I64 (a - b) := by have := HA.out; have := HB.out; have := V1.out; unfold I64 at *; omega
        have v2 : n = a - b := by rw [← HN.out]; exact w64_in hi
        have g1 : decide (a < m2) = false := decide_eq_false t1
        rw [show fit (a - b) = (n, 0) by rw [v2]; exact fit_in hi, cnt_ok]
        clear hi v2
        go_enter Try.func44, Try.ntmps44
        go_wp2_with (go_at_call 40; refine (rnumber_any _ _).mono ?_; rintro e w' ⟨rfl, rfl⟩)
        refine bodyPost_ret (v := .tuple #[.agg #[.int .i64 1, .int .i64 (n), .string ⟨#[]⟩], .int .i64 0]) (by simp [results, Try.results44, go_sem]) rfl ⟨?_, ?_⟩
        · rfl
        · (repeat (first | exact Below.refl _ _ | exact HBW.out | refine bl_al ?_ _ | refine Below.setCell ?_ (by first | omega | (simp; done) | (simp; omega)) _ | refine Below.drew ?_))
    · have hi : I64 (a - b) := by have := HA.out; have := HB.out; unfold I64 at *; omega
      have v2 : n = a - b := by rw [← HN.out]; exact w64_in hi
      have g1 : decide (0 < b) = false := decide_eq_false s2
      rw [show fit (a - b) = (n, 0) by rw [v2]; exact fit_in hi, cnt_ok]
      clear hi v2
      go_enter Try.func44, Try.ntmps44
      go_wp2_with (go_at_call 40; refine (rnumber_any _ _).mono ?_; rintro e w' ⟨rfl, rfl⟩)
      refine bodyPost_ret (v := .tuple #[.agg #[.int .i64 1, .int .i64 (n), .string ⟨#[]⟩], .int .i64 0]) (by simp [results, Try.results44, go_sem]) rfl ⟨?_, ?_⟩
      · rfl
      · (repeat (first | exact Below.refl _ _ | exact HBW.out | refine bl_al ?_ _ | refine Below.setCell ?_ (by first | omega | (simp; done) | (simp; omega)) _ | refine Below.drew ?_))
set_option maxHeartbeats 1600000 in
theorem rcount_4 (a b : Int) (w : World) (ha : I64 a) (hb : I64 b) : Calls Try.prog 44 #[.int .i64 4, .int .i64 a, .int .i64 b] w fun e w' => e = .returned (.tuple #[.agg #[.int .i64 ((cntR (fit (0 - a))).1).k, .int .i64 ((cntR (fit (0 - a))).1).n, .string (str ((cntR (fit (0 - a))).1).s)], .int .i64 (cntR (fit (0 - a))).2]) ∧ Below w.heap.size w w' := by
  generalize hR : cntR (fit (0 - a)) = R at *
  have HC := Lib.hid (fun w => hR ▸ rcount_6 0 a w ⟨by decide, by decide⟩ ha)
  clear hR
  go_enter Try.func44, Try.ntmps44
  go_wp2_with (go_at_call 44; refine (HC.out _).mono ?_; rintro e w1 ⟨rfl, hb1⟩; have hz := (hb1.block w.heap.size (by simp)).trans (heap_alloc_new _ _); obtain ⟨z0, z1, z2⟩ := bx_cells hz; obtain ⟨f0, f1, f2⟩ := bx_free hz; have HBW := Lib.hid (bl_tr (bl_al (Below.refl _ _) _) hb1); clear hz hb1)
  refine bodyPost_ret (v := .tuple #[.agg #[.int .i64 R.1.k, .int .i64 R.1.n, .string (str R.1.s)], .int .i64 R.2]) (by simp [results, Try.results44, go_sem, z0, z1, z2]) rfl ⟨rfl, set3_below R.1 HBW.out (Nat.le_refl _)⟩
set_option maxHeartbeats 1600000 in
theorem rcount_7 (a b : Int) (w : World) (ha : I64 a) (hb : I64 b) : Calls Try.prog 44 #[.int .i64 7, .int .i64 a, .int .i64 b] w fun e w' => e = .returned (.tuple #[.agg #[.int .i64 ((cntR (fit (a * b))).1).k, .int .i64 ((cntR (fit (a * b))).1).n, .string (str ((cntR (fit (a * b))).1).s)], .int .i64 (cntR (fit (a * b))).2]) ∧ Below w.heap.size w w' := by
  obtain ⟨n, t, hf, hp⟩ := product_any a b ha hb
  have HP := Lib.hid hp
  clear hp ha hb
  cases t with
  | false =>
    rw [show fit (a * b) = (0, 30) from hf, cnt_err (by decide)]
    clear hf
    go_enter Try.func44, Try.ntmps44
    go_wp2_with (first
      | (go_at_call 75; refine (HP.out _).mono ?_; rintro e w1 ⟨rfl, hb1⟩; have hz := (hb1.block w.heap.size (by simp)).trans (heap_alloc_new _ _); obtain ⟨z0, z1, z2⟩ := bx_cells hz; obtain ⟨f0, f1, f2⟩ := bx_free hz; have hlt := bx_lt hz; have HBW := Lib.hid (bl_tr (bl_al (Below.refl _ _) _) hb1); clear hz hb1)
      | (go_at_call 40; refine (rnumber_any _ _).mono ?_; rintro e w' ⟨rfl, rfl⟩))
    refine bodyPost_ret (v := .tuple #[.agg #[.int .i64 0, .int .i64 0, .string ⟨#[]⟩], .int .i64 30]) (by simp [results, Try.results44, go_sem, hlt, z0, z1, z2]) rfl ⟨?_, ?_⟩
    · rfl
    · (repeat (first | exact Below.refl _ _ | exact HBW.out | refine bl_al ?_ _ | refine Below.setCell ?_ (by first | omega | (simp; done) | (simp; omega)) _ | refine Below.drew ?_))
  | true =>
    rw [show fit (a * b) = (n, 0) from hf, cnt_ok]
    clear hf
    go_enter Try.func44, Try.ntmps44
    go_wp2_with (first
      | (go_at_call 75; refine (HP.out _).mono ?_; rintro e w1 ⟨rfl, hb1⟩; have hz := (hb1.block w.heap.size (by simp)).trans (heap_alloc_new _ _); obtain ⟨z0, z1, z2⟩ := bx_cells hz; obtain ⟨f0, f1, f2⟩ := bx_free hz; have hlt := bx_lt hz; have HBW := Lib.hid (bl_tr (bl_al (Below.refl _ _) _) hb1); clear hz hb1)
      | (go_at_call 40; refine (rnumber_any _ _).mono ?_; rintro e w' ⟨rfl, rfl⟩))
    refine bodyPost_ret (v := .tuple #[.agg #[.int .i64 1, .int .i64 (n), .string ⟨#[]⟩], .int .i64 0]) (by simp [results, Try.results44, go_sem, hlt, z0, z1, z2]) rfl ⟨?_, ?_⟩
    · rfl
    · (repeat (first | exact Below.refl _ _ | exact HBW.out | refine bl_al ?_ _ | refine Below.setCell ?_ (by first | omega | (simp; done) | (simp; omega)) _ | refine Below.drew ?_))
set_option maxHeartbeats 1600000 in
theorem rcount_8 (a b : Int) (w : World) (ha : I64 a) (hb : I64 b) : Calls Try.prog 44 #[.int .i64 8, .int .i64 a, .int .i64 b] w fun e w' => e = .returned (.tuple #[.agg #[.int .i64 ((cntR (dvd a b)).1).k, .int .i64 ((cntR (dvd a b)).1).n, .string (str ((cntR (dvd a b)).1).s)], .int .i64 (cntR (dvd a b)).2]) ∧ Below w.heap.size w w' := by
  by_cases h0 : b = 0
  · subst h0
    rw [show dvd a 0 = (0, 31) from rfl, cnt_err (by decide)]
    go_enter Try.func44, Try.ntmps44
    go_wp2_with (go_at_call 40; refine (rnumber_any _ _).mono ?_; rintro e w' ⟨rfl, rfl⟩)
    refine bodyPost_ret (v := .tuple #[.agg #[.int .i64 0, .int .i64 0, .string ⟨#[]⟩], .int .i64 31]) (by simp [results, Try.results44, go_sem]) rfl ⟨?_, ?_⟩
    · rfl
    · (repeat (first | exact Below.refl _ _ | exact HBW.out | refine bl_al ?_ _ | refine Below.setCell ?_ (by first | omega | (simp; done) | (simp; omega)) _ | refine Below.drew ?_))
  have g0 : (b == 0) = false := beq_false_of_ne h0
  by_cases hm : a = -9223372036854775808 ∧ b = -1
  · obtain ⟨rfl, rfl⟩ := hm
    rw [show dvd (-9223372036854775808) (-1) = (0, 30) by decide, cnt_err (by decide)]
    go_enter Try.func44, Try.ntmps44
    go_wp2_with (go_at_call 40; refine (rnumber_any _ _).mono ?_; rintro e w' ⟨rfl, rfl⟩)
    refine bodyPost_ret (v := .tuple #[.agg #[.int .i64 0, .int .i64 0, .string ⟨#[]⟩], .int .i64 30]) (by simp [results, Try.results44, go_sem]) rfl ⟨?_, ?_⟩
    · rfl
    · (repeat (first | exact Below.refl _ _ | exact HBW.out | refine bl_al ?_ _ | refine Below.setCell ?_ (by first | omega | (simp; done) | (simp; omega)) _ | refine Below.drew ?_))
  have hi := tdiv_in ha hb h0 hm
  rw [show dvd a b = (a.tdiv b, 0) by rw [dvd, if_neg h0, fit_in hi], cnt_ok]
  have hq : wrap64 (a.tdiv b) = a.tdiv b := w64_in hi
  have hq' : IntKind.i64.wrap (a.tdiv b) = a.tdiv b := by rw [wrap_eq64]; exact hq
  clear hi
  by_cases h1 : a = -9223372036854775808
  · have h2 : (b == -1) = false := beq_false_of_ne (fun e => hm ⟨h1, e⟩)
    have h3 : (a == -9223372036854775808) = true := beq_iff_eq.2 h1
    clear hm h1 ha hb
    go_enter Try.func44, Try.ntmps44
    go_wp2_with (go_at_call 40; refine (rnumber_any _ _).mono ?_; rintro e w' ⟨rfl, rfl⟩)
    refine bodyPost_ret (v := .tuple #[.agg #[.int .i64 1, .int .i64 (a.tdiv b), .string ⟨#[]⟩], .int .i64 0]) (by simp [results, Try.results44, go_sem, hq]) rfl ⟨?_, ?_⟩
    · rfl
    · (repeat (first | exact Below.refl _ _ | exact HBW.out | refine bl_al ?_ _ | refine Below.setCell ?_ (by first | omega | (simp; done) | (simp; omega)) _ | refine Below.drew ?_))
  · have h3 : (a == -9223372036854775808) = false := beq_false_of_ne h1
    clear hm h1 ha hb
    go_enter Try.func44, Try.ntmps44
    go_wp2_with (go_at_call 40; refine (rnumber_any _ _).mono ?_; rintro e w' ⟨rfl, rfl⟩)
    refine bodyPost_ret (v := .tuple #[.agg #[.int .i64 1, .int .i64 (a.tdiv b), .string ⟨#[]⟩], .int .i64 0]) (by simp [results, Try.results44, go_sem, hq]) rfl ⟨?_, ?_⟩
    · rfl
    · (repeat (first | exact Below.refl _ _ | exact HBW.out | refine bl_al ?_ _ | refine Below.setCell ?_ (by first | omega | (simp; done) | (simp; omega)) _ | refine Below.drew ?_))
set_option maxHeartbeats 1600000 in
theorem rcount_9 (a b : Int) (w : World) (ha : I64 a) (hb : I64 b) : Calls Try.prog 44 #[.int .i64 9, .int .i64 a, .int .i64 b] w fun e w' => e = .returned (.tuple #[.agg #[.int .i64 ((cntR (rmd a b)).1).k, .int .i64 ((cntR (rmd a b)).1).n, .string (str ((cntR (rmd a b)).1).s)], .int .i64 (cntR (rmd a b)).2]) ∧ Below w.heap.size w w' := by
  by_cases h0 : b = 0
  · subst h0
    rw [show rmd a 0 = (0, 31) from rfl, cnt_err (by decide)]
    go_enter Try.func44, Try.ntmps44
    go_wp2_with (go_at_call 40; refine (rnumber_any _ _).mono ?_; rintro e w' ⟨rfl, rfl⟩)
    refine bodyPost_ret (v := .tuple #[.agg #[.int .i64 0, .int .i64 0, .string ⟨#[]⟩], .int .i64 31]) (by simp [results, Try.results44, go_sem]) rfl ⟨?_, ?_⟩
    · rfl
    · (repeat (first | exact Below.refl _ _ | exact HBW.out | refine bl_al ?_ _ | refine Below.setCell ?_ (by first | omega | (simp; done) | (simp; omega)) _ | refine Below.drew ?_))
  have g0 : (b == 0) = false := beq_false_of_ne h0
  by_cases h1 : b = -1
  · rw [show rmd a b = (0, 0) by rw [rmd, if_neg h0, h1, Int.tmod_neg, Int.tmod_one], cnt_ok]
    have g1 : (b == -1) = true := beq_iff_eq.2 h1
    clear h1 ha hb
    go_enter Try.func44, Try.ntmps44
    go_wp2_with (go_at_call 40; refine (rnumber_any _ _).mono ?_; rintro e w' ⟨rfl, rfl⟩)
    refine bodyPost_ret (v := .tuple #[.agg #[.int .i64 1, .int .i64 (0), .string ⟨#[]⟩], .int .i64 0]) (by simp [results, Try.results44, go_sem]) rfl ⟨?_, ?_⟩
    · rfl
    · (repeat (first | exact Below.refl _ _ | exact HBW.out | refine bl_al ?_ _ | refine Below.setCell ?_ (by first | omega | (simp; done) | (simp; omega)) _ | refine Below.drew ?_))
  · rw [show rmd a b = (a.tmod b, 0) by rw [rmd, if_neg h0], cnt_ok]
    have g1 : (b == -1) = false := beq_false_of_ne h1
    clear h1 ha hb
    go_enter Try.func44, Try.ntmps44
    go_wp2_with (go_at_call 40; refine (rnumber_any _ _).mono ?_; rintro e w' ⟨rfl, rfl⟩)
    refine bodyPost_ret (v := .tuple #[.agg #[.int .i64 1, .int .i64 (a.tmod b), .string ⟨#[]⟩], .int .i64 0]) (by simp [results, Try.results44, go_sem]) rfl ⟨?_, ?_⟩
    · rfl
    · (repeat (first | exact Below.refl _ _ | exact HBW.out | refine bl_al ?_ _ | refine Below.setCell ?_ (by first | omega | (simp; done) | (simp; omega)) _ | refine Below.drew ?_))
end Go.Proofs.Ytbhilmgpmebaiaa
namespace Go.Proofs.Ytbhilmgpmebaiaa
open Go.RowKit
attribute [local go_sem ↓] eql32_eq neq32_eq
theorem nrm_null {a : Val} (h : Nrm a) : a.k = 0 ↔ a = nulV := by
  constructor
  · intro h0
    obtain ⟨k, n, s⟩ := a
    rcases h.2 with h | h | h | h
    · obtain ⟨h1, h2, h3⟩ := h; simp only at h1 h2 h3; subst h1 h2 h3; rfl
    · simp only at h h0; omega
    · simp only at h h0; omega
    · simp only at h h0; omega
  · intro h; rw [h]; rfl
set_option maxRecDepth 100000 in
set_option maxHeartbeats 6400000 in
theorem rboth_17 (a b : Val) (w : World) (ha : Nrm a) (hb : Nrm b) : Calls Try.prog 42 #[.int .i64 17, .agg #[.int .i64 a.k, .int .i64 a.n, .string (str a.s)], .agg #[.int .i64 b.k, .int .i64 b.n, .string (str b.s)]] w fun e w' => e = .returned (.tuple #[.agg #[.int .i64 ((decV false a b).1).k, .int .i64 ((decV false a b).1).n, .string (str ((decV false a b).1).s)], .int .i64 (decV false a b).2]) ∧ Below w.heap.size w w' := by
  have na := nrm_null ha
  have nb := nrm_null hb
  have he := fun u => run_eqT u a false ha.1.1
  have hf := fun u => run_eqT u b false hb.1.1
  simp only [if_neg (show ¬ false = true by decide)] at he hf
  clear ha hb
  by_cases A3 : a.k = 3
  · have oa : okK 3 a.k = true := decide_eq_true (.inl A3)
    have xa : ¬ a = nulV := fun h => by have := na.2 h; omega
    have a1 : (a.k == 0) = false := beq_false_of_ne (by omega)
    by_cases B3 : b.k = 3
    · have ob : okK 3 b.k = true := decide_eq_true (.inl B3)
      have xb : ¬ b = nulV := fun h => by have := nb.2 h; omega
      have b1 : (b.k == 0) = false := beq_false_of_ne (by omega)
      have a0 : (a.k != 3) = false := by simp [A3]
      have b0 : (b.k != 3) = false := by simp [B3]
      by_cases e1 : a = truV false
      · rw [show decV false a b = (truV false, 0) by rw [decV, oa, ob, if_neg (by decide), if_pos (.inl e1)]]
        simp only [decide_eq_true e1] at he
        clear hf na nb A3 B3 oa ob xa xb e1
        go_enter Try.func42, Try.ntmps42
        go_wp2_with (go_at_call 27; refine (rtruth_any _ _).mono ?_; rintro e w' ⟨rfl, rfl⟩)
        refine bodyPost_ret (v := .tuple #[.agg #[.int .i64 3, .int .i64 0, .string ⟨#[]⟩], .int .i64 0]) (by simp [results, Try.results42, go_sem]) rfl ⟨?_, ?_⟩
        · rfl
        · (repeat (first | exact Below.refl _ _ | exact HBW.out | refine bl_al ?_ _ | refine Below.setCell ?_ (by first | omega | (simp; done) | (simp; omega)) _ | refine Below.drew ?_))
      simp only [decide_eq_false e1] at he
      by_cases e2 : b = truV false
      · rw [show decV false a b = (truV false, 0) by rw [decV, oa, ob, if_neg (by decide), if_pos (.inr e2)]]
        simp only [decide_eq_true e2] at hf
        clear na nb A3 B3 oa ob xa xb e1 e2
        go_enter Try.func42, Try.ntmps42
        go_wp2_with (go_at_call 27; refine (rtruth_any _ _).mono ?_; rintro e w' ⟨rfl, rfl⟩)
        refine bodyPost_ret (v := .tuple #[.agg #[.int .i64 3, .int .i64 0, .string ⟨#[]⟩], .int .i64 0]) (by simp [results, Try.results42, go_sem]) rfl ⟨?_, ?_⟩
        · rfl
        · (repeat (first | exact Below.refl _ _ | exact HBW.out | refine bl_al ?_ _ | refine Below.setCell ?_ (by first | omega | (simp; done) | (simp; omega)) _ | refine Below.drew ?_))
      · rw [show decV false a b = (truV (!false), 0) by rw [decV, oa, ob, if_neg (by decide), if_neg (by simp [e1, e2]), if_neg (by simp [xa, xb])]]
        simp only [decide_eq_false e2] at hf
        clear na nb A3 B3 oa ob xa xb e1 e2
        go_enter Try.func42, Try.ntmps42
        go_wp2_with (go_at_call 27; refine (rtruth_any _ _).mono ?_; rintro e w' ⟨rfl, rfl⟩)
        refine bodyPost_ret (v := .tuple #[.agg #[.int .i64 3, .int .i64 1, .string ⟨#[]⟩], .int .i64 0]) (by simp [results, Try.results42, go_sem]) rfl ⟨?_, ?_⟩
        · rfl
        · (repeat (first | exact Below.refl _ _ | exact HBW.out | refine bl_al ?_ _ | refine Below.setCell ?_ (by first | omega | (simp; done) | (simp; omega)) _ | refine Below.drew ?_))
    · have b0 : (b.k != 3) = true := bne_iff_ne.2 B3
      have a0 : (a.k != 3) = false := by simp [A3]
      by_cases B0 : b.k = 0
      · have ob : okK 3 b.k = true := decide_eq_true (.inr B0)
        have xb : b = nulV := nb.1 B0
        have b1 : (b.k != 0) = false := by simp [B0]
        have b2 : (b.k == 0) = true := beq_iff_eq.2 B0
        have e2 : ¬ b = truV false := by rw [xb]; decide
        simp only [decide_eq_false e2] at hf
        by_cases e1 : a = truV false
        · rw [show decV false a b = (truV false, 0) by rw [decV, oa, ob, if_neg (by decide), if_pos (.inl e1)]]
          simp only [decide_eq_true e1] at he
          clear hf na nb A3 B3 B0 oa ob xa xb e1 e2
          go_enter Try.func42, Try.ntmps42
          go_wp2_with (go_at_call 27; refine (rtruth_any _ _).mono ?_; rintro e w' ⟨rfl, rfl⟩)
          refine bodyPost_ret (v := .tuple #[.agg #[.int .i64 3, .int .i64 0, .string ⟨#[]⟩], .int .i64 0]) (by simp [results, Try.results42, go_sem]) rfl ⟨?_, ?_⟩
          · rfl
          · (repeat (first | exact Below.refl _ _ | exact HBW.out | refine bl_al ?_ _ | refine Below.setCell ?_ (by first | omega | (simp; done) | (simp; omega)) _ | refine Below.drew ?_))
        · rw [show decV false a b = (nulV, 0) by rw [decV, oa, ob, if_neg (by decide), if_neg (by simp [e1, e2]), if_pos (.inr xb)]]
          simp only [decide_eq_false e1] at he
          clear na nb A3 B3 B0 oa ob xa xb e1 e2
          go_enter Try.func42, Try.ntmps42
          go_wp2_with (go_at_call 27; refine (rtruth_any _ _).mono ?_; rintro e w' ⟨rfl, rfl⟩)
          refine bodyPost_ret (v := .tuple #[.agg #[.int .i64 0, .int .i64 0, .string ⟨#[]⟩], .int .i64 0]) (by simp [results, Try.results42, go_sem]) rfl ⟨?_, ?_⟩
          · rfl
          · (repeat (first | exact Below.refl _ _ | exact HBW.out | refine bl_al ?_ _ | refine Below.setCell ?_ (by first | omega | (simp; done) | (simp; omega)) _ | refine Below.drew ?_))
      · have ob : okK 3 b.k = false := okK_f B3 B0
        have b1 : (b.k != 0) = true := bne_iff_ne.2 B0
        rw [show decV false a b = (nulV, 22) by rw [decV, oa, ob, if_pos (by rfl)]]
        clear he hf na nb A3 B3 B0 oa ob xa
        go_enter Try.func42, Try.ntmps42
        go_wp2_with (go_at_call 27; refine (rtruth_any _ _).mono ?_; rintro e w' ⟨rfl, rfl⟩)
        refine bodyPost_ret (v := .tuple #[.agg #[.int .i64 0, .int .i64 0, .string ⟨#[]⟩], .int .i64 22]) (by simp [results, Try.results42, go_sem]) rfl ⟨?_, ?_⟩
        · rfl
        · (repeat (first | exact Below.refl _ _ | exact HBW.out | refine bl_al ?_ _ | refine Below.setCell ?_ (by first | omega | (simp; done) | (simp; omega)) _ | refine Below.drew ?_))
  · have a0 : (a.k != 3) = true := bne_iff_ne.2 A3
    by_cases A0 : a.k = 0
    · have oa : okK 3 a.k = true := decide_eq_true (.inr A0)
      have xa : a = nulV := na.1 A0
      have a1 : (a.k != 0) = false := by simp [A0]
      have a2 : (a.k == 0) = true := beq_iff_eq.2 A0
      have e1 : ¬ a = truV false := by rw [xa]; decide
      simp only [decide_eq_false e1] at he
      by_cases B3 : b.k = 3
      · have ob : okK 3 b.k = true := decide_eq_true (.inl B3)
        have b0 : (b.k != 3) = false := by simp [B3]
        by_cases e2 : b = truV false
        · rw [show decV false a b = (truV false, 0) by rw [decV, oa, ob, if_neg (by decide), if_pos (.inr e2)]]
          simp only [decide_eq_true e2] at hf
          clear na nb A3 A0 B3 oa ob xa e1 e2
          go_enter Try.func42, Try.ntmps42
          go_wp2_with (go_at_call 27; refine (rtruth_any _ _).mono ?_; rintro e w' ⟨rfl, rfl⟩)
          refine bodyPost_ret (v := .tuple #[.agg #[.int .i64 3, .int .i64 0, .string ⟨#[]⟩], .int .i64 0]) (by simp [results, Try.results42, go_sem]) rfl ⟨?_, ?_⟩
          · rfl
          · (repeat (first | exact Below.refl _ _ | exact HBW.out | refine bl_al ?_ _ | refine Below.setCell ?_ (by first | omega | (simp; done) | (simp; omega)) _ | refine Below.drew ?_))
        · rw [show decV false a b = (nulV, 0) by rw [decV, oa, ob, if_neg (by decide), if_neg (by simp [e1, e2]), if_pos (.inl xa)]]
          simp only [decide_eq_false e2] at hf
          clear na nb A3 A0 B3 oa ob xa e1 e2
          go_enter Try.func42, Try.ntmps42
          go_wp2_with (go_at_call 27; refine (rtruth_any _ _).mono ?_; rintro e w' ⟨rfl, rfl⟩)
          refine bodyPost_ret (v := .tuple #[.agg #[.int .i64 0, .int .i64 0, .string ⟨#[]⟩], .int .i64 0]) (by simp [results, Try.results42, go_sem]) rfl ⟨?_, ?_⟩
          · rfl
          · (repeat (first | exact Below.refl _ _ | exact HBW.out | refine bl_al ?_ _ | refine Below.setCell ?_ (by first | omega | (simp; done) | (simp; omega)) _ | refine Below.drew ?_))
      · have b0 : (b.k != 3) = true := bne_iff_ne.2 B3
        by_cases B0 : b.k = 0
        · have ob : okK 3 b.k = true := decide_eq_true (.inr B0)
          have b1 : (b.k != 0) = false := by simp [B0]
          have e2 : ¬ b = truV false := by rw [nb.1 B0]; decide
          simp only [decide_eq_false e2] at hf
          rw [show decV false a b = (nulV, 0) by rw [decV, oa, ob, if_neg (by decide), if_neg (by simp [e1, e2]), if_pos (.inl xa)]]
          clear na nb A3 A0 B3 B0 oa ob xa e1 e2
          go_enter Try.func42, Try.ntmps42
          go_wp2_with (go_at_call 27; refine (rtruth_any _ _).mono ?_; rintro e w' ⟨rfl, rfl⟩)
          refine bodyPost_ret (v := .tuple #[.agg #[.int .i64 0, .int .i64 0, .string ⟨#[]⟩], .int .i64 0]) (by simp [results, Try.results42, go_sem]) rfl ⟨?_, ?_⟩
          · rfl
          · (repeat (first | exact Below.refl _ _ | exact HBW.out | refine bl_al ?_ _ | refine Below.setCell ?_ (by first | omega | (simp; done) | (simp; omega)) _ | refine Below.drew ?_))
        · have ob : okK 3 b.k = false := okK_f B3 B0
          have b1 : (b.k != 0) = true := bne_iff_ne.2 B0
          rw [show decV false a b = (nulV, 22) by rw [decV, oa, ob, if_pos (by rfl)]]
          clear he hf na nb A3 A0 B3 B0 oa ob xa e1
          go_enter Try.func42, Try.ntmps42
          go_wp2_with (go_at_call 27; refine (rtruth_any _ _).mono ?_; rintro e w' ⟨rfl, rfl⟩)
          refine bodyPost_ret (v := .tuple #[.agg #[.int .i64 0, .int .i64 0, .string ⟨#[]⟩], .int .i64 22]) (by simp [results, Try.results42, go_sem]) rfl ⟨?_, ?_⟩
          · rfl
          · (repeat (first | exact Below.refl _ _ | exact HBW.out | refine bl_al ?_ _ | refine Below.setCell ?_ (by first | omega | (simp; done) | (simp; omega)) _ | refine Below.drew ?_))
    · have oa : okK 3 a.k = false := okK_f A3 A0
      have a1 : (a.k != 0) = true := bne_iff_ne.2 A0
      rw [show decV false a b = (nulV, 22) by rw [decV, oa, if_pos (by rfl)]]
      clear he hf na nb A3 A0 oa
      go_enter Try.func42, Try.ntmps42
      go_wp2_with (go_at_call 27; refine (rtruth_any _ _).mono ?_; rintro e w' ⟨rfl, rfl⟩)
      refine bodyPost_ret (v := .tuple #[.agg #[.int .i64 0, .int .i64 0, .string ⟨#[]⟩], .int .i64 22]) (by simp [results, Try.results42, go_sem]) rfl ⟨?_, ?_⟩
      · rfl
      · (repeat (first | exact Below.refl _ _ | exact HBW.out | refine bl_al ?_ _ | refine Below.setCell ?_ (by first | omega | (simp; done) | (simp; omega)) _ | refine Below.drew ?_))
end Go.Proofs.Ytbhilmgpmebaiaa
