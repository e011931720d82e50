import Derived.Test.YtbhilmgpmebaiaaTy02
namespace Go.Proofs.Ytbhilmgpmebaiaa
open Go.RowKit
theorem hp_4 (w : World) (a b c d : Obj) : ((((w.alloc a).alloc b).alloc c).alloc d).heap[w.heap.size + 1 + 1 + 1]? = some d := by
  have := heap_alloc_new (((w.alloc a).alloc b).alloc c) d
  simpa using this
def ofR (a b : Val) (q : Int × Int) : Val × Int := if (okK 1 a.k && okK 1 b.k) = false then (nulV, 22) else if a = nulV ∨ b = nulV then (nulV, 0) else if q.2 ≠ 0 then (nulV, q.2) else (numV q.1, 0)
set_option maxHeartbeats 1600000 in
theorem calcOf_add (a b : Val) (w : World) (q : Int × Int) (ha : Rng a.s) (hb : Rng b.s) (hq : ∀ w, Calls Try.prog 61 #[.int .i64 a.n, .int .i64 b.n] w fun e w' => e = .returned (.tuple #[.int .i64 q.1, .int .i64 q.2]) ∧ w' = w) :
    Calls Try.prog 34 #[.func (.func 61) #[] #[], .agg #[.int .i64 a.k, .int .i64 a.n, .string (str a.s)], .agg #[.int .i64 b.k, .int .i64 b.n, .string (str b.s)]] w fun e w' => e = .returned (.tuple #[.agg #[.int .i64 ((ofR a b q).1).k, .int .i64 ((ofR a b q).1).n, .string (str ((ofR a b q).1).s)], .int .i64 (ofR a b q).2]) ∧ Below w.heap.size w w' := by
  obtain ⟨q1, q2⟩ := q
  have HQ := Lib.hid hq
  have HA := fun H T w h => allOf2_any 1 a.k b.k H T w h
  have HNA := fun w => isNull_any a w ha
  have HNB := fun w => isNull_any b w hb
  clear hq
  cases hok : (okK 1 a.k && okK 1 b.k) with
  | false =>
    simp only [hok] at HA
    replace HA := Lib.hid HA
    rw [show ofR a b (q1, q2) = (nulV, 22) by rw [ofR, if_pos hok]]
    clear hok HNA HNB
    go_enter Try.func34, Try.ntmps34
    go_wp2_with (first
      | (go_at_call 55; refine (HA.out _ _ _ (hp_4 _ _ _ _ _)).mono ?_; rintro e w' ⟨rfl, rfl⟩))
    refine bodyPost_ret (v := .tuple #[.agg #[.int .i64 0, .int .i64 0, .string ⟨#[]⟩], .int .i64 22]) (by simp [results, Try.results34, go_sem]) rfl ⟨?_, ?_⟩
    · rfl
    · (repeat (first | exact Below.refl _ _ | refine bl_al ?_ _ | refine Below.setCell ?_ (by first | omega | (simp; done) | (simp; omega)) _))
  | true =>
    simp only [hok] at HA
    replace HA := Lib.hid HA
    by_cases na : a = nulV
    · rw [show ofR a b (q1, q2) = (nulV, 0) by rw [ofR, hok, if_neg (by decide), if_pos (.inl na)]]
      simp only [decide_eq_true na] at HNA
      replace HNA := Lib.hid HNA
      clear hok HNB na
      go_enter Try.func34, Try.ntmps34
      go_wp2_with (first
        | (go_at_call 55; refine (HA.out _ _ _ (hp_4 _ _ _ _ _)).mono ?_; rintro e w' ⟨rfl, rfl⟩)
        | (go_at_call 65; refine (HNA.out _).mono ?_; rintro e w' ⟨rfl, rfl⟩))
      refine bodyPost_ret (v := .tuple #[.agg #[.int .i64 0, .int .i64 0, .string ⟨#[]⟩], .int .i64 0]) (by simp [results, Try.results34, go_sem]) rfl ⟨?_, ?_⟩
      · rfl
      · (repeat (first | exact Below.refl _ _ | refine bl_al ?_ _ | refine Below.setCell ?_ (by first | omega | (simp; done) | (simp; omega)) _))
    simp only [decide_eq_false na] at HNA
    replace HNA := Lib.hid HNA
    by_cases nb : b = nulV
    · rw [show ofR a b (q1, q2) = (nulV, 0) by rw [ofR, hok, if_neg (by decide), if_pos (.inr nb)]]
      simp only [decide_eq_true nb] at HNB
      replace HNB := Lib.hid HNB
      clear hok na nb
      go_enter Try.func34, Try.ntmps34
      go_wp2_with (first
        | (go_at_call 55; refine (HA.out _ _ _ (hp_4 _ _ _ _ _)).mono ?_; rintro e w' ⟨rfl, rfl⟩)
        | (go_at_call 65; refine (HNA.out _).mono ?_; rintro e w' ⟨rfl, rfl⟩; clear HNA)
        | (go_at_call 65; refine (HNB.out _).mono ?_; rintro e w' ⟨rfl, rfl⟩))
      refine bodyPost_ret (v := .tuple #[.agg #[.int .i64 0, .int .i64 0, .string ⟨#[]⟩], .int .i64 0]) (by simp [results, Try.results34, go_sem]) rfl ⟨?_, ?_⟩
      · rfl
      · (repeat (first | exact Below.refl _ _ | refine bl_al ?_ _ | refine Below.setCell ?_ (by first | omega | (simp; done) | (simp; omega)) _))
    simp only [decide_eq_false nb] at HNB
    replace HNB := Lib.hid HNB
    by_cases n2 : q2 = 0
    · subst n2
      rw [show ofR a b (q1, 0) = (numV q1, 0) by rw [ofR, hok, if_neg (by decide), if_neg (by simp [na, nb]), if_neg (by simp)]]
      clear hok na nb
      go_enter Try.func34, Try.ntmps34
      go_wp2_with (first
        | (go_at_call 55; refine (HA.out _ _ _ (hp_4 _ _ _ _ _)).mono ?_; rintro e w' ⟨rfl, rfl⟩)
        | (go_at_call 65; refine (HNA.out _).mono ?_; rintro e w' ⟨rfl, rfl⟩; clear HNA)
        | (go_at_call 65; refine (HNB.out _).mono ?_; rintro e w' ⟨rfl, rfl⟩)
        | (go_at_call 61; refine (HQ.out _).mono ?_; rintro e w' ⟨rfl, rfl⟩)
        | (go_at_call 57; refine (integer_any _ _).mono ?_; rintro e w' ⟨rfl, rfl⟩))
      refine bodyPost_ret (v := .tuple #[.agg #[.int .i64 1, .int .i64 q1, .string ⟨#[]⟩], .int .i64 0]) (by simp [results, Try.results34, go_sem]) rfl ⟨?_, ?_⟩
      · rfl
      · (repeat (first | exact Below.refl _ _ | refine bl_al ?_ _ | refine Below.setCell ?_ (by first | omega | (simp; done) | (simp; omega)) _))
    · rw [show ofR a b (q1, q2) = (nulV, q2) by rw [ofR, hok, if_neg (by decide), if_neg (by simp [na, nb]), if_pos n2]]
      have g : (q2 != 0) = true := bne_iff_ne.2 n2
      clear hok na nb
      go_enter Try.func34, Try.ntmps34
      go_wp2_with (first
        | (go_at_call 55; refine (HA.out _ _ _ (hp_4 _ _ _ _ _)).mono ?_; rintro e w' ⟨rfl, rfl⟩)
        | (go_at_call 65; refine (HNA.out _).mono ?_; rintro e w' ⟨rfl, rfl⟩; clear HNA)
        | (go_at_call 65; refine (HNB.out _).mono ?_; rintro e w' ⟨rfl, rfl⟩)
        | (go_at_call 61; refine (HQ.out _).mono ?_; rintro e w' ⟨rfl, rfl⟩))
      refine bodyPost_ret (v := .tuple #[.agg #[.int .i64 0, .int .i64 0, .string ⟨#[]⟩], .int .i64 q2]) (by simp [results, Try.results34, go_sem]) rfl ⟨?_, ?_⟩
      · rfl
      · (repeat (first | exact Below.refl _ _ | refine bl_al ?_ _ | refine Below.setCell ?_ (by first | omega | (simp; done) | (simp; omega)) _))
set_option maxHeartbeats 1600000 in
theorem calcOf_subtract (a b : Val) (w : World) (q : Int × Int) (ha : Rng a.s) (hb : Rng b.s) (hq : ∀ w, Calls Try.prog 60 #[.int .i64 a.n, .int .i64 b.n] w fun e w' => e = .returned (.tuple #[.int .i64 q.1, .int .i64 q.2]) ∧ w' = w) :
    Calls Try.prog 34 #[.func (.func 60) #[] #[], .agg #[.int .i64 a.k, .int .i64 a.n, .string (str a.s)], .agg #[.int .i64 b.k, .int .i64 b.n, .string (str b.s)]] w fun e w' => e = .returned (.tuple #[.agg #[.int .i64 ((ofR a b q).1).k, .int .i64 ((ofR a b q).1).n, .string (str ((ofR a b q).1).s)], .int .i64 (ofR a b q).2]) ∧ Below w.heap.size w w' := by
  obtain ⟨q1, q2⟩ := q
  have HQ := Lib.hid hq
  have HA := fun H T w h => allOf2_any 1 a.k b.k H T w h
  have HNA := fun w => isNull_any a w ha
  have HNB := fun w => isNull_any b w hb
  clear hq
  cases hok : (okK 1 a.k && okK 1 b.k) with
  | false =>
    simp only [hok] at HA
    replace HA := Lib.hid HA
    rw [show ofR a b (q1, q2) = (nulV, 22) by rw [ofR, if_pos hok]]
    clear hok HNA HNB
    go_enter Try.func34, Try.ntmps34
    go_wp2_with (first
      | (go_at_call 55; refine (HA.out _ _ _ (hp_4 _ _ _ _ _)).mono ?_; rintro e w' ⟨rfl, rfl⟩))
    refine bodyPost_ret (v := .tuple #[.agg #[.int .i64 0, .int .i64 0, .string ⟨#[]⟩], .int .i64 22]) (by simp [results, Try.results34, go_sem]) rfl ⟨?_, ?_⟩
    · rfl
    · (repeat (first | exact Below.refl _ _ | refine bl_al ?_ _ | refine Below.setCell ?_ (by first | omega | (simp; done) | (simp; omega)) _))
  | true =>
    simp only [hok] at HA
    replace HA := Lib.hid HA
    by_cases na : a = nulV
    · rw [show ofR a b (q1, q2) = (nulV, 0) by rw [ofR, hok, if_neg (by decide), if_pos (.inl na)]]
      simp only [decide_eq_true na] at HNA
      replace HNA := Lib.hid HNA
      clear hok HNB na
      go_enter Try.func34, Try.ntmps34
      go_wp2_with (first
        | (go_at_call 55; refine (HA.out _ _ _ (hp_4 _ _ _ _ _)).mono ?_; rintro e w' ⟨rfl, rfl⟩)
        | (go_at_call 65; refine (HNA.out _).mono ?_; rintro e w' ⟨rfl, rfl⟩))
      refine bodyPost_ret (v := .tuple #[.agg #[.int .i64 0, .int .i64 0, .string ⟨#[]⟩], .int .i64 0]) (by simp [results, Try.results34, go_sem]) rfl ⟨?_, ?_⟩
      · rfl
      · (repeat (first | exact Below.refl _ _ | refine bl_al ?_ _ | refine Below.setCell ?_ (by first | omega | (simp; done) | (simp; omega)) _))
    simp only [decide_eq_false na] at HNA
    replace HNA := Lib.hid HNA
    by_cases nb : b = nulV
    · rw [show ofR a b (q1, q2) = (nulV, 0) by rw [ofR, hok, if_neg (by decide), if_pos (.inr nb)]]
      simp only [decide_eq_true nb] at HNB
      replace HNB := Lib.hid HNB
      clear hok na nb
      go_enter Try.func34, Try.ntmps34
      go_wp2_with (first
        | (go_at_call 55; refine (HA.out _ _ _ (hp_4 _ _ _ _ _)).mono ?_; rintro e w' ⟨rfl, rfl⟩)
        | (go_at_call 65; refine (HNA.out _).mono ?_; rintro e w' ⟨rfl, rfl⟩; clear HNA)
        | (go_at_call 65; refine (HNB.out _).mono ?_; rintro e w' ⟨rfl, rfl⟩))
      refine bodyPost_ret (v := .tuple #[.agg #[.int .i64 0, .int .i64 0, .string ⟨#[]⟩], .int .i64 0]) (by simp [results, Try.results34, go_sem]) rfl ⟨?_, ?_⟩
      · rfl
      · (repeat (first | exact Below.refl _ _ | refine bl_al ?_ _ | refine Below.setCell ?_ (by first | omega | (simp; done) | (simp; omega)) _))
    simp only [decide_eq_false nb] at HNB
    replace HNB := Lib.hid HNB
    by_cases n2 : q2 = 0
    · subst n2
      rw [show ofR a b (q1, 0) = (numV q1, 0) by rw [ofR, hok, if_neg (by decide), if_neg (by simp [na, nb]), if_neg (by simp)]]
      clear hok na nb
      go_enter Try.func34, Try.ntmps34
      go_wp2_with (first
        | (go_at_call 55; refine (HA.out _ _ _ (hp_4 _ _ _ _ _)).mono ?_; rintro e w' ⟨rfl, rfl⟩)
        | (go_at_call 65; refine (HNA.out _).mono ?_; rintro e w' ⟨rfl, rfl⟩; clear HNA)
        | (go_at_call 65; refine (HNB.out _).mono ?_; rintro e w' ⟨rfl, rfl⟩)
        | (go_at_call 60; refine (HQ.out _).mono ?_; rintro e w' ⟨rfl, rfl⟩)
        | (go_at_call 57; refine (integer_any _ _).mono ?_; rintro e w' ⟨rfl, rfl⟩))
      refine bodyPost_ret (v := .tuple #[.agg #[.int .i64 1, .int .i64 q1, .string ⟨#[]⟩], .int .i64 0]) (by simp [results, Try.results34, go_sem]) rfl ⟨?_, ?_⟩
      · rfl
      · (repeat (first | exact Below.refl _ _ | refine bl_al ?_ _ | refine Below.setCell ?_ (by first | omega | (simp; done) | (simp; omega)) _))
    · rw [show ofR a b (q1, q2) = (nulV, q2) by rw [ofR, hok, if_neg (by decide), if_neg (by simp [na, nb]), if_pos n2]]
      have g : (q2 != 0) = true := bne_iff_ne.2 n2
      clear hok na nb
      go_enter Try.func34, Try.ntmps34
      go_wp2_with (first
        | (go_at_call 55; refine (HA.out _ _ _ (hp_4 _ _ _ _ _)).mono ?_; rintro e w' ⟨rfl, rfl⟩)
        | (go_at_call 65; refine (HNA.out _).mono ?_; rintro e w' ⟨rfl, rfl⟩; clear HNA)
        | (go_at_call 65; refine (HNB.out _).mono ?_; rintro e w' ⟨rfl, rfl⟩)
        | (go_at_call 60; refine (HQ.out _).mono ?_; rintro e w' ⟨rfl, rfl⟩))
      refine bodyPost_ret (v := .tuple #[.agg #[.int .i64 0, .int .i64 0, .string ⟨#[]⟩], .int .i64 q2]) (by simp [results, Try.results34, go_sem]) rfl ⟨?_, ?_⟩
      · rfl
      · (repeat (first | exact Below.refl _ _ | refine bl_al ?_ _ | refine Below.setCell ?_ (by first | omega | (simp; done) | (simp; omega)) _))
set_option maxHeartbeats 1600000 in
theorem calcOf_multiply (a b : Val) (w : World) (q : Int × Int) (ha : Rng a.s) (hb : Rng b.s) (hq : ∀ w, Calls Try.prog 62 #[.int .i64 a.n, .int .i64 b.n] w fun e w' => e = .returned (.tuple #[.int .i64 q.1, .int .i64 q.2]) ∧ w' = w) :
    Calls Try.prog 34 #[.func (.func 62) #[] #[], .agg #[.int .i64 a.k, .int .i64 a.n, .string (str a.s)], .agg #[.int .i64 b.k, .int .i64 b.n, .string (str b.s)]] w fun e w' => e = .returned (.tuple #[.agg #[.int .i64 ((ofR a b q).1).k, .int .i64 ((ofR a b q).1).n, .string (str ((ofR a b q).1).s)], .int .i64 (ofR a b q).2]) ∧ Below w.heap.size w w' := by
  obtain ⟨q1, q2⟩ := q
  have HQ := Lib.hid hq
  have HA := fun H T w h => allOf2_any 1 a.k b.k H T w h
  have HNA := fun w => isNull_any a w ha
  have HNB := fun w => isNull_any b w hb
  clear hq
  cases hok : (okK 1 a.k && okK 1 b.k) with
  | false =>
    simp only [hok] at HA
    replace HA := Lib.hid HA
    rw [show ofR a b (q1, q2) = (nulV, 22) by rw [ofR, if_pos hok]]
    clear hok HNA HNB
    go_enter Try.func34, Try.ntmps34
    go_wp2_with (first
      | (go_at_call 55; refine (HA.out _ _ _ (hp_4 _ _ _ _ _)).mono ?_; rintro e w' ⟨rfl, rfl⟩))
    refine bodyPost_ret (v := .tuple #[.agg #[.int .i64 0, .int .i64 0, .string ⟨#[]⟩], .int .i64 22]) (by simp [results, Try.results34, go_sem]) rfl ⟨?_, ?_⟩
    · rfl
    · (repeat (first | exact Below.refl _ _ | refine bl_al ?_ _ | refine Below.setCell ?_ (by first | omega | (simp; done) | (simp; omega)) _))
  | true =>
    simp only [hok] at HA
    replace HA := Lib.hid HA
    by_cases na : a = nulV
    · rw [show ofR a b (q1, q2) = (nulV, 0) by rw [ofR, hok, if_neg (by decide), if_pos (.inl na)]]
      simp only [decide_eq_true na] at HNA
      replace HNA := Lib.hid HNA
      clear hok HNB na
      go_enter Try.func34, Try.ntmps34
      go_wp2_with (first
        | (go_at_call 55; refine (HA.out _ _ _ (hp_4 _ _ _ _ _)).mono ?_; rintro e w' ⟨rfl, rfl⟩)
        | (go_at_call 65; refine (HNA.out _).mono ?_; rintro e w' ⟨rfl, rfl⟩))
      refine bodyPost_ret (v := .tuple #[.agg #[.int .i64 0, .int .i64 0, .string ⟨#[]⟩], .int .i64 0]) (by simp [results, Try.results34, go_sem]) rfl ⟨?_, ?_⟩
      · rfl
      · (repeat (first | exact Below.refl _ _ | refine bl_al ?_ _ | refine Below.setCell ?_ (by first | omega | (simp; done) | (simp; omega)) _))
    simp only [decide_eq_false na] at HNA
    replace HNA := Lib.hid HNA
    by_cases nb : b = nulV
    · rw [show ofR a b (q1, q2) = (nulV, 0) by rw [ofR, hok, if_neg (by decide), if_pos (.inr nb)]]
      simp only [decide_eq_true nb] at HNB
      replace HNB := Lib.hid HNB
      clear hok na nb
      go_enter Try.func34, Try.ntmps34
      go_wp2_with (first
        | (go_at_call 55; refine (HA.out _ _ _ (hp_4 _ _ _ _ _)).mono ?_; rintro e w' ⟨rfl, rfl⟩)
        | (go_at_call 65; refine (HNA.out _).mono ?_; rintro e w' ⟨rfl, rfl⟩; clear HNA)
        | (go_at_call 65; refine (HNB.out _).mono ?_; rintro e w' ⟨rfl, rfl⟩))
      refine bodyPost_ret (v := .tuple #[.agg #[.int .i64 0, .int .i64 0, .string ⟨#[]⟩], .int .i64 0]) (by simp [results, Try.results34, go_sem]) rfl ⟨?_, ?_⟩
      · rfl
      · (repeat (first | exact Below.refl _ _ | refine bl_al ?_ _ | refine Below.setCell ?_ (by first | omega | (simp; done) | (simp; omega)) _))
    simp only [decide_eq_false nb] at HNB
    replace HNB := Lib.hid HNB
    by_cases n2 : q2 = 0
    · subst n2
      rw [show ofR a b (q1, 0) = (numV q1, 0) by rw [ofR, hok, if_neg (by decide), if_neg (by simp [na, nb]), if_neg (by simp)]]
      clear hok na nb
      go_enter Try.func34, Try.ntmps34
      go_wp2_with (first
        | (go_at_call 55; refine (HA.out _ _ _ (hp_4 _ _ _ _ _)).mono ?_; rintro e w' ⟨rfl, rfl⟩)
        | (go_at_call 65; refine (HNA.out _).mono ?_; rintro e w' ⟨rfl, rfl⟩; clear HNA)
        | (go_at_call 65; refine (HNB.out _).mono ?_; rintro e w' ⟨rfl, rfl⟩)
        | (go_at_call 62; refine (HQ.out _).mono ?_; rintro e w' ⟨rfl, rfl⟩)
        | (go_at_call 57; refine (integer_any _ _).mono ?_; rintro e w' ⟨rfl, rfl⟩))
      refine bodyPost_ret (v := .tuple #[.agg #[.int .i64 1, .int .i64 q1, .string ⟨#[]⟩], .int .i64 0]) (by simp [results, Try.results34, go_sem]) rfl ⟨?_, ?_⟩
      · rfl
      · (repeat (first | exact Below.refl _ _ | refine bl_al ?_ _ | refine Below.setCell ?_ (by first | omega | (simp; done) | (simp; omega)) _))
    · rw [show ofR a b (q1, q2) = (nulV, q2) by rw [ofR, hok, if_neg (by decide), if_neg (by simp [na, nb]), if_pos n2]]
      have g : (q2 != 0) = true := bne_iff_ne.2 n2
      clear hok na nb
      go_enter Try.func34, Try.ntmps34
      go_wp2_with (first
        | (go_at_call 55; refine (HA.out _ _ _ (hp_4 _ _ _ _ _)).mono ?_; rintro e w' ⟨rfl, rfl⟩)
        | (go_at_call 65; refine (HNA.out _).mono ?_; rintro e w' ⟨rfl, rfl⟩; clear HNA)
        | (go_at_call 65; refine (HNB.out _).mono ?_; rintro e w' ⟨rfl, rfl⟩)
        | (go_at_call 62; refine (HQ.out _).mono ?_; rintro e w' ⟨rfl, rfl⟩))
      refine bodyPost_ret (v := .tuple #[.agg #[.int .i64 0, .int .i64 0, .string ⟨#[]⟩], .int .i64 q2]) (by simp [results, Try.results34, go_sem]) rfl ⟨?_, ?_⟩
      · rfl
      · (repeat (first | exact Below.refl _ _ | refine bl_al ?_ _ | refine Below.setCell ?_ (by first | omega | (simp; done) | (simp; omega)) _))
end Go.Proofs.Ytbhilmgpmebaiaa
namespace Go.Proofs.Ytbhilmgpmebaiaa
open Go.RowKit
set_option maxHeartbeats 1600000 in
theorem calcOf_divide (a b : Val) (w : World) (q : Int × Int) (ha : Rng a.s) (hb : Rng b.s) (hq : ∀ w, Calls Try.prog 63 #[.int .i64 a.n, .int .i64 b.n] w fun e w' => e = .returned (.tuple #[.int .i64 q.1, .int .i64 q.2]) ∧ w' = w) :
    Calls Try.prog 34 #[.func (.func 63) #[] #[], .agg #[.int .i64 a.k, .int .i64 a.n, .string (str a.s)], .agg #[.int .i64 b.k, .int .i64 b.n, .string (str b.s)]] w fun e w' => e = .returned (.tuple #[.agg #[.int .i64 ((ofR a b q).1).k, .int .i64 ((ofR a b q).1).n, .string (str ((ofR a b q).1).s)], .int .i64 (ofR a b q).2]) ∧ Below w.heap.size w w' := by
  obtain ⟨q1, q2⟩ := q
  have HQ := Lib.hid hq
  have HA := fun H T w h => allOf2_any 1 a.k b.k H T w h
  have HNA := fun w => isNull_any a w ha
  have HNB := fun w => isNull_any b w hb
  clear hq
  cases hok : (okK 1 a.k && okK 1 b.k) with
  | false =>
    simp only [hok] at HA
    replace HA := Lib.hid HA
    rw [show ofR a b (q1, q2) = (nulV, 22) by rw [ofR, if_pos hok]]
    clear hok HNA HNB
    go_enter Try.func34, Try.ntmps34
    go_wp2_with (first
      | (go_at_call 55; refine (HA.out _ _ _ (hp_4 _ _ _ _ _)).mono ?_; rintro e w' ⟨rfl, rfl⟩))
    refine bodyPost_ret (v := .tuple #[.agg #[.int .i64 0, .int .i64 0, .string ⟨#[]⟩], .int .i64 22]) (by simp [results, Try.results34, go_sem]) rfl ⟨?_, ?_⟩
    · rfl
    · (repeat (first | exact Below.refl _ _ | refine bl_al ?_ _ | refine Below.setCell ?_ (by first | omega | (simp; done) | (simp; omega)) _))
  | true =>
    simp only [hok] at HA
    replace HA := Lib.hid HA
    by_cases na : a = nulV
    · rw [show ofR a b (q1, q2) = (nulV, 0) by rw [ofR, hok, if_neg (by decide), if_pos (.inl na)]]
      simp only [decide_eq_true na] at HNA
      replace HNA := Lib.hid HNA
      clear hok HNB na
      go_enter Try.func34, Try.ntmps34
      go_wp2_with (first
        | (go_at_call 55; refine (HA.out _ _ _ (hp_4 _ _ _ _ _)).mono ?_; rintro e w' ⟨rfl, rfl⟩)
        | (go_at_call 65; refine (HNA.out _).mono ?_; rintro e w' ⟨rfl, rfl⟩))
      refine bodyPost_ret (v := .tuple #[.agg #[.int .i64 0, .int .i64 0, .string ⟨#[]⟩], .int .i64 0]) (by simp [results, Try.results34, go_sem]) rfl ⟨?_, ?_⟩
      · rfl
      · (repeat (first | exact Below.refl _ _ | refine bl_al ?_ _ | refine Below.setCell ?_ (by first | omega | (simp; done) | (simp; omega)) _))
    simp only [decide_eq_false na] at HNA
    replace HNA := Lib.hid HNA
    by_cases nb : b = nulV
    · rw [show ofR a b (q1, q2) = (nulV, 0) by rw [ofR, hok, if_neg (by decide), if_pos (.inr nb)]]
      simp only [decide_eq_true nb] at HNB
      replace HNB := Lib.hid HNB
      clear hok na nb
      go_enter Try.func34, Try.ntmps34
      go_wp2_with (first
        | (go_at_call 55; refine (HA.out _ _ _ (hp_4 _ _ _ _ _)).mono ?_; rintro e w' ⟨rfl, rfl⟩)
        | (go_at_call 65; refine (HNA.out _).mono ?_; rintro e w' ⟨rfl, rfl⟩; clear HNA)
        | (go_at_call 65; refine (HNB.out _).mono ?_; rintro e w' ⟨rfl, rfl⟩))
      refine bodyPost_ret (v := .tuple #[.agg #[.int .i64 0, .int .i64 0, .string ⟨#[]⟩], .int .i64 0]) (by simp [results, Try.results34, go_sem]) rfl ⟨?_, ?_⟩
      · rfl
      · (repeat (first | exact Below.refl _ _ | refine bl_al ?_ _ | refine Below.setCell ?_ (by first | omega | (simp; done) | (simp; omega)) _))
    simp only [decide_eq_false nb] at HNB
    replace HNB := Lib.hid HNB
    by_cases n2 : q2 = 0
    · subst n2
      rw [show ofR a b (q1, 0) = (numV q1, 0) by rw [ofR, hok, if_neg (by decide), if_neg (by simp [na, nb]), if_neg (by simp)]]
      clear hok na nb
      go_enter Try.func34, Try.ntmps34
      go_wp2_with (first
        | (go_at_call 55; refine (HA.out _ _ _ (hp_4 _ _ _ _ _)).mono ?_; rintro e w' ⟨rfl, rfl⟩)
        | (go_at_call 65; refine (HNA.out _).mono ?_; rintro e w' ⟨rfl, rfl⟩; clear HNA)
        | (go_at_call 65; refine (HNB.out _).mono ?_; rintro e w' ⟨rfl, rfl⟩)
        | (go_at_call 63; refine (HQ.out _).mono ?_; rintro e w' ⟨rfl, rfl⟩)
        | (go_at_call 57; refine (integer_any _ _).mono ?_; rintro e w' ⟨rfl, rfl⟩))
      refine bodyPost_ret (v := .tuple #[.agg #[.int .i64 1, .int .i64 q1, .string ⟨#[]⟩], .int .i64 0]) (by simp [results, Try.results34, go_sem]) rfl ⟨?_, ?_⟩
      · rfl
      · (repeat (first | exact Below.refl _ _ | refine bl_al ?_ _ | refine Below.setCell ?_ (by first | omega | (simp; done) | (simp; omega)) _))
    · rw [show ofR a b (q1, q2) = (nulV, q2) by rw [ofR, hok, if_neg (by decide), if_neg (by simp [na, nb]), if_pos n2]]
      have g : (q2 != 0) = true := bne_iff_ne.2 n2
      clear hok na nb
      go_enter Try.func34, Try.ntmps34
      go_wp2_with (first
        | (go_at_call 55; refine (HA.out _ _ _ (hp_4 _ _ _ _ _)).mono ?_; rintro e w' ⟨rfl, rfl⟩)
        | (go_at_call 65; refine (HNA.out _).mono ?_; rintro e w' ⟨rfl, rfl⟩; clear HNA)
        | (go_at_call 65; refine (HNB.out _).mono ?_; rintro e w' ⟨rfl, rfl⟩)
        | (go_at_call 63; refine (HQ.out _).mono ?_; rintro e w' ⟨rfl, rfl⟩))
      refine bodyPost_ret (v := .tuple #[.agg #[.int .i64 0, .int .i64 0, .string ⟨#[]⟩], .int .i64 q2]) (by simp [results, Try.results34, go_sem]) rfl ⟨?_, ?_⟩
      · rfl
      · (repeat (first | exact Below.refl _ _ | refine bl_al ?_ _ | refine Below.setCell ?_ (by first | omega | (simp; done) | (simp; omega)) _))
set_option maxHeartbeats 1600000 in
theorem calcOf_remainder (a b : Val) (w : World) (q : Int × Int) (ha : Rng a.s) (hb : Rng b.s) (hq : ∀ w, Calls Try.prog 64 #[.int .i64 a.n, .int .i64 b.n] w fun e w' => e = .returned (.tuple #[.int .i64 q.1, .int .i64 q.2]) ∧ w' = w) :
    Calls Try.prog 34 #[.func (.func 64) #[] #[], .agg #[.int .i64 a.k, .int .i64 a.n, .string (str a.s)], .agg #[.int .i64 b.k, .int .i64 b.n, .string (str b.s)]] w fun e w' => e = .returned (.tuple #[.agg #[.int .i64 ((ofR a b q).1).k, .int .i64 ((ofR a b q).1).n, .string (str ((ofR a b q).1).s)], .int .i64 (ofR a b q).2]) ∧ Below w.heap.size w w' := by
  obtain ⟨q1, q2⟩ := q
  have HQ := Lib.hid hq
  have HA := fun H T w h => allOf2_any 1 a.k b.k H T w h
  have HNA := fun w => isNull_any a w ha
  have HNB := fun w => isNull_any b w hb
  clear hq
  cases hok : (okK 1 a.k && okK 1 b.k) with
  | false =>
    simp only [hok] at HA
    replace HA := Lib.hid HA
    rw [show ofR a b (q1, q2) = (nulV, 22) by rw [ofR, if_pos hok]]
    clear hok HNA HNB
    go_enter Try.func34, Try.ntmps34
    go_wp2_with (first
      | (go_at_call 55; refine (HA.out _ _ _ (hp_4 _ _ _ _ _)).mono ?_; rintro e w' ⟨rfl, rfl⟩))
    refine bodyPost_ret (v := .tuple #[.agg #[.int .i64 0, .int .i64 0, .string ⟨#[]⟩], .int .i64 22]) (by simp [results, Try.results34, go_sem]) rfl ⟨?_, ?_⟩
    · rfl
    · (repeat (first | exact Below.refl _ _ | refine bl_al ?_ _ | refine Below.setCell ?_ (by first | omega | (simp; done) | (simp; omega)) _))
  | true =>
    simp only [hok] at HA
    replace HA := Lib.hid HA
    by_cases na : a = nulV
    · rw [show ofR a b (q1, q2) = (nulV, 0) by rw [ofR, hok, if_neg (by decide), if_pos (.inl na)]]
      simp only [decide_eq_true na] at HNA
      replace HNA := Lib.hid HNA
      clear hok HNB na
      go_enter Try.func34, Try.ntmps34
      go_wp2_with (first
        | (go_at_call 55; refine (HA.out _ _ _ (hp_4 _ _ _ _ _)).mono ?_; rintro e w' ⟨rfl, rfl⟩)
        | (go_at_call 65; refine (HNA.out _).mono ?_; rintro e w' ⟨rfl, rfl⟩))
      refine bodyPost_ret (v := .tuple #[.agg #[.int .i64 0, .int .i64 0, .string ⟨#[]⟩], .int .i64 0]) (by simp [results, Try.results34, go_sem]) rfl ⟨?_, ?_⟩
      · rfl
      · (repeat (first | exact Below.refl _ _ | refine bl_al ?_ _ | refine Below.setCell ?_ (by first | omega | (simp; done) | (simp; omega)) _))
    simp only [decide_eq_false na] at HNA
    replace HNA := Lib.hid HNA
    by_cases nb : b = nulV
    · rw [show ofR a b (q1, q2) = (nulV, 0) by rw [ofR, hok, if_neg (by decide), if_pos (.inr nb)]]
      simp only [decide_eq_true nb] at HNB
      replace HNB := Lib.hid HNB
      clear hok na nb
      go_enter Try.func34, Try.ntmps34
      go_wp2_with (first
        | (go_at_call 55; refine (HA.out _ _ _ (hp_4 _ _ _ _ _)).mono ?_; rintro e w' ⟨rfl, rfl⟩)
        | (go_at_call 65; refine (HNA.out _).mono ?_; rintro e w' ⟨rfl, rfl⟩; clear HNA)
        | (go_at_call 65; refine (HNB.out _).mono ?_; rintro e w' ⟨rfl, rfl⟩))
      refine bodyPost_ret (v := .tuple #[.agg #[.int .i64 0, .int .i64 0, .string ⟨#[]⟩], .int .i64 0]) (by simp [results, Try.results34, go_sem]) rfl ⟨?_, ?_⟩
      · rfl
      · (repeat (first | exact Below.refl _ _ | refine bl_al ?_ _ | refine Below.setCell ?_ (by first | omega | (simp; done) | (simp; omega)) _))
    simp only [decide_eq_false nb] at HNB
    replace HNB := Lib.hid HNB
    by_cases n2 : q2 = 0
    · subst n2
      rw [show ofR a b (q1, 0) = (numV q1, 0) by rw [ofR, hok, if_neg (by decide), if_neg (by simp [na, nb]), if_neg (by simp)]]
      clear hok na nb
      go_enter Try.func34, Try.ntmps34
      go_wp2_with (first
        | (go_at_call 55; refine (HA.out _ _ _ (hp_4 _ _ _ _ _)).mono ?_; rintro e w' ⟨rfl, rfl⟩)
        | (go_at_call 65; refine (HNA.out _).mono ?_; rintro e w' ⟨rfl, rfl⟩; clear HNA)
        | (go_at_call 65; refine (HNB.out _).mono ?_; rintro e w' ⟨rfl, rfl⟩)
        | (go_at_call 64; refine (HQ.out _).mono ?_; rintro e w' ⟨rfl, rfl⟩)
        | (go_at_call 57; refine (integer_any _ _).mono ?_; rintro e w' ⟨rfl, rfl⟩))
      refine bodyPost_ret (v := .tuple #[.agg #[.int .i64 1, .int .i64 q1, .string ⟨#[]⟩], .int .i64 0]) (by simp [results, Try.results34, go_sem]) rfl ⟨?_, ?_⟩
      · rfl
      · (repeat (first | exact Below.refl _ _ | refine bl_al ?_ _ | refine Below.setCell ?_ (by first | omega | (simp; done) | (simp; omega)) _))
    · rw [show ofR a b (q1, q2) = (nulV, q2) by rw [ofR, hok, if_neg (by decide), if_neg (by simp [na, nb]), if_pos n2]]
      have g : (q2 != 0) = true := bne_iff_ne.2 n2
      clear hok na nb
      go_enter Try.func34, Try.ntmps34
      go_wp2_with (first
        | (go_at_call 55; refine (HA.out _ _ _ (hp_4 _ _ _ _ _)).mono ?_; rintro e w' ⟨rfl, rfl⟩)
        | (go_at_call 65; refine (HNA.out _).mono ?_; rintro e w' ⟨rfl, rfl⟩; clear HNA)
        | (go_at_call 65; refine (HNB.out _).mono ?_; rintro e w' ⟨rfl, rfl⟩)
        | (go_at_call 64; refine (HQ.out _).mono ?_; rintro e w' ⟨rfl, rfl⟩))
      refine bodyPost_ret (v := .tuple #[.agg #[.int .i64 0, .int .i64 0, .string ⟨#[]⟩], .int .i64 q2]) (by simp [results, Try.results34, go_sem]) rfl ⟨?_, ?_⟩
      · rfl
      · (repeat (first | exact Below.refl _ _ | refine bl_al ?_ _ | refine Below.setCell ?_ (by first | omega | (simp; done) | (simp; omega)) _))
set_option maxHeartbeats 1600000 in
theorem calcOf_neg (a b : Val) (w : World) (q : Int × Int) (ha : Rng a.s) (hb : Rng b.s) (hq : ∀ w, Calls Try.prog 59 #[.int .i64 a.n, .int .i64 b.n] w fun e w' => e = .returned (.tuple #[.int .i64 q.1, .int .i64 q.2]) ∧ w' = w) :
    Calls Try.prog 34 #[.func (.func 59) #[] #[], .agg #[.int .i64 a.k, .int .i64 a.n, .string (str a.s)], .agg #[.int .i64 b.k, .int .i64 b.n, .string (str b.s)]] w fun e w' => e = .returned (.tuple #[.agg #[.int .i64 ((ofR a b q).1).k, .int .i64 ((ofR a b q).1).n, .string (str ((ofR a b q).1).s)], .int .i64 (ofR a b q).2]) ∧ Below w.heap.size w w' := by
  obtain ⟨q1, q2⟩ := q
  have HQ := Lib.hid hq
  have HA := fun H T w h => allOf2_any 1 a.k b.k H T w h
  have HNA := fun w => isNull_any a w ha
  have HNB := fun w => isNull_any b w hb
  clear hq
  cases hok : (okK 1 a.k && okK 1 b.k) with
  | false =>
    simp only [hok] at HA
    replace HA := Lib.hid HA
    rw [show ofR a b (q1, q2) = (nulV, 22) by rw [ofR, if_pos hok]]
    clear hok HNA HNB
    go_enter Try.func34, Try.ntmps34
    go_wp2_with (first
      | (go_at_call 55; refine (HA.out _ _ _ (hp_4 _ _ _ _ _)).mono ?_; rintro e w' ⟨rfl, rfl⟩))
    refine bodyPost_ret (v := .tuple #[.agg #[.int .i64 0, .int .i64 0, .string ⟨#[]⟩], .int .i64 22]) (by simp [results, Try.results34, go_sem]) rfl ⟨?_, ?_⟩
    · rfl
    · (repeat (first | exact Below.refl _ _ | refine bl_al ?_ _ | refine Below.setCell ?_ (by first | omega | (simp; done) | (simp; omega)) _))
  | true =>
    simp only [hok] at HA
    replace HA := Lib.hid HA
    by_cases na : a = nulV
    · rw [show ofR a b (q1, q2) = (nulV, 0) by rw [ofR, hok, if_neg (by decide), if_pos (.inl na)]]
      simp only [decide_eq_true na] at HNA
      replace HNA := Lib.hid HNA
      clear hok HNB na
      go_enter Try.func34, Try.ntmps34
      go_wp2_with (first
        | (go_at_call 55; refine (HA.out _ _ _ (hp_4 _ _ _ _ _)).mono ?_; rintro e w' ⟨rfl, rfl⟩)
        | (go_at_call 65; refine (HNA.out _).mono ?_; rintro e w' ⟨rfl, rfl⟩))
      refine bodyPost_ret (v := .tuple #[.agg #[.int .i64 0, .int .i64 0, .string ⟨#[]⟩], .int .i64 0]) (by simp [results, Try.results34, go_sem]) rfl ⟨?_, ?_⟩
      · rfl
      · (repeat (first | exact Below.refl _ _ | refine bl_al ?_ _ | refine Below.setCell ?_ (by first | omega | (simp; done) | (simp; omega)) _))
    simp only [decide_eq_false na] at HNA
    replace HNA := Lib.hid HNA
    by_cases nb : b = nulV
    · rw [show ofR a b (q1, q2) = (nulV, 0) by rw [ofR, hok, if_neg (by decide), if_pos (.inr nb)]]
      simp only [decide_eq_true nb] at HNB
      replace HNB := Lib.hid HNB
      clear hok na nb
      go_enter Try.func34, Try.ntmps34
      go_wp2_with (first
        | (go_at_call 55; refine (HA.out _ _ _ (hp_4 _ _ _ _ _)).mono ?_; rintro e w' ⟨rfl, rfl⟩)
        | (go_at_call 65; refine (HNA.out _).mono ?_; rintro e w' ⟨rfl, rfl⟩; clear HNA)
        | (go_at_call 65; refine (HNB.out _).mono ?_; rintro e w' ⟨rfl, rfl⟩))
      refine bodyPost_ret (v := .tuple #[.agg #[.int .i64 0, .int .i64 0, .string ⟨#[]⟩], .int .i64 0]) (by simp [results, Try.results34, go_sem]) rfl ⟨?_, ?_⟩
      · rfl
      · (repeat (first | exact Below.refl _ _ | refine bl_al ?_ _ | refine Below.setCell ?_ (by first | omega | (simp; done) | (simp; omega)) _))
    simp only [decide_eq_false nb] at HNB
    replace HNB := Lib.hid HNB
    by_cases n2 : q2 = 0
    · subst n2
      rw [show ofR a b (q1, 0) = (numV q1, 0) by rw [ofR, hok, if_neg (by decide), if_neg (by simp [na, nb]), if_neg (by simp)]]
      clear hok na nb
      go_enter Try.func34, Try.ntmps34
      go_wp2_with (first
        | (go_at_call 55; refine (HA.out _ _ _ (hp_4 _ _ _ _ _)).mono ?_; rintro e w' ⟨rfl, rfl⟩)
        | (go_at_call 65; refine (HNA.out _).mono ?_; rintro e w' ⟨rfl, rfl⟩; clear HNA)
        | (go_at_call 65; refine (HNB.out _).mono ?_; rintro e w' ⟨rfl, rfl⟩)
        | (go_at_call 59; refine (HQ.out _).mono ?_; rintro e w' ⟨rfl, rfl⟩)
        | (go_at_call 57; refine (integer_any _ _).mono ?_; rintro e w' ⟨rfl, rfl⟩))
      refine bodyPost_ret (v := .tuple #[.agg #[.int .i64 1, .int .i64 q1, .string ⟨#[]⟩], .int .i64 0]) (by simp [results, Try.results34, go_sem]) rfl ⟨?_, ?_⟩
      · rfl
      · (repeat (first | exact Below.refl _ _ | refine bl_al ?_ _ | refine Below.setCell ?_ (by first | omega | (simp; done) | (simp; omega)) _))
    · rw [show ofR a b (q1, q2) = (nulV, q2) by rw [ofR, hok, if_neg (by decide), if_neg (by simp [na, nb]), if_pos n2]]
      have g : (q2 != 0) = true := bne_iff_ne.2 n2
      clear hok na nb
      go_enter Try.func34, Try.ntmps34
      go_wp2_with (first
        | (go_at_call 55; refine (HA.out _ _ _ (hp_4 _ _ _ _ _)).mono ?_; rintro e w' ⟨rfl, rfl⟩)
        | (go_at_call 65; refine (HNA.out _).mono ?_; rintro e w' ⟨rfl, rfl⟩; clear HNA)
        | (go_at_call 65; refine (HNB.out _).mono ?_; rintro e w' ⟨rfl, rfl⟩)
        | (go_at_call 59; refine (HQ.out _).mono ?_; rintro e w' ⟨rfl, rfl⟩))
      refine bodyPost_ret (v := .tuple #[.agg #[.int .i64 0, .int .i64 0, .string ⟨#[]⟩], .int .i64 q2]) (by simp [results, Try.results34, go_sem]) rfl ⟨?_, ?_⟩
      · rfl
      · (repeat (first | exact Below.refl _ _ | refine bl_al ?_ _ | refine Below.setCell ?_ (by first | omega | (simp; done) | (simp; omega)) _))
end Go.Proofs.Ytbhilmgpmebaiaa
namespace Go.Proofs.Ytbhilmgpmebaiaa
open Go.RowKit
attribute [local go_sem ↓] eql32_eq neq32_eq
set_option maxHeartbeats 1600000 in
theorem cmpOf4 (a b : Val) (w : World) (t : Bool) (ha : Rng a.s) (hb : Rng b.s) (hq : ∀ w, Calls Try.prog 69 #[.int .i64 (ordV a b)] w fun e w' => e = .returned (.bool t) ∧ w' = w) :
    Calls Try.prog 37 #[.func (.func 69) #[] #[], .agg #[.int .i64 a.k, .int .i64 a.n, .string (str a.s)], .agg #[.int .i64 b.k, .int .i64 b.n, .string (str b.s)]] w fun e w' => e = .returned (.tuple #[.agg #[.int .i64 ((ofK a b t).1).k, .int .i64 ((ofK a b t).1).n, .string (str ((ofK a b t).1).s)], .int .i64 (ofK a b t).2]) ∧ Below w.heap.size w w' := by
  have HQ := Lib.hid hq
  have HA := fun w => sameKind_any a.k b.k w
  have HNA := fun w => isNull_any a w ha
  have HNB := fun w => isNull_any b w hb
  have HO := Lib.hid (fun w => order_any a b w ha hb)
  clear hq
  cases hok : smK a.k b.k with
  | false =>
    simp only [hok] at HA
    replace HA := Lib.hid HA
    rw [show ofK a b t = (nulV, 22) by rw [ofK, if_pos hok]]
    clear hok HNA HNB
    go_enter Try.func37, Try.ntmps37
    go_wp2_with (first
      | (go_at_call 56; refine (HA.out _).mono ?_; rintro e w' ⟨rfl, rfl⟩))
    refine bodyPost_ret (v := .tuple #[.agg #[.int .i64 0, .int .i64 0, .string ⟨#[]⟩], .int .i64 22]) (by simp [results, Try.results37, go_sem]) rfl ⟨?_, ?_⟩
    · rfl
    · (repeat (first | exact Below.refl _ _ | exact HBW.out | refine bl_al ?_ _ | refine Below.setCell ?_ (by first | omega | (simp; done) | (simp; omega)) _ | refine Below.drew ?_))
  | true =>
    simp only [hok] at HA
    replace HA := Lib.hid HA
    by_cases na : a = nulV
    · rw [show ofK a b t = (nulV, 0) by rw [ofK, hok, if_neg (by decide), if_pos (.inl na)]]
      simp only [decide_eq_true na] at HNA
      replace HNA := Lib.hid HNA
      clear hok HNB na
      go_enter Try.func37, Try.ntmps37
      go_wp2_with (first
        | (go_at_call 56; refine (HA.out _).mono ?_; rintro e w' ⟨rfl, rfl⟩)
        | (go_at_call 65; refine (HNA.out _).mono ?_; rintro e w' ⟨rfl, rfl⟩; clear HNA))
      refine bodyPost_ret (v := .tuple #[.agg #[.int .i64 0, .int .i64 0, .string ⟨#[]⟩], .int .i64 0]) (by simp [results, Try.results37, go_sem]) rfl ⟨?_, ?_⟩
      · rfl
      · (repeat (first | exact Below.refl _ _ | exact HBW.out | refine bl_al ?_ _ | refine Below.setCell ?_ (by first | omega | (simp; done) | (simp; omega)) _ | refine Below.drew ?_))
    simp only [decide_eq_false na] at HNA
    replace HNA := Lib.hid HNA
    by_cases nb : b = nulV
    · rw [show ofK a b t = (nulV, 0) by rw [ofK, hok, if_neg (by decide), if_pos (.inr nb)]]
      simp only [decide_eq_true nb] at HNB
      replace HNB := Lib.hid HNB
      clear hok na nb
      go_enter Try.func37, Try.ntmps37
      go_wp2_with (first
        | (go_at_call 56; refine (HA.out _).mono ?_; rintro e w' ⟨rfl, rfl⟩)
        | (go_at_call 65; refine (HNA.out _).mono ?_; rintro e w' ⟨rfl, rfl⟩; clear HNA)
        | (go_at_call 65; refine (HNB.out _).mono ?_; rintro e w' ⟨rfl, rfl⟩))
      refine bodyPost_ret (v := .tuple #[.agg #[.int .i64 0, .int .i64 0, .string ⟨#[]⟩], .int .i64 0]) (by simp [results, Try.results37, go_sem]) rfl ⟨?_, ?_⟩
      · rfl
      · (repeat (first | exact Below.refl _ _ | exact HBW.out | refine bl_al ?_ _ | refine Below.setCell ?_ (by first | omega | (simp; done) | (simp; omega)) _ | refine Below.drew ?_))
    simp only [decide_eq_false nb] at HNB
    replace HNB := Lib.hid HNB
    rw [show ofK a b t = (truV t, 0) by rw [ofK, hok, if_neg (by decide), if_neg (by simp [na, nb])]]
    clear hok na nb
    generalize ordV a b = c at *
    cases t
    · skip
      go_enter Try.func37, Try.ntmps37
      go_wp2_with (first
        | (go_at_call 56; refine (HA.out _).mono ?_; rintro e w' ⟨rfl, rfl⟩)
        | (go_at_call 65; refine (HNA.out _).mono ?_; rintro e w' ⟨rfl, rfl⟩; clear HNA)
        | (go_at_call 65; refine (HNB.out _).mono ?_; rintro e w' ⟨rfl, rfl⟩)
        | (go_at_call 50; refine (HO.out _).mono ?_; rintro e w1 ⟨rfl, hb⟩; have hz := (hb.block (w.heap.size + 1 + 1) (by simp <;> omega)).trans (hp_al (hp_al (hp_3 w _ _ _) _) _); obtain ⟨z0, z1, z2⟩ := bx_cells hz; obtain ⟨f0, f1, f2⟩ := bx_free hz; have hlt : w.heap.size + 1 + 1 < w1.heap.size := (bx_lt hz); have HBW := Lib.hid (bl_tr (bl_al (bl_al (bl_al (bl_al (bl_al (Below.refl _ _) _) _) _) _) _) hb); clear hz hb)
        | (go_at_call 69; refine (HQ.out _).mono ?_; rintro e w' ⟨rfl, rfl⟩)
        | (go_at_call 58; refine (boolean_any _ _).mono ?_; rintro e w' ⟨rfl, rfl⟩))
      refine bodyPost_ret (v := .tuple #[.agg #[.int .i64 3, .int .i64 0, .string ⟨#[]⟩], .int .i64 0]) (by simp [results, Try.results37, go_sem, hlt, z0, z1, z2]) rfl ⟨?_, ?_⟩
      · rfl
      · (repeat (first | exact Below.refl _ _ | exact HBW.out | refine bl_al ?_ _ | refine Below.setCell ?_ (by first | omega | (simp; done) | (simp; omega)) _ | refine Below.drew ?_))
    · skip
      go_enter Try.func37, Try.ntmps37
      go_wp2_with (first
        | (go_at_call 56; refine (HA.out _).mono ?_; rintro e w' ⟨rfl, rfl⟩)
        | (go_at_call 65; refine (HNA.out _).mono ?_; rintro e w' ⟨rfl, rfl⟩; clear HNA)
        | (go_at_call 65; refine (HNB.out _).mono ?_; rintro e w' ⟨rfl, rfl⟩)
        | (go_at_call 50; refine (HO.out _).mono ?_; rintro e w1 ⟨rfl, hb⟩; have hz := (hb.block (w.heap.size + 1 + 1) (by simp <;> omega)).trans (hp_al (hp_al (hp_3 w _ _ _) _) _); obtain ⟨z0, z1, z2⟩ := bx_cells hz; obtain ⟨f0, f1, f2⟩ := bx_free hz; have hlt : w.heap.size + 1 + 1 < w1.heap.size := (bx_lt hz); have HBW := Lib.hid (bl_tr (bl_al (bl_al (bl_al (bl_al (bl_al (Below.refl _ _) _) _) _) _) _) hb); clear hz hb)
        | (go_at_call 69; refine (HQ.out _).mono ?_; rintro e w' ⟨rfl, rfl⟩)
        | (go_at_call 58; refine (boolean_any _ _).mono ?_; rintro e w' ⟨rfl, rfl⟩))
      refine bodyPost_ret (v := .tuple #[.agg #[.int .i64 3, .int .i64 1, .string ⟨#[]⟩], .int .i64 0]) (by simp [results, Try.results37, go_sem, hlt, z0, z1, z2]) rfl ⟨?_, ?_⟩
      · rfl
      · (repeat (first | exact Below.refl _ _ | exact HBW.out | refine bl_al ?_ _ | refine Below.setCell ?_ (by first | omega | (simp; done) | (simp; omega)) _ | refine Below.drew ?_))
set_option maxHeartbeats 1600000 in
theorem cmpOf5 (a b : Val) (w : World) (t : Bool) (ha : Rng a.s) (hb : Rng b.s) (hq : ∀ w, Calls Try.prog 70 #[.int .i64 (ordV a b)] w fun e w' => e = .returned (.bool t) ∧ w' = w) :
    Calls Try.prog 37 #[.func (.func 70) #[] #[], .agg #[.int .i64 a.k, .int .i64 a.n, .string (str a.s)], .agg #[.int .i64 b.k, .int .i64 b.n, .string (str b.s)]] w fun e w' => e = .returned (.tuple #[.agg #[.int .i64 ((ofK a b t).1).k, .int .i64 ((ofK a b t).1).n, .string (str ((ofK a b t).1).s)], .int .i64 (ofK a b t).2]) ∧ Below w.heap.size w w' := by
  have HQ := Lib.hid hq
  have HA := fun w => sameKind_any a.k b.k w
  have HNA := fun w => isNull_any a w ha
  have HNB := fun w => isNull_any b w hb
  have HO := Lib.hid (fun w => order_any a b w ha hb)
  clear hq
  cases hok : smK a.k b.k with
  | false =>
    simp only [hok] at HA
    replace HA := Lib.hid HA
    rw [show ofK a b t = (nulV, 22) by rw [ofK, if_pos hok]]
    clear hok HNA HNB
    go_enter Try.func37, Try.ntmps37
    go_wp2_with (first
      | (go_at_call 56; refine (HA.out _).mono ?_; rintro e w' ⟨rfl, rfl⟩))
    refine bodyPost_ret (v := .tuple #[.agg #[.int .i64 0, .int .i64 0, .string ⟨#[]⟩], .int .i64 22]) (by simp [results, Try.results37, go_sem]) rfl ⟨?_, ?_⟩
    · rfl
    · (repeat (first | exact Below.refl _ _ | exact HBW.out | refine bl_al ?_ _ | refine Below.setCell ?_ (by first | omega | (simp; done) | (simp; omega)) _ | refine Below.drew ?_))
  | true =>
    simp only [hok] at HA
    replace HA := Lib.hid HA
    by_cases na : a = nulV
    · rw [show ofK a b t = (nulV, 0) by rw [ofK, hok, if_neg (by decide), if_pos (.inl na)]]
      simp only [decide_eq_true na] at HNA
      replace HNA := Lib.hid HNA
      clear hok HNB na
      go_enter Try.func37, Try.ntmps37
      go_wp2_with (first
        | (go_at_call 56; refine (HA.out _).mono ?_; rintro e w' ⟨rfl, rfl⟩)
        | (go_at_call 65; refine (HNA.out _).mono ?_; rintro e w' ⟨rfl, rfl⟩; clear HNA))
      refine bodyPost_ret (v := .tuple #[.agg #[.int .i64 0, .int .i64 0, .string ⟨#[]⟩], .int .i64 0]) (by simp [results, Try.results37, go_sem]) rfl ⟨?_, ?_⟩
      · rfl
      · (repeat (first | exact Below.refl _ _ | exact HBW.out | refine bl_al ?_ _ | refine Below.setCell ?_ (by first | omega | (simp; done) | (simp; omega)) _ | refine Below.drew ?_))
    simp only [decide_eq_false na] at HNA
    replace HNA := Lib.hid HNA
    by_cases nb : b = nulV
    · rw [show ofK a b t = (nulV, 0) by rw [ofK, hok, if_neg (by decide), if_pos (.inr nb)]]
      simp only [decide_eq_true nb] at HNB
      replace HNB := Lib.hid HNB
      clear hok na nb
      go_enter Try.func37, Try.ntmps37
      go_wp2_with (first
        | (go_at_call 56; refine (HA.out _).mono ?_; rintro e w' ⟨rfl, rfl⟩)
        | (go_at_call 65; refine (HNA.out _).mono ?_; rintro e w' ⟨rfl, rfl⟩; clear HNA)
        | (go_at_call 65; refine (HNB.out _).mono ?_; rintro e w' ⟨rfl, rfl⟩))
      refine bodyPost_ret (v := .tuple #[.agg #[.int .i64 0, .int .i64 0, .string ⟨#[]⟩], .int .i64 0]) (by simp [results, Try.results37, go_sem]) rfl ⟨?_, ?_⟩
      · rfl
      · (repeat (first | exact Below.refl _ _ | exact HBW.out | refine bl_al ?_ _ | refine Below.setCell ?_ (by first | omega | (simp; done) | (simp; omega)) _ | refine Below.drew ?_))
    simp only [decide_eq_false nb] at HNB
    replace HNB := Lib.hid HNB
    rw [show ofK a b t = (truV t, 0) by rw [ofK, hok, if_neg (by decide), if_neg (by simp [na, nb])]]
    clear hok na nb
    generalize ordV a b = c at *
    cases t
    · skip
      go_enter Try.func37, Try.ntmps37
      go_wp2_with (first
        | (go_at_call 56; refine (HA.out _).mono ?_; rintro e w' ⟨rfl, rfl⟩)
        | (go_at_call 65; refine (HNA.out _).mono ?_; rintro e w' ⟨rfl, rfl⟩; clear HNA)
        | (go_at_call 65; refine (HNB.out _).mono ?_; rintro e w' ⟨rfl, rfl⟩)
        | (go_at_call 50; refine (HO.out _).mono ?_; rintro e w1 ⟨rfl, hb⟩; have hz := (hb.block (w.heap.size + 1 + 1) (by simp <;> omega)).trans (hp_al (hp_al (hp_3 w _ _ _) _) _); obtain ⟨z0, z1, z2⟩ := bx_cells hz; obtain ⟨f0, f1, f2⟩ := bx_free hz; have hlt : w.heap.size + 1 + 1 < w1.heap.size := (bx_lt hz); have HBW := Lib.hid (bl_tr (bl_al (bl_al (bl_al (bl_al (bl_al (Below.refl _ _) _) _) _) _) _) hb); clear hz hb)
        | (go_at_call 70; refine (HQ.out _).mono ?_; rintro e w' ⟨rfl, rfl⟩)
        | (go_at_call 58; refine (boolean_any _ _).mono ?_; rintro e w' ⟨rfl, rfl⟩))
      refine bodyPost_ret (v := .tuple #[.agg #[.int .i64 3, .int .i64 0, .string ⟨#[]⟩], .int .i64 0]) (by simp [results, Try.results37, go_sem, hlt, z0, z1, z2]) rfl ⟨?_, ?_⟩
      · rfl
      · (repeat (first | exact Below.refl _ _ | exact HBW.out | refine bl_al ?_ _ | refine Below.setCell ?_ (by first | omega | (simp; done) | (simp; omega)) _ | refine Below.drew ?_))
    · skip
      go_enter Try.func37, Try.ntmps37
      go_wp2_with (first
        | (go_at_call 56; refine (HA.out _).mono ?_; rintro e w' ⟨rfl, rfl⟩)
        | (go_at_call 65; refine (HNA.out _).mono ?_; rintro e w' ⟨rfl, rfl⟩; clear HNA)
        | (go_at_call 65; refine (HNB.out _).mono ?_; rintro e w' ⟨rfl, rfl⟩)
        | (go_at_call 50; refine (HO.out _).mono ?_; rintro e w1 ⟨rfl, hb⟩; have hz := (hb.block (w.heap.size + 1 + 1) (by simp <;> omega)).trans (hp_al (hp_al (hp_3 w _ _ _) _) _); obtain ⟨z0, z1, z2⟩ := bx_cells hz; obtain ⟨f0, f1, f2⟩ := bx_free hz; have hlt : w.heap.size + 1 + 1 < w1.heap.size := (bx_lt hz); have HBW := Lib.hid (bl_tr (bl_al (bl_al (bl_al (bl_al (bl_al (Below.refl _ _) _) _) _) _) _) hb); clear hz hb)
        | (go_at_call 70; refine (HQ.out _).mono ?_; rintro e w' ⟨rfl, rfl⟩)
        | (go_at_call 58; refine (boolean_any _ _).mono ?_; rintro e w' ⟨rfl, rfl⟩))
      refine bodyPost_ret (v := .tuple #[.agg #[.int .i64 3, .int .i64 1, .string ⟨#[]⟩], .int .i64 0]) (by simp [results, Try.results37, go_sem, hlt, z0, z1, z2]) rfl ⟨?_, ?_⟩
      · rfl
      · (repeat (first | exact Below.refl _ _ | exact HBW.out | refine bl_al ?_ _ | refine Below.setCell ?_ (by first | omega | (simp; done) | (simp; omega)) _ | refine Below.drew ?_))
end Go.Proofs.Ytbhilmgpmebaiaa
