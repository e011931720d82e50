import Derived.Test.YtbhilmgpmebaiaaFo02
namespace Go.Proofs.Ytbhilmgpmebaiaa
open Go.RowKit
set_option maxHeartbeats 1600000 in
theorem calcOf_divide (a b : Val) (w : World) (q : Int × Int) (ha : Rng a.s) (hb : Rng b.s) (hq : ∀ w, Calls Try.prog 63 #[.int .i64 a.n, .int .i64 b.n] w fun e w' => e = .returned (.tuple #[.int .i64 q.1, .int .i64 q.2]) ∧ w' = w) :
    Calls Try.prog 34 #[.func (.func 63) #[] #[], .agg #[.int .i64 a.k, .int .i64 a.n, .string (str a.s)], .agg #[.int .i64 b.k, .int .i64 b.n, .string (str b.s)]] w fun e w' => e = .returned (.tuple #[.agg #[.int .i64 ((ofR a b q).1).k, .int .i64 ((ofR a b q).1).n, .string (str ((ofR a b q).1).s)], .int .i64 (ofR a b q).2]) ∧ Below w.heap.size w w' := by
  obtain ⟨q1, q2⟩ := q
  have HQ := Lib.hid hq
  have HA := fun H T w h => allOf2_any 1 a.k b.k H T w h
  have HNA := fun w => isNull_any a w ha
  have HNB := fun w => isNull_any b w hb
  clear hq
  cases hok : (okK 1 a.k && okK 1 b.k) with
  | false =>
    simp only [hok] at HA
    replace HA := Lib.hid HA
    rw [show ofR a b (q1, q2) = (nulV, 22) by rw [ofR, if_pos hok]]
    clear hok HNA HNB
    go_enter Try.func34, Try.ntmps34
    go_wp2_with (first
      | (go_at_call 55; refine (HA.out _ _ _ (hp_4 _ _ _ _ _)).mono ?_; rintro e w' ⟨rfl, rfl⟩))
    refine bodyPost_ret (v := .tuple #[.agg #[.int .i64 0, .int .i64 0, .string ⟨#[]⟩], .int .i64 22]) (by simp [results, Try.results34, go_sem]) rfl ⟨?_, ?_⟩
    · rfl
    · (repeat (first | exact Below.refl _ _ | refine bl_al ?_ _ | refine Below.setCell ?_ (by first | omega | (simp; done) | (simp; omega)) _))
  | true =>
    simp only [hok] at HA
    replace HA := Lib.hid HA
    by_cases na : a = nulV
    · rw [show ofR a b (q1, q2) = (nulV, 0) by rw [ofR, hok, if_neg (by decide), if_pos (.inl na)]]
      simp only [decide_eq_true na] at HNA
      replace HNA := Lib.hid HNA
      clear hok HNB na
      go_enter Try.func34, Try.ntmps34
      go_wp2_with (first
        | (go_at_call 55; refine (HA.out _ _ _ (hp_4 _ _ _ _ _)).mono ?_; rintro e w' ⟨rfl, rfl⟩)
        | (go_at_call 65; refine (HNA.out _).mono ?_; rintro e w' ⟨rfl, rfl⟩))
      refine bodyPost_ret (v := .tuple #[.agg #[.int .i64 0, .int .i64 0, .string ⟨#[]⟩], .int .i64 0]) (by simp [results, Try.results34, go_sem]) rfl ⟨?_, ?_⟩
      · rfl
      · (repeat (first | exact Below.refl _ _ | refine bl_al ?_ _ | refine Below.setCell ?_ (by first | omega | (simp; done) | (simp; omega)) _))
    simp only [decide_eq_false na] at HNA
    replace HNA := Lib.hid HNA
    by_cases nb : b = nulV
    · rw [show ofR a b (q1, q2) = (nulV, 0) by rw [ofR, hok, if_neg (by decide), if_pos (.inr nb)]]
      simp only [decide_eq_true nb] at HNB
      replace HNB := Lib.hid HNB
      clear hok na nb
      go_enter Try.func34, Try.ntmps34
      go_wp2_with (first
        | (go_at_call 55; refine (HA.out _ _ _ (hp_4 _ _ _ _ _)).mono ?_; rintro e w' ⟨rfl, rfl⟩)
        | (go_at_call 65; refine (HNA.out _).mono ?_; rintro e w' ⟨rfl, rfl⟩; clear HNA)
        | (go_at_call 65; refine (HNB.out _).mono ?_; rintro e w' ⟨rfl, rfl⟩))
      refine bodyPost_ret (v := .tuple #[.agg #[.int .i64 0, .int .i64 0, .string ⟨#[]⟩], .int .i64 0]) (by simp [results, Try.results34, go_sem]) rfl ⟨?_, ?_⟩
      · rfl
      · (repeat (first | exact Below.refl _ _ | refine bl_al ?_ _ | refine Below.setCell ?_ (by first | omega | (simp; done) | (simp; omega)) _))
    simp only [decide_eq_false nb] at HNB
    replace HNB := Lib.hid HNB
    by_cases n2 : q2 = 0
    · subst n2
      rw [show ofR a b (q1, 0) = (numV q1, 0) by rw [ofR, hok, if_neg (by decide), if_neg (by simp [na, nb]), if_neg (by simp)]]
      clear hok na nb
      go_enter Try.func34, Try.ntmps34
      go_wp2_with (first
        | (go_at_call 55; refine (HA.out _ _ _ (hp_4 _ _ _ _ _)).mono ?_; rintro e w' ⟨rfl, rfl⟩)
        | (go_at_call 65; refine (HNA.out _).mono ?_; rintro e w' ⟨rfl, rfl⟩; clear HNA)
        | (go_at_call 65; refine (HNB.out _).mono ?_; rintro e w' ⟨rfl, rfl⟩)
        | (go_at_call 63; refine (HQ.out _).mono ?_; rintro e w' ⟨rfl, rfl⟩)
        | (go_at_call 57; refine (integer_any _ _).mono ?_; rintro e w' ⟨rfl, rfl⟩))
      refine bodyPost_ret (v := .tuple #[.agg #[.int .i64 1, .int .i64 q1, .string ⟨#[]⟩], .int .i64 0]) (by simp [results, Try.results34, go_sem]) rfl ⟨?_, ?_⟩
      · rfl
      · (repeat (first | exact Below.refl _ _ | refine bl_al ?_ _ | refine Below.setCell ?_ (by first | omega | (simp; done) | (simp; omega)) _))
    · rw [show ofR a b (q1, q2) = (nulV, q2) by rw [ofR, hok, if_neg (by decide), if_neg (by simp [na, nb]), if_pos n2]]
      have g : (q2 != 0) = true := bne_iff_ne.2 n2
      clear hok na nb
      go_enter Try.func34, Try.ntmps34
      go_wp2_with (first
        | (go_at_call 55; refine (HA.out _ _ _ (hp_4 _ _ _ _ _)).mono ?_; rintro e w' ⟨rfl, rfl⟩)
        | (go_at_call 65; refine (HNA.out _).mono ?_; rintro e w' ⟨rfl, rfl⟩; clear HNA)
        | (go_at_call 65; refine (HNB.out _).mono ?_; rintro e w' ⟨rfl, rfl⟩)
        | (go_at_call 63; refine (HQ.out _).mono ?_; rintro e w' ⟨rfl, rfl⟩))
      refine bodyPost_ret (v := .tuple #[.agg #[.int .i64 0, .int .i64 0, .string ⟨#[]⟩], .int .i64 q2]) (by simp [results, Try.results34, go_sem]) rfl ⟨?_, ?_⟩
      · rfl
      · (repeat (first | exact Below.refl _ _ | refine bl_al ?_ _ | refine Below.setCell ?_ (by first | omega | (simp; done) | (simp; omega)) _))
end Go.Proofs.Ytbhilmgpmebaiaa
namespace Go.Proofs.Ytbhilmgpmebaiaa
open Go.RowKit
attribute [local go_sem ↓] eql32_eq neq32_eq
end Go.Proofs.Ytbhilmgpmebaiaa
namespace Go.Proofs.Ytbhilmgpmebaiaa
open Go.RowKit
attribute [local go_sem ↓] eql32_eq neq32_eq
end Go.Proofs.Ytbhilmgpmebaiaa
namespace Go.Proofs.Ytbhilmgpmebaiaa
open Go.RowKit
attribute [local go_sem ↓] eql32_eq neq32_eq
theorem hp_drew {w : World} {H : Nat} {x : Obj} (h : w.heap[H]? = some x) : w.drew.heap[H]? = some x := h
def testV (a : Val) (b : Bool) : Val × Int := (truV (decide (a = nulV) == b), 0)
end Go.Proofs.Ytbhilmgpmebaiaa
namespace Go.Proofs.Ytbhilmgpmebaiaa
open Go.RowKit
attribute [local go_sem ↓] eql32_eq neq32_eq
theorem hp4 (w : World) (a b c d : Obj) : ((((w.alloc a).alloc b).alloc c).alloc d).heap[w.heap.size + 1 + 1 + 1]? = some d := by
  have := heap_alloc_new (((w.alloc a).alloc b).alloc c) d
  simpa using this
theorem run_eqT (u : World) (a : Val) (b : Bool) (ha : Rng a.s) : (eql32 (.agg #[.int .i64 a.k, .int .i64 a.n, .string (str a.s)]) (.agg #[.int .i64 3, .int .i64 (if b = true then 1 else 0), .string ⟨#[]⟩])).run Try.prog u = .ok (.bool (decide (a = truV b))) u := run_eql32 u a (truV b) ha (fun x hx => by simp [truV] at hx)
def notV (a : Val) : Val × Int := if okK 3 a.k = false then (nulV, 22) else if a = nulV then (nulV, 0) else (truV (decide (a = truV false)), 0)
end Go.Proofs.Ytbhilmgpmebaiaa
