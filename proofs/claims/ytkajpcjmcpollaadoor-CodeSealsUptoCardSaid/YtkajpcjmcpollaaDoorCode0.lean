import Derived.Test.YtkajpcjmcpollaaDoorBase3
namespace Go.Proofs.YtkajpcjmcpollaaDoor
open Go.RowKit
/-- the order of bytes, as -1, 0, 1 -/
def cmpI : List Int → List Int → Int
  | [], [] => 0
  | [], _ :: _ => -1
  | _ :: _, [] => 1
  | x :: xs, y :: ys => if x < y then -1 else if y < x then 1 else cmpI xs ys
theorem cmpI_same (l A B : List Int) : cmpI (l ++ A) (l ++ B) = cmpI A B := by
  induction l with
  | nil => rfl
  | cons x l ih => simp [cmpI, ih]
theorem cmpI_lt {x y : Int} {A B : List Int} (h : x < y) : cmpI (x :: A) (y :: B) = -1 := by simp [cmpI, h]
theorem cmpI_gt {x y : Int} {A B : List Int} (h : y < x) : cmpI (x :: A) (y :: B) = 1 := by
  have : ¬ x < y := by omega
  simp [cmpI, h, this]
theorem cmpI_eq (x : Int) {A B : List Int} : cmpI (x :: A) (x :: B) = cmpI A B := by simp [cmpI]
def dg : Nat → Nat → List Int
  | 0, _ => []
  | k + 1, n => dg k (n / 256) ++ [((n % 256 : Nat) : Int)]
theorem cmp_dg : ∀ (k a b : Nat) (A B : List Int), a < 256 ^ k → b < 256 ^ k → cmpI (dg k a ++ A) (dg k b ++ B) = if a < b then -1 else if b < a then 1 else cmpI A B
  | 0, a, b, A, B, ha, hb => by
    have h1 : a = 0 := by simpa using ha
    have h2 : b = 0 := by simpa using hb
    subst h1; subst h2; rfl
  | k + 1, a, b, A, B, ha, hb => by
    have ha' : a / 256 < 256 ^ k := by rw [Nat.pow_succ] at ha; omega
    have hb' : b / 256 < 256 ^ k := by rw [Nat.pow_succ] at hb; omega
    simp only [dg, List.append_assoc, List.singleton_append]
    rw [cmp_dg k _ _ _ _ ha' hb']
    by_cases h1 : a / 256 < b / 256
    · rw [if_pos h1, if_pos (by omega)]
    · rw [if_neg h1]
      by_cases h2 : b / 256 < a / 256
      · rw [if_pos h2, if_neg (by omega), if_pos (by omega)]
      · rw [if_neg h2]
        by_cases h3 : a < b
        · rw [if_pos h3, cmpI_lt (by omega)]
        · rw [if_neg h3]
          by_cases h4 : b < a
          · rw [if_pos h4, cmpI_gt (by omega)]
          · rw [if_neg h4]
            have : a = b := by omega
            subst this
            exact cmpI_eq _
/-- a text's bytes, each 0 followed by 255 -/
def esc : List Int → List Int
  | [] => []
  | x :: l => if x = 0 then 0 :: 255 :: esc l else x :: esc l
theorem esc_append (l m : List Int) : esc (l ++ m) = esc l ++ esc m := by
  induction l with
  | nil => rfl
  | cons x l ih => simp only [List.cons_append, esc, ih]; split <;> rfl
theorem esc_len_le (l : List Int) : (esc l).length ≤ 2 * l.length := by
  induction l with
  | nil => simp [esc]
  | cons x l ih => simp only [esc]; split <;> simp <;> omega
theorem cmp_esc : ∀ (s t : List Int) (A B : List Int), (∀ x ∈ s, 0 ≤ x) → (∀ x ∈ t, 0 ≤ x) → s ≠ t → cmpI (esc s ++ 0 :: 1 :: A) (esc t ++ 0 :: 1 :: B) = cmpI s t
  | [], [], _, _, _, _, h => absurd rfl h
  | [], d :: t, A, B, _, ht, _ => by
    have hd := ht d (by simp)
    simp only [esc]
    by_cases h : d = 0
    · subst h; simp [cmpI]
    · have : 0 < d := by omega
      simp [cmpI, h, this]
  | c :: s, [], A, B, hs, _, _ => by
    have hc := hs c (by simp)
    simp only [esc]
    by_cases h : c = 0
    · subst h; simp [cmpI]
    · have h1 : ¬ c < 0 := by omega
      have h2 : 0 < c := by omega
      simp [cmpI, h, h1, h2]
  | c :: s, d :: t, A, B, hs, ht, hne => by
    have hc := hs c (by simp)
    have hd := ht d (by simp)
    by_cases h : c = d
    · subst h
      have ih := cmp_esc s t A B (fun x hx => hs x (by simp [hx])) (fun x hx => ht x (by simp [hx])) (fun e => hne (by rw [e]))
      rw [cmpI_eq]
      by_cases h0 : c = 0
      · simp only [esc, h0, if_true, List.cons_append, cmpI_eq, ih]
      · simp only [esc, h0, if_false, List.cons_append, cmpI_eq, ih]
    · by_cases hlt : c < d
      · rw [cmpI_lt hlt]
        by_cases h0 : c = 0
        · have hd0 : d ≠ 0 := by omega
          simp only [esc, h0, if_true, hd0, if_false, List.cons_append]
          exact cmpI_lt (by omega)
        · have hd0 : d ≠ 0 := by omega
          simp only [esc, h0, hd0, if_false, List.cons_append]
          exact cmpI_lt (by omega)
      · rw [cmpI_gt (by omega)]
        by_cases h0 : d = 0
        · have hd0 : c ≠ 0 := by omega
          simp only [esc, h0, if_true, hd0, if_false, List.cons_append]
          exact cmpI_gt (by omega)
        · have hd0 : c ≠ 0 := by omega
          simp only [esc, h0, hd0, if_false, List.cons_append]
          exact cmpI_gt (by omega)
structure Val where
  k : Int
  n : Int
  s : List Int
def Val.OK (v : Val) : Prop := (∀ x ∈ v.s, 0 ≤ x ∧ x < 256) ∧ -9223372036854775808 ≤ v.k ∧ v.k ≤ 9223372036854775807 ∧ -9223372036854775808 ≤ v.n ∧ v.n ≤ 9223372036854775807
def vld (v : Val) : Bool :=
  if v.k = 0 then decide (v.n = 0) && decide (v.s = []) else if v.k = 1 then decide (v.s = []) else if v.k = 2 then decide (v.n = 0) && decide (v.s.length ≤ 64)
  else if v.k = 3 then (decide (v.n = 0) || decide (v.n = 1)) && decide (v.s = []) else false
def num (n : Int) : Nat := ((n + 9223372036854775808) % 18446744073709551616).toNat
def body (v : Val) : List Int :=
  if v.k = 1 then dg 8 (num v.n) else if v.k = 2 then esc v.s ++ [0, 1] else if v.k = 3 then [v.n] else []
def keyV (v : Val) : List Int := (v.k + 1) :: body v
def keyR (r : List Val) : List Int := r.flatMap keyV
def ltV (x y : Val) : Bool := decide (x.k < y.k ∨ x.k = y.k ∧ (x.n < y.n ∨ x.n = y.n ∧ cmpI x.s y.s = -1))
theorem if_ltV {x y : Val} {a b : Int} (h : x.k < y.k ∨ x.k = y.k ∧ (x.n < y.n ∨ x.n = y.n ∧ cmpI x.s y.s = -1)) : a = if ltV x y then a else b := by
  rw [if_pos]; unfold ltV; exact decide_eq_true h
theorem if_ltV' {x y : Val} {a b : Int} (h : ¬ (x.k < y.k ∨ x.k = y.k ∧ (x.n < y.n ∨ x.n = y.n ∧ cmpI x.s y.s = -1))) : b = if ltV x y then a else b := by
  rw [if_neg]; unfold ltV; simpa using h
theorem cmpI_cases : ∀ s t : List Int, s ≠ t → cmpI s t = -1 ∨ cmpI s t = 1
  | [], [], h => absurd rfl h
  | [], _ :: _, _ => .inl rfl
  | _ :: _, [], _ => .inr rfl
  | x :: s, y :: t, h => by
    simp only [cmpI]
    by_cases h1 : x < y
    · simp [h1]
    · by_cases h2 : y < x
      · simp [h1, h2]
      · have : x = y := by omega
        subst this
        simp only [h1, if_false]
        exact cmpI_cases s t (fun e => h (by rw [e]))
theorem cmp_key (x y : Val) (A B : List Int) (hx : vld x = true) (hy : vld y = true) (ox : x.OK) (oy : y.OK) (hne : ¬ (x.k = y.k ∧ x.n = y.n ∧ x.s = y.s)) :
    cmpI (keyV x ++ A) (keyV y ++ B) = if ltV x y then -1 else 1 := by
  obtain ⟨xk, xn, xs⟩ := x
  obtain ⟨yk, yn, ys⟩ := y
  obtain ⟨ox1, ox2, ox3, ox4, ox5⟩ := ox
  obtain ⟨oy1, oy2, oy3, oy4, oy5⟩ := oy
  simp only at ox1 ox2 ox3 ox4 ox5 oy1 oy2 oy3 oy4 oy5 hne
  simp only [keyV, List.cons_append]
  by_cases h1 : xk < yk
  · rw [cmpI_lt (by omega)]; exact if_ltV (.inl h1)
  by_cases h2 : yk < xk
  · rw [cmpI_gt (by omega)]; exact if_ltV' (by simp only; omega)
  have hk : xk = yk := by omega
  subst hk
  rw [cmpI_eq]
  by_cases k0 : xk = 0
  · simp [vld, k0] at hx hy
    exact absurd ⟨rfl, by omega, by rw [hx.2, hy.2]⟩ hne
  by_cases k1 : xk = 1
  · simp [vld, k1] at hx hy
    subst hx; subst hy
    have hn : xn ≠ yn := fun e => hne ⟨rfl, e, rfl⟩
    have e1 : ∀ n : Int, body ⟨xk, n, []⟩ = dg 8 (num n) := fun n => by simp [body, k1]
    rw [e1, e1, cmp_dg 8 _ _ _ _ (by unfold num; omega) (by unfold num; omega)]
    by_cases h3 : xn < yn
    · rw [if_pos (by unfold num; omega)]; exact if_ltV (.inr ⟨rfl, .inl h3⟩)
    · rw [if_neg (by unfold num; omega), if_pos (by unfold num; omega)]; exact if_ltV' (by simp only; omega)
  by_cases k2 : xk = 2
  · simp [vld, k2] at hx hy
    have hs : xs ≠ ys := fun e => hne ⟨rfl, by omega, e⟩
    have e1 : ∀ (n : Int) (s : List Int), body ⟨xk, n, s⟩ = esc s ++ [0, 1] := fun n s => by simp [body, k2]
    rw [e1, e1, List.append_assoc, List.append_assoc]
    simp only [List.cons_append, List.nil_append]
    rw [cmp_esc xs ys A B (fun x hx => (ox1 x hx).1) (fun x hx => (oy1 x hx).1) hs]
    rcases cmpI_cases xs ys hs with h | h
    · rw [h]; exact if_ltV (.inr ⟨rfl, .inr ⟨by simp only; omega, h⟩⟩)
    · rw [h]; exact if_ltV' (by simp only; omega)
  by_cases k3 : xk = 3
  · simp [vld, k3] at hx hy
    obtain ⟨hx, rfl⟩ := hx
    obtain ⟨hy, rfl⟩ := hy
    have hn : xn ≠ yn := fun e => hne ⟨rfl, e, rfl⟩
    have e1 : body ⟨xk, xn, []⟩ = [xn] := by simp [body, k3]
    have e2 : body ⟨xk, yn, []⟩ = [yn] := by simp [body, k3]
    rw [e1, e2]
    by_cases h3 : xn < yn
    · rw [List.singleton_append, List.singleton_append, cmpI_lt h3]; exact if_ltV (.inr ⟨rfl, .inl h3⟩)
    · rw [List.singleton_append, List.singleton_append, cmpI_gt (by omega)]; exact if_ltV' (by simp only; omega)
  · simp [vld, k0, k1, k2, k3] at hx
/-- the order of rows -/
def ordR : List Val → List Val → Int
  | [], [] => 0
  | [], _ :: _ => -1
  | _ :: _, [] => 1
  | x :: xs, y :: ys => if x.k = y.k ∧ x.n = y.n ∧ x.s = y.s then ordR xs ys else if ltV x y then -1 else 1
theorem cmp_rows : ∀ (r s : List Val), (∀ x ∈ r, vld x = true ∧ x.OK) → (∀ x ∈ s, vld x = true ∧ x.OK) → cmpI (keyR r) (keyR s) = ordR r s
  | [], [], _, _ => rfl
  | [], y :: s, _, _ => rfl
  | x :: r, [], _, _ => rfl
  | x :: r, y :: s, hr, hs => by
    have h1 := hr x (by simp)
    have h2 := hs y (by simp)
    have ih := cmp_rows r s (fun x hx => hr x (by simp [hx])) (fun x hx => hs x (by simp [hx]))
    simp only [keyR, List.flatMap_cons] at ih ⊢
    simp only [ordR]
    by_cases he : x.k = y.k ∧ x.n = y.n ∧ x.s = y.s
    · rw [if_pos he]
      have : x = y := by cases x; cases y; simp_all
      subst this
      rw [cmpI_same, ih]
    · rw [if_neg he, cmp_key x y _ _ h1.1 h2.1 h1.2 h2.2 he]
inductive TR where
  | ok (s : List Int) (u : Nat)
  | err (e : Int)
def TR.push (x : Int) (k : Nat) : TR → TR
  | .ok s u => .ok (x :: s) (k + u)
  | .err e => .err e
/-- a text's bytes from a place on, m of them behind it -/
def txt (m : Nat) (l : List Int) : TR :=
  match l with
  | [] => .err 6
  | x :: r => if x = 0 then (match r with
      | [] => .err 6
      | y :: r' => if y = 1 then .ok [] 2 else if y = 255 then (if m = 64 then .err 5 else (txt (m + 1) r').push 0 2) else .err 5)
    else if m = 64 then .err 5 else (txt (m + 1) r).push x 1
theorem txt_cons (m : Nat) (x : Int) (r : List Int) : txt m (x :: r) = if x = 0 then (match r with
      | [] => .err 6
      | y :: r' => if y = 1 then .ok [] 2 else if y = 255 then (if m = 64 then .err 5 else (txt (m + 1) r').push 0 2) else .err 5)
    else if m = 64 then .err 5 else (txt (m + 1) r).push x 1 := by
  cases r <;> simp only [txt]
inductive VR where
  | ok (v : Val) (u : Nat)
  | err (e : Int)
def TR.val : TR → VR
  | .ok s u => .ok ⟨2, 0, s⟩ (1 + u)
  | .err e => .err e
/-- the value that bytes begin with -/
def one (l : List Int) : VR :=
  if l[0]?.getD 0 = 1 then .ok ⟨0, 0, []⟩ 1
  else if l[0]?.getD 0 = 2 then if l.length < 9 then .err 6 else .ok ⟨1, (beI ((l.drop 1).take 8) : Int) - 9223372036854775808, []⟩ 9
  else if l[0]?.getD 0 = 3 then (txt 0 (l.drop 1)).val
  else if l[0]?.getD 0 = 4 then if l.length < 2 then .err 6 else if (1 : Int) < l[1]?.getD 0 then .err 5 else .ok ⟨3, l[1]?.getD 0, []⟩ 2
  else .err 5
inductive RR where
  | ok (r : List Val)
  | err (e : Int) (at_ : Nat)
def RR.app (vs : List Val) : RR → RR
  | .ok r => .ok (vs ++ r)
  | .err e a => .err e a
theorem RR.app_nil (r : RR) : RR.app [] r = r := by cases r <;> rfl
theorem RR.app_app (a b : List Val) (r : RR) : RR.app a (RR.app b r) = RR.app (a ++ b) r := by cases r <;> simp [RR.app]
def rowsF : Nat → Nat → List Int → RR
  | 0, _, _ => .ok []
  | f + 1, p, l => if l = [] then .ok [] else match one l with
    | .err e => .err e p
    | .ok v u => RR.app [v] (rowsF f (p + u) (l.drop u))
theorem beI_dg : ∀ (k n : Nat), n < 256 ^ k → beI (dg k n) = n
  | 0, n, h => by have : n = 0 := by simpa using h
                  subst this; rfl
  | k + 1, n, h => by
    have h' : n / 256 < 256 ^ k := by rw [Nat.pow_succ] at h; omega
    rw [dg, beI_snoc, beI_dg k _ h']; omega
theorem dg_len : ∀ (k n : Nat), (dg k n).length = k
  | 0, _ => rfl
  | k + 1, n => by simp [dg, dg_len k]
theorem dg_rng : ∀ (k n : Nat), Rng (dg k n)
  | 0, _ => fun x hx => by simp [dg] at hx
  | k + 1, n => fun x hx => by
    rw [dg, List.mem_append] at hx
    rcases hx with hx | hx
    · exact dg_rng k _ x hx
    · simp at hx; omega
theorem dg_beI : ∀ (k : Nat) (l : List Int), l.length = k → Rng l → dg k (beI l) = l
  | 0, l, h, _ => by rw [List.eq_nil_of_length_eq_zero h]; rfl
  | k + 1, l, h, hr => by
    have hne : l ≠ [] := fun e => by rw [e] at h; simp at h
    obtain ⟨m, x, rfl⟩ : ∃ m x, l = m ++ [x] := ⟨_, _, (List.dropLast_concat_getLast hne).symm⟩
    have hx := hr x (by simp)
    have hm : m.length = k := by simpa using h
    rw [beI_snoc, dg]
    have e1 : (beI m * 256 + x.toNat) / 256 = beI m := by omega
    have e2 : (((beI m * 256 + x.toNat) % 256 : Nat) : Int) = x := by omega
    rw [e1, e2, dg_beI k m hm (fun y hy => hr y (by simp [hy]))]
theorem txt_esc : ∀ (s : List Int) (m : Nat) (A : List Int), m + s.length ≤ 64 → txt m (esc s ++ 0 :: 1 :: A) = .ok s ((esc s).length + 2)
  | [], m, A, _ => by simp [esc, txt]
  | x :: s, m, A, h => by
    have hm : m ≠ 64 := by simp only [List.length_cons] at h; omega
    have ih := txt_esc s (m + 1) A (by simp only [List.length_cons] at h; omega)
    by_cases h0 : x = 0
    · subst h0
      simp only [esc, if_true, List.cons_append, List.length_cons]
      rw [txt_cons]
      simp only [if_true]
      rw [if_neg (by decide), if_neg hm, ih]
      simp only [TR.push]; congr 1; omega
    · simp only [esc, if_neg h0, List.cons_append, List.length_cons]
      rw [txt_cons]
      simp only [if_neg h0]
      rw [if_neg hm, ih]
      simp only [TR.push]; congr 1; omega
theorem txt_back : ∀ (l : List Int) (m : Nat) (s : List Int) (u : Nat), m ≤ 64 → txt m l = .ok s u → l.take u = esc s ++ [0, 1] ∧ u ≤ l.length ∧ 2 ≤ u ∧ m + s.length ≤ 64 ∧ ∀ x ∈ s, x ∈ l
  | [], m, s, u, _, h => by simp [txt] at h
  | [x], m, s, u, hm, h => by
    rw [txt_cons] at h
    by_cases h0 : x = 0
    · simp [h0] at h
    · simp only [if_neg h0] at h
      by_cases h64 : m = 64
      · simp [h64] at h
      · simp [h64, txt, TR.push] at h
  | x :: y :: r, m, s, u, hm, h => by
    rw [txt_cons] at h
    by_cases h0 : x = 0
    · subst h0
      simp only [if_true] at h
      by_cases h1 : y = 1
      · subst h1
        simp only [if_true, TR.ok.injEq] at h
        obtain ⟨rfl, rfl⟩ := h
        exact ⟨by simp [esc], by simp, by omega, by simpa using hm, fun x hx => by simp at hx⟩
      · rw [if_neg h1] at h
        by_cases h2 : y = 255
        · subst h2
          rw [if_pos rfl] at h
          by_cases h64 : m = 64
          · rw [if_pos h64] at h; cases h
          · rw [if_neg h64] at h
            cases ht : txt (m + 1) r with
            | err e => rw [ht] at h; simp [TR.push] at h
            | ok t v =>
              rw [ht] at h
              simp only [TR.push, TR.ok.injEq] at h
              obtain ⟨rfl, rfl⟩ := h
              obtain ⟨a, b, c, d, e⟩ := txt_back r (m + 1) t v (by omega) ht
              refine ⟨?_, by simp only [List.length_cons]; omega, by omega, by simp only [List.length_cons]; omega, fun x hx => ?_⟩
              · rw [show 2 + v = v + 1 + 1 by omega, List.take_succ_cons, List.take_succ_cons, a]; simp [esc]
              · rcases List.mem_cons.1 hx with rfl | hx
                · simp
                · have := e x hx; simp [this]
        · rw [if_neg h2] at h; cases h
    · simp only [if_neg h0] at h
      by_cases h64 : m = 64
      · rw [if_pos h64] at h; cases h
      · rw [if_neg h64] at h
        cases ht : txt (m + 1) (y :: r) with
        | err e => rw [ht] at h; simp [TR.push] at h
        | ok t v =>
          rw [ht] at h
          simp only [TR.push, TR.ok.injEq] at h
          obtain ⟨rfl, rfl⟩ := h
          obtain ⟨a, b, c, d, e⟩ := txt_back (y :: r) (m + 1) t v (by omega) ht
          refine ⟨?_, by simp only [List.length_cons] at b ⊢; omega, by omega, by simp only [List.length_cons]; omega, fun z hz => ?_⟩
          · rw [show 1 + v = v + 1 by omega, List.take_succ_cons, a]; simp [esc, h0]
          · rcases List.mem_cons.1 hz with rfl | hz
            · simp
            · exact List.mem_cons_of_mem _ (e z hz)
theorem one_key (v : Val) (A : List Int) (hv : vld v = true) (ho : v.OK) : one (keyV v ++ A) = .ok v (keyV v).length := by
  obtain ⟨k, n, s⟩ := v
  obtain ⟨o1, o2, o3, o4, o5⟩ := ho
  simp only at o1 o2 o3 o4 o5
  by_cases k0 : k = 0
  · subst k0
    simp [vld] at hv
    obtain ⟨rfl, rfl⟩ := hv
    simp [one, keyV, body]
  by_cases k1 : k = 1
  · subst k1
    simp [vld] at hv
    subst hv
    have h8 := dg_len 8 (num n)
    have hb := beI_dg 8 (num n) (by unfold num; omega)
    simp only [one, keyV, body]
    simp only [if_true, List.cons_append, List.getElem?_cons_zero, Option.getD_some, List.length_cons, List.length_append, List.drop_succ_cons, List.drop_zero]
    rw [if_neg (by decide), if_pos (by decide), if_neg (by rw [h8]; omega), List.take_append_of_le_length (by rw [h8]; exact Nat.le_refl _), List.take_of_length_le (by rw [h8]; exact Nat.le_refl _), hb, h8]
    congr 2
    unfold num; omega
  by_cases k2 : k = 2
  · subst k2
    simp [vld] at hv
    obtain ⟨rfl, hl⟩ := hv
    have := txt_esc s 0 A (by omega)
    have e1 : body ⟨2, 0, s⟩ = esc s ++ [0, 1] := by simp [body]
    simp only [one, keyV, e1]
    simp only [List.cons_append, List.getElem?_cons_zero, Option.getD_some, List.length_cons, List.drop_succ_cons, List.drop_zero, List.append_assoc, List.nil_append]
    rw [if_neg (by decide), if_neg (by decide), if_pos (by decide), this]
    simp [TR.val]; omega
  by_cases k3 : k = 3
  · subst k3
    simp [vld] at hv
    obtain ⟨hv, rfl⟩ := hv
    have e1 : body ⟨3, n, []⟩ = [n] := by simp [body]
    have h1 : ¬ (1 < n) := by omega
    simp [one, keyV, e1, h1]
  · simp [vld, k0, k1, k2, k3] at hv
theorem one_back (l : List Int) (v : Val) (u : Nat) (hl : Rng l) (hne : l ≠ []) (h : one l = .ok v u) : vld v = true ∧ v.OK ∧ keyV v = l.take u ∧ 1 ≤ u ∧ u ≤ l.length := by
  obtain ⟨t, r, rfl⟩ : ∃ t r, l = t :: r := by cases l with | nil => exact absurd rfl hne | cons t r => exact ⟨t, r, rfl⟩
  have hr : Rng r := fun x hx => hl x (by simp [hx])
  simp only [one, List.getElem?_cons_zero, Option.getD_some, List.drop_succ_cons, List.drop_zero, List.length_cons, List.getElem?_cons_succ] at h
  by_cases h1 : t = 1
  · rw [if_pos h1] at h
    simp only [VR.ok.injEq] at h
    obtain ⟨rfl, rfl⟩ := h
    refine ⟨by simp [vld], ⟨fun x hx => by simp at hx, by decide, by decide, by decide, by decide⟩, by simp [keyV, body, h1], Nat.le_refl _, by simp⟩
  rw [if_neg h1] at h
  by_cases h2 : t = 2
  · rw [if_pos h2] at h
    by_cases h9 : r.length + 1 < 9
    · rw [if_pos h9] at h; cases h
    rw [if_neg h9] at h
    simp only [VR.ok.injEq] at h
    obtain ⟨rfl, rfl⟩ := h
    have h8 : (r.take 8).length = 8 := by rw [List.length_take]; omega
    have hb := beI_lt (r.take 8) (hr.take 8)
    rw [h8] at hb
    have hd := dg_beI 8 (r.take 8) h8 (hr.take 8)
    generalize beI (r.take 8) = N at *
    have hn : num ((N : Int) - 9223372036854775808) = N := by unfold num; omega
    refine ⟨by simp [vld], ⟨fun x hx => by simp at hx, by simp only; omega, by simp only; omega, by simp only; omega, by simp only; omega⟩, ?_, by omega, by simp only [List.length_cons]; omega⟩
    have e1 : body ⟨1, (N : Int) - 9223372036854775808, []⟩ = dg 8 N := by simp [body, hn]
    rw [keyV, e1, hd, h2]; rfl
  rw [if_neg h2] at h
  by_cases h3 : t = 3
  · rw [if_pos h3] at h
    cases ht : txt 0 r with
    | err e => rw [ht] at h; simp [TR.val] at h
    | ok s w =>
      rw [ht] at h
      simp only [TR.val, VR.ok.injEq] at h
      obtain ⟨rfl, rfl⟩ := h
      obtain ⟨a, b, c, d, e⟩ := txt_back r 0 s w (by omega) ht
      refine ⟨by simp [vld]; omega, ⟨fun x hx => hr x (e x hx), by simp only; omega, by simp only; omega, by simp only; omega, by simp only; omega⟩, ?_, by omega, by simp only [List.length_cons]; omega⟩
      have e1 : body ⟨2, 0, s⟩ = esc s ++ [0, 1] := by simp [body]
      rw [keyV, e1, h3, show 1 + w = w + 1 by omega, List.take_succ_cons, a]; rfl
  rw [if_neg h3] at h
  by_cases h4 : t = 4
  · rw [if_pos h4] at h
    by_cases h9 : r.length + 1 < 2
    · rw [if_pos h9] at h; cases h
    rw [if_neg h9] at h
    obtain ⟨y, r', rfl⟩ : ∃ y r', r = y :: r' := by cases r with | nil => simp at h9 | cons y r' => exact ⟨y, r', rfl⟩
    have hy := hr y (by simp)
    simp only [List.getElem?_cons_zero, Option.getD_some] at h
    by_cases h5 : 1 < y
    · rw [if_pos h5] at h; cases h
    rw [if_neg h5] at h
    simp only [VR.ok.injEq] at h
    obtain ⟨rfl, rfl⟩ := h
    refine ⟨by simp [vld]; omega, ⟨fun x hx => by simp at hx, by simp only; omega, by simp only; omega, by simp only; omega, by simp only; omega⟩, by simp [keyV, body, h4], by omega, by simp⟩
  · rw [if_neg h4] at h; cases h
theorem one_used (l : List Int) (v : Val) (u : Nat) (hne : l ≠ []) (h : one l = .ok v u) : 1 ≤ u ∧ u ≤ l.length := by
  obtain ⟨t, r, rfl⟩ : ∃ t r, l = t :: r := by cases l with | nil => exact absurd rfl hne | cons t r => exact ⟨t, r, rfl⟩
  simp only [one, List.getElem?_cons_zero, Option.getD_some, List.drop_succ_cons, List.drop_zero, List.length_cons, List.getElem?_cons_succ] at h
  by_cases h1 : t = 1
  · rw [if_pos h1] at h
    simp only [VR.ok.injEq] at h
    simp only [List.length_cons]; omega
  rw [if_neg h1] at h
  by_cases h2 : t = 2
  · rw [if_pos h2] at h
    by_cases h9 : r.length + 1 < 9
    · rw [if_pos h9] at h; cases h
    rw [if_neg h9] at h
    simp only [VR.ok.injEq] at h
    simp only [List.length_cons]; omega
  rw [if_neg h2] at h
  by_cases h3 : t = 3
  · rw [if_pos h3] at h
    cases ht : txt 0 r with
    | err e => rw [ht] at h; simp [TR.val] at h
    | ok s w =>
      rw [ht] at h
      simp only [TR.val, VR.ok.injEq] at h
      obtain ⟨a, b, c, d, e⟩ := txt_back r 0 s w (by omega) ht
      simp only [List.length_cons]; omega
  rw [if_neg h3] at h
  by_cases h4 : t = 4
  · rw [if_pos h4] at h
    by_cases h9 : r.length + 1 < 2
    · rw [if_pos h9] at h; cases h
    rw [if_neg h9] at h
    by_cases h5 : (1 : Int) < r[0]?.getD 0
    · rw [if_pos h5] at h; cases h
    rw [if_neg h5] at h
    simp only [VR.ok.injEq] at h
    simp only [List.length_cons]; omega
  · rw [if_neg h4] at h; cases h
theorem rowsF_fuel : ∀ (f g p : Nat) (l : List Int), l.length ≤ f → l.length ≤ g → rowsF f p l = rowsF g p l
  | 0, 0, _, _, _, _ => rfl
  | 0, g + 1, p, l, h, _ => by
    have : l = [] := List.eq_nil_of_length_eq_zero (by omega)
    simp [rowsF, this]
  | f + 1, 0, p, l, _, h => by
    have : l = [] := List.eq_nil_of_length_eq_zero (by omega)
    simp [rowsF, this]
  | f + 1, g + 1, p, l, hf, hg => by
    simp only [rowsF]
    by_cases h0 : l = []
    · rw [if_pos h0, if_pos h0]
    rw [if_neg h0, if_neg h0]
    cases h1 : one l with
    | err e => rfl
    | ok v u =>
      have := one_used l v u h0 h1
      simp only
      rw [rowsF_fuel f g (p + u) (l.drop u) (by rw [List.length_drop]; omega) (by rw [List.length_drop]; omega)]
def rows (l : List Int) : RR := rowsF l.length 0 l
theorem keyV_ne (v : Val) : keyV v ≠ [] := by simp [keyV]
theorem rowsF_key : ∀ (r : List Val) (f p : Nat), (∀ x ∈ r, vld x = true ∧ x.OK) → (keyR r).length ≤ f → rowsF f p (keyR r) = .ok r
  | [], f, p, _, _ => by cases f <;> simp [rowsF, keyR]
  | v :: r, f, p, h, hf => by
    have h1 := h v (by simp)
    have e : keyR (v :: r) = keyV v ++ keyR r := by simp [keyR]
    have hlen : 1 ≤ (keyV v).length := by simp [keyV]
    rw [e] at hf ⊢
    rw [List.length_append] at hf
    obtain ⟨g, rfl⟩ : ∃ g, f = g + 1 := ⟨f - 1, by omega⟩
    rw [rowsF, if_neg (by simp [keyV]), one_key v _ h1.1 h1.2]
    simp only [List.drop_left]
    rw [rowsF_key r g _ (fun x hx => h x (by simp [hx])) (by omega)]
    rfl
theorem rows_key (r : List Val) (h : ∀ x ∈ r, vld x = true ∧ x.OK) : rows (keyR r) = .ok r := rowsF_key r _ 0 h (Nat.le_refl _)
theorem rowsF_back : ∀ (f p : Nat) (l : List Int) (r : List Val), Rng l → l.length ≤ f → rowsF f p l = .ok r → keyR r = l ∧ ∀ x ∈ r, vld x = true ∧ x.OK
  | 0, p, l, r, _, hf, h => by
    have : l = [] := List.eq_nil_of_length_eq_zero (by omega)
    simp only [rowsF, RR.ok.injEq] at h
    subst h; subst this
    exact ⟨rfl, fun x hx => by simp at hx⟩
  | f + 1, p, l, r, hr, hf, h => by
    rw [rowsF] at h
    by_cases h0 : l = []
    · rw [if_pos h0] at h
      simp only [RR.ok.injEq] at h
      subst h; subst h0
      exact ⟨rfl, fun x hx => by simp at hx⟩
    rw [if_neg h0] at h
    cases h1 : one l with
    | err e => rw [h1] at h; cases h
    | ok v u =>
      rw [h1] at h
      simp only at h
      obtain ⟨a, b, c, d, e⟩ := one_back l v u hr h0 h1
      cases h2 : rowsF f (p + u) (l.drop u) with
      | err e2 a2 => rw [h2] at h; cases h
      | ok r2 =>
        rw [h2] at h
        simp only [RR.app, List.singleton_append, RR.ok.injEq] at h
        subst h
        obtain ⟨k1, k2⟩ := rowsF_back f (p + u) (l.drop u) r2 (hr.drop u) (by rw [List.length_drop]; omega) h2
        refine ⟨?_, fun x hx => ?_⟩
        · have e : keyR (v :: r2) = keyV v ++ keyR r2 := by simp [keyR]
          rw [e, c, k1, List.take_append_drop]
        · rcases List.mem_cons.1 hx with rfl | hx
          · exact ⟨a, b⟩
          · exact k2 x hx
theorem rows_back (l : List Int) (r : List Val) (hr : Rng l) (h : rows l = .ok r) : keyR r = l ∧ ∀ x ∈ r, vld x = true ∧ x.OK := rowsF_back _ 0 l r hr (Nat.le_refl _) h
/-- the loop's step: a value more -/
theorem rows_step (l : List Int) (vs : List Val) (p : Nat) (v : Val) (u : Nat) (hp : p < l.length) (h : rows l = RR.app vs (rowsF (l.length - p) p (l.drop p))) (h1 : one (l.drop p) = .ok v u) :
    rows l = RR.app (vs ++ [v]) (rowsF (l.length - (p + u)) (p + u) (l.drop (p + u))) ∧ 1 ≤ u ∧ p + u ≤ l.length := by
  have hne : l.drop p ≠ [] := fun e => by have := congrArg List.length e; rw [List.length_drop] at this; simp at this; omega
  have hu := one_used _ v u hne h1
  rw [List.length_drop] at hu
  obtain ⟨f, hf⟩ : ∃ f, l.length - p = f + 1 := ⟨l.length - p - 1, by omega⟩
  refine ⟨?_, hu.1, by omega⟩
  rw [h, hf, rowsF, if_neg hne, h1]
  simp only
  rw [RR.app_app, List.drop_drop, rowsF_fuel f (l.length - (p + u)) (p + u) (l.drop (p + u)) (by rw [List.length_drop]; omega) (by rw [List.length_drop]; omega)]
theorem rows_err (l : List Int) (vs : List Val) (p : Nat) (e : Int) (hp : p < l.length) (h : rows l = RR.app vs (rowsF (l.length - p) p (l.drop p))) (h1 : one (l.drop p) = .err e) : rows l = .err e p := by
  have hne : l.drop p ≠ [] := fun e => by have := congrArg List.length e; rw [List.length_drop] at this; simp at this; omega
  obtain ⟨f, hf⟩ : ∃ f, l.length - p = f + 1 := ⟨l.length - p - 1, by omega⟩
  rw [h, hf, rowsF, if_neg hne, h1]
  rfl
theorem rows_end (l : List Int) (vs : List Val) (p : Nat) (hp : l.length ≤ p) (h : rows l = RR.app vs (rowsF (l.length - p) p (l.drop p))) : rows l = .ok vs := by
  rw [h, List.drop_of_length_le hp, show l.length - p = 0 by omega, rowsF, RR.app, List.append_nil]

end Go.Proofs.YtkajpcjmcpollaaDoor
