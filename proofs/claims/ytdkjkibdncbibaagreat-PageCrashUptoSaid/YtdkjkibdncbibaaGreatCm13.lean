import Derived.Test.YtdkjkibdncbibaaGreatCm09
import Derived.Test.YtdkjkibdncbibaaGreatCm12
namespace Go.Proofs.YtdkjkibdncbibaaGreat
open Go.RowKit
open Go.Lib (hid)
theorem wErr_in {nb rm fz n : Int} {dn : Bool} (h0 : 0 ≤ n) (h1 : n < nb) (h2 : n < rm) : wErr nb rm fz n dn = if opOk fz dn = true then 0 else 44 := by
 unfold wErr
 split
 ·rw [if_pos (by simp [hasB]; omega), if_neg (by omega)]
 ·rfl
theorem opDn_not (fz : Int) (dn : Bool) (h : ¬ opOk fz dn = true) : opDn fz dn = true := by
 have : opDn fz dn = !opOk fz dn := by simp [opDn, opOk]
 rw [this]
 cases hh : opOk fz dn
 ·rfl
 ·exact absurd hh h
theorem ws_down (nb rm : Int) : ∀ (l : List (Int × List Int)) (s : DS), (∀ x ∈ l, 0 ≤ x.1 ∧ x.1 < nb ∧ x.1 < rm) → (s.ws nb rm l).2 ≠ 0 → (s.ws nb rm l).1.dn = true
 | [], s, _, h => absurd rfl h
 | y :: r, s, hx, h => by
  obtain ⟨h0, h1, h2⟩ := hx y (List.mem_cons_self ..)
  unfold DS.ws at h ⊢
  by_cases he : s.we nb rm y.1 = 0
  ·rw [if_pos he] at h ⊢
   exact ws_down nb rm r _ (fun z hz => hx z (List.mem_cons_of_mem _ hz)) h
  ·rw [if_neg he]
   show opDn s.fz s.dn = true
   apply opDn_not
   intro ho
   exact he (by unfold DS.we; rw [wErr_in h0 h1 h2, if_pos ho])
theorem wsy_down {nb rm : Int} {l : List (Int × List Int)} {s : DS} (hx : ∀ x ∈ l, 0 ≤ x.1 ∧ x.1 < nb ∧ x.1 < rm) (h : (s.wsy nb rm l).2 ≠ 0) : (s.wsy nb rm l).1.dn = true := by
 unfold DS.wsy at h ⊢
 by_cases he : (s.ws nb rm l).2 = 0
 ·rw [if_pos he] at h ⊢
  show opDn _ _ = true
  apply opDn_not
  intro ho
  exact h (by dsimp only; unfold DS.se; rw [if_pos ho])
 ·rw [if_neg he]
  exact ws_down nb rm l s hx he
theorem tear_rng {b a : List Int} {t : Int} (hb : Rng b) (ha : Rng a) : Rng (tearL b a t) := by
 unfold tearL
 split
 ·exact ha
 ·exact rng_append (ha.take _) (hb.drop _)
theorem up_rng {nb rm : Int} {l : List (Int × List Int)} {s : DS} (hL : s.L = []) (hr : ∀ n, Rng (s.f n)) (hl : ∀ y ∈ l, Rng y.2) (h : (s.wsy nb rm l).2 ≠ 0) (ks : List Bool) (t : Int) (n : Int) : Rng (upF (s.wsy nb rm l).1.f (s.wsy nb rm l).1.L ks t n) := by
 obtain ⟨e1, e2⟩ := wsy_bad h
 obtain ⟨u1, u2⟩ := ws_undo nb rm l s
 rw [hL] at u1 u2
 rw [e1, e2]
 refine upF_every (S := fun _ b => Rng b) (fun n => by rw [u1]; exact hr n) (fun x hx => ?_) (fun x hx b hb => ?_) ks n
 ·rcases u2 x hx with h | ⟨y, hy, _, h2⟩
  ·cases h
  ·rw [h2]; exact hl y hy
 ·rcases u2 x hx with h | ⟨y, hy, _, h2⟩
  ·cases h
  ·rw [h2]; exact tear_rng hb (hl y hy)
section
variable {w w' : World} {B D M : Nat} {nb fz : Int} {f : Int → List Int} {lv : Value} {P : Nat} {fi sz : Int} {a b c : Nat} {rs : List (List Int)} {av : Value} {pe : List (List Int)}
end
end Go.Proofs.YtdkjkibdncbibaaGreat
namespace Go.Proofs.YtdkjkibdncbibaaGreat
open Go.RowKit
open Go.Lib (hid)
theorem encs_ge : ∀ (rs : List (List Int)), 8 * rs.length ≤ (encs rs).length
  | [] => Nat.le_refl _
  | r :: rs => by
    have := encs_ge rs
    rw [encs_cons]
    simp [be8_len]
    omega
end Go.Proofs.YtdkjkibdncbibaaGreat
namespace Go.Proofs.YtdkjkibdncbibaaGreat
open Go.RowKit
open Go.Lib (hid)
theorem upF_nil (f : Int → List Int) (ks : List Bool) (t : Int) : upF f [] ks t = f := by
 unfold upF
 rw [show survL [] ks = [] by cases ks <;> rfl]
 rfl
/-- the other mark's block: whatever is torn into it next, it is no later mark than the next one -/
def Cl (o : List Int) (a : Nat) : Prop := nAt o 5 ≤ a ∨ (nAt o 0 = a + 1 ∧ nAt o 5 ≠ a + 1)
theorem mb_take8 (a b c : Nat) : (mb a b c).take 8 = be8 a := by
 unfold mb mnums
 rw [List.flatMap_cons, List.append_assoc, List.take_left' (be8_len _)]
theorem Mk.torn2 {f : Int → List Int} {fi : Int} {a b c : Nat} (h : Mk f fi a b c) (b' c' : Nat) (t : Int) (o : List Int) (hol : o.length = 256) (hor : Rng o) (hcl : Cl o a) (ha : a + 1 < 18446744073709551616) (hb : b' < 18446744073709551616) (hc : c' < 18446744073709551616) :
  (Mk (fput f (fi + ((a + 1) % 2 : Nat)) (tearL o (mb (a + 1) b' c') t)) fi a b c ∧ Cl (tearL o (mb (a + 1) b' c') t) a) ∨ Mk (fput f (fi + ((a + 1) % 2 : Nat)) (tearL o (mb (a + 1) b' c') t)) fi (a + 1) b' c' := by
 have e1 : (a + 1 + 1) % 2 = a % 2 := by omega
 have hne : fi + ((a % 2 : Nat) : Int) ≠ fi + (((a + 1) % 2 : Nat) : Int) := by omega
 have hmt := take_tear o (mb (a + 1) b' c') t 8
 obtain ⟨o', hoe⟩ : ∃ o', tearL o (mb (a + 1) b' c') t = o' := ⟨_, rfl⟩
 rw [hoe] at hmt ⊢
 have hkeep : ¬ (okB o' = true ∧ nAt o' 0 % 2 = (a + 1) % 2 ∧ a < nAt o' 0) → Mk (fput f (fi + ((a + 1) % 2 : Nat)) o') fi a b c := fun hn => by
  refine ⟨?_, h.2.1, ?_⟩
  ·rw [fput_ne _ _ _ _ hne]; exact h.1
  ·rw [fput_at]; exact hn
 have hnew : okB o' = true → nAt o' 0 = a + 1 → nAt o' 1 = b' → nAt o' 2 = c' → Mk (fput f (fi + ((a + 1) % 2 : Nat)) o') fi (a + 1) b' c' := fun h1 h2 h3 h4 => by
  refine ⟨by rw [fput_at]; exact ⟨h1, h2, h3, h4⟩, by omega, ?_⟩
  rw [e1, fput_ne _ _ _ _ hne, h.1.2.1]
  omega
 have h05 : okB o' = true → nAt o' 0 = nAt o' 5 := fun hok => (of_decide_eq_true hok).1
 by_cases ht : 0 ≤ t ∧ t ≤ 40
 ·have h5 : nAt o' 5 = nAt o 5 := by
   rw [← hoe, tearL, if_neg (by omega), nAt_back _ _ _ _ (by omega) (by rw [mb_len]; omega)]
  left
  rcases hcl with h6 | ⟨h6, h7⟩
  ·exact ⟨hkeep (fun hh => by have := h05 hh.1; omega), .inl (by omega)⟩
  ·have h8 : o.take 8 = (mb (a + 1) b' c').take 8 := by
    rw [mb_take8, ← h6]
    unfold nAt
    rw [Nat.mul_zero, List.drop_zero, be8_beI (by rw [List.length_take]; omega) (hor.take _)]
   have h9 : nAt o' 0 = a + 1 := by
    rw [← h6]
    unfold nAt
    rw [Nat.mul_zero, List.drop_zero, List.drop_zero, hmt h8 (by rw [mb_len, hol])]
   exact ⟨hkeep (fun hh => by have := h05 hh.1; omega), .inr ⟨h9, by omega⟩⟩
 ·have hfr : ∀ j, j < 5 → nAt o' j = nAt (mb (a + 1) b' c') j := fun j hj => by
   rw [← hoe, tearL]
   split
   ·rfl
   ·exact nAt_front _ _ _ _ (by omega) (by rw [mb_len]; omega)
  have n0 : nAt o' 0 = a + 1 := by rw [hfr 0 (by decide)]; exact nAt_mb _ _ _ 0 _ rfl ha
  have n1 : nAt o' 1 = b' := by rw [hfr 1 (by decide)]; exact nAt_mb _ _ _ 1 _ rfl hb
  have n2 : nAt o' 2 = c' := by rw [hfr 2 (by decide)]; exact nAt_mb _ _ _ 2 _ rfl hc
  have n3 : nAt o' 3 = c' := by rw [hfr 3 (by decide)]; exact nAt_mb _ _ _ 3 _ rfl hc
  have n4 : nAt o' 4 = b' := by rw [hfr 4 (by decide)]; exact nAt_mb _ _ _ 4 _ rfl hb
  by_cases h5 : nAt o' 5 = a + 1
  ·right
   exact hnew (decide_eq_true ⟨by rw [n0, h5], by rw [n1, n4], by rw [n2, n3]⟩) n0 n1 n2
  ·left
   exact ⟨hkeep (fun hh => h5 (by rw [← h05 hh.1, n0])), .inr ⟨n0, h5⟩⟩
/-- what comes up behind a crash: the log as it was, or as it was to be; what can come next is known -/
def Up3 (g : Int → List Int) (fi : Int) (a b c : Nat) (rs : List (List Int)) (b' c' : Nat) (rs' : List (List Int)) : Prop :=
 (Mk g fi a b c ∧ Cl (g (fi + ((a + 1) % 2 : Nat))) a ∧ areaB g (fi + 2) c = encs rs) ∨ (Mk g fi (a + 1) b' c' ∧ Cl (g (fi + ((a + 1 + 1) % 2 : Nat))) (a + 1) ∧ areaB g (fi + 2) c' = encs rs')
theorem Mk.five {f : Int → List Int} {fi : Int} {a b c : Nat} (h : Mk f fi a b c) : nAt (f (fi + (a % 2 : Nat))) 5 = a := by
 rw [← (of_decide_eq_true h.1.1).1]
 exact h.1.2.1
theorem crash_mark3 {nb rm fi : Int} {s : DS} {a b c b' c' : Nat} {rs rs' : List (List Int)} (hL : s.L = []) (hmk : Mk s.f fi a b c) (hcl : Cl (s.f (fi + ((a + 1) % 2 : Nat))) a) (hfl : ∀ n, (s.f n).length = 256) (hfr : ∀ n, Rng (s.f n)) (ha : a + 1 < 18446744073709551616) (hb : b' < 18446744073709551616) (hc : c' < 18446744073709551616)
  (hA : areaB s.f (fi + 2) c = encs rs) (hA' : areaB s.f (fi + 2) c' = encs rs') (hbad : (s.wsy nb rm (mw fi (a + 1) b' c')).2 ≠ 0) (ks : List Bool) (t : Int) : Up3 (upF (s.wsy nb rm (mw fi (a + 1) b' c')).1.f (s.wsy nb rm (mw fi (a + 1) b' c')).1.L ks t) fi a b c rs b' c' rs' := by
 obtain ⟨e1, e2⟩ := wsy_bad hbad
 rw [e1, e2]
 have hn2 : ((a + 1) % 2 : Nat) < 2 := Nat.mod_lt _ (by decide)
 have hfar : ∀ (o : List Int) (k : Nat), areaB (fput s.f (fi + ((a + 1) % 2 : Nat)) o) (fi + 2) k = areaB s.f (fi + 2) k := fun o k => by
  unfold areaB
  rw [arB_same _ s.f _ _ (fun i _ => fput_ne _ _ _ _ (by omega))]
 have hws : ((s.ws nb rm (mw fi (a + 1) b' c')).1.f = s.f ∧ (s.ws nb rm (mw fi (a + 1) b' c')).1.L = []) ∨ ((s.ws nb rm (mw fi (a + 1) b' c')).1.f = fput s.f (fi + ((a + 1) % 2 : Nat)) (mb (a + 1) b' c') ∧ (s.ws nb rm (mw fi (a + 1) b' c')).1.L = [(fi + ((a + 1) % 2 : Nat), s.f (fi + ((a + 1) % 2 : Nat)), mb (a + 1) b' c')]) := by
  unfold mw DS.ws
  by_cases h : s.we nb rm (fi + ((a + 1) % 2 : Nat)) = 0
  ·right
   simp only [if_pos h, DS.ws]
   refine ⟨if_pos h, ?_⟩
   show (if _ = 0 then _ else _) = _
   rw [if_pos h, hL, List.nil_append]
  ·left
   simp only [if_neg h]
   refine ⟨if_neg h, ?_⟩
   show (if _ = 0 then _ else _) = _
   rw [if_neg h, hL]
 rcases hws with ⟨w1, w2⟩ | ⟨w1, w2⟩
 ·rw [w1, w2, upF_nil]
  exact .inl ⟨hmk, hcl, hA⟩
 ·rw [w1, w2]
  rcases upF_one s.f (fi + ((a + 1) % 2 : Nat)) (mb (a + 1) b' c') ks t with h | h
  ·rw [h]; exact .inl ⟨hmk, hcl, hA⟩
  ·rw [h]
   rcases hmk.torn2 b' c' t _ (hfl _) (hfr _) hcl ha hb hc with ⟨h1, h2⟩ | h1
   ·exact .inl ⟨h1, by rw [fput_at]; exact h2, by rw [hfar]; exact hA⟩
   ·refine .inr ⟨h1, .inl ?_, by rw [hfar]; exact hA'⟩
    rw [show (a + 1 + 1) % 2 = a % 2 by omega, fput_ne _ _ _ _ (by omega), hmk.five]
    omega
theorem crash_sync3 {nb rm fi : Int} {s : DS} {a b c : Nat} {rs pe : List (List Int)} (hL : s.L = []) (hf : ∀ n, (s.f n).length = 256) (hmk : Mk s.f fi a b c) (hcl : Cl (s.f (fi + ((a + 1) % 2 : Nat))) a) (hfr1 : ∀ n, Rng ((s.wsy nb rm (aw fi s c (encs pe))).1.f n)) (ha : a + 1 < 18446744073709551616) (hb : b < 18446744073709551616) (hc : c + (encs pe).length < 18446744073709551616)
  (hA : areaB s.f (fi + 2) c = encs rs) (h0 : 0 < (encs pe).length) (ks : List Bool) (t : Int) (hw : WOK (s.wsy nb rm (aw fi s c (encs pe))).1.L) (hfl : ∀ n, ((s.wsy nb rm (aw fi s c (encs pe))).1.f n).length = 256) :
  ((s.wsy nb rm (aw fi s c (encs pe))).2 ≠ 0 → Up3 (upF (s.wsy nb rm (aw fi s c (encs pe))).1.f (s.wsy nb rm (aw fi s c (encs pe))).1.L ks t) fi a b c rs b (c + (encs pe).length) (rs ++ pe)) ∧
  ((s.wsy nb rm (aw fi s c (encs pe))).2 = 0 → ((s.wsy nb rm (aw fi s c (encs pe))).1.wsy nb rm (mw fi (a + 1) b (c + (encs pe).length))).2 ≠ 0 → Up3 (upF ((s.wsy nb rm (aw fi s c (encs pe))).1.wsy nb rm (mw fi (a + 1) b (c + (encs pe).length))).1.f ((s.wsy nb rm (aw fi s c (encs pe))).1.wsy nb rm (mw fi (a + 1) b (c + (encs pe).length))).1.L ks t) fi a b c rs b (c + (encs pe).length) (rs ++ pe)) := by
 refine ⟨fun h => ?_, fun h h' => ?_⟩
 ·have hgl : ∀ n, (upF (s.wsy nb rm (aw fi s c (encs pe))).1.f (s.wsy nb rm (aw fi s c (encs pe))).1.L ks t n).length = 256 := fun n => redoF_len (undoF_len hfl _ hw) _ (fun y hy => hw y (survL_memL _ _ _ hy)) _ _ n
  obtain ⟨k1, k2⟩ := crash_area (nb := nb) (rm := rm) hL hf h ks t hgl
  have hn2 : ((a + 1) % 2 : Nat) < 2 := Nat.mod_lt _ (by decide)
  exact .inl ⟨hmk.away (k1 _ (by omega)) (k1 _ (by omega)), by rw [k1 _ (by omega)]; exact hcl, by rw [k2]; exact hA⟩
 ·obtain ⟨g1, g2, _⟩ := wsy_ok h
  generalize hs1 : (s.wsy nb rm (aw fi s c (encs pe))).1 = s1 at *
  have hfar : ∀ n, n < fi + 2 → s1.f n = s.f n := fun n hn => by
   rw [g1]
   exact fputs_far _ _ _ (fun y hy => by unfold aw at hy; have := wl_mem hy; omega)
  have har : areaB s1.f (fi + 2) (c + (encs pe).length) = areaB s.f (fi + 2) c ++ encs pe := area_sync s.f (fi + 2) c (encs pe) hf h0 s1.f (by rw [g1]; unfold aw; rw [show fi + (2 + ((c / 256 : Nat) : Int)) = fi + 2 + ((c / 256 : Nat) : Int) by omega]) hfl
  have harc : areaB s1.f (fi + 2) c = encs rs := by
   rw [← areaB_take s1.f (fi + 2) hfl c (c + (encs pe).length) (by omega), har, List.take_left' (areaB_len _ _ hf _)]
   exact hA
  have hn2 : ((a + 1) % 2 : Nat) < 2 := Nat.mod_lt _ (by decide)
  exact crash_mark3 g2 (hmk.away (hfar _ (by omega)) (hfar _ (by omega))) (by rw [hfar _ (by omega)]; exact hcl) hfl hfr1 ha hb hc harc (by rw [har, hA, encs_append]) h' ks t
/-- what is so of a log on a disk that has not failed: plain -/
structure Good (nb rm fz : Int) (f : Int → List Int) (fi sz : Int) (a b c : Nat) (rs pe : List (List Int)) : Prop where
 mkf : Mk f fi a b c
 clean : Cl (f (fi + ((a + 1) % 2 : Nat))) a
 area : areaB f (fi + 2) c = encs rs
 fits : ((c + (encs pe).length : Nat) : Int) ≤ (sz - 2) * 256
 rng : ∀ n, Rng (f n)
 fl : ∀ n, (f n).length = 256
 rrs : ∀ r ∈ rs, Rng r
 rpe : ∀ r ∈ pe, Rng r
 h1 : 0 ≤ fi
 h2 : 3 ≤ sz
 h3 : fi ≤ nb - sz
 h4 : nb ≤ 4096
 ha : a < 1099511627776
 hb : b < 1099511627776
section
variable {nb rm fz : Int} {f : Int → List Int} {fi sz : Int} {a b c : Nat} {rs pe : List (List Int)}
theorem Good.clen (h : Good nb rm fz f fi sz a b c rs pe) : (encs rs).length = c := by rw [← h.area]; exact areaB_len _ _ h.fl c
theorem Good.other (h : Good nb rm fz f fi sz a b c rs pe) (rm' fz' : Int) : Good nb rm' fz' f fi sz a b c rs pe := { h with }
/-- the reference's writes are the program's -/
theorem opDn_ok (fz : Int) (dn : Bool) : opDn fz dn = !opOk fz dn := by simp [opDn, opOk]
theorem ws_44 (nb rm : Int) : ∀ (l : List (Int × List Int)) (s : DS), (∀ x ∈ l, 0 ≤ x.1 ∧ x.1 < nb ∧ x.1 < rm) → (s.ws nb rm l).2 ≠ 0 → (s.ws nb rm l).2 = 44
 | [], s, _, h => absurd rfl h
 | y :: r, s, hx, h => by
  obtain ⟨h0, h1, h2⟩ := hx y (List.mem_cons_self ..)
  unfold DS.ws at h ⊢
  by_cases he : s.we nb rm y.1 = 0
  ·rw [if_pos he] at h ⊢
   exact ws_44 nb rm r _ (fun z hz => hx z (List.mem_cons_of_mem _ hz)) h
  ·rw [if_neg he]
   show s.we nb rm y.1 = 44
   unfold DS.we at he ⊢
   rw [wErr_in h0 h1 h2] at he ⊢
   split
   ·rename_i ho; rw [if_pos ho] at he; exact absurd rfl he
   ·rfl
theorem wsy_44 {nb rm : Int} {l : List (Int × List Int)} {s : DS} (hx : ∀ x ∈ l, 0 ≤ x.1 ∧ x.1 < nb ∧ x.1 < rm) (h : (s.wsy nb rm l).2 ≠ 0) : (s.wsy nb rm l).2 = 44 := by
 unfold DS.wsy at h ⊢
 by_cases he : (s.ws nb rm l).2 = 0
 ·rw [if_pos he] at h ⊢
  dsimp only at h ⊢
  unfold DS.se at h ⊢
  split
  ·rename_i ho; rw [if_pos ho] at h; exact absurd rfl h
  ·rfl
 ·rw [if_neg he]
  exact ws_44 nb rm l s hx he
/-- a first write that finds no room -/
theorem wsy_none {nb rm : Int} (x : Int × List Int) (l : List (Int × List Int)) {s : DS} (h0 : 0 ≤ x.1) (h1 : x.1 < nb) (h2 : rm ≤ x.1) :
  (s.wsy nb rm (x :: l)).1.f = s.f ∧ (s.wsy nb rm (x :: l)).1.L = s.L ∧ (((s.wsy nb rm (x :: l)).2 = 42 ∧ (s.wsy nb rm (x :: l)).1.dn = false) ∨ ((s.wsy nb rm (x :: l)).2 = 44 ∧ (s.wsy nb rm (x :: l)).1.dn = true)) := by
 have hb : hasB nb x.1 = true := by simp [hasB]; omega
 have he : s.we nb rm x.1 = if opOk s.fz s.dn = true then 42 else 44 := by
  unfold DS.we wErr
  by_cases ho : opOk s.fz s.dn = true
  ·rw [if_pos ho, if_pos ho, if_pos hb, if_pos h2]
  ·rw [if_neg ho, if_neg ho]
 have hne : s.we nb rm x.1 ≠ 0 := by rw [he]; split <;> decide
 rw [wsy_cons, if_neg hne]
 have hf : (s.wr nb rm x.1 x.2).f = s.f := by unfold DS.wr; dsimp only; rw [if_neg hne]
 have hL : (s.wr nb rm x.1 x.2).L = s.L := by unfold DS.wr; dsimp only; rw [if_neg hne]
 refine ⟨hf, hL, ?_⟩
 show (s.we nb rm x.1 = 42 ∧ opDn s.fz s.dn = false) ∨ (s.we nb rm x.1 = 44 ∧ opDn s.fz s.dn = true)
 rw [he, opDn_ok]
 by_cases ho : opOk s.fz s.dn = true
 ·rw [if_pos ho, ho]; exact .inl ⟨rfl, rfl⟩
 ·rw [if_neg ho, Bool.eq_false_iff.2 ho]; exact .inr ⟨rfl, rfl⟩
def SyRes (nb rm fi : Int) (a b c n : Nat) (s : DS) (A : List (Int × List Int)) (sF : DS) (E : Int) (aF cF : Nat) : Prop :=
 ((s.wsy nb rm A).2 ≠ 0 ∧ sF = (s.wsy nb rm A).1 ∧ E = (s.wsy nb rm A).2 ∧ aF = a ∧ cF = c) ∨
 ((s.wsy nb rm A).2 = 0 ∧ sF = ((s.wsy nb rm A).1.wsy nb rm (mw fi (a + 1) b (c + n))).1 ∧ E = ((s.wsy nb rm A).1.wsy nb rm (mw fi (a + 1) b (c + n))).2 ∧ aF = (if E = 0 then a + 1 else a) ∧ cF = (if E = 0 then c + n else c))
/-- what comes up behind a fall -/
def Fell (sF : DS) (fi : Int) (a b c : Nat) (rs : List (List Int)) (b' c' : Nat) (rs' : List (List Int)) : Prop :=
 sF.dn = true ∧ sF.L.length ≤ 8192 ∧ ∀ ks t, Up3 (upF sF.f sF.L ks t) fi a b c rs b' c' rs' ∧ ∀ n, Rng (upF sF.f sF.L ks t n)
theorem ws_rng {nb rm : Int} : ∀ {l : List (Int × List Int)} {s : DS}, (∀ y ∈ l, Rng y.2) → (∀ n, Rng (s.f n)) → ∀ n, Rng ((s.ws nb rm l).1.f n)
 | [], _, _, h => h
 | y :: r, s, hl, h => by
  have hw : ∀ n, Rng ((s.wr nb rm y.1 y.2).f n) := fun n => by
   unfold DS.wr
   dsimp only
   split
   ·by_cases hn : n = y.1
    ·rw [hn, fput_at]; exact hl y (List.mem_cons_self ..)
    ·rw [fput_ne _ _ _ _ hn]; exact h n
   ·exact h n
  unfold DS.ws
  split
  ·exact ws_rng (fun z hz => hl z (List.mem_cons_of_mem _ hz)) hw
  ·exact hw
theorem Good.sync (h : Good nb rm fz f fi sz a b c rs pe) (hpe : pe ≠ []) (ha1 : a + 1 < 1099511627776) {sF : DS} {E : Int} {aF cF : Nat} (hr : SyRes nb rm fi a b c (encs pe).length ⟨fz, false, f, []⟩ (aw fi ⟨fz, false, f, []⟩ c (encs pe)) sF E aF cF) (hLF : sF.L.length ≤ 8192) (hWF : WOK sF.L) (hFF : ∀ n, (sF.f n).length = 256) :
    (E = 0 ∧ sF.dn = false ∧ sF.L = [] ∧ aF = a + 1 ∧ cF = c + (encs pe).length ∧ Good nb rm sF.fz sF.f fi sz (a + 1) b (c + (encs pe).length) (rs ++ pe) []) ∨
    (E = 42 ∧ sF.dn = false ∧ sF.L = [] ∧ sF.f = f ∧ aF = a ∧ cF = c) ∨
    (E = 44 ∧ Fell sF fi a b c rs b (c + (encs pe).length) (rs ++ pe)) := by
  unfold SyRes at hr
  have h1 := h.h1; have h2 := h.h2; have h3 := h.h3; have h4 := h.h4; have hb' := h.hb
  have hcl := h.clean
  have hlen : 0 < (encs pe).length := by
    obtain ⟨r, pe', rfl⟩ := List.exists_cons_of_ne_nil hpe
    rw [encs_cons]; simp [be8_len]; omega
  have hfl := h.fl
  have hfit := h.fits
  have hcd : c = 256 * (c / 256) + c % 256 := (Nat.div_add_mod _ _).symm
  have hcl2 : c % 256 < 256 := Nat.mod_lt _ (by decide)
  have hk1 : 256 * ((c % 256 + (encs pe).length - 1) / 256) ≤ c % 256 + (encs pe).length - 1 := Nat.mul_div_le _ _
  have hN : fi + (2 + ((c / 256 : Nat) : Int)) + ((((c % 256 + (encs pe).length - 1) / 256 : Nat) : Nat) : Int) < nb := by omega
  have hall : Rng ((f (fi + (2 + (c / 256 : Nat)))).take (c % 256) ++ encs pe) := rng_append ((h.rng _).take _) (encs_rng h.rpe)
  have hawr : ∀ y ∈ aw fi ⟨fz, false, f, []⟩ c (encs pe), Rng y.2 := fun y hy => by unfold aw at hy; exact wl_rng hall _ y hy
  have hawl : ∀ y ∈ aw fi ⟨fz, false, f, []⟩ c (encs pe), y.2.length = 256 := fun y hy => by unfold aw at hy; exact wl_len hy
  by_cases hrm : rm ≤ fi + (2 + ((c / 256 : Nat) : Int)) + ((((c % 256 + (encs pe).length - 1) / 256 : Nat) : Nat) : Int)
  · obtain ⟨x0, tl, haw, hx0⟩ : ∃ x0 tl, aw fi ⟨fz, false, f, []⟩ c (encs pe) = x0 :: tl ∧ x0.1 = fi + (2 + ((c / 256 : Nat) : Int)) + ((((c % 256 + (encs pe).length - 1) / 256 : Nat) : Nat) : Int) := ⟨_, _, rfl, rfl⟩
    rw [haw] at hr
    obtain ⟨g1, g2, g3⟩ := wsy_none (nb := nb) (rm := rm) x0 tl (s := ⟨fz, false, f, []⟩) (by rw [hx0]; omega) (by rw [hx0]; exact hN) (by rw [hx0]; exact hrm)
    generalize DS.wsy nb rm ⟨fz, false, f, []⟩ (x0 :: tl) = W at *
    dsimp only at g1 g2
    rcases hr with ⟨_, rfl, rfl, e3, e4⟩ | ⟨h0, _⟩
    · rcases g3 with ⟨g3, g4⟩ | ⟨g3, g4⟩
      · exact .inr (.inl ⟨g3, g4, g2, g1, e3, e4⟩)
      · refine .inr (.inr ⟨g3, g4, hLF, fun ks t => ?_⟩)
        rw [g1, g2]
        rw [upF_nil]
        exact ⟨.inl ⟨h.mkf, h.clean, h.area⟩, h.rng⟩
    · exfalso
      rcases g3 with ⟨g3, _⟩ | ⟨g3, _⟩ <;> rw [g3] at h0 <;> exact absurd h0 (by decide)
  · have hawx : ∀ y ∈ aw fi ⟨fz, false, f, []⟩ c (encs pe), fi + 2 ≤ y.1 ∧ y.1 < nb ∧ y.1 < rm := fun y hy => by
      unfold aw at hy
      have := wl_mem hy
      omega
    have hmwx : ∀ y ∈ mw fi (a + 1) b (c + (encs pe).length), 0 ≤ y.1 ∧ y.1 < nb ∧ y.1 < rm := fun y hy => by
      rw [mw, List.mem_singleton] at hy
      subst hy
      show 0 ≤ fi + (((a + 1) % 2 : Nat) : Int) ∧ fi + (((a + 1) % 2 : Nat) : Int) < nb ∧ fi + (((a + 1) % 2 : Nat) : Int) < rm
      omega
    have hmwr : ∀ y ∈ mw fi (a + 1) b (c + (encs pe).length), Rng y.2 := fun y hy => by rw [mw, List.mem_singleton] at hy; subst hy; exact mb_rng _ _ _
    have hcs := fun ks t hfr1 hw hfl' => crash_sync3 (nb := nb) (rm := rm) (fi := fi) (s := ⟨fz, false, f, []⟩) (a := a) (b := b) (c := c) (rs := rs) (pe := pe) rfl hfl h.mkf hcl hfr1 (by omega) (by omega) (by omega) h.area hlen ks t hw hfl'
    by_cases hE1 : (DS.wsy nb rm ⟨fz, false, f, []⟩ (aw fi ⟨fz, false, f, []⟩ c (encs pe))).2 = 0
    · obtain ⟨k1, k2, k3⟩ := wsy_ok hE1
      have hw1 : WOK (DS.wsy nb rm ⟨fz, false, f, []⟩ (aw fi ⟨fz, false, f, []⟩ c (encs pe))).1.L := by rw [k2]; intro x hx; cases hx
      have hl1 : ∀ n, ((DS.wsy nb rm ⟨fz, false, f, []⟩ (aw fi ⟨fz, false, f, []⟩ c (encs pe))).1.f n).length = 256 := fun n => by rw [k1]; exact fputs_len _ _ hfl hawl n
      have hr1 : ∀ n, Rng ((DS.wsy nb rm ⟨fz, false, f, []⟩ (aw fi ⟨fz, false, f, []⟩ c (encs pe))).1.f n) := fun n => by rw [k1]; exact fputs_rng _ _ h.rng hawr n
      have hcs2 := fun ks t => (hcs ks t hr1 hw1 hl1).2 hE1
      rcases hr with ⟨hne, _⟩ | ⟨_, e1, e2, e3, e5⟩
      · exact absurd hE1 hne
      · have hfar : ∀ n, n < fi + 2 → (DS.wsy nb rm ⟨fz, false, f, []⟩ (aw fi ⟨fz, false, f, []⟩ c (encs pe))).1.f n = f n := fun n hn => by
          rw [k1]
          exact fputs_far _ _ _ (fun y hy => by have := hawx y hy; omega)
        have har : areaB (DS.wsy nb rm ⟨fz, false, f, []⟩ (aw fi ⟨fz, false, f, []⟩ c (encs pe))).1.f (fi + 2) (c + (encs pe).length) = encs (rs ++ pe) := by
          rw [area_sync f (fi + 2) c (encs pe) hfl hlen _ (by rw [k1]; unfold aw; rw [show fi + (2 + ((c / 256 : Nat) : Int)) = fi + 2 + ((c / 256 : Nat) : Int) by omega]) hl1, h.area, encs_append]
        generalize hs1 : (DS.wsy nb rm ⟨fz, false, f, []⟩ (aw fi ⟨fz, false, f, []⟩ c (encs pe))).1 = s1 at *
        by_cases hE2 : (s1.wsy nb rm (mw fi (a + 1) b (c + (encs pe).length))).2 = 0
        · obtain ⟨m1, m2, m3⟩ := wsy_ok hE2
          have hE : E = 0 := e2.trans hE2
          rw [if_pos hE] at e3 e5
          subst e1 e3 e5
          have hn2 : ((a + 1) % 2 : Nat) < 2 := Nat.mod_lt _ (by decide)
          have hn3 : (a % 2 : Nat) < 2 := Nat.mod_lt _ (by decide)
          have hne2 : fi + ((a % 2 : Nat) : Int) ≠ fi + (((a + 1) % 2 : Nat) : Int) := by omega
          refine .inl ⟨hE, m3, m2, rfl, rfl, { mkf := ?_, clean := ?_, area := ?_, fits := ?_, rng := ?_, fl := ?_, rrs := (fun r hr => (List.mem_append.1 hr).elim (h.rrs r) (h.rpe r)), rpe := (fun r hr => by cases hr), h1 := h1, h2 := h2, h3 := h3, h4 := h4, ha := ha1, hb := hb' }⟩
          · rw [m1]
            exact (h.mkf.away (hfar _ (by omega)) (hfar _ (by omega))).next b (c + (encs pe).length) (by omega) (by omega) (by omega)
          · left
            rw [m1, show (a + 1 + 1) % 2 = a % 2 by omega]
            show nAt (fput s1.f _ _ _) 5 ≤ _
            rw [fput_ne _ _ _ _ hne2, hfar _ (by omega), h.mkf.five]
            omega
          · rw [m1, ← har]
            unfold areaB
            rw [arB_same (fputs s1.f (mw fi (a + 1) b (c + (encs pe).length))) s1.f (fi + 2) _ (fun i _ => (fput_ne s1.f (fi + ((a + 1) % 2 : Nat)) (fi + 2 + (i : Int)) (mb (a + 1) b (c + (encs pe).length)) (by omega) : fputs s1.f (mw fi (a + 1) b (c + (encs pe).length)) (fi + 2 + (i : Int)) = s1.f (fi + 2 + (i : Int))))]
          · rw [show encs ([] : List (List Int)) = [] from rfl, List.length_nil]; omega
          · intro n; rw [m1]; exact fputs_rng _ _ hr1 hmwr n
          · intro n; rw [m1]; exact fputs_len _ _ hl1 (fun x hx => by rw [mw, List.mem_singleton] at hx; subst hx; exact mb_len _ _ _) n
        · have hE : E = 44 := e2.trans (wsy_44 hmwx hE2)
          subst e1
          exact .inr (.inr ⟨hE, wsy_down hmwx hE2, hLF, fun ks t => ⟨hcs2 ks t hE2, up_rng k2 hr1 hmwr hE2 ks t⟩⟩)
    · rcases hr with ⟨_, e1, e2, _⟩ | ⟨h0, _⟩
      · have hE : E = 44 := e2.trans (wsy_44 (fun y hy => ⟨by have := hawx y hy; omega, (hawx y hy).2⟩) hE1)
        have hdn := wsy_down (nb := nb) (rm := rm) (fun y hy => ⟨by have := hawx y hy; omega, (hawx y hy).2⟩) hE1
        obtain ⟨b1, b2⟩ := wsy_bad hE1
        obtain ⟨u1, u2⟩ := ws_undo nb rm (aw fi ⟨fz, false, f, []⟩ c (encs pe)) ⟨fz, false, f, []⟩
        subst e1
        refine .inr (.inr ⟨hE, hdn, hLF, fun ks t => ⟨(hcs ks t ?_ ?_ ?_).1 hE1, up_rng rfl h.rng hawr hE1 ks t⟩⟩)
        · intro n; rw [b1]; exact ws_rng hawr h.rng n
        · exact hWF
        · exact hFF
      · exact absurd h0 hE1
end
end Go.Proofs.YtdkjkibdncbibaaGreat
namespace Go.Proofs.YtdkjkibdncbibaaGreat
open Go.RowKit
open Go.Lib (hid)
open Go.RowKit
open Go.Lib (hid)
section
variable {nb rm fz : Int} {f : Int → List Int} {fi sz : Int} {a b c : Nat} {rs pe : List (List Int)}
theorem Good.restart (h : Good nb rm fz f fi sz a b c rs []) (ha1 : a + 1 < 1099511627776) (hb1 : b + 1 < 1099511627776) {sF : DS} {E : Int} {aF bF cF : Nat}
  (hs : sF = (DS.wsy nb rm ⟨fz, false, f, []⟩ (mw fi (a + 1) (b + 1) 0)).1) (hE : E = (DS.wsy nb rm ⟨fz, false, f, []⟩ (mw fi (a + 1) (b + 1) 0)).2) (e1 : aF = if E = 0 then a + 1 else a) (e2 : bF = if E = 0 then b + 1 else b) (e3 : cF = if E = 0 then 0 else c) (hLF : sF.L.length ≤ 8192) :
  (E = 0 ∧ sF.dn = false ∧ sF.L = [] ∧ aF = a + 1 ∧ bF = b + 1 ∧ cF = 0 ∧ Good nb rm sF.fz sF.f fi sz (a + 1) (b + 1) 0 [] []) ∨
  (E = 42 ∧ sF.dn = false ∧ sF.L = [] ∧ sF.f = f ∧ aF = a ∧ bF = b ∧ cF = c) ∨
  (E = 44 ∧ Fell sF fi a b c rs (b + 1) 0 []) := by
 have h1 := h.h1; have h2 := h.h2; have h3 := h.h3; have h4 := h.h4
 have hn2 : ((a + 1) % 2 : Nat) < 2 := Nat.mod_lt _ (by decide)
 have hn3 : (a % 2 : Nat) < 2 := Nat.mod_lt _ (by decide)
 have hne2 : fi + ((a % 2 : Nat) : Int) ≠ fi + (((a + 1) % 2 : Nat) : Int) := by omega
 have hmwr : ∀ y ∈ mw fi (a + 1) (b + 1) 0, Rng y.2 := fun y hy => by rw [mw, List.mem_singleton] at hy; subst hy; exact mb_rng _ _ _
 by_cases hrm : rm ≤ fi + (((a + 1) % 2 : Nat) : Int)
 ·obtain ⟨g1, g2, g3⟩ := wsy_none (nb := nb) (rm := rm) (fi + (((a + 1) % 2 : Nat) : Int), mb (a + 1) (b + 1) 0) [] (s := ⟨fz, false, f, []⟩) (by dsimp only; omega) (by dsimp only; omega) hrm
  rw [show [(fi + (((a + 1) % 2 : Nat) : Int), mb (a + 1) (b + 1) 0)] = mw fi (a + 1) (b + 1) 0 from rfl] at g1 g2 g3
  generalize DS.wsy nb rm ⟨fz, false, f, []⟩ (mw fi (a + 1) (b + 1) 0) = W at *
  dsimp only at g1 g2
  subst hs hE
  rcases g3 with ⟨g3, g4⟩ | ⟨g3, g4⟩
  ·have hn : W.2 ≠ 0 := by rw [g3]; decide
   rw [if_neg hn] at e1 e2 e3
   exact .inr (.inl ⟨g3, g4, g2, g1, e1, e2, e3⟩)
  ·refine .inr (.inr ⟨g3, g4, hLF, fun ks t => ?_⟩)
   rw [g1, g2, upF_nil]
   exact ⟨.inl ⟨h.mkf, h.clean, h.area⟩, h.rng⟩
 ·have hmwx : ∀ y ∈ mw fi (a + 1) (b + 1) 0, 0 ≤ y.1 ∧ y.1 < nb ∧ y.1 < rm := fun y hy => by
   rw [mw, List.mem_singleton] at hy
   subst hy
   show 0 ≤ fi + (((a + 1) % 2 : Nat) : Int) ∧ fi + (((a + 1) % 2 : Nat) : Int) < nb ∧ fi + (((a + 1) % 2 : Nat) : Int) < rm
   omega
  by_cases hE2 : (DS.wsy nb rm ⟨fz, false, f, []⟩ (mw fi (a + 1) (b + 1) 0)).2 = 0
  ·obtain ⟨m1, m2, m3⟩ := wsy_ok hE2
   have hE0 : E = 0 := hE.trans hE2
   rw [if_pos hE0] at e1 e2 e3
   subst hs
   dsimp only at m1
   refine .inl ⟨hE0, m3, m2, e1, e2, e3, { mkf := ?_, clean := ?_, area := ?_, fits := ?_, rng := ?_, fl := ?_, rrs := (fun r hr => by cases hr), rpe := (fun r hr => by cases hr), h1 := h1, h2 := h2, h3 := h3, h4 := h4, ha := ha1, hb := hb1 }⟩
   ·rw [m1]
    exact h.mkf.next (b + 1) 0 (by omega) (by omega) (by omega)
   ·left
    rw [m1, show (a + 1 + 1) % 2 = a % 2 by omega]
    show nAt (fput f _ _ _) 5 ≤ _
    rw [fput_ne _ _ _ _ hne2, h.mkf.five]
    omega
   ·rfl
   ·rw [show encs ([] : List (List Int)) = [] from rfl, List.length_nil]; omega
   ·intro n; rw [m1]; exact fputs_rng _ _ h.rng hmwr n
   ·intro n; rw [m1]; exact fputs_len _ _ h.fl (fun x hx => by rw [mw, List.mem_singleton] at hx; subst hx; exact mb_len _ _ _) n
  ·subst hs
   have hc := fun ks t => crash_mark3 (nb := nb) (rm := rm) (fi := fi) (s := ⟨fz, false, f, []⟩) (a := a) (b := b) (c := c) (b' := b + 1) (c' := 0) (rs := rs) (rs' := []) rfl h.mkf h.clean h.fl h.rng (by omega) (by omega) (by omega) h.area rfl hE2 ks t
   exact .inr (.inr ⟨hE.trans (wsy_44 hmwx hE2), wsy_down hmwx hE2, hLF, fun ks t => ⟨hc ks t, up_rng rfl h.rng hmwr hE2 ks t⟩⟩)
/-- what stands on the disk that came up -/
theorem Good.up3 {g : Int → List Int} {b' c' : Nat} {rs' : List (List Int)} (h : Good nb rm fz f fi sz a b c rs pe) (hu : Up3 g fi a b c rs b' c' rs') (hr : ∀ n, Rng (g n)) (hg : ∀ n, (g n).length = 256) (ha1 : a + 1 < 1099511627776) (hb1 : b' < 1099511627776) (hf : (c' : Int) ≤ (sz - 2) * 256) (hrs' : ∀ r ∈ rs', Rng r) (rm' fz' : Int) :
  Good nb rm' fz' g fi sz a b c rs [] ∨ Good nb rm' fz' g fi sz (a + 1) b' c' rs' [] := by
 rcases hu with ⟨u1, u2, u3⟩ | ⟨u1, u2, u3⟩
 ·exact .inl { mkf := u1, clean := u2, area := u3, fits := (by rw [show encs ([] : List (List Int)) = [] from rfl, List.length_nil]; have := h.fits; omega), rng := hr, fl := hg, rrs := h.rrs, rpe := (fun r hr => by cases hr), h1 := h.h1, h2 := h.h2, h3 := h.h3, h4 := h.h4, ha := h.ha, hb := h.hb }
 ·exact .inr { mkf := u1, clean := u2, area := u3, fits := (by rw [show encs ([] : List (List Int)) = [] from rfl, List.length_nil]; omega), rng := hr, fl := hg, rrs := hrs', rpe := (fun r hr => by cases hr), h1 := h.h1, h2 := h.h2, h3 := h.h3, h4 := h.h4, ha := ha1, hb := hb1 }
end
end Go.Proofs.YtdkjkibdncbibaaGreat
namespace Go.Proofs.YtdkjkibdncbibaaGreat
open Go.RowKit
open Go.Lib (hid)
open Go.RowKit
open Go.Lib (hid)
end Go.Proofs.YtdkjkibdncbibaaGreat
namespace Go.Proofs.YtdkjkibdncbibaaGreat
open Go.RowKit
open Go.Lib (hid)
open Go.RowKit
open Go.Lib (hid)
/-- the program's log on a disk in any state -/
structure LS (w : World) (B D M : Nat) (nb rm : Int) (s : DS) (lv : Value) (P : Nat) (fi sz : Int) (a b c : Nat) (av : Value) (pe : List (List Int)) : Prop where
 dk : DkS w B D M nb rm s lv
 box : LgIs w P D fi sz a b c av
 own : Own w B av (encs pe)
 nf : ¬ Foot D M lv P
 ne : av.ownBlock ≠ some P
 af : ∀ g, av.ownBlock = some g → ¬ Foot D M lv g
 base : B ≤ P
section
variable {w w' : World} {B D M : Nat} {nb rm : Int} {s : DS} {lv : Value} {P : Nat} {fi sz : Int} {a b c : Nat} {av : Value} {pe rs : List (List Int)}
theorem LS.lt (h : LS w B D M nb rm s lv P fi sz a b c av pe) : ∀ k, LFoot D M lv P av k → B ≤ k ∧ k < w.heap.size := by
 intro k hk
 rcases hk with hk | rfl | hk
 ·exact h.dk.foot k hk
 ·exact ⟨h.base, h.box.lt⟩
 ·exact h.own.lt k hk
theorem LS.chg (h : LS w B D M nb rm s lv P fi sz a b c av pe) {F : Nat → Prop} (hc : Chg F w w') (hF : ∀ k, LFoot D M lv P av k → ¬ F k) : LS w' B D M nb rm s lv P fi sz a b c av pe :=
 { h with dk := Dk.chg h.dk hc (fun k hk => hF k (.inl hk)), box := h.box.chg hc (hF P (.inr (.inl rfl))), own := h.own.chg hc (fun g hg => hF g (.inr (.inr hg))) }
theorem LS.hB (h : LS w B D M nb rm s lv P fi sz a b c av pe) : B ≤ w.heap.size := by have := h.lt P (.inr (.inl rfl)); omega
def LE (B D M : Nat) (nb rm : Int) (s' : DS) (lv : Value) (P : Nat) (fi sz : Int) (a' b' c' : Nat) (av : Value) (pe' : List (List Int)) (w w' : World) : Prop :=
 ∃ lv' av', LS w' B D M nb rm s' lv' P fi sz a' b' c' av' pe' ∧ Chg (LFoot D M lv P av) w w' ∧ (∀ k, LFoot D M lv' P av' k → LFoot D M lv P av k ∨ w.heap.size ≤ k)
theorem LS.append (h : LS w B D M nb rm s lv P fi sz a b c av pe) (v2 : Value) (m : List Int) (hbs : Bs w v2 m) (hnb : ∀ ad n c, v2 = .slice (some ad) n c → 0 < m.length → av.ownBlock ≠ some ad.block) (h2 : 3 ≤ sz) (h4 : sz ≤ 4096) (hc : c ≤ 1048576) (hp : (encs pe).length ≤ 1048576) (hm : m.length ≤ 16777216) :
  Calls Tryz.prog 100 #[.pointer (some ⟨P, 0, none⟩), v2] w fun e w' => e = .returned (.int .i64 (if fitsL sz c (encs pe).length m.length = true then 0 else 42)) ∧ LE B D M nb rm s lv P fi sz a b c av (if fitsL sz c (encs pe).length m.length = true then pe ++ [m] else pe) w w' := by
 refine (append_any B P D fi sz a b c av v2 (encs pe) m w h.box h.own h.ne h.hB hbs hnb h2 h4 hc hp hm).mono ?_
 rintro e w' ⟨rfl, av', hp, ho, hc, ht⟩
 have hfoot : ∀ k, LFoot D M lv P av' k → LFoot D M lv P av k ∨ w.heap.size ≤ k := by
  intro k hk
  rcases hk with hk | hk | hk
  ·exact .inl (.inl hk)
  ·exact .inl (.inr (.inl hk))
  ·exact (ht k hk).imp (fun h => .inr (.inr h)) id
 have hap : ∀ k, Foot D M lv k → ¬ (k = P ∨ av.ownBlock = some k) := fun k hk e => e.elim (fun e => h.nf (by rw [← e]; exact hk)) (fun e => h.af k e hk)
 have hne : av'.ownBlock ≠ some P := fun e => (ht P e).elim h.ne (fun h' => by have := h.box.lt; omega)
 have haf : ∀ g, av'.ownBlock = some g → ¬ Foot D M lv g := fun g hg hk => (ht g hg).elim (fun e => h.af g e hk) (fun h' => by have := (h.dk.foot g hk).2; omega)
 refine ⟨rfl, lv, av', ?_, hc.mono (fun k hk => hk.elim (fun h => .inr (.inl h)) (fun h => .inr (.inr h))), hfoot⟩
 refine { h with dk := Dk.chg h.dk hc hap, box := hp, own := ?_, ne := hne, af := haf }
 by_cases hf : fitsL sz c (encs pe).length m.length = true
 ·rw [if_pos hf] at ho ⊢
  rw [encs_snoc]; exact ho
 ·rw [if_neg hf] at ho ⊢
  exact ho
theorem LS.sync (h : LS w B D M nb rm s lv P fi sz a b c av pe) (hdn : s.dn = false) (h1 : 0 ≤ fi) (h2 : 3 ≤ sz) (h3 : fi ≤ nb - sz) (h4 : nb ≤ 4096) (hne : pe ≠ []) (hen : ((c + (encs pe).length : Nat) : Int) ≤ (sz - 2) * 256) (ha : a < 1099511627776) (hb : b < 1099511627776) (hL : s.L.length ≤ 268421000) :
  Calls Tryz.prog 86 #[.pointer (some ⟨P, 0, none⟩)] w fun e w' => ∃ sF E aF cF, e = .returned (.int .i64 E) ∧ LE B D M nb rm sF lv P fi sz aF b cF av [] w w' ∧ SyRes nb rm fi a b c (encs pe).length s (aw fi s c (encs pe)) sF E aF cF := by
 have hlen : 0 < (encs pe).length := by
  obtain ⟨r, pe', rfl⟩ := List.exists_cons_of_ne_nil hne
  rw [encs_cons]; simp [be8_len]; omega
 refine (sync_some B D M nb rm P fi sz a b c av (encs pe) s lv w h.dk h.box h.own h.nf h.ne hdn h1 (by omega) h2 h4 hlen hen ha hb hL).mono ?_
 rintro e w' ⟨sF, E, aF, bF, cF, lv', rfl, hd, hp, hc, hf, hres⟩
 have hbF : bF = b := hres.elim (fun h => h.2.2.2.2.1) (fun h => h.2.2.2.2.1)
 subst hbF
 refine ⟨sF, E, aF, cF, rfl, ⟨lv', .slice none 0 0, { dk := hd, box := hp, own := Own.nil _ _, nf := fun e => (hf P e).elim h.nf (fun h' => by have := h.box.lt; omega), ne := (fun e => by cases e), af := (fun g e => by cases e), base := h.base }, hc.mono (fun k hk => hk.elim .inl (fun h => .inr (.inl h))), fun k hk => ?_⟩, hres.imp (fun h => ⟨h.1, h.2.1, h.2.2.1, h.2.2.2.1, h.2.2.2.2.2⟩) (fun h => ⟨h.1, h.2.1, h.2.2.1, h.2.2.2.1, h.2.2.2.2.2⟩)⟩
 rcases hk with hk | hk | hk
 ·exact (hf k hk).imp .inl id
 ·exact .inl (.inr (.inl hk))
 ·cases hk
theorem LS.restart (h : LS w B D M nb rm s lv P fi sz a b c av []) (h1 : 0 ≤ fi) (h2 : fi ≤ 4096) (ha : a < 1099511627776) (hb : b < 1099511627776) (hL : s.L.length ≤ 268421000) :
  Calls Tryz.prog 80 #[.pointer (some ⟨P, 0, none⟩)] w fun e w' => e = .returned (.int .i64 (s.wsy nb rm (mw fi (a + 1) (b + 1) 0)).2) ∧ LE B D M nb rm (s.wsy nb rm (mw fi (a + 1) (b + 1) 0)).1 lv P fi sz (if (s.wsy nb rm (mw fi (a + 1) (b + 1) 0)).2 = 0 then a + 1 else a) (if (s.wsy nb rm (mw fi (a + 1) (b + 1) 0)).2 = 0 then b + 1 else b) (if (s.wsy nb rm (mw fi (a + 1) (b + 1) 0)).2 = 0 then 0 else c) av [] w w' := by
 obtain ⟨sa, sc, e⟩ := own_form h.own
 have hbx := h.box
 rw [e] at hbx
 refine (restart_nil B D M nb rm P fi sz a b c sa sc s lv w h.dk hbx h.nf ⟨h1, h2⟩ ha hb (by omega)).mono ?_
 rintro e' w' ⟨rfl, lv', hd, hp, hc, hf⟩
 rw [show (encs ([] : List (List Int))).length = 0 from rfl] at e
 refine ⟨rfl, lv', av, { dk := hd, box := by rw [e]; exact hp, own := h.own.chg hc (fun g hg => fun e' => e'.elim (h.af g hg) (fun e' => h.ne (by rw [hg, e']))), nf := fun e => (hf P e).elim h.nf (fun h' => by have := h.box.lt; omega), ne := h.ne, af := fun g hg e' => (hf g e').elim (h.af g hg) (fun h' => by have := h.own.lt g hg; omega), base := h.base }, hc.mono (fun k hk => hk.elim .inl (fun h => .inr (.inl h))), fun k hk => ?_⟩
 rcases hk with hk | hk | hk
 ·exact (hf k hk).imp .inl id
 ·exact .inl (.inr (.inl hk))
 ·exact .inl (.inr (.inr hk))
end
end Go.Proofs.YtdkjkibdncbibaaGreat
/- a pager's state -/
namespace Go.Proofs.YtdkjkibdncbibaaGreat
open Go.RowKit
open Go.Lib (hid)
/-- what stays: the first block of one's own, the disk's two blocks, the log's, the pager's; the disk's size and room, the log's size, how many pages may be held -/
structure PK where
 B : Nat
 D : Nat
 M : Nat
 Pl : Nat
 P : Nat
 nb : Int
 rm : Int
 sz : Int
 most : Int
/-- what turns -/
structure PV where
 s : DS
 lv : Value
 a : Nat
 b : Nat
 c : Nat
 av : Value
 pe : List (List Int)
 Lm : Nat
 en : Int
 C : Nat
 ov : Value
 h0 : List Nat
 h1 : List Nat
 Hm : Nat
 lg : List (Int × Int)
 ca : List (Int × List Int)
 od : List Int
 ch : List (Int × List Int)
def HV (ns : List Nat) : List Value := ns.map fun n : Nat => Value.int .u64 (n : Int)
/-- a pager's cells -/
def PCl (k : PK) (v : PV) : List Value :=
 [.pointer (some ⟨k.Pl, 0, none⟩), .pointer (some ⟨k.D, 0, none⟩), .int .i64 k.sz, .map (some v.Lm), .int .i64 v.en, .int .i64 k.most, .map (some v.C), v.ov] ++ HV v.h0 ++ HV v.h1 ++ [.map (some v.Hm)]
def PC (k : PK) (v : PV) : Array Value := (PCl k v).toArray
def PF (k : PK) (v : PV) (g : Nat) : Prop := LFoot k.D k.M v.lv k.Pl v.av g ∨ g = k.P ∨ g = v.Lm ∨ g = v.C ∨ g = v.Hm ∨ v.ov.ownBlock = some g
/-- each block has one use -/
structure Apart (k : PK) (v : PV) (u : Nat → Nat) : Prop where
 l : ∀ g, LFoot k.D k.M v.lv k.Pl v.av g → u g = 0
 p : u k.P = 1
 m : u v.Lm = 2
 c : u v.C = 3
 h : u v.Hm = 4
 o : ∀ g, v.ov.ownBlock = some g → u g = 5
structure PgS (k : PK) (v : PV) (w : World) : Prop where
 ls : LS w k.B k.D k.M k.nb k.rm v.s v.lv k.Pl 0 k.sz v.a v.b v.c v.av v.pe
 box : w.heap[k.P]? = some (.cells (PC k v) 82 (0, 0))
 lg : MapG (Value.int .i64) w v.Lm v.lg
 ca : MapG blkV w v.C v.ca
 ch : MapG blkV w v.Hm v.ch
 ord : OrdIs w k.B v.ov v.od
 l0 : v.h0.length = 18
 l1 : v.h1.length = 18
 bp : k.B ≤ k.P
 bm : k.B ≤ v.Lm
 bc : k.B ≤ v.C
 bh : k.B ≤ v.Hm
 ap : ∃ u, Apart k v u
section
variable {k : PK} {v : PV} {w w' : World}
theorem HV_len (ns : List Nat) : (HV ns).length = ns.length := by simp [HV]
theorem PC_lo (i : Nat) (hi : i < 8) : (PC k v)[i]? = ([.pointer (some ⟨k.Pl, 0, none⟩), .pointer (some ⟨k.D, 0, none⟩), .int .i64 k.sz, .map (some v.Lm), .int .i64 v.en, .int .i64 k.most, .map (some v.C), v.ov] : List Value)[i]? := by
 simp only [PC, PCl, List.getElem?_toArray, List.append_assoc]
 rw [List.getElem?_append_left (by simpa using hi)]
theorem PC_h0 (i : Nat) (h0 : v.h0.length = 18) (hi : i < 18) : (PC k v)[8 + i]? = (HV v.h0)[i]? := by
 simp only [PC, PCl, List.getElem?_toArray, List.append_assoc]
 rw [List.getElem?_append_right (by simp), List.getElem?_append_left (by simp [HV_len, h0]; omega)]
 congr 1
 simp
theorem PC_h1 (i : Nat) (h0 : v.h0.length = 18) (h1 : v.h1.length = 18) (hi : i < 18) : (PC k v)[26 + i]? = (HV v.h1)[i]? := by
 simp only [PC, PCl, List.getElem?_toArray, List.append_assoc]
 rw [List.getElem?_append_right (by simp; omega), List.getElem?_append_right (by simp [HV_len, h0]; omega), List.getElem?_append_left (by simp [HV_len, h0, h1]; omega)]
 congr 1
 simp [HV_len, h0]
 omega
theorem PC_44 (h0 : v.h0.length = 18) (h1 : v.h1.length = 18) : (PC k v)[44]? = some (.map (some v.Hm)) := by
 simp only [PC, PCl, List.getElem?_toArray, List.append_assoc]
 rw [List.getElem?_append_right (by simp), List.getElem?_append_right (by simp [HV_len, h0]), List.getElem?_append_right (by simp [HV_len, h0, h1])]
 simp [HV_len, h0, h1]
theorem PC_set7 (x : Value) : (PC k v).setIfInBounds 7 x = PC k { v with ov := x } := by simp [PC, PCl]
theorem PC_set3 (x : Nat) : (PC k v).setIfInBounds 3 (.map (some x)) = PC k { v with Lm := x } := by simp [PC, PCl]
theorem PC_set4 (x : Int) : (PC k v).setIfInBounds 4 (.int .i64 x) = PC k { v with en := x } := by simp [PC, PCl]
theorem PgS.ltP (h : PgS k v w) : k.P < w.heap.size := (Array.getElem?_eq_some_iff.1 h.box).1
theorem PgS.lt (h : PgS k v w) : ∀ g, PF k v g → k.B ≤ g ∧ g < w.heap.size := by
 intro g hg
 rcases hg with hg | rfl | rfl | rfl | rfl | hg
 ·exact h.ls.lt g hg
 ·exact ⟨h.bp, h.ltP⟩
 ·exact ⟨h.bm, h.lg.lt⟩
 ·exact ⟨h.bc, h.ca.lt⟩
 ·exact ⟨h.bh, h.ch.lt⟩
 ·exact h.ord.lt g hg
theorem PgS.hB (h : PgS k v w) : k.B ≤ w.heap.size := by have := h.lt k.P (.inr (.inl rfl)); omega
theorem PgS.chg (h : PgS k v w) {F : Nat → Prop} (hc : Chg F w w') (hF : ∀ g, PF k v g → ¬ F g) : PgS k v w' :=
  { h with
    ls := h.ls.chg hc (fun g hg => hF g (.inl hg))
    box := (hc.block k.P h.ltP (hF _ (.inr (.inl rfl)))).trans h.box
    lg := h.lg.of (hc.block _ h.lg.lt (hF _ (.inr (.inr (.inl rfl)))))
    ca := h.ca.of (hc.block _ h.ca.lt (hF _ (.inr (.inr (.inr (.inl rfl))))))
    ch := h.ch.of (hc.block _ h.ch.lt (hF _ (.inr (.inr (.inr (.inr (.inl rfl)))))))
    ord := h.ord.chg hc (fun g hg => hF g (.inr (.inr (.inr (.inr (.inr hg)))))) }
theorem PgS.fresh (h : PgS k v w) (hb : Below w.heap.size w w') : PgS k v w' := h.chg (Chg.fresh (F := fun _ => False) hb) (fun _ _ h => h)
/-- what a call leaves -/
def PE (k : PK) (v : PV) (w : World) (v' : PV) (w' : World) : Prop := PgS k v' w' ∧ Chg (PF k v) w w' ∧ ∀ g, PF k v' g → PF k v g ∨ w.heap.size ≤ g
theorem PE.same (h : PgS k v w) (hb : Below w.heap.size w w') : PE k v w v w' := ⟨h.fresh hb, Chg.fresh hb, fun _ h => .inl h⟩
theorem PE.trans {v1 v2 : PV} {w1 w2 : World} (h : PE k v w v1 w1) (h2 : PE k v1 w1 v2 w2) : PE k v w v2 w2 :=
 ⟨h2.1, h.2.1.trans h2.2.1 (fun g hg => h.2.2 g hg), fun g hg => (h2.2.2 g hg).elim (h.2.2 g) (fun e => .inr (by have := h.2.1.size; omega))⟩
theorem PE.below (h : PgS k v w) {v1 : PV} {w1 : World} (h1 : PE k v w v1 w1) : Below k.B w w1 := h1.2.1.below (fun g hg => (h.lt g hg).1) h.hB
/-- behind new blocks -/
theorem PE.pre {v1 : PV} {w0 w1 : World} (hb : Below w0.heap.size w0 w) (h : PE k v w v1 w1) : PE k v w0 v1 w1 :=
 ⟨h.1, (Chg.fresh (F := PF k v) hb).trans h.2.1 (fun _ h => .inl h), fun g hg => (h.2.2 g hg).imp id (fun e => by have := hb.size; omega)⟩
theorem PE.post {v1 : PV} {w1 w2 : World} (h : PE k v w v1 w1) (hb : Below w1.heap.size w1 w2) : PE k v w v1 w2 :=
 ⟨h.1.fresh hb, h.2.1.trans (Chg.fresh (F := fun _ => False) hb) (fun _ h => h.elim), h.2.2⟩
/-- the cache's part -/
theorem PgS.cache (h : PgS k v w) : CaIs w k.B k.P (PC k v) 82 v.C v.ov k.most v.ca v.od := by
  obtain ⟨u, hu⟩ := h.ap
  exact { box := h.box, c0 := PC_lo 5 (by decide), c1 := PC_lo 6 (by decide), c2 := PC_lo 7 (by decide), mp := h.ca, ord := h.ord, bm := h.bc
          pc := fun e => by have h1 := hu.p; have h2 := hu.c; rw [e] at h1; omega
          op := fun e => by have h1 := hu.o _ e; have h2 := hu.p; omega
          oc := fun e => by have h1 := hu.o _ e; have h2 := hu.c; omega }
/-- a cache that has turned, put back -/
theorem PgS.recache (h : PgS k v w) {ov' : Value} {ca' : List (Int × List Int)} {od' : List Int} (hc : CaIs w' k.B k.P ((PC k v).setIfInBounds 7 ov') 82 v.C ov' k.most ca' od') (hg : Chg (fun g => g = k.P ∨ g = v.C ∨ v.ov.ownBlock = some g) w w') (ho : OwnTo w v.ov ov') : PE k v w { v with ov := ov', ca := ca', od := od' } w' := by
 obtain ⟨u, hu⟩ := h.ap
 have hn : ∀ g, u g ≠ 1 → u g ≠ 3 → u g ≠ 5 → ¬ (g = k.P ∨ g = v.C ∨ v.ov.ownBlock = some g) := by
  rintro g h1 h3 h5 (rfl | rfl | h)
  ·exact h1 hu.p
  ·exact h3 hu.c
  ·exact h5 (hu.o g h)
 refine ⟨{ h with ls := h.ls.chg hg (fun g hg' => hn g (by rw [hu.l g hg']; decide) (by rw [hu.l g hg']; decide) (by rw [hu.l g hg']; decide)), box := ?_, lg := h.lg.of (hg.block _ h.lg.lt (hn _ (by rw [hu.m]; decide) (by rw [hu.m]; decide) (by rw [hu.m]; decide))), ca := hc.mp, ch := h.ch.of (hg.block _ h.ch.lt (hn _ (by rw [hu.h]; decide) (by rw [hu.h]; decide) (by rw [hu.h]; decide))), ord := hc.ord, ap := ?_ }, ?_, ?_⟩
 ·have := hc.box
  rw [PC_set7] at this
  exact this
 ·refine ⟨fun g => if g < w.heap.size then u g else 5, ?_, ?_, ?_, ?_, ?_, ?_⟩
  ·intro g hg'
   rw [if_pos (h.ls.lt g hg').2]; exact hu.l g hg'
  ·rw [if_pos h.ltP]; exact hu.p
  ·show (if v.Lm < _ then _ else _) = 2
   rw [if_pos h.lg.lt]; exact hu.m
  ·show (if v.C < _ then _ else _) = 3
   rw [if_pos h.ca.lt]; exact hu.c
  ·show (if v.Hm < _ then _ else _) = 4
   rw [if_pos h.ch.lt]; exact hu.h
  ·intro g hg'
   rcases ho g hg' with h1 | h1
   ·rw [if_pos (h.ord.lt g h1).2]; exact hu.o g h1
   ·rw [if_neg (by omega)]
 ·refine hg.mono ?_
  rintro g (rfl | rfl | h)
  ·exact .inr (.inl rfl)
  ·exact .inr (.inr (.inr (.inl rfl)))
  ·exact .inr (.inr (.inr (.inr (.inr h))))
 ·rintro g (h1 | h1 | h1 | h1 | h1 | h1)
  ·exact .inl (.inl h1)
  ·exact .inl (.inr (.inl h1))
  ·exact .inl (.inr (.inr (.inl h1)))
  ·exact .inl (.inr (.inr (.inr (.inl h1))))
  ·exact .inl (.inr (.inr (.inr (.inr (.inl h1)))))
  ·exact (ho g h1).imp (fun h => .inr (.inr (.inr (.inr (.inr h))))) id
end
end Go.Proofs.YtdkjkibdncbibaaGreat
/- what is stored of a page -/
namespace Go.Proofs.YtdkjkibdncbibaaGreat
open Go.RowKit
open Go.Lib (hid)
def sto (k : PK) (v : PV) (n : Int) : List Int := match gl v.lg n with
 | some at_ => arRd v.s.f at_.toNat
 | none => v.s.f (k.sz + n)
structure PIn (k : PK) (v : PV) : Prop where
 z1 : 3 ≤ k.sz
 z2 : k.sz < k.nb
 z3 : k.nb ≤ 4096
 m0 : 0 ≤ k.most
 lgr : ∀ n x, gl v.lg n = some x → 0 ≤ x ∧ x + 256 ≤ (k.sz - 2) * 256
 cal : ∀ n l, gl v.ca n = some l → l.length = 256
 chl : ∀ n l, gl v.ch n = some l → l.length = 256
 odl : v.od.length ≤ 4096
theorem zeroErr (w : World) : (zeroValue 3).run Tryz.prog w = .ok (.int .i64 0) w := by kernel_rfl
section
variable {k : PK} {v : PV} {w : World}
theorem PgS.dkl (h : PgS k v w) : ∀ n, (v.s.f n).length = 256 := h.ls.dk.2.2.2.2.2.2.1
theorem sto_len (hs : PgS k v w) (n : Int) : (sto k v n).length = 256 := by
 unfold sto
 split
 ·exact arRd_len _ _
 ·exact hs.dkl _
theorem PgS.rg (h : PgS k v w) : w.rangeAt k.P 1 [.pointer (some ⟨k.D, 0, none⟩), .int .i64 k.sz] := fun j x hj => by
 rw [cell_of_row _ _ _ _ _ _ h.box]
 match j, hj with
 | 0, hj => simp only [List.getElem?_cons_zero, Option.some.injEq] at hj; subst hj; exact PC_lo 1 (by decide)
 | 1, hj => simp only [List.getElem?_cons_succ, List.getElem?_cons_zero, Option.some.injEq] at hj; subst hj; exact PC_lo 2 (by decide)
end
set_option maxRecDepth 100000 in
set_option maxHeartbeats 1000000 in
theorem stored_any (k : PK) (v : PV) (n : Int) (w : World) (h : PgS k v w) (hi : PIn k v) (hn : 0 ≤ n ∧ n < k.nb - k.sz) :
    Calls Tryz.prog 39 #[.pointer (some ⟨k.P, 0, none⟩), .int .i64 n] w fun e w' => e = .returned (.tuple #[.agg (ArrU8 (if v.s.dn then zeros 256 else sto k v n)), .int .i64 (if v.s.dn then 44 else 0)]) ∧ Below w.heap.size w w' := by
  have hz := zero35
  have HI35 := hid (show (Tryz.prog.info? 50).map (·.size) = some 256 by kernel_rfl)
  have HIL := hid (show (Tryz.prog.info? 63).map (·.size) = some ([.pointer (some ⟨k.D, 0, none⟩), .int .i64 k.sz] : List Value).length by kernel_rfl)
  have SZ := hid (show (ArrU8 (zeros 256)).size = 256 by rw [ArrU8_size, zeros_len])
  have hb1 : Below w.heap.size w (w.alloc (.cells (ArrU8 (zeros 256)) 50)) := (Below.refl _ _).alloc (Nat.le_refl _) _
  have h1 := h.fresh hb1
  have p3 := (cell_of_row _ k.P 3 _ _ _ h1.box).trans (PC_lo 3 (by decide))
  have hlk := run_look_g (P := Tryz.prog) (mT := 75) (kT := 3) (eT := 3) (enc := Value.int .i64) Tryz.underlying75 Tryz.underlying3 0 (fun u => zeroErr u) n h1.lg
  have hx := heap_alloc_new w (.cells (ArrU8 (zeros 256)) 50)
  have HX := hid hx
  have HB1 := hid hb1
  have HRG := hid h1.rg
  have HDK := hid h1.ls.dk
  have HR := hid (show ((if v.s.dn then zeros 256 else sto k v n) : List Int).length = 256 by split; exact zeros_len _; exact sto_len h n)
  have HZZ := hid (show k.sz ≤ 4096 ∧ k.nb ≤ 4096 ∧ 0 ≤ k.sz by have := hi.z1; have := hi.z2; have := hi.z3; omega)
  cases hg : gl v.lg n with
  | some x =>
    rw [hg] at hlk
    simp only [Option.getD_some, Option.isSome_some] at hlk
    have hr := hi.lgr n x hg
    obtain ⟨y, rfl⟩ : ∃ y : Nat, x = (y : Int) := ⟨x.toNat, by omega⟩
    have hpre := areaPage_any k.B k.D k.M k.nb k.rm v.s.fz k.sz y v.s.dn v.s.f v.s.L v.lv _ HDK.out (by have := hi.z2; omega) hi.z3
    have HE := hid (show sto k v n = arRd v.s.f y by unfold sto; rw [hg]; rfl)
    rw [← HE.out] at hpre
    have HPRE := hid hpre
    clear h hi hb1 h1 hx hg hr hpre HE
    generalize (if v.s.dn then zeros 256 else sto k v n) = R at *
    generalize (if v.s.dn then (44 : Int) else 0) = E at *
    go_enter Tryz.func39, Tryz.ntmps39
    go_wp2_with (first | (refine wpList_load_mid rfl 63 (Operand.tmp 20) rfl k.P 1 rfl _ _ HRG.out Tryz.underlying63 rfl HIL.out ?_) | fail)
    refine HPRE.out.mono ?_
    rintro e wa ⟨rfl, hb⟩
    have HXA := hid ((hb.block _ (Array.getElem?_eq_some_iff.1 HX.out).1).trans HX.out)
    have HBA := hid (HB1.out.trans (hb.mono HB1.out.size))
    have SR := hid (show (ArrU8 R).size = 256 by rw [ArrU8_size, HR.out])
    clear hb p3 hlk hz
    go_wp2_with (first | (refine wpList_store_row rfl 50 (Operand.tmp 4) (Operand.tmp 24) rfl w.heap.size (ArrU8 R) rfl rfl 50 (ArrU8 (zeros 256)) HXA.out (by rw [HI35.out, SR.out]) (by rw [SR.out, SZ.out]) (ArrU8_one _) ?_) | fail)
    refine bodyPost_ret (results_cell_tmp (p := 4) (q := 5) (ty := 50) rfl _ _ w.heap.size 50 (ArrU8 R) (0, 0) _ rfl (setRow_heap _ _ _ _ _ _ HXA.out) Tryz.underlying50 rfl (by rw [HI35.out, SR.out])) rfl ⟨rfl, ?_⟩
    exact below_setRow HBA.out (Nat.le_refl _) _
  | none =>
    rw [hg] at hlk
    simp only [Option.getD_none, Option.isSome_none] at hlk
    have hpre := readHome_any k.B k.D k.M k.nb k.rm v.s.fz k.sz n v.s.dn v.s.f v.s.L v.lv _ HDK.out (by have := HZZ.out; omega) (by have := HZZ.out; omega)
    have hin : hasB k.nb (k.sz + n) = true := by
      have := HZZ.out
      have h1 : 0 ≤ k.sz + n := by omega
      have h2 : k.sz + n < k.nb := by omega
      simp [hasB, h1, h2]
    have HE := hid (show rdF k.nb (k.sz + n) v.s.dn v.s.f = (if v.s.dn then zeros 256 else sto k v n) ∧ readErr k.nb (k.sz + n) v.s.dn = (if v.s.dn then 44 else 0) by unfold rdF readErr sto; rw [hin, hg]; exact ⟨rfl, rfl⟩)
    rw [HE.out.1, HE.out.2] at hpre
    have HPRE := hid hpre
    clear h hi hb1 h1 hx hg hpre HE hin
    generalize (if v.s.dn then zeros 256 else sto k v n) = R at *
    generalize (if v.s.dn then (44 : Int) else 0) = E at *
    go_enter Tryz.func39, Tryz.ntmps39
    go_wp2_with (first | (refine wpList_load_mid rfl 63 (Operand.tmp 28) rfl k.P 1 rfl _ _ HRG.out Tryz.underlying63 rfl HIL.out ?_) | fail)
    refine HPRE.out.mono ?_
    rintro e wa ⟨rfl, hb⟩
    have HXA := hid ((hb.block _ (Array.getElem?_eq_some_iff.1 HX.out).1).trans HX.out)
    have HBA := hid (HB1.out.trans (hb.mono HB1.out.size))
    have SR := hid (show (ArrU8 R).size = 256 by rw [ArrU8_size, HR.out])
    clear hb p3 hlk hz
    go_wp2_with (first | (refine wpList_store_row rfl 50 (Operand.tmp 4) (Operand.tmp 32) rfl w.heap.size (ArrU8 R) rfl rfl 50 (ArrU8 (zeros 256)) HXA.out (by rw [HI35.out, SR.out]) (by rw [SR.out, SZ.out]) (ArrU8_one _) ?_) | fail)
    refine bodyPost_ret (results_cell_tmp (p := 4) (q := 5) (ty := 50) rfl _ _ w.heap.size 50 (ArrU8 R) (0, 0) _ rfl (setRow_heap _ _ _ _ _ _ HXA.out) Tryz.underlying50 rfl (by rw [HI35.out, SR.out])) rfl ⟨rfl, ?_⟩
    exact below_setRow HBA.out (Nat.le_refl _) _
end Go.Proofs.YtdkjkibdncbibaaGreat
