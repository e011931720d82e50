import Derived.Test.YtaibminomehppaaLogJ
import Derived.WalkKit
import Derived.ProofKit
import Derived.BigQuiet
import Derived.Deep.QuietTactic
import Derived.WalkSpells
import Derived.WalkLawsBesides
import Derived.Lib.Hide
import Derived.Deep.MidRow
import Derived.Deep.RegionLaw
import Derived.BigRegion
import Derived.Laws.AppendOwnNone
import Derived.Deep.DeepMust
import Derived.Deep.AppendLies
import Derived.RegionTactic
import Derived.Deep.WholeRow
import Derived.BigFrame
import Derived.Deep.RegionWith
import Derived.Deep.RegionHeld3
import Derived.Maps.RangeWalk
import Derived.Laws.CopyOwn
import Derived.StillTailTactics

namespace Go.Proofs.Ytaibminomehppaa
open Go.RowKit
theorem survL_memL : ∀ (L : List WR) (ks : List Bool) (x : WR), x ∈ survL L ks → x ∈ L
  | [], _, x, h => by simp [survL] at h
  | y :: L, [], x, h => by simp [survL] at h
  | y :: L, k :: ks, x, h => by
    unfold survL at h
    split at h
    · rcases List.mem_cons.1 h with h | h
      · rw [h]; exact List.mem_cons_self ..
      · exact List.mem_cons_of_mem _ (survL_memL L ks x h)
    · exact List.mem_cons_of_mem _ (survL_memL L ks x h)
/-- whichever writes survive: what holds of the blocks below, of each write, and of each tear, holds of the blocks that come up -/
theorem redoF_all {g : Int → List Int} {K : List WR} {t : Int} {S : Int → List Int → Prop} (h0 : ∀ n, S n (g n)) (h1 : ∀ x ∈ K, S x.1 x.2.2) (h2 : ∀ x ∈ K, ∀ b, S x.1 b → S x.1 (tearL b x.2.2 t)) : ∀ (j : Nat) (n : Int), S n (redoF g K t j n)
  | 0, n => h0 n
  | j + 1, n => by
    have ih := redoF_all h0 h1 h2 j
    cases hK : K[j]? with
    | none =>
      have e : redoF g K t (j + 1) = redoF g K t j := by rw [redoF, hK]
      rw [e]; exact ih n
    | some x =>
      have e : redoF g K t (j + 1) = fput (redoF g K t j) x.1 (if j + 1 = K.length then tearL (redoF g K t j x.1) x.2.2 t else x.2.2) := by rw [redoF, hK]
      rw [e]
      have hm := List.mem_of_getElem? hK
      by_cases hn : n = x.1
      · rw [hn, fput_at]
        split
        · exact h2 x hm _ (ih x.1)
        · exact h1 x hm
      · rw [fput_ne _ _ _ _ hn]; exact ih n
theorem upF_every {f : Int → List Int} {L : List WR} {t : Int} {S : Int → List Int → Prop} (h0 : ∀ n, S n (undoF f L n)) (h1 : ∀ x ∈ L, S x.1 x.2.2) (h2 : ∀ x ∈ L, ∀ b, S x.1 b → S x.1 (tearL b x.2.2 t)) (ks : List Bool) (n : Int) : S n (upF f L ks t n) :=
  redoF_all h0 (fun x hx => h1 x (survL_memL L ks x hx)) (fun x hx => h2 x (survL_memL L ks x hx)) _ n
theorem fput_fputL (f : Int → List Int) (n : Int) (a b : List Int) : fput (fput f n a) n b = fput f n b := by funext m; unfold fput; split <;> rfl
theorem fput_sameL (f : Int → List Int) (n : Int) : fput f n (f n) = f := by
  funext m
  unfold fput
  by_cases h : m = n
  · rw [if_pos h, h]
  · rw [if_neg h]
theorem undoF_snocL (f : Int → List Int) (L : List WR) (x : WR) : undoF f (L ++ [x]) = undoF (fput f x.1 x.2.1) L := by simp [undoF]
theorem undoF_writeL (f : Int → List Int) (L : List WR) (n : Int) (b : List Int) : undoF (fput f n b) (L ++ [(n, f n, b)]) = undoF f L := by
  rw [undoF_snocL, fput_fputL, fput_sameL]
/-- of one write: the old block, or the new one, torn -/
theorem upF_one (f : Int → List Int) (n : Int) (b : List Int) (ks : List Bool) (t : Int) : upF (fput f n b) [(n, f n, b)] ks t = f ∨ upF (fput f n b) [(n, f n, b)] ks t = fput f n (tearL (f n) b t) := by
  have hu : undoF (fput f n b) [(n, f n, b)] = f := by
    have := undoF_writeL f [] n b
    simpa [undoF] using this
  rcases ks with _ | ⟨k, ks⟩
  · left; unfold upF; rw [hu]; rfl
  · cases k
    · left; unfold upF; rw [hu]; simp [survL, redoF]
    · right; unfold upF; rw [hu]; simp [survL, redoF]
theorem take_tear (b a : List Int) (t : Int) (i : Nat) (h : b.take i = a.take i) (hl : a.length = b.length) : (tearL b a t).take i = b.take i := by
  unfold tearL
  split
  · exact h.symm
  · apply List.ext_getElem?
    intro j
    rw [List.getElem?_take, List.getElem?_take]
    by_cases hj : j < i
    · rw [if_pos hj, if_pos hj]
      have hb : b[j]? = a[j]? := by
        have := congrArg (fun l => l[j]?) h
        simpa [List.getElem?_take, hj] using this
      by_cases ht : j < t.toNat
      · by_cases ht2 : j < a.length
        · rw [List.getElem?_append_left (by rw [List.length_take]; omega), List.getElem?_take, if_pos ht, hb]
        · rw [List.getElem?_eq_none (by rw [List.length_append, List.length_take, List.length_drop]; omega), List.getElem?_eq_none (by omega)]
      · by_cases ht2 : t.toNat ≤ a.length
        · rw [List.getElem?_append_right (by rw [List.length_take]; omega), List.length_take, Nat.min_eq_left ht2, List.getElem?_drop]
          congr 1; omega
        · rw [List.getElem?_eq_none (by rw [List.length_append, List.length_take, List.length_drop]; omega), List.getElem?_eq_none (by omega)]
    · rw [if_neg hj, if_neg hj]
theorem nAt_front (new old : List Int) (t j : Nat) (h : 8 * j + 8 ≤ t) (ht : t ≤ new.length) : nAt (new.take t ++ old.drop t) j = nAt new j := by
  unfold nAt
  congr 1
  apply List.ext_getElem?
  intro i
  rw [List.getElem?_take, List.getElem?_take]
  by_cases hi : i < 8
  · rw [if_pos hi, if_pos hi, List.getElem?_drop, List.getElem?_drop, List.getElem?_append_left (by rw [List.length_take]; omega), List.getElem?_take, if_pos (by omega)]
  · rw [if_neg hi, if_neg hi]
theorem nAt_back (new old : List Int) (t j : Nat) (h : t ≤ 8 * j) (ht : t ≤ new.length) : nAt (new.take t ++ old.drop t) j = nAt old j := by
  unfold nAt
  congr 1
  apply List.ext_getElem?
  intro i
  rw [List.getElem?_take, List.getElem?_take]
  by_cases hi : i < 8
  · rw [if_pos hi, if_pos hi, List.getElem?_drop, List.getElem?_drop, List.getElem?_append_right (by rw [List.length_take]; omega), List.length_take, Nat.min_eq_left ht, List.getElem?_drop]
    congr 1; omega
  · rw [if_neg hi, if_neg hi]
/-- THE TORN MARK: the mark before, or the new one -/
theorem Mk.torn {f : Int → List Int} {fi : Int} {a b c : Nat} (h : Mk f fi a b c) (b' c' x y z : Nat) (t : Int) (hx : x < a) (ha : a + 1 < 18446744073709551616) (hb : b' < 18446744073709551616) (hc : c' < 18446744073709551616) :
    Mk (fput f (fi + ((a + 1) % 2 : Nat)) (tearL (mb x y z) (mb (a + 1) b' c') t)) fi a b c ∨ Mk (fput f (fi + ((a + 1) % 2 : Nat)) (tearL (mb x y z) (mb (a + 1) b' c') t)) fi (a + 1) b' c' := by
  have e1 : (a + 1 + 1) % 2 = a % 2 := by omega
  have hne : fi + ((a % 2 : Nat) : Int) ≠ fi + (((a + 1) % 2 : Nat) : Int) := by omega
  obtain ⟨o, hoe⟩ : ∃ o, tearL (mb x y z) (mb (a + 1) b' c') t = o := ⟨_, rfl⟩
  rw [hoe]
  have hkeep : ¬ (okB o = true ∧ nAt o 0 % 2 = (a + 1) % 2 ∧ a < nAt o 0) → Mk (fput f (fi + ((a + 1) % 2 : Nat)) o) fi a b c := fun hn => by
    refine ⟨?_, h.2.1, ?_⟩
    · rw [fput_ne _ _ _ _ hne]; exact h.1
    · rw [fput_at]; exact hn
  have hnew : okB o = true → nAt o 0 = a + 1 → nAt o 1 = b' → nAt o 2 = c' → Mk (fput f (fi + ((a + 1) % 2 : Nat)) o) fi (a + 1) b' c' := fun h1 h2 h3 h4 => by
    refine ⟨by rw [fput_at]; exact ⟨h1, h2, h3, h4⟩, by omega, ?_⟩
    rw [e1, fput_ne _ _ _ _ hne, h.1.2.1]
    omega
  by_cases hok : okB o = true
  · by_cases ht : 0 ≤ t ∧ t ≤ 40
    · left
      apply hkeep
      rintro ⟨_, _, h3⟩
      have h5 : nAt o 0 = nAt o 5 := (of_decide_eq_true hok).1
      have h6 : nAt o 5 = x := by
        rw [← hoe, tearL, if_neg (by omega), nAt_back _ _ _ _ (by omega) (by rw [mb_len]; omega)]
        exact nAt_mb x y z 5 x rfl (by omega)
      omega
    · right
      have hfr : ∀ j, j < 3 → nAt o j = nAt (mb (a + 1) b' c') j := fun j hj => by
        rw [← hoe, tearL]
        split
        · rfl
        · exact nAt_front _ _ _ _ (by omega) (by rw [mb_len]; omega)
      exact hnew hok (by rw [hfr 0 (by decide)]; exact nAt_mb _ _ _ 0 _ rfl ha) (by rw [hfr 1 (by decide)]; exact nAt_mb _ _ _ 1 _ rfl hb) (by rw [hfr 2 (by decide)]; exact nAt_mb _ _ _ 2 _ rfl hc)
  · left
    exact hkeep (fun e => hok e.1)
theorem wr_undo (nb rm : Int) (s : DS) (n : Int) (b : List Int) : undoF (s.wr nb rm n b).f (s.wr nb rm n b).L = undoF s.f s.L ∧ ∀ x ∈ (s.wr nb rm n b).L, x ∈ s.L ∨ (x.1 = n ∧ x.2.2 = b) := by
  unfold DS.wr
  by_cases h : s.we nb rm n = 0
  · simp only [if_pos h]
    refine ⟨undoF_writeL _ _ _ _, fun x hx => ?_⟩
    rcases List.mem_append.1 hx with hx | hx
    · exact .inl hx
    · rw [List.mem_singleton] at hx; subst hx; exact .inr ⟨rfl, rfl⟩
  · simp only [if_neg h]
    exact ⟨trivial, fun x hx => .inl hx⟩
/-- what a list of writes has done can be undone, however far it came -/
theorem ws_undo (nb rm : Int) : ∀ (l : List (Int × List Int)) (s : DS), undoF (s.ws nb rm l).1.f (s.ws nb rm l).1.L = undoF s.f s.L ∧ ∀ x ∈ (s.ws nb rm l).1.L, x ∈ s.L ∨ ∃ y ∈ l, x.1 = y.1 ∧ x.2.2 = y.2
  | [], _ => ⟨by unfold DS.ws; rfl, fun x hx => .inl (by unfold DS.ws at hx; exact hx)⟩
  | y :: r, s => by
    obtain ⟨h1, h2⟩ := wr_undo nb rm s y.1 y.2
    unfold DS.ws
    split
    · obtain ⟨h3, h4⟩ := ws_undo nb rm r (s.wr nb rm y.1 y.2)
      refine ⟨h3.trans h1, fun x hx => ?_⟩
      rcases h4 x hx with h | ⟨z, hz, h⟩
      · rcases h2 x h with h | h
        · exact .inl h
        · exact .inr ⟨y, List.mem_cons_self .., h⟩
      · exact .inr ⟨z, List.mem_cons_of_mem _ hz, h⟩
    · refine ⟨h1, fun x hx => ?_⟩
      rcases h2 x hx with h | h
      · exact .inl h
      · exact .inr ⟨y, List.mem_cons_self .., h⟩
end Go.Proofs.Ytaibminomehppaa
