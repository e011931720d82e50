import Derived.Test.YtaibminomehppaaDiskQ
import Derived.WalkKit
import Derived.ProofKit
import Derived.BigQuiet
import Derived.Deep.QuietTactic
import Derived.WalkSpells
import Derived.WalkLawsBesides
import Derived.Lib.Hide
import Derived.Deep.MidRow
import Derived.Deep.RegionLaw
import Derived.BigRegion
import Derived.Laws.AppendOwnNone
import Derived.Deep.DeepMust
import Derived.Deep.AppendLies
import Derived.RegionTactic
import Derived.Deep.WholeRow
import Derived.BigFrame
import Derived.Deep.RegionWith
import Derived.Deep.RegionHeld3
import Derived.Maps.RangeWalk
import Derived.Laws.CopyOwn
import Derived.StillTailTactics
namespace Go.Proofs.Ytaibminomehppaa
open Go.RowKit
/-- what the reference's list of unsynced writes is to ours -/
def rOf (L : List WR) : List RW := L.map fun x => (x.1, x.2.2)
theorem rOf_len (L : List WR) : (rOf L).length = L.length := by simp [rOf]
theorem rOf_get (L : List WR) (i : Nat) (x : WR) (h : L[i]? = some x) : (rOf L)[i]? = some (x.1, x.2.2) := by simp [rOf, h]
theorem rOf_ok {L : List WR} (h : WOK L) : ROK (rOf L) := fun x hx => by
  obtain ⟨y, hy, rfl⟩ := List.mem_map.1 hx
  exact (h y hy).2
theorem rOf_snoc (L : List WR) (x : WR) : rOf (L ++ [x]) = rOf L ++ [(x.1, x.2.2)] := by simp [rOf]
/-- the last of the first j places that are kept -/
def rLast (ks : List Bool) : Nat → Int
  | 0 => -1
  | j + 1 => if (ks[j]?).getD false = true then (j : Int) else rLast ks j
theorem rLast_lt (ks : List Bool) : ∀ j, -1 ≤ rLast ks j ∧ rLast ks j < (j : Int)
  | 0 => by simp [rLast]
  | j + 1 => by
    have := rLast_lt ks j
    rw [rLast]; split <;> omega
theorem rLast_ge (ks : List Bool) (i : Nat) (hi : (ks[i]?).getD false = true) : ∀ j, i < j → (i : Int) ≤ rLast ks j
  | 0, h => by omega
  | j + 1, h => by
    rw [rLast]
    by_cases hj : (ks[j]?).getD false = true
    · rw [if_pos hj]; omega
    · rw [if_neg hj]
      exact rLast_ge ks i hi j (by
        rcases Nat.lt_or_ge i j with h1 | h1
        · exact h1
        · have : i = j := by omega
          subst this; exact absurd hi hj)
theorem rLast_at (ks : List Bool) : ∀ j, 0 ≤ rLast ks j → (ks[(rLast ks j).toNat]?).getD false = true
  | 0, h => by simp [rLast] at h
  | j + 1, h => by
    rw [rLast] at h ⊢
    by_cases hj : (ks[j]?).getD false = true
    · rw [if_pos hj]; simpa using hj
    · rw [if_neg hj] at h ⊢; exact rLast_at ks j h
/-- what is firm when the first j of the unsynced writes have been looked at -/
def rupL (bs : List (List Int)) (K : List RW) (ks : List Bool) (t last : Int) : Nat → List (List Int)
  | 0 => bs
  | j + 1 => match K[j]? with
    | some x => if (ks[j]?).getD false = true then (rupL bs K ks t last j).set x.1.toNat (if (j : Int) = last then tearL ((rupL bs K ks t last j)[x.1.toNat]?.getD []) x.2 t else x.2) else rupL bs K ks t last j
    | none => rupL bs K ks t last j
theorem rupL_len (bs : List (List Int)) (K : List RW) (ks : List Bool) (t last : Int) : ∀ j, (rupL bs K ks t last j).length = bs.length
  | 0 => rfl
  | j + 1 => by
    have ih := rupL_len bs K ks t last j
    rw [rupL]
    split
    · split
      · rw [List.length_set, ih]
      · exact ih
    · exact ih
/-- blocks that read as a function does -/
def BsF (nb : Nat) (bs : List (List Int)) (f : Int → List Int) : Prop := bs.length = nb ∧ ∀ n : Nat, n < nb → bs[n]? = some (f n)
theorem BsF.put {nb : Nat} {bs : List (List Int)} {f : Int → List Int} (h : BsF nb bs f) (n : Int) (hn : 0 ≤ n) (b : List Int) : BsF nb (bs.set n.toNat b) (fput f n b) := by
  refine ⟨by rw [List.length_set, h.1], fun m hm => ?_⟩
  rw [List.getElem?_set]
  unfold fput
  by_cases e : n.toNat = m
  · rw [if_pos e, if_pos (by rw [h.1]; omega), if_pos (by omega)]
  · rw [if_neg e, if_neg (by omega)]
    exact h.2 m hm
theorem survL_take_le (L : List WR) (ks : List Bool) : ∀ i j, i ≤ j → ∃ r, survL (L.take j) ks = survL (L.take i) ks ++ r := by
  intro i j hij
  induction j with
  | zero => obtain rfl : i = 0 := by omega
            exact ⟨[], by simp⟩
  | succ j ih =>
    rcases Nat.lt_or_ge i (j + 1) with h | h
    · obtain ⟨r, hr⟩ := ih (by omega)
      cases hx : L[j]? with
      | none =>
        have : L.take (j + 1) = L.take j := by
          rw [List.take_of_length_le (by have := List.getElem?_eq_none_iff.1 hx; omega), List.take_of_length_le (by have := List.getElem?_eq_none_iff.1 hx; omega)]
        exact ⟨r, by rw [this, hr]⟩
      | some x => exact ⟨r ++ _, by rw [surv_step L ks j x hx, hr, List.append_assoc]⟩
    · obtain rfl : i = j + 1 := by omega
      exact ⟨[], by simp⟩
theorem survL_short (L : List WR) : ∀ (ks : List Bool), survL (L.take ks.length) ks = survL L ks := by
  induction L with
  | nil => intro ks; simp
  | cons x L ih =>
    intro ks
    cases ks with
    | nil => simp [survL]
    | cons b ks => simp only [List.length_cons, List.take_succ_cons, survL, ih ks]
theorem rup_redo (nb : Nat) (bs : List (List Int)) (g : Int → List Int) (L : List WR) (ks : List Bool) (t : Int) (h : BsF nb bs g) (hL : ∀ x ∈ L, 0 ≤ x.1 ∧ x.1 < nb) (m : Nat) (hm : m = min L.length ks.length) :
    ∀ j, j ≤ m → BsF nb (rupL bs (rOf L) ks t (rLast ks m) j) (redoF g (survL L ks) t (survL (L.take j) ks).length)
  | 0, _ => by simpa [rupL, redoF, survL] using h
  | j + 1, hj => by
    have ih := rup_redo nb bs g L ks t h hL m hm j (by omega)
    have hx : L[j]? = some (L[j]'(by omega)) := List.getElem?_eq_getElem (by omega)
    generalize L[j]'(by omega) = x at hx
    rw [rupL, rOf_get L j x hx, surv_step L ks j x hx]
    simp only
    by_cases hk : (ks[j]?).getD false = true
    · rw [if_pos hk, if_pos hk, List.length_append, List.length_singleton, redoF]
      have hS := surv_step L ks j x hx
      rw [if_pos hk] at hS
      obtain ⟨r, hr⟩ := survL_take_le L ks (j + 1) m hj
      have hfull : survL (L.take m) ks = survL L ks := by
        have h1 := survL_short (L.take m) ks
        rcases Nat.le_total L.length ks.length with hle | hle
        · rw [List.take_of_length_le (by omega)]
        · rw [hm, Nat.min_eq_right hle]; exact survL_short L ks
      have hg : (survL L ks)[(survL (L.take j) ks).length]? = some x := by
        rw [← hfull, hr, hS, List.append_assoc, List.getElem?_append_right (Nat.le_refl _)]
        simp
      rw [hg]
      have hxr := hL x (List.mem_of_getElem? hx)
      have hcond : ((j : Int) = rLast ks m) = ((survL (L.take j) ks).length + 1 = (survL L ks).length) := by
        have hlen : (survL L ks).length = (survL (L.take j) ks).length + 1 + r.length := by
          rw [← hfull, hr, hS]; simp; omega
        apply propext
        constructor
        · intro e
          have hr0 : r = [] := by
            apply Classical.byContradiction
            intro hne
            have key : ∀ i, j + 1 ≤ i → i ≤ m → (survL (L.take i) ks) = survL (L.take (j + 1)) ks := by
              intro i h1 h2
              induction i with
              | zero => omega
              | succ i ih2 =>
                rcases Nat.lt_or_ge j i with h3 | h3
                · have e1 := ih2 (by omega) (by omega)
                  have hy : L[i]? = some (L[i]'(by omega)) := List.getElem?_eq_getElem (by omega)
                  rw [surv_step L ks i _ hy, e1, if_neg, List.append_nil]
                  intro hki
                  have := rLast_ge ks i hki m (by omega)
                  omega
                · have : i = j := by omega
                  subst this; rfl
            have := key m (by omega) (Nat.le_refl _)
            rw [hr] at this
            exact hne (by simpa using this)
          rw [hlen, hr0]; simp
        · intro e
          have hr0 : r.length = 0 := by omega
          apply Classical.byContradiction
          intro hne
          have h1 := rLast_ge ks j hk m (by omega)
          have h2 := (rLast_lt ks m).2
          have h3 := rLast_at ks m (by omega)
          obtain ⟨q, hq⟩ : ∃ q : Nat, rLast ks m = (q : Int) := ⟨(rLast ks m).toNat, by omega⟩
          rw [hq, Int.toNat_natCast] at h3
          have hy : L[q]? = some (L[q]'(by omega)) := List.getElem?_eq_getElem (by omega)
          have hs := surv_step L ks q _ hy
          rw [if_pos h3] at hs
          obtain ⟨r1, hr1⟩ := survL_take_le L ks (j + 1) q (by omega)
          obtain ⟨r2, hr2⟩ := survL_take_le L ks (q + 1) m (by omega)
          have hl := congrArg List.length hr
          have hl2 := congrArg List.length hr2
          have hl3 := congrArg List.length hr1
          have hl4 := congrArg List.length hs
          simp only [List.length_append, List.length_singleton] at hl hl2 hl3 hl4
          omega
      have hget : (rupL bs (rOf L) ks t (rLast ks m) j)[x.1.toNat]?.getD [] = redoF g (survL L ks) t (survL (L.take j) ks).length x.1 := by
        rw [ih.2 x.1.toNat (by omega)]
        simp only [Option.getD_some]
        congr 1
        omega
      rw [hget]
      simp only [hcond]
      exact ih.put x.1 hxr.1 _
    · rw [if_neg hk, if_neg hk, List.append_nil]
      exact ih
theorem rup_up (nb : Nat) (bs : List (List Int)) (f : Int → List Int) (L : List WR) (ks : List Bool) (t : Int) (h : BsF nb bs (undoF f L)) (hL : ∀ x ∈ L, 0 ≤ x.1 ∧ x.1 < nb) (m : Nat) (hm : m = min L.length ks.length) :
    BsF nb (rupL bs (rOf L) ks t (rLast ks m) m) (upF f L ks t) := by
  have := rup_redo nb bs (undoF f L) L ks t h hL m hm m (Nat.le_refl _)
  have hfull : survL (L.take m) ks = survL L ks := by
    rcases Nat.le_total L.length ks.length with hle | hle
    · rw [List.take_of_length_le (by omega)]
    · rw [hm, Nat.min_eq_right hle]; exact survL_short L ks
  rwa [hfull] at this
theorem firm_puts (nb : Nat) (bs : List (List Int)) (g : Int → List Int) (L : List WR) (h : BsF nb bs g) (hL : ∀ x ∈ L, 0 ≤ x.1 ∧ x.1 < nb) : BsF nb (firmL bs (rOf L)) (putsF g L) := by
  induction L generalizing bs g with
  | nil => exact h
  | cons x L ih => exact ih _ _ (h.put x.1 (hL x List.mem_cons_self).1 x.2.2) (fun y hy => hL y (List.mem_cons_of_mem _ hy))
theorem rdL_puts (g : Int → List Int) (n : Int) : ∀ (L : List WR), rdL (g n) (rOf L) n = putsF g L n := by
  intro L
  induction L generalizing g with
  | nil => rfl
  | cons x L ih =>
    have := ih (fput g x.1 x.2.2)
    show rdL (if x.1 = n then x.2.2 else g n) (rOf L) n = putsF (fput g x.1 x.2.2) L n
    rw [← this]
    congr 1
    unfold fput
    by_cases e : x.1 = n
    · rw [if_pos e, if_pos e.symm]
    · rw [if_neg e, if_neg (fun h => e h.symm)]
/-- our unsynced writes tell what was there -/
def Told (f : Int → List Int) (L : List WR) : Prop := putsF (undoF f L) L = f
theorem Told.nil (f : Int → List Int) : Told f [] := rfl
theorem Told.put {f : Int → List Int} {L : List WR} (h : Told f L) (n : Int) (b : List Int) : Told (fput f n b) (L ++ [(n, f n, b)]) := by
  unfold Told at *
  rw [undoF_write, putsF_snoc, h]
end Go.Proofs.Ytaibminomehppaa
