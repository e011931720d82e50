import Derived.Test.YtaklkjjoplfokaaDisk7
import Derived.WalkKit
import Derived.ProofKit
import Derived.BigQuiet
import Derived.Deep.QuietTactic
import Derived.WalkSpells
import Derived.WalkLawsBesides
import Derived.Lib.Hide
import Derived.Deep.MidRow
import Derived.Deep.RegionLaw
import Derived.BigRegion
import Derived.Laws.AppendOwnNone
import Derived.Deep.DeepMust
import Derived.Deep.AppendLies
import Derived.RegionTactic
import Derived.Deep.WholeRow
import Derived.BigFrame
import Derived.Deep.RegionWith
import Derived.Deep.RegionHeld3
import Derived.Maps.RangeWalk
import Derived.Laws.CopyOwn
import Derived.StillTailTactics
namespace Go.Proofs.Ytaklkjjoplfokaa
open Go.RowKit
theorem kidx_set (n m : Int) (b : List Int) : ∀ (kvs : List (Int × List Int)) (q : Nat × List Int), kidx kvs n = some q → kidx (kvs.set q.1 (n, b)) m = if m = n then some (q.1, b) else kidx kvs m
  | [], q, h => by simp [kidx] at h
  | p :: r, q, h => by
    unfold kidx at h
    by_cases hn : n = p.1
    · rw [if_pos hn] at h
      injection h with h
      subst h
      simp only [List.set_cons_zero, kidx]
      by_cases hm : m = n
      · rw [if_pos hm, if_pos hm]
      · rw [if_neg hm, if_neg hm, if_neg (by rw [← hn]; exact hm)]
    · rw [if_neg hn, Option.map_eq_some_iff] at h
      obtain ⟨q', h1, rfl⟩ := h
      have ih := kidx_set n m b r q' h1
      simp only [List.set_cons_succ, kidx, ih]
      by_cases hm : m = n
      · subst hm
        rw [if_neg hn, if_pos rfl, if_pos rfl]
        rfl
      · rw [if_neg hm, if_neg hm]
theorem kidx_app (n m : Int) (b : List Int) : ∀ (kvs : List (Int × List Int)), kidx kvs n = none → (kidx (kvs ++ [(n, b)]) m).map (·.2) = if m = n then some b else (kidx kvs m).map (·.2)
  | [], _ => by simp only [List.nil_append, kidx]; by_cases hm : m = n <;> simp [hm]
  | p :: r, h => by
    unfold kidx at h
    by_cases hn : n = p.1
    · rw [if_pos hn] at h; cases h
    · rw [if_neg hn, Option.map_eq_none_iff] at h
      have ih := kidx_app n m b r h
      simp only [List.cons_append, kidx]
      by_cases hp : m = p.1
      · rw [if_pos hp, if_pos hp, if_neg (by rw [hp]; exact fun e => hn e.symm)]
      · rw [if_neg hp, if_neg hp]
        simp only [Option.map_map]
        have e : (kidx (r ++ [(n, b)]) m).map ((fun x => x.2) ∘ fun q => (q.1 + 1, q.2)) = (kidx (r ++ [(n, b)]) m).map (·.2) := by congr 1
        have e2 : (kidx r m).map ((fun x => x.2) ∘ fun q => (q.1 + 1, q.2)) = (kidx r m).map (·.2) := by congr 1
        rw [e, e2, ih]
theorem kget_kput (kvs : List (Int × List Int)) (n m : Int) (b : List Int) : kget (kput kvs n b) m = if m = n then b else kget kvs m := by
  unfold kget kput
  cases h : kidx kvs n with
  | none =>
    simp only [kidx_app n m b kvs h]
    by_cases hm : m = n
    · rw [if_pos hm, if_pos hm]; rfl
    · rw [if_neg hm, if_neg hm]
  | some q =>
    simp only [kidx_set n m b kvs q h]
    by_cases hm : m = n
    · rw [if_pos hm, if_pos hm]; rfl
    · rw [if_neg hm, if_neg hm]
def KN (kvs : List (Int × List Int)) : Prop := (kvs.map (·.1)).Nodup
theorem kidx_none (n : Int) : ∀ (kvs : List (Int × List Int)), kidx kvs n = none → n ∉ kvs.map (·.1)
  | [], _ => by simp
  | p :: r, h => by
    unfold kidx at h
    by_cases hn : n = p.1
    · rw [if_pos hn] at h; cases h
    · rw [if_neg hn, Option.map_eq_none_iff] at h
      simp only [List.map_cons, List.mem_cons]
      exact fun e => e.elim hn (kidx_none n r h)
theorem KN.put {kvs : List (Int × List Int)} (h : KN kvs) (n : Int) (b : List Int) : KN (kput kvs n b) := by
  unfold KN kput at *
  cases hk : kidx kvs n with
  | none =>
    simp only [List.map_append, List.map_cons, List.map_nil]
    rw [List.nodup_append]
    refine ⟨h, by simp, ?_⟩
    intro a ha c hc e
    simp only [List.mem_singleton] at hc
    subst hc e
    exact kidx_none _ _ hk ha
  | some q =>
    have := kidx_get n kvs q hk
    simp only [List.map_set]
    have e : (kvs.map (·.1)).set q.1 n = kvs.map (·.1) := by
      apply List.ext_getElem?
      intro i
      rw [List.getElem?_set]
      by_cases hi : q.1 = i
      · subst hi
        have hlt := (List.getElem?_eq_some_iff.1 this).1
        rw [if_pos rfl, if_pos (by simpa using hlt)]
        simp [this]
      · rw [if_neg hi]
    rw [e]
    exact h
/-- a block put among blocks -/
def fput (f : Int → List Int) (n : Int) (b : List Int) (m : Int) : List Int := if m = n then b else f m
/-- THE STATE OF A DISK: D, its cells; M, its map; lv, its unsynced writes -/
def Dk (w : World) (B D M : Nat) (nb rm fz : Int) (dn : Bool) (f : Int → List Int) (L : List WR) (lv : Value) : Prop :=
  DiskIs w D (DC nb rm fz dn (.map (some M)) lv) ∧ (∃ kvs, MapIs w M kvs ∧ KN kvs ∧ ∀ n, kget kvs n = f n) ∧ LooseIs w B lv L ∧ B ≤ D ∧ B ≤ M ∧ (-1 ≤ fz ∧ fz ≤ 9223372036854775807) ∧ (∀ n, (f n).length = 256) ∧ (∀ x ∈ L, x.2.1.length = 256 ∧ x.2.2.length = 256)
theorem MapIs.lt {w : World} {M : Nat} {kvs : List (Int × List Int)} (h : MapIs w M kvs) : M < w.heap.size := by
  obtain ⟨es, c, h, _⟩ := h
  exact (Array.getElem?_eq_some_iff.1 h).1
theorem DiskIs.lt {w : World} {D : Nat} {c : Array Value} (h : DiskIs w D c) : D < w.heap.size := (Array.getElem?_eq_some_iff.1 h).1
theorem MapIs.of {w w' : World} {M : Nat} {kvs : List (Int × List Int)} (h : MapIs w M kvs) (he : w'.heap[M]? = w.heap[M]?) : MapIs w' M kvs := by
  obtain ⟨es, c, h, h2⟩ := h
  exact ⟨es, c, he.trans h, h2⟩
theorem LooseIs.kept {w w' : World} {B : Nat} {lv : Value} {L : List WR} (h : LooseIs w B lv L) (he : ∀ k, lv.ownBlock = some k → w'.heap[k]? = w.heap[k]?) : LooseIs w' B lv L := by
  refine ⟨h.1, ?_⟩
  rcases h.2 with hn | ⟨g, cap, cur, rfl, hb, hgg, rest⟩
  · exact .inl hn
  · exact .inr ⟨g, cap, cur, rfl, hb, (he g rfl).trans hgg, rest⟩
theorem Dk.foot {w : World} {B D M : Nat} {nb rm fz : Int} {dn : Bool} {f : Int → List Int} {L : List WR} {lv : Value} (h : Dk w B D M nb rm fz dn f L lv) : ∀ k, Foot D M lv k → B ≤ k ∧ k < w.heap.size := by
  obtain ⟨h1, ⟨kvs, h2, _, _⟩, h3, h4, h5, _⟩ := h
  intro k hk
  rcases hk with rfl | rfl | hk
  · exact ⟨h4, h1.lt⟩
  · exact ⟨h5, h2.lt⟩
  · exact h3.lt k hk
theorem Dk.kept {w w' : World} {B D M : Nat} {nb rm fz : Int} {dn : Bool} {f : Int → List Int} {L : List WR} {lv : Value} (h : Dk w B D M nb rm fz dn f L lv) (he : ∀ k, Foot D M lv k → w'.heap[k]? = w.heap[k]?) : Dk w' B D M nb rm fz dn f L lv := by
  obtain ⟨h1, ⟨kvs, h2, h2b, h2c⟩, h3, h4⟩ := h
  exact ⟨(he D (.inl rfl)).trans h1, ⟨kvs, h2.of (he M (.inr (.inl rfl))), h2b, h2c⟩, h3.kept (fun k hk => he k (.inr (.inr hk))), h4⟩
theorem Dk.chg {w w' : World} {B D M : Nat} {nb rm fz : Int} {dn : Bool} {f : Int → List Int} {L : List WR} {lv : Value} {F : Nat → Prop} (h : Dk w B D M nb rm fz dn f L lv) (hc : Chg F w w') (hF : ∀ k, Foot D M lv k → ¬ F k) : Dk w' B D M nb rm fz dn f L lv :=
  h.kept fun k hk => hc.block k (h.foot k hk).2 (hF k hk)
end Go.Proofs.Ytaklkjjoplfokaa
