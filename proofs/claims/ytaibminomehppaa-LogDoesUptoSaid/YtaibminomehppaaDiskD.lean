import Derived.Test.YtaibminomehppaaDiskC
import Derived.WalkKit
import Derived.ProofKit
import Derived.BigQuiet
import Derived.Deep.QuietTactic
import Derived.WalkSpells
import Derived.WalkLawsBesides
import Derived.Lib.Hide
import Derived.Deep.MidRow
import Derived.Deep.RegionLaw
import Derived.BigRegion
import Derived.Laws.AppendOwnNone
import Derived.Deep.DeepMust
import Derived.Deep.AppendLies
import Derived.RegionTactic
import Derived.Deep.WholeRow
import Derived.BigFrame
import Derived.Deep.RegionWith
import Derived.Deep.RegionHeld3
import Derived.Maps.RangeWalk
import Derived.Laws.CopyOwn
import Derived.StillTailTactics
namespace Go.Proofs.Ytaibminomehppaa
open Go.RowKit
/-- a range over a map of blocks under way: r, its iterator; done, the keys that have come -/
def Rng1 (w : World) (M r : Nat) (kvs : List (Int × List Int)) (done : Int → Bool) (cnt : Nat) : Prop :=
  ∃ es clock since seen c0, w.heap[M]? = some (.map es clock) ∧ KV es.toList kvs ∧ MapKept.Stamped es clock ∧ w.heap[r]? = some (.mapIter (some M) since seen c0) ∧ (∀ x ∈ es.toList, x.born < since) ∧ since ≤ c0 ∧ since ≤ clock ∧
    (leftOf es seen).size = cnt ∧ (∀ x ∈ es.toList, ∀ k, x.key = .int .i64 k → done k = seen.contains x.born)
theorem Rng1.map {w : World} {M r : Nat} {kvs : List (Int × List Int)} {done : Int → Bool} {cnt : Nat} (h : Rng1 w M r kvs done cnt) : MapIs w M kvs := by
  obtain ⟨es, clock, _, _, _, h1, h2, h3, _⟩ := h
  exact ⟨es, clock, h1, h2, h3⟩
theorem Rng1.kept {w w' : World} {M r : Nat} {kvs : List (Int × List Int)} {done : Int → Bool} {cnt : Nat} (h : Rng1 w M r kvs done cnt) (hm : w'.heap[M]? = w.heap[M]?) (hr : w'.heap[r]? = w.heap[r]?) : Rng1 w' M r kvs done cnt := by
  obtain ⟨es, clock, since, seen, c0, h1, h2, h3, h4, h5⟩ := h
  exact ⟨es, clock, since, seen, c0, hm.trans h1, h2, h3, hr.trans h4, h5⟩
theorem Rng1.lt {w : World} {M r : Nat} {kvs : List (Int × List Int)} {done : Int → Bool} {cnt : Nat} (h : Rng1 w M r kvs done cnt) : r < w.heap.size ∧ M < w.heap.size ∧ r ≠ M := by
  obtain ⟨es, clock, since, seen, c0, h1, h2, h3, h4, h5⟩ := h
  exact ⟨(Array.getElem?_eq_some_iff.1 h4).1, (Array.getElem?_eq_some_iff.1 h1).1, fun e => by rw [e, h1] at h4; cases h4⟩
/-- what the entries left are: for the measure -/
theorem Rng1.left {w : World} {M r : Nat} {kvs : List (Int × List Int)} {done : Int → Bool} {cnt : Nat} (h : Rng1 w M r kvs done cnt) : w.rangeLeft M r = cnt := by
  obtain ⟨es, clock, since, seen, c0, h1, h2, h3, h4, h5, h6, h7, h8, h9⟩ := h
  unfold World.rangeLeft
  rw [h1, h4]
  exact h8
theorem run_range_kv (w : World) (M : Nat) (kvs : List (Int × List Int)) (h : MapIs w M kvs) :
    ∃ w', (Instr.range 70 (.map (some M))).run Try.prog w = .ok (.pointer (some ⟨w.heap.size, 0, none⟩)) w' ∧ (∃ cnt, Rng1 w' M w.heap.size kvs (fun _ => false) cnt) ∧ Below w.heap.size w w' := by
  obtain ⟨es, clock, h1, h2, h3⟩ := h
  have hM := (Array.getElem?_eq_some_iff.1 h1).1
  refine ⟨_, run_range_map w _ _ _ M es clock Try.underlying70 h1, ⟨_, es, clock, clock, #[], clock, (Below.heap_alloc w _ M hM).trans h1, h2, h3, heap_alloc_new w _, h3.1, Nat.le_refl _, Nat.le_refl _, rfl, fun x _ k _ => by simp⟩, (Below.refl _ _).alloc (Nat.le_refl _) _⟩
theorem KV.mem {es : List MapEntry} {kvs : List (Int × List Int)} (h : KV es kvs) {e : MapEntry} (he : e ∈ es) : ∃ p ∈ kvs, e.key = .int .i64 p.1 ∧ e.val = .agg (ArrU8 p.2) := by
  obtain ⟨i, hi⟩ := List.mem_iff_getElem?.1 he
  have h2 := congrArg (fun x => x[i]?) h
  simp only [List.getElem?_map, hi, Option.map_some] at h2
  cases hk : kvs[i]? with
  | none => rw [hk] at h2; cases h2
  | some p =>
    rw [hk] at h2
    simp only [Option.map_some, Option.some.injEq, Prod.mk.injEq] at h2
    exact ⟨p, List.mem_of_getElem? hk, h2.1, h2.2⟩
theorem KV.mem' {es : List MapEntry} {kvs : List (Int × List Int)} (h : KV es kvs) {p : Int × List Int} (hp : p ∈ kvs) : ∃ e ∈ es, e.key = .int .i64 p.1 ∧ e.val = .agg (ArrU8 p.2) := by
  obtain ⟨i, hi⟩ := List.mem_iff_getElem?.1 hp
  have h2 := congrArg (fun x => x[i]?) h
  simp only [List.getElem?_map, hi, Option.map_some] at h2
  cases hk : es[i]? with
  | none => rw [hk] at h2; cases h2
  | some e =>
    rw [hk] at h2
    simp only [Option.map_some, Option.some.injEq, Prod.mk.injEq] at h2
    exact ⟨e, List.mem_of_getElem? hk, h2.1, h2.2⟩
theorem kget_of_mem : ∀ {kvs : List (Int × List Int)}, KN kvs → ∀ {p : Int × List Int}, p ∈ kvs → kget kvs p.1 = p.2
  | [], _, _, hp => by cases hp
  | q :: r, h, p, hp => by
    simp only [KN, List.map_cons, List.nodup_cons] at h
    rcases List.mem_cons.1 hp with rfl | hp
    · simp [kget, kidx]
    · have hne : p.1 ≠ q.1 := fun e => h.1 (by rw [← e]; exact List.mem_map.2 ⟨p, hp, rfl⟩)
      have ih := kget_of_mem (kvs := r) h.2 hp
      unfold kget at ih ⊢
      rw [kidx, if_neg hne, Option.map_map]
      rw [show (kidx r p.1).map ((fun x => x.2) ∘ fun q => (q.1 + 1, q.2)) = (kidx r p.1).map (·.2) by congr 1]
      exact ih
theorem kget_not_mem {kvs : List (Int × List Int)} {n : Int} (h : n ∉ kvs.map (·.1)) : kget kvs n = zeros 256 := by
  have : kidx kvs n = none := by
    induction kvs with
    | nil => rfl
    | cons p r ih =>
      simp only [List.map_cons, List.mem_cons, not_or] at h
      rw [kidx, if_neg h.1, ih h.2]
      rfl
  rw [kget, this]; rfl
/-- the step of the range -/
theorem run_next_kv (w : World) (ty : TypeId) (M r : Nat) (kvs : List (Int × List Int)) (done : Int → Bool) (cnt : Nat) (h : Rng1 w M r kvs done cnt) :
    ((∀ p ∈ kvs, done p.1 = true) ∧ (Instr.next (.pointer (some ⟨r, 0, none⟩)) false ty).run Try.prog w = .ok (.tuple #[.bool false]) w) ∨
    ∃ p ∈ kvs, ∃ w' cnt', (Instr.next (.pointer (some ⟨r, 0, none⟩)) false ty).run Try.prog w = .ok (.tuple #[.bool true, .int .i64 p.1, .agg (ArrU8 p.2)]) w' ∧ Rng1 w' M r kvs (fun n => done n || n == p.1) cnt' ∧ cnt' < cnt ∧ w.grownBy w' (some r) ∧ w'.heap.size = w.heap.size ∧
      (Instr.entry (.pointer (some ⟨r, 0, none⟩))).run Try.prog w' = .ok (.tuple #[.int .i64 p.1, .agg (ArrU8 p.2)]) w' := by
  have hne := h.lt.2.2
  obtain ⟨es, clock, since, seen, c0, hb, hkv, hst, hr, hold, hsc, hsk, rfl, hdn⟩ := h
  rcases run_next_at (P := Try.prog) w ty r M since c0 seen es clock hr hb hold hsc with ⟨h0, hrun⟩ | ⟨e, he, w1, hal, hrun⟩
  · refine .inl ⟨fun p hp => ?_, hrun⟩
    obtain ⟨e, he, hk, _⟩ := hkv.mem' hp
    rw [hdn e he p.1 hk]
    exact all_seen es seen h0 e he
  · obtain ⟨hem, hes⟩ := Go.mem_left he
    obtain ⟨p, hp, hk, hv⟩ := hkv.mem hem
    have hr1 : w1.heap[r]? = some (.mapIter (some M) since seen c0) := by rcases hal with rfl | rfl <;> exact hr
    have hb1 : w1.heap[M]? = some (.map es clock) := by rcases hal with rfl | rfl <;> exact hb
    have hset := MapKept.heap_set (o' := .mapIter (some M) since (seen.push e.born) clock) hr1
    have hb' : (ChangeMaps.setBlock w1 r (.mapIter (some M) since (seen.push e.born) clock)).heap[M]? = some (.map es clock) := (hset.2 M (fun e1 => hne e1.symm)).trans hb1
    have hen := run_entry_at (P := Try.prog) _ r M since seen es clock e hset.1 hb' hem hst.2.1
    rw [hk, hv] at hrun hen
    refine .inr ⟨p, hp, _, _, hrun, ⟨es, clock, since, seen.push e.born, clock, hb', hkv, hst, hset.1, hold, hsk, hsk, rfl, fun x hx k hxk => ?_⟩, left_shrinks es seen e he, ?_, ?_, hen⟩
    · show (done k || k == p.1) = _
      rw [hdn x hx k hxk, contains_push]
      congr 1
      by_cases hb : x.born = e.born
      · have hxe := born_inj hst.2.1 hx hem hb
        subst hxe
        rw [hk] at hxk
        injection hxk with _ hxk
        simp [hxk]
      · have h1 : (x.born == e.born) = false := by simp [hb]
        rw [h1]
        have : k ≠ p.1 := fun e1 => hb (congrArg MapEntry.born (entry_eq_of_key ((MapKept.stamped_iff es clock).1 hst).2.2 hx hem (by rw [hxk, hk, e1])))
        simp [this]
    · rcases hal with rfl | rfl <;> exact ⟨rfl, rfl, rfl, by simp [ChangeMaps.setBlock], fun i _ hi => hset.2 i (fun e1 => hi (by rw [e1]))⟩
    · rcases hal with rfl | rfl <;> simp [ChangeMaps.setBlock]
end Go.Proofs.Ytaibminomehppaa
