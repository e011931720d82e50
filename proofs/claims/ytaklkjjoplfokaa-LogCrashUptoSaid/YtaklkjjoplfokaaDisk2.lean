import Derived.Test.YtaklkjjoplfokaaDisk1
import Derived.Maps.Keyed
import Derived.MapKept
import Derived.WalkKit
import Derived.ProofKit
import Derived.BigQuiet
import Derived.Deep.QuietTactic
import Derived.WalkSpells
import Derived.WalkLawsBesides
import Derived.Lib.Hide
import Derived.Deep.MidRow
import Derived.Deep.RegionLaw
import Derived.BigRegion
import Derived.Laws.AppendOwnNone
import Derived.Deep.DeepMust
import Derived.Deep.AppendLies
import Derived.RegionTactic
import Derived.Deep.WholeRow
import Derived.BigFrame
import Derived.Deep.RegionWith
import Derived.Deep.RegionHeld3
import Derived.Maps.RangeWalk
import Derived.Laws.CopyOwn
import Derived.StillTailTactics
namespace Go.Proofs.Ytaklkjjoplfokaa
open Go.RowKit
def zeros (n : Nat) : List Int := List.replicate n 0
def ArrU8 (bs : List Int) : Array Value := (bs.map (Value.int .u8)).toArray
/-- the entries of a map of blocks, in their order -/
def KV (es : List MapEntry) (kvs : List (Int × List Int)) : Prop := es.map (fun e => (e.key, e.val)) = kvs.map fun p => (Value.int .i64 p.1, Value.agg (ArrU8 p.2))
def kidx : List (Int × List Int) → Int → Option (Nat × List Int)
  | [], _ => none
  | p :: r, n => if n = p.1 then some (0, p.2) else (kidx r n).map fun q => (q.1 + 1, q.2)
theorem findNow_kv (n : Int) : ∀ (es : List MapEntry) (kvs : List (Int × List Int)) (i : Nat), KV es kvs → Instr.findNow (.int .i64) (.int .i64 n) es i = some ((kidx kvs n).map fun q => (i + q.1, Value.agg (ArrU8 q.2)))
  | [], [], i, _ => rfl
  | [], _ :: _, _, h => by simp [KV] at h
  | _ :: _, [], _, h => by simp [KV] at h
  | e :: es, p :: r, i, h => by
    simp only [KV, List.map_cons, List.cons.injEq, Prod.mk.injEq] at h
    obtain ⟨⟨h1, h2⟩, h3⟩ := h
    have ih := findNow_kv n es r (i + 1) h3
    unfold Instr.findNow
    rw [h1]
    by_cases hn : n = p.1
    · subst hn
      simp [Instr.sameNow, kidx, h2]
    · have hb : (n == p.1) = false := by simpa using hn
      simp only [Instr.sameNow, if_true, hb, ih, kidx, if_neg hn]
      congr 1
      cases kidx r n with
      | none => rfl
      | some q => simp; omega
def kget (kvs : List (Int × List Int)) (n : Int) : List Int := ((kidx kvs n).map (·.2)).getD (zeros 256)
def kput (kvs : List (Int × List Int)) (n : Int) (l : List Int) : List (Int × List Int) :=
  match kidx kvs n with
  | some q => kvs.set q.1 (n, l)
  | none => kvs ++ [(n, l)]
def MapIs (w : World) (M : Nat) (kvs : List (Int × List Int)) : Prop := ∃ es clock, w.heap[M]? = some (.map es clock) ∧ KV es.toList kvs ∧ MapKept.Stamped es clock
/-- (a seat that is loaded in parts names this block's noughts) -/
@[simp] theorem zeroCells_blk : Try.zeroCells35 = ArrU8 (zeros 256) := by kernel_rfl
theorem zero35 (w : World) : (zeroValue 35).run Try.prog w = .ok (.agg (ArrU8 (zeros 256))) w := by kernel_rfl
theorem run_findKey_kv (w : World) (n : Int) (es : List MapEntry) (kvs : List (Int × List Int)) (h : KV es kvs) :
    (Instr.findKey 3 (.int .i64 n) es).run Try.prog w = .ok ((kidx kvs n).map fun q => (q.1, Value.agg (ArrU8 q.2))) w := by
  unfold Instr.findKey
  simp only [Sem.run_bind, run_underlying Try.underlying3, Result.andThen_ok, findNow_kv n es kvs 0 h, Nat.zero_add, Sem.run_pure]
theorem run_checkKey3 (w : World) (em : Bool) (n : Int) : (Instr.checkKey em 10000 3 (.int .i64 n)).run Try.prog w = .ok () w := by
  show (Instr.checkKey em (9999 + 1) 3 (.int .i64 n)).run Try.prog w = _
  unfold Instr.checkKey
  simp only [Sem.run_bind, run_underlying Try.underlying3, Result.andThen_ok]
  rfl
theorem run_lookup_kv (w : World) (M : Nat) (n : Int) (kvs : List (Int × List Int)) (h : MapIs w M kvs) :
    (Instr.lookup 90 (.map (some M)) (.int .i64 n) false).run Try.prog w = .ok (.agg (ArrU8 (kget kvs n))) w := by
  obtain ⟨es, clock, hM, hkv, _⟩ := h
  have hg : (getObj M).run Try.prog w = .ok (.map es clock) w := by simp [getObj, Sem.run, hM]
  unfold Instr.lookup
  simp only [Sem.run_bind, run_underlying Try.underlying90, Result.andThen_ok, hg, Sem.run_pure, run_checkKey3, run_findKey_kv w n es.toList kvs hkv, kget]
  cases hk : kidx kvs n with
  | none => simp
  | some q => simp [Sem.run_pure]
theorem kidx_get (n : Int) : ∀ (kvs : List (Int × List Int)) (q : Nat × List Int), kidx kvs n = some q → kvs[q.1]? = some (n, q.2)
  | [], q, h => by simp [kidx] at h
  | p :: r, q, h => by
    unfold kidx at h
    by_cases hn : n = p.1
    · rw [if_pos hn] at h
      injection h with h
      subst h
      simp [hn]
    · rw [if_neg hn, Option.map_eq_some_iff] at h
      obtain ⟨q', h1, rfl⟩ := h
      simpa using kidx_get n r q' h1
theorem kv_set {es : List MapEntry} {kvs : List (Int × List Int)} (h : KV es kvs) (j : Nat) (k : Int) (l : List Int) (f : MapEntry → MapEntry) (hf : ∀ e, (f e).key = .int .i64 k ∧ (f e).val = .agg (ArrU8 l)) : KV (es.modify j f) (kvs.set j (k, l)) := by
  unfold KV at *
  apply List.ext_getElem?
  intro i
  have hi := congrArg (fun x => x[i]?) h
  simp only [List.getElem?_map] at hi ⊢
  rw [List.getElem?_modify, List.getElem?_set]
  by_cases hj : j = i
  · subst hj
    rw [if_pos rfl]
    cases he : es[j]? with
    | none =>
      rw [he] at hi
      cases hk : kvs[j]? with
      | none => have := List.getElem?_eq_none_iff.1 hk; rw [if_neg (by omega)]; rfl
      | some p => rw [hk] at hi; cases hi
    | some e =>
      rw [he] at hi
      cases hk : kvs[j]? with
      | none => rw [hk] at hi; cases hi
      | some p =>
        have := (List.getElem?_eq_some_iff.1 hk).1
        rw [if_pos this]
        simp [(hf e).1, (hf e).2]
  · rw [if_neg hj]
    simpa [hj] using hi
def putM (w : World) (M : Nat) (o : Obj) : World := { w with heap := w.heap.setIfInBounds M o }
theorem kidx_miss (n : Int) : ∀ (es : List MapEntry) (kvs : List (Int × List Int)), KV es kvs → kidx kvs n = none → ∀ x ∈ es, x.key ≠ .int .i64 n
  | [], _, _, _ => fun x hx => by cases hx
  | _ :: _, [], h, _ => by simp [KV] at h
  | e :: es, p :: r, h, hk => by
    simp only [KV, List.map_cons, List.cons.injEq, Prod.mk.injEq] at h
    obtain ⟨⟨h1, _⟩, h3⟩ := h
    unfold kidx at hk
    by_cases hn : n = p.1
    · rw [if_pos hn] at hk; cases hk
    · rw [if_neg hn, Option.map_eq_none_iff] at hk
      intro x hx
      rcases List.mem_cons.1 hx with rfl | hx
      · rw [h1]; intro e; injection e with _ e; exact hn e.symm
      · exact kidx_miss n es r h3 hk x hx
theorem run_update_kv (w : World) (M : Nat) (n : Int) (l : List Int) (kvs : List (Int × List Int)) (h : MapIs w M kvs) :
    ∃ w', (Instr.mapUpdate 90 (.map (some M)) (.int .i64 n) (.agg (ArrU8 l))).run Try.prog w = .ok () w' ∧ MapIs w' M (kput kvs n l) ∧ w.grownBy w' (some M) ∧ w'.heap.size = w.heap.size := by
  obtain ⟨es, clock, hM, hkv, hst0⟩ := h
  have hlt : M < w.heap.size := by rcases Nat.lt_or_ge M w.heap.size with h | h; exact h; rw [Array.getElem?_eq_none h] at hM; cases hM
  have hg : (getObj M).run Try.prog w = .ok (.map es clock) w := by simp [getObj, Sem.run, hM]
  have hset : ∀ o : Obj, (setObj M o).run Try.prog w = .ok () (putM w M o) := fun o => by simp [setObj, Sem.run, hM, putM]
  have hst : ∀ v : Value, (Instr.keyThatStays (.int .i64 n) (.int .i64 n)).run Try.prog w = .ok (.int .i64 n) w := fun _ => by simp [Instr.keyThatStays, Instr.sameBits]
  have hgr : ∀ o : Obj, w.grownBy (putM w M o) (some M) := fun o => ⟨rfl, rfl, rfl, by simp [putM], fun k _ hk => by
    have : M ≠ k := fun e => hk (by rw [e])
    simp [putM, this]⟩
  have hat : ∀ o : Obj, (putM w M o).heap[M]? = some o := fun o => by simp [putM, hlt]
  have hsz : ∀ o : Obj, (putM w M o).heap.size = w.heap.size := fun o => by simp [putM]
  unfold Instr.mapUpdate
  simp only [Sem.run_bind, run_underlying Try.underlying90, Result.andThen_ok, hg, run_checkKey3, run_findKey_kv w n es.toList kvs hkv, kput]
  cases hk : kidx kvs n with
  | none =>
    refine ⟨_, hset _, ⟨_, _, hat _, ?_, MapKept.stamped_push hst0 (fun x hx e => kidx_miss n es.toList kvs hkv hk x hx e)⟩, hgr _, hsz _⟩
    simp only [KV, Array.toList_push, List.map_append, List.map_cons, List.map_nil] at hkv ⊢
    rw [hkv]
  | some q =>
    have h1 := kidx_get n kvs q hk
    have h2 := congrArg (fun x => x[q.1]?) hkv
    simp only [List.getElem?_map, h1, Option.map_some] at h2
    have h3 : (es[q.1]?).map (·.key) = some (.int .i64 n) := by
      cases he : es[q.1]? with
      | none => simp [he] at h2
      | some e => simp [he] at h2; simp [h2.1]
    simp only [Option.map_some, h3, Option.getD_some, Sem.run_bind, hst undef, Result.andThen_ok]
    refine ⟨_, hset _, ⟨_, _, hat _, ?_, MapKept.stamped_modify hst0 q.1 _ (fun e _ => rfl) (fun e _ he => ?_)⟩, hgr _, hsz _⟩
    case refine_2 => simp [he] at h3; exact h3.symm
    rw [Array.toList_modify]
    exact kv_set hkv q.1 n l _ (fun e => ⟨rfl, rfl⟩)
end Go.Proofs.Ytaklkjjoplfokaa
