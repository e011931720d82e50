import Derived.Test.YtkajpcjmcpollaaDoorCodeM
import Derived.Laws.Append
import Derived.WalkKit
import Derived.ProofKit
import Derived.BigQuiet
import Derived.Deep.QuietTactic
import Derived.WalkSpells
import Derived.WalkLawsBesides
import Derived.Lib.Hide
import Derived.Deep.MidRow
import Derived.Deep.RegionLaw
import Derived.BigRegion
import Derived.Lib.SlBytesConst
import Derived.Laws.AppendOwnNone
import Derived.Deep.DeepMust
import Derived.Deep.AppendLies
import Derived.RegionTactic
import Derived.Deep.WholeRow
import Derived.BigFrame
import Derived.Deep.RegionWith
import Derived.Deep.RegionHeld3
import Derived.Maps.RangeWalk
import Derived.Laws.CopyOwn
import Derived.StillTailTactics
namespace Go.Proofs.YtkajpcjmcpollaaDoor
open Go.RowKit
attribute [local go_sem ↓] convC_eq
/-- v reads as l, in memory from block B on -/
def Fr (w : World) (B : Nat) (v : Value) (l : List Int) : Prop := Bs w v l ∧ (0 < l.length → ∀ ad n c, v = .slice (some ad) n c → B ≤ ad.block)
theorem Fr.below {w w' : World} {B : Nat} {v : Value} {l : List Int} (h : Fr w B v l) (hb : Below w.heap.size w w') : Fr w' B v l := ⟨h.1.below hb, h.2⟩
theorem Fr.base {w : World} {B B' : Nat} {v : Value} {l : List Int} (h : Fr w B' v l) (hB : B ≤ B') : Fr w B v l := ⟨h.1, fun h0 ad n c e => Nat.le_trans hB (h.2 h0 ad n c e)⟩
theorem Own.fr {w : World} {B : Nat} {v : Value} {l : List Int} (h : Own w B v l) : Fr w B v l := by
  refine ⟨h.bs, fun h0 ad n c e => ?_⟩
  rcases h.2 with ⟨_, h1⟩ | ⟨g, cap, cur, rfl, hg, _⟩
  · omega
  · injection e with e _ _
    injection e with e
    rw [← e]; exact hg
theorem run_append_lit0 {w : World} (ty : TypeId) (b : Addr) (v2 : Value) (m : List Int) (hbs : Bs w v2 m) (hl : m.length ≤ 1099511627776) :
    ∃ v' w', (Builtin.append_ #[25, 25] ty #[.slice (some b) 0 0, v2]).run Tryd.prog w = .ok v' w' ∧ Fr w' w.heap.size v' m ∧ Below w.heap.size w w' := by
  obtain ⟨i0, hi, hz0, hz1, hz2⟩ := info_parts info5
  obtain ⟨ad, cap, rfl, hcap, hc⟩ := hbs
  by_cases h0 : m.length = 0
  · have h1 : m = [] := List.eq_nil_of_length_eq_zero h0
    subst h1
    refine ⟨.slice (some b) 0 0, w, ?_, ⟨⟨some b, 0, rfl, ⟨Nat.le_refl _, fun e => by cases e⟩, fun h => by simp at h⟩, fun h => by simp at h⟩, Below.refl _ _⟩
    cases ad <;> simp [Builtin.append_, run_underlying Tryd.underlying25, sizeOf, typeInfo, hi, Builtin.lenOf, Builtin.firstCells, loadCells, loadCellsFrom, storeCells]
  · obtain ⟨pb, po, rfl, e2, e3⟩ := hc (by omega)
    have hr := run_append_grow (P := Tryd.prog) (w := w) 25 ty 5 i0 (.int .u8 0) Tryd.underlying25 hi hz0 b 0 0 [] (by simp) (fun j v h => by simp at h)
      ⟨pb, po, none⟩ m.length cap (m.map (Value.int .u8)) (by rw [List.length_map, hz1, Nat.mul_one]) (fun q u hu => by
        rw [List.getElem?_map, Option.map_eq_some_iff] at hu
        obtain ⟨y, hy, rfl⟩ := hu
        have hq : q < m.length := (List.getElem?_eq_some_iff.1 hy).1
        have e4 := e3 q hq
        rw [hy] at e4
        rw [Addr.add_mid]
        exact e4) (by omega) (by simp only [Nat.zero_add]; omega) (by rw [nextslicecap_zero (by omega), hz2]; simp only [Nat.zero_add]; omega)
    simp only [Nat.zero_add] at hr
    have hcapge := grownCap_ge w m.length 0 5
    refine ⟨_, _, hr, ⟨⟨some ⟨w.heap.size, 0, none⟩, _, rfl, ⟨hcapge, fun e => by cases e⟩, fun _ => ⟨w.heap.size, 0, rfl, by simp, fun i hi2 => ?_⟩⟩, fun _ ad n c e => by injection e with e _ _; injection e with e; rw [← e]; exact Nat.le_refl _⟩, ?_⟩
    · rw [cell_of_row _ w.heap.size _ _ _ _ (heap_alloc_new w.drew _), Nat.zero_add]
      simp [Array.getElem?_append, hi2]
    · exact (Below.refl _ _).drew.alloc (Nat.le_refl _) _
theorem step_append_lit {ops : Array Oper} {o : Oper} {a : Act} {w : World} {K : Act → World → Prop} {Q : Exit → Act → World → Prop} {E : Prop}
    (hg : o.guard = none) (s x : Operand) (hop : o.op = Op.call { callee := Callee.builtin Builtin.append, args := #[s, x], argTypes := #[25, 25] }) (b : Addr)
    (hs : a.eval s = .slice (some b) 0 0) (v2 : Value) (m : List Int) (hx : a.eval x = v2) (hbs : Bs w v2 m) (h63 : m.length ≤ 1099511627776)
    (hK : ∀ v' w', Fr w' w.heap.size v' m → Below w.heap.size w w' → K (a.put o.dst v') w') :
    if Region.wanted o (yielded ops a.tmps) = true then Oper.wp Tryd.prog o a w K Q else E := by
  have hw : Region.wanted o (yielded ops a.tmps) = true := by simp [Region.wanted, hg]
  rw [if_pos hw]
  obtain ⟨v', w', hrun, r1, r2⟩ := run_append_lit0 (w := w) o.type b v2 m hbs h63
  unfold Oper.wp
  simp [execOp, hop, resolve, invoke, builtin, hs, hx, hrun, Result.andThen]
  exact hK v' w' r1 r2
def ROpenPost (l : List Int) (w : World) (e : Ending) (w' : World) : Prop :=
  Below w.heap.size w w' ∧ match opn l with
    | .short => e = .returned (.tuple #[.slice none 0 0, .slice none 0 0, .int .i64 6])
    | .sum => e = .returned (.tuple #[.slice none 0 0, .slice none 0 0, .int .i64 8])
    | .ok i r => ∃ v1 v2, e = .returned (.tuple #[v1, v2, .int .i64 0]) ∧ Fr w' w.heap.size v1 i ∧ Fr w' w.heap.size v2 r
end Go.Proofs.YtkajpcjmcpollaaDoor
