import Derived.Test.YtaibminomehppaaDiskD
import Derived.WalkKit
import Derived.ProofKit
import Derived.BigQuiet
import Derived.Deep.QuietTactic
import Derived.WalkSpells
import Derived.WalkLawsBesides
import Derived.Lib.Hide
import Derived.Deep.MidRow
import Derived.Deep.RegionLaw
import Derived.BigRegion
import Derived.Laws.AppendOwnNone
import Derived.Deep.DeepMust
import Derived.Deep.AppendLies
import Derived.RegionTactic
import Derived.Deep.WholeRow
import Derived.BigFrame
import Derived.Deep.RegionWith
import Derived.Deep.RegionHeld3
import Derived.Maps.RangeWalk
import Derived.Laws.CopyOwn
import Derived.StillTailTactics
namespace Go.Proofs.Ytaibminomehppaa
open Go.RowKit
theorem DC_size (nb rm fz : Int) (dn : Bool) (m lv : Value) : (DC nb rm fz dn m lv).size = 6 := rfl
theorem DC_one (nb rm fz : Int) (dn : Bool) (m : Option Nat) (a : Option Addr) (n c : Nat) : (DC nb rm fz dn (.map m) (.slice a n c)).all (·.oneCell') = true := by simp [DC, Value.oneCell']
theorem exec_len_map {ρ : Operand → Value} {o : Oper} {w : World} (x : Operand) (ho : o.op = Op.call { callee := Callee.builtin Builtin.len, args := #[x], argTypes := #[70] }) (M : Nat) (hx : ρ x = .map (some M)) (es : Array MapEntry) (c : Nat) (h : w.heap[M]? = some (.map es c)) :
    (execOp ρ o).run Try.prog w = .ok (.value (goInt es.size)) w := by
  unfold execOp
  simp [ho, hx, resolve, invoke, builtin, Builtin.len_, run_underlying Try.underlying70, getObj, Sem.run, h, Result.andThen]
theorem exec_mkmap {ρ : Operand → Value} {o : Oper} {w : World} (x : Operand) (ho : o.op = .makeMap 70 (some x)) (n : Int) (hx : ρ x = .int .i64 n) :
    (execOp ρ o).run Try.prog w = .ok (.value (.map (some w.heap.size))) (w.alloc (.map #[] 0)) := by
  unfold execOp
  have h : (Instr.makeMap 70 (some (.int .i64 n))).run Try.prog w = .ok (.map (some w.heap.size)) (w.alloc (.map #[] 0)) := by kernel_rfl
  simp [ho, hx, h, Result.andThen]
theorem exec_range {ρ : Operand → Value} {o : Oper} {w w' : World} {v : Value} (x : Operand) (ho : o.op = .range 70 x) (M : Nat) (hx : ρ x = .map (some M)) (h : (Instr.range 70 (.map (some M))).run Try.prog w = .ok v w') :
    (execOp ρ o).run Try.prog w = .ok (.value v) w' := by
  unfold execOp
  simp [ho, hx, h, Result.andThen]
theorem exec_next {ρ : Operand → Value} {o : Oper} {w w' : World} {v : Value} (x : Operand) (ho : o.op = .next x false) (it : Value) (hx : ρ x = it) (h : (Instr.next it false o.type).run Try.prog w = .ok v w') :
    (execOp ρ o).run Try.prog w = .ok (.value v) w' := by
  unfold execOp
  simp [ho, hx, h, Result.andThen]
theorem exec_entry {ρ : Operand → Value} {o : Oper} {w w' : World} {v : Value} (x : Operand) (ho : o.op = .entry x) (it : Value) (hx : ρ x = it) (h : (Instr.entry it).run Try.prog w = .ok v w') :
    (execOp ρ o).run Try.prog w = .ok (.value v) w' := by
  unfold execOp
  simp [ho, hx, h, Result.andThen]
theorem exec_append {P : Program} {ρ : Operand → Value} {o : Oper} {w w' : World} {v : Value} (s x : Operand) (T : TypeId) (ho : o.op = Op.call { callee := Callee.builtin Builtin.append, args := #[s, x], argTypes := #[T, T] }) (v1 v2 : Value) (hs : ρ s = v1) (hx : ρ x = v2) (h : (Builtin.append_ #[T, T] o.type #[v1, v2]).run P w = .ok v w') :
    (execOp ρ o).run P w = .ok (.value v) w' := by
  unfold execOp
  simp [ho, resolve, invoke, builtin, hs, hx, h, Result.andThen]
theorem wpList_of_skip {P : Program} {ops : Array Oper} {rest : List Oper} {o : Oper} {a : Act} {w w' : World} {Q : Exit → Act → World → Prop} (hg : o.guard = none) (hr : (execOp a.eval o).run P w = .ok .skip w') (h : wpList P ops Q rest (a.put o.dst undef) w') : wpList P ops Q (o :: rest) a w :=
  wpList_plain hg fun K hK => by
    unfold Oper.wp
    simp [hr]
    exact hK _ _ h
theorem run_append_copy (u : World) (ty : TypeId) (B : Nat) (lv : Value) (L : List WR) (h : LooseIs u B lv L) (hw : WOK L) (hL : L.length ≤ 268435456) :
    ∃ v' w', (Builtin.append_ #[71, 71] ty #[.slice none 0 0, lv]).run Try.prog u = .ok v' w' ∧ LooseIs w' u.heap.size v' L ∧ u.grownBy w' none := by
  obtain ⟨i, z, hi, hz, hzs, hsz, hby⟩ := info_wr_parts
  rcases h.2 with ⟨rfl, h0⟩ | ⟨g, cap, cur, rfl, hb, hg, hrest⟩
  · obtain rfl : L = [] := List.eq_nil_of_length_eq_zero h0
    have hn : u.ownsRow u.heap.size 140 513 (.slice none 0 0) 0 [] := World.ownsRow_nil _ _ _ _
    exact ⟨_, _, run_append_owned_none (P := Try.prog) (w := u) u.heap.size 71 ty 140 i 513 Try.underlying71 hi _ 0 [] hn, hn, World.grownBy.refl _ _⟩
  · have hn : u.ownsRow u.heap.size 140 513 (.slice none 0 0) 0 [] := World.ownsRow_nil _ _ _ _
    have h1 : ∀ v ∈ flatL L, v.oneCell' = true := fun v hv => by
      obtain ⟨x, _, hx⟩ := List.mem_flatMap.1 hv
      exact wrL_one _ _ _ v hx
    obtain ⟨v', w', hr, h2, h3, _⟩ := run_append_own (P := Try.prog) u u.heap.size 71 ty 140 i z 513 520 Try.underlying71 hi hz hsz hby hzs (by decide) (.slice none 0 0) 0 [] hn ⟨g, 0, none⟩ L.length cap (flatL L) h.1 (h.cells (g := g) rfl) h1 (by unfold maxLen; omega) (by omega) (Nat.le_refl _)
    rw [Nat.zero_add, List.nil_append] at h2
    exact ⟨v', w', hr, h2, h3⟩
theorem MapIs.KN {w : World} {M : Nat} {kvs : List (Int × List Int)} (h : MapIs w M kvs) : KN kvs := by
  obtain ⟨es, c, _, hkv, hst⟩ := h
  have h1 : es.toList.map (·.key) = kvs.map (fun p => Value.int .i64 p.1) := by
    have := congrArg (List.map Prod.fst) hkv
    simpa [List.map_map, Function.comp_def] using this
  have h2 := hst.2.2
  rw [h1] at h2
  have h3 : kvs.map (fun p => Value.int .i64 p.1) = (kvs.map (·.1)).map (Value.int .i64) := by simp [List.map_map, Function.comp_def]
  rw [h3] at h2
  exact (List.pairwise_map.1 h2).imp (fun hne e => hne (by rw [e]))
end Go.Proofs.Ytaibminomehppaa
