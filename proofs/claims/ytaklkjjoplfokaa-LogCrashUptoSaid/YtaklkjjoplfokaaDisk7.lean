import Derived.Test.YtaklkjjoplfokaaDisk6
import Derived.OrdersHeld
import Derived.WalkKit
import Derived.ProofKit
import Derived.BigQuiet
import Derived.Deep.QuietTactic
import Derived.WalkSpells
import Derived.WalkLawsBesides
import Derived.Lib.Hide
import Derived.Deep.MidRow
import Derived.Deep.RegionLaw
import Derived.BigRegion
import Derived.Laws.AppendOwnNone
import Derived.Deep.DeepMust
import Derived.Deep.AppendLies
import Derived.RegionTactic
import Derived.Deep.WholeRow
import Derived.BigFrame
import Derived.Deep.RegionWith
import Derived.Deep.RegionHeld3
import Derived.Maps.RangeWalk
import Derived.Laws.CopyOwn
import Derived.StillTailTactics
namespace Go.Proofs.Ytaklkjjoplfokaa
open Go.RowKit
/-- only blocks of F, and new ones, have changed -/
structure Chg (F : Nat → Prop) (w w' : World) : Prop where
  os : w'.os = w.os
  tape : w'.tape = w.tape
  output : w'.output = w.output
  size : w.heap.size ≤ w'.heap.size
  block : ∀ k, k < w.heap.size → ¬ F k → w'.heap[k]? = w.heap[k]?
theorem Chg.refl (F : Nat → Prop) (w : World) : Chg F w w := ⟨rfl, rfl, rfl, Nat.le_refl _, fun _ _ _ => rfl⟩
theorem Chg.trans {F G : Nat → Prop} {a b c : World} (h : Chg F a b) (k : Chg G b c) (hg : ∀ i, G i → F i ∨ a.heap.size ≤ i) : Chg F a c :=
  ⟨k.os.trans h.os, k.tape.trans h.tape, k.output.trans h.output, Nat.le_trans h.size k.size, fun i hi hr => (k.block i (Nat.lt_of_lt_of_le hi h.size) (fun e => (hg i e).elim hr (fun h => by omega))).trans (h.block i hi hr)⟩
theorem Chg.mono {F G : Nat → Prop} {a b : World} (h : Chg F a b) (hg : ∀ i, F i → G i) : Chg G a b := ⟨h.os, h.tape, h.output, h.size, fun k hk hn => h.block k hk (fun e => hn (hg k e))⟩
theorem Chg.grown {F : Nat → Prop} {a b : World} {row : Option Nat} (h : a.grownBy b row) (hr : ∀ k, row = some k → F k) : Chg F a b :=
  ⟨h.os, h.tape, h.output, h.size, fun k hk hn => h.block k hk (fun e => hn (hr k e.symm))⟩
theorem Chg.fresh {F : Nat → Prop} {a b : World} (h : Below a.heap.size a b) : Chg F a b := ⟨h.os, h.tape, h.output, h.size, fun k hk _ => h.block k hk⟩
theorem Chg.below {F : Nat → Prop} {B : Nat} {a b : World} (h : Chg F a b) (hB : ∀ k, F k → B ≤ k) (hs : B ≤ a.heap.size) : Below B a b :=
  ⟨h.os, h.tape, h.output, h.size, fun k hk => h.block k (by omega) (fun e => by have := hB k e; omega)⟩
theorem Chg.drew {F : Nat → Prop} {a b : World} (h : Chg F a b) : Chg F a b.drew := ⟨h.os, h.tape, h.output, h.size, h.block⟩
theorem Chg.alloc {F : Nat → Prop} {a b : World} (h : Chg F a b) (o : Obj) : Chg F a (b.alloc o) :=
  ⟨h.os, h.tape, h.output, by have := h.size; simp; omega, fun k hk hn => (Below.heap_alloc b o k (Nat.lt_of_lt_of_le hk h.size)).trans (h.block k hk hn)⟩
theorem Chg.setCell {F : Nat → Prop} {a b : World} (h : Chg F a b) (p : Addr) (v : Value) (hp : F p.block ∨ a.heap.size ≤ p.block) : Chg F a (b.setCell p v) :=
  h.trans (G := fun k => k = p.block) (Chg.grown (grownBy_setCell b p v) (fun k hk => by injection hk with hk; exact hk.symm)) (fun i hi => by subst hi; exact hp)
/-- blocks of a disk -/
def Foot (D M : Nat) (lv : Value) (k : Nat) : Prop := k = D ∨ k = M ∨ lv.ownBlock = some k
abbrev WR := Int × List Int × List Int
def flatL (L : List WR) : List Value := L.flatMap fun x => wrL x.1 x.2.1 x.2.2
def LooseIs (w : World) (B : Nat) (lv : Value) (L : List WR) : Prop := w.ownsRow B 96 513 lv L.length (flatL L)
theorem flatL_snoc (L : List WR) (x : WR) : flatL (L ++ [x]) = flatL L ++ wrL x.1 x.2.1 x.2.2 := by simp [flatL]
theorem info_wr : (Try.prog.info? 96).map (fun i => (i.zero.map (fun z => z.cells.size), i.size, i.bytes)) = some (some 513, 513, 520) := by kernel_rfl
theorem info_wr_parts : ∃ i z, Try.prog.info? 96 = some i ∧ i.zero = some z ∧ z.cells.size = 513 ∧ i.size = 513 ∧ i.bytes = 520 := by
  have h := info_wr
  cases hi : Try.prog.info? 96 with
  | none => rw [hi] at h; cases h
  | some i =>
    rw [hi] at h
    simp only [Option.map_some, Option.some.injEq, Prod.mk.injEq] at h
    obtain ⟨h1, h2, h3⟩ := h
    cases hz : i.zero with
    | none => rw [hz] at h1; cases h1
    | some z => rw [hz] at h1; exact ⟨i, z, rfl, hz, by simpa using h1, h2, h3⟩
theorem run_append_wr (w : World) (ty : TypeId) (B : Nat) (v : Value) (L : List WR) (hown : LooseIs w B v L) (ad : Addr) (y : WR) (hy1 : y.2.1.length = 256) (hy2 : y.2.2.length = 256)
    (hc : ∀ j u, (wrL y.1 y.2.1 y.2.2)[j]? = some u → w.cell? (ad.add j) = some u) (hL : L.length ≤ 268435456) (hbase : B ≤ w.heap.size) :
    ∃ v' w', (Builtin.append_ #[91, 91] ty #[v, .slice (some ad) 1 1]).run Try.prog w = .ok v' w' ∧ LooseIs w' B v' (L ++ [y]) ∧ w.grownBy w' v.ownBlock ∧ (v'.ownBlock = v.ownBlock ∨ ∃ k, v'.ownBlock = some k ∧ w.heap.size ≤ k) := by
  obtain ⟨i, z, hi, hz, hzs, hsz, hby⟩ := info_wr_parts
  have hl := wrL_len y.1 y.2.1 y.2.2 hy1 hy2
  have h1 := wrL_one y.1 y.2.1 y.2.2
  have hlen : (L ++ [y]).length = L.length + 1 := by simp
  have gen : ∀ B', B' ≤ w.heap.size → w.ownsRow B' 96 513 v L.length (flatL L) → ∃ v' w', (Builtin.append_ #[91, 91] ty #[v, .slice (some ad) 1 1]).run Try.prog w = .ok v' w' ∧ w'.ownsRow B' 96 513 v' (L ++ [y]).length (flatL (L ++ [y])) ∧ w.grownBy w' v.ownBlock := by
    intro B' hB' hB
    obtain ⟨v', w', hr, h2, h3, _⟩ := run_append_own (P := Try.prog) w B' 91 ty 96 i z 513 520 Try.underlying91 hi hz hsz hby hzs (by decide) v L.length (flatL L) hB ad 1 1 (wrL y.1 y.2.1 y.2.2) (by rw [hl]) hc h1 (by unfold maxLen; omega) (by omega) hB'
    exact ⟨v', w', hr, by rw [hlen, flatL_snoc]; exact h2, h3⟩
  obtain ⟨v', w', hr, h2, h3⟩ := gen B hbase hown
  refine ⟨v', w', hr, h2, h3, ?_⟩
  rcases hown.2 with ⟨rfl, h0⟩ | ⟨g, cap, cur, rfl, hbg, hg, hnc, hcm, hcs, htake⟩
  · have hx : flatL L = [] := List.eq_nil_of_length_eq_zero (by rw [hown.1, h0])
    obtain ⟨v2, w2, hr2, h22, _⟩ := gen w.heap.size (Nat.le_refl _) (by rw [hx, h0]; exact World.ownsRow_nil _ _ _ _)
    rw [hr] at hr2
    injection hr2 with e1 e2
    subst e1 e2
    cases hv : v'.ownBlock with
    | none => exact .inl rfl
    | some k => exact .inr ⟨k, rfl, (h22.lt k hv).1⟩
  · by_cases hroom : L.length + 1 ≤ cap
    · have hr2 := run_append_room (P := Try.prog) w 91 ty 96 i Try.underlying91 hi g L.length cap cur hg ad 1 1 (wrL y.1 y.2.1 y.2.2) (by rw [hl, hsz]) hc h1 hroom (by rw [hl, hsz, hcs]; omega)
      rw [hr] at hr2
      injection hr2 with e1 _
      subst e1
      exact .inl rfl
    · have holds : ∀ j u, (flatL L)[j]? = some u → w.cell? ((⟨g, 0, none⟩ : Addr).add j) = some u := hown.cells (g := g) rfl
      have hr2 := run_append_grow (P := Try.prog) w 91 ty 96 i z Try.underlying91 hi hz ⟨g, 0, none⟩ L.length cap (flatL L) (by rw [hsz]; exact hown.1) holds ad 1 1 (wrL y.1 y.2.1 y.2.2) (by rw [hl, hsz]) hc (by omega) (by omega) (growslice_fits (by omega) (by rw [hby]; omega))
      rw [hr] at hr2
      injection hr2 with e1 _
      subst e1
      exact .inr ⟨_, rfl, Nat.le_refl _⟩
theorem step_append_wr {ops : Array Oper} {o : Oper} {a : Act} {w : World} {K : Act → World → Prop} {Q : Exit → Act → World → Prop} {E : Prop}
    (hg : o.guard = none) (s x : Operand) (hop : o.op = Op.call { callee := Callee.builtin Builtin.append, args := #[s, x], argTypes := #[91, 91] }) (B : Nat)
    (v : Value) (L : List WR) (hs : a.eval s = v) (hown : LooseIs w B v L) (ad : Addr) (y : WR) (hy1 : y.2.1.length = 256) (hy2 : y.2.2.length = 256) (hx : a.eval x = .slice (some ad) 1 1)
    (hc : ∀ j u, (wrL y.1 y.2.1 y.2.2)[j]? = some u → w.cell? (ad.add j) = some u) (hL : L.length ≤ 268435456) (hbase : B ≤ w.heap.size)
    (hK : ∀ v' w', LooseIs w' B v' (L ++ [y]) → w.grownBy w' v.ownBlock → (v'.ownBlock = v.ownBlock ∨ ∃ k, v'.ownBlock = some k ∧ w.heap.size ≤ k) → K (a.put o.dst v') w') :
    if Region.wanted o (yielded ops a.tmps) = true then Oper.wp Try.prog o a w K Q else E := by
  have hw : Region.wanted o (yielded ops a.tmps) = true := by simp [Region.wanted, hg]
  rw [if_pos hw]
  obtain ⟨v', w', hrun, r1, r2, r3⟩ := run_append_wr w o.type B v L hown ad y hy1 hy2 hc hL hbase
  unfold Oper.wp
  simp [execOp, hop, resolve, invoke, builtin, hs, hx, hrun, Result.andThen]
  exact hK v' w' r1 r2 r3
theorem exec_load_row {P : Program} {ρ : Operand → Value} {o : Oper} (ty : TypeId) (x : Operand) (ho : o.op = .load ty x) (w : World) (g : Nat) (hx : ρ x = .pointer (some ⟨g, 0, none⟩)) (cs : Array Value) (t : TypeId) (fr : Nat × Nat) (d : TypeDesc)
    (hg : w.heap[g]? = some (.cells cs t fr)) (hu : P.underlying ty = some d) (hd : (match d with | .struct _ | .array _ _ => true | _ => false) = true) (hi : (P.info? ty).map (·.size) = some cs.size) :
    (execOp ρ o).run P w = .ok (.value (.agg cs)) w := by
  unfold execOp
  simp only [ho, hx, Instr.loadAt, Instr.sureAddr, Sem.run_bind, Sem.run_pure, Result.andThen_ok, run_loadVar_row w g t ty cs fr d hg hu hd hi]
end Go.Proofs.Ytaklkjjoplfokaa
