import Derived.Test.YtkajpcjmcpollaaDoorHash3
import Derived.WalkKit
import Derived.ProofKit
import Derived.BigQuiet
import Derived.Deep.QuietTactic
import Derived.WalkSpells
import Derived.WalkLawsBesides
import Derived.Lib.Hide
import Derived.Deep.MidRow
import Derived.Deep.RegionLaw
import Derived.BigRegion
import Derived.Lib.SlBytesConst
import Derived.Laws.AppendOwnNone
import Derived.Deep.DeepMust
import Derived.Deep.AppendLies
import Derived.RegionTactic
import Derived.Deep.WholeRow
import Derived.BigFrame
import Derived.Deep.RegionWith
import Derived.Deep.RegionHeld3
import Derived.Maps.RangeWalk
import Derived.Laws.CopyOwn
import Derived.StillTailTactics
namespace Go.Proofs.YtkajpcjmcpollaaDoor
open Go.RowKit
def Rng (l : List Int) : Prop := ∀ x ∈ l, 0 ≤ x ∧ x < 256
theorem Rng.get {l : List Int} (h : Rng l) (i : Nat) : 0 ≤ l[i]?.getD 0 ∧ l[i]?.getD 0 < 256 := by
  by_cases hi : i < l.length
  · rw [List.getElem?_eq_getElem hi]; exact h _ (List.getElem_mem hi)
  · rw [List.getElem?_eq_none (by omega)]; exact ⟨by decide, by decide⟩
theorem Rng.drop {l : List Int} (h : Rng l) (k : Nat) : Rng (l.drop k) := fun x hx => h x (List.mem_of_mem_drop hx)
theorem Rng.take {l : List Int} (h : Rng l) (k : Nat) : Rng (l.take k) := fun x hx => h x (List.mem_of_mem_take hx)
def beI (l : List Int) : Nat := l.foldl (fun n x => n * 256 + x.toNat) 0
theorem beI_snoc (l : List Int) (x : Int) : beI (l ++ [x]) = beI l * 256 + x.toNat := by simp [beI]
theorem beI_lt' (l : List Int) (h : Rng l) : ∀ n : Nat, l.foldl (fun n x => n * 256 + x.toNat) n < (n + 1) * 256 ^ l.length := by
  induction l with
  | nil => intro n; simp
  | cons x l ih =>
    intro n
    have h1 := ih (fun y hy => h y (by simp [hy])) (n * 256 + x.toNat)
    have h2 := h x (by simp)
    rw [List.foldl_cons, List.length_cons, Nat.pow_succ]
    refine Nat.lt_of_lt_of_le h1 ?_
    have h3 : n * 256 + x.toNat + 1 ≤ (n + 1) * 256 := by omega
    calc (n * 256 + x.toNat + 1) * 256 ^ l.length ≤ ((n + 1) * 256) * 256 ^ l.length := Nat.mul_le_mul_right _ h3
      _ = (n + 1) * (256 ^ l.length * 256) := by rw [Nat.mul_assoc, Nat.mul_comm 256]
theorem beI_lt (l : List Int) (h : Rng l) : beI l < 256 ^ l.length := by
  have := beI_lt' l h 0
  simpa [beI] using this
theorem be_step (l : List Int) (h : Rng l) (k : Nat) (hk : k < 8) (hl : k < l.length) :
    bits BinOp.or IntKind.u64 (IntKind.u64.wrap ((beI (l.take k) : Int) * 256)) (IntKind.u64.wrap (l[k]?.getD 0)) = (beI (l.take (k + 1)) : Int) := by
  have h1 := beI_lt (l.take k) (h.take k)
  have h2 := h.get k
  have h3 : (l.take k).length = k := by simp; omega
  rw [h3] at h1
  have h4 : 256 ^ k ≤ 256 ^ 7 := Nat.pow_le_pow_right (by decide) (by omega)
  have h5 : (256 : Nat) ^ 7 = 72057594037927936 := by decide
  have e1 : IntKind.u64.wrap ((beI (l.take k) : Int) * 256) = (beI (l.take k) : Int) * 256 := by rw [IntKind.wrap_u64]; omega
  have e2 : IntKind.u64.wrap (l[k]?.getD 0) = l[k]?.getD 0 := by rw [IntKind.wrap_u64]; omega
  rw [e1, e2, bits_join .u64 64 (by decide) (fun n h0 h1 => by rw [IntKind.wrap_u64]; omega) 8 _ _ (by omega) (by omega) (by omega) h2.1 (by omega) (by omega)]
  rw [List.take_succ_eq_append_getElem hl, beI_snoc]
  have : (l[k]?.getD 0) = l[k] := by rw [List.getElem?_eq_getElem hl]; rfl
  rw [this] at h2 ⊢
  omega
theorem step_append_own {P : Program} {ops : Array Oper} {o : Oper} {a : Act} {w : World} {K : Act → World → Prop} {Q : Exit → Act → World → Prop} {E : Prop}
    (hg : o.guard = none) (s x : Operand) (t : TypeId) (hop : o.op = Op.call { callee := Callee.builtin Builtin.append, args := #[s, x], argTypes := #[t, t] })
    (base : Nat) (e : TypeId) (i : TypeInfo) (z : Value) (size bytes : Nat) (h1 : P.underlying t = some (.slice e)) (h2 : P.info? e = some i) (h3 : i.zero = some z) (h4 : i.size = size) (h5 : i.bytes = bytes) (h6 : z.cells.size = size) (h7 : 0 < size)
    (v : Value) (n : Nat) (xs : List Value) (hs : a.eval s = v) (hown : w.ownsRow base e size v n xs)
    (ad : Addr) (m c : Nat) (news : List Value) (hx : a.eval x = .slice (some ad) m c) (hn : news.length = m * size) (hc : ∀ j u, news[j]? = some u → w.cell? (ad.add j) = some u) (h1c : ∀ u ∈ news, u.oneCell' = true)
    (b1 : n + m ≤ maxLen) (b2 : (n + m) * bytes ≤ 140737488355328) (hbase : base ≤ w.heap.size)
    (hK : ∀ v' w', w'.ownsRow base e size v' (n + m) (xs ++ news) → w.grownBy w' v.ownBlock → (v' = .slice none 0 0 ↔ v = .slice none 0 0 ∧ m = 0) → K (a.put o.dst v') w') :
    if Region.wanted o (yielded ops a.tmps) = true then Oper.wp P o a w K Q else E := by
  have hw : Region.wanted o (yielded ops a.tmps) = true := by simp [Region.wanted, hg]
  rw [if_pos hw]
  obtain ⟨v', w', hrun, r1, r2, r3⟩ := run_append_own (P := P) w base t o.type e i z size bytes h1 h2 h3 h4 h5 h6 h7 v n xs hown ad m c news hn hc h1c b1 b2 hbase
  unfold Oper.wp
  simp [execOp, hop, resolve, invoke, builtin, hs, hx, hrun, Result.andThen]
  exact hK v' w' r1 r2 r3
theorem below_drew_grown {w w1 w2 : World} (h : w1.drew.grownBy w2 (Value.slice none 0 0).ownBlock) (hs : w.heap.size ≤ w1.heap.size) : Below w.heap.size w1 w2 :=
  ⟨h.os, h.tape, h.output, h.size, fun k hk => h.block k (Nat.lt_of_lt_of_le hk hs) (by simp [Value.ownBlock])⟩
end Go.Proofs.YtkajpcjmcpollaaDoor
