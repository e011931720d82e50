import Derived.Test.YtkajpcjmcpollaaDoorCode0
import Derived.WalkKit
import Derived.ProofKit
import Derived.BigQuiet
import Derived.Deep.QuietTactic
import Derived.WalkSpells
import Derived.WalkLawsBesides
import Derived.Lib.Hide
import Derived.Deep.MidRow
import Derived.Deep.RegionLaw
import Derived.BigRegion
import Derived.Lib.SlBytesConst
import Derived.Laws.AppendOwnNone
import Derived.Deep.DeepMust
import Derived.Deep.AppendLies
import Derived.RegionTactic
import Derived.Deep.WholeRow
import Derived.BigFrame
import Derived.Deep.RegionWith
import Derived.Deep.RegionHeld3
import Derived.Maps.RangeWalk
import Derived.Laws.CopyOwn
import Derived.StillTailTactics
namespace Go.Proofs.YtkajpcjmcpollaaDoor
open Go.RowKit
def vagg (v : Val) : Value := .agg #[.int .i64 v.k, .int .i64 v.n, .string (str v.s)]
theorem str_len (s : List Int) : (str s).size = s.length := by simp [str, ByteArray.size]
theorem str_nil : str [] = ⟨#[]⟩ := rfl
theorem str_empty (s : List Int) : (str s).toList.isEmpty = decide (s = []) := by
  rw [ByteArray.toList_eq]
  cases s <;> simp [str]
theorem valid_any (v : Val) (w : World) (ho : v.OK) (hs : v.s.length ≤ 1099511627776) :
    Calls Tryd.prog 23 #[vagg v] w fun e w' => e = .returned (.bool (vld v)) ∧ Below w.heap.size w w' := by
  obtain ⟨k, n, s⟩ := v
  obtain ⟨o1, o2, o3, o4, o5⟩ := ho
  simp only [vagg] at *
  have hl := str_len s
  have hE := Lib.hid (str_empty s)
  generalize hS : str s = S at *
  clear hS
  by_cases k0 : k = 0
  · subst k0
    go_enter Tryd.func23, Tryd.ntmps23
    go_wp2
    all_goals go_ret
    all_goals refine ⟨ret_bool ?_, (Below.refl _ _).alloc (Nat.le_refl _) _⟩
    all_goals (first | rw [hE.out] | skip)
    all_goals simp [vld, *]
  by_cases k1 : k = 1
  · subst k1
    go_enter Tryd.func23, Tryd.ntmps23
    go_wp2
    all_goals go_ret
    all_goals refine ⟨ret_bool ?_, (Below.refl _ _).alloc (Nat.le_refl _) _⟩
    all_goals (first | rw [hE.out] | skip)
    all_goals simp [vld, *]
  by_cases k2 : k = 2
  · subst k2
    go_enter Tryd.func23, Tryd.ntmps23
    go_wp2
    all_goals go_ret
    all_goals refine ⟨ret_bool ?_, (Below.refl _ _).alloc (Nat.le_refl _) _⟩
    all_goals (first | rw [hE.out] | skip)
    all_goals simp [vld, *]
    all_goals omega
  by_cases k3 : k = 3
  · subst k3
    go_enter Tryd.func23, Tryd.ntmps23
    go_wp2
    all_goals go_ret
    all_goals refine ⟨ret_bool ?_, (Below.refl _ _).alloc (Nat.le_refl _) _⟩
    all_goals (first | rw [hE.out] | skip)
    all_goals simp [vld, *]
  · go_enter Tryd.func23, Tryd.ntmps23
    go_wp2
    all_goals go_ret
    all_goals refine ⟨ret_bool ?_, (Below.refl _ _).alloc (Nat.le_refl _) _⟩
    all_goals (first | rw [hE.out] | skip)
    all_goals simp [vld, *]

def Own (w : World) (B : Nat) (v : Value) (l : List Int) : Prop := w.ownsRow B 5 1 v l.length (l.map (Value.int .u8))
theorem Own.bs {w : World} {B : Nat} {v : Value} {l : List Int} (h : Own w B v l) : Bs w v l := Bs_of_own h
theorem Own.below {w w' : World} {B B' : Nat} {v : Value} {l : List Int} (h : Own w B v l) (hb : Below B' w w') (hB : w.heap.size ≤ B') : Own w' B v l := by
  have hg : w.grownBy w' none := ⟨hb.os, hb.tape, hb.output, hb.size, fun k hk _ => hb.block k (by omega)⟩
  refine World.ownsRow.kept h hg ?_
  cases hv : v.ownBlock with
  | none => exact .inl rfl
  | some g => exact .inr (by simp)
theorem Own.alloc {w : World} {B : Nat} {v : Value} {l : List Int} (h : Own w B v l) (o : Obj) : Own (w.alloc o) B v l := World.ownsRow.alloc h o
theorem Own.nil (w : World) (B : Nat) : Own w B (.slice none 0 0) [] := World.ownsRow_nil _ _ _ _
theorem Own.eq {w : World} {B : Nat} {v : Value} {l m : List Int} (h : Own w B v l) (e : l = m) : Own w B v m := e ▸ h
theorem lit_bs (w : World) (T : TypeId) (C : List Int) (fr : Nat × Nat) (n c : Nat) (hn : C.length = n) (hc : n ≤ c) : Bs (w.alloc (.cells (C.map (Value.int .u8)).toArray T fr)) (.slice (some ⟨w.heap.size, 0, none⟩) n c) C := by
  subst hn
  refine ⟨some ⟨w.heap.size, 0, none⟩, c, rfl, ⟨hc, fun e => by cases e⟩, fun hl => ⟨w.heap.size, 0, rfl, by simp, fun i hi => ?_⟩⟩
  rw [cell_of_row _ w.heap.size _ _ _ _ (heap_alloc_new _ _)]
  simp [hi]
theorem wpList_append_Own {ops : Array Oper} {rest : List Oper} {o : Oper} {a : Act} {w : World} {Q : Exit → Act → World → Prop} (hgd : o.guard = none) (s x : Operand)
    (ho : o.op = .call { callee := .builtin .append, args := #[s, x], argTypes := #[25, 25] }) (B : Nat)
    (v : Value) (l : List Int) (hs : a.eval s = v) (hown : Own w B v l) (v2 : Value) (m : List Int) (hx : a.eval x = v2) (hbs : Bs w v2 m) (h63 : l.length + m.length ≤ 1099511627776) (hbase : B ≤ w.heap.size)
    (h : ∀ v' w', Own w' B v' (l ++ m) → Below B w w' → wpList Tryd.prog ops Q rest (a.put o.dst v') w') : wpList Tryd.prog ops Q (o :: rest) a w := by
  obtain ⟨i0, hi, hz0, hz1, hz2⟩ := info_parts info5
  refine wpList_append_bs hgd s x 25 ho B 5 i0 Tryd.underlying25 hi hz0 hz1 hz2 v l.length _ hs hown v2 m hx hbs h63 hbase fun v' w' h1 h2 => h v' w' ?_ ?_
  · unfold Own; rw [List.length_append, List.map_append]; exact h1
  · exact (Below.refl _ _).grown h2 hbase (fun g hg => (hown.lt g hg).1)
theorem dg8_succ (k j : Nat) (h : j < 8) : (dg 8 k).take (j + 1) = (dg 8 k).take j ++ [(k : Int) / 2 ^ (56 - 8 * j) % 256] := by
  have e : dg 8 k = be8 k := by rw [be8_nat]; simp [dg]
  rw [e]; exact be8_take_succ k j h
set_option maxHeartbeats 400000 in
theorem appendNumber2_any (v : Value) (l : List Int) (B k : Nat) (w : World) (hown : Own w B v l) (hB : B ≤ w.heap.size) (hn : l.length ≤ 1099511627768) (hk : k < 18446744073709551616) :
    Calls Tryd.prog 31 #[v, .int .u64 k] w fun e w' => ∃ v', e = .returned v' ∧ Own w' B v' (l ++ dg 8 k) ∧ Below B w w' := by
  have HO := Lib.hid hown
  have HK := Lib.hid hk
  have h8 := dg_len 8 k
  clear hown hk
  go_enter Tryd.func31, Tryd.ntmps31
  go_wp2_with fail
  go_loopw [0, 5] (fun v0 s wr => ∃ j : Nat, j ≤ 8 ∧ s = .int .i64 (56 - 8 * (j : Int)) ∧ Own wr B v0 (l ++ (dg 8 k).take j) ∧ Below B w wr)
    (fun _ s _ => (intOf s + 8).toNat)
  case atStart => exact ⟨0, by omega, by simp, by simpa using HO.out, Below.refl _ _⟩
  case round =>
    obtain ⟨j, hj, rfl, hown, hbw⟩ := hrel
    have hsz := hbw.size
    by_cases hlt : j < 8
    · have HB := Lib.hid (dg8_succ k j hlt)
      have HBW := Lib.hid hbw
      have HOW := Lib.hid hown
      have H8 := Lib.hid h8
      clear hbw hown h8
      go_wp2_with (at_builtin; refine wpList_append_Own rfl (Operand.tmp 10) (Operand.tmp 15) rfl B _ (l ++ (dg 8 k).take j) rfl (HOW.out.alloc _) _ [(k : Int) / 2 ^ (56 - 8 * j) % 256] rfl (lit_bs wr _ [_] _ 1 1 rfl (Nat.le_refl 1)) (by simp [H8.out]; omega) (by simp; omega) ?_; intro v' w1 hown' hgrow; have HO1 := Lib.hid hown'; have HG1 := Lib.hid hgrow; clear hown' hgrow)
      go_roundw
      case rel =>
        refine ⟨j + 1, by omega, by congr 1; omega, ?_, ?_⟩
        · rw [HB.out, ← List.append_assoc]; exact HO1.out
        · exact (HBW.out.alloc (by omega) _).trans HG1.out
      case measure => simp [intOf]; omega
    · have hj8 : j = 8 := by omega
      rw [hj8] at hown
      rw [List.take_of_length_le (by omega)] at hown
      have hj9 : 8 ≤ j := by omega
      have HBW := Lib.hid hbw
      have HOW := Lib.hid hown
      clear hbw hown hj8 hlt h8
      go_wp2_with fail
      go_ret
      exact ⟨_, rfl, HOW.out, HBW.out⟩
end Go.Proofs.YtkajpcjmcpollaaDoor
