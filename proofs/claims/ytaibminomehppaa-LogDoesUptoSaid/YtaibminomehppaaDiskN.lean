import Derived.Test.YtaibminomehppaaDiskL
import Derived.WalkKit
import Derived.ProofKit
import Derived.BigQuiet
import Derived.Deep.QuietTactic
import Derived.WalkSpells
import Derived.WalkLawsBesides
import Derived.Lib.Hide
import Derived.Deep.MidRow
import Derived.Deep.RegionLaw
import Derived.BigRegion
import Derived.Laws.AppendOwnNone
import Derived.Deep.DeepMust
import Derived.Deep.AppendLies
import Derived.RegionTactic
import Derived.Deep.WholeRow
import Derived.BigFrame
import Derived.Deep.RegionWith
import Derived.Deep.RegionHeld3
import Derived.Maps.RangeWalk
import Derived.Laws.CopyOwn
import Derived.StillTailTactics
namespace Go.Proofs.Ytaibminomehppaa
open Go.RowKit
/-- the five cells of the reference's disk -/
def RC (fv lv : Value) (rm fz : Int) (off : Bool) : Array Value := #[fv, lv, .int .i64 rm, .int .i64 fz, .bool off]
def RefIs (w : World) (R : Nat) (c : Array Value) : Prop := w.heap[R]? = some (.cells c 77 (0, 0))
theorem RefIs.cell {w : World} {R : Nat} {c : Array Value} (h : RefIs w R c) (i : Nat) : w.cell? ⟨R, i, none⟩ = c[i]? := cell_of_row w R i c 77 (0, 0) h
theorem RefIs.frozen {w : World} {R : Nat} {c : Array Value} (h : RefIs w R c) (i : Nat) : w.frozen? ⟨R, i, none⟩ = false := frozen_of_row w R i c 77 h
theorem RefIs.set {w : World} {R : Nat} {c : Array Value} (h : RefIs w R c) (i : Nat) (v : Value) : RefIs (w.setCell ⟨R, i, none⟩ v) R (c.setIfInBounds i v) := heap_setCell_same w R i c 77 v h
theorem RefIs.lt {w : World} {R : Nat} {c : Array Value} (h : RefIs w R c) : R < w.heap.size := (Array.getElem?_eq_some_iff.1 h).1
theorem off_any (R : Nat) (fv lv : Value) (rm fz : Int) (off : Bool) (w : World) (hd : RefIs w R (RC fv lv rm fz off)) (hf : -1 ≤ fz) (hf2 : fz ≤ 9223372036854775807) :
    Calls Try.prog 88 #[.pointer (some ⟨R, 0, none⟩)] w fun e w' => e = .returned (.bool (opDn fz off)) ∧ RefIs w' R (RC fv lv rm (opFz fz off) (opDn fz off)) ∧ w.grownBy w' (some R) ∧ w'.heap.size = w.heap.size := by
  have HD := Lib.hid hd
  have c3 : w.cell? ⟨R, 3, none⟩ = some (.int .i64 fz) := hd.cell 3
  have c4 : w.cell? ⟨R, 4, none⟩ = some (.bool off) := hd.cell 4
  have f3 := hd.frozen 3
  have f4 := hd.frozen 4
  clear hd
  cases off
  · by_cases h0 : fz = 0
    · subst h0
      go_enter Try.func88, Try.ntmps88
      go_wp2
      go_ret
      exact ⟨rfl, (HD.out.set 4 (.bool true)).set 3 (.int .i64 (-1)), grownBy_trans (grownBy_setCell _ _ _) (grownBy_setCell _ _ _), by simp⟩
    · have h0b : (fz == 0) = false := by simpa using h0
      by_cases h1 : 0 < fz
      · go_enter Try.func88, Try.ntmps88
        go_wp2
        go_ret
        refine ⟨ret_b (by simp [opDn, h0]), ?_, grownBy_setCell _ _ _, by simp⟩
        have := HD.out.set 3 (.int .i64 (fz - 1))
        simpa [opFz, opDn, h0, h1, RC] using this
      · go_enter Try.func88, Try.ntmps88
        go_wp2
        go_ret
        refine ⟨ret_b (by simp [opDn, h0]), ?_, World.grownBy.refl _ _, rfl⟩
        have e1 : opFz fz false = fz := by unfold opFz; rw [if_neg (by simp), if_neg h0, if_neg (by omega)]
        have e2 : opDn fz false = false := by simp [opDn, h0]
        rw [e1, e2]; exact HD.out
  · go_enter Try.func88, Try.ntmps88
    go_wp2
    go_ret
    exact ⟨rfl, HD.out, World.grownBy.refl _ _, rfl⟩
theorem rroom_any (R : Nat) (fv lv : Value) (rm fz n : Int) (off : Bool) (w : World) (hd : RefIs w R (RC fv lv rm fz off)) :
    Calls Try.prog 53 #[.pointer (some ⟨R, 0, none⟩), .int .i64 n] w fun e w' => e = .returned (.tuple #[]) ∧ RefIs w' R (RC fv lv (if 0 ≤ n then n else 0) fz off) ∧ w.grownBy w' (some R) ∧ w'.heap.size = w.heap.size := by
  have HD := Lib.hid hd
  have c2 : w.cell? ⟨R, 2, none⟩ = some (.int .i64 rm) := hd.cell 2
  have f2 := hd.frozen 2
  clear hd
  by_cases h0 : 0 ≤ n
  · rw [if_pos h0]
    have h1 : ¬ n < 0 := by omega
    go_enter Try.func53, Try.ntmps53
    go_wp2
    all_goals go_end0
    all_goals exact ⟨rfl, HD.out.set 2 _, grownBy_setCell _ _ _, by simp⟩
  · rw [if_neg h0]
    have h1 : n < 0 := by omega
    go_enter Try.func53, Try.ntmps53
    go_wp2
    all_goals go_end0
    all_goals exact ⟨rfl, (HD.out.set 2 _).set 2 _, grownBy_trans (grownBy_setCell _ _ _) (grownBy_setCell _ _ _), by simp⟩
theorem rarm_any (R : Nat) (fv lv : Value) (rm fz n : Int) (off : Bool) (w : World) (hd : RefIs w R (RC fv lv rm fz off)) :
    Calls Try.prog 55 #[.pointer (some ⟨R, 0, none⟩), .int .i64 n] w fun e w' => e = .returned (.tuple #[]) ∧ RefIs w' R (RC fv lv rm (if 0 ≤ n then n else -1) off) ∧ w.grownBy w' (some R) ∧ w'.heap.size = w.heap.size := by
  have HD := Lib.hid hd
  have c3 : w.cell? ⟨R, 3, none⟩ = some (.int .i64 fz) := hd.cell 3
  have f3 := hd.frozen 3
  clear hd
  by_cases h0 : 0 ≤ n
  · rw [if_pos h0]
    have h1 : ¬ n < 0 := by omega
    go_enter Try.func55, Try.ntmps55
    go_wp2
    all_goals go_end0
    all_goals exact ⟨rfl, HD.out.set 3 _, grownBy_setCell _ _ _, by simp⟩
  · rw [if_neg h0]
    have h1 : n < 0 := by omega
    go_enter Try.func55, Try.ntmps55
    go_wp2
    all_goals go_end0
    all_goals exact ⟨rfl, (HD.out.set 3 _).set 3 _, grownBy_trans (grownBy_setCell _ _ _) (grownBy_setCell _ _ _), by simp⟩
end Go.Proofs.Ytaibminomehppaa
