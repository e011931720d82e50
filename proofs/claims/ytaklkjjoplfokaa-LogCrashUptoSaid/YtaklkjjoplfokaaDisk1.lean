import Derived.Test.YtaklkjjoplfokaaProg
import Derived.WalkKit
import Derived.ProofKit
import Derived.BigQuiet
import Derived.Deep.QuietTactic
import Derived.WalkSpells
import Derived.WalkLawsBesides
import Derived.Lib.Hide
import Derived.Deep.MidRow
import Derived.Deep.RegionLaw
import Derived.BigRegion
import Derived.Laws.AppendOwnNone
import Derived.Deep.DeepMust
import Derived.Deep.AppendLies
import Derived.RegionTactic
import Derived.Deep.WholeRow
import Derived.BigFrame
import Derived.Deep.RegionWith
import Derived.Deep.RegionHeld3
import Derived.Maps.RangeWalk
import Derived.Laws.CopyOwn
import Derived.StillTailTactics
namespace Go.Proofs.Ytaklkjjoplfokaa
open Go.RowKit
/-- the six cells of a disk -/
def DC (nb rm fz : Int) (dn : Bool) (m lv : Value) : Array Value := #[.int .i64 nb, .int .i64 rm, .int .i64 fz, .bool dn, m, lv]
def DiskIs (w : World) (D : Nat) (c : Array Value) : Prop := w.heap[D]? = some (.cells c 93 (0, 0))
theorem DiskIs.cell {w : World} {D : Nat} {c : Array Value} (h : DiskIs w D c) (i : Nat) : w.cell? ⟨D, i, none⟩ = c[i]? := cell_of_row w D i c 93 (0, 0) h
theorem DiskIs.frozen {w : World} {D : Nat} {c : Array Value} (h : DiskIs w D c) (i : Nat) : w.frozen? ⟨D, i, none⟩ = false := frozen_of_row w D i c 93 h
theorem DiskIs.set {w : World} {D : Nat} {c : Array Value} (h : DiskIs w D c) (i : Nat) (v : Value) : DiskIs (w.setCell ⟨D, i, none⟩ v) D (c.setIfInBounds i v) := heap_setCell_same w D i c 93 v h
theorem grownBy_setCell (w : World) (a : Addr) (v : Value) : w.grownBy (w.setCell a v) (some a.block) :=
  ⟨rfl, rfl, rfl, by simp, fun k _ hk => heap_setCell_other w a k v (fun e => hk (by rw [e]))⟩
theorem grownBy_trans {a b c : World} {row : Option Nat} (h : a.grownBy b row) (k : b.grownBy c row) : a.grownBy c row :=
  ⟨k.os.trans h.os, k.tape.trans h.tape, k.output.trans h.output, Nat.le_trans h.size k.size, fun i hi hr => (k.block i (Nat.lt_of_lt_of_le hi h.size) hr).trans (h.block i hi hr)⟩
theorem ret_b {a b : Bool} (h : a = b) : Ending.returned (.bool a) = Ending.returned (.bool b) := by rw [h]
/-- what an operation does to the fuse and to whether the disk is down -/
def opOk (fz : Int) (dn : Bool) : Bool := !dn && !decide (fz = 0)
def opFz (fz : Int) (dn : Bool) : Int := if dn then fz else if fz = 0 then -1 else if 0 < fz then fz - 1 else fz
def opDn (fz : Int) (dn : Bool) : Bool := dn || decide (fz = 0)
theorem operates_any (D : Nat) (nb rm fz : Int) (dn : Bool) (m lv : Value) (w : World) (hd : DiskIs w D (DC nb rm fz dn m lv)) (hf : -1 ≤ fz) (hf2 : fz ≤ 9223372036854775807) :
    Calls Try.prog 57 #[.pointer (some ⟨D, 0, none⟩)] w fun e w' => e = .returned (.bool (opOk fz dn)) ∧ DiskIs w' D (DC nb rm (opFz fz dn) (opDn fz dn) m lv) ∧ w.grownBy w' (some D) ∧ w'.heap.size = w.heap.size := by
  have HD := Lib.hid hd
  have c2 : w.cell? ⟨D, 2, none⟩ = some (.int .i64 fz) := hd.cell 2
  have c3 : w.cell? ⟨D, 3, none⟩ = some (.bool dn) := hd.cell 3
  have f2 := hd.frozen 2
  have f3 := hd.frozen 3
  clear hd
  cases dn
  · by_cases h0 : fz = 0
    · subst h0
      go_enter Try.func57, Try.ntmps57
      go_wp2
      go_ret
      exact ⟨rfl, (HD.out.set 3 (.bool true)).set 2 (.int .i64 (-1)), grownBy_trans (grownBy_setCell _ _ _) (grownBy_setCell _ _ _), by simp⟩
    · by_cases h1 : 0 < fz
      · go_enter Try.func57, Try.ntmps57
        go_wp2
        go_ret
        refine ⟨ret_b (by simp [opOk, h0]), ?_, grownBy_setCell _ _ _, by simp⟩
        have := HD.out.set 2 (.int .i64 (fz - 1))
        simpa [opFz, opDn, h0, h1, DC] using this
      · go_enter Try.func57, Try.ntmps57
        go_wp2
        go_ret
        refine ⟨ret_b (by simp [opOk, h0]), ?_, World.grownBy.refl _ _, rfl⟩
        have e1 : opFz fz false = fz := by unfold opFz; rw [if_neg (by simp), if_neg h0, if_neg (by omega)]
        have e2 : opDn fz false = false := by simp [opDn, h0]
        rw [e1, e2]; exact HD.out
  · go_enter Try.func57, Try.ntmps57
    go_wp2
    go_ret
    exact ⟨rfl, HD.out, World.grownBy.refl _ _, rfl⟩
def hasB (nb n : Int) : Bool := decide (0 ≤ n) && decide (n < nb)
theorem has_any (D : Nat) (nb n : Int) (c : Array Value) (w : World) (hd : DiskIs w D c) (h0 : c[0]? = some (.int .i64 nb)) :
    Calls Try.prog 58 #[.pointer (some ⟨D, 0, none⟩), .int .i64 n] w fun e w' => w = w' ∧ e = .returned (.bool (hasB nb n)) := by
  have c0 : w.cell? ⟨D, 0, none⟩ = some (.int .i64 nb) := (hd.cell 0).trans h0
  clear hd h0
  by_cases hn : 0 ≤ n
  · go_enter Try.func58, Try.ntmps58
    go_wp2
    go_ret
    exact ⟨rfl, ret_b (by simp [hasB, hn])⟩
  · have hn' : n < 0 := by omega
    go_enter Try.func58, Try.ntmps58
    go_wp2
    go_ret
    exact ⟨rfl, ret_b (by simp [hasB]; omega)⟩
theorem sync_any (D : Nat) (nb rm fz : Int) (dn : Bool) (m lv : Value) (w : World) (hd : DiskIs w D (DC nb rm fz dn m lv)) (hf : -1 ≤ fz) (hf2 : fz ≤ 9223372036854775807) :
    Calls Try.prog 18 #[.pointer (some ⟨D, 0, none⟩)] w fun e w' => e = .returned (.int .i64 (if opOk fz dn = true then 0 else 44)) ∧ DiskIs w' D (DC nb rm (opFz fz dn) (opDn fz dn) m (if opOk fz dn = true then .slice none 0 0 else lv)) ∧ w.grownBy w' (some D) ∧ w'.heap.size = w.heap.size := by
  go_enter Try.func18, Try.ntmps18
  go_wp2_with fail
  refine (operates_any D nb rm fz dn m lv w hd hf hf2).mono ?_
  rintro e w1 ⟨rfl, hd1, hg1, hs1⟩
  have HD1 := Lib.hid hd1
  have HG1 := Lib.hid hg1
  have HS1 := Lib.hid hs1
  have c5 : w1.cell? ⟨D, 5, none⟩ = some lv := hd1.cell 5
  have f5 := hd1.frozen 5
  clear hd hd1 hg1 hs1
  cases hop : opOk fz dn
  · go_wp2
    all_goals go_ret
    all_goals exact ⟨rfl, HD1.out, HG1.out, HS1.out⟩
  · go_wp2
    all_goals go_ret
    all_goals exact ⟨rfl, HD1.out.set 5 (.slice none 0 0), grownBy_trans HG1.out (grownBy_setCell _ _ _), by simp [HS1.out]⟩
end Go.Proofs.Ytaklkjjoplfokaa
