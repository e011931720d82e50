import Derived.Test.YtaklkjjoplfokaaDisk5
import Derived.Great.BuildSlice
import Derived.Deep.Cut
import Derived.WalkKit
import Derived.ProofKit
import Derived.BigQuiet
import Derived.Deep.QuietTactic
import Derived.WalkSpells
import Derived.WalkLawsBesides
import Derived.Lib.Hide
import Derived.Deep.MidRow
import Derived.Deep.RegionLaw
import Derived.BigRegion
import Derived.Laws.AppendOwnNone
import Derived.Deep.DeepMust
import Derived.Deep.AppendLies
import Derived.RegionTactic
import Derived.Deep.WholeRow
import Derived.BigFrame
import Derived.Deep.RegionWith
import Derived.Deep.RegionHeld3
import Derived.Maps.RangeWalk
import Derived.Laws.CopyOwn
import Derived.StillTailTactics
namespace Go.Proofs.Ytaklkjjoplfokaa
open Go.RowKit
/-- the cells of an unsynced write -/
def wrL (n : Int) (a b : List Int) : List Value := Value.int .i64 n :: (a.map (Value.int .u8) ++ b.map (Value.int .u8))
theorem wrL_len (n : Int) (a b : List Int) (ha : a.length = 256) (hb : b.length = 256) : (wrL n a b).length = 513 := by simp [wrL, ha, hb]
theorem wrL_one (n : Int) (a b : List Int) : ∀ v ∈ wrL n a b, v.oneCell' = true := by
  intro v hv
  simp only [wrL, List.mem_cons, List.mem_append, List.mem_map] at hv
  rcases hv with rfl | ⟨x, _, rfl⟩ | ⟨x, _, rfl⟩ <;> rfl
theorem setAt_list (off : Nat) (cs : List Value) (A : Array Value) (h : off + cs.length ≤ A.size) :
    ((cs.zipIdx 0).foldl (fun a (x : Value × Nat) => a.setIfInBounds (off + x.2) x.1) A) = (A.toList.take off ++ cs ++ A.toList.drop (off + cs.length)).toArray := by
  obtain ⟨h1, h2⟩ := Great.foldl_set off cs 0 A
  apply Array.ext_getElem?
  intro k
  rw [h2 k]
  simp only [Nat.add_zero, List.getElem?_toArray]
  have hl : (A.toList.take off ++ cs).length = off + cs.length := by simp; omega
  by_cases hin : off ≤ k ∧ k < off + cs.length ∧ k < A.size
  · rw [if_pos hin, List.getElem?_append_left (by omega), List.getElem?_append_right (by simp; omega)]
    congr 1
    simp; omega
  · rw [if_neg hin]
    by_cases hk : k < off
    · rw [List.getElem?_append_left (by omega), List.getElem?_append_left (by simp; omega), List.getElem?_take_of_lt hk]
      simp
    · by_cases hk2 : k < off + cs.length
      · exfalso; exact hin ⟨by omega, hk2, by omega⟩
      · rw [List.getElem?_append_right (by omega), hl, List.getElem?_drop, show off + cs.length + (k - (off + cs.length)) = k by omega]
        simp
theorem fill_cons {place : Nat → Option (Nat × Nat)} {cells : Array Value} {i : Nat} {v : Value} {rest : List (Nat × Value)} (off : Nat) (cs : List Value) (hv : v.cells = cs.toArray) (hp : place i = some (off, cs.length)) (hfit : off + cs.length ≤ cells.size) :
    Instr.fill place cells ((i, v) :: rest) = Instr.fill place (cells.toList.take off ++ cs ++ cells.toList.drop (off + cs.length)).toArray rest := by
  rw [Instr.fill, hp]
  simp only [hv, List.size_toArray]
  rw [if_neg (by simp; omega), ← setAt_list off cs cells hfit, ← Array.foldl_toList]
  simp
theorem agg_cells (c : Array Value) : (Value.agg c).cells = c := rfl
theorem zeros_len (n : Nat) : (zeros n).length = n := List.length_replicate
theorem fill_wr (n : Int) (a b z1 z2 : List Int) (ha : a.length = 256) (hb : b.length = 256) (h1 : z1.length = 256) (h2 : z2.length = 256) :
    Instr.fill (fun x => (#[(0, 1), (1, 256), (257, 256)] : Array (Nat × Nat))[x]?) (wrL 0 z1 z2).toArray [(0, Value.int .i64 n), (1, .agg (ArrU8 a)), (2, .agg (ArrU8 b))] = some (wrL n a b).toArray := by
  have hl := wrL_len 0 z1 z2 h1 h2
  rw [fill_cons 0 [Value.int .i64 n] rfl rfl (by rw [List.size_toArray, hl]; simp)]
  rw [fill_cons 1 (a.map (Value.int .u8)) rfl (by simp [ha]) (by simp [ha, hl])]
  rw [fill_cons 257 (b.map (Value.int .u8)) rfl (by simp [hb]) (by simp [ha, hb, hl])]
  rw [Instr.fill]
  congr 2
  simp [wrL, ha, hb, h1, h2]
set_option maxRecDepth 100000 in
theorem run_build_wr (u : World) (n : Int) (a b : List Int) (ha : a.length = 256) (hb : b.length = 256) :
    (Instr.build 96 #[(0, .int .i64 n), (1, .agg (ArrU8 a)), (2, .agg (ArrU8 b))]).run Try.prog u = .ok (.agg (wrL n a b).toArray) u := by
  have hz : (zeroValue 96).run Try.prog u = .ok (.agg (wrL 0 (zeros 256) (zeros 256)).toArray) u := by kernel_rfl
  have hpl : ∀ fs, Try.prog.underlying 96 = some (.struct fs) → (fs.mapM fun f => do pure (f.offset, ← sizeOf f.type) : Sem (Array (Nat × Nat))).run Try.prog u = .ok #[(0, 1), (1, 256), (257, 256)] u := by
    intro fs h
    rw [Try.underlying96] at h
    injection h with h
    injection h with h
    subst h
    kernel_rfl
  have hp2 := hpl _ Try.underlying96
  have hf := fill_wr n a b (zeros 256) (zeros 256) ha hb (zeros_len _) (zeros_len _)
  generalize (wrL 0 (zeros 256) (zeros 256)).toArray = Z at *
  unfold Instr.build
  simp only [Sem.run_bind, hz, run_underlying Try.underlying96, Result.andThen_ok, agg_cells, hp2, hf]
  rfl
theorem run_bslice_wr (u : World) (n : Int) (a b : List Int) (ha : a.length = 256) (hb : b.length = 256) :
    (Instr.buildSlice 91 1 #[(0, .agg (wrL n a b).toArray)]).run Try.prog u = .ok (.slice (some ⟨u.heap.size, 0, none⟩) 1 1) (u.alloc (.cells (wrL n a b).toArray 96)) := by
  obtain ⟨ie, hie, hsz, z, hz, hzs⟩ : ∃ ie, Try.prog.info? 96 = some ie ∧ ie.size = 513 ∧ ∃ z, ie.zero = some z ∧ z.cells.size = 513 := by
    have h1 : (Try.prog.info? 96).map (fun ie => (ie.size, (ie.zero.map fun z => z.cells.size))) = some (513, some 513) := by kernel_rfl
    cases hie : Try.prog.info? 96 with
    | none => rw [hie] at h1; cases h1
    | some ie =>
      rw [hie] at h1
      simp only [Option.map_some, Option.some.injEq, Prod.mk.injEq] at h1
      cases hz : ie.zero with
      | none => rw [hz] at h1; exact absurd h1.2 (by simp)
      | some z => rw [hz] at h1; exact ⟨ie, rfl, h1.1, z, hz, by simpa using h1.2⟩
  refine run_buildSlice u 91 96 1 _ _ ie z Try.underlying91 hie hz (by rw [hsz]; decide) (by rw [hsz]; decide) ?_
  have hl := wrL_len n a b ha hb
  show Instr.fill _ _ [(0, Value.agg (wrL n a b).toArray)] = _
  rw [fill_cons 0 (wrL n a b) rfl (by rw [hsz, hl]) (by simp [hsz, hl]), Instr.fill]
  simp [hsz, hl]
end Go.Proofs.Ytaklkjjoplfokaa
