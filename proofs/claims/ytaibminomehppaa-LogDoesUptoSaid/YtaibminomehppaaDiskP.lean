import Derived.Test.YtaibminomehppaaDiskO
import Derived.WalkKit
import Derived.ProofKit
import Derived.BigQuiet
import Derived.Deep.QuietTactic
import Derived.WalkSpells
import Derived.WalkLawsBesides
import Derived.Lib.Hide
import Derived.Deep.MidRow
import Derived.Deep.RegionLaw
import Derived.BigRegion
import Derived.Laws.AppendOwnNone
import Derived.Deep.DeepMust
import Derived.Deep.AppendLies
import Derived.RegionTactic
import Derived.Deep.WholeRow
import Derived.BigFrame
import Derived.Deep.RegionWith
import Derived.Deep.RegionHeld3
import Derived.Maps.RangeWalk
import Derived.Laws.CopyOwn
import Derived.StillTailTactics
namespace Go.Proofs.Ytaibminomehppaa
open Go.RowKit
theorem madeN (n : Nat) : madeCells (ArrU8 (zeros 256)) (n * 256) = (flatB (List.replicate n (zeros 256))).toArray := by
  have hs : (ArrU8 (zeros 256)).size = 256 := by rw [ArrU8_size, zeros_len]
  have hb : ∀ l ∈ List.replicate n (zeros 256), l.length = 256 := fun l hl => by rw [(List.mem_replicate.1 hl).2, zeros_len]
  have hl := flatB_len _ hb
  rw [List.length_replicate] at hl
  unfold madeCells
  apply Array.ext_getElem?
  intro i
  have hR : (flatB (List.replicate n (zeros 256))).toArray[i]? = (flatB (List.replicate n (zeros 256)))[i]? := List.getElem?_toArray ..
  rw [Array.getElem?_map, hR]
  by_cases hi : i < n * 256
  · have h1 : (Array.range (n * 256))[i]? = some i := by simp [hi]
    rw [h1, hs]
    have hj : i % 256 < ((zeros 256).map (Value.int .u8)).length := by rw [List.length_map, zeros_len]; omega
    have h2 := flatB_get _ hb (i / 256) (zeros 256) (by rw [List.getElem?_replicate, if_pos (by omega)]) (i % 256) _ (List.getElem?_eq_getElem hj)
    rw [show i / 256 * 256 + i % 256 = i by omega] at h2
    rw [h2]
    simp only [Option.map_some, ArrU8, Option.some.injEq]
    have : i % 256 < ((zeros 256).map (Value.int .u8)).toArray.size := by simpa using hj
    rw [getElem!_pos ((zeros 256).map (Value.int .u8)).toArray (i % 256) this]
    simp only [List.getElem_toArray]
  · have : (Array.range (n * 256))[i]? = none := by simp; omega
    rw [this, List.getElem?_eq_none (by omega)]; rfl
set_option maxRecDepth 100000 in
theorem run_makeN (u : World) (n : Nat) (hn : n ≤ 4096) : (Instr.makeSlice 74 (.int .i64 (n : Int)) (.int .i64 (n : Int))).run Try.prog u = .ok (.slice (some ⟨u.heap.size, 0, none⟩) n n) (u.alloc (.cells (flatB (List.replicate n (zeros 256))).toArray 52)) := by
  obtain ⟨i, hi, hz, hs, hby⟩ : ∃ i, Try.prog.info? 52 = some i ∧ i.zero = some (.agg (ArrU8 (zeros 256))) ∧ i.size = 256 ∧ i.bytes = 256 := by
    have h1 : (Try.prog.info? 52).map (fun ie => (ie.zero, ie.size, ie.bytes)) = some (some (.agg (ArrU8 (zeros 256))), 256, 256) := by kernel_rfl
    cases hie : Try.prog.info? 52 with
    | none => rw [hie] at h1; cases h1
    | some ie =>
      rw [hie] at h1
      simp only [Option.map_some, Option.some.injEq, Prod.mk.injEq] at h1
      exact ⟨ie, rfl, h1.1, h1.2.1, h1.2.2⟩
  have h := run_make (P := Try.prog) u 74 52 i _ Try.underlying74 hi hz .i64 .i64 n n (by omega) (by omega) (by rw [hby]; omega) (by omega)
  rw [hs, Int.toNat_natCast] at h
  have e : madeCells (Value.agg (ArrU8 (zeros 256))).cells (n * 256) = (flatB (List.replicate n (zeros 256))).toArray := madeN n
  rw [e] at h
  exact h
theorem bk_madeN (u : World) (n B : Nat) (hB : B ≤ u.heap.size) : BkC (u.alloc (.cells (flatB (List.replicate n (zeros 256))).toArray 52)) B u.heap.size (.slice (some ⟨u.heap.size, 0, none⟩) n n) (List.replicate n (zeros 256)) := by
  have hb : ∀ l ∈ List.replicate n (zeros 256), l.length = 256 := fun l hl => by rw [(List.mem_replicate.1 hl).2, zeros_len]
  have hl := flatB_len _ hb
  have hh := heap_alloc_new u (.cells (flatB (List.replicate n (zeros 256))).toArray 52)
  refine ⟨⟨n, by rw [List.length_replicate]⟩, hB, by simp, fun i l hi => ⟨hb l (List.mem_of_getElem? hi), fun j v hv => ?_⟩, fun j hj => ?_⟩
  · rw [cell_of_row _ _ _ _ _ _ hh, List.getElem?_toArray]
    exact flatB_get _ hb i l hi j v hv
  · refine ⟨?_, frozen_of_row _ _ _ _ _ hh⟩
    rw [cell_of_row _ _ _ _ _ _ hh, List.getElem?_toArray, List.getElem?_eq_getElem (by omega)]
    rfl
set_option maxRecDepth 100000 in
theorem rnew_nil (n : Int) (w : World) (h : n < 1 ∨ 4096 < n) :
    Calls Try.prog 7 #[.int .i64 n] w fun e w' => w = w' ∧ e = .returned (.pointer none) := by
  rcases h with h | h
  · go_enter Try.func7, Try.ntmps7
    go_wp2
    go_ret
    exact ⟨rfl, rfl⟩
  · have h1 : ¬ n < 1 := by omega
    go_enter Try.func7, Try.ntmps7
    go_wp2
    go_ret
    exact ⟨rfl, rfl⟩
set_option maxRecDepth 100000 in
theorem rnew_any (n : Nat) (w : World) (h1 : 1 ≤ n) (h2 : n ≤ 4096) :
    Calls Try.prog 7 #[.int .i64 (n : Int)] w fun e w' => e = .returned (.pointer (some ⟨w.heap.size + 1, 0, none⟩)) ∧ RefIs w' (w.heap.size + 1) (RC (.slice (some ⟨w.heap.size, 0, none⟩) n n) (.slice none 0 0) (n : Int) (-1) false) ∧ BkC w' w.heap.size w.heap.size (.slice (some ⟨w.heap.size, 0, none⟩) n n) (List.replicate n (zeros 256)) ∧ Below w.heap.size w w' := by
  have hmk := run_makeN w n h2
  have hbk := Lib.hid (bk_madeN w n w.heap.size (Nat.le_refl _))
  have hbl := Lib.hid ((Below.refl w.heap.size w).alloc (Nat.le_refl _) (.cells (flatB (List.replicate n (zeros 256))).toArray 52))
  have hsz := Lib.hid (show (w.alloc (.cells (flatB (List.replicate n (zeros 256))).toArray 52)).heap.size = w.heap.size + 1 by simp)
  generalize w.alloc (.cells (flatB (List.replicate n (zeros 256))).toArray 52) = w1 at *
  have hbd : ∀ u : World, (Instr.build 77 #[(0, .slice (some ⟨w.heap.size, 0, none⟩) n n), (2, .int .i64 (n : Int)), (3, .int .i64 (-1))]).run Try.prog u = .ok (.agg (RC (.slice (some ⟨w.heap.size, 0, none⟩) n n) (.slice none 0 0) (n : Int) (-1) false)) u := fun _ => by kernel_rfl
  have g1 : ¬ (n : Int) < 1 := by omega
  have g2 : (n : Int) ≤ 4096 := by omega
  go_enter Try.func7, Try.ntmps7
  go_wp2
  go_ret
  refine ⟨by first | rfl | (rw [hsz.out]; rfl), ?_, hbk.out.of (Below.heap_alloc _ _ _ (by rw [hsz.out]; omega)) (by simp; have := hsz.out; omega), hbl.out.alloc (by rw [hsz.out]; omega) _⟩
  rw [← hsz.out]
  exact heap_alloc_new w1 _
end Go.Proofs.Ytaibminomehppaa
