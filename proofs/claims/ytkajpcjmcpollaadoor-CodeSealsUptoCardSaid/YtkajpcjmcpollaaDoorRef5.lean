import Derived.Test.YtkajpcjmcpollaaDoorRef4
import Derived.Test.YtkajpcjmcpollaaDoorBase3
import Derived.WalkKit
import Derived.ProofKit
import Derived.BigQuiet
import Derived.Deep.QuietTactic
import Derived.WalkSpells
import Derived.WalkLawsBesides
import Derived.Lib.Hide
import Derived.Deep.MidRow
import Derived.Deep.RegionLaw
import Derived.BigRegion
import Derived.Laws.AppendOwnNone
import Derived.Deep.DeepMust
import Derived.Deep.AppendLies
import Derived.RegionTactic
import Derived.Deep.WholeRow
import Derived.BigFrame
import Derived.Deep.RegionWith
import Derived.Deep.RegionHeld3
import Derived.Maps.RangeWalk
import Derived.Laws.CopyOwn
import Derived.StillTailTactics
namespace Go.Proofs.YtkajpcjmcpollaaDoor
open Go.RowKit
/-- append of a slice that reads as bytes to one's own row -/
theorem build22 (w : World) : (Instr.buildSlice 25 0 #[]).run Tryd.prog w = .ok (.slice (some ⟨w.heap.size, 0, none⟩) 0 0) (w.alloc (.cells #[] 5)) := by kernel_rfl
theorem build44 (w : World) : (Instr.buildSlice 73 0 #[]).run Tryd.prog w = .ok (.slice (some ⟨w.heap.size, 0, none⟩) 0 0) (w.alloc (.cells #[] 77)) := by kernel_rfl
set_option maxHeartbeats 400000 in
theorem number01_any (k : Nat) (w : World) (hk : k < 18446744073709551616) :
    Calls Tryd.prog 49 #[.int .u64 k, .int .i64 8] w fun e w' => ∃ v', e = .returned v' ∧ w'.ownsRow w.heap.size 5 1 v' 8 ((be8 k).map (Value.int .u8)) ∧ Below w.heap.size w w' := by
  obtain ⟨i0, hi, hz0, hz1, hz2⟩ := info_parts info5
  have HK := Lib.hid hk
  clear hk
  go_enter Tryd.func49, Tryd.ntmps49
  go_wp2_with fail
  go_loopw [5, 6] (fun v0 s wr => ∃ j : Nat, j ≤ 8 ∧ s = .int .i64 (7 - (j : Int)) ∧ wr.ownsRow w.heap.size 5 1 v0 j (((be8 k).take j).map (Value.int .u8)) ∧ Below w.heap.size w wr)
    (fun _ s _ => (intOf s + 1).toNat)
  case atStart => exact ⟨0, by omega, by simp, by simpa using World.ownsRow_lit (base := w.heap.size) (size := 1) (e := 5) w #[] 0 (Nat.le_refl _) (Nat.zero_le _) rfl, (Below.refl _ _).alloc (Nat.le_refl _) _⟩
  case round =>
    obtain ⟨j, hj, rfl, hown, hbw⟩ := hrel
    have hsz := hbw.size
    by_cases hlt : j < 8
    · have hb := be8_take_succ k j hlt
      have HB := Lib.hid hb
      have HBW := Lib.hid hbw
      have HOW := Lib.hid hown
      clear hb hbw hown
      have e1 : IntKind.i64.wrap (8 * (7 - (j : Int))) = 56 - 8 * (j : Int) := by rw [IntWalk.i64_in _ (by omega)]; omega
      have e2 : 0 ≤ 56 - 8 * (j : Int) := by omega
      have e3 : (56 - 8 * (j : Int)).toNat = 56 - 8 * j := by omega
      go_wp2_with (at_builtin; refine wpList_append_own _ rfl (Operand.tmp 14) (Operand.tmp 20) 25 rfl w.heap.size 5 i0 (.int .u8 0) 1 1 Tryd.underlying25 hi hz0 hz1 hz2 rfl (by decide) _ _ _ rfl (HOW.out.alloc _) ⟨wr.heap.size, 0, none⟩ 1 1 [.int .u8 (beAt k j)] rfl rfl (cell_one_new _ _ _) (by intro u hu; simp at hu; subst hu; rfl) (by unfold maxLen; omega) (by omega) (by simp; omega) ?_; intro v' w1 hown' hgrow _; have HO1 := Lib.hid hown'; have HG1 := Lib.hid hgrow; clear hown' hgrow)
      refine ⟨⟨j + 1, by omega, by congr 1; omega, ?_, ?_⟩, by simp [intOf]; omega⟩
      · rw [HB.out]; simpa [Nat.add_assoc] using HO1.out
      · exact (HBW.out.alloc (by omega) _).grown HG1.out (by simp; omega) (fun g hg => (HOW.out.lt g hg).1)
    · have hj8 : j = 8 := by omega
      subst hj8
      have e8 : (be8 k).take 8 = be8 k := List.take_of_length_le (by rw [be8_len]; omega)
      rw [e8] at hown
      have HBW := Lib.hid hbw
      have HOW := Lib.hid hown
      clear hbw hown e8 hlt
      go_wp2_with fail
      go_ret
      exact ⟨_, rfl, HOW.out, HBW.out⟩
end Go.Proofs.YtkajpcjmcpollaaDoor
