import Derived.Test.YtkajpcjmcpollaaDoorRefA
import Derived.Test.YtkajpcjmcpollaaDoorBase3
import Derived.WalkKit
import Derived.ProofKit
import Derived.BigQuiet
import Derived.Deep.QuietTactic
import Derived.WalkSpells
import Derived.WalkLawsBesides
import Derived.Lib.Hide
import Derived.Deep.MidRow
import Derived.Deep.RegionLaw
import Derived.BigRegion
import Derived.Laws.AppendOwnNone
import Derived.Deep.DeepMust
import Derived.Deep.AppendLies
import Derived.RegionTactic
import Derived.Deep.WholeRow
import Derived.BigFrame
import Derived.Deep.RegionWith
import Derived.Deep.RegionHeld3
import Derived.Maps.RangeWalk
import Derived.Laws.CopyOwn
import Derived.StillTailTactics
namespace Go.Proofs.YtkajpcjmcpollaaDoor
open Go.RowKit
set_option maxRecDepth 100000 in
set_option maxHeartbeats 2000000 in
theorem refJoin_any (v : Value) (ps : List (List Int)) (w : World) (hv : Pss w v ps) (hj : jlen ps ≤ 549755813888) :
    Calls Tryd.prog 43 #[v] w fun e w' => ∃ v', e = .returned v' ∧ w'.ownsRow w.heap.size 5 1 v' (8 + jlen ps) ((joined ps).map (Value.int .u8)) ∧ Below w.heap.size w w' := by
  obtain ⟨i0, hi, hz0, hz1, hz2⟩ := info_parts info5
  obtain ⟨a, cap, rfl, hcap, hcells⟩ := hv
  have hge := jlen_ge ps
  have hcl := hcap.1
  generalize hn : ps.length = n at *
  have HN := Lib.hid hn
  have HC := Lib.hid hcells
  clear hn hcells hcap
  go_enter Tryd.func43, Tryd.ntmps43
  go_wp2_with fail
  refine (number01_any n w (by omega)).mono ?_
  rintro e w1 ⟨v3, rfl, hown1, hb1⟩
  have HO1 := Lib.hid hown1
  have HB1 := Lib.hid hb1
  clear hown1 hb1
  go_wp2_with fail
  go_loopw [3, 4] (fun v3 iv wx => ∃ i : Nat, i ≤ n ∧ iv = .int .i64 i ∧ wx.ownsRow w.heap.size 5 1 v3 (8 + jlen (ps.take i)) ((be8 n ++ joinB (ps.take i)).map (Value.int .u8)) ∧ Below w.heap.size w wx) (fun _ iv _ => n - (intOf iv).toNat)
  case atStart => exact ⟨0, Nat.zero_le _, rfl, by simpa [jlen, joinB] using HO1.out, HB1.out⟩
  case round =>
    clear HO1 HB1
    obtain ⟨i, hin, rfl, ho, hbx⟩ := hrel
    have HO := Lib.hid ho
    have HBX := Lib.hid hbx
    have hsx := hbx.size
    clear ho hbx
    by_cases hlt : i < n
    · obtain ⟨b, off, rfl, hbw, hc⟩ := HC.out (by omega)
      obtain ⟨x, hx, hxb⟩ := hc i hlt
      have cx := (HBX.out.cell (p := ⟨b, off + i, none⟩) hbw).trans hx
      have hjt := jlen_take ps i (by rw [HN.out]; exact hlt)
      have hjl := jlen_take_le ps (i + 1)
      have hjb := joinB_take ps i (by rw [HN.out]; exact hlt)
      rw [hjt] at hjl
      generalize hP : ps[i]?.getD [] = p at *
      generalize hJ : jlen (ps.take i) = J at *
      have HJT := Lib.hid hjt
      have HJB := Lib.hid hjb
      have HXB := Lib.hid hxb
      have HX := Lib.hid hx
      obtain ⟨xa, xc, rfl, _⟩ := hxb
      have hii : (i : Int) < (n : Int) := by omega
      have hni : (n : Int) ≤ (cap : Int) := by omega
      have hpl : (p.length : Int) < 18446744073709551616 := by omega
      clear hjt hjb hc hx hP hJ
      go_wp2_with fail
      refine (number01_any p.length wr (by omega)).mono ?_
      rintro e w3 ⟨v22, rfl, hown3, hb3⟩
      have HB3 := Lib.hid (HBX.out.trans (hb3.mono hsx))
      have HO3 := Lib.hid (HO.out.kept (row := none) ⟨hb3.os, hb3.tape, hb3.output, hb3.size, fun k hk _ => hb3.block k hk⟩ (by cases hv : u3.ownBlock with | none => exact .inl rfl | some g => exact .inr (by simp)))
      have BS22 := Lib.hid (Bs_of_own hown3)
      have hs3 := HB3.out.size
      clear hown3 hb3
      go_wp2_with (first
        | (at_builtin; refine wpList_append_bs (o := ⟨some 23, _, _, _, _, _⟩) rfl (Operand.tmp 15) (Operand.tmp 22) 25 rfl w.heap.size 5 i0 Tryd.underlying25 hi hz0 hz1 hz2 u3 (8 + J) _ rfl HO3.out v22 (be8 p.length) rfl BS22.out (by rw [be8_len]; omega) hs3 ?_; intro v23 w4 hown4 hg4; have HO4 := Lib.hid hown4; have HB4 := Lib.hid (HB3.out.grown hg4 hs3 (fun g hg => (HO3.out.lt g hg).1)); have hs4 := HB4.out.size; have cx4 := (HB4.out.cell (p := ⟨b, off + i, none⟩) hbw).trans HX.out; clear hown4 hg4)
        | (at_builtin; refine wpList_append_bs (o := ⟨some 29, _, _, _, _, _⟩) rfl (Operand.tmp 24) (Operand.tmp 28) 25 rfl w.heap.size 5 i0 Tryd.underlying25 hi hz0 hz1 hz2 v23 (8 + J + (be8 p.length).length) _ rfl HO4.out (.slice xa p.length xc) p rfl (HXB.out.below HB4.out) (by rw [be8_len]; omega) hs4 ?_; intro v29 w5 hown5 hg5; have HO5 := Lib.hid hown5; have HB5 := Lib.hid (HB4.out.grown hg5 hs4 (fun g hg => (HO4.out.lt g hg).1)); clear hown5 hg5)
        | fail)
      refine ⟨⟨i + 1, by omega, by go_num, ?_, HB5.out⟩, by simp [intOf]; omega⟩
      have := HO5.out
      rw [HJT.out, HJB.out]
      rw [be8_len] at this
      rw [show 8 + (J + (8 + p.length)) = 8 + J + 8 + p.length by omega]
      simpa using this
    · obtain rfl : i = n := by omega
      have hfe : ps.take i = ps := List.take_of_length_le (by rw [HN.out]; exact Nat.le_refl _)
      rw [hfe] at HO
      clear hfe
      go_wp2_with fail
      go_ret
      refine ⟨_, rfl, ?_, HBX.out⟩
      rw [joined, HN.out]; exact HO.out
set_option maxRecDepth 100000 in
set_option maxHeartbeats 800000 in
theorem refOf_any (v : Value) (ps : List (List Int)) (w : World) (hv : Pss w v ps) (hj : jlen ps ≤ 1073741824) :
    Calls Tryd.prog 34 #[v] w fun e w' => e = .returned (.agg (ArrU8 (sha (joined ps)))) ∧ Below w.heap.size w w' := by
  have HV := Lib.hid hv
  clear hv
  go_enter Tryd.func34, Tryd.ntmps34
  go_wp2_with fail
  obtain ⟨w1, hw1⟩ : ∃ w1 : World, w1 = w.alloc (.cells ((List.replicate 32 (Value.int .u8 0)).toArray) 54) := ⟨_, rfl⟩
  change Calls _ _ _ (w.alloc (.cells ((List.replicate 32 (Value.int .u8 0)).toArray) 54)) _
  rw [← hw1]
  have hsz : w1.heap.size = w.heap.size + 1 := by rw [hw1]; simp
  have b1 : Below w.heap.size w w1 := by rw [hw1]; exact (Below.refl _ _).alloc (Nat.le_refl _) _
  have r1 : w1.heap[w.heap.size]? = some (.cells ((List.replicate 32 (Value.int .u8 0)).toArray) 54 (0,0)) := by rw [hw1]; exact heap_alloc_new _ _
  have hv1 := HV.out.below b1
  refine (refJoin_any v ps w1 hv1 (by omega)).mono ?_
  rintro e w2 ⟨v2, rfl, hown, hb2⟩
  have b2 : Below w.heap.size w w2 := b1.trans (hb2.mono (by omega))
  have r2 := (hb2.block w.heap.size (by omega)).trans r1
  have hbs := Bs_of_own hown
  have R2 := Lib.hid r2
  have B2 := Lib.hid b2
  have BS := Lib.hid hbs
  have hs2 : w.heap.size < w2.heap.size := by have := hb2.size; omega
  clear hw1 b1 r1 hv1 hown hb2 b2 r2 hbs hsz
  go_wp2_with fail
  refine (refSum_any v2 (joined ps) w2 BS.out (by rw [joined_len]; omega)).mono ?_
  rintro e w4 ⟨rfl, b4⟩
  have g3 := (b4.block w.heap.size (by omega)).trans R2.out
  have b5 := B2.out.trans (b4.mono (by omega))
  have G3 := Lib.hid g3
  have B4 := Lib.hid b5
  have HI := Lib.hid (show (Tryd.prog.info? 54).map (·.size) = some (ArrU8 (sha (joined ps))).size by rw [show (ArrU8 (sha (joined ps))).size = 32 by simp [ArrU8, sha, dig, S8.list]]; kernel_rfl)
  have HS32 := Lib.hid (show (ArrU8 (sha (joined ps))).size = 32 by simp [ArrU8, sha, dig, S8.list])
  clear g3 b4 b5
  go_wp2_with (first | (refine wpList_store_row rfl 54 (Operand.tmp 2) (Operand.tmp 5) rfl w.heap.size (ArrU8 (sha (joined ps))) rfl rfl 54 _ G3.out HI.out HS32.out.symm (ArrU8_one _) ?_) | fail)
  refine bodyPost_ret (results_cell_row rfl _ _ w.heap.size 54 (ArrU8 (sha (joined ps))) (0,0) _ rfl (setRow_heap _ _ _ _ _ _ G3.out) Tryd.underlying54 rfl HI.out) rfl ⟨rfl, ?_⟩
  exact below_setRow B4.out (by omega) _
end Go.Proofs.YtkajpcjmcpollaaDoor
