import Derived.Test.YtkajpcjmcpollaaDoorRef1
import Derived.WalkKit
import Derived.ProofKit
import Derived.BigQuiet
import Derived.Deep.QuietTactic
import Derived.WalkSpells
import Derived.WalkLawsBesides
import Derived.Lib.Hide
import Derived.Deep.MidRow
import Derived.Deep.RegionLaw
import Derived.BigRegion
import Derived.Laws.AppendOwnNone
import Derived.Deep.DeepMust
import Derived.Deep.AppendLies
import Derived.RegionTactic
import Derived.Deep.WholeRow
import Derived.BigFrame
import Derived.Deep.RegionWith
import Derived.Deep.RegionHeld3
import Derived.Maps.RangeWalk
import Derived.Laws.CopyOwn
import Derived.StillTailTactics
namespace Go.Proofs.YtkajpcjmcpollaaDoor
open Go.RowKit
set_option maxRecDepth 100000 in
set_option maxHeartbeats 800000 in
theorem primes_any (w : World) :
    Calls Tryd.prog 54 #[.int .i64 64] w fun e w' => ∃ v, e = .returned v ∧ w'.ownsRow w.heap.size 48 1 v 64 ((prs 312).map (Value.int .u64)) ∧ Below w.heap.size w w' := by
  obtain ⟨i0, hi, hz0, hz1, hz2⟩ := info_parts info48
  have h2 := prs_two
  have P2 := Lib.hid h2
  have P3 := Lib.hid prs_end
  clear h2
  go_enter Tryd.func54, Tryd.ntmps54
  go_wp2
  go_loopw [3, 4] (fun v c wr => ∃ k : Nat, 2 ≤ k ∧ k ≤ 312 ∧ c = .int .u64 k ∧ wr.ownsRow w.heap.size 48 1 v (prs k).length ((prs k).map (Value.int .u64)) ∧ Below w.heap.size w wr) (fun _ c _ => 312 - (intOf c).toNat)
  case atStart => 
    refine ⟨2, by omega, by omega, rfl, ?_, (Below.refl _ _).alloc (Nat.le_refl _) _⟩
    rw [P2.out]
    exact World.ownsRow_lit w #[] 0 (Nat.le_refl _) (Nat.zero_le _) rfl
  case round =>
    obtain ⟨k, hk2, hk, rfl, hown, hbr⟩ := hrel
    have HO := Lib.hid hown
    have HB := Lib.hid hbr
    have hsb := hbr.size
    clear hown hbr
    by_cases hlt : k < 312
    · have hl64 := prs_len k hlt
      have hst := prs_step k hlt hk2
      have hpos := prs_sub k hk
      obtain ⟨va, vn, vc, rfl⟩ : ∃ va vn vc, u3 = .slice va vn vc := by
        rcases HO.out.2 with ⟨e1, _⟩ | ⟨g, cap', cur, e1, _⟩
        · exact ⟨_, _, _, e1⟩
        · exact ⟨_, _, _, e1⟩
      have hvn : vn = (prs k).length := by
        rcases HO.out.2 with ⟨e1, h0⟩ | ⟨g, cap', cur, e1, _⟩
        · injection e1 with _ e2 _; omega
        · injection e1
      subst hvn
      generalize hL : prs k = L at *
      have HL := Lib.hid hL
      have HST := Lib.hid hst
      have HPOS := Lib.hid hpos
      clear hst hpos hL
      go_wp2_with fail
      go_loop [5, 6] (fun pv i => ∃ j : Nat, j ≤ L.length ∧ i = .int .i64 j ∧ pv = .bool (goodP (L.take j) k)) (fun _ i => L.length - (intOf i).toNat)
      case atStart => exact ⟨0, Nat.zero_le _, rfl, by simp [goodP]⟩
      case round =>
        obtain ⟨j, hj, rfl, rfl⟩ := hrel
        by_cases hjl : j < L.length
        · obtain ⟨g, rfl⟩ : ∃ g, va = some ⟨g, 0, none⟩ := by
            rcases HO.out.2 with ⟨e1, h0⟩ | ⟨g, cap', cur, e1, _⟩
            · omega
            · injection e1 with e1; exact ⟨g, e1⟩
          have hc := HO.out.cells (g := g) rfl j (.int .u64 (L[j]?.getD 0)) (by simp [hjl])
          rw [Addr.add_mid, Nat.zero_add] at hc
          have hq := HPOS.out (L[j]?.getD 0) (by rw [List.getElem?_eq_getElem hjl]; exact List.getElem_mem hjl)
          have hgt := goodP_take L k j hjl
          generalize hQ : L[j]?.getD 0 = q at *
          obtain ⟨hq1, hq2⟩ := hq
          have hji : (j : Int) < (L.length : Int) := by omega
          have hk0 : (0 : Int) ≤ (k : Int) := by omega
          have hq3 : 0 < q := by omega
          have hq4 : ¬ q = 0 := by omega
          have HGT := Lib.hid hgt
          clear hgt hQ
          cases hg : goodP (L.take j) k
          · rw [hg] at HGT
            clear hg
            go_wp2
            exact ⟨⟨j + 1, by omega, by go_num, by rw [HGT.out]; rfl⟩, by simp [intOf]; omega⟩
          · rw [hg] at HGT
            clear hg
            go_wp2
            exact ⟨⟨j + 1, by omega, by go_num, by rw [HGT.out]; first | rfl | (simp; rfl) | (congr 1; by_cases hz : (k : Int) % q = 0 <;> simp [hz])⟩, by simp [intOf]; omega⟩
        · have hje : L.take j = L := List.take_of_length_le (by omega)
          rw [hje]
          have hjn : (L.length : Int) ≤ (j : Int) := by omega
          clear hje
          cases hg : goodP L k
          · rw [hg] at HST
            clear hg
            go_wp2_with fail
            have hst : prs (k + 1) = L := HST.out
            exact ⟨⟨k + 1, by omega, by omega, by go_num, by rw [hst]; exact HO.out, HB.out⟩, by simp [intOf]; omega⟩
          · rw [hg] at HST
            clear hg
            have hsz1 : L.length ≤ 64 := by omega
            go_wp2_with (at_builtin; refine wpList_append_own _ rfl (Operand.tmp 31) (Operand.tmp 33) 84 rfl w.heap.size 48 i0 (.int .u64 0) 1 8 Tryd.underlying84 hi hz0 hz1 hz2 rfl (by decide) _ _ _ rfl (HO.out.alloc _) ⟨wr.heap.size, 0, none⟩ 1 1 [.int .u64 (k : Int)] rfl rfl (cell_one_new _ _ _) (by intro u hu; simp at hu; subst hu; rfl) (by unfold maxLen; omega) (by omega) (by simp; omega) ?_; intro v' w1 hown' hgrow _; have HO1 := Lib.hid hown'; have HG1 := Lib.hid hgrow; clear hown' hgrow)
            have hst : prs (k + 1) = L ++ [(k : Int)] := HST.out
            refine ⟨⟨k + 1, by omega, by omega, by go_num, ?_, ?_⟩, by simp [intOf]; omega⟩
            · rw [hst]; simpa using HO1.out
            · exact (HB.out.alloc (by omega) _).grown HG1.out (by simp; omega) (fun g hg => (HO.out.lt g hg).1)
    · obtain rfl : k = 312 := by omega
      rw [P3.out] at HO
      obtain ⟨va, vn, vc, rfl⟩ : ∃ va vn vc, u3 = .slice va vn vc := by
        rcases HO.out.2 with ⟨e1, _⟩ | ⟨g, cap', cur, e1, _⟩
        · exact ⟨_, _, _, e1⟩
        · exact ⟨_, _, _, e1⟩
      have hvn : vn = 64 := by
        rcases HO.out.2 with ⟨e1, h0⟩ | ⟨g, cap', cur, e1, _⟩
        · omega
        · injection e1
      subst hvn
      go_wp2
      go_ret
      exact ⟨_, rfl, HO.out, HB.out⟩
end Go.Proofs.YtkajpcjmcpollaaDoor
