import Derived.Test.YtboadlhpanpljaaDoorRefA
import Derived.Test.YtboadlhpanpljaaDoorRow0
import Derived.WalkKit
import Derived.ProofKit
import Derived.BigQuiet
import Derived.Deep.QuietTactic
import Derived.WalkSpells
import Derived.WalkLawsBesides
import Derived.Lib.Hide
import Derived.Deep.MidRow
import Derived.Deep.RegionLaw
import Derived.BigRegion
import Derived.Laws.AppendOwnNone
import Derived.Deep.DeepMust
import Derived.Deep.AppendLies
import Derived.RegionTactic
import Derived.Deep.WholeRow
import Derived.BigFrame
import Derived.Deep.RegionWith
import Derived.Deep.RegionHeld3
import Derived.Maps.RangeWalk
import Derived.Laws.CopyOwn
import Derived.StillTailTactics
namespace Go.Proofs.YtboadlhpanpljaaDoor
open Go.RowKit
attribute [local go_sem ↓] convC_eq eql25_eq
set_option maxRecDepth 100000 in
set_option maxHeartbeats 2000000 in
theorem sums_walk (v : Value) (l : List Int) (w : World) (hv : Bs w v l) (hr : Rng l) (hK : KC w) (hl : l.length ≤ 1048576) :
    Calls Tryd.prog 3 #[v] w fun e w' => e = .returned (.bool true) ∧ Below w.heap.size w w' := by
  obtain ⟨i0, hi, hz0, hz1, hz2⟩ := info_parts info5
  have HV := Lib.hid hv
  have HK := Lib.hid hK
  have HR := Lib.hid hr
  clear hv hK hr
  go_enter Tryd.func3, Tryd.ntmps3
  go_wp2_with (first
    | (refine wpList_build_empty (o := ⟨some 4, _, _, _, _, _⟩) rfl 22 5 1 rfl build22 ?_; intro v4 w1 ho1 hb1 hob hs1; have LIT := Lib.hid ho1; have HB1 := Lib.hid hb1; have HOB := Lib.hid hob; clear ho1 hb1 hob)
    | (at_builtin; refine wpList_append_bs (o := ⟨some 6, _, _, _, _, _⟩) rfl (Operand.tmp 4) (Operand.tmp 5) 22 rfl w.heap.size 5 i0 Tryd.underlying22 hi hz0 hz1 hz2 v4 0 [] rfl LIT.out v l rfl (HV.out.below HB1.out) (by omega) (by omega) ?_; intro v3 w2 hown2 hg2; have HO2 := Lib.hid hown2; have hb2 := HB1.out.grown hg2 (by omega) (fun g hg => by rw [HOB.out] at hg; injection hg with hg; omega); have HB2 := Lib.hid hb2; have hs2 := hb2.size; clear hown2 hg2 hb2)
    | fail)
  refine (fixed_any w2 (HK.out.below HB2.out HK.out.1)).mono ?_
  rintro e w3 ⟨rfl, hb3⟩
  have hown := HO2.out
  rw [Nat.zero_add, List.nil_append] at hown
  have bs2 : Bs w2 v3 l := Bs_of_own hown
  have b3 := HB2.out.trans (hb3.mono hs2)
  have BS3 := Lib.hid (bs2.below hb3)
  have B3 := Lib.hid b3
  have hs3 := b3.size
  clear hown bs2 b3 hb3 hs1 HO2 HB2 LIT HB1 HOB
  go_wp2_with fail
  refine (sum_any v3 l w3 BS3.out (HK.out.below B3.out HK.out.1) (by omega)).mono ?_
  rintro e w4 ⟨rfl, hb4⟩
  have b4 := B3.out.trans (hb4.mono hs3)
  have BS4 := Lib.hid (BS3.out.below hb4)
  have B4 := Lib.hid b4
  have hs4 := b4.size
  clear b4 hb4 B3 BS3
  go_wp2_with fail
  refine (refSum_any v l w4 (HV.out.below B4.out) (by omega)).mono ?_
  rintro e w5 ⟨rfl, hb5⟩
  have b5 := B4.out.trans (hb5.mono hs4)
  have BS5 := Lib.hid (BS4.out.below hb5)
  have B5 := Lib.hid b5
  have HV5 := Lib.hid (HV.out.below b5)
  clear b5 hb5 B4 BS4
  have q1 : ∀ u : World, (eql25 (.agg (ArrU8 (sha l))) (.agg (ArrU8 (sha l)))).run Tryd.prog u = .ok (.bool true) u := fun u => by
    rw [run_eql25 u _ _ (by simp [sha, dig, S8.list]) (by simp [sha, dig, S8.list])]; simp
  have cv1 := conv_bs BS5.out
  have cv2 := conv_bs HV5.out
  generalize str l = S at *
  generalize sha l = D at *
  go_wp2
  go_ret
  exact ⟨by simp, B5.out⟩
end Go.Proofs.YtboadlhpanpljaaDoor
