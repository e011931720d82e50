import Derived.Test.YtkajpcjmcpollaaDoorCodeG
import Derived.WalkKit
import Derived.ProofKit
import Derived.BigQuiet
import Derived.Deep.QuietTactic
import Derived.WalkSpells
import Derived.WalkLawsBesides
import Derived.Lib.Hide
import Derived.Deep.MidRow
import Derived.Deep.RegionLaw
import Derived.BigRegion
import Derived.Lib.SlBytesConst
import Derived.Laws.AppendOwnNone
import Derived.Deep.DeepMust
import Derived.Deep.AppendLies
import Derived.RegionTactic
import Derived.Deep.WholeRow
import Derived.BigFrame
import Derived.Deep.RegionWith
import Derived.Deep.RegionHeld3
import Derived.Maps.RangeWalk
import Derived.Laws.CopyOwn
import Derived.StillTailTactics
namespace Go.Proofs.YtkajpcjmcpollaaDoor
open Go.RowKit
attribute [local go_sem ↓] convC_eq
set_option maxHeartbeats 1600000 in
theorem rkey_any (v : Value) (rs : List Val) (w : World) (hv : Rw w v rs) (ho : ∀ x ∈ rs, x.OK ∧ x.s.length ≤ 1099511627) (hl : rs.length ≤ 1073741824) :
    Calls Tryd.prog 11 #[v] w fun e w' => KeyPost rs w e w' := by
  obtain ⟨a, cap, rfl, hcap, hcells⟩ := hv
  have HC := Lib.hid hcells
  have HO := Lib.hid ho
  generalize hn : rs.length = n at *
  have HN := Lib.hid hn
  clear hcells ho hn
  go_enter Tryd.func11, Tryd.ntmps11
  go_wp2_with (refine wpList_build_empty (o := ⟨some 8, _, _, _, _, _⟩) rfl 25 5 1 rfl buildB ?_; intro v8 w1 ho1 hb1 hob1 hs1; have O1 := Lib.hid (show Own w1 w.heap.size v8 [] from ho1); have B1 := Lib.hid hb1; clear ho1 hb1 hob1 hs1)
  go_loopw [4, 5] (fun v4 i wr => ∃ k : Nat, k ≤ n ∧ i = .int .i64 k ∧ Own wr w.heap.size v4 (keyR (rs.take k)) ∧ Below w.heap.size w wr ∧ ∀ x ∈ rs.take k, vld x = true) (fun _ i _ => n - (intOf i).toNat)
  case atStart => exact ⟨0, Nat.zero_le _, rfl, O1.out, B1.out, fun x hx => by simp at hx⟩
  case round =>
    obtain ⟨k, hk, rfl, hown, hbw, hall⟩ := hrel
    have hsz := hbw.size
    have HOW := Lib.hid hown
    have HBW := Lib.hid hbw
    have HA := Lib.hid hall
    have hkl := keyR_len (rs.take k) hall
    have htl : (rs.take k).length ≤ k := List.length_take_le _ _
    clear hown hbw hall
    by_cases hlt : k < n
    · obtain ⟨b, off, rfl, hbw, hc⟩ := HC.out (by omega)
      obtain ⟨x, hx⟩ : ∃ x, rs[k]? = some x := ⟨_, List.getElem?_eq_getElem (by rw [HN.out]; exact hlt)⟩
      obtain ⟨c0, c1, c2⟩ := hc k x hx
      replace c0 := (HBW.out.cell (p := ⟨b, off + k * 3, none⟩) hbw).trans c0
      replace c1 := (HBW.out.cell (p := ⟨b, off + k * 3 + 1, none⟩) hbw).trans c1
      replace c2 := (HBW.out.cell (p := ⟨b, off + k * 3 + 2, none⟩) hbw).trans c2
      have HX := Lib.hid hx
      obtain ⟨hxo, hxl⟩ := HO.out x (List.mem_of_getElem? hx)
      have hrv := rvalue_any x wr hxo hxl
      have HXO := Lib.hid hxo
      unfold vagg at hrv
      have HRV := Lib.hid hrv
      clear hc hx hxo hrv
      cases hvx : vld x with
      | false =>
        have HV := Lib.hid hvx
        clear hvx
        go_wp2_with fail
        refine HRV.out.mono ?_
        rintro e w2 ⟨hb2, hp2⟩
        rw [if_neg (by rw [HV.out]; simp)] at hp2
        obtain rfl := hp2
        have HB2 := Lib.hid (HBW.out.trans (hb2.mono hsz))
        clear hb2
        go_wp2_with fail
        go_ret2
        refine ⟨HB2.out, ?_⟩
        have hna : ¬ rs.all vld = true := fun h => by
          have := List.all_eq_true.1 h x (List.mem_of_getElem? HX.out)
          rw [HV.out] at this
          cases this
        rw [if_neg hna]
        rfl
      | true =>
        have HV := Lib.hid hvx
        have hkx := keyV_len x hvx
        clear hvx
        go_wp2_with fail
        refine HRV.out.mono ?_
        rintro e w2 ⟨hb2, hp2⟩
        rw [if_pos HV.out] at hp2
        obtain ⟨v2, rfl, hown2⟩ := hp2
        have N2 := Lib.hid hown2.bs
        have O2 := Lib.hid (HOW.out.below hb2 (Nat.le_refl _))
        have HB2 := Lib.hid (HBW.out.trans (hb2.mono hsz))
        have hs2 := HB2.out.size
        clear hown2 hb2
        go_wp2_with (at_builtin; refine wpList_append_Own rfl (Operand.tmp 25) (Operand.tmp 26) rfl w.heap.size _ _ rfl O2.out _ (keyV x) rfl N2.out (by omega) hs2 ?_; intro v3 w3 hown3 hb3; have O3 := Lib.hid hown3; have HB3 := Lib.hid (HB2.out.trans hb3); clear hown3 hb3)
        go_roundw
        case rel =>
          have ht := take_succ_vs rs k x HX.out
          refine ⟨k + 1, by omega, by go_num, O3.out.eq ?_, HB3.out, fun y hy => ?_⟩
          · rw [ht, keyR_append]; simp [keyR]
          · rw [ht, List.mem_append] at hy
            rcases hy with hy | hy
            · exact HA.out y hy
            · rw [List.mem_singleton.1 hy]; exact HV.out
        case measure => simp [intOf]; omega
    · have hkn : n ≤ k := by omega
      have ht : rs.take k = rs := List.take_of_length_le (by rw [HN.out]; exact hkn)
      rw [ht] at HOW HA
      clear ht
      go_wp2_with fail
      go_ret2
      refine ⟨HBW.out, ?_⟩
      rw [if_pos (List.all_eq_true.2 HA.out)]
      exact ⟨_, rfl, HOW.out⟩
end Go.Proofs.YtkajpcjmcpollaaDoor
