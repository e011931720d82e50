import Derived.Test.YtkajpcjmcpollaaDoorCodeN
import Derived.WalkKit
import Derived.ProofKit
import Derived.BigQuiet
import Derived.Deep.QuietTactic
import Derived.WalkSpells
import Derived.WalkLawsBesides
import Derived.Lib.Hide
import Derived.Deep.MidRow
import Derived.Deep.RegionLaw
import Derived.BigRegion
import Derived.Lib.SlBytesConst
import Derived.Laws.AppendOwnNone
import Derived.Deep.DeepMust
import Derived.Deep.AppendLies
import Derived.RegionTactic
import Derived.Deep.WholeRow
import Derived.BigFrame
import Derived.Deep.RegionWith
import Derived.Deep.RegionHeld3
import Derived.Maps.RangeWalk
import Derived.Laws.CopyOwn
import Derived.StillTailTactics
namespace Go.Proofs.YtkajpcjmcpollaaDoor
open Go.RowKit
attribute [local go_sem ↓] convC_eq
set_option maxRecDepth 100000 in
set_option maxHeartbeats 3200000 in
theorem ropen_any (v : Value) (l : List Int) (w : World) (hv : Bs w v l) (hr : Rng l) (hl : l.length ≤ 1048576) :
    Calls Tryd.prog 21 #[v] w fun e w' => ROpenPost l w e w' := by
  have HV := Lib.hid hv
  obtain ⟨a, cap, rfl, hcap, hcells⟩ := hv
  have HC := Lib.hid hcells
  clear hcells
  by_cases h8 : l.length < 8
  · go_enter Tryd.func21, Tryd.ntmps21
    go_wp2_with fail
    go_ret3
    refine ⟨Below.refl _ _, ?_⟩
    rw [opn, if_pos (by omega)]
    rfl
  · obtain ⟨b, off, rfl, hb, hc⟩ := HC.out (by omega)
    have hnum := rnumber_any _ l w HV.out hr (by omega) (by omega)
    have hlt := beI_lt (l.take 8) (hr.take 8)
    rw [show (l.take 8).length = 8 by rw [List.length_take]; omega] at hlt
    by_cases h40 : l.length < 40
    · have HO := Lib.hid (show opn l = .short from by rw [opn, if_pos h40])
      obtain ⟨X, hX⟩ : ∃ X : Int, X = (beI (l.take 8) : Int) := ⟨_, rfl⟩
      rw [← hX] at hnum
      have HNUM := Lib.hid hnum
      clear hnum hc hlt hX
      go_enter Tryd.func21, Tryd.ntmps21
      go_wp2_with (go_at_call 28; (with_reducible refine HNUM.out.mono ?_); rintro e w' ⟨rfl, rfl⟩)
      go_ret3
      refine ⟨Below.refl _ _, ?_⟩
      rw [HO.out]
      rfl
    have HO := Lib.hid (show opn l = _ from by rw [opn, if_neg h40])
    generalize beI (l.take 8) = N at *
    have HNUM := Lib.hid hnum
    clear hnum hc
    by_cases hN : l.length - 40 < N
    · rw [if_pos hN] at HO
      obtain ⟨X, hX⟩ : ∃ X : Int, X = (N : Int) := ⟨_, rfl⟩
      rw [← hX] at HNUM
      have hcmp : ((l.length : Int) - 40) < X := by omega
      have h40' : (40 : Int) ≤ (l.length : Int) := by omega
      clear hlt hX hN
      go_enter Tryd.func21, Tryd.ntmps21
      go_wp2_with (go_at_call 28; (with_reducible refine HNUM.out.mono ?_); rintro e w' ⟨rfl, rfl⟩)
      go_ret3
      refine ⟨Below.refl _ _, ?_⟩
      rw [HO.out]
      rfl
    · rw [if_neg hN] at HO
      have hcmp : ¬ ((l.length : Int) - 40) < (N : Int) := by omega
      have h40' : (40 : Int) ≤ (l.length : Int) := by omega
      have hcap1 := hcap.1
      have hk1 : (8 : Int) + (N : Int) ≤ (cap : Int) := by omega
      have hk2 : (40 : Int) + (N : Int) ≤ (l.length : Int) := by omega
      have hk3 : (0 : Int) ≤ 8 + (N : Int) := by omega
      have hk4 : (0 : Int) ≤ 40 + (N : Int) := by omega
      have hk5 : (8 : Int) + (N : Int) ≤ 40 + (N : Int) := by omega
      have hk6 : (40 : Int) + (N : Int) ≤ (cap : Int) := by omega
      have HCC := Lib.hid (show ∀ i, i < l.length → w.cell? ⟨b, off + i, none⟩ = some (.int .u8 (l[i]?.getD 0)) from by
        obtain ⟨b', o', e1, _, e2⟩ := HC.out (by omega)
        injection e1 with e1
        injection e1 with e5 e6 _
        rw [e5, e6]
        exact e2)
      have e32 : 40 + N - (8 + N) = 32 := by omega
      rw [← e32] at HO
      clear hlt hN
      by_cases hce : cap = 40 + N
      · subst hce
        have HI := Lib.hid (Bs.sub 8 N (40 + N - 8) hb (by omega) (by omega) ⟨b, off + 8, none⟩ (fun _ => rfl) HCC.out)
        have HD := Lib.hid (Bs.sub (8 + N) (40 + N - (8 + N)) (40 + N - (8 + N)) hb (by omega) (by omega) ⟨b, off + (8 + N), none⟩ (fun _ => rfl) HCC.out)
        have hdl : ((l.drop (8 + N)).take (40 + N - (8 + N))).length = 32 := by rw [List.length_take, List.length_drop]; omega
        have hil : ((l.drop 8).take N).length ≤ 1048576 := by rw [List.length_take, List.length_drop]; omega
        have hrl : (l.drop (40 + N)).length ≤ 1048576 := by rw [List.length_drop]; omega
        have hrd := (hr.drop (8 + N)).take (40 + N - (8 + N))
        generalize (l.drop 8).take N = I at *
        generalize (l.drop (8 + N)).take (40 + N - (8 + N)) = D at *
        have hst := str_beq (l := shaOf I) (m := D) (sha_rng _) hrd
        clear hdl hrd e32
        have HR := Lib.hid (show Bs w (.slice (some ⟨b, off, none⟩) 0 0) (l.drop (40 + N)) from by
          rw [List.drop_of_length_le (by omega)]
          exact ⟨some ⟨b, off, none⟩, 0, rfl, ⟨Nat.le_refl _, fun e => by cases e⟩, fun h => by simp at h⟩)
        go_enter Tryd.func21, Tryd.ntmps21
        go_wp2_with (go_at_call 28; (with_reducible refine HNUM.out.mono ?_); rintro e w' ⟨rfl, rfl⟩)
        refine (refOf_any _ [I] _ (Pss.one rfl HI.out) (by simp [jlen]; omega)).mono ?_
        rintro e w1 ⟨rfl, hb1⟩
        have HB1 := Lib.hid (((Below.refl w.heap.size w).alloc (Nat.le_refl _) (.cells #[.slice (some ⟨b, off + 8, none⟩) N (40 + N - 8)] 25)).trans (hb1.mono (by simp)))
        clear hb1
        rw [show sha (joined [I]) = shaOf I from rfl]
        have HS32 := Lib.hid (show (ArrU8 (shaOf I)).size = 32 by simp [ArrU8, shaOf_len])
        have HI25 := Lib.hid (show (Tryd.prog.info? 54).map (·.size) = some (ArrU8 (shaOf I)).size by rw [HS32.out]; kernel_rfl)
        go_wp2_with (refine wpList_store_new rfl 54 (Operand.tmp 7) (Operand.tmp 30) rfl w1.heap.size (ArrU8 (shaOf I)) rfl rfl rfl _ 54 HI25.out HS32.out.symm (ArrU8_one _) ?_; intro w2 hd2 hb2 hs2; have HD2 := Lib.hid hd2; have HB2 := Lib.hid (HB1.out.trans (hb2.mono HB1.out.size)); clear hd2 hb2 hs2)
        have hw1 : IntKind.u64.wrap (8 + (N : Int)) = 8 + (N : Int) := by rw [IntKind.wrap_u64]; omega
        have hw2 : IntKind.u64.wrap (40 + (N : Int)) = 40 + (N : Int) := by rw [IntKind.wrap_u64]; omega
        have ht1 : ((8 : Int) + (N : Int)).toNat = 8 + N := by omega
        have ht2 : ((40 : Int) + (N : Int)).toNat = 40 + N := by omega
        have ht3 : ¬ (40 + N = 8 + N) := by omega
        have DB2 := Lib.hid (Bs_of_block 32 (shaOf_len I) HD2.out)
        have DD2 := Lib.hid (HD.out.below HB2.out)
        have cv1 : ∀ m, (convC (.slice (some ⟨w1.heap.size, 0, none⟩) 32 32)).run Tryd.prog (w2.drewN m) = .ok (.string (str (shaOf I))) (w2.drewN m) := fun m => conv_bs (DB2.out.below (below_drewN (Below.refl _ _) m))
        have cv2 : ∀ m, (convC (.slice (some ⟨b, off + (8 + N), none⟩) (40 + N - (8 + N)) (40 + N - (8 + N)))).run Tryd.prog (w2.drewN m) = .ok (.string (str D)) (w2.drewN m) := fun m => conv_bs (DD2.out.below (below_drewN (Below.refl _ _) m))
        have cv3 : ∀ m, (convC (.slice (some ⟨b, off + (8 + N), none⟩) 32 32)).run Tryd.prog (w2.drewN m) = .ok (.string (str D)) (w2.drewN m) := fun m => by have := cv2 m; rw [show 40 + N - (8 + N) = 32 by omega] at this; exact this
        generalize str (shaOf I) = S1 at *
        generalize str D = S2 at *
        have hs2 := HB2.out.size
        by_cases he : shaOf I = D
        · have hst2 : (S1.toList == S2.toList) = true := by rw [hst]; exact decide_eq_true he
          rw [if_pos he] at HO
          clear hst he
          go_quiet (fail)
          clear cv1 cv2 cv3 hst2
          have HS2 := Lib.hid (show Below w2.heap.size w2 (w2.drewN nq) from below_drewN (Below.refl _ _) nq)
          have HI2 := Lib.hid (HI.out.below HB2.out)
          have HR2 := Lib.hid (HR.out.below HB2.out)
          go_wp2_with fail
          go_region_held3 (fun u => Below w2.heap.size w2 u)
            (first | assumption | exact HS2.out.drew | with_reducible exact HSA.out | with_reducible exact HSB.out | exact below_drewN (Below.refl _ _) _ | exact (below_drewN (Below.refl _ _) _).alloc (by first | (simp; done) | (simp; omega) | omega) _ | exact ((below_drewN (Below.refl _ _) _).alloc (by first | (simp; done) | (simp; omega) | omega) _).alloc (by first | (simp; done) | (simp; omega) | omega) _ | exact HSA.out.alloc HSA.out.size _ | exact HSB.out.alloc HSB.out.size _ | exact (HSA.out.alloc HSA.out.size _).alloc (by first | (simp; done) | (simp; omega) | omega) _ | exact (HSB.out.alloc HSB.out.size _).alloc (by first | (simp; done) | (simp; omega) | omega) _ | fail)
            (first
            | (refine step_append_lit (by rfl) (Operand.tmp 41) (Operand.tmp 42) (by rfl) ⟨_, 0, none⟩ (by rfl) _ I (by rfl) (HI2.out.below (by assumption)) (by omega) ?_; intro vA wA hfA hbA; have FA := Lib.hid hfA; have HSA := Lib.hid (show Below w2.heap.size w2 wA from Below.trans (by assumption) (hbA.mono (by first | (simp; done) | (simp; omega) | omega))); have sA := HSA.out.size; clear hfA hbA)
            | (refine step_append_lit (by rfl) (Operand.tmp 44) (Operand.tmp 48) (by rfl) ⟨_, 0, none⟩ (by rfl) _ (l.drop (40 + N)) (by rfl) (HR2.out.below (by assumption)) (by omega) ?_; intro vB wB hfB hbB; have FB := Lib.hid hfB; have BAB := Lib.hid (show Below wA.heap.size wA wB from (by first | exact hbB | exact ((Below.refl _ wA).alloc (Nat.le_refl _) _).trans (hbB.mono (by first | (simp; done) | (simp; omega) | omega)))); have sAB := BAB.out.size; have HSB := Lib.hid (show Below w2.heap.size w2 wB from Below.trans (by assumption) (hbB.mono (by first | (simp; done) | (simp; omega) | omega))); have sB := HSB.out.size; clear hfB hbB))
          all_goals go_wp2_with fail
          all_goals go_ret3
          all_goals refine ⟨HB2.out.trans (HSB.out.mono hs2), ?_⟩
          all_goals rw [HO.out]
          all_goals exact ⟨_, _, rfl, (FA.out.below BAB.out).base (by first | (simp; done) | (simp; omega) | omega), FB.out.base (by first | (simp; done) | (simp; omega) | omega)⟩
        · have hst2 : (S1.toList == S2.toList) = false := by rw [hst]; exact decide_eq_false he
          rw [if_neg he] at HO
          clear hst he
          go_quiet (fail)
          go_wp2_with fail
          go_ret3
          refine ⟨below_drewN HB2.out _, ?_⟩
          rw [HO.out]
          rfl
      · have hce2 : (40 : Int) + (N : Int) < (cap : Int) := by omega
        have HI := Lib.hid (Bs.sub 8 N (cap - 8) hb (by omega) (by omega) ⟨b, off + 8, none⟩ (fun _ => rfl) HCC.out)
        have HD := Lib.hid (Bs.sub (8 + N) (40 + N - (8 + N)) (cap - (8 + N)) hb (by omega) (by omega) ⟨b, off + (8 + N), none⟩ (fun _ => rfl) HCC.out)
        have hdl : ((l.drop (8 + N)).take (40 + N - (8 + N))).length = 32 := by rw [List.length_take, List.length_drop]; omega
        have hil : ((l.drop 8).take N).length ≤ 1048576 := by rw [List.length_take, List.length_drop]; omega
        have hrl : (l.drop (40 + N)).length ≤ 1048576 := by rw [List.length_drop]; omega
        have hrd := (hr.drop (8 + N)).take (40 + N - (8 + N))
        generalize (l.drop 8).take N = I at *
        generalize (l.drop (8 + N)).take (40 + N - (8 + N)) = D at *
        have hst := str_beq (l := shaOf I) (m := D) (sha_rng _) hrd
        clear hdl hrd e32
        have HR := Lib.hid (show Bs w (.slice (some ⟨b, off + (40 + N), none⟩) (l.length - (40 + N)) (cap - (40 + N))) (l.drop (40 + N)) from by
          have := Bs.sub (40 + N) (l.length - (40 + N)) (cap - (40 + N)) hb (by omega) (by omega) ⟨b, off + (40 + N), none⟩ (fun _ => rfl) HCC.out
          rw [List.take_of_length_le (by rw [List.length_drop]; omega)] at this
          exact this)
        go_enter Tryd.func21, Tryd.ntmps21
        go_wp2_with (go_at_call 28; (with_reducible refine HNUM.out.mono ?_); rintro e w' ⟨rfl, rfl⟩)
        refine (refOf_any _ [I] _ (Pss.one rfl HI.out) (by simp [jlen]; omega)).mono ?_
        rintro e w1 ⟨rfl, hb1⟩
        have HB1 := Lib.hid (((Below.refl w.heap.size w).alloc (Nat.le_refl _) (.cells #[.slice (some ⟨b, off + 8, none⟩) N (cap - 8)] 25)).trans (hb1.mono (by simp)))
        clear hb1
        rw [show sha (joined [I]) = shaOf I from rfl]
        have HS32 := Lib.hid (show (ArrU8 (shaOf I)).size = 32 by simp [ArrU8, shaOf_len])
        have HI25 := Lib.hid (show (Tryd.prog.info? 54).map (·.size) = some (ArrU8 (shaOf I)).size by rw [HS32.out]; kernel_rfl)
        go_wp2_with (refine wpList_store_new rfl 54 (Operand.tmp 7) (Operand.tmp 30) rfl w1.heap.size (ArrU8 (shaOf I)) rfl rfl rfl _ 54 HI25.out HS32.out.symm (ArrU8_one _) ?_; intro w2 hd2 hb2 hs2; have HD2 := Lib.hid hd2; have HB2 := Lib.hid (HB1.out.trans (hb2.mono HB1.out.size)); clear hd2 hb2 hs2)
        have hw1 : IntKind.u64.wrap (8 + (N : Int)) = 8 + (N : Int) := by rw [IntKind.wrap_u64]; omega
        have hw2 : IntKind.u64.wrap (40 + (N : Int)) = 40 + (N : Int) := by rw [IntKind.wrap_u64]; omega
        have ht1 : ((8 : Int) + (N : Int)).toNat = 8 + N := by omega
        have ht2 : ((40 : Int) + (N : Int)).toNat = 40 + N := by omega
        have ht3 : ¬ (cap = 8 + N) := by omega
        have DB2 := Lib.hid (Bs_of_block 32 (shaOf_len I) HD2.out)
        have DD2 := Lib.hid (HD.out.below HB2.out)
        have cv1 : ∀ m, (convC (.slice (some ⟨w1.heap.size, 0, none⟩) 32 32)).run Tryd.prog (w2.drewN m) = .ok (.string (str (shaOf I))) (w2.drewN m) := fun m => conv_bs (DB2.out.below (below_drewN (Below.refl _ _) m))
        have cv2 : ∀ m, (convC (.slice (some ⟨b, off + (8 + N), none⟩) (40 + N - (8 + N)) (cap - (8 + N)))).run Tryd.prog (w2.drewN m) = .ok (.string (str D)) (w2.drewN m) := fun m => conv_bs (DD2.out.below (below_drewN (Below.refl _ _) m))
        have cv3 : ∀ m, (convC (.slice (some ⟨b, off + (8 + N), none⟩) 32 (cap - (8 + N)))).run Tryd.prog (w2.drewN m) = .ok (.string (str D)) (w2.drewN m) := fun m => by have := cv2 m; rw [show 40 + N - (8 + N) = 32 by omega] at this; exact this
        generalize str (shaOf I) = S1 at *
        generalize str D = S2 at *
        have hs2 := HB2.out.size
        by_cases he : shaOf I = D
        · have hst2 : (S1.toList == S2.toList) = true := by rw [hst]; exact decide_eq_true he
          rw [if_pos he] at HO
          clear hst he
          go_quiet (fail)
          clear cv1 cv2 cv3 hst2
          have HS2 := Lib.hid (show Below w2.heap.size w2 (w2.drewN nq) from below_drewN (Below.refl _ _) nq)
          have HI2 := Lib.hid (HI.out.below HB2.out)
          have HR2 := Lib.hid (HR.out.below HB2.out)
          go_wp2_with fail
          go_region_held3 (fun u => Below w2.heap.size w2 u)
            (first | assumption | exact HS2.out.drew | with_reducible exact HSA.out | with_reducible exact HSB.out | exact below_drewN (Below.refl _ _) _ | exact (below_drewN (Below.refl _ _) _).alloc (by first | (simp; done) | (simp; omega) | omega) _ | exact ((below_drewN (Below.refl _ _) _).alloc (by first | (simp; done) | (simp; omega) | omega) _).alloc (by first | (simp; done) | (simp; omega) | omega) _ | exact HSA.out.alloc HSA.out.size _ | exact HSB.out.alloc HSB.out.size _ | exact (HSA.out.alloc HSA.out.size _).alloc (by first | (simp; done) | (simp; omega) | omega) _ | exact (HSB.out.alloc HSB.out.size _).alloc (by first | (simp; done) | (simp; omega) | omega) _ | fail)
            (first
            | (refine step_append_lit (by rfl) (Operand.tmp 41) (Operand.tmp 42) (by rfl) ⟨_, 0, none⟩ (by rfl) _ I (by rfl) (HI2.out.below (by assumption)) (by omega) ?_; intro vA wA hfA hbA; have FA := Lib.hid hfA; have HSA := Lib.hid (show Below w2.heap.size w2 wA from Below.trans (by assumption) (hbA.mono (by first | (simp; done) | (simp; omega) | omega))); have sA := HSA.out.size; clear hfA hbA)
            | (refine step_append_lit (by rfl) (Operand.tmp 44) (Operand.tmp 48) (by rfl) ⟨_, 0, none⟩ (by rfl) _ (l.drop (40 + N)) (by rfl) (HR2.out.below (by assumption)) (by omega) ?_; intro vB wB hfB hbB; have FB := Lib.hid hfB; have BAB := Lib.hid (show Below wA.heap.size wA wB from (by first | exact hbB | exact ((Below.refl _ wA).alloc (Nat.le_refl _) _).trans (hbB.mono (by first | (simp; done) | (simp; omega) | omega)))); have sAB := BAB.out.size; have HSB := Lib.hid (show Below w2.heap.size w2 wB from Below.trans (by assumption) (hbB.mono (by first | (simp; done) | (simp; omega) | omega))); have sB := HSB.out.size; clear hfB hbB))
          all_goals go_wp2_with fail
          all_goals go_ret3
          all_goals refine ⟨HB2.out.trans (HSB.out.mono hs2), ?_⟩
          all_goals rw [HO.out]
          all_goals exact ⟨_, _, rfl, (FA.out.below BAB.out).base (by first | (simp; done) | (simp; omega) | omega), FB.out.base (by first | (simp; done) | (simp; omega) | omega)⟩
        · have hst2 : (S1.toList == S2.toList) = false := by rw [hst]; exact decide_eq_false he
          rw [if_neg he] at HO
          clear hst he
          go_quiet (fail)
          go_wp2_with fail
          go_ret3
          refine ⟨below_drewN HB2.out _, ?_⟩
          rw [HO.out]
          rfl
end Go.Proofs.YtkajpcjmcpollaaDoor
