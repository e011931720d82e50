import Derived.Test.YtkajpcjmcpollaaDoorCode8
import Derived.WalkKit
import Derived.ProofKit
import Derived.BigQuiet
import Derived.Deep.QuietTactic
import Derived.WalkSpells
import Derived.WalkLawsBesides
import Derived.Lib.Hide
import Derived.Deep.MidRow
import Derived.Deep.RegionLaw
import Derived.BigRegion
import Derived.Lib.SlBytesConst
import Derived.Laws.AppendOwnNone
import Derived.Deep.DeepMust
import Derived.Deep.AppendLies
import Derived.RegionTactic
import Derived.Deep.WholeRow
import Derived.BigFrame
import Derived.Deep.RegionWith
import Derived.Deep.RegionHeld3
import Derived.Maps.RangeWalk
import Derived.Laws.CopyOwn
import Derived.StillTailTactics
namespace Go.Proofs.YtkajpcjmcpollaaDoor
open Go.RowKit
attribute [local go_sem ↓] convC_eq
inductive OR where
  | short
  | sum
  | ok (i r : List Int)
def opn (l : List Int) : OR :=
  if l.length < 40 then .short else if l.length - 40 < beI (l.take 8) then .short
  else if shaOf ((l.drop 8).take (beI (l.take 8))) = (l.drop (8 + beI (l.take 8))).take 32 then .ok ((l.drop 8).take (beI (l.take 8))) (l.drop (40 + beI (l.take 8))) else .sum
def OpenPost (l : List Int) (w : World) (e : Ending) (w' : World) : Prop :=
  Below w.heap.size w w' ∧ match opn l with
    | .short => e = .returned (.tuple #[.slice none 0 0, .slice none 0 0, .int .i64 6])
    | .sum => e = .returned (.tuple #[.slice none 0 0, .slice none 0 0, .int .i64 8])
    | .ok i r => ∃ v1 v2, e = .returned (.tuple #[v1, v2, .int .i64 0]) ∧ Own w' w.heap.size v1 i ∧ Own w' w.heap.size v2 r
theorem Bs.sub {w : World} {b off : Nat} {l : List Int} (k m c : Nat) (hb : b < w.heap.size) (hk : k + m ≤ l.length) (hm : m ≤ c) (A : Addr) (hA : 0 < m → A = ⟨b, off + k, none⟩)
    (hc : ∀ i, i < l.length → w.cell? ⟨b, off + i, none⟩ = some (.int .u8 (l[i]?.getD 0))) : Bs w (.slice (some A) m c) ((l.drop k).take m) := by
  have hl : ((l.drop k).take m).length = m := by rw [List.length_take, List.length_drop]; omega
  refine ⟨some A, c, by rw [hl], ⟨by omega, fun e => by cases e⟩, fun h0 => ?_⟩
  rw [hl] at h0
  refine ⟨b, off + k, by rw [hA h0], hb, fun i hi => ?_⟩
  rw [hl] at hi
  rw [List.getElem?_take_of_lt hi, List.getElem?_drop, Nat.add_assoc]
  exact hc (k + i) (by omega)
theorem sha_rng (l : List Int) : Rng (shaOf l) := by
  intro x hx
  simp only [shaOf, sha, dig, S8.list, List.mem_flatMap] at hx
  obtain ⟨y, _, hx⟩ := hx
  simp at hx
  omega
theorem from_slice (b off cap k : Nat) : ∃ A : Addr, (if cap = k then some (⟨b, off, none⟩ : Addr) else some ⟨b, off + k, none⟩) = some A ∧ (k < cap → A = ⟨b, off + k, none⟩) := by
  by_cases h8 : cap = k
  · exact ⟨⟨b, off, none⟩, by simp [h8], fun h' => by omega⟩
  · exact ⟨⟨b, off + k, none⟩, by simp [h8], fun _ => rfl⟩
set_option maxRecDepth 100000 in
set_option maxHeartbeats 1600000 in
theorem open_any (v : Value) (l : List Int) (w : World) (hv : Bs w v l) (hr : Rng l) (hK : KC w) (hl : l.length ≤ 1073741824) :
    Calls Tryd.prog 20 #[v] w fun e w' => OpenPost l w e w' := by
  have HV := Lib.hid hv
  have HK := Lib.hid hK
  obtain ⟨a, cap, rfl, hcap, hcells⟩ := hv
  have HC := Lib.hid hcells
  clear hcells hK
  by_cases h40 : l.length < 40
  · go_enter Tryd.func20, Tryd.ntmps20
    go_wp2_with fail
    go_ret3
    refine ⟨Below.refl _ _, ?_⟩
    rw [opn, if_pos h40]
    rfl
  · obtain ⟨b, off, rfl, hb, hc⟩ := HC.out (by omega)
    have hnum := number_any _ l w HV.out hr (by omega) (by omega)
    have hlt := beI_lt (l.take 8) (hr.take 8)
    rw [show (l.take 8).length = 8 by rw [List.length_take]; omega] at hlt
    have HO := Lib.hid (show opn l = _ from by rw [opn, if_neg h40])
    generalize beI (l.take 8) = N at *
    have HNUM := Lib.hid hnum
    clear hnum hc
    by_cases hN : l.length - 40 < N
    · rw [if_pos hN] at HO
      have hcmp : ((l.length : Int) - 40) < (N : Int) := by omega
      have h40' : (40 : Int) ≤ (l.length : Int) := by omega
      go_enter Tryd.func20, Tryd.ntmps20
      go_wp2_with (go_at_call 32; (with_reducible refine HNUM.out.mono ?_); rintro e w' ⟨rfl, rfl⟩)
      go_ret3
      refine ⟨Below.refl _ _, ?_⟩
      rw [HO.out]
      rfl
    · rw [if_neg hN] at HO
      have hcmp : ¬ ((l.length : Int) - 40) < (N : Int) := by omega
      have h40' : (40 : Int) ≤ (l.length : Int) := by omega
      have hcap1 := hcap.1
      have hk1 : (8 : Int) + (N : Int) ≤ (cap : Int) := by omega
      have hk2 : (40 : Int) + (N : Int) ≤ (l.length : Int) := by omega
      have hk3 : (0 : Int) ≤ 8 + (N : Int) := by omega
      have hk4 : (0 : Int) ≤ 40 + (N : Int) := by omega
      have hk5 : (8 : Int) + (N : Int) ≤ 40 + (N : Int) := by omega
      have hk6 : (40 : Int) + (N : Int) ≤ (cap : Int) := by omega
      have HCC := Lib.hid (show ∀ i, i < l.length → w.cell? ⟨b, off + i, none⟩ = some (.int .u8 (l[i]?.getD 0)) from by
        obtain ⟨b', o', e1, _, e2⟩ := HC.out (by omega)
        injection e1 with e1
        injection e1 with e5 e6 _
        rw [e5, e6]
        exact e2)
      by_cases hce : cap = 40 + N
      · subst hce
        have e32 : 40 + N - (8 + N) = 32 := by omega
        rw [← e32] at HO
        have HI := Lib.hid (Bs.sub 8 N (40 + N - 8) hb (by omega) (by omega) ⟨b, off + 8, none⟩ (fun _ => rfl) HCC.out)
        have HD := Lib.hid (Bs.sub (8 + N) (40 + N - (8 + N)) (40 + N - (8 + N)) hb (by omega) (by omega) ⟨b, off + (8 + N), none⟩ (fun _ => rfl) HCC.out)
        have hdl : ((l.drop (8 + N)).take (40 + N - (8 + N))).length = 32 := by rw [List.length_take, List.length_drop]; omega
        have hil : ((l.drop 8).take N).length ≤ 1073741824 := by rw [List.length_take, List.length_drop]; omega
        have hrl : (l.drop (40 + N)).length ≤ 1073741824 := by rw [List.length_drop]; omega
        have hrd := (hr.drop (8 + N)).take (40 + N - (8 + N))
        generalize (l.drop 8).take N = I at *
        generalize (l.drop (8 + N)).take (40 + N - (8 + N)) = D at *
        have HDL := Lib.hid hdl
        have hst := str_beq (l := shaOf I) (m := D) (sha_rng _) hrd
        clear hdl hrd e32
        have HR := Lib.hid (show Bs w (.slice (some ⟨b, off, none⟩) 0 0) (l.drop (40 + N)) from by
          rw [List.drop_of_length_le (by omega)]
          exact ⟨some ⟨b, off, none⟩, 0, rfl, ⟨Nat.le_refl _, fun e => by cases e⟩, fun h => by simp at h⟩)
        go_enter Tryd.func20, Tryd.ntmps20
        go_wp2_with (go_at_call 32; (with_reducible refine HNUM.out.mono ?_); rintro e w' ⟨rfl, rfl⟩)
        go_quiet (fail)
        go_wp2_with fail
        refine (of_any _ [I] _ (Pss.one rfl (HI.out.below (below_drewN (Below.refl _ _) _))) (HK.out.below ((below_drewN (Below.refl w.heap.size _) _).alloc (Nat.le_refl _) _) HK.out.1) (by simp [jlen]; omega)).mono ?_
        rintro e w1 ⟨rfl, hb1⟩
        have HB1 := Lib.hid (((below_drewN (Below.refl w.heap.size w) nq).alloc (Nat.le_refl _) (.cells #[.slice (some ⟨b, off + 8, none⟩) N (40 + N - 8)] 25)).trans (hb1.mono (by simp)))
        clear hb1
        rw [show sha (joined [I]) = shaOf I from rfl]
        have HS32 := Lib.hid (show (ArrU8 (shaOf I)).size = 32 by simp [ArrU8, shaOf_len])
        have HI25 := Lib.hid (show (Tryd.prog.info? 55).map (·.size) = some (ArrU8 (shaOf I)).size by rw [HS32.out]; kernel_rfl)
        go_wp2_with (refine wpList_store_new rfl 55 (Operand.tmp 8) (Operand.tmp 34) rfl w1.heap.size (ArrU8 (shaOf I)) rfl rfl rfl _ 55 HI25.out HS32.out.symm (ArrU8_one _) ?_; intro w2 hd2 hb2 hs2; have HD2 := Lib.hid hd2; have HB2 := Lib.hid (HB1.out.trans (hb2.mono HB1.out.size)); clear hd2 hb2 hs2)
        have hw1 : IntKind.i64.wrap (8 + (N : Int)) = 8 + (N : Int) := by rw [IntKind.wrap_i64]; omega
        have hw2 : IntKind.i64.wrap (40 + (N : Int)) = 40 + (N : Int) := by rw [IntKind.wrap_i64]; omega
        have ht1 : ((8 : Int) + (N : Int)).toNat = 8 + N := by omega
        have ht2 : ((40 : Int) + (N : Int)).toNat = 40 + N := by omega
        have ht3 : ¬ (40 + N = 8 + N) := by omega
        have DB2 := Lib.hid (Bs_of_block 32 (shaOf_len I) HD2.out)
        have DD2 := Lib.hid (HD.out.below HB2.out)
        have cv1 : ∀ m, (convC (.slice (some ⟨w1.heap.size, 0, none⟩) 32 32)).run Tryd.prog (w2.drewN m) = .ok (.string (str (shaOf I))) (w2.drewN m) := fun m => conv_bs (DB2.out.below (below_drewN (Below.refl _ _) m))
        have cv2 : ∀ m, (convC (.slice (some ⟨b, off + (8 + N), none⟩) (40 + N - (8 + N)) (40 + N - (8 + N)))).run Tryd.prog (w2.drewN m) = .ok (.string (str D)) (w2.drewN m) := fun m => conv_bs (DD2.out.below (below_drewN (Below.refl _ _) m))
        have cv3 : ∀ m, (convC (.slice (some ⟨b, off + (8 + N), none⟩) 32 32)).run Tryd.prog (w2.drewN m) = .ok (.string (str D)) (w2.drewN m) := fun m => by have := cv2 m; rw [show 40 + N - (8 + N) = 32 by omega] at this; exact this
        generalize str (shaOf I) = S1 at *
        generalize str D = S2 at *
        have hs2 := HB2.out.size
        by_cases he : shaOf I = D
        · have hst2 : (S1.toList == S2.toList) = true := by rw [hst]; exact decide_eq_true he
          rw [if_pos he] at HO
          clear hst he
          go_quiet (fail)
          go_wp2_with fail
          clear ht1 ht2 ht3 hw1 hw2
          have hnq := below_drewN (Below.refl w2.heap.size w2) nq
          refine (copied_any _ I _ ((HI.out.below HB2.out).below hnq) (by omega)).mono ?_
          rintro e w3 ⟨v3, rfl, hown3, hb3⟩
          have HO3 := Lib.hid hown3
          have HB3 := Lib.hid (hnq.trans hb3)
          have hs3 := HB3.out.size
          clear hown3 hb3 hnq
          go_wp2_with fail
          refine (copied_any _ (l.drop (40 + N)) _ ((HR.out.below HB2.out).below HB3.out) (by omega)).mono ?_
          rintro e w4 ⟨v4, rfl, hown4, hb4⟩
          have HO4 := Lib.hid hown4
          have HB4 := Lib.hid hb4
          clear hown4 hb4
          go_wp2_with fail
          go_ret3
          refine ⟨(HB2.out.trans (HB3.out.mono hs2)).trans (HB4.out.mono (by omega)), ?_⟩
          rw [HO.out]
          exact ⟨_, _, rfl, (HO3.out.below HB4.out (Nat.le_refl _)).base (by simpa using hs2), HO4.out.base (by omega)⟩
        · have hst2 : (S1.toList == S2.toList) = false := by rw [hst]; exact decide_eq_false he
          rw [if_neg he] at HO
          clear hst he
          go_quiet (fail)
          go_wp2_with fail
          go_ret3
          refine ⟨below_drewN HB2.out _, ?_⟩
          rw [HO.out]
          rfl
      · have hce2 : (40 : Int) + (N : Int) < (cap : Int) := by omega
        have e32 : 40 + N - (8 + N) = 32 := by omega
        rw [← e32] at HO
        have HI := Lib.hid (Bs.sub 8 N (cap - 8) hb (by omega) (by omega) ⟨b, off + 8, none⟩ (fun _ => rfl) HCC.out)
        have HD := Lib.hid (Bs.sub (8 + N) (40 + N - (8 + N)) (cap - (8 + N)) hb (by omega) (by omega) ⟨b, off + (8 + N), none⟩ (fun _ => rfl) HCC.out)
        have hdl : ((l.drop (8 + N)).take (40 + N - (8 + N))).length = 32 := by rw [List.length_take, List.length_drop]; omega
        have hil : ((l.drop 8).take N).length ≤ 1073741824 := by rw [List.length_take, List.length_drop]; omega
        have hrl : (l.drop (40 + N)).length ≤ 1073741824 := by rw [List.length_drop]; omega
        have hrd := (hr.drop (8 + N)).take (40 + N - (8 + N))
        generalize (l.drop 8).take N = I at *
        generalize (l.drop (8 + N)).take (40 + N - (8 + N)) = D at *
        have HDL := Lib.hid hdl
        have hst := str_beq (l := shaOf I) (m := D) (sha_rng _) hrd
        clear hdl hrd e32
        have HR := Lib.hid (show Bs w (.slice (some ⟨b, off + (40 + N), none⟩) (l.length - (40 + N)) (cap - (40 + N))) (l.drop (40 + N)) from by
          have := Bs.sub (40 + N) (l.length - (40 + N)) (cap - (40 + N)) hb (by omega) (by omega) ⟨b, off + (40 + N), none⟩ (fun _ => rfl) HCC.out
          rw [List.take_of_length_le (by rw [List.length_drop]; omega)] at this
          exact this)
        go_enter Tryd.func20, Tryd.ntmps20
        go_wp2_with (go_at_call 32; (with_reducible refine HNUM.out.mono ?_); rintro e w' ⟨rfl, rfl⟩)
        go_quiet (fail)
        go_wp2_with fail
        refine (of_any _ [I] _ (Pss.one rfl (HI.out.below (below_drewN (Below.refl _ _) _))) (HK.out.below ((below_drewN (Below.refl w.heap.size _) _).alloc (Nat.le_refl _) _) HK.out.1) (by simp [jlen]; omega)).mono ?_
        rintro e w1 ⟨rfl, hb1⟩
        have HB1 := Lib.hid (((below_drewN (Below.refl w.heap.size w) nq).alloc (Nat.le_refl _) (.cells #[.slice (some ⟨b, off + 8, none⟩) N (cap - 8)] 25)).trans (hb1.mono (by simp)))
        clear hb1
        rw [show sha (joined [I]) = shaOf I from rfl]
        have HS32 := Lib.hid (show (ArrU8 (shaOf I)).size = 32 by simp [ArrU8, shaOf_len])
        have HI25 := Lib.hid (show (Tryd.prog.info? 55).map (·.size) = some (ArrU8 (shaOf I)).size by rw [HS32.out]; kernel_rfl)
        go_wp2_with (refine wpList_store_new rfl 55 (Operand.tmp 8) (Operand.tmp 34) rfl w1.heap.size (ArrU8 (shaOf I)) rfl rfl rfl _ 55 HI25.out HS32.out.symm (ArrU8_one _) ?_; intro w2 hd2 hb2 hs2; have HD2 := Lib.hid hd2; have HB2 := Lib.hid (HB1.out.trans (hb2.mono HB1.out.size)); clear hd2 hb2 hs2)
        have hw1 : IntKind.i64.wrap (8 + (N : Int)) = 8 + (N : Int) := by rw [IntKind.wrap_i64]; omega
        have hw2 : IntKind.i64.wrap (40 + (N : Int)) = 40 + (N : Int) := by rw [IntKind.wrap_i64]; omega
        have ht1 : ((8 : Int) + (N : Int)).toNat = 8 + N := by omega
        have ht2 : ((40 : Int) + (N : Int)).toNat = 40 + N := by omega
        have ht3 : ¬ (cap = 8 + N) := by omega
        have DB2 := Lib.hid (Bs_of_block 32 (shaOf_len I) HD2.out)
        have DD2 := Lib.hid (HD.out.below HB2.out)
        have cv1 : ∀ m, (convC (.slice (some ⟨w1.heap.size, 0, none⟩) 32 32)).run Tryd.prog (w2.drewN m) = .ok (.string (str (shaOf I))) (w2.drewN m) := fun m => conv_bs (DB2.out.below (below_drewN (Below.refl _ _) m))
        have cv2 : ∀ m, (convC (.slice (some ⟨b, off + (8 + N), none⟩) (40 + N - (8 + N)) (cap - (8 + N)))).run Tryd.prog (w2.drewN m) = .ok (.string (str D)) (w2.drewN m) := fun m => conv_bs (DD2.out.below (below_drewN (Below.refl _ _) m))
        have cv3 : ∀ m, (convC (.slice (some ⟨b, off + (8 + N), none⟩) 32 (cap - (8 + N)))).run Tryd.prog (w2.drewN m) = .ok (.string (str D)) (w2.drewN m) := fun m => by have := cv2 m; rw [show 40 + N - (8 + N) = 32 by omega] at this; exact this
        generalize str (shaOf I) = S1 at *
        generalize str D = S2 at *
        have hs2 := HB2.out.size
        by_cases he : shaOf I = D
        · have hst2 : (S1.toList == S2.toList) = true := by rw [hst]; exact decide_eq_true he
          rw [if_pos he] at HO
          clear hst he
          go_quiet (fail)
          go_wp2_with fail
          clear ht1 ht2 ht3 hw1 hw2
          have hnq := below_drewN (Below.refl w2.heap.size w2) nq
          refine (copied_any _ I _ ((HI.out.below HB2.out).below hnq) (by omega)).mono ?_
          rintro e w3 ⟨v3, rfl, hown3, hb3⟩
          have HO3 := Lib.hid hown3
          have HB3 := Lib.hid (hnq.trans hb3)
          have hs3 := HB3.out.size
          clear hown3 hb3 hnq
          go_wp2_with fail
          refine (copied_any _ (l.drop (40 + N)) _ ((HR.out.below HB2.out).below HB3.out) (by omega)).mono ?_
          rintro e w4 ⟨v4, rfl, hown4, hb4⟩
          have HO4 := Lib.hid hown4
          have HB4 := Lib.hid hb4
          clear hown4 hb4
          go_wp2_with fail
          go_ret3
          refine ⟨(HB2.out.trans (HB3.out.mono hs2)).trans (HB4.out.mono (by omega)), ?_⟩
          rw [HO.out]
          exact ⟨_, _, rfl, (HO3.out.below HB4.out (Nat.le_refl _)).base (by simpa using hs2), HO4.out.base (by omega)⟩
        · have hst2 : (S1.toList == S2.toList) = false := by rw [hst]; exact decide_eq_false he
          rw [if_neg he] at HO
          clear hst he
          go_quiet (fail)
          go_wp2_with fail
          go_ret3
          refine ⟨below_drewN HB2.out _, ?_⟩
          rw [HO.out]
          rfl
end Go.Proofs.YtkajpcjmcpollaaDoor
