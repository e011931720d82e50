import Derived.Test.YtkajpcjmcpollaaDoorBase0
import Derived.WalkKit
import Derived.ProofKit
import Derived.BigQuiet
import Derived.Deep.QuietTactic
import Derived.WalkSpells
import Derived.WalkLawsBesides
import Derived.Lib.Hide
import Derived.Deep.MidRow
import Derived.Deep.RegionLaw
import Derived.BigRegion
import Derived.Lib.SlBytesConst
import Derived.Laws.AppendOwnNone
import Derived.Deep.DeepMust
import Derived.Deep.AppendLies
import Derived.RegionTactic
import Derived.Deep.WholeRow
import Derived.BigFrame
import Derived.Deep.RegionWith
import Derived.Deep.RegionHeld3
import Derived.Maps.RangeWalk
import Derived.Laws.CopyOwn
import Derived.StillTailTactics
namespace Go.Proofs.YtkajpcjmcpollaaDoor
open Go.RowKit
/-- v is a slice of slices of bytes that reads as ps -/
def Pss (w : World) (v : Value) (ps : List (List Int)) : Prop :=
  ∃ (a : Option Addr) (cap : Nat), v = .slice a ps.length cap ∧ (ps.length ≤ cap ∧ (a = none → cap = 0)) ∧ (0 < ps.length → ∃ b off, a = some ⟨b, off, none⟩ ∧ b < w.heap.size ∧ ∀ i, i < ps.length → ∃ x, w.cell? ⟨b, off + i, none⟩ = some x ∧ Bs w x (ps[i]?.getD []))
theorem Pss.below {w w' : World} {v : Value} {ps : List (List Int)} (h : Pss w v ps) (hb : Below w.heap.size w w') : Pss w' v ps := by
  obtain ⟨a, cap, hv, hc, h⟩ := h
  refine ⟨a, cap, hv, hc, fun hl => ?_⟩
  obtain ⟨b, off, ha, hbs, hcell⟩ := h hl
  refine ⟨b, off, ha, Nat.lt_of_lt_of_le hbs hb.size, fun i hi => ?_⟩
  obtain ⟨x, hx, hbx⟩ := hcell i hi
  exact ⟨x, (hb.cell (p := ⟨b, off + i, none⟩) hbs).trans hx, hbx.below hb⟩
def jlen : List (List Int) → Nat
  | [] => 0
  | p :: ps => 8 + p.length + jlen ps
theorem jlen_append (a b : List (List Int)) : jlen (a ++ b) = jlen a + jlen b := by
  induction a with
  | nil => simp [jlen]
  | cons p a ih => simp only [List.cons_append, jlen, ih]; omega
def joinB (ps : List (List Int)) : List Int := ps.flatMap fun p => be8 p.length ++ p
def joined (ps : List (List Int)) : List Int := be8 ps.length ++ joinB ps
theorem joinB_len (ps : List (List Int)) : (joinB ps).length = jlen ps := by
  induction ps with
  | nil => rfl
  | cons p ps ih => simp only [joinB, List.flatMap_cons, List.length_append, jlen, be8_len]; have := ih; unfold joinB at this; omega
theorem take_succ_ps (ps : List (List Int)) (k : Nat) (h : k < ps.length) : ps.take (k + 1) = ps.take k ++ [ps[k]?.getD []] := by
  rw [List.take_succ_eq_append_getElem h, List.getElem?_eq_getElem h]; rfl
theorem jlen_take (ps : List (List Int)) (k : Nat) (h : k < ps.length) : jlen (ps.take (k + 1)) = jlen (ps.take k) + (8 + (ps[k]?.getD []).length) := by
  rw [take_succ_ps ps k h, jlen_append]; simp [jlen]
theorem jlen_take_le (ps : List (List Int)) (k : Nat) : jlen (ps.take k) ≤ jlen ps := by
  have := jlen_append (ps.take k) (ps.drop k)
  rw [List.take_append_drop] at this
  omega
theorem joinB_take (ps : List (List Int)) (k : Nat) (h : k < ps.length) : joinB (ps.take (k + 1)) = joinB (ps.take k) ++ (be8 (ps[k]?.getD []).length ++ (ps[k]?.getD [])) := by
  rw [take_succ_ps ps k h]; simp [joinB]
theorem jlen_ge (ps : List (List Int)) : 8 * ps.length ≤ jlen ps := by
  induction ps with
  | nil => simp
  | cons p ps ih => simp only [jlen, List.length_cons]; omega
set_option maxHeartbeats 800000 in
theorem join_any (v : Value) (ps : List (List Int)) (w : World) (hv : Pss w v ps) (hj : jlen ps ≤ 549755813888) :
    Calls Tryd.prog 41 #[v] w fun e w' => ∃ v', e = .returned v' ∧ w'.ownsRow w.heap.size 5 1 v' (8 + jlen ps) ((joined ps).map (Value.int .u8)) ∧ Below w.heap.size w w' := by
  obtain ⟨i0, hi, hz0, hz1, hz2⟩ := info_parts info5
  obtain ⟨a, cap, rfl, hcap, hcells⟩ := hv
  have hge := jlen_ge ps
  generalize hn : ps.length = n at *
  have HN := Lib.hid hn
  have HC := Lib.hid hcells
  clear hn hcells
  go_enter Tryd.func41, Tryd.ntmps41
  go_wp2_with fail
  go_loop [3, 11] (fun s i => ∃ k : Nat, k ≤ n ∧ i = .int .i64 k ∧ s = .int .i64 ((8 + jlen (ps.take k) : Nat) : Int)) (fun _ i => n - (intOf i).toNat)
  case atStart => exact ⟨0, Nat.zero_le _, rfl, by simp [jlen]⟩
  case round =>
    obtain ⟨k, hk, rfl, rfl⟩ := hrel
    by_cases hlt : k < n
    · obtain ⟨b, off, rfl, hbw, hc⟩ := HC.out (by omega)
      obtain ⟨x, hx, xa, xc, rfl, hxc, _⟩ := hc k hlt
      have hjt := jlen_take ps k (by rw [HN.out]; exact hlt)
      have hjl := jlen_take_le ps (k + 1)
      rw [hjt] at hjl
      generalize (ps[k]?.getD []).length = m at *
      generalize hJ : jlen (ps.take k) = J at *
      have HJT := Lib.hid hjt
      have HJ := Lib.hid hJ
      clear hjt hc hJ
      go_wp2
      go_round
      case rel => exact ⟨k + 1, by omega, by go_num, by rw [HJT.out]; congr 1; omega⟩
      case measure => simp [intOf]; omega
    · have hkn : n ≤ k := by omega
      have hk2 : ps.take k = ps := List.take_of_length_le (by rw [HN.out]; exact hkn)
      rw [hk2]
      clear hk2
      go_wp2_with (refine wpList_make_own _ rfl (Operand.const (.int .i64 0)) (Operand.tmp 21) 25 rfl w.heap.size 5 i0 (.int .u8 0) 1 Tryd.underlying25 hi hz0 hz1 .i64 .i64 ((8 + jlen ps : Nat) : Int) (8 + jlen ps) rfl rfl rfl (by rw [hz2]; omega) (by unfold maxLen; omega) (Nat.le_refl _) ?_; intro w1 hown1 hg1; have HO1 := Lib.hid hown1; have HG1 := Lib.hid hg1; clear hown1 hg1)
      have b1 : Below w.heap.size w w1 := ⟨HG1.out.os, HG1.out.tape, HG1.out.output, HG1.out.size, fun q hq => HG1.out.block q hq (by simp)⟩
      refine (appendNumber_any _ 0 w.heap.size [] n w1 HO1.out b1.size (by omega) (by omega)).mono ?_
      rintro e w2 ⟨v2, rfl, hown2, hb2⟩
      have HO2 := Lib.hid hown2
      have HB2 := Lib.hid (b1.trans hb2)
      clear hown2 hb2 b1 HG1 HO1
      go_wp2_with fail
      obtain ⟨wo, hwo⟩ : ∃ wo : World, wo = w2 := ⟨_, rfl⟩
      go_loopw [6, 29] (fun v6 i wr => ∃ k : Nat, k ≤ n ∧ i = .int .i64 k ∧ wr.ownsRow w.heap.size 5 1 v6 (8 + jlen (ps.take k)) ((be8 n ++ joinB (ps.take k)).map (Value.int .u8)) ∧ Below w.heap.size w wr) (fun _ i _ => n - (intOf i).toNat)
      case atStart => exact ⟨0, Nat.zero_le _, rfl, by simpa [jlen, joinB] using HO2.out, HB2.out⟩
      case round =>
        obtain ⟨j, hj2, rfl, hown, hbr⟩ := hrel
        have HO := Lib.hid hown
        have HBR := Lib.hid hbr
        have hsb := hbr.size
        clear hown hbr hwo
        by_cases hlt2 : j < n
        · obtain ⟨b, off, rfl, hbw, hc⟩ := HC.out (by omega)
          obtain ⟨x, hx, xa, xc, rfl, hxc, hxcell⟩ := hc j hlt2
          have hx' := (HBR.out.cell (p := ⟨b, off + j, none⟩) hbw).trans hx
          have hjt := jlen_take ps j (by rw [HN.out]; exact hlt2)
          have hjl := jlen_take_le ps (j + 1)
          have hjb := joinB_take ps j (by rw [HN.out]; exact hlt2)
          rw [hjt] at hjl
          generalize hP : ps[j]?.getD [] = p at *
          generalize hm : p.length = m at *
          generalize hJ : jlen (ps.take j) = J at *
          have HJT := Lib.hid hjt
          have HJB := Lib.hid hjb
          have HJ := Lib.hid hJ
          have HM := Lib.hid hm
          have HXC := Lib.hid hxcell
          have HXA := Lib.hid hxc.2
          clear hjt hjb hc hJ hx hm hP hxcell
          go_wp2_with fail
          refine (appendNumber_any _ (8 + J) w.heap.size _ m wr HO.out hsb (by omega) (by omega)).mono ?_
          rintro e w3 ⟨v3, rfl, hown3, hb3⟩
          have HO3 := Lib.hid hown3
          have HB3 := Lib.hid (HBR.out.trans hb3)
          have hs3 := HB3.out.size
          clear hown3 hb3
          have hfin : ∀ (w4 : World) (v4 : Value), w4.ownsRow w.heap.size 5 1 v4 (8 + J + 8 + m) ((be8 n ++ joinB (ps.take j)).map (Value.int .u8) ++ (be8 m).map (Value.int .u8) ++ p.map (Value.int .u8)) → w4.ownsRow w.heap.size 5 1 v4 (8 + jlen (ps.take (j + 1))) ((be8 n ++ joinB (ps.take (j + 1))).map (Value.int .u8)) := by
            intro w4 v4 ho
            rw [HJT.out, HJB.out, show 8 + (J + (8 + m)) = 8 + J + 8 + m by omega]
            simpa using ho
          have HF := Lib.hid hfin
          clear hfin
          cases xa with
          | none =>
            obtain rfl : xc = 0 := HXA.out rfl
            have hm0 : m = 0 := by have := hxc.1; omega
            subst hm0
            obtain rfl : p = [] := List.eq_nil_of_length_eq_zero HM.out
            go_wp2_with (at_builtin; refine wpList_append_own_none rfl (Operand.tmp 38) (Operand.tmp 39) 25 rfl w.heap.size 5 i0 1 Tryd.underlying25 hi v3 (8 + J + 8) _ rfl HO3.out rfl ?_)
            go_roundw
            case rel => exact ⟨j + 1, by omega, by go_num, HF.out _ _ (by simpa using HO3.out), HB3.out⟩
            case measure => simp [intOf]; omega
          | some ad =>
            have hX : ∀ q u, (p.map (Value.int .u8))[q]? = some u → w3.cell? (ad.add q) = some u := by
              intro q u hu
              rw [List.getElem?_map, Option.map_eq_some_iff] at hu
              obtain ⟨y, hy, rfl⟩ := hu
              have hq : q < m := by have := (List.getElem?_eq_some_iff.1 hy).1; rw [HM.out] at this; exact this
              obtain ⟨pb, po, e1, e2, e3⟩ := HXC.out (by omega)
              injection e1 with e1
              have e4 := e3 q hq
              rw [hy] at e4
              rw [e1, Addr.add_mid]
              exact (HB3.out.cell (p := ⟨pb, po + q, none⟩) e2).trans e4
            have HX := Lib.hid hX
            clear hX
            go_wp2_with (at_builtin; refine wpList_append_own _ rfl (Operand.tmp 38) (Operand.tmp 39) 25 rfl w.heap.size 5 i0 (.int .u8 0) 1 1 Tryd.underlying25 hi hz0 hz1 hz2 rfl (by decide) v3 (8 + J + 8) _ rfl HO3.out ad m xc (p.map (Value.int .u8)) rfl (by rw [List.length_map, HM.out, Nat.mul_one]) HX.out (by intro v hv; obtain ⟨x, _, rfl⟩ := List.mem_map.1 hv; rfl) (by unfold maxLen; omega) (by omega) hs3 ?_; intro v4 w4 hown4 hg4 _; have HO4 := Lib.hid hown4; have HG4 := Lib.hid hg4; clear hown4 hg4)
            go_roundw
            case rel => exact ⟨j + 1, by omega, by go_num, HF.out _ _ HO4.out, HB3.out.grown HG4.out hs3 (fun g hg => (HO3.out.lt g hg).1)⟩
            case measure => simp [intOf]; omega
        · have hkn2 : n ≤ j := by omega
          have hk2 : ps.take j = ps := List.take_of_length_le (by rw [HN.out]; exact hkn2)
          go_wp2_with fail
          go_ret
          refine ⟨_, rfl, ?_, HBR.out⟩
          have := HO.out
          rw [hk2] at this
          rw [joined, HN.out]; exact this
end Go.Proofs.YtkajpcjmcpollaaDoor
