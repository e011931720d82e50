import Derived.Test.YtaibminomehppaaLogE
import Derived.WalkKit
import Derived.ProofKit
import Derived.BigQuiet
import Derived.Deep.QuietTactic
import Derived.WalkSpells
import Derived.WalkLawsBesides
import Derived.Lib.Hide
import Derived.Deep.MidRow
import Derived.Deep.RegionLaw
import Derived.BigRegion
import Derived.Laws.AppendOwnNone
import Derived.Deep.DeepMust
import Derived.Deep.AppendLies
import Derived.RegionTactic
import Derived.Deep.WholeRow
import Derived.BigFrame
import Derived.Deep.RegionWith
import Derived.Deep.RegionHeld3
import Derived.Maps.RangeWalk
import Derived.Laws.CopyOwn
import Derived.StillTailTactics

import Derived.Lib.SlBytesConst
namespace Go.Proofs.Ytaibminomehppaa
open Go.RowKit
theorem below_dN {B : Nat} {a w : World} (h : Below B a w) (n : Nat) : Below B a (w.drewN n) := ⟨h.os, h.tape, h.output, h.size, h.block⟩
def Pss0 (w : World) (v : Value) (ps : List (List Int)) : Prop :=
  ∃ (a : Option Addr) (cap : Nat), v = .slice a ps.length cap ∧ (0 < ps.length → ∃ b off, a = some ⟨b, off, none⟩ ∧ b < w.heap.size ∧ ∀ i, i < ps.length → ∃ x, w.cell? ⟨b, off + i, none⟩ = some x ∧ Bs w x (ps[i]?.getD []))
theorem Recs.pss {w : World} {lo hi : Nat} {v : Value} {ps : List (List Int)} (h : Recs w lo hi v ps) : Pss0 w v ps := by
  obtain ⟨a, cap, hv, h⟩ := h
  refine ⟨a, cap, hv, fun hl => ?_⟩
  obtain ⟨b, off, ha, hbs, h3, h4, hcell⟩ := h hl
  exact ⟨b, off, ha, hbs, fun i hi => by
    obtain ⟨x, hx, hb1, _⟩ := hcell i hi
    exact ⟨x, hx, hb1⟩⟩
theorem take_succ_ps (ps : List (List Int)) (k : Nat) (h : k < ps.length) : ps.take (k + 1) = ps.take k ++ [ps[k]?.getD []] := by
  rw [List.take_succ_eq_append_getElem h, List.getElem?_eq_getElem h]; rfl
/-- the string of a slice of bytes -/
def strOf (w : World) : Value → ByteArray
  | .slice (some a) n _ => ⟨((List.range n).map fun j => match w.cell? (a.add j) with | some (.int _ x) => UInt8.ofNat x.toNat | _ => 0).toArray⟩
  | _ => ByteArray.empty
def HasBytes (w : World) : Value → Prop
  | .slice (some a) n _ => ∀ j, j < n → ∃ x, w.cell? (a.add j) = some (.int .u8 x)
  | .slice none n _ => n = 0
  | _ => False
def str (l : List Int) : ByteArray := ⟨(l.map fun x => UInt8.ofNat x.toNat).toArray⟩
theorem strOf_drew (w : World) (v : Value) : strOf w.drew v = strOf w v := rfl
theorem strOf_drewN (w : World) (n : Nat) (v : Value) : strOf (w.drewN n) v = strOf w v := rfl
theorem hasBytes_drew (w : World) (v : Value) : HasBytes w.drew v = HasBytes w v := rfl
theorem hasBytes_drewN (w : World) (n : Nat) (v : Value) : HasBytes (w.drewN n) v = HasBytes w v := rfl
def convB (x : Value) : Sem Value := Conv.bytesToString x
theorem foldl_push (ns : List Int) : ∀ r : ByteArray, ns.foldl (fun r n => r.push (UInt8.ofNat n.toNat)) r = ⟨r.data ++ (ns.map fun x => UInt8.ofNat x.toNat).toArray⟩ := by
  induction ns with
  | nil => intro r; simp
  | cons n ns ih => intro r; rw [List.foldl_cons, ih]; simp [ByteArray.push]
theorem run_convB (P : Program) (w : World) (v : Value) (h : HasBytes w v) : (convB v).run P w = .ok (.string (strOf w v)) w := by
  cases v with
  | slice a n c =>
    cases a with
    | none =>
      have h0 : n = 0 := h
      subst h0
      simp [convB, Conv.bytesToString, strOf]
    | some a =>
      have h1 : ∀ j, j < n → ∃ x, w.cell? (a.add j) = some (.int .u8 x) := h
      obtain ⟨f, hf⟩ : ∃ f : Nat → Int, ∀ j, j < n → w.cell? (a.add j) = some (.int .u8 (f j)) := by
        refine ⟨fun j => match w.cell? (a.add j) with | some (.int _ x) => x | _ => 0, fun j hj => ?_⟩
        obtain ⟨x, hx⟩ := h1 j hj
        simp only [hx]
      have hl := run_loadCells_list (P := P) w a (((List.range n).map f).map (Value.int .u8)) (fun j v hj => by
        have hj' : j < n := by have := (List.getElem?_eq_some_iff.1 hj).1; simpa using this
        rw [hf j hj']
        simp [List.getElem?_range hj'] at hj
        rw [← hj])
      simp only [List.length_map, List.length_range] at hl
      show (Conv.bytesToString _).run P w = _
      rw [run_bytesToString w a n c _ hl, foldl_push]
      congr 1
      simp only [strOf, Value.string.injEq]
      have e0 : (ByteArray.empty).data = #[] := rfl
      rw [e0]
      simp only [Array.empty_append, List.map_map, ByteArray.mk.injEq]
      congr 1
      apply List.map_congr_left
      intro j hj
      rw [List.mem_range] at hj
      simp only [Function.comp, hf j hj]
  | _ => exact absurd h (by simp [HasBytes])
theorem Bs.hasBytes {w : World} {v : Value} {l : List Int} (h : Bs w v l) : HasBytes w v := by
  obtain ⟨a, cap, rfl, hc, h⟩ := h
  cases a with
  | none =>
    show l.length = 0
    have := hc.2 rfl
    omega
  | some ad =>
    intro j hj
    obtain ⟨b, off, e, _, hcell⟩ := h (by omega)
    injection e with e
    rw [e, Addr.add_mid]
    exact ⟨_, hcell j hj⟩
theorem Bs.str {w : World} {v : Value} {l : List Int} (h : Bs w v l) : strOf w v = str l := by
  obtain ⟨a, cap, rfl, hc, h⟩ := h
  cases a with
  | none =>
    have h0 := hc.2 rfl
    have h1 : l = [] := List.eq_nil_of_length_eq_zero (by omega)
    subst h1
    rfl
  | some ad =>
    simp only [strOf, _root_.Go.Proofs.Ytaibminomehppaa.str, ByteArray.mk.injEq]
    congr 1
    apply List.ext_getElem?
    intro j
    by_cases hj : j < l.length
    · obtain ⟨b, off, e, _, hcell⟩ := h (by omega)
      injection e with e
      have h2 := hcell j hj
      rw [List.getElem?_map, List.getElem?_range hj, List.getElem?_map, List.getElem?_eq_getElem hj]
      rw [List.getElem?_eq_getElem hj] at h2
      simp only [Option.map_some, e, Addr.add_mid, h2, Option.getD_some]
    · rw [List.getElem?_eq_none (by simp; omega), List.getElem?_eq_none (by simp; omega)]
theorem str_inj {l m : List Int} (hl : Rng l) (hm : Rng m) (h : str l = str m) : l = m := by
  simp only [str, ByteArray.mk.injEq] at h
  have h2 : (l.map fun x => UInt8.ofNat x.toNat) = (m.map fun x => UInt8.ofNat x.toNat) := by simpa using congrArg Array.toList h
  have key : ∀ l : List Int, Rng l → (l.map fun x => UInt8.ofNat x.toNat).map (fun u => (u.toNat : Int)) = l := by
    intro l hl
    rw [List.map_map]
    conv => rhs; rw [← List.map_id l]
    apply List.map_congr_left
    intro x hx
    have := hl x hx
    simp only [Function.comp, id, UInt8.toNat_ofNat']
    omega
  rw [← key l hl, ← key m hm, h2]
def convC (x : Value) : Sem Value := convert 39 9 x
theorem convC_eq (x : Value) : convert 39 9 x = convC x := rfl
theorem run_convC (w : World) (a : Option Addr) (n c : Nat) (h : HasBytes w (.slice a n c)) : (convC (.slice a n c)).run Try.prog w = .ok (.string (strOf w (.slice a n c))) w :=
  (run_convert_bytes_string w 39 9 5 a n c Try.underlying39 Try.underlying5 Try.underlying9).trans (run_convB Try.prog w _ h)
theorem take_eq_succ {ps qs : List (List Int)} {k : Nat} (h : ps.take k = qs.take k) (h1 : k < ps.length) (h2 : k < qs.length) : ps.take (k + 1) = qs.take (k + 1) ↔ ps[k]?.getD [] = qs[k]?.getD [] := by
  rw [take_succ_ps ps k h1, take_succ_ps qs k h2, h]
  simp
theorem str_beq {l m : List Int} (hl : Rng l) (hm : Rng m) : ((str l).toList == (str m).toList) = decide (l = m) := by
  rw [Bool.eq_iff_iff, beq_iff_eq, decide_eq_true_eq]
  constructor
  · intro h
    refine str_inj hl hm ?_
    rw [ByteArray.toList_eq, ByteArray.toList_eq] at h
    have h2 : (str l).data = (str m).data := Array.toList_inj.1 h
    cases h3 : str l with
    | mk d1 => cases h4 : str m with
      | mk d2 => rw [h3, h4] at h2; exact congrArg ByteArray.mk h2
  · intro h; rw [h]
theorem rng_get {ps : List (List Int)} (h : ∀ p ∈ ps, Rng p) (k : Nat) : Rng (ps[k]?.getD []) := by
  by_cases hk : k < ps.length
  · rw [List.getElem?_eq_getElem hk]; exact h _ (List.getElem_mem hk)
  · rw [List.getElem?_eq_none (by omega)]; intro x hx; simp at hx
attribute [local go_sem ↓] convC_eq
set_option maxHeartbeats 800000 in
theorem rsame_any (v1 v2 : Value) (ps qs : List (List Int)) (w : World) (h1 : Pss0 w v1 ps) (h2 : Pss0 w v2 qs) (r1 : ∀ p ∈ ps, Rng p) (r2 : ∀ p ∈ qs, Rng p) (hl : ps.length ≤ 1099511627776) :
    Calls Try.prog 33 #[v1, v2] w fun e w' => e = .returned (.bool (decide (ps = qs))) ∧ Below w.heap.size w w' := by
  obtain ⟨a1, cap1, rfl, hc1⟩ := h1
  obtain ⟨a2, cap2, rfl, hc2⟩ := h2
  by_cases hlen : ps.length = qs.length
  · generalize hn : ps.length = n at *
    have HN := Lib.hid hn
    have HM := Lib.hid hlen.symm
    rw [← hlen] at hc2 ⊢
    have HC1 := Lib.hid hc1
    have HC2 := Lib.hid hc2
    have HR1 := Lib.hid r1
    have HR2 := Lib.hid r2
    clear hn hlen hc1 hc2 r1 r2
    go_enter Try.func33, Try.ntmps33
    go_wp2_with fail
    go_loopw [5] (fun i wr => ∃ k : Nat, k ≤ n ∧ i = .int .i64 k ∧ Hid (ps.take k = qs.take k) ∧ Below w.heap.size w wr) (fun i _ => n - (intOf i).toNat)
    case atStart => exact ⟨0, Nat.zero_le _, rfl, by show _ = _; simp, Below.refl _ _⟩
    case round =>
      obtain ⟨k, hk, rfl, heq, hbr⟩ := hrel
      have HBR := Lib.hid hbr
      clear hbr
      by_cases hlt : k < n
      · obtain ⟨b1, o1, rfl, hb1, hd1⟩ := HC1.out (by omega)
        obtain ⟨b2, o2, rfl, hb2, hd2⟩ := HC2.out (by omega)
        obtain ⟨x1, hx1, hy1⟩ := hd1 k hlt
        obtain ⟨x2, hx2, hy2⟩ := hd2 k hlt
        have c1 := (HBR.out.cell (p := ⟨b1, o1 + k, none⟩) hb1).trans hx1
        have c2 := (HBR.out.cell (p := ⟨b2, o2 + k, none⟩) hb2).trans hx2
        have hz1 := hy1.below HBR.out
        have hz2 := hy2.below HBR.out
        have s1 := hz1.hasBytes
        have s2 := hz2.hasBytes
        have t1 := hz1.str
        have t2 := hz2.str
        obtain ⟨xa1, xc1, rfl, _⟩ := hy1
        obtain ⟨xa2, xc2, rfl, _⟩ := hy2
        have v1 : ∀ m, (convC (.slice xa1 (ps[k]?.getD []).length xc1)).run Try.prog (wr.drewN m) = .ok (.string (str (ps[k]?.getD []))) (wr.drewN m) := fun m => by rw [run_convC (wr.drewN m) _ _ _ (show HasBytes (wr.drewN m) _ from s1), strOf_drewN, t1]
        have v2 : ∀ m, (convC (.slice xa2 (qs[k]?.getD []).length xc2)).run Try.prog (wr.drewN m) = .ok (.string (str (qs[k]?.getD []))) (wr.drewN m) := fun m => by rw [run_convC (wr.drewN m) _ _ _ (show HasBytes (wr.drewN m) _ from s2), strOf_drewN, t2]
        clear s1 s2 t1 t2
        have hkk : (k : Int) < (n : Int) := by omega
        clear hd1 hd2 hx1 hx2 hz1 hz2
        have hb := str_beq (rng_get HR1.out k) (rng_get HR2.out k)
        have hte := take_eq_succ heq.out (by rw [HN.out]; exact hlt) (by rw [HM.out]; exact hlt)
        generalize hS1 : str (ps[k]?.getD []) = S1 at *
        generalize hS2 : str (qs[k]?.getD []) = S2 at *
        clear hS1 hS2
        by_cases he : ps[k]?.getD [] = qs[k]?.getD []
        · have hb2 : (S1.toList == S2.toList) = true := by rw [hb]; exact decide_eq_true he
          have HTE := Lib.hid (hte.2 he)
          clear hb hte he
          go_wp2
          go_quiet (fail)
          go_wp2
          go_roundw
          case rel => exact ⟨k + 1, by omega, by go_num, HTE, below_dN HBR.out _⟩
          case measure => simp [intOf]; omega
        · have hb2 : (S1.toList == S2.toList) = false := by rw [hb]; exact decide_eq_false he
          have hne : ps ≠ qs := fun e => he (by rw [e])
          have HNE := Lib.hid hne
          clear hb hte he hne
          go_wp2
          go_quiet (fail)
          go_wp2
          go_ret
          exact ⟨ret_bool (decide_eq_false HNE.out).symm, below_dN HBR.out _⟩
      · have hkn : n ≤ k := by omega
        have he : ps = qs := by
          have := heq.out
          rw [List.take_of_length_le (by rw [HN.out]; exact hkn), List.take_of_length_le (by rw [HM.out]; exact hkn)] at this
          exact this
        have HE := Lib.hid he
        clear he hlt
        go_wp2
        go_ret
        exact ⟨ret_bool (decide_eq_true HE.out).symm, HBR.out⟩
  · have hne : ps ≠ qs := fun e => hlen (by rw [e])
    have HNE := Lib.hid hne
    clear hne
    go_enter Try.func33, Try.ntmps33
    go_wp2
    go_ret
    exact ⟨ret_bool (decide_eq_false HNE.out).symm, Below.refl _ _⟩
end Go.Proofs.Ytaibminomehppaa
