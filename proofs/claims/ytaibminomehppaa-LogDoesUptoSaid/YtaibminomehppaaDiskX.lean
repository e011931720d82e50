import Derived.Test.YtaibminomehppaaDiskV
import Derived.WalkKit
import Derived.ProofKit
import Derived.BigQuiet
import Derived.Deep.QuietTactic
import Derived.WalkSpells
import Derived.WalkLawsBesides
import Derived.Lib.Hide
import Derived.Deep.MidRow
import Derived.Deep.RegionLaw
import Derived.BigRegion
import Derived.Laws.AppendOwnNone
import Derived.Deep.DeepMust
import Derived.Deep.AppendLies
import Derived.RegionTactic
import Derived.Deep.WholeRow
import Derived.BigFrame
import Derived.Deep.RegionWith
import Derived.Deep.RegionHeld3
import Derived.Maps.RangeWalk
import Derived.Laws.CopyOwn
import Derived.StillTailTactics
namespace Go.Proofs.Ytaibminomehppaa
open Go.RowKit
/-- the first k bytes of b, then a's -/
def mixL (b a : List Int) (k : Nat) : List Int := b.take k ++ a.drop k
theorem mixL_len (b a : List Int) (k : Nat) (hb : b.length = 256) (ha : a.length = 256) (hk : k ≤ 256) : (mixL b a k).length = 256 := by simp [mixL, ha, hb]; omega
theorem mixL_set (b a : List Int) (k : Nat) (x : Int) (hb : b[k]? = some x) (ha : k < a.length) : (mixL b a k).set k x = mixL b a (k + 1) := by
  have hkb := (List.getElem?_eq_some_iff.1 hb).1
  unfold mixL
  apply List.ext_getElem?
  intro i
  rw [List.getElem?_set]
  by_cases h : k = i
  · subst h
    rw [if_pos rfl, if_pos (by simp; omega), List.getElem?_append_left (by simp; omega), List.getElem?_take_of_lt (by omega), hb]
  · rw [if_neg h]
    by_cases h2 : i < k
    · rw [List.getElem?_append_left (by simp; omega), List.getElem?_append_left (by simp; omega), List.getElem?_take_of_lt h2, List.getElem?_take_of_lt (by omega)]
    · rw [List.getElem?_append_right (by simp; omega), List.getElem?_append_right (by simp; omega), List.getElem?_drop, List.getElem?_drop]
      congr 1
      simp; omega
def cutN (c : Bool) (t : Int) (k : Nat) : Nat := if c then min k t.toNat else k
theorem cutN_lt (c : Bool) (t : Int) (k : Nat) (h : c = true → (k : Int) < t) : cutN c t k = k ∧ cutN c t (k + 1) = k + 1 := by
  cases c
  · exact ⟨rfl, rfl⟩
  · have := h rfl
    simp only [cutN, if_true]
    omega
theorem mix_end (b a : List Int) (i : Nat) (lst t : Int) (hb : b.length = 256) (ha : a.length = 256) : mixL b a (cutN (decide ((i : Int) = lst ∧ 0 ≤ t)) t 256) = if (i : Int) = lst then tearL a b t else b := by
  have hall : mixL b a 256 = b := by rw [mixL, List.take_of_length_le (by omega), List.drop_of_length_le (by omega), List.append_nil]
  unfold cutN
  by_cases h : (i : Int) = lst
  · rw [if_pos h]
    unfold tearL
    by_cases ht : 0 ≤ t
    · rw [decide_eq_true (show _ ∧ _ from ⟨h, ht⟩), if_pos rfl]
      by_cases h2 : 256 ≤ t
      · rw [if_pos (Or.inr h2), Nat.min_eq_left (by omega), hall]
      · rw [if_neg (by omega), Nat.min_eq_right (by omega), mixL]
    · rw [decide_eq_false (fun e => ht e.2), if_neg (by simp), hall, if_pos (Or.inl (by omega))]
  · rw [if_neg h, decide_eq_false (fun e => h e.1), if_neg (by simp), hall]
/-- one byte of one block is written -/
theorem BkC.byte {w : World} {B g : Nat} {v : Value} {bs : List (List Int)} (h : BkC w B g v bs) (i k : Nat) (l : List Int) (hi : bs[i]? = some l) (hk : k < 256) (x : Int) : BkC (w.setCell ⟨g, i * 256 + k, none⟩ (.int .u8 x)) B g v (bs.set i (l.set k x)) := by
  obtain ⟨h1, h2, h3, h4, h5⟩ := h
  have hil := (List.getElem?_eq_some_iff.1 hi).1
  have hc : ∀ p, p ≠ i * 256 + k → (w.setCell ⟨g, i * 256 + k, none⟩ (.int .u8 x)).cell? ⟨g, p, none⟩ = w.cell? ⟨g, p, none⟩ := fun p hp => by
    apply World.cell?_setCell_other
    intro e
    injection e with _ e _
    omega
  have hs : ∃ y, w.cell? ⟨g, i * 256 + k, none⟩ = some y := by
    have := (h5 (i * 256 + k) (by omega)).1
    rw [Nat.zero_add] at this
    exact Option.isSome_iff_exists.1 this
  obtain ⟨y, hy⟩ := hs
  have hsame : (w.setCell ⟨g, i * 256 + k, none⟩ (.int .u8 x)).cell? ⟨g, i * 256 + k, none⟩ = some (.int .u8 x) := World.cell?_setCell_same _ _ _ hy
  refine ⟨by simpa using h1, h2, by simpa using h3, fun j m hj => ?_, fun j hj => ?_⟩
  · rw [List.getElem?_set] at hj
    by_cases hij : i = j
    · subst hij
      rw [if_pos rfl, if_pos hil] at hj
      injection hj with hj
      subst hj
      obtain ⟨a1, a2⟩ := h4 i l hi
      refine ⟨by rw [List.length_set]; exact a1, fun q u hq => ?_⟩
      rw [List.getElem?_map, List.getElem?_set] at hq
      by_cases hqk : k = q
      · subst hqk
        rw [if_pos rfl, if_pos (by omega)] at hq
        injection hq with hq
        rw [← hq]
        exact hsame
      · rw [if_neg hqk] at hq
        rw [hc _ (by omega)]
        exact a2 q u (by rw [List.getElem?_map]; exact hq)
    · rw [if_neg hij] at hj
      obtain ⟨a1, a2⟩ := h4 j m hj
      refine ⟨a1, fun q u hq => ?_⟩
      have hq2 : q < 256 := by have := (List.getElem?_eq_some_iff.1 hq).1; simpa [a1] using this
      rw [hc _ (by omega)]
      exact a2 q u hq
  · rw [List.length_set] at hj
    have := h5 j hj
    rw [World.frozen?_setCell]
    refine ⟨?_, this.2⟩
    by_cases hjk : 0 + j = i * 256 + k
    · rw [hjk, hsame]; rfl
    · rw [hc _ hjk]; exact this.1
def RUpEnds (B R gf : Nat) (fv : Value) (rm : Int) (bs : List (List Int)) (K : List RW) (ks : List Bool) (t : Int) (w : World) (e : Ending) (w' : World) : Prop :=
  e = .returned (.tuple #[]) ∧ RefIs w' R (RC fv (.slice none 0 0) rm (-1) false) ∧ BkC w' B gf fv (rupL bs K ks t (rLast ks (min K.length ks.length)) (min K.length ks.length)) ∧ Chg (fun k => k = R ∨ k = gf) w w'
set_option maxRecDepth 100000 in
set_option maxHeartbeats 4000000 in
theorem rup_any (B R gf nb fcap : Nat) (lv kv : Value) (rm fz t : Int) (off : Bool) (bs : List (List Int)) (K : List RW) (ks : List Bool) (w : World) (hd : RefIs w R (RC (.slice (some ⟨gf, 0, none⟩) nb fcap) lv rm fz off)) (hb : BkC w B gf (.slice (some ⟨gf, 0, none⟩) nb fcap) bs) (hl : RLIs w B lv K) (hK : ROK K) (hr : ∀ x ∈ K, 0 ≤ x.1 ∧ x.1 < nb)
    (hne : R ≠ gf) (hng : ∀ k, lv.ownBlock = some k → k ≠ gf ∧ k ≠ R) (hkb : Bools w kv ks) (hkd : ∀ b o n c, kv = .slice (some ⟨b, o, none⟩) n c → 0 < ks.length → b ≠ gf) (hKl : K.length ≤ 268435456) (hkl : ks.length ≤ 140737488355328) :
    Calls Try.prog 57 #[.pointer (some ⟨R, 0, none⟩), kv, .int .i64 t] w (RUpEnds B R gf (.slice (some ⟨gf, 0, none⟩) nb fcap) rm bs K ks t w) := by
  have hlen : bs.length = nb := by obtain ⟨⟨c, e⟩, _⟩ := hb; injection e with _ e _; exact e.symm
  subst hlen
  obtain ⟨la, lc, hlv⟩ := hl.shape
  subst hlv
  obtain ⟨ka, kcap, hkv, hkc⟩ := hkb
  subst hkv
  have HD := Lib.hid hd
  have HB := Lib.hid hb
  have HL := Lib.hid hl
  have HK := Lib.hid hK
  have HR := Lib.hid hr
  have HNG := Lib.hid hng
  have HKC := Lib.hid hkc
  have HKD := Lib.hid hkd
  have hRlt := hd.lt
  have hglt := hb.2.2.1
  have C0 := Lib.hid (show w.cell? ⟨R, 0, none⟩ = some (.slice (some ⟨gf, 0, none⟩) bs.length fcap) from hd.cell 0)
  have c1 : w.cell? ⟨R, 1, none⟩ = some (.slice la K.length lc) := hd.cell 1
  have C1 := Lib.hid c1
  obtain ⟨m, hm⟩ : ∃ m, m = min K.length ks.length := ⟨_, rfl⟩
  have hm1 : m ≤ K.length := by omega
  have hm2 : m ≤ ks.length := by omega
  have hm3 : m < K.length → m < ks.length → False := by omega
  have HM := Lib.hid hm
  clear hd hb hl hK hr hng hkc hkd hm
  go_enter Try.func57, Try.ntmps57
  go_wp2_with fail
  go_loop [6, 7] (fun lvv iv => ∃ i : Nat, i ≤ m ∧ iv = .int .i64 (i : Int) ∧ lvv = .int .i64 (rLast ks i)) (fun _ iv => m - (intOf iv).toNat)
  case atStart => exact ⟨0, Nat.zero_le _, rfl, rfl⟩
  case round =>
    obtain ⟨i, hi, rfl, rfl⟩ := hrel
    have hrl := rLast_lt ks i
    by_cases him : i < m
    · have h1 : i < K.length := by omega
      have h2 : i < ks.length := by omega
      obtain ⟨kb, ko, rfl, hkblt, hkat⟩ := HKC.out (by omega)
      have ck := hkat i h2
      have HNX := Lib.hid (show rLast ks (i + 1) = if (ks[i]?).getD false = true then (i : Int) else rLast ks i from rfl)
      generalize (ks[i]?).getD false = kk at *
      generalize rLast ks i = lst at *
      clear hkat
      cases kk
      · go_wp2_with fail
        go_round
        case rel => exact ⟨i + 1, by omega, by go_num, by rw [HNX.out]; rfl⟩
        case measure => simp [intOf]; omega
      · go_wp2_with fail
        go_round
        case rel => exact ⟨i + 1, by omega, by go_num, by rw [HNX.out]; rfl⟩
        case measure => simp [intOf]; omega
    · obtain rfl : m = i := by omega
      clear him hi
      have hcase : ¬ m < K.length ∨ (m < K.length ∧ ¬ m < ks.length) := by
        by_cases h : m < K.length
        · exact .inr ⟨h, fun h2 => hm3 h h2⟩
        · exact .inl h
      clear hm3
      obtain ⟨lst, hlst⟩ : ∃ lst, lst = rLast ks m := ⟨_, rfl⟩
      rw [← hlst] at hrl ⊢
      have HLST := Lib.hid hlst
      clear hlst
      rcases hcase with hA | ⟨hA, hA2⟩
      all_goals
        go_wp2_with fail
        go_loopw [8] (fun iv wr => ∃ i : Nat, i ≤ m ∧ iv = .int .i64 (i : Int) ∧ Chg (fun k => k = gf) w wr ∧ BkC wr B gf (.slice (some ⟨gf, 0, none⟩) bs.length fcap) (rupL bs K ks t lst i)) (fun iv _ => m - (intOf iv).toNat)
        case atStart => exact ⟨0, Nat.zero_le _, rfl, Chg.refl _ _, HB.out⟩
        case round =>
          obtain ⟨i, hi, rfl, hcr, hbr⟩ := hrel
          have HCR := Lib.hid hcr
          have HBR := Lib.hid hbr
          have c1' : wr.cell? ⟨R, 1, none⟩ = some (.slice la K.length lc) := (World.cell?_of_block (a := ⟨R, 1, none⟩) (hcr.block R hRlt hne)).trans C1.out
          have C1R := Lib.hid c1'
          have C0R := Lib.hid (show wr.cell? ⟨R, 0, none⟩ = some (.slice (some ⟨gf, 0, none⟩) bs.length fcap) from (World.cell?_of_block (a := ⟨R, 0, none⟩) (hcr.block R hRlt hne)).trans C0.out)
          clear hcr hbr c1
          by_cases him : i < m
          · have h1 : i < K.length := by omega
            have h2 : i < ks.length := by omega
            obtain ⟨kb, ko, rfl, hkblt, hkat⟩ := HKC.out (by omega)
            have hkg : kb ≠ gf := HKD.out kb ko _ _ rfl (by omega)
            have ck : wr.cell? ⟨kb, ko + i, none⟩ = some (.bool (ks[i]?.getD false)) := (World.cell?_of_block (a := ⟨kb, ko + i, none⟩) (HCR.out.block kb hkblt hkg)).trans (hkat i h2)
            have hx : K[i]? = some (K[i]'h1) := List.getElem?_eq_getElem h1
            generalize K[i]'h1 = x at hx
            have hstep : rupL bs K ks t lst (i + 1) = if (ks[i]?).getD false = true then (rupL bs K ks t lst i).set x.1.toNat (if (i : Int) = lst then tearL ((rupL bs K ks t lst i)[x.1.toNat]?.getD []) x.2 t else x.2) else rupL bs K ks t lst i := by rw [rupL, hx]
            have HSTEP := Lib.hid hstep
            have HBL := Lib.hid (rupL_len bs K ks t lst i)
            clear hstep hkat
            generalize hkk : (ks[i]?).getD false = kk at *
            clear hkk
            cases kk
            · go_wp2_with fail
              go_roundw
              case rel => exact ⟨i + 1, by omega, by go_num, HCR.out, by rw [HSTEP.out, if_neg (by decide)]; exact HBR.out⟩
              case measure => simp [intOf]; omega
            · have hxm := List.mem_of_getElem? hx
              have hxl := HK.out x hxm
              obtain ⟨q, hq⟩ : ∃ q : Nat, x.1 = (q : Int) := ⟨x.1.toNat, by have := (HR.out x hxm).1; omega⟩
              have hql : q < bs.length := by have := (HR.out x hxm).2; omega
              have hqt : x.1.toNat = q := by omega
              rw [hqt] at HSTEP
              obtain ⟨g, lcap, hlv, hat⟩ := HL.out.at HK.out (by omega)
              injection hlv with e1 _ e2
              subst e1 e2
              obtain ⟨hc0, hc1⟩ := hat i x hx
              rw [hq] at hc0
              have hgl := (HL.out.lt g rfl).2
              have hgf := (HNG.out g rfl).1
              have CN : wr.cell? ⟨g, i * 257, none⟩ = some (.int .i64 (q : Int)) := (World.cell?_of_block (a := ⟨g, i * 257, none⟩) (HCR.out.block g hgl hgf)).trans hc0
              have HRX := Lib.hid (show ∀ k y, x.2[k]? = some y → w.cell? ⟨g, i * 257 + 1 + k, none⟩ = some (.int .u8 y) from fun k y hy => hc1 k _ (by rw [List.getElem?_map, hy]; rfl))
              have hxl2 : x.2.length = 256 := hxl
              generalize x.2 = xb at *
              have HXL := Lib.hid hxl2
              generalize rupL bs K ks t lst i = bi at *
              have hqb : q < bi.length := by rw [HBL.out]; exact hql
              have hold : bi[q]? = some (bi[q]'hqb) := List.getElem?_eq_getElem hqb
              generalize bi[q]'hqb = old at hold
              have holdl := (HBR.out.2.2.2.1 q old hold).1
              rw [hold] at HSTEP
              have HOLD := Lib.hid hold
              have HOL := Lib.hid holdl
              have HQB := Lib.hid hqb
              have HQ := Lib.hid hq
              clear hxm hxl hq hqt hat hc0 hc1 hxl2 hold holdl hqb hx
              go_wp2_with fail
              obtain ⟨cc, hcc⟩ : ∃ cc, cc = decide ((i : Int) = lst ∧ 0 ≤ t) := ⟨_, rfl⟩
              have HCC := Lib.hid hcc
              clear hcc
              obtain ⟨wo, rfl⟩ : ∃ wo : World, wo = wr := ⟨_, rfl⟩
              go_loopw [10] (fun jv wr => ∃ k : Nat, k ≤ 256 ∧ jv = .int .i64 (k : Int) ∧ Chg (fun b => b = gf) w wr ∧ BkC wr B gf (.slice (some ⟨gf, 0, none⟩) bs.length fcap) (bi.set q (mixL xb old (cutN cc t k)))) (fun jv _ => 256 - (intOf jv).toNat)
              case atStart =>
                refine ⟨0, by omega, rfl, HCR.out, ?_⟩
                have e0 : cutN cc t 0 = 0 := by unfold cutN; split <;> omega
                rw [e0, mixL, List.take_zero, List.drop_zero, List.nil_append]
                have e1 : bi.set q old = bi := by
                  apply List.ext_getElem?
                  intro z
                  rw [List.getElem?_set]
                  by_cases hz : q = z
                  · subst hz; rw [if_pos rfl, if_pos HQB.out, HOLD.out]
                  · rw [if_neg hz]
                rw [e1]; exact HBR.out
              case round =>
                obtain ⟨k, hk, rfl, hcs, hbs⟩ := hrel
                have HCS := Lib.hid hcs
                have HBS := Lib.hid hbs
                clear hcs hbs ck c1' CN
                by_cases hk256 : k < 256
                · by_cases hwr : cc = true ∧ t ≤ (k : Int)
                  · have hcc2 := HCC.out
                    rw [hwr.1] at hcc2
                    have hcc3 := of_decide_eq_true hcc2.symm
                    have b1 : ((i : Int) == lst) = true := by simp [hcc3.1]
                    have b2 : ((i : Int) != lst) = false := by simp [hcc3.1]
                    have b3 : ¬ t < 0 := by omega
                    have b4 : ¬ (k : Int) < t := by omega
                    have HW := Lib.hid (show cutN cc t (k + 1) = cutN cc t k from by unfold cutN; rw [hwr.1, if_pos rfl, if_pos rfl]; omega)
                    clear hcc2 hcc3 hwr
                    go_wp2_with fail
                    go_roundw
                    case rel => exact ⟨k + 1, by omega, by go_num, HCS.out, by rw [HW.out]; exact HBS.out⟩
                    case measure => simp [intOf]; omega
                  · have hlt : cc = true → (k : Int) < t := fun h => Classical.byContradiction (fun h2 => hwr ⟨h, by omega⟩)
                    have hwk : cutN cc t k = k := (cutN_lt cc t k hlt).1
                    have HW := Lib.hid (cutN_lt cc t k hlt).2
                    rw [hwk] at HBS
                    have hy : xb[k]? = some (xb[k]'(by rw [HXL.out]; exact hk256)) := List.getElem?_eq_getElem _
                    generalize xb[k]'(by rw [HXL.out]; exact hk256) = y at hy
                    have hset := mixL_set xb old k y hy (by rw [HOL.out]; exact hk256)
                    have hgs := HBS.out.byte q k (mixL xb old k) (by rw [List.getElem?_set, if_pos rfl, if_pos HQB.out]) hk256 y
                    rw [List.set_set, hset, ← HW.out] at hgs
                    have HGS := Lib.hid hgs
                    have cR0 : wr.cell? ⟨R, 0, none⟩ = some (.slice (some ⟨gf, 0, none⟩) bs.length fcap) := (World.cell?_of_block (a := ⟨R, 0, none⟩) (HCS.out.block R hRlt hne)).trans C0.out
                    have cR1 : wr.cell? ⟨R, 1, none⟩ = some (.slice (some ⟨g, 0, none⟩) K.length lc) := (World.cell?_of_block (a := ⟨R, 1, none⟩) (HCS.out.block R hRlt hne)).trans C1.out
                    have cY : wr.cell? ⟨g, i * 257 + 1 + k, none⟩ = some (.int .u8 y) := (World.cell?_of_block (a := ⟨g, i * 257 + 1 + k, none⟩) (HCS.out.block g hgl hgf)).trans (HRX.out k y hy)
                    have HS1 := Lib.hid (And.intro cR0 (And.intro cR1 cY))
                    have hblk : ∀ b, b ≠ gf → (wr.drew.setCell ⟨gf, q * 256 + k, none⟩ (.int .u8 y)).heap[b]? = wr.heap[b]? := fun b hb => Below.heap_setCell _ _ _ _ hb
                    have HS2 := Lib.hid (show (wr.drew.setCell ⟨gf, q * 256 + k, none⟩ (.int .u8 y)).cell? ⟨R, 0, none⟩ = some (.slice (some ⟨gf, 0, none⟩) bs.length fcap) ∧ (wr.drew.setCell ⟨gf, q * 256 + k, none⟩ (.int .u8 y)).cell? ⟨R, 1, none⟩ = some (.slice (some ⟨g, 0, none⟩) K.length lc) ∧ (wr.drew.setCell ⟨gf, q * 256 + k, none⟩ (.int .u8 y)).cell? ⟨g, i * 257 + 1 + k, none⟩ = some (.int .u8 y) from
                      ⟨(World.cell?_of_block (a := ⟨R, 0, none⟩) (hblk R hne)).trans cR0, (World.cell?_of_block (a := ⟨R, 1, none⟩) (hblk R hne)).trans cR1, (World.cell?_of_block (a := ⟨g, i * 257 + 1 + k, none⟩) (hblk g hgf)).trans cY⟩)
                    have hth := HBS.out.2.2.2.2 (q * 256 + k) (by have := HBL.out; have := HQB.out; rw [List.length_set]; omega)
                    rw [Nat.zero_add] at hth
                    have HTY := Lib.hid (show ∃ z, wr.cell? ⟨gf, q * 256 + k, none⟩ = some z from Option.isSome_iff_exists.1 hth.1)
                    have HFR := Lib.hid (show wr.frozen? ⟨gf, q * 256 + k, none⟩ = false from hth.2)
                    have HCS2 := Lib.hid (show Chg (fun b => b = gf) w (wr.drew.setCell ⟨gf, q * 256 + k, none⟩ (.int .u8 y)) from HCS.out.drew.setCell ⟨gf, q * 256 + k, none⟩ _ (.inl rfl))
                    have hql2 : (q : Int) < bs.length := by omega
                    have hk2 : (k : Int) < 256 := by omega
                    have hK1 : (i : Int) < K.length := by omega
                    have hwr3 : (¬ (i : Int) = lst) ∨ ((i : Int) = lst ∧ t < 0) ∨ ((i : Int) = lst ∧ ¬ t < 0 ∧ (k : Int) < t) := by
                      by_cases z1 : (i : Int) = lst
                      · by_cases z2 : t < 0
                        · exact .inr (.inl ⟨z1, z2⟩)
                        · refine .inr (.inr ⟨z1, z2, ?_⟩)
                          have : cc = true := by rw [HCC.out]; exact decide_eq_true ⟨z1, by omega⟩
                          apply Classical.byContradiction
                          intro z3
                          exact hwr ⟨this, by omega⟩
                      · exact .inl z1
                    clear hgs hset hy hwk hblk hth cR0 cR1 cY hwr hlt
                    rcases hwr3 with z1 | ⟨z1, z2⟩ | ⟨z1, z2, z3⟩
                    · have b1 : ((i : Int) == lst) = false := by simpa using z1
                      have b2 : ((i : Int) != lst) = true := by simpa using z1
                      clear z1
                      go_wp2_with fail
                      refine wp_region_held_drew (S := fun u => u.cell? ⟨R, 0, none⟩ = some (.slice (some ⟨gf, 0, none⟩) bs.length fcap) ∧ u.cell? ⟨R, 1, none⟩ = some (.slice (some ⟨g, 0, none⟩) K.length lc) ∧ u.cell? ⟨g, i * 257 + 1 + k, none⟩ = some (.int .u8 y)) (by kernel_rfl) (HS1.out) (fun hHeld => ?_)
                      refine wpAnyH_take (i := 0) (oi := ({ dst := some 75, op := Op.move (Operand.tmp 0), type := 27, pos := "ref.go:119", after := #[], guard := none } : Oper)) (v := ?_) rfl (by kernel_rfl) (by kernel_rfl) (by kernel_rfl) (fun _ _ _ h => h) (Or.inl ⟨by rfl, ?_⟩) (by assumption) ?_
                      rotate_left 1
                      · (intro u hSw; go_simp; try with_reducible rfl)
                      try simp only [Act.put, List.setIfInBounds_toArray, List.set_cons_zero, List.set_cons_succ]
                      refine wpAnyH_take (i := 1) (oi := ({ dst := some 76, op := Op.nilCheck (Operand.tmp 75), type := 0, pos := "ref.go:119", after := #[{ on := 0, ground := Ground.data }], guard := none } : Oper)) (v := ?_) rfl (by kernel_rfl) (by kernel_rfl) (by kernel_rfl) (fun _ _ _ h => h) (Or.inl ⟨by rfl, ?_⟩) (by assumption) ?_
                      rotate_left 1
                      · (intro u hSw; go_simp; try with_reducible rfl)
                      try simp only [Act.put, List.setIfInBounds_toArray, List.set_cons_zero, List.set_cons_succ]
                      refine wpAnyH_take (i := 2) (oi := ({ dst := some 77, op := Op.fieldAddr 77 (Operand.tmp 76) 0, type := 0, pos := "ref.go:119", after := #[{ on := 1, ground := Ground.data }], guard := none } : Oper)) (v := ?_) rfl (by kernel_rfl) (by kernel_rfl) (by kernel_rfl) (fun _ _ _ h => h) (Or.inl ⟨by rfl, ?_⟩) (by assumption) ?_
                      rotate_left 1
                      · (intro u hSw; go_simp; try with_reducible rfl)
                      try simp only [Act.put, List.setIfInBounds_toArray, List.set_cons_zero, List.set_cons_succ]
                      refine wpAnyH_take (i := 3) (oi := ({ dst := some 78, op := Op.load 74 (Operand.tmp 77), type := 74, pos := "ref.go:119", after := #[{ on := 2, ground := Ground.data }], guard := none } : Oper)) (v := ?_) rfl (by kernel_rfl) (by kernel_rfl) (by kernel_rfl) (fun _ _ _ h => h) (Or.inl ⟨by rfl, ?_⟩) (by assumption) ?_
                      rotate_left 1
                      · intro u hSw
                        have h := hSw.1
                        go_simp
                        try with_reducible rfl
                      try simp only [Act.put, List.setIfInBounds_toArray, List.set_cons_zero, List.set_cons_succ]
                      refine wpAnyH_take (i := 4) (oi := ({ dst := some 79, op := Op.move (Operand.tmp 9), type := 3, pos := "ref.go:119", after := #[], guard := none } : Oper)) (v := ?_) rfl (by kernel_rfl) (by kernel_rfl) (by kernel_rfl) (fun _ _ _ h => h) (Or.inl ⟨by rfl, ?_⟩) (by assumption) ?_
                      rotate_left 1
                      · (intro u hSw; go_simp; try with_reducible rfl)
                      try simp only [Act.put, List.setIfInBounds_toArray, List.set_cons_zero, List.set_cons_succ]
                      refine wpAnyH_take (i := 5) (oi := ({ dst := some 80, op := Op.move (Operand.tmp 10), type := 3, pos := "ref.go:119", after := #[], guard := none } : Oper)) (v := ?_) rfl (by kernel_rfl) (by kernel_rfl) (by kernel_rfl) (fun _ _ _ h => h) (Or.inl ⟨by rfl, ?_⟩) (by assumption) ?_
                      rotate_left 1
                      · (intro u hSw; go_simp; try with_reducible rfl)
                      try simp only [Act.put, List.setIfInBounds_toArray, List.set_cons_zero, List.set_cons_succ]
                      refine wpAnyH_take (i := 6) (oi := ({ dst := some 81, op := Op.move (Operand.tmp 0), type := 27, pos := "ref.go:119", after := #[], guard := none } : Oper)) (v := ?_) rfl (by kernel_rfl) (by kernel_rfl) (by kernel_rfl) (fun _ _ _ h => h) (Or.inl ⟨by rfl, ?_⟩) (by assumption) ?_
                      rotate_left 1
                      · (intro u hSw; go_simp; try with_reducible rfl)
                      try simp only [Act.put, List.setIfInBounds_toArray, List.set_cons_zero, List.set_cons_succ]
                      refine wpAnyH_take (i := 7) (oi := ({ dst := some 82, op := Op.nilCheck (Operand.tmp 81), type := 0, pos := "ref.go:119", after := #[{ on := 6, ground := Ground.data }], guard := none } : Oper)) (v := ?_) rfl (by kernel_rfl) (by kernel_rfl) (by kernel_rfl) (fun _ _ _ h => h) (Or.inl ⟨by rfl, ?_⟩) (by assumption) ?_
                      rotate_left 1
                      · (intro u hSw; go_simp; try with_reducible rfl)
                      try simp only [Act.put, List.setIfInBounds_toArray, List.set_cons_zero, List.set_cons_succ]
                      refine wpAnyH_take (i := 8) (oi := ({ dst := some 83, op := Op.fieldAddr 77 (Operand.tmp 82) 1, type := 0, pos := "ref.go:119", after := #[{ on := 7, ground := Ground.data }], guard := none } : Oper)) (v := ?_) rfl (by kernel_rfl) (by kernel_rfl) (by kernel_rfl) (fun _ _ _ h => h) (Or.inl ⟨by rfl, ?_⟩) (by assumption) ?_
                      rotate_left 1
                      · (intro u hSw; go_simp; try with_reducible rfl)
                      try simp only [Act.put, List.setIfInBounds_toArray, List.set_cons_zero, List.set_cons_succ]
                      refine wpAnyH_take (i := 9) (oi := ({ dst := some 84, op := Op.load 75 (Operand.tmp 83), type := 75, pos := "ref.go:119", after := #[{ on := 8, ground := Ground.data }], guard := none } : Oper)) (v := ?_) rfl (by kernel_rfl) (by kernel_rfl) (by kernel_rfl) (fun _ _ _ h => h) (Or.inl ⟨by rfl, ?_⟩) (by assumption) ?_
                      rotate_left 1
                      · intro u hSw
                        have h := hSw.2.1
                        go_simp
                        try with_reducible rfl
                      try simp only [Act.put, List.setIfInBounds_toArray, List.set_cons_zero, List.set_cons_succ]
                      refine wpAnyH_take (i := 10) (oi := ({ dst := some 85, op := Op.move (Operand.tmp 8), type := 3, pos := "ref.go:119", after := #[], guard := none } : Oper)) (v := ?_) rfl (by kernel_rfl) (by kernel_rfl) (by kernel_rfl) (fun _ _ _ h => h) (Or.inl ⟨by rfl, ?_⟩) (by assumption) ?_
                      rotate_left 1
                      · (intro u hSw; go_simp; try with_reducible rfl)
                      try simp only [Act.put, List.setIfInBounds_toArray, List.set_cons_zero, List.set_cons_succ]
                      refine wpAnyH_take (i := 11) (oi := ({ dst := some 86, op := Op.move (Operand.tmp 10), type := 3, pos := "ref.go:119", after := #[], guard := none } : Oper)) (v := ?_) rfl (by kernel_rfl) (by kernel_rfl) (by kernel_rfl) (fun _ _ _ h => h) (Or.inl ⟨by rfl, ?_⟩) (by assumption) ?_
                      rotate_left 1
                      · (intro u hSw; go_simp; try with_reducible rfl)
                      try simp only [Act.put, List.setIfInBounds_toArray, List.set_cons_zero, List.set_cons_succ]
                      refine wpAnyH_take (i := 12) (oi := ({ dst := some 87, op := Op.indexAddr 75 (Operand.tmp 84) (Operand.tmp 85), type := 0, pos := "ref.go:119", after := #[{ on := 9, ground := Ground.data }, { on := 10, ground := Ground.data }], guard := none } : Oper)) (v := ?_) rfl (by kernel_rfl) (by kernel_rfl) (by kernel_rfl) (fun _ _ _ h => h) (Or.inl ⟨by rfl, ?_⟩) (by assumption) ?_
                      rotate_left 1
                      · (intro u hSw; go_simp; try with_reducible rfl)
                      try simp only [Act.put, List.setIfInBounds_toArray, List.set_cons_zero, List.set_cons_succ]
                      refine wpAnyH_take (i := 13) (oi := ({ dst := some 88, op := Op.fieldAddr 134 (Operand.tmp 87) 1, type := 0, pos := "ref.go:119", after := #[{ on := 12, ground := Ground.data }], guard := none } : Oper)) (v := ?_) rfl (by kernel_rfl) (by kernel_rfl) (by kernel_rfl) (fun _ _ _ h => h) (Or.inl ⟨by rfl, ?_⟩) (by assumption) ?_
                      rotate_left 1
                      · (intro u hSw; go_simp; try with_reducible rfl)
                      try simp only [Act.put, List.setIfInBounds_toArray, List.set_cons_zero, List.set_cons_succ]
                      refine wpAnyH_take (i := 14) (oi := ({ dst := some 89, op := Op.indexAddr 52 (Operand.tmp 88) (Operand.tmp 86), type := 0, pos := "ref.go:119", after := #[{ on := 13, ground := Ground.data }, { on := 11, ground := Ground.data }], guard := none } : Oper)) (v := ?_) rfl (by kernel_rfl) (by kernel_rfl) (by kernel_rfl) (fun _ _ _ h => h) (Or.inl ⟨by rfl, ?_⟩) (by assumption) ?_
                      rotate_left 1
                      · (intro u hSw; go_simp; try with_reducible rfl)
                      try simp only [Act.put, List.setIfInBounds_toArray, List.set_cons_zero, List.set_cons_succ]
                      refine wpAnyH_take (i := 15) (oi := ({ dst := some 90, op := Op.load 5 (Operand.tmp 89), type := 5, pos := "ref.go:119", after := #[{ on := 14, ground := Ground.data }], guard := none } : Oper)) (v := ?_) rfl (by kernel_rfl) (by kernel_rfl) (by kernel_rfl) (fun _ _ _ h => h) (Or.inl ⟨by rfl, ?_⟩) (by assumption) ?_
                      rotate_left 1
                      · intro u hSw
                        have h := hSw.2.2
                        go_simp
                        try with_reducible rfl
                      try simp only [Act.put, List.setIfInBounds_toArray, List.set_cons_zero, List.set_cons_succ]
                      refine wpAnyH_take (i := 16) (oi := ({ dst := some 91, op := Op.indexAddr 74 (Operand.tmp 78) (Operand.tmp 79), type := 0, pos := "ref.go:119", after := #[{ on := 3, ground := Ground.data }, { on := 4, ground := Ground.data }], guard := none } : Oper)) (v := ?_) rfl (by kernel_rfl) (by kernel_rfl) (by kernel_rfl) (fun _ _ _ h => h) (Or.inl ⟨by rfl, ?_⟩) (by assumption) ?_
                      rotate_left 1
                      · (intro u hSw; go_simp; try with_reducible rfl)
                      try simp only [Act.put, List.setIfInBounds_toArray, List.set_cons_zero, List.set_cons_succ]
                      refine wpAnyH_take (i := 17) (oi := ({ dst := some 92, op := Op.indexAddr 52 (Operand.tmp 91) (Operand.tmp 80), type := 0, pos := "ref.go:119", after := #[{ on := 16, ground := Ground.data }, { on := 5, ground := Ground.data }, { on := 0, ground := Ground.phase }, { on := 1, ground := Ground.phase }, { on := 2, ground := Ground.phase }, { on := 3, ground := Ground.phase }, { on := 4, ground := Ground.phase }, { on := 5, ground := Ground.phase }, { on := 6, ground := Ground.phase }, { on := 7, ground := Ground.phase }, { on := 8, ground := Ground.phase }, { on := 9, ground := Ground.phase }, { on := 10, ground := Ground.phase }, { on := 11, ground := Ground.phase }, { on := 12, ground := Ground.phase }, { on := 13, ground := Ground.phase }, { on := 14, ground := Ground.phase }, { on := 15, ground := Ground.phase }], guard := none } : Oper)) (v := ?_) rfl (by kernel_rfl) (by kernel_rfl) (by kernel_rfl) (fun _ _ _ h => h) (Or.inl ⟨by rfl, ?_⟩) (by assumption) ?_
                      rotate_left 1
                      · (intro u hSw; go_simp; try with_reducible rfl)
                      try simp only [Act.put, List.setIfInBounds_toArray, List.set_cons_zero, List.set_cons_succ]
                      refine wpAnyH_ready (rs := [18]) (by kernel_rfl) (by simp) ?_
                      refine (AllReadyH.cons (o := ({ dst := none, op := Op.store 5 (Operand.tmp 92) (Operand.tmp 90), type := 0, pos := "ref.go:119", after := #[{ on := 17, ground := Ground.data }, { on := 15, ground := Ground.data }, { on := 0, ground := Ground.phase }, { on := 1, ground := Ground.phase }, { on := 2, ground := Ground.phase }, { on := 3, ground := Ground.phase }, { on := 4, ground := Ground.phase }, { on := 5, ground := Ground.phase }, { on := 6, ground := Ground.phase }, { on := 7, ground := Ground.phase }, { on := 8, ground := Ground.phase }, { on := 9, ground := Ground.phase }, { on := 10, ground := Ground.phase }, { on := 11, ground := Ground.phase }, { on := 12, ground := Ground.phase }, { on := 13, ground := Ground.phase }, { on := 14, ground := Ground.phase }, { on := 15, ground := Ground.phase }], guard := none } : Oper)) rfl (fun K hK => ?_) AllReadyH.nil)
                      have hst := HTY.out
                      obtain ⟨oldb, hst⟩ := hst
                      have hsf := HFR.out
                      go_simp
                      refine hK.out _ _ HS2.out (fun hHeld => ?_)
                      clear hK K
                      try simp only [Act.put]
                      refine wpAnyH_done (by kernel_rfl) ?_ _
                      clear hHeld
                      go_wp2_with fail
                      go_roundw
                      case rel => exact ⟨k + 1, by omega, by go_num, HCS2.out, HGS.out⟩
                      case measure => simp [intOf]; omega
                    · have b1 : ((i : Int) == lst) = true := by simpa using z1
                      have b2 : ((i : Int) != lst) = false := by simpa using z1
                      clear z1
                      go_wp2_with fail
                      refine wp_region_held_drew (S := fun u => u.cell? ⟨R, 0, none⟩ = some (.slice (some ⟨gf, 0, none⟩) bs.length fcap) ∧ u.cell? ⟨R, 1, none⟩ = some (.slice (some ⟨g, 0, none⟩) K.length lc) ∧ u.cell? ⟨g, i * 257 + 1 + k, none⟩ = some (.int .u8 y)) (by kernel_rfl) (HS1.out) (fun hHeld => ?_)
                      refine wpAnyH_take (i := 0) (oi := ({ dst := some 75, op := Op.move (Operand.tmp 0), type := 27, pos := "ref.go:119", after := #[], guard := none } : Oper)) (v := ?_) rfl (by kernel_rfl) (by kernel_rfl) (by kernel_rfl) (fun _ _ _ h => h) (Or.inl ⟨by rfl, ?_⟩) (by assumption) ?_
                      rotate_left 1
                      · (intro u hSw; go_simp; try with_reducible rfl)
                      try simp only [Act.put, List.setIfInBounds_toArray, List.set_cons_zero, List.set_cons_succ]
                      refine wpAnyH_take (i := 1) (oi := ({ dst := some 76, op := Op.nilCheck (Operand.tmp 75), type := 0, pos := "ref.go:119", after := #[{ on := 0, ground := Ground.data }], guard := none } : Oper)) (v := ?_) rfl (by kernel_rfl) (by kernel_rfl) (by kernel_rfl) (fun _ _ _ h => h) (Or.inl ⟨by rfl, ?_⟩) (by assumption) ?_
                      rotate_left 1
                      · (intro u hSw; go_simp; try with_reducible rfl)
                      try simp only [Act.put, List.setIfInBounds_toArray, List.set_cons_zero, List.set_cons_succ]
                      refine wpAnyH_take (i := 2) (oi := ({ dst := some 77, op := Op.fieldAddr 77 (Operand.tmp 76) 0, type := 0, pos := "ref.go:119", after := #[{ on := 1, ground := Ground.data }], guard := none } : Oper)) (v := ?_) rfl (by kernel_rfl) (by kernel_rfl) (by kernel_rfl) (fun _ _ _ h => h) (Or.inl ⟨by rfl, ?_⟩) (by assumption) ?_
                      rotate_left 1
                      · (intro u hSw; go_simp; try with_reducible rfl)
                      try simp only [Act.put, List.setIfInBounds_toArray, List.set_cons_zero, List.set_cons_succ]
                      refine wpAnyH_take (i := 3) (oi := ({ dst := some 78, op := Op.load 74 (Operand.tmp 77), type := 74, pos := "ref.go:119", after := #[{ on := 2, ground := Ground.data }], guard := none } : Oper)) (v := ?_) rfl (by kernel_rfl) (by kernel_rfl) (by kernel_rfl) (fun _ _ _ h => h) (Or.inl ⟨by rfl, ?_⟩) (by assumption) ?_
                      rotate_left 1
                      · intro u hSw
                        have h := hSw.1
                        go_simp
                        try with_reducible rfl
                      try simp only [Act.put, List.setIfInBounds_toArray, List.set_cons_zero, List.set_cons_succ]
                      refine wpAnyH_take (i := 4) (oi := ({ dst := some 79, op := Op.move (Operand.tmp 9), type := 3, pos := "ref.go:119", after := #[], guard := none } : Oper)) (v := ?_) rfl (by kernel_rfl) (by kernel_rfl) (by kernel_rfl) (fun _ _ _ h => h) (Or.inl ⟨by rfl, ?_⟩) (by assumption) ?_
                      rotate_left 1
                      · (intro u hSw; go_simp; try with_reducible rfl)
                      try simp only [Act.put, List.setIfInBounds_toArray, List.set_cons_zero, List.set_cons_succ]
                      refine wpAnyH_take (i := 5) (oi := ({ dst := some 80, op := Op.move (Operand.tmp 10), type := 3, pos := "ref.go:119", after := #[], guard := none } : Oper)) (v := ?_) rfl (by kernel_rfl) (by kernel_rfl) (by kernel_rfl) (fun _ _ _ h => h) (Or.inl ⟨by rfl, ?_⟩) (by assumption) ?_
                      rotate_left 1
                      · (intro u hSw; go_simp; try with_reducible rfl)
                      try simp only [Act.put, List.setIfInBounds_toArray, List.set_cons_zero, List.set_cons_succ]
                      refine wpAnyH_take (i := 6) (oi := ({ dst := some 81, op := Op.move (Operand.tmp 0), type := 27, pos := "ref.go:119", after := #[], guard := none } : Oper)) (v := ?_) rfl (by kernel_rfl) (by kernel_rfl) (by kernel_rfl) (fun _ _ _ h => h) (Or.inl ⟨by rfl, ?_⟩) (by assumption) ?_
                      rotate_left 1
                      · (intro u hSw; go_simp; try with_reducible rfl)
                      try simp only [Act.put, List.setIfInBounds_toArray, List.set_cons_zero, List.set_cons_succ]
                      refine wpAnyH_take (i := 7) (oi := ({ dst := some 82, op := Op.nilCheck (Operand.tmp 81), type := 0, pos := "ref.go:119", after := #[{ on := 6, ground := Ground.data }], guard := none } : Oper)) (v := ?_) rfl (by kernel_rfl) (by kernel_rfl) (by kernel_rfl) (fun _ _ _ h => h) (Or.inl ⟨by rfl, ?_⟩) (by assumption) ?_
                      rotate_left 1
                      · (intro u hSw; go_simp; try with_reducible rfl)
                      try simp only [Act.put, List.setIfInBounds_toArray, List.set_cons_zero, List.set_cons_succ]
                      refine wpAnyH_take (i := 8) (oi := ({ dst := some 83, op := Op.fieldAddr 77 (Operand.tmp 82) 1, type := 0, pos := "ref.go:119", after := #[{ on := 7, ground := Ground.data }], guard := none } : Oper)) (v := ?_) rfl (by kernel_rfl) (by kernel_rfl) (by kernel_rfl) (fun _ _ _ h => h) (Or.inl ⟨by rfl, ?_⟩) (by assumption) ?_
                      rotate_left 1
                      · (intro u hSw; go_simp; try with_reducible rfl)
                      try simp only [Act.put, List.setIfInBounds_toArray, List.set_cons_zero, List.set_cons_succ]
                      refine wpAnyH_take (i := 9) (oi := ({ dst := some 84, op := Op.load 75 (Operand.tmp 83), type := 75, pos := "ref.go:119", after := #[{ on := 8, ground := Ground.data }], guard := none } : Oper)) (v := ?_) rfl (by kernel_rfl) (by kernel_rfl) (by kernel_rfl) (fun _ _ _ h => h) (Or.inl ⟨by rfl, ?_⟩) (by assumption) ?_
                      rotate_left 1
                      · intro u hSw
                        have h := hSw.2.1
                        go_simp
                        try with_reducible rfl
                      try simp only [Act.put, List.setIfInBounds_toArray, List.set_cons_zero, List.set_cons_succ]
                      refine wpAnyH_take (i := 10) (oi := ({ dst := some 85, op := Op.move (Operand.tmp 8), type := 3, pos := "ref.go:119", after := #[], guard := none } : Oper)) (v := ?_) rfl (by kernel_rfl) (by kernel_rfl) (by kernel_rfl) (fun _ _ _ h => h) (Or.inl ⟨by rfl, ?_⟩) (by assumption) ?_
                      rotate_left 1
                      · (intro u hSw; go_simp; try with_reducible rfl)
                      try simp only [Act.put, List.setIfInBounds_toArray, List.set_cons_zero, List.set_cons_succ]
                      refine wpAnyH_take (i := 11) (oi := ({ dst := some 86, op := Op.move (Operand.tmp 10), type := 3, pos := "ref.go:119", after := #[], guard := none } : Oper)) (v := ?_) rfl (by kernel_rfl) (by kernel_rfl) (by kernel_rfl) (fun _ _ _ h => h) (Or.inl ⟨by rfl, ?_⟩) (by assumption) ?_
                      rotate_left 1
                      · (intro u hSw; go_simp; try with_reducible rfl)
                      try simp only [Act.put, List.setIfInBounds_toArray, List.set_cons_zero, List.set_cons_succ]
                      refine wpAnyH_take (i := 12) (oi := ({ dst := some 87, op := Op.indexAddr 75 (Operand.tmp 84) (Operand.tmp 85), type := 0, pos := "ref.go:119", after := #[{ on := 9, ground := Ground.data }, { on := 10, ground := Ground.data }], guard := none } : Oper)) (v := ?_) rfl (by kernel_rfl) (by kernel_rfl) (by kernel_rfl) (fun _ _ _ h => h) (Or.inl ⟨by rfl, ?_⟩) (by assumption) ?_
                      rotate_left 1
                      · (intro u hSw; go_simp; try with_reducible rfl)
                      try simp only [Act.put, List.setIfInBounds_toArray, List.set_cons_zero, List.set_cons_succ]
                      refine wpAnyH_take (i := 13) (oi := ({ dst := some 88, op := Op.fieldAddr 134 (Operand.tmp 87) 1, type := 0, pos := "ref.go:119", after := #[{ on := 12, ground := Ground.data }], guard := none } : Oper)) (v := ?_) rfl (by kernel_rfl) (by kernel_rfl) (by kernel_rfl) (fun _ _ _ h => h) (Or.inl ⟨by rfl, ?_⟩) (by assumption) ?_
                      rotate_left 1
                      · (intro u hSw; go_simp; try with_reducible rfl)
                      try simp only [Act.put, List.setIfInBounds_toArray, List.set_cons_zero, List.set_cons_succ]
                      refine wpAnyH_take (i := 14) (oi := ({ dst := some 89, op := Op.indexAddr 52 (Operand.tmp 88) (Operand.tmp 86), type := 0, pos := "ref.go:119", after := #[{ on := 13, ground := Ground.data }, { on := 11, ground := Ground.data }], guard := none } : Oper)) (v := ?_) rfl (by kernel_rfl) (by kernel_rfl) (by kernel_rfl) (fun _ _ _ h => h) (Or.inl ⟨by rfl, ?_⟩) (by assumption) ?_
                      rotate_left 1
                      · (intro u hSw; go_simp; try with_reducible rfl)
                      try simp only [Act.put, List.setIfInBounds_toArray, List.set_cons_zero, List.set_cons_succ]
                      refine wpAnyH_take (i := 15) (oi := ({ dst := some 90, op := Op.load 5 (Operand.tmp 89), type := 5, pos := "ref.go:119", after := #[{ on := 14, ground := Ground.data }], guard := none } : Oper)) (v := ?_) rfl (by kernel_rfl) (by kernel_rfl) (by kernel_rfl) (fun _ _ _ h => h) (Or.inl ⟨by rfl, ?_⟩) (by assumption) ?_
                      rotate_left 1
                      · intro u hSw
                        have h := hSw.2.2
                        go_simp
                        try with_reducible rfl
                      try simp only [Act.put, List.setIfInBounds_toArray, List.set_cons_zero, List.set_cons_succ]
                      refine wpAnyH_take (i := 16) (oi := ({ dst := some 91, op := Op.indexAddr 74 (Operand.tmp 78) (Operand.tmp 79), type := 0, pos := "ref.go:119", after := #[{ on := 3, ground := Ground.data }, { on := 4, ground := Ground.data }], guard := none } : Oper)) (v := ?_) rfl (by kernel_rfl) (by kernel_rfl) (by kernel_rfl) (fun _ _ _ h => h) (Or.inl ⟨by rfl, ?_⟩) (by assumption) ?_
                      rotate_left 1
                      · (intro u hSw; go_simp; try with_reducible rfl)
                      try simp only [Act.put, List.setIfInBounds_toArray, List.set_cons_zero, List.set_cons_succ]
                      refine wpAnyH_take (i := 17) (oi := ({ dst := some 92, op := Op.indexAddr 52 (Operand.tmp 91) (Operand.tmp 80), type := 0, pos := "ref.go:119", after := #[{ on := 16, ground := Ground.data }, { on := 5, ground := Ground.data }, { on := 0, ground := Ground.phase }, { on := 1, ground := Ground.phase }, { on := 2, ground := Ground.phase }, { on := 3, ground := Ground.phase }, { on := 4, ground := Ground.phase }, { on := 5, ground := Ground.phase }, { on := 6, ground := Ground.phase }, { on := 7, ground := Ground.phase }, { on := 8, ground := Ground.phase }, { on := 9, ground := Ground.phase }, { on := 10, ground := Ground.phase }, { on := 11, ground := Ground.phase }, { on := 12, ground := Ground.phase }, { on := 13, ground := Ground.phase }, { on := 14, ground := Ground.phase }, { on := 15, ground := Ground.phase }], guard := none } : Oper)) (v := ?_) rfl (by kernel_rfl) (by kernel_rfl) (by kernel_rfl) (fun _ _ _ h => h) (Or.inl ⟨by rfl, ?_⟩) (by assumption) ?_
                      rotate_left 1
                      · (intro u hSw; go_simp; try with_reducible rfl)
                      try simp only [Act.put, List.setIfInBounds_toArray, List.set_cons_zero, List.set_cons_succ]
                      refine wpAnyH_ready (rs := [18]) (by kernel_rfl) (by simp) ?_
                      refine (AllReadyH.cons (o := ({ dst := none, op := Op.store 5 (Operand.tmp 92) (Operand.tmp 90), type := 0, pos := "ref.go:119", after := #[{ on := 17, ground := Ground.data }, { on := 15, ground := Ground.data }, { on := 0, ground := Ground.phase }, { on := 1, ground := Ground.phase }, { on := 2, ground := Ground.phase }, { on := 3, ground := Ground.phase }, { on := 4, ground := Ground.phase }, { on := 5, ground := Ground.phase }, { on := 6, ground := Ground.phase }, { on := 7, ground := Ground.phase }, { on := 8, ground := Ground.phase }, { on := 9, ground := Ground.phase }, { on := 10, ground := Ground.phase }, { on := 11, ground := Ground.phase }, { on := 12, ground := Ground.phase }, { on := 13, ground := Ground.phase }, { on := 14, ground := Ground.phase }, { on := 15, ground := Ground.phase }], guard := none } : Oper)) rfl (fun K hK => ?_) AllReadyH.nil)
                      have hst := HTY.out
                      obtain ⟨oldb, hst⟩ := hst
                      have hsf := HFR.out
                      go_simp
                      refine hK.out _ _ HS2.out (fun hHeld => ?_)
                      clear hK K
                      try simp only [Act.put]
                      refine wpAnyH_done (by kernel_rfl) ?_ _
                      clear hHeld
                      go_wp2_with fail
                      go_roundw
                      case rel => exact ⟨k + 1, by omega, by go_num, HCS2.out, HGS.out⟩
                      case measure => simp [intOf]; omega
                    · have b1 : ((i : Int) == lst) = true := by simpa using z1
                      have b2 : ((i : Int) != lst) = false := by simpa using z1
                      clear z1
                      go_wp2_with fail
                      refine wp_region_held_drew (S := fun u => u.cell? ⟨R, 0, none⟩ = some (.slice (some ⟨gf, 0, none⟩) bs.length fcap) ∧ u.cell? ⟨R, 1, none⟩ = some (.slice (some ⟨g, 0, none⟩) K.length lc) ∧ u.cell? ⟨g, i * 257 + 1 + k, none⟩ = some (.int .u8 y)) (by kernel_rfl) (HS1.out) (fun hHeld => ?_)
                      refine wpAnyH_take (i := 0) (oi := ({ dst := some 75, op := Op.move (Operand.tmp 0), type := 27, pos := "ref.go:119", after := #[], guard := none } : Oper)) (v := ?_) rfl (by kernel_rfl) (by kernel_rfl) (by kernel_rfl) (fun _ _ _ h => h) (Or.inl ⟨by rfl, ?_⟩) (by assumption) ?_
                      rotate_left 1
                      · (intro u hSw; go_simp; try with_reducible rfl)
                      try simp only [Act.put, List.setIfInBounds_toArray, List.set_cons_zero, List.set_cons_succ]
                      refine wpAnyH_take (i := 1) (oi := ({ dst := some 76, op := Op.nilCheck (Operand.tmp 75), type := 0, pos := "ref.go:119", after := #[{ on := 0, ground := Ground.data }], guard := none } : Oper)) (v := ?_) rfl (by kernel_rfl) (by kernel_rfl) (by kernel_rfl) (fun _ _ _ h => h) (Or.inl ⟨by rfl, ?_⟩) (by assumption) ?_
                      rotate_left 1
                      · (intro u hSw; go_simp; try with_reducible rfl)
                      try simp only [Act.put, List.setIfInBounds_toArray, List.set_cons_zero, List.set_cons_succ]
                      refine wpAnyH_take (i := 2) (oi := ({ dst := some 77, op := Op.fieldAddr 77 (Operand.tmp 76) 0, type := 0, pos := "ref.go:119", after := #[{ on := 1, ground := Ground.data }], guard := none } : Oper)) (v := ?_) rfl (by kernel_rfl) (by kernel_rfl) (by kernel_rfl) (fun _ _ _ h => h) (Or.inl ⟨by rfl, ?_⟩) (by assumption) ?_
                      rotate_left 1
                      · (intro u hSw; go_simp; try with_reducible rfl)
                      try simp only [Act.put, List.setIfInBounds_toArray, List.set_cons_zero, List.set_cons_succ]
                      refine wpAnyH_take (i := 3) (oi := ({ dst := some 78, op := Op.load 74 (Operand.tmp 77), type := 74, pos := "ref.go:119", after := #[{ on := 2, ground := Ground.data }], guard := none } : Oper)) (v := ?_) rfl (by kernel_rfl) (by kernel_rfl) (by kernel_rfl) (fun _ _ _ h => h) (Or.inl ⟨by rfl, ?_⟩) (by assumption) ?_
                      rotate_left 1
                      · intro u hSw
                        have h := hSw.1
                        go_simp
                        try with_reducible rfl
                      try simp only [Act.put, List.setIfInBounds_toArray, List.set_cons_zero, List.set_cons_succ]
                      refine wpAnyH_take (i := 4) (oi := ({ dst := some 79, op := Op.move (Operand.tmp 9), type := 3, pos := "ref.go:119", after := #[], guard := none } : Oper)) (v := ?_) rfl (by kernel_rfl) (by kernel_rfl) (by kernel_rfl) (fun _ _ _ h => h) (Or.inl ⟨by rfl, ?_⟩) (by assumption) ?_
                      rotate_left 1
                      · (intro u hSw; go_simp; try with_reducible rfl)
                      try simp only [Act.put, List.setIfInBounds_toArray, List.set_cons_zero, List.set_cons_succ]
                      refine wpAnyH_take (i := 5) (oi := ({ dst := some 80, op := Op.move (Operand.tmp 10), type := 3, pos := "ref.go:119", after := #[], guard := none } : Oper)) (v := ?_) rfl (by kernel_rfl) (by kernel_rfl) (by kernel_rfl) (fun _ _ _ h => h) (Or.inl ⟨by rfl, ?_⟩) (by assumption) ?_
                      rotate_left 1
                      · (intro u hSw; go_simp; try with_reducible rfl)
                      try simp only [Act.put, List.setIfInBounds_toArray, List.set_cons_zero, List.set_cons_succ]
                      refine wpAnyH_take (i := 6) (oi := ({ dst := some 81, op := Op.move (Operand.tmp 0), type := 27, pos := "ref.go:119", after := #[], guard := none } : Oper)) (v := ?_) rfl (by kernel_rfl) (by kernel_rfl) (by kernel_rfl) (fun _ _ _ h => h) (Or.inl ⟨by rfl, ?_⟩) (by assumption) ?_
                      rotate_left 1
                      · (intro u hSw; go_simp; try with_reducible rfl)
                      try simp only [Act.put, List.setIfInBounds_toArray, List.set_cons_zero, List.set_cons_succ]
                      refine wpAnyH_take (i := 7) (oi := ({ dst := some 82, op := Op.nilCheck (Operand.tmp 81), type := 0, pos := "ref.go:119", after := #[{ on := 6, ground := Ground.data }], guard := none } : Oper)) (v := ?_) rfl (by kernel_rfl) (by kernel_rfl) (by kernel_rfl) (fun _ _ _ h => h) (Or.inl ⟨by rfl, ?_⟩) (by assumption) ?_
                      rotate_left 1
                      · (intro u hSw; go_simp; try with_reducible rfl)
                      try simp only [Act.put, List.setIfInBounds_toArray, List.set_cons_zero, List.set_cons_succ]
                      refine wpAnyH_take (i := 8) (oi := ({ dst := some 83, op := Op.fieldAddr 77 (Operand.tmp 82) 1, type := 0, pos := "ref.go:119", after := #[{ on := 7, ground := Ground.data }], guard := none } : Oper)) (v := ?_) rfl (by kernel_rfl) (by kernel_rfl) (by kernel_rfl) (fun _ _ _ h => h) (Or.inl ⟨by rfl, ?_⟩) (by assumption) ?_
                      rotate_left 1
                      · (intro u hSw; go_simp; try with_reducible rfl)
                      try simp only [Act.put, List.setIfInBounds_toArray, List.set_cons_zero, List.set_cons_succ]
                      refine wpAnyH_take (i := 9) (oi := ({ dst := some 84, op := Op.load 75 (Operand.tmp 83), type := 75, pos := "ref.go:119", after := #[{ on := 8, ground := Ground.data }], guard := none } : Oper)) (v := ?_) rfl (by kernel_rfl) (by kernel_rfl) (by kernel_rfl) (fun _ _ _ h => h) (Or.inl ⟨by rfl, ?_⟩) (by assumption) ?_
                      rotate_left 1
                      · intro u hSw
                        have h := hSw.2.1
                        go_simp
                        try with_reducible rfl
                      try simp only [Act.put, List.setIfInBounds_toArray, List.set_cons_zero, List.set_cons_succ]
                      refine wpAnyH_take (i := 10) (oi := ({ dst := some 85, op := Op.move (Operand.tmp 8), type := 3, pos := "ref.go:119", after := #[], guard := none } : Oper)) (v := ?_) rfl (by kernel_rfl) (by kernel_rfl) (by kernel_rfl) (fun _ _ _ h => h) (Or.inl ⟨by rfl, ?_⟩) (by assumption) ?_
                      rotate_left 1
                      · (intro u hSw; go_simp; try with_reducible rfl)
                      try simp only [Act.put, List.setIfInBounds_toArray, List.set_cons_zero, List.set_cons_succ]
                      refine wpAnyH_take (i := 11) (oi := ({ dst := some 86, op := Op.move (Operand.tmp 10), type := 3, pos := "ref.go:119", after := #[], guard := none } : Oper)) (v := ?_) rfl (by kernel_rfl) (by kernel_rfl) (by kernel_rfl) (fun _ _ _ h => h) (Or.inl ⟨by rfl, ?_⟩) (by assumption) ?_
                      rotate_left 1
                      · (intro u hSw; go_simp; try with_reducible rfl)
                      try simp only [Act.put, List.setIfInBounds_toArray, List.set_cons_zero, List.set_cons_succ]
                      refine wpAnyH_take (i := 12) (oi := ({ dst := some 87, op := Op.indexAddr 75 (Operand.tmp 84) (Operand.tmp 85), type := 0, pos := "ref.go:119", after := #[{ on := 9, ground := Ground.data }, { on := 10, ground := Ground.data }], guard := none } : Oper)) (v := ?_) rfl (by kernel_rfl) (by kernel_rfl) (by kernel_rfl) (fun _ _ _ h => h) (Or.inl ⟨by rfl, ?_⟩) (by assumption) ?_
                      rotate_left 1
                      · (intro u hSw; go_simp; try with_reducible rfl)
                      try simp only [Act.put, List.setIfInBounds_toArray, List.set_cons_zero, List.set_cons_succ]
                      refine wpAnyH_take (i := 13) (oi := ({ dst := some 88, op := Op.fieldAddr 134 (Operand.tmp 87) 1, type := 0, pos := "ref.go:119", after := #[{ on := 12, ground := Ground.data }], guard := none } : Oper)) (v := ?_) rfl (by kernel_rfl) (by kernel_rfl) (by kernel_rfl) (fun _ _ _ h => h) (Or.inl ⟨by rfl, ?_⟩) (by assumption) ?_
                      rotate_left 1
                      · (intro u hSw; go_simp; try with_reducible rfl)
                      try simp only [Act.put, List.setIfInBounds_toArray, List.set_cons_zero, List.set_cons_succ]
                      refine wpAnyH_take (i := 14) (oi := ({ dst := some 89, op := Op.indexAddr 52 (Operand.tmp 88) (Operand.tmp 86), type := 0, pos := "ref.go:119", after := #[{ on := 13, ground := Ground.data }, { on := 11, ground := Ground.data }], guard := none } : Oper)) (v := ?_) rfl (by kernel_rfl) (by kernel_rfl) (by kernel_rfl) (fun _ _ _ h => h) (Or.inl ⟨by rfl, ?_⟩) (by assumption) ?_
                      rotate_left 1
                      · (intro u hSw; go_simp; try with_reducible rfl)
                      try simp only [Act.put, List.setIfInBounds_toArray, List.set_cons_zero, List.set_cons_succ]
                      refine wpAnyH_take (i := 15) (oi := ({ dst := some 90, op := Op.load 5 (Operand.tmp 89), type := 5, pos := "ref.go:119", after := #[{ on := 14, ground := Ground.data }], guard := none } : Oper)) (v := ?_) rfl (by kernel_rfl) (by kernel_rfl) (by kernel_rfl) (fun _ _ _ h => h) (Or.inl ⟨by rfl, ?_⟩) (by assumption) ?_
                      rotate_left 1
                      · intro u hSw
                        have h := hSw.2.2
                        go_simp
                        try with_reducible rfl
                      try simp only [Act.put, List.setIfInBounds_toArray, List.set_cons_zero, List.set_cons_succ]
                      refine wpAnyH_take (i := 16) (oi := ({ dst := some 91, op := Op.indexAddr 74 (Operand.tmp 78) (Operand.tmp 79), type := 0, pos := "ref.go:119", after := #[{ on := 3, ground := Ground.data }, { on := 4, ground := Ground.data }], guard := none } : Oper)) (v := ?_) rfl (by kernel_rfl) (by kernel_rfl) (by kernel_rfl) (fun _ _ _ h => h) (Or.inl ⟨by rfl, ?_⟩) (by assumption) ?_
                      rotate_left 1
                      · (intro u hSw; go_simp; try with_reducible rfl)
                      try simp only [Act.put, List.setIfInBounds_toArray, List.set_cons_zero, List.set_cons_succ]
                      refine wpAnyH_take (i := 17) (oi := ({ dst := some 92, op := Op.indexAddr 52 (Operand.tmp 91) (Operand.tmp 80), type := 0, pos := "ref.go:119", after := #[{ on := 16, ground := Ground.data }, { on := 5, ground := Ground.data }, { on := 0, ground := Ground.phase }, { on := 1, ground := Ground.phase }, { on := 2, ground := Ground.phase }, { on := 3, ground := Ground.phase }, { on := 4, ground := Ground.phase }, { on := 5, ground := Ground.phase }, { on := 6, ground := Ground.phase }, { on := 7, ground := Ground.phase }, { on := 8, ground := Ground.phase }, { on := 9, ground := Ground.phase }, { on := 10, ground := Ground.phase }, { on := 11, ground := Ground.phase }, { on := 12, ground := Ground.phase }, { on := 13, ground := Ground.phase }, { on := 14, ground := Ground.phase }, { on := 15, ground := Ground.phase }], guard := none } : Oper)) (v := ?_) rfl (by kernel_rfl) (by kernel_rfl) (by kernel_rfl) (fun _ _ _ h => h) (Or.inl ⟨by rfl, ?_⟩) (by assumption) ?_
                      rotate_left 1
                      · (intro u hSw; go_simp; try with_reducible rfl)
                      try simp only [Act.put, List.setIfInBounds_toArray, List.set_cons_zero, List.set_cons_succ]
                      refine wpAnyH_ready (rs := [18]) (by kernel_rfl) (by simp) ?_
                      refine (AllReadyH.cons (o := ({ dst := none, op := Op.store 5 (Operand.tmp 92) (Operand.tmp 90), type := 0, pos := "ref.go:119", after := #[{ on := 17, ground := Ground.data }, { on := 15, ground := Ground.data }, { on := 0, ground := Ground.phase }, { on := 1, ground := Ground.phase }, { on := 2, ground := Ground.phase }, { on := 3, ground := Ground.phase }, { on := 4, ground := Ground.phase }, { on := 5, ground := Ground.phase }, { on := 6, ground := Ground.phase }, { on := 7, ground := Ground.phase }, { on := 8, ground := Ground.phase }, { on := 9, ground := Ground.phase }, { on := 10, ground := Ground.phase }, { on := 11, ground := Ground.phase }, { on := 12, ground := Ground.phase }, { on := 13, ground := Ground.phase }, { on := 14, ground := Ground.phase }, { on := 15, ground := Ground.phase }], guard := none } : Oper)) rfl (fun K hK => ?_) AllReadyH.nil)
                      have hst := HTY.out
                      obtain ⟨oldb, hst⟩ := hst
                      have hsf := HFR.out
                      go_simp
                      refine hK.out _ _ HS2.out (fun hHeld => ?_)
                      clear hK K
                      try simp only [Act.put]
                      refine wpAnyH_done (by kernel_rfl) ?_ _
                      clear hHeld
                      go_wp2_with fail
                      go_roundw
                      case rel => exact ⟨k + 1, by omega, by go_num, HCS2.out, HGS.out⟩
                      case measure => simp [intOf]; omega
                · have hk3 : k = 256 := by omega
                  subst hk3
                  have hme := mix_end xb old i lst t HXL.out HOL.out
                  rw [← HCC.out] at hme
                  rw [hme] at HBS
                  go_wp2_with fail
                  go_roundw
                  case rel => exact ⟨i + 1, by omega, by go_num, HCS.out, by rw [HSTEP.out, if_pos trivial]; exact HBS.out⟩
                  case measure => simp [intOf]; omega
          · have him3 : i = m := by omega
            subst him3
            have HDR := Lib.hid (show RefIs wr R _ from (HCR.out.block R hRlt hne).trans HD.out)
            have f1' := HDR.out.frozen 1
            have f3' := HDR.out.frozen 3
            have f4' := HDR.out.frozen 4
            have c3' : wr.cell? ⟨R, 3, none⟩ = some (.int .i64 fz) := HDR.out.cell 3
            have c4' : wr.cell? ⟨R, 4, none⟩ = some (.bool off) := HDR.out.cell 4
            go_wp2_with fail
            go_end0
            refine ⟨rfl, ((HDR.out.set 1 (.slice none 0 0)).set 4 (.bool false)).set 3 (.int .i64 (-1)), ?_, ?_⟩
            · rw [← HM.out, ← HLST.out]
              exact HBR.out.of ((Below.heap_setCell _ _ _ _ (fun e => hne e.symm)).trans ((Below.heap_setCell _ _ _ _ (fun e => hne e.symm)).trans (Below.heap_setCell _ _ _ _ (fun e => hne e.symm)))) (by simp; exact HBR.out.2.2.1)
            · exact (((HCR.out.mono (fun i hi => .inr hi)).setCell ⟨R, 1, none⟩ _ (.inl (.inl rfl))).setCell ⟨R, 4, none⟩ _ (.inl (.inl rfl))).setCell ⟨R, 3, none⟩ _ (.inl (.inl rfl))
end Go.Proofs.Ytaibminomehppaa
