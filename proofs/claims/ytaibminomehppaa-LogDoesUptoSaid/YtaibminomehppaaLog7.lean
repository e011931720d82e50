import Derived.Test.YtaibminomehppaaLog6
import Derived.WalkKit
import Derived.ProofKit
import Derived.BigQuiet
import Derived.Deep.QuietTactic
import Derived.WalkSpells
import Derived.WalkLawsBesides
import Derived.Lib.Hide
import Derived.Deep.MidRow
import Derived.Deep.RegionLaw
import Derived.BigRegion
import Derived.Laws.AppendOwnNone
import Derived.Deep.DeepMust
import Derived.Deep.AppendLies
import Derived.RegionTactic
import Derived.Deep.WholeRow
import Derived.BigFrame
import Derived.Deep.RegionWith
import Derived.Deep.RegionHeld3
import Derived.Maps.RangeWalk
import Derived.Laws.CopyOwn
import Derived.StillTailTactics

namespace Go.Proofs.Ytaibminomehppaa
open Go.RowKit
/-- k blocks from one on -/
def arB (f : Int → List Int) (b : Int) : Nat → List Int
  | 0 => []
  | k + 1 => arB f b k ++ f (b + k)
theorem arB_len (f : Int → List Int) (b : Int) (hf : ∀ n, (f n).length = 256) : ∀ k, (arB f b k).length = 256 * k
  | 0 => rfl
  | k + 1 => by rw [arB, List.length_append, arB_len f b hf k, hf]; omega
theorem arB_rng (f : Int → List Int) (b : Int) (hf : ∀ n, Rng (f n)) : ∀ k, Rng (arB f b k)
  | 0 => fun x hx => by cases hx
  | k + 1 => rng_append (arB_rng f b hf k) (hf _)
theorem arB_take (f : Int → List Int) (b : Int) (hf : ∀ n, (f n).length = 256) (k : Nat) : ∀ j n, n ≤ 256 * k → (arB f b (k + j)).take n = (arB f b k).take n
  | 0, n, _ => rfl
  | j + 1, n, h => by rw [← Nat.add_assoc, arB, List.take_append_of_le_length (by rw [arB_len f b hf]; omega), arB_take f b hf k j n h]
/-- the first bytes of blocks -/
def areaB (f : Int → List Int) (b : Int) (n : Nat) : List Int := (arB f b n).take n
theorem areaB_eq (f : Int → List Int) (b : Int) (hf : ∀ n, (f n).length = 256) (k n : Nat) (h : n ≤ 256 * k) : (arB f b k).take n = areaB f b n := by
  unfold areaB
  rcases Nat.le_total k n with h1 | h1
  · obtain ⟨j, rfl⟩ := Nat.exists_eq_add_of_le h1
    exact (arB_take f b hf k j _ (by omega)).symm
  · obtain ⟨j, rfl⟩ := Nat.exists_eq_add_of_le h1
    exact arB_take f b hf n j _ (by omega)
theorem areaB_len (f : Int → List Int) (b : Int) (hf : ∀ n, (f n).length = 256) (n : Nat) : (areaB f b n).length = n := by
  rw [areaB, List.length_take, arB_len f b hf]; omega
theorem arB_step (f : Int → List Int) (b : Int) (hf : ∀ n, (f n).length = 256) (k n m : Nat) (h : 256 * k < n) (hm : m = min (n - 256 * k) 256) : (arB f b k).take n ++ (f (b + k)).take m = (arB f b (k + 1)).take n := by
  have hl := arB_len f b hf k
  rw [arB, List.take_append, hl, List.take_of_length_le (by rw [hl]; omega)]
  congr 1
  have hl2 := hf (b + k)
  rcases Nat.le_total (n - 256 * k) 256 with h1 | h1
  · rw [hm, Nat.min_eq_left h1]
  · rw [hm, Nat.min_eq_right h1, List.take_of_length_le (by omega), List.take_of_length_le (by omega)]
theorem bs_top {w : World} {X : Nat} {l : List Int} {T : TypeId} (hX : w.heap[X]? = some (.cells (ArrU8 l) T (0, 0))) (m : Nat) (c : Nat) (hm : m ≤ l.length) (hc : m ≤ c) : Bs w (.slice (some ⟨X, 0, none⟩) m c) (l.take m) := by
  have hlen : (l.take m).length = m := by rw [List.length_take]; omega
  refine ⟨some ⟨X, 0, none⟩, c, by rw [hlen], ⟨by rw [hlen]; exact hc, fun e => by cases e⟩, fun hl => ⟨X, 0, rfl, (Array.getElem?_eq_some_iff.1 hX).1, fun i hi => ?_⟩⟩
  rw [cell_of_row _ _ _ _ _ _ hX]
  have hi2 : i < l.length := by omega
  have hi3 : i < m := by omega
  unfold ArrU8
  simp [hi2, hi3]
theorem own_lower {w : World} {B B' : Nat} {v : Value} {l : List Int} (h : Own w B' v l) (hB : B ≤ B') : Own w B v l :=
  ⟨h.1, h.2.imp id (fun ⟨g, cap, cur, a, b, c⟩ => ⟨g, cap, cur, a, Nat.le_trans hB b, c⟩)⟩
set_option maxRecDepth 100000 in
set_option maxHeartbeats 4000000 in
theorem readArea_any (B D M : Nat) (nb rm fz fi sz : Int) (f : Int → List Int) (L : List WR) (lv : Value) (en : Nat) (w : World) (h : Dk w B D M nb rm fz false f L lv) (h1 : 0 ≤ fi) (h2 : fi + sz ≤ nb) (h3 : 3 ≤ sz) (hnb : nb ≤ 4096) (hen : (en : Int) ≤ (sz - 2) * 256) :
    Calls Try.prog 78 #[.agg #[Value.pointer (some ⟨D, 0, none⟩), .int .i64 fi, .int .i64 sz], .int .i64 (en : Int)] w fun e w' => ∃ v, e = .returned (.tuple #[v, .int .i64 0]) ∧ Own w' w.heap.size v (areaB f (fi + 2) en) ∧ Below w.heap.size w w' := by
  have hz35 := zero35
  have HI35 := Lib.hid (show (Try.prog.info? 52).map (·.size) = some 256 by kernel_rfl)
  have SZ := Lib.hid (show (ArrU8 (zeros 256)).size = 256 by rw [ArrU8_size, zeros, List.length_replicate])
  have HFL := Lib.hid h.2.2.2.2.2.2.1
  have hb1 : Below w.heap.size w (w.alloc (.cells #[Value.pointer (some ⟨D, 0, none⟩), .int .i64 fi, .int .i64 sz] 79)) := (Below.refl _ _).alloc (Nat.le_refl _) _
  have HB1 := Lib.hid hb1
  have HX0 := Lib.hid (heap_alloc_new w (.cells #[Value.pointer (some ⟨D, 0, none⟩), .int .i64 fi, .int .i64 sz] 79))
  have HD1 := Lib.hid (h.chg (Chg.fresh (F := fun _ => False) hb1) (fun _ _ h => h))
  have HFT := Lib.hid (show ∀ k, Foot D M lv k → k < w.heap.size from fun k hk => (h.foot k hk).2)
  have HS1 := Lib.hid (show (w.alloc (.cells #[Value.pointer (some ⟨D, 0, none⟩), .int .i64 fi, .int .i64 sz] 79)).heap.size = w.heap.size + 1 by simp)
  have HL1 := Lib.hid (show w.heap.size < (w.alloc (.cells #[Value.pointer (some ⟨D, 0, none⟩), .int .i64 fi, .int .i64 sz] 79)).heap.size by simp)
  have HGB := Lib.hid (show 1 ≤ sz - 2 ∧ (en : Int) ≤ 1048576 by omega)
  clear hb1 h
  go_enter Try.func78, Try.ntmps78
  go_wp2_with fail
  generalize w.alloc (.cells #[Value.pointer (some ⟨D, 0, none⟩), .int .i64 fi, .int .i64 sz] 79) = w1 at *
  go_loopw [6, 7] (fun rv iv wr => ∃ k : Nat, iv = .int .i64 ((k : Int) + 2) ∧ (0 < k → 256 * (k - 1) < en) ∧ Own wr (w.heap.size + 1) rv ((arB f (fi + 2) k).take en) ∧ Below (w.heap.size + 1) w1 wr) (fun _ iv _ => (en + 3 - (intOf iv).toNat))
  case atStart => exact ⟨0, rfl, fun h => by omega, by rw [show (arB f (fi + 2) 0).take en = [] from by simp [arB]]; exact Own.nil _ _, Below.refl _ _⟩
  case round =>
    obtain ⟨k, rfl, hk, ho, hb⟩ := hrel
    have HK := Lib.hid hk
    have HO := Lib.hid ho
    have HB := Lib.hid hb
    have hlen : ((arB f (fi + 2) k).take en).length = min en (256 * k) := by rw [List.length_take, arB_len _ _ HFL.out]
    obtain ⟨ra, rc, hrv⟩ : ∃ ra rc, u6 = .slice ra (min en (256 * k)) rc := by
      obtain ⟨a, c, h, _⟩ := ho.bs
      exact ⟨a, c, by rw [← hlen]; exact h⟩
    subst hrv
    clear hk ho hb
    by_cases hlt : 256 * k < en
    · have hmn : min en (256 * k) = 256 * k := by omega
      rw [hmn] at HO ⊢
      have HLEN := Lib.hid (show ((arB f (fi + 2) k).take en).length = 256 * k by rw [hlen, hmn])
      clear hlen hmn
      have HXW := Lib.hid ((HB.out.block _ (by omega)).trans HX0.out)
      have HDW := Lib.hid (HD1.out.chg (F := fun k => w.heap.size + 1 ≤ k) ⟨HB.out.os, HB.out.tape, HB.out.output, HB.out.size, fun k hk hn => HB.out.block k (by omega)⟩ (fun k hk e => by have := HFT.out k hk; omega))
      have b0 := (cell_of_row _ (w.heap.size) 0 _ _ _ HXW.out).trans (show (#[Value.pointer (some ⟨D, 0, none⟩), .int .i64 fi, .int .i64 sz] : Array Value)[0]? = some (.pointer (some ⟨D, 0, none⟩)) from rfl)
      have b1 := (cell_of_row _ (w.heap.size) 1 _ _ _ HXW.out).trans (show (#[Value.pointer (some ⟨D, 0, none⟩), .int .i64 fi, .int .i64 sz] : Array Value)[1]? = some (.int .i64 fi) from rfl)
      have b2 := (cell_of_row _ (w.heap.size) 2 _ _ _ HXW.out).trans (show (#[Value.pointer (some ⟨D, 0, none⟩), .int .i64 fi, .int .i64 sz] : Array Value)[2]? = some (.int .i64 sz) from rfl)
      have hki : ((k : Int) + 2) < sz := by have := HGB.out; omega
      have HRD := lread_any B D M nb rm fz fi sz ((k : Int) + 2) false f L lv wr HDW.out (by omega) (by omega)
      rw [show rdF nb (fi + ((k : Int) + 2)) false f = f (fi + 2 + k) by rw [rdF, if_neg (by simp), if_pos (by simp [hasB]; omega)]; congr 1; omega, show readErr nb (fi + ((k : Int) + 2)) false = 0 by rw [readErr, if_neg (by simp), if_pos (by simp [hasB]; omega)]] at HRD
      have HRD := Lib.hid HRD
      have HFK := Lib.hid (HFL.out (fi + 2 + k))
      have HLT := Lib.hid hlt
      have HKI := Lib.hid hki
      have HST := fun m hm => arB_step f (fi + 2) HFL.out k en m hlt hm
      have HST := Lib.hid HST
      generalize hl : f (fi + 2 + k) = l at *
      have SL := Lib.hid (show (ArrU8 l).size = 256 by rw [ArrU8_size, HFK.out])
      have hlt2 : ((256 * k : Nat) : Int) < (en : Int) := by omega
      clear hl hki hlt
      go_wp2_with fail
      refine HRD.out.mono ?_
      rintro e wa ⟨rfl, hb⟩
      have XA := Lib.hid hb
      clear hb b0 b1 b2
      by_cases hm3 : (en : Int) - 256 * (k : Int) ≤ 256
      · have hm4 := hm3
        have hsl := fun u => slice35_h u wa.heap.size ((en : Int) - 256 * (k : Int)) (en - 256 * k) (by omega) (by omega)
        have HMM := Lib.hid (show (en - 256 * k) = min (en - 256 * k) 256 by omega)
        have HOA := Lib.hid (HO.out.below XA.out (Nat.le_refl _))
        go_wp2_with (first
          | (refine wpList_store_nwL rfl 52 (Operand.tmp 8) (Operand.tmp 20) rfl wa _ 52 rfl wa.heap.size (ArrU8 l) rfl rfl rfl (by rw [HI35.out, SL.out]) (by rw [SZ.out, SL.out]) (ArrU8_one _) ?_; intro wb hd hb hs; have QB := Lib.hid hd; have XB := Lib.hid hb; have SB := Lib.hid hs; have HOB := Lib.hid (HOA.out.below hb (Nat.le_refl _)); clear hd hb hs)
          | (at_builtin; refine wpList_append_OwnT rfl (Operand.tmp 25) (Operand.tmp 31) rfl (w.heap.size + 1) _ _ rfl HOB.out _ (l.take (en - 256 * k)) rfl (bs_top QB.out (en - 256 * k) 256 (by rw [HFK.out]; omega) (by omega)) (by rw [HLEN.out, List.length_take, HFK.out]; have := HGB.out; have := HLT.out; omega) (by have := HS1.out; have := HB.out.size; have := XA.out.size; have := SB.out; omega) ?_; intro v' w2 hown' hgrow hto; have HO2 := Lib.hid hown'; have HC2 := Lib.hid hgrow; clear hown' hgrow hto))
        go_roundw
        case rel =>
          refine ⟨k + 1, by go_num, fun _ => by rw [Nat.add_sub_cancel]; exact HLT.out, by rw [← HST.out _ HMM.out]; exact HO2.out, ?_⟩
          have qs := HS1.out
          have q0 := HB.out.size
          have q1 := XA.out.size
          have q2 := SB.out
          have hq : Below (w.heap.size + 1) w1 wb := (HB.out.trans (XA.out.mono (by omega))).trans (XB.out.mono (by omega))
          exact hq.trans (HC2.out.below (fun g hg => (HOB.out.lt g hg).1) (by omega))
        case measure => have := HLT.out; have := HK.out; simp [intOf]; omega
      · have hm4 := hm3
        have hmn : min ((en : Int) - 256 * (k : Int)) 256 = 256 := by omega
        have hsl := fun u => slice35_h u wa.heap.size 256 (256) (by omega) (by omega)
        have HMM := Lib.hid (show (256) = min (en - 256 * k) 256 by omega)
        have HOA := Lib.hid (HO.out.below XA.out (Nat.le_refl _))
        go_wp2_with (first
          | (refine wpList_store_nwL rfl 52 (Operand.tmp 8) (Operand.tmp 20) rfl wa _ 52 rfl wa.heap.size (ArrU8 l) rfl rfl rfl (by rw [HI35.out, SL.out]) (by rw [SZ.out, SL.out]) (ArrU8_one _) ?_; intro wb hd hb hs; have QB := Lib.hid hd; have XB := Lib.hid hb; have SB := Lib.hid hs; have HOB := Lib.hid (HOA.out.below hb (Nat.le_refl _)); clear hd hb hs)
          | (at_builtin; refine wpList_append_OwnT rfl (Operand.tmp 25) (Operand.tmp 31) rfl (w.heap.size + 1) _ _ rfl HOB.out _ (l.take (256)) rfl (bs_top QB.out (256) 256 (by rw [HFK.out]; omega) (by omega)) (by rw [HLEN.out, List.length_take, HFK.out]; have := HGB.out; have := HLT.out; omega) (by have := HS1.out; have := HB.out.size; have := XA.out.size; have := SB.out; omega) ?_; intro v' w2 hown' hgrow hto; have HO2 := Lib.hid hown'; have HC2 := Lib.hid hgrow; clear hown' hgrow hto))
        go_roundw
        case rel =>
          refine ⟨k + 1, by go_num, fun _ => by rw [Nat.add_sub_cancel]; exact HLT.out, by rw [← HST.out _ HMM.out]; exact HO2.out, ?_⟩
          have qs := HS1.out
          have q0 := HB.out.size
          have q1 := XA.out.size
          have q2 := SB.out
          have hq : Below (w.heap.size + 1) w1 wb := (HB.out.trans (XA.out.mono (by omega))).trans (XB.out.mono (by omega))
          exact hq.trans (HC2.out.below (fun g hg => (HOB.out.lt g hg).1) (by omega))
        case measure => have := HLT.out; have := HK.out; simp [intOf]; omega
    · have hmn : min en (256 * k) = en := by omega
      rw [hmn] at HO ⊢
      have hge : ¬ ((en : Int) < (en : Int)) := by omega
      have HEQ := Lib.hid (areaB_eq f (fi + 2) HFL.out k en (by omega))
      clear hlen hmn hlt
      go_wp2_with fail
      go_ret2
      exact ⟨_, rfl, by rw [← HEQ.out]; exact own_lower HO.out (by omega), HB1.out.trans (HB.out.mono (by omega))⟩
end Go.Proofs.Ytaibminomehppaa
