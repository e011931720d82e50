import Derived.Test.YtaibminomehppaaDiskN
import Derived.WalkKit
import Derived.ProofKit
import Derived.BigQuiet
import Derived.Deep.QuietTactic
import Derived.WalkSpells
import Derived.WalkLawsBesides
import Derived.Lib.Hide
import Derived.Deep.MidRow
import Derived.Deep.RegionLaw
import Derived.BigRegion
import Derived.Laws.AppendOwnNone
import Derived.Deep.DeepMust
import Derived.Deep.AppendLies
import Derived.RegionTactic
import Derived.Deep.WholeRow
import Derived.BigFrame
import Derived.Deep.RegionWith
import Derived.Deep.RegionHeld3
import Derived.Maps.RangeWalk
import Derived.Laws.CopyOwn
import Derived.StillTailTactics
namespace Go.Proofs.Ytaibminomehppaa
open Go.RowKit
/-- an unsynced write of the reference -/
abbrev RW := Int × List Int
def rwL (x : RW) : List Value := Value.int .i64 x.1 :: x.2.map (Value.int .u8)
theorem rwL_len (x : RW) (h : x.2.length = 256) : (rwL x).length = 257 := by simp [rwL, h]
def flatR (K : List RW) : List Value := K.flatMap rwL
def ROK (K : List RW) : Prop := ∀ x ∈ K, x.2.length = 256
def RLIs (w : World) (B : Nat) (v : Value) (K : List RW) : Prop := w.ownsRow B 134 257 v K.length (flatR K)
theorem flatR_get : ∀ (K : List RW), ROK K → ∀ (i : Nat) (x : RW), K[i]? = some x → ∀ (j : Nat) (v : Value), (rwL x)[j]? = some v → (flatR K)[i * 257 + j]? = some v
  | [], _, i, x, h, _, _, _ => by simp at h
  | m :: K, hb, 0, x, h, j, v, hv => by
    simp only [List.getElem?_cons_zero, Option.some.injEq] at h
    subst h
    show (rwL m ++ flatR K)[0 * 257 + j]? = _
    rw [Nat.zero_mul, Nat.zero_add, List.getElem?_append_left (List.getElem?_eq_some_iff.1 hv).1]
    exact hv
  | m :: K, hb, i + 1, x, h, j, v, hv => by
    have h1 := rwL_len m (hb m List.mem_cons_self)
    have ih := flatR_get K (fun k hk => hb k (List.mem_cons_of_mem _ hk)) i x (by simpa using h) j v hv
    show (rwL m ++ flatR K)[(i + 1) * 257 + j]? = _
    rw [List.getElem?_append_right (by rw [h1]; omega), h1, show (i + 1) * 257 + j - 257 = i * 257 + j by omega]
    exact ih
theorem RLIs.at {w : World} {B : Nat} {lv : Value} {K : List RW} (h : RLIs w B lv K) (hw : ROK K) (hL : 0 < K.length) :
    ∃ g cap, lv = .slice (some ⟨g, 0, none⟩) K.length cap ∧ ∀ i x, K[i]? = some x → w.cell? ⟨g, i * 257, none⟩ = some (.int .i64 x.1) ∧ w.rangeAt g (i * 257 + 1) (x.2.map (Value.int .u8)) := by
  rcases h.2 with ⟨_, h0⟩ | ⟨g, cap, cur, rfl, _⟩
  · omega
  · have key : ∀ i x, K[i]? = some x → ∀ j v, (rwL x)[j]? = some v → w.cell? ⟨g, i * 257 + j, none⟩ = some v := fun i x hx j v hv => by
      have h2 := h.cells (g := g) rfl (i * 257 + j) v (flatR_get K hw i x hx j v hv)
      rwa [Addr.add_mid, Nat.zero_add] at h2
    refine ⟨g, cap, rfl, fun i x hx => ⟨by have h0 := key i x hx 0 _ rfl; rwa [Nat.add_zero] at h0, fun j v hv => ?_⟩⟩
    have h2 := key i x hx (1 + j) v (by rw [rwL, Nat.add_comm, List.getElem?_cons_succ]; exact hv)
    rwa [← Nat.add_assoc] at h2
theorem RLIs.shape {w : World} {B : Nat} {lv : Value} {K : List RW} (h : RLIs w B lv K) : ∃ a c, lv = .slice a K.length c := by
  rcases h.2 with ⟨rfl, h0⟩ | ⟨g, cap, cur, rfl, _⟩
  · exact ⟨none, 0, by rw [h0]⟩
  · exact ⟨_, _, rfl⟩
/-- what block n reads as, by the writes in their order -/
def rdL (b : List Int) (K : List RW) (n : Int) : List Int := K.foldl (fun b x => if x.1 = n then x.2 else b) b
theorem rdL_snoc (b : List Int) (K : List RW) (n : Int) (i : Nat) (x : RW) (h : K[i]? = some x) : rdL b (K.take (i + 1)) n = if x.1 = n then x.2 else rdL b (K.take i) n := by
  have hlt := (List.getElem?_eq_some_iff.1 h).1
  rw [List.take_succ_eq_append_getElem hlt, (List.getElem?_eq_some_iff.1 h).2, rdL, List.foldl_append]
  rfl
theorem rdL_len (b : List Int) (hb : b.length = 256) (n : Int) : ∀ (K : List RW), ROK K → (rdL b K n).length = 256 := by
  intro K
  induction K generalizing b with
  | nil => intro _; exact hb
  | cons x K ih =>
    intro hK
    show (rdL (if x.1 = n then x.2 else b) K n).length = 256
    refine ih _ ?_ (fun y hy => hK y (List.mem_cons_of_mem _ hy))
    split
    · exact hK x List.mem_cons_self
    · exact hb
set_option maxRecDepth 100000 in
set_option maxHeartbeats 4000000 in
theorem rread_yes (R B gf m cap : Nat) (lv : Value) (rm fz : Int) (bs : List (List Int)) (K : List RW) (b0 : List Int) (w : World) (hd : RefIs w R (RC (.slice (some ⟨gf, 0, none⟩) bs.length cap) lv rm fz false)) (hf : BkC w B gf (.slice (some ⟨gf, 0, none⟩) bs.length cap) bs) (hl : RLIs w B lv K) (hK : ROK K) (hm : bs[m]? = some b0) (hKl : K.length ≤ 268435456) :
    Calls Try.prog 43 #[.pointer (some ⟨R, 0, none⟩), .int .i64 (m : Int)] w fun e w' => e = .returned (.tuple #[.agg (ArrU8 (rdL b0 K (m : Int))), .int .i64 0]) ∧ Below w.heap.size w w' := by
  have hmlt := (List.getElem?_eq_some_iff.1 hm).1
  have hb0 := (hf.2.2.2.1 m b0 hm).1
  have HRG := Lib.hid (hf.2.2.2.1 m b0 hm).2
  have hglt := hf.2.2.1
  obtain ⟨la, lc, hlv⟩ := hl.shape
  subst hlv
  have HL := Lib.hid hl
  have HK := Lib.hid hK
  have hRlt := hd.lt
  have c0 : w.cell? ⟨R, 0, none⟩ = some (.slice (some ⟨gf, 0, none⟩) bs.length cap) := hd.cell 0
  have c1 : w.cell? ⟨R, 1, none⟩ = some (.slice la K.length lc) := hd.cell 1
  have c4 : w.cell? ⟨R, 4, none⟩ = some (.bool false) := hd.cell 4
  have HI35 := Lib.hid (show (Try.prog.info? 52).map (·.size) = some 256 by kernel_rfl)
  have SZ := Lib.hid (show (ArrU8 (zeros 256)).size = 256 by rw [ArrU8_size, zeros, List.length_replicate])
  have HB0 := Lib.hid hb0
  have SB := Lib.hid (show (ArrU8 b0).size = 256 by rw [ArrU8_size, hb0])
  have hz := zero35
  have hm1 : (m : Int) < bs.length := by omega
  have C1 := Lib.hid c1
  have w4c := heap_alloc_new w (.cells (ArrU8 (zeros 256)) 52)
  have HW4 := Lib.hid w4c
  have HBW := Lib.hid ((Below.refl w.heap.size w).alloc (Nat.le_refl _) (.cells (ArrU8 (zeros 256)) 52))
  clear hd hf hl hK hm hb0 w4c
  go_enter Try.func43, Try.ntmps43
  go_wp2_with (first
    | (refine wpList_load_mid rfl 52 (Operand.tmp 30) rfl gf (m * 256) rfl (b0.map (Value.int .u8)) _ (fun j v hv => (HBW.out.cell (p := ⟨gf, m * 256 + j, none⟩) hglt).trans (HRG.out j v hv)) Try.underlying52 rfl (by rw [HI35.out, List.length_map, HB0.out]) ?_)
    | (refine wpList_store_nw rfl 52 (Operand.tmp 6) (Operand.tmp 31) rfl (w.alloc (.cells (ArrU8 (zeros 256)) 52)) _ 52 rfl (w.heap.size + 1) (ArrU8 b0) rfl rfl (by simp) (by rw [HI35.out, SB.out]) (by rw [SZ.out, SB.out]) (ArrU8_one _) ?_; intro w2 hd2 hb2 hs2; have HD2 := Lib.hid hd2; have HB2 := Lib.hid (HBW.out.trans (hb2.mono (by omega))); have HS2 := Lib.hid hs2; have HR4 := Lib.hid ((hb2.block w.heap.size (by omega)).trans HW4.out); clear hd2 hb2 hs2))
  clear c0 c1 c4
  go_loopw [7] (fun iv wr => ∃ i : Nat, i ≤ K.length ∧ iv = .int .i64 (i : Int) ∧ Below w.heap.size w wr ∧ wr.heap[w.heap.size + 1]? = some (.cells (ArrU8 (rdL b0 (K.take i) (m : Int))) 52 (0, 0)) ∧ wr.heap[w.heap.size]? = some (.cells (ArrU8 (zeros 256)) 52 (0, 0))) (fun iv _ => K.length - (intOf iv).toNat)
  case atStart => exact ⟨0, Nat.zero_le _, rfl, HB2.out, by rw [List.take_zero]; exact HD2.out, HR4.out⟩
  case round =>
    obtain ⟨i, hi, rfl, hbr, h6, h4⟩ := hrel
    have HBR := Lib.hid hbr
    have H6 := Lib.hid h6
    have H4 := Lib.hid h4
    have c1 := (hbr.cell (p := ⟨R, 1, none⟩) hRlt).trans C1.out
    have hrl := rdL_len b0 HB0.out (m : Int) (K.take i) (fun y hy => HK.out y (List.mem_of_mem_take hy))
    have HRL := Lib.hid hrl
    have SR := Lib.hid (show (ArrU8 (rdL b0 (K.take i) (m : Int))).size = 256 by rw [ArrU8_size, hrl])
    clear hbr h6 h4 hrl
    by_cases hil : i < K.length
    · have hx : K[i]? = some (K[i]'hil) := List.getElem?_eq_getElem hil
      obtain ⟨g, lcap, hlv, hat⟩ := HL.out.at HK.out (by omega)
      injection hlv with e1 _ e2
      subst e1 e2
      generalize K[i]'hil = x at hx
      obtain ⟨hc0, hc1⟩ := hat i x hx
      have hgl := (HL.out.lt g rfl).2
      have hxl := HK.out x (List.mem_of_getElem? hx)
      have cN := (HBR.out.cell (p := ⟨g, i * 257, none⟩) hgl).trans hc0
      have HRX := Lib.hid (show wr.rangeAt g (i * 257 + 1) (x.2.map (Value.int .u8)) from fun j v hv => (HBR.out.cell (p := ⟨g, i * 257 + 1 + j, none⟩) hgl).trans (hc1 j v hv))
      have HXL := Lib.hid hxl
      have HST := Lib.hid (rdL_snoc b0 K (m : Int) i x hx)
      have SX := Lib.hid (show (ArrU8 x.2).size = 256 by rw [ArrU8_size, hxl])
      generalize rdL b0 (K.take i) (m : Int) = bi at *
      clear hat hc0 hc1 hxl hx
      cases heq : (x.1 == (m : Int))
      · have hne : x.1 ≠ (m : Int) := by simpa using heq
        have HNE := Lib.hid hne
        clear hne
        go_wp2_with fail
        go_roundw
        case rel => exact ⟨i + 1, by omega, by go_num, HBR.out, by rw [HST.out, if_neg HNE.out]; exact H6.out, H4.out⟩
        case measure => simp [intOf]; omega
      · have hne : x.1 = (m : Int) := by simpa using heq
        have HNE := Lib.hid hne
        clear hne
        have HS := Lib.hid HBR.out.size
        go_wp2_with (first
          | (refine wpList_load_mid rfl 52 (Operand.tmp 57) rfl g (i * 257 + 1) rfl (x.2.map (Value.int .u8)) _ HRX.out Try.underlying52 rfl (by rw [HI35.out, List.length_map, HXL.out]) ?_)
          | (refine wpList_store_row rfl 52 (Operand.tmp 6) (Operand.tmp 58) rfl (w.heap.size + 1) (ArrU8 x.2) rfl rfl 52 _ H6.out (by rw [HI35.out, SX.out]) (by rw [SR.out, SX.out]) (ArrU8_one _) ?_))
        go_roundw
        case rel => exact ⟨i + 1, by omega, by go_num, below_setRow HBR.out (by omega) _, by rw [HST.out, if_pos HNE.out]; exact setRow_heap _ _ _ _ _ _ H6.out, (setRow_other _ _ _ _ (by omega)).trans H4.out⟩
        case measure => simp [intOf]; omega
    · have hix : i = K.length := by omega
      subst hix
      rw [List.take_length] at H6 SR HRL
      obtain ⟨bi, hbi⟩ : ∃ bi, bi = rdL b0 K (m : Int) := ⟨_, rfl⟩
      rw [← hbi] at H6 SR HRL
      have HBI := Lib.hid hbi
      clear hbi
      go_wp2_with (first
        | (refine wpList_load_row rfl 52 (Operand.tmp 6) rfl (w.heap.size + 1) rfl 52 (ArrU8 bi) (0, 0) _ H6.out Try.underlying52 rfl (by rw [HI35.out, SR.out]) ?_)
        | (refine wpList_store_row rfl 52 (Operand.tmp 4) (Operand.tmp 59) rfl w.heap.size (ArrU8 bi) rfl rfl 52 _ H4.out (by rw [HI35.out, SR.out]) (by rw [SZ.out, SR.out]) (ArrU8_one _) ?_))
      refine bodyPost_ret (results_cell_tmp (p := 4) (q := 5) (ty := 52) rfl _ _ w.heap.size 52 (ArrU8 bi) (0, 0) _ rfl (setRow_heap _ _ _ _ _ _ H4.out) Try.underlying52 rfl (by rw [HI35.out, SR.out])) rfl ⟨?_, below_setRow HBR.out (by omega) _⟩
      rw [← HBI.out]
      rfl
set_option maxRecDepth 100000 in
set_option maxHeartbeats 4000000 in
theorem rread_off (R : Nat) (fv lv : Value) (rm fz n : Int) (w : World) (hd : RefIs w R (RC fv lv rm fz true)) :
    Calls Try.prog 43 #[.pointer (some ⟨R, 0, none⟩), .int .i64 n] w fun e w' => e = .returned (.tuple #[.agg (ArrU8 (zeros 256)), .int .i64 44]) ∧ Below w.heap.size w w' := by
  have hRlt := hd.lt
  have c4 : w.cell? ⟨R, 4, none⟩ = some (.bool true) := hd.cell 4
  have HI35 := Lib.hid (show (Try.prog.info? 52).map (·.size) = some 256 by kernel_rfl)
  have SZ := Lib.hid (show (ArrU8 (zeros 256)).size = 256 by rw [ArrU8_size, zeros, List.length_replicate])
  have hz := zero35
  have hbl : ∀ u : World, (Instr.build 52 #[]).run Try.prog u = .ok (.agg (ArrU8 (zeros 256))) u := fun u => by kernel_rfl
  clear hd
  go_enter Try.func43, Try.ntmps43
  go_wp2_with (refine wpList_store_nw rfl 52 (Operand.tmp 4) (Operand.tmp 12) rfl w _ 52 rfl w.heap.size (ArrU8 (zeros 256)) rfl rfl rfl (by rw [HI35.out, SZ.out]) rfl (ArrU8_one _) ?_; intro w2 hd2 hb2 hs2; have HD2 := Lib.hid hd2; have HB2 := Lib.hid hb2; clear hd2 hb2 hs2)
  refine bodyPost_ret (results_cell_tmp (p := 4) (q := 5) (ty := 52) rfl _ w2 w.heap.size 52 (ArrU8 (zeros 256)) (0, 0) _ rfl HD2.out Try.underlying52 rfl (by rw [HI35.out, SZ.out])) rfl ⟨?_, HB2.out⟩
  rfl
set_option maxRecDepth 100000 in
set_option maxHeartbeats 4000000 in
theorem rread_out (R : Nat) (fa : Option Addr) (fn fc : Nat) (lv : Value) (rm fz n : Int) (w : World) (hd : RefIs w R (RC (.slice fa fn fc) lv rm fz false)) (hn : n < 0 ∨ (fn : Int) ≤ n) :
    Calls Try.prog 43 #[.pointer (some ⟨R, 0, none⟩), .int .i64 n] w fun e w' => e = .returned (.tuple #[.agg (ArrU8 (zeros 256)), .int .i64 2]) ∧ Below w.heap.size w w' := by
  have hRlt := hd.lt
  have c0 : w.cell? ⟨R, 0, none⟩ = some (.slice fa fn fc) := hd.cell 0
  have c4 : w.cell? ⟨R, 4, none⟩ = some (.bool false) := hd.cell 4
  have HI35 := Lib.hid (show (Try.prog.info? 52).map (·.size) = some 256 by kernel_rfl)
  have SZ := Lib.hid (show (ArrU8 (zeros 256)).size = 256 by rw [ArrU8_size, zeros, List.length_replicate])
  have hz := zero35
  have hbl : ∀ u : World, (Instr.build 52 #[]).run Try.prog u = .ok (.agg (ArrU8 (zeros 256))) u := fun u => by kernel_rfl
  clear hd
  obtain h1 | ⟨h1, h2⟩ : n < 0 ∨ (0 ≤ n ∧ (fn : Int) ≤ n) := by omega
  all_goals
    go_enter Try.func43, Try.ntmps43
    go_wp2_with (refine wpList_store_nw rfl 52 (Operand.tmp 4) (Operand.tmp 24) rfl w _ 52 rfl w.heap.size (ArrU8 (zeros 256)) rfl rfl rfl (by rw [HI35.out, SZ.out]) rfl (ArrU8_one _) ?_; intro w2 hd2 hb2 hs2; have HD2 := Lib.hid hd2; have HB2 := Lib.hid hb2; clear hd2 hb2 hs2)
    refine bodyPost_ret (results_cell_tmp (p := 4) (q := 5) (ty := 52) rfl _ w2 w.heap.size 52 (ArrU8 (zeros 256)) (0, 0) _ rfl HD2.out Try.underlying52 rfl (by rw [HI35.out, SZ.out])) rfl ⟨?_, HB2.out⟩
    rfl
end Go.Proofs.Ytaibminomehppaa
