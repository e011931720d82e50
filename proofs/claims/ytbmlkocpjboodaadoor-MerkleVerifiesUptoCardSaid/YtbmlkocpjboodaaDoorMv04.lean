import Derived.Test.YtbmlkocpjboodaaDoorMv02
import Derived.Test.YtbmlkocpjboodaaDoorMv03
import Derived.Lib.BytesEntry
import Derived.Lib.SliceRun
import Derived.OrdersHeld
namespace Go.Proofs.YtbmlkocpjboodaaDoor
open Go.RowKit
open Go.Lib (hid)
set_option maxRecDepth 100000 in
set_option maxHeartbeats 2000000 in
theorem refJoin_any (v : Value) (ps : List (List Int)) (w : World) (hv : Pss w v ps) (hj : jlen ps ≤ 549755813888) :
    Calls Tryd.prog 66 #[v] w fun e w' => ∃ v', e = .returned v' ∧ w'.ownsRow w.heap.size 5 1 v' (8 + jlen ps) ((joined ps).map (Value.int .u8)) ∧ Below w.heap.size w w' := by
  obtain ⟨i0, hi, hz0, hz1, hz2⟩ := info_parts info5
  obtain ⟨a, cap, rfl, hcap, hcells⟩ := hv
  have hge := jlen_ge ps
  have hcl := hcap.1
  generalize hn : ps.length = n at *
  have HN := hid hn
  have HC := hid hcells
  clear hn hcells hcap
  go_enter Tryd.func66, Tryd.ntmps66
  go_wp2_with fail
  refine (number01_any n w (by omega)).mono ?_
  rintro e w1 ⟨v3, rfl, hown1, hb1⟩
  have HO1 := hid hown1
  have HB1 := hid hb1
  clear hown1 hb1
  go_wp2_with fail
  go_loopw [3, 4] (fun v3 iv wx => ∃ i : Nat, i ≤ n ∧ iv = .int .i64 i ∧ wx.ownsRow w.heap.size 5 1 v3 (8 + jlen (ps.take i)) ((be8 n ++ joinB (ps.take i)).map (Value.int .u8)) ∧ Below w.heap.size w wx) (fun _ iv _ => n - (intOf iv).toNat)
  case atStart => exact ⟨0, Nat.zero_le _, rfl, by simpa [jlen, joinB] using HO1.out, HB1.out⟩
  case round =>
    clear HO1 HB1
    obtain ⟨i, hin, rfl, ho, hbx⟩ := hrel
    have HO := hid ho
    have HBX := hid hbx
    have hsx := hbx.size
    clear ho hbx
    by_cases hlt : i < n
    · obtain ⟨b, off, rfl, hbw, hc⟩ := HC.out (by omega)
      obtain ⟨x, hx, hxb⟩ := hc i hlt
      have cx := (HBX.out.cell (p := ⟨b, off + i, none⟩) hbw).trans hx
      have hjt := jlen_take ps i (by rw [HN.out]; exact hlt)
      have hjl := jlen_take_le ps (i + 1)
      have hjb := joinB_take ps i (by rw [HN.out]; exact hlt)
      rw [hjt] at hjl
      generalize hP : ps[i]?.getD [] = p at *
      generalize hJ : jlen (ps.take i) = J at *
      have HJT := hid hjt
      have HJB := hid hjb
      have HXB := hid hxb
      have HX := hid hx
      obtain ⟨xa, xc, rfl, _⟩ := hxb
      have hii : (i : Int) < (n : Int) := by omega
      have hni : (n : Int) ≤ (cap : Int) := by omega
      have hpl : (p.length : Int) < 18446744073709551616 := by omega
      clear hjt hjb hc hx hP hJ
      go_wp2_with fail
      refine (number01_any p.length wr (by omega)).mono ?_
      rintro e w3 ⟨v22, rfl, hown3, hb3⟩
      have HB3 := hid (HBX.out.trans (hb3.mono hsx))
      have HO3 := hid (HO.out.kept (row := none) ⟨hb3.os, hb3.tape, hb3.output, hb3.size, fun k hk _ => hb3.block k hk⟩ (by cases hv : u3.ownBlock with | none => exact .inl rfl | some g => exact .inr (by simp)))
      have BS22 := hid (Bs_of_own hown3)
      have hs3 := HB3.out.size
      clear hown3 hb3
      go_wp2_with (first
        | (at_builtin; refine wpList_append_bs (o := ⟨some 23, _, _, _, _, _⟩) rfl (Operand.tmp 15) (Operand.tmp 22) 31 rfl w.heap.size 5 i0 Tryd.underlying31 hi hz0 hz1 hz2 u3 (8 + J) _ rfl HO3.out v22 (be8 p.length) rfl BS22.out (by rw [be8_len]; omega) hs3 ?_; intro v23 w4 hown4 hg4; have HO4 := hid hown4; have HB4 := hid (HB3.out.grown hg4 hs3 (fun g hg => (HO3.out.lt g hg).1)); have hs4 := HB4.out.size; have cx4 := (HB4.out.cell (p := ⟨b, off + i, none⟩) hbw).trans HX.out; clear hown4 hg4)
        | (at_builtin; refine wpList_append_bs (o := ⟨some 29, _, _, _, _, _⟩) rfl (Operand.tmp 24) (Operand.tmp 28) 31 rfl w.heap.size 5 i0 Tryd.underlying31 hi hz0 hz1 hz2 v23 (8 + J + (be8 p.length).length) _ rfl HO4.out (.slice xa p.length xc) p rfl (HXB.out.below HB4.out) (by rw [be8_len]; omega) hs4 ?_; intro v29 w5 hown5 hg5; have HO5 := hid hown5; have HB5 := hid (HB4.out.grown hg5 hs4 (fun g hg => (HO4.out.lt g hg).1)); clear hown5 hg5)
        | fail)
      refine ⟨⟨i + 1, by omega, by go_num, ?_, HB5.out⟩, by simp [intOf]; omega⟩
      have := HO5.out
      rw [HJT.out, HJB.out]
      rw [be8_len] at this
      rw [show 8 + (J + (8 + p.length)) = 8 + J + 8 + p.length by omega]
      simpa using this
    · obtain rfl : i = n := by omega
      have hfe : ps.take i = ps := List.take_of_length_le (by rw [HN.out]; exact Nat.le_refl _)
      rw [hfe] at HO
      clear hfe
      go_wp2_with fail
      go_ret
      refine ⟨_, rfl, ?_, HBX.out⟩
      rw [joined, HN.out]; exact HO.out
end Go.Proofs.YtbmlkocpjboodaaDoor
/- stage 7: bytes.Compare, Equal, Clone over slices that read as bytes -/
namespace Go.Proofs.YtbmlkocpjboodaaDoor
open Go.RowKit
open Go.Lib (hid)
/-- the order of bytes, as -1, 0, 1 -/
def cmpI : List Int → List Int → Int
 | [], [] => 0
 | [], _ :: _ => -1
 | _ :: _, [] => 1
 | x :: xs, y :: ys => if x < y then -1 else if y < x then 1 else cmpI xs ys
theorem cmpI_same (l : List Int) : cmpI l l = 0 := by
 induction l with
 | nil => rfl
 | cons x l ih => simp [cmpI, ih]
theorem cmpI_zero : ∀ (l m : List Int), cmpI l m = 0 ↔ l = m
 | [], [] => by simp [cmpI]
 | [], _ :: _ => by simp [cmpI]
 | _ :: _, [] => by simp [cmpI]
 | x :: xs, y :: ys => by
  unfold cmpI
  by_cases h1 : x < y
  ·rw [if_pos h1]
   constructor
   ·intro h; omega
   ·intro h; injection h with h _; omega
  ·rw [if_neg h1]
   by_cases h2 : y < x
   ·rw [if_pos h2]
    constructor
    ·intro h; omega
    ·intro h; injection h with h _; omega
   ·rw [if_neg h2, cmpI_zero xs ys]
    have : x = y := by omega
    subst this
    simp
theorem cmpI_rng : ∀ (l m : List Int), cmpI l m = -1 ∨ cmpI l m = 0 ∨ cmpI l m = 1
 | [], [] => .inr (.inl rfl)
 | [], _ :: _ => .inl rfl
 | _ :: _, [] => .inr (.inr rfl)
 | x :: xs, y :: ys => by
  unfold cmpI
  split
  ·exact .inl rfl
  ·split
   ·exact .inr (.inr rfl)
   ·exact cmpI_rng xs ys
theorem cmpI_anti : ∀ (l m : List Int), cmpI m l = - cmpI l m
 | [], [] => rfl
 | [], _ :: _ => rfl
 | _ :: _, [] => rfl
 | x :: xs, y :: ys => by
  unfold cmpI
  by_cases h1 : x < y
  ·have h2 : ¬ y < x := by omega
   simp only [h1, h2, if_true, if_false]; rfl
  ·by_cases h2 : y < x
   ·simp only [h1, h2, if_true, if_false]
   ·simp only [h1, h2, if_false, cmpI_anti xs ys]
theorem cmpI_trans : ∀ (l m r : List Int), cmpI l m < 0 → cmpI m r < 0 → cmpI l r < 0
 | [], [], _, h, _ => by simp [cmpI] at h
 | _ :: _, [], _, h, _ => by simp [cmpI] at h
 | _, _ :: _, [], _, h => by simp [cmpI] at h
 | [], _ :: _, _ :: _, _, _ => by simp [cmpI]
 | x :: xs, y :: ys, z :: zs, h, g => by
  unfold cmpI at h g ⊢
  by_cases h1 : x < y
  ·by_cases g1 : y < z
   ·rw [if_pos (by omega)]; decide
   ·rw [if_neg g1] at g
    by_cases g2 : z < y
    ·rw [if_pos g2] at g; omega
    ·rw [if_pos (by omega)]; decide
  ·rw [if_neg h1] at h
   by_cases h2 : y < x
   ·rw [if_pos h2] at h; omega
   ·rw [if_neg h2] at h
    have : x = y := by omega
    subst this
    by_cases g1 : x < z
    ·rw [if_pos g1]; decide
    ·rw [if_neg g1] at g ⊢
     by_cases g2 : z < x
     ·rw [if_pos g2] at g; omega
     ·rw [if_neg g2] at g ⊢
      exact cmpI_trans xs ys zs h g
theorem bytesOf_str (l : List Int) : (⟨(Lib.bytesOf l).toArray⟩ : ByteArray) = str l := by
 unfold str Lib.bytesOf
 rfl
theorem run_bytesOf (w : World) (v : Value) (l : List Int) (h : Bs w v l) : (Extern.Bytes.bytesOf v).run Tryd.prog w = .ok (str l) w := by
 obtain ⟨a, cap, rfl, hc, hx⟩ := h
 cases a with
 | none =>
  have : l.length = 0 := by have := hc.2 rfl; omega
  have hl : l = [] := List.eq_nil_of_length_eq_zero this
  subst hl
  rfl
 | some a =>
  have hl := Lib.run_loadBytesX (P := Tryd.prog) w l a .empty (fun j x hj => by
   have hjl : j < l.length := (List.getElem?_eq_some_iff.1 hj).1
   obtain ⟨b, o, e, hb, hcell⟩ := hx (by omega)
   injection e with e
   subst e
   rw [Addr.add_mid, hcell j hjl, hj]
   rfl)
  show (Extern.Bytes.loadBytes a l.length .empty).run Tryd.prog w = _
  rw [hl, ← bytesOf_str]
  congr 2
  simp
theorem cmpB_str : ∀ (s t : List Int), Rng s → Rng t → Lib.compareBytes (str s).data.toList (str t).data.toList = cmpI s t := by
 intro s t hs ht
 simp only [str]
 induction s generalizing t with
 | nil => cases t <;> rfl
 | cons x s ih =>
  cases t with
  | nil => rfl
  | cons y t =>
   have hx := hs x (by simp)
   have hy := ht y (by simp)
   have h1 : (UInt8.ofNat x.toNat < UInt8.ofNat y.toNat) ↔ x < y := by
    rw [UInt8.lt_iff_toNat_lt, UInt8.toNat_ofNat', UInt8.toNat_ofNat']; omega
   have h2 : (UInt8.ofNat y.toNat < UInt8.ofNat x.toNat) ↔ y < x := by
    rw [UInt8.lt_iff_toNat_lt, UInt8.toNat_ofNat', UInt8.toNat_ofNat']; omega
   have ih' := ih t (fun z hz => hs z (by simp [hz])) (fun z hz => ht z (by simp [hz]))
   simp only [List.map_cons] at ih' ⊢
   unfold Lib.compareBytes cmpI
   simp only [h1, h2]
   rw [ih']
theorem run_compareBs (w : World) (u v : Value) (l m : List Int) (hu : Bs w u l) (hv : Bs w v m) (hl : Rng l) (hm : Rng m) :
  (Extern.BytealgCompare.compare #[u, v]).run Tryd.prog w = .ok (.int .i64 (cmpI l m)) w := by
 change Sem.run Tryd.prog (do pure (goInt (Extern.BytealgCompare.cmp (← Extern.Bytes.bytesOf u) (← Extern.Bytes.bytesOf v)))) w = _
 simp only [Sem.run_bind, run_bytesOf w u l hu, run_bytesOf w v m hv, Sem.run_pure, Result.andThen]
 rw [Lib.cmp_eq, cmpB_str l m hl hm]
 rfl
set_option maxRecDepth 100000 in
theorem compare_any (u v : Value) (l m : List Int) (w : World) (hu : Bs w u l) (hv : Bs w v m) (hl : Rng l) (hm : Rng m) :
  Calls Tryd.prog 56 #[u, v] w fun e w' => e = .returned (.int .i64 (cmpI l m)) ∧ w' = w := by
 have hr := run_compareBs w u v l m hu hv hl hm
 obtain ⟨a, c, rfl, -, -⟩ := hu
 obtain ⟨a', c', rfl, -, -⟩ := hv
 have HR := hid hr
 clear hr
 go_enter Tryd.func56, Tryd.ntmps56
 go_wp2_with go_in
 rw [run_callFunc_extern Tryd.func91 (by kernel_rfl) (by kernel_rfl) (by kernel_rfl) (e := Extern.BytealgCompare.compare) (by kernel_rfl), HR.out]
 simp only [Result.andThen]
 rw [Oper.upon_value]
 go_wp2_with fail
 go_ret
 exact ⟨rfl, rfl⟩
/-- what string(b) is -/
theorem conv_bs (w : World) (a : Option Addr) (n c : Nat) (l : List Int) (h : Bs w (.slice a n c) l) : (convert 31 9 (.slice a n c)).run Tryd.prog w = .ok (.string (str l)) w := by
 rw [convC_eq, run_convC w a n c h.hasBytes, h.str]
set_option maxRecDepth 100000 in
theorem equal_any (u v : Value) (l m : List Int) (w : World) (hu : Bs w u l) (hv : Bs w v m) (hl : Rng l) (hm : Rng m) :
  Calls Tryd.prog 76 #[u, v] w fun e w' => e = .returned (.bool (decide (l = m))) ∧ w' = w := by
 have HB := hid (str_beq hl hm)
 obtain ⟨a, c, rfl, h1, h2⟩ := id hu
 obtain ⟨a', c', rfl, h3, h4⟩ := id hv
 have k1 := conv_bs w a l.length c l hu
 have k2 := conv_bs w a' m.length c' m hv
 have hq : ∀ u : World, (binOp .eql 9 (.string (str l)) (.string (str m))).run Tryd.prog u = .ok (.bool (decide (l = m))) u := fun u => by
  rw [← HB.out]
  first | rfl | simp [binOp, Op.equal] | kernel_rfl
 clear hu hv h1 h2 h3 h4
 go_enter Tryd.func76, Tryd.ntmps76
 go_wp2_with fail
 go_ret
 exact ⟨congrArg (fun b => Ending.returned (.bool b)) HB.out, rfl⟩
/-- a slice that reads as bytes, all of whose memory lies in the blocks S -/
def KIs (w : World) (S : Nat → Prop) (v : Value) (l : List Int) : Prop := Bs w v l ∧ ∀ b o n c, v = .slice (some ⟨b, o, none⟩) n c → 0 < l.length → S b
theorem KIs.chg {w w' : World} {S : Nat → Prop} {v : Value} {l : List Int} (h : KIs w S v l) (hc : w.heap.size ≤ w'.heap.size) (hb : ∀ b, b < w.heap.size → S b → w'.heap[b]? = w.heap[b]?) : KIs w' S v l := by
 obtain ⟨⟨a, cap, rfl, h1, h2⟩, h3⟩ := h
 refine ⟨⟨a, cap, rfl, h1, fun h0 => ?_⟩, h3⟩
 obtain ⟨b, o, rfl, hbl, hx⟩ := h2 h0
 refine ⟨b, o, rfl, by omega, fun i hi => ?_⟩
 rw [← hx i hi]
 exact World.cell?_of_block (hb b hbl (h3 b o _ _ rfl h0))
theorem KIs.nil (w : World) (S : Nat → Prop) : KIs w S (.slice none 0 0) [] := ⟨Bs.nil w, fun b o n c h => by cases h⟩
theorem own_kis {w : World} {B : Nat} {T : TypeId} {v : Value} {l : List Int} (h : w.ownsRow B T 1 v l.length (l.map (Value.int .u8))) : KIs w (fun b => B ≤ b) v l := by
 refine ⟨Bs_of_own h, fun b o n c e h0 => ?_⟩
 obtain ⟨-, ⟨rfl, hn⟩ | ⟨g, cap, cur, rfl, hg, -⟩⟩ := h
 ·cases e
 ·injection e with e1
  injection e1 with e1
  injection e1 with e1
  omega
set_option maxRecDepth 100000 in
theorem clone_any (v : Value) (l : List Int) (w : World) (hv : Bs w v l) (hl : l.length ≤ 549755813888) :
  Calls Tryd.prog 92 #[v] w fun e w' => ∃ v', e = .returned v' ∧ KIs w' (fun b => w.heap.size ≤ b) v' l ∧ Below w.heap.size w w' := by
 obtain ⟨i0, hi, hz0, hz1, hz2⟩ := info_parts info5
 obtain ⟨a, cap, rfl, h1, h2⟩ := id hv
 have HV := hid hv
 have q22 : ∀ (u : World) (a : Option Addr) (n c n' c' : Nat), (binOp .eql 31 (.slice a n c) (.slice none n' c')).run Tryd.prog u = .ok (.bool a.isNone) u := fun u a n c n' c' => Lib.run_eql_slice_nil u _ _ a n c n' c' Tryd.underlying31
 cases a with
 | none =>
  have h0 : cap = 0 := h1.2 rfl
  have hl0 : l.length = 0 := by omega
  have hl1 : l = [] := List.eq_nil_of_length_eq_zero hl0
  subst h0 hl1
  clear hv h1 h2
  go_enter Tryd.func92, Tryd.ntmps92
  go_wp2_with fail
  go_ret
  exact ⟨_, rfl, KIs.nil _ _, Below.refl _ _⟩
 | some a =>
  clear hv h1 h2
  go_enter Tryd.func92, Tryd.ntmps92
  go_wp2_with (first
   | (refine wpList_build_empty (o := ⟨some 5, _, _, _, _, _⟩) rfl 31 5 1 rfl (fun u => by kernel_rfl) ?_; intro v5 w5 hown5 hb5 ho5 hs5; have HO5 := hid hown5; have HB5 := hid hb5; have HS5 := hid hs5; have HQ5 := hid ho5; clear hown5 hb5 ho5 hs5)
   | (at_builtin; refine wpList_append_bs (o := ⟨some 7, _, _, _, _, _⟩) rfl (Operand.tmp 5) (Operand.tmp 6) 31 rfl w.heap.size 5 i0 Tryd.underlying31 hi hz0 hz1 hz2 v5 0 [] rfl HO5.out (.slice (some a) l.length cap) l rfl (HV.out.below HB5.out) (by omega) (by rw [HS5.out]; omega) ?_; intro v7 w7 hown7 hg7; have HO7 := hid hown7; have HG7 := hid hg7; clear hown7 hg7))
  refine bodyPost_ret (v := v7) (by simp [results, Tryd.results92, go_sem]) rfl ?_
  have ho := HO7.out
  rw [Nat.zero_add, List.nil_append] at ho
  have hg := HG7.out
  rw [HQ5.out] at hg
  exact ⟨_, rfl, own_kis ho, HB5.out.trans (below_of_grownBy hg (by rw [HS5.out]; omega) (Nat.le_refl _))⟩
end Go.Proofs.YtbmlkocpjboodaaDoor
/- stage 7: numbers, nodes -/
namespace Go.Proofs.YtbmlkocpjboodaaDoor
open Go.RowKit
open Go.Lib (hid)
theorem lit_bs (w : World) (T : TypeId) (C : List Int) (fr : Nat × Nat) (n c : Nat) (hn : C.length = n) (hc : n ≤ c) : Bs (w.alloc (.cells (C.map (Value.int .u8)).toArray T fr)) (.slice (some ⟨w.heap.size, 0, none⟩) n c) C := by
 subst hn
 refine ⟨some ⟨w.heap.size, 0, none⟩, c, rfl, ⟨hc, fun e => by cases e⟩, fun hl => ⟨w.heap.size, 0, rfl, by simp, fun i hi => ?_⟩⟩
 rw [cell_of_row _ w.heap.size _ _ _ _ (heap_alloc_new _ _)]
 simp [hi]
set_option maxRecDepth 100000 in
set_option maxHeartbeats 1000000 in
theorem mnum_any (v : Value) (n B : Nat) (xs : List Value) (k : Nat) (w : World) (hown : w.ownsRow B 5 1 v n xs) (hB : B ≤ w.heap.size) (hn : n + 8 ≤ 1099511627776) (hk : k < 9223372036854775808) :
  Calls Tryd.prog 87 #[v, .int .i64 k] w fun e w' => ∃ v', e = .returned v' ∧ w'.ownsRow B 5 1 v' (n + 8) (xs ++ (be8 k).map (Value.int .u8)) ∧ Below B w w' := by
 obtain ⟨i0, hi, hz0, hz1, hz2⟩ := info_parts info5
 have HO := hid hown
 have HK := hid hk
 clear hown hk
 go_enter Tryd.func87, Tryd.ntmps87
 go_wp2_with fail
 go_loopw [0, 5] (fun v0 s wr => ∃ j : Nat, j ≤ 8 ∧ s = .int .i64 (56 - 8 * (j : Int)) ∧ wr.ownsRow B 5 1 v0 (n + j) (xs ++ ((be8 k).take j).map (Value.int .u8)) ∧ Below B w wr)
  (fun _ s _ => (intOf s + 8).toNat)
 case atStart => exact ⟨0, by omega, by simp, by simpa using HO.out, Below.refl _ _⟩
 case round =>
  obtain ⟨j, hj, rfl, hown, hbw⟩ := hrel
  have hsz := hbw.size
  by_cases hlt : j < 8
  ·have hb := be8_take_succ k j hlt
   have HB := hid hb
   have HBW := hid hbw
   have HOW := hid hown
   clear hb hbw hown
   go_wp2_with (at_builtin; refine wpList_append_own _ rfl (Operand.tmp 10) (Operand.tmp 15) 31 rfl B 5 i0 (.int .u8 0) 1 1 Tryd.underlying31 hi hz0 hz1 hz2 rfl (by decide) _ _ _ rfl (HOW.out.alloc _) ⟨wr.heap.size, 0, none⟩ 1 1 [.int .u8 (beAt k j)] rfl rfl (cell_one_new _ _ _) (by intro u hu; simp at hu; subst hu; rfl) (by unfold maxLen; omega) (by omega) (by simp; omega) ?_; intro v' w1 hown' hgrow _; have HO1 := hid hown'; have HG1 := hid hgrow; clear hown' hgrow)
   go_roundw
   case rel =>
    refine ⟨j + 1, by omega, by congr 1; omega, ?_, ?_⟩
    ·rw [HB.out]; simpa [Nat.add_assoc] using HO1.out
    ·exact (HBW.out.alloc (by omega) _).grown HG1.out (by simp; omega) (fun g hg => (HOW.out.lt g hg).1)
   case measure => simp [intOf]; omega
  ·have hj8 : j = 8 := by omega
   rw [hj8] at hown
   have e8 : (be8 k).take 8 = be8 k := List.take_of_length_le (by rw [be8_len]; omega)
   rw [e8] at hown
   have hj9 : 8 ≤ j := by omega
   have HBW := hid hbw
   have HOW := hid hown
   clear hbw hown hj8 e8 hlt
   go_wp2_with fail
   go_ret
   exact ⟨_, rfl, HOW.out, HBW.out⟩
/-- trees: empty, pruned, a node -/
inductive MT
 | nil
 | cut (d : List Int)
 | nd (key : List Int) (cnt : Nat) (rk dg : List Int) (l r : MT)
/-- the text of the empty tree; that of a node -/
def txt0 : List Int := joined [[101, 109, 112, 116, 121]]
def txtN (key : List Int) (cnt : Nat) (dl dr : List Int) : List Int := joined [[110, 111, 100, 101], dl, key, be8 cnt, dr]
/-- the digest of a tree -/
def MT.dg : MT → List Int
 | .nil => sha txt0
 | .cut d => d
 | .nd _ _ _ d _ _ => d
def MT.txt : MT → List Int
 | .nil => txt0
 | .cut _ => txtN [] 0 (sha txt0) (sha txt0)
 | .nd k n _ _ l r => txtN k n l.dg r.dg
/-- a tree's digests are those of its texts; its keys and numbers are in range -/
def MT.Good : MT → Prop
 | .nil => True
 | .cut d => d.length = 32 ∧ Rng d
 | .nd k n rk d l r => d = sha (txtN k n l.dg r.dg) ∧ l.Good ∧ r.Good ∧ k.length ≤ 65535 ∧ Rng k ∧ n < 9223372036854775808 ∧ rk.length = 32 ∧ Rng rk
/-- the cells of a node -/
def ndC (kv : Value) (n : Nat) (rk : List Int) (lp rp : Value) (dg : List Int) (pr : Bool) : Array Value := ([kv, Value.int .i64 n] ++ (rk.map (Value.int .u8) ++ ([lp, rp] ++ (dg.map (Value.int .u8) ++ [Value.bool pr])))).toArray
section
variable {kv lp rp : Value} {n : Nat} {rk dg : List Int} {pr : Bool}
theorem ndC_0 : (ndC kv n rk lp rp dg pr)[0]? = some kv := rfl
theorem ndC_1 : (ndC kv n rk lp rp dg pr)[1]? = some (.int .i64 n) := rfl
theorem ndC_l (h1 : rk.length = 32) : (ndC kv n rk lp rp dg pr)[34]? = some lp := by
 unfold ndC
 rw [List.getElem?_toArray, List.getElem?_append_right (by first | (simp; done) | (simp; omega)), List.getElem?_append_right (by first | (simp [h1]; done) | (simp [h1]; omega))]
 simp [h1]
theorem ndC_r (h1 : rk.length = 32) : (ndC kv n rk lp rp dg pr)[35]? = some rp := by
 unfold ndC
 rw [List.getElem?_toArray, List.getElem?_append_right (by first | (simp; done) | (simp; omega)), List.getElem?_append_right (by first | (simp [h1]; done) | (simp [h1]; omega))]
 simp [h1]
theorem ndC_dg (h1 : rk.length = 32) (h2 : dg.length = 32) (i : Nat) (hi : i < 32) : (ndC kv n rk lp rp dg pr)[36 + i]? = (dg.map (Value.int .u8))[i]? := by
 unfold ndC
 rw [List.getElem?_toArray, List.getElem?_append_right (by first | (simp; done) | (simp; omega)), List.getElem?_append_right (by first | (simp [h1]; done) | (simp [h1]; omega)), List.getElem?_append_right (by first | (simp [h1]; done) | (simp [h1]; omega)), List.getElem?_append_left (by first | (simp [h1, h2]; done) | (simp [h1, h2]; omega))]
 congr 1
 rw [List.length_map, h1]
 simp only [List.length_cons, List.length_nil]
 omega
theorem ndC_pr (h1 : rk.length = 32) (h2 : dg.length = 32) : (ndC kv n rk lp rp dg pr)[68]? = some (.bool pr) := by
 unfold ndC
 rw [List.getElem?_toArray, List.getElem?_append_right (by first | (simp; done) | (simp; omega)), List.getElem?_append_right (by first | (simp [h1]; done) | (simp [h1]; omega)), List.getElem?_append_right (by first | (simp [h1]; done) | (simp [h1]; omega)), List.getElem?_append_right (by first | (simp [h1, h2]; done) | (simp [h1, h2]; omega))]
 simp [h1, h2]
end
/-- the value p reads as the tree t; all its blocks lie in S -/
def MIs (w : World) (S : Nat → Prop) : Value → MT → Prop
 | p, .nil => p = .pointer none
 | p, .cut d => ∃ b, p = .pointer (some ⟨b, 0, none⟩) ∧ S b ∧ d.length = 32 ∧ w.heap[b]? = some (.cells (ndC (.slice none 0 0) 0 (zeros 32) (.pointer none) (.pointer none) d true) 115 (0, 0))
 | p, .nd k n rk d l r => ∃ b kv lp rp, p = .pointer (some ⟨b, 0, none⟩) ∧ S b ∧ rk.length = 32 ∧ d.length = 32 ∧ w.heap[b]? = some (.cells (ndC kv n rk lp rp d false) 115 (0, 0)) ∧ KIs w S kv k ∧ MIs w S lp l ∧ MIs w S rp r
theorem blk_lt {w : World} {b : Nat} {o : Obj} (h : w.heap[b]? = some o) : b < w.heap.size := (Array.getElem?_eq_some_iff.1 h).1
theorem MIs.chg {w w' : World} {S : Nat → Prop} (hc : w.heap.size ≤ w'.heap.size) (hb : ∀ b, b < w.heap.size → S b → w'.heap[b]? = w.heap[b]?) : ∀ {t : MT} {p : Value}, MIs w S p t → MIs w' S p t
 | .nil, _, h => h
 | .cut d, _, ⟨b, e, hs, hl, hx⟩ => ⟨b, e, hs, hl, (hb b (blk_lt hx) hs).trans hx⟩
 | .nd k n rk d l r, _, ⟨b, kv, lp, rp, e, hs, h1, h2, hx, hk, hl, hr⟩ => ⟨b, kv, lp, rp, e, hs, h1, h2, (hb b (blk_lt hx) hs).trans hx, hk.chg hc hb, MIs.chg hc hb hl, MIs.chg hc hb hr⟩
theorem MIs.below {w w' : World} {S : Nat → Prop} {t : MT} {p : Value} (h : MIs w S p t) (hb : Below w.heap.size w w') : MIs w' S p t := h.chg hb.size (fun b hl _ => hb.block b hl)
theorem KIs.below {w w' : World} {S : Nat → Prop} {v : Value} {l : List Int} (h : KIs w S v l) (hb : Below w.heap.size w w') : KIs w' S v l := h.chg hb.size (fun b hl _ => hb.block b hl)
theorem KIs.mono {w : World} {S S' : Nat → Prop} {v : Value} {l : List Int} (h : KIs w S v l) (hs : ∀ b, S b → S' b) : KIs w S' v l := ⟨h.1, fun b o n c e h0 => hs b (h.2 b o n c e h0)⟩
theorem MIs.mono {w : World} {S S' : Nat → Prop} (hs : ∀ b, S b → S' b) : ∀ {t : MT} {p : Value}, MIs w S p t → MIs w S' p t
 | .nil, _, h => h
 | .cut _, _, ⟨b, e, h, hl, hx⟩ => ⟨b, e, hs b h, hl, hx⟩
 | .nd .., _, ⟨b, kv, lp, rp, e, h, h1, h2, hx, hk, hl, hr⟩ => ⟨b, kv, lp, rp, e, hs b h, h1, h2, hx, hk.mono hs, hl.mono hs, hr.mono hs⟩
end Go.Proofs.YtbmlkocpjboodaaDoor
/- words of the shelf: which blocks have changed; runs of single operations -/
namespace Go.Proofs.YtbmlkocpjboodaaDoor
open Go.RowKit
open Go.Lib (hid)
/-- only blocks of F, and new ones, have changed -/
structure Chg (F : Nat → Prop) (w w' : World) : Prop where
 os : w'.os = w.os
 tape : w'.tape = w.tape
 output : w'.output = w.output
 size : w.heap.size ≤ w'.heap.size
 block : ∀ k, k < w.heap.size → ¬ F k → w'.heap[k]? = w.heap[k]?
theorem Chg.refl (F : Nat → Prop) (w : World) : Chg F w w := ⟨rfl, rfl, rfl, Nat.le_refl _, fun _ _ _ => rfl⟩
theorem Chg.trans {F G : Nat → Prop} {a b c : World} (h : Chg F a b) (k : Chg G b c) (hg : ∀ i, G i → F i ∨ a.heap.size ≤ i) : Chg F a c :=
 ⟨k.os.trans h.os, k.tape.trans h.tape, k.output.trans h.output, Nat.le_trans h.size k.size, fun i hi hr => (k.block i (Nat.lt_of_lt_of_le hi h.size) (fun e => (hg i e).elim hr (fun h => by omega))).trans (h.block i hi hr)⟩
theorem Chg.mono {F G : Nat → Prop} {a b : World} (h : Chg F a b) (hg : ∀ i, F i → G i) : Chg G a b := ⟨h.os, h.tape, h.output, h.size, fun k hk hn => h.block k hk (fun e => hn (hg k e))⟩
theorem Chg.grown {F : Nat → Prop} {a b : World} {row : Option Nat} (h : a.grownBy b row) (hr : ∀ k, row = some k → F k) : Chg F a b :=
 ⟨h.os, h.tape, h.output, h.size, fun k hk hn => h.block k hk (fun e => hn (hr k e.symm))⟩
theorem Chg.fresh {F : Nat → Prop} {a b : World} (h : Below a.heap.size a b) : Chg F a b := ⟨h.os, h.tape, h.output, h.size, fun k hk _ => h.block k hk⟩
theorem Chg.below {F : Nat → Prop} {B : Nat} {a b : World} (h : Chg F a b) (hB : ∀ k, F k → B ≤ k) (hs : B ≤ a.heap.size) : Below B a b :=
 ⟨h.os, h.tape, h.output, h.size, fun k hk => h.block k (by omega) (fun e => by have := hB k e; omega)⟩
theorem Chg.drew {F : Nat → Prop} {a b : World} (h : Chg F a b) : Chg F a b.drew := ⟨h.os, h.tape, h.output, h.size, h.block⟩
theorem Chg.alloc {F : Nat → Prop} {a b : World} (h : Chg F a b) (o : Obj) : Chg F a (b.alloc o) :=
 ⟨h.os, h.tape, h.output, by have := h.size; simp; omega, fun k hk hn => (Below.heap_alloc b o k (Nat.lt_of_lt_of_le hk h.size)).trans (h.block k hk hn)⟩
theorem Chg.setCell {F : Nat → Prop} {a b : World} (h : Chg F a b) (p : Addr) (v : Value) (hp : F p.block ∨ a.heap.size ≤ p.block) : Chg F a (b.setCell p v) :=
 h.trans (G := fun k => k = p.block) (Chg.grown (grownBy_setCell b p v) (fun k hk => by injection hk with hk; exact hk.symm)) (fun i hi => by subst hi; exact hp)
theorem wpList_of_run {P : Program} {ops : Array Oper} {rest : List Oper} {o : Oper} {a : Act} {w w' : World} {v : Value} {Q : Exit → Act → World → Prop} (hg : o.guard = none) (hr : (execOp a.eval o).run P w = .ok (.value v) w') (h : wpList P ops Q rest (a.put o.dst v) w') : wpList P ops Q (o :: rest) a w :=
 wpList_plain hg fun K hK => by
  unfold Oper.wp
  simp [hr]
  exact hK _ _ h
theorem wpList_store_new {P : Program} {ops : Array Oper} {rest : List Oper} {o : Oper} {a : Act} {w0 : World} {Q : Exit → Act → World → Prop} (hgd : o.guard = none) (ty : TypeId) (x y : Operand) (ho : o.op = .store ty x y)
  (H : Nat) (cells : Array Value) (hx : a.eval x = .pointer (some ⟨H, 0, none⟩)) (hy : a.eval y = .agg cells) (hH : w0.heap.size = H)
  (old : Array Value) (T : TypeId) (hi : (P.info? ty).map (·.size) = some cells.size) (hold : old.size = cells.size) (h1 : cells.all (·.oneCell') = true)
  (h : ∀ w', w'.heap[H]? = some (.cells cells T (0, 0)) → Below H w0 w' → w'.heap.size = H + 1 → wpList P ops Q rest (a.put o.dst undef) w') : wpList P ops Q (o :: rest) a (w0.alloc (.cells old T)) := by
 subst hH
 refine wpList_store_row hgd ty x y ho w0.heap.size cells hx hy T old (heap_alloc_new _ _) hi hold h1 (h _ (setRow_heap _ _ _ _ _ _ (heap_alloc_new _ _)) ?_ ?_)
 ·exact below_setRow ((Below.refl _ _).alloc (Nat.le_refl _) _) (Nat.le_refl _) _
 ·simp [World.setRow]
theorem wpList_store_nw {P : Program} {ops : Array Oper} {rest : List Oper} {o : Oper} {a : Act} {w : World} {Q : Exit → Act → World → Prop} (hgd : o.guard = none) (ty : TypeId) (x y : Operand) (ho : o.op = .store ty x y) (w0 : World) (old : Array Value) (T : TypeId) (hw : w = w0.alloc (.cells old T))
  (H : Nat) (cells : Array Value) (hx : a.eval x = .pointer (some ⟨H, 0, none⟩)) (hy : a.eval y = .agg cells) (hH : w0.heap.size = H) (hi : (P.info? ty).map (·.size) = some cells.size) (hold : old.size = cells.size) (h1 : cells.all (·.oneCell') = true)
  (h : ∀ w', w'.heap[H]? = some (.cells cells T (0, 0)) → Below H w0 w' → w'.heap.size = H + 1 → wpList P ops Q rest (a.put o.dst undef) w') : wpList P ops Q (o :: rest) a w := by
 subst hw
 exact wpList_store_new hgd ty x y ho H cells hx hy hH old T hi hold h1 h
theorem wpList_of_runG {P : Program} {ops : Array Oper} {rest : List Oper} {o : Oper} {a : Act} {w w' : World} {v : Value} {Q : Exit → Act → World → Prop} (hw : Region.wanted o (yielded ops a.tmps) = true) (hr : (execOp a.eval o).run P w = .ok (.value v) w') (h : wpList P ops Q rest (a.put o.dst v) w') : wpList P ops Q (o :: rest) a w :=
 wpList_step fun K hK => by
  rw [if_pos hw]
  unfold Oper.wp
  simp [hr]
  exact hK _ _ h
end Go.Proofs.YtbmlkocpjboodaaDoor
/- stage 7: text and digest of trees -/
namespace Go.Proofs.YtbmlkocpjboodaaDoor
open Go.RowKit
open Go.Lib (hid)
theorem dig_len' (s : S8) : (dig s).length = 32 := by simp [dig, S8.list]
theorem sha_len (l : List Int) : (sha l).length = 32 := dig_len' _
theorem MT.Good.dlen {t : MT} (h : t.Good) : t.dg.length = 32 := by
 cases t with
 | nil => exact sha_len _
 | cut d => exact h.1
 | nd k n rk d l r => rw [show (MT.nd k n rk d l r).dg = d from rfl, h.1]; exact sha_len _
theorem pss_lit {u : World} (w : World) (T : TypeId) (fr : Nat × Nat) (xs : List Value) (ps : List (List Int)) (n g : Nat) (hu : u = w.alloc (.cells xs.toArray T fr)) (hg : w.heap.size = g) (hn : xs.length = n) (hl : xs.length = ps.length) (hb : ∀ (i : Nat) (x : Value), xs[i]? = some x → Bs w x (ps[i]?.getD [])) : Pss u (.slice (some ⟨g, 0, none⟩) n n) ps := by
 subst hn hu hg
 refine ⟨some ⟨w.heap.size, 0, none⟩, xs.length, by rw [hl], ⟨by omega, fun e => by cases e⟩, fun h0 => ⟨w.heap.size, 0, rfl, by simp, fun i hi => ?_⟩⟩
 obtain ⟨x, hx⟩ : ∃ x, xs[i]? = some x := ⟨_, List.getElem?_eq_getElem (by omega)⟩
 refine ⟨x, ?_, (hb i x hx).below ((Below.refl _ _).alloc (Nat.le_refl _) _)⟩
 rw [Nat.zero_add, cell_of_row _ w.heap.size _ _ _ _ (heap_alloc_new _ _), List.getElem?_toArray]
 exact hx
theorem join_kis (v : Value) (ps : List (List Int)) (w : World) (hv : Pss w v ps) (hj : jlen ps ≤ 549755813888) :
  Calls Tryd.prog 52 #[v] w fun e w' => ∃ v', e = .returned v' ∧ KIs w' (fun b => w.heap.size ≤ b) v' (joined ps) ∧ Below w.heap.size w w' := by
 refine (join_any v ps w hv hj).mono ?_
 rintro e w' ⟨v', rfl, ho, hb⟩
 rw [← joined_len] at ho
 exact ⟨v', rfl, own_kis ho, hb⟩
theorem KIs.form {w : World} {S : Nat → Prop} {v : Value} {l : List Int} (h : KIs w S v l) : ∃ a c, v = .slice a l.length c := by
 obtain ⟨⟨a, c, h, _⟩, _⟩ := h
 exact ⟨a, c, h⟩
set_option maxRecDepth 100000 in
theorem ntext_nil (w : World) :
  Calls Tryd.prog 65 #[.pointer none] w fun e w' => ∃ v', e = .returned v' ∧ KIs w' (fun b => w.heap.size ≤ b) v' txt0 ∧ Below w.heap.size w w' := by
 have kc := fun (w : World) (C : Array Value) (n c : Nat) => Lib.run_convert_bytes_const (P := Tryd.prog) w 31 5 C n c Tryd.underlying31 Tryd.underlying5
 go_enter Tryd.func65, Tryd.ntmps65
 go_wp2_with fail
 have hb0 : Bs (w.alloc (.cells #[.int .u8 101, .int .u8 109, .int .u8 112, .int .u8 116, .int .u8 121] 5 (5, 6))) (.slice (some ⟨w.heap.size, 0, none⟩) 5 5) [101, 109, 112, 116, 121] := lit_bs w 5 [101, 109, 112, 116, 121] (5, 6) 5 5 rfl (Nat.le_refl _)
 have hs1 : (w.alloc (.cells #[.int .u8 101, .int .u8 109, .int .u8 112, .int .u8 116, .int .u8 121] 5 (5, 6))).heap.size = w.heap.size + 1 := by simp
 have hb1 : Below w.heap.size w (w.alloc (.cells #[.int .u8 101, .int .u8 109, .int .u8 112, .int .u8 116, .int .u8 121] 5 (5, 6))) := (Below.refl _ _).alloc (Nat.le_refl _) _
 generalize w.alloc (.cells #[.int .u8 101, .int .u8 109, .int .u8 112, .int .u8 116, .int .u8 121] 5 (5, 6)) = w1 at *
 have hps := pss_lit w1 31 (0, 0) [.slice (some ⟨w.heap.size, 0, none⟩) 5 5] [[101, 109, 112, 116, 121]] 1 (w.heap.size + 1) rfl hs1 rfl rfl (fun i x hi => by
  cases i with
  | zero => injection hi with hi; subst hi; exact hb0
  | succ i => cases hi)
 refine (join_kis _ _ _ hps (by decide)).mono ?_
 rintro e w2 ⟨v2, rfl, hk, hb2⟩
 obtain ⟨a2, c2, rfl⟩ := hk.form
 have hb4 : Below w1.heap.size w1 (w1.alloc (.cells #[.slice (some ⟨w.heap.size, 0, none⟩) 5 5] 31)) := (Below.refl _ _).alloc (Nat.le_refl _) _
 have hb3 := hb1.trans ((hb4.trans (hb2.mono hb4.size)).mono (by omega))
 have HK := hid (hk.mono (S' := fun b => w.heap.size ≤ b) (fun b hb => by have := hb4.size; omega))
 have HB := hid hb3
 clear hk hb0 hb1 hb2 hb3 hb4 hps hs1
 go_wp2_with fail
 go_ret
 exact ⟨_, rfl, HK.out, HB.out⟩
theorem sz32 (l : List Int) (h : l.length = 32) : (ArrU8 l).size = 32 := by simp [ArrU8, h]
theorem info_dg : (Tryd.prog.info? 36).map (·.size) = some 32 := by kernel_rfl
set_option maxRecDepth 100000 in
theorem nsum_nil (w : World) (hK : KC w) :
  Calls Tryd.prog 34 #[.pointer none] w fun e w' => e = .returned (.agg (ArrU8 (sha txt0))) ∧ Below w.heap.size w w' := by
 have HKC := hid hK
 have HT := hid (fun u => ntext_nil u)
 have HS32 := hid (sz32 (sha txt0) (sha_len _))
 have HI := hid (show (Tryd.prog.info? 36).map (·.size) = some (ArrU8 (sha txt0)).size by rw [HS32.out]; exact info_dg)
 clear hK
 go_enter Tryd.func34, Tryd.ntmps34
 go_wp2_with fail
 obtain ⟨w1, hw1⟩ : ∃ w1 : World, w1 = w.alloc (.cells ((List.replicate 32 (Value.int .u8 0)).toArray) 36) := ⟨_, rfl⟩
 change Calls _ _ _ (w.alloc (.cells ((List.replicate 32 (Value.int .u8 0)).toArray) 36)) _
 rw [← hw1]
 have b1 : Below w.heap.size w w1 := by rw [hw1]; exact (Below.refl _ _).alloc (Nat.le_refl _) _
 have r1 : w1.heap[w.heap.size]? = some (.cells ((List.replicate 32 (Value.int .u8 0)).toArray) 36 (0,0)) := by rw [hw1]; exact heap_alloc_new _ _
 have B1 := hid b1
 have R1 := hid r1
 have L1 := hid (blk_lt r1)
 clear hw1 b1 r1
 refine (HT.out _).mono ?_
 rintro e w2 ⟨v2, rfl, hk, hb2⟩
 obtain ⟨a2, c2, rfl⟩ := hk.form
 have HSM := hid (sum_any _ _ w2 hk.1 ((HKC.out.below B1.out HKC.out.1).below hb2 (Nat.lt_of_lt_of_le HKC.out.1 B1.out.size)) (by show txt0.length < _; decide +kernel))
 have B2 := hid hb2
 clear hk hb2
 go_wp2_with fail
 refine HSM.out.mono ?_
 rintro e w3 ⟨rfl, hb3⟩
 have l1 := L1.out
 have l2 := B2.out.size
 have g3 := (hb3.block w.heap.size (by omega)).trans ((B2.out.block w.heap.size l1).trans R1.out)
 have G3 := hid g3
 have B3 := hid (B1.out.trans ((B2.out.trans (hb3.mono l2)).mono (by omega)))
 clear g3 hb3 HSM
 go_wp2_with (first | (refine wpList_store_row rfl 36 (Operand.tmp 2) (Operand.tmp 7) rfl w.heap.size (ArrU8 (sha txt0)) rfl rfl 36 _ G3.out HI.out HS32.out.symm (ArrU8_one _) ?_) | fail)
 refine bodyPost_ret (results_cell_row rfl _ _ w.heap.size 36 (ArrU8 (sha txt0)) (0,0) _ rfl (setRow_heap _ _ _ _ _ _ G3.out) Tryd.underlying36 rfl HI.out) rfl ⟨rfl, ?_⟩
 exact below_setRow B3.out (by omega) _
/-- a node's digest, read out of its block -/
theorem ndC_range {w : World} {b : Nat} {kv lp rp : Value} {n : Nat} {rk dg : List Int} {pr : Bool} (h : w.heap[b]? = some (.cells (ndC kv n rk lp rp dg pr) 115 (0, 0))) (h1 : rk.length = 32) (h2 : dg.length = 32) : w.rangeAt b 36 (dg.map (Value.int .u8)) := fun j x hj => by
 have hl : j < dg.length := by have := (List.getElem?_eq_some_iff.1 hj).1; simpa using this
 rw [cell_of_row _ b _ _ _ _ h, ndC_dg h1 h2 j (by omega), hj]
set_option maxRecDepth 100000 in
theorem nsum_blk (w : World) (b : Nat) (kv lp rp : Value) (n : Nat) (rk dg : List Int) (pr : Bool) (h : w.heap[b]? = some (.cells (ndC kv n rk lp rp dg pr) 115 (0, 0))) (h1 : rk.length = 32) (h2 : dg.length = 32) :
  Calls Tryd.prog 34 #[.pointer (some ⟨b, 0, none⟩)] w fun e w' => e = .returned (.agg (ArrU8 dg)) ∧ Below w.heap.size w w' := by
 have HS32 := hid (sz32 dg h2)
 have HI := hid (show (Tryd.prog.info? 36).map (·.size) = some (ArrU8 dg).size by rw [HS32.out]; exact info_dg)
 have HIM := hid (show (Tryd.prog.info? 36).map (·.size) = some (dg.map (Value.int .u8)).length by rw [List.length_map, h2]; exact info_dg)
 have hbl := blk_lt h
 have hr := ndC_range h h1 h2
 have HRG := hid (fun o : Obj => show (w.alloc o).rangeAt b 36 (dg.map (Value.int .u8)) from fun k x hk => (World.cell?_alloc_lt w o ⟨b, 36 + k, none⟩ hbl).trans (hr k x hk))
 clear h h1 h2 hr hbl
 go_enter Tryd.func34, Tryd.ntmps34
 go_wp2_with (first
  | (refine wpList_load_mid rfl 36 (Operand.tmp 10) rfl b 36 rfl (dg.map (Value.int .u8)) _ (HRG.out _) Tryd.underlying36 rfl HIM.out ?_)
  | (refine wpList_store_row rfl 36 (Operand.tmp 2) (Operand.tmp 11) rfl w.heap.size (ArrU8 dg) rfl rfl 36 _ (heap_alloc_new _ _) HI.out HS32.out.symm (ArrU8_one _) ?_))
 refine bodyPost_ret (results_cell_row rfl _ _ w.heap.size 36 (ArrU8 dg) (0,0) _ rfl (setRow_heap _ _ _ _ _ _ (heap_alloc_new _ _)) Tryd.underlying36 rfl HI.out) rfl ⟨rfl, ?_⟩
 exact below_setRow ((Below.refl _ _).alloc (Nat.le_refl _) _) (Nat.le_refl _) _
theorem nsum_any {S : Nat → Prop} {t : MT} {p : Value} (w : World) (h : MIs w S p t) (hK : KC w) :
  Calls Tryd.prog 34 #[p] w fun e w' => e = .returned (.agg (ArrU8 t.dg)) ∧ Below w.heap.size w w' := by
 cases t with
 | nil => rw [show p = .pointer none from h]; exact nsum_nil w hK
 | cut d =>
  obtain ⟨b, rfl, -, hl, hx⟩ := h
  exact nsum_blk w b _ _ _ _ _ d _ hx (by simp [zeros]) hl
 | nd k n rk d l r =>
  obtain ⟨b, kv, lp, rp, rfl, -, h1, h2, hx, -⟩ := h
  exact nsum_blk w b _ _ _ _ _ d _ hx h1 h2
end Go.Proofs.YtbmlkocpjboodaaDoor
/- stage 7: a constant's bytes in any world; a box's array as a slice -/
namespace Go.Proofs.YtbmlkocpjboodaaDoor
open Go.RowKit
open Go.Lib (hid)
theorem run_mark (u : World) (g n c : Nat) (C : Array Value) (hg : u.heap[g]? = some (.cells C 5 (0, 0))) :
  ∃ u', (convert 31 31 (.slice (some ⟨g, 0, none⟩) n c)).run Tryd.prog u = .ok (.slice (some ⟨g, 0, none⟩) n c) u' ∧ u'.heap[g]? = some (.cells C 5 (C.size, C.size + 1)) ∧ Chg (fun q => q = g) u u' := by
 have hsh : u.shape? g = some (5, C.size) := by
  unfold World.shape?
  rw [hg]
 have hlt : g < u.heap.size := blk_lt hg
 refine ⟨u.freeze ⟨g, C.size, none⟩ 1, ?_, ?_, ?_⟩
 ·simp [convert, run_underlying Tryd.underlying31, run_underlying Tryd.underlying5, markStringish, hsh]
  try rfl
 ·unfold World.freeze
  rw [if_neg (by decide)]
  show (u.heap.modify g _)[g]? = _
  rw [Array.getElem?_modify, if_pos rfl, hg]
  rfl
 ·refine ⟨rfl, rfl, rfl, ?_, fun k hk hn => ?_⟩
  ·unfold World.freeze
   rw [if_neg (by decide)]
   show u.heap.size ≤ (u.heap.modify g _).size
   rw [Array.size_modify]
   exact Nat.le_refl _
  ·unfold World.freeze
   rw [if_neg (by decide)]
   show (u.heap.modify g _)[k]? = _
   rw [Array.getElem?_modify, if_neg (fun e => hn e.symm)]
theorem und36 : Tryd.prog.underlying 36 = some (.array (Tryd.prog.arrayLen 36) (Tryd.prog.elem 36)) := by kernel_rfl
theorem len36 : Tryd.prog.arrayLen 36 = 32 := by kernel_rfl
theorem size36 (u : World) : (sizeOf (Tryd.prog.elem 36)).run Tryd.prog u = .ok 1 u := by kernel_rfl
theorem slice32_all (u : World) (X : Nat) : (Instr.sliceAt 36 (.pointer (some ⟨X, 0, none⟩)) none none none).run Tryd.prog u = .ok (.slice (some ⟨X, 0, none⟩) 32 32) u := by
 rw [run_sliceAt_array_all u 36 ⟨X, 0, none⟩ und36, size36]
 simp [Result.andThen, slicedAt, len36, Addr.add_mid]
theorem box_bs {u : World} {g : Nat} {l : List Int} {T : TypeId} {fr : Nat × Nat} (h : u.heap[g]? = some (.cells (ArrU8 l) T fr)) (hl : l.length = 32) : Bs u (.slice (some ⟨g, 0, none⟩) 32 32) l := by
 refine ⟨some ⟨g, 0, none⟩, 32, by rw [hl], ⟨by omega, fun e => by cases e⟩, fun _ => ⟨g, 0, rfl, blk_lt h, fun i hi => ?_⟩⟩
 rw [Nat.zero_add, cell_of_row _ g _ _ _ _ h]
 simp [ArrU8, hi]
end Go.Proofs.YtbmlkocpjboodaaDoor
