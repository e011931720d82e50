/- a page given -/
import Derived.Test.YtdkjkibdncbibaaGreatCm15
import Derived.Test.YtdkjkibdncbibaaGreatProg
import Derived.Shelf.SlIterI.Nil
import Derived.Shelf.SortM.Plain
import Derived.Shelf.SortM.SortNone
import Derived.Shelf.SlMaps.Clone
namespace Go.Proofs.YtdkjkibdncbibaaGreat
open Go.RowKit
open Go.Lib (hid)
def alU (k : PK) (v : PV) : PV × Int × Int :=
 if 0 < hN v.h1 1 ∧ hN v.h1 1 < hN v.h1 0 then ahU k v (hN v.h1 1 : Nat)
 else if k.nb - k.sz ≤ (hN v.h1 0 : Nat) then (v, 0, 42)
 else (stU k { v with h1 := v.h1.set 0 (hN v.h1 0 + 1) } (hN v.h1 0 : Nat) (zeros 256), (hN v.h1 0 : Nat), 0)
set_option maxRecDepth 100000 in
set_option maxHeartbeats 4000000 in
theorem alloc_any (k : PK) (v : PV) (w : World) (h : PgS k v w) (hj : PJ k v) :
  Calls Tryz.prog 18 #[.pointer (some ⟨k.P, 0, none⟩)] w (AhEnds k v (alU k v) w) := by
 have HIL := hid (show (Tryz.prog.info? 63).map (·.size) = some ([.pointer (some ⟨k.D, 0, none⟩), .int .i64 k.sz] : List Value).length by kernel_rfl)
 have HI35 := hid (show (Tryz.prog.info? 50).map (·.size) = some 256 by kernel_rfl)
 have hbl : ∀ u : World, (Instr.build 50 #[]).run Tryz.prog u = .ok (.agg (ArrU8 (zeros 256))) u := fun u => by kernel_rfl
 have HB0 := hid (show w.drew.heap[k.P]? = some (.cells (PC k v) 82 (0, 0)) from h.box)
 have HC26 := hid ((PC_h1 (k := k) (v := v) 0 h.l0 h.l1 (by decide)).trans (HV_at v.h1 0 (by rw [h.l1]; decide)))
 have HC27 := hid ((PC_h1 (k := k) (v := v) 1 h.l0 h.l1 (by decide)).trans (HV_at v.h1 1 (by rw [h.l1]; decide)))
 have hd := h.fresh ((Below.refl _ w).drew)
 have HD := hid hd
 have HJ := hid hj
 have HA := hid (show alU k v = if 0 < hN v.h1 1 ∧ hN v.h1 1 < hN v.h1 0 then ahU k v (hN v.h1 1 : Nat) else if k.nb - k.sz ≤ (hN v.h1 0 : Nat) then (v, 0, 42) else (stU k { v with h1 := v.h1.set 0 (hN v.h1 0 + 1) } (hN v.h1 0 : Nat) (zeros 256), (hN v.h1 0 : Nat), 0) from rfl)
 have hu := hj.u1
 have hz := hj.z3
 have hz1 := hj.z1
 have hz2 := hj.z2
 have HW := hid (show Below w.heap.size w w.drew from (Below.refl _ w).drew)
 have HCU := hid hd.cN
 have HUU := hid (fun (hx : (hN v.h1 0 : Int) < k.nb - k.sz) => hj.used hx)
 have HNM := hid (fun x => hd.num 0 x (by decide))
 have HAH := hid (fun n hn => allocHead_any k v n w.drew hd hj hn)
 have HRG := hid hd.rg
 have hpg := pages_any k.B k.D k.M k.nb k.rm v.s.fz k.sz v.s.dn v.s.f v.s.L v.lv w.drew hd.ls.dk (by omega) (by omega)
 have HPG := hid hpg
 have HH := hid h
 clear h hj hd hpg
 generalize hN v.h1 1 = hd at *
 generalize hN v.h1 0 = us at *
 have husI : (us : Int) ≤ 4096 := by omega
 by_cases h0 : hd = 0
 ·subst h0
  have HAF := hid (show alU k v = if k.nb - k.sz ≤ (us : Nat) then (v, 0, 42) else (stU k { v with h1 := v.h1.set 0 (us + 1) } (us : Nat) (zeros 256), (us : Int), 0) by rw [HA.out, if_neg (by omega)])
  go_enter Tryz.func18, Tryz.ntmps18
  go_wp2_with fail
  refine wp_region_held_drew (S := fun u => u.heap[k.P]? = some (.cells (PC k v) 82 (0, 0))) (by kernel_rfl) (HB0.out) (fun hHeld => ?_)
  refine tk (i := 0) (oi := ⟨some 5, .move (.tmp 0), 30, "free.go:10", #[], none⟩) (v := ?_) (Or.inl ⟨by rfl, ?_⟩) ?_
  rotate_left 1
  ·(intro u hSw; go_simp; try with_reducible rfl)
  try simp only [Act.put, sA, sB, sC]
  refine tk (i := 1) (oi := ⟨some 6, .nilCheck (.tmp 5), 0, "free.go:10", #[⟨0, .data⟩], none⟩) (v := ?_) (Or.inl ⟨by rfl, ?_⟩) ?_
  rotate_left 1
  ·(intro u hSw; go_simp; try with_reducible rfl)
  try simp only [Act.put, sA, sB, sC]
  refine tk (i := 2) (oi := ⟨some 7, .fieldAddr 82 (.tmp 6) 6, 0, "free.go:10", #[⟨1, .data⟩], none⟩) (v := ?_) (Or.inl ⟨by rfl, ?_⟩) ?_
  rotate_left 1
  ·(intro u hSw; go_simp; try with_reducible rfl)
  try simp only [Act.put, sA, sB, sC]
  refine tk (i := 3) (oi := ⟨some 8, .fieldAddr 68 (.tmp 7) 1, 0, "free.go:10", #[⟨2, .data⟩], none⟩) (v := ?_) (Or.inl ⟨by rfl, ?_⟩) ?_
  rotate_left 1
  ·(intro u hSw; go_simp; try with_reducible rfl)
  try simp only [Act.put, sA, sB, sC]
  refine tk (i := 4) (oi := ⟨some 9, .load 60 (.tmp 8), 60, "free.go:10", #[⟨3, .data⟩], none⟩) (v := ?_) (Or.inl ⟨by rfl, ?_⟩) ?_
  rotate_left 1
  ·(intro u hSw; have c27 := (cell_of_row u k.P 27 _ _ _ hSw).trans HC27.out; go_simp; try with_reducible rfl)
  try simp only [Act.put, sA, sB, sC]
  refine tk (i := 5) (oi := ⟨some 10, .binOp BinOp.gtr 60 (.tmp 9) (.const (Value.int IntKind.u64 0)) 60, 4, "free.go:10", #[⟨4, .data⟩], none⟩) (v := ?_) (Or.inl ⟨by rfl, ?_⟩) ?_
  rotate_left 1
  ·(intro u hSw; go_simp; try with_reducible rfl)
  try simp only [Act.put, sA, sB, sC]
  refine tk (i := 6) (oi := ⟨some 11, .move (.tmp 10), 4, "free.go:10", #[⟨5, .data⟩], none⟩) (v := ?_) (Or.inl ⟨by rfl, ?_⟩) ?_
  rotate_left 1
  ·(intro u hSw; go_simp; try with_reducible rfl)
  try simp only [Act.put, sA, sB, sC]
  refine tk (i := 7) (oi := ⟨some 12, .move (.tmp 0), 30, "free.go:10", #[⟨6, .guard⟩], some (6, true)⟩) (v := undef) (by exact Or.inr ⟨by rfl, rfl⟩) ?_
  try simp only [Act.put, sA, sB, sC]
  refine tk (i := 8) (oi := ⟨some 13, .nilCheck (.tmp 12), 0, "free.go:10", #[⟨7, .data⟩, ⟨6, .guard⟩], some (6, true)⟩) (v := undef) (by exact Or.inr ⟨by rfl, rfl⟩) ?_
  try simp only [Act.put, sA, sB, sC]
  refine tk (i := 9) (oi := ⟨some 14, .fieldAddr 82 (.tmp 13) 6, 0, "free.go:10", #[⟨8, .data⟩, ⟨6, .guard⟩], some (6, true)⟩) (v := undef) (by exact Or.inr ⟨by rfl, rfl⟩) ?_
  try simp only [Act.put, sA, sB, sC]
  refine tk (i := 10) (oi := ⟨some 15, .fieldAddr 68 (.tmp 14) 1, 0, "free.go:10", #[⟨9, .data⟩, ⟨6, .guard⟩], some (6, true)⟩) (v := undef) (by exact Or.inr ⟨by rfl, rfl⟩) ?_
  try simp only [Act.put, sA, sB, sC]
  refine tk (i := 11) (oi := ⟨some 16, .load 60 (.tmp 15), 60, "free.go:10", #[⟨10, .data⟩, ⟨6, .guard⟩], some (6, true)⟩) (v := undef) (by exact Or.inr ⟨by rfl, rfl⟩) ?_
  try simp only [Act.put, sA, sB, sC]
  refine tk (i := 12) (oi := ⟨some 17, .move (.tmp 0), 30, "free.go:10", #[⟨6, .guard⟩], some (6, true)⟩) (v := undef) (by exact Or.inr ⟨by rfl, rfl⟩) ?_
  try simp only [Act.put, sA, sB, sC]
  refine tk (i := 13) (oi := ⟨some 18, .nilCheck (.tmp 17), 0, "free.go:10", #[⟨12, .data⟩, ⟨6, .guard⟩], some (6, true)⟩) (v := undef) (by exact Or.inr ⟨by rfl, rfl⟩) ?_
  try simp only [Act.put, sA, sB, sC]
  refine tk (i := 14) (oi := ⟨some 19, .fieldAddr 82 (.tmp 18) 6, 0, "free.go:10", #[⟨13, .data⟩, ⟨6, .guard⟩], some (6, true)⟩) (v := undef) (by exact Or.inr ⟨by rfl, rfl⟩) ?_
  try simp only [Act.put, sA, sB, sC]
  refine tk (i := 15) (oi := ⟨some 20, .fieldAddr 68 (.tmp 19) 0, 0, "free.go:10", #[⟨14, .data⟩, ⟨6, .guard⟩], some (6, true)⟩) (v := undef) (by exact Or.inr ⟨by rfl, rfl⟩) ?_
  try simp only [Act.put, sA, sB, sC]
  refine tk (i := 16) (oi := ⟨some 21, .load 60 (.tmp 20), 60, "free.go:10", #[⟨15, .data⟩, ⟨6, .guard⟩], some (6, true)⟩) (v := undef) (by exact Or.inr ⟨by rfl, rfl⟩) ?_
  try simp only [Act.put, sA, sB, sC]
  refine tk (i := 17) (oi := ⟨some 22, .binOp BinOp.lss 60 (.tmp 16) (.tmp 21) 60, 4, "free.go:10", #[⟨11, .data⟩, ⟨16, .data⟩, ⟨6, .guard⟩], some (6, true)⟩) (v := undef) (by exact Or.inr ⟨by rfl, rfl⟩) ?_
  try simp only [Act.put, sA, sB, sC]
  refine tk (i := 18) (oi := ⟨some 23, .pick (.tmp 11) (.tmp 22) (.const (Value.bool false)), 4, "free.go:10", #[⟨6, .data⟩, ⟨17, .data⟩], none⟩) (v := ?_) (Or.inl ⟨by rfl, ?_⟩) ?_
  rotate_left 1
  ·(intro u hSw; go_simp; try with_reducible rfl)
  try simp only [Act.put, sA, sB, sC]
  refine wpAnyH_done (by kernel_rfl) ?_ _
  have c26 := (cell_of_row w.drew k.P 26 _ _ _ HB0.out).trans HC26.out
  have hcv : IntKind.i64.wrap (us : Int) = (us : Int) := wrap_i64 _ (by omega) (by omega)
  have hcu : IntKind.u64.wrap ((us : Int) + 1) = ((us + 1 : Nat) : Int) := by rw [IntKind.wrap_u64]; omega
  go_wp2_with (first | (refine wpList_load_mid rfl 63 (Operand.tmp 43) rfl k.P 1 rfl _ _ HRG.out Tryz.underlying63 rfl HIL.out ?_) | fail)
  refine HPG.out.mono ?_
  rintro e wp ⟨rfl, hbp⟩
  have HPP := hid (HD.out.fresh (hbp.mono (Nat.le_refl _)))
  have HBP := hid (HW.out.trans (hbp.mono HW.out.size))
  clear c26 hbp
  by_cases hge : k.nb - k.sz ≤ (us : Int)
  ·have HR := hid (show alU k v = (v, 0, 42) by rw [HAF.out, if_pos hge])
   go_wp2_with fail
   go_ret2
   refine ⟨by rw [HR.out]; rfl, v.ov, ?_⟩
   rw [HR.out]
   exact PE.same HH.out HBP.out
  ·have HR := hid (show alU k v = (stU k { v with h1 := v.h1.set 0 (us + 1) } (us : Nat) (zeros 256), (us : Int), 0) by rw [HAF.out, if_neg hge])
   have hlt : (us : Int) < k.nb - k.sz := by omega
   have hnm := HPP.out.num 0 (us + 1) (by decide)
   have hj2 := HUU.out hlt
   have HST := hid (set_any k _ (us : Int) (zeros 256) _ hnm.1 hj2.pin ⟨by omega, hlt⟩ (zeros_len _))
   have HNM2 := hid hnm
   have c26 : wp.cell? ⟨k.P, 26, none⟩ = some (.int .u64 (us : Int)) := (cell_of_row wp k.P 26 _ _ _ HPP.out.box).trans HC26.out
   have f26 := frozen_of_row wp k.P 26 _ _ HPP.out.box
   clear hnm hj2 hge
   go_wp2_with fail
   refine HST.out.mono ?_
   rintro e wc ⟨rfl, ov3, hpe3⟩
   have HP5 := hid (PE.pre HBP.out (PE.trans HNM2.out hpe3))
   clear hpe3 c26 f26
   go_wp2_with fail
   go_ret2
   refine ⟨by rw [HR.out]; rfl, ov3, ?_⟩
   rw [HR.out]
   exact HP5.out
 ·have hpos : (0 : Int) < (hd : Int) := by omega
  go_enter Tryz.func18, Tryz.ntmps18
  go_wp2_with fail
  by_cases h1 : hd < us
  ·have HR := hid (show alU k v = ahU k v (hd : Nat) by rw [HA.out, if_pos (show 0 < hd ∧ hd < us from ⟨by omega, h1⟩)])
   have h1i : (hd : Int) < (us : Int) := by omega
   refine wp_region_held_drew (S := fun u => u.heap[k.P]? = some (.cells (PC k v) 82 (0, 0))) (by kernel_rfl) (HB0.out) (fun hHeld => ?_)
   refine tk (i := 0) (oi := ⟨some 5, .move (.tmp 0), 30, "free.go:10", #[], none⟩) (v := ?_) (Or.inl ⟨by rfl, ?_⟩) ?_
   rotate_left 1
   ·(intro u hSw; go_simp; try with_reducible rfl)
   try simp only [Act.put, sA, sB, sC]
   refine tk (i := 1) (oi := ⟨some 6, .nilCheck (.tmp 5), 0, "free.go:10", #[⟨0, .data⟩], none⟩) (v := ?_) (Or.inl ⟨by rfl, ?_⟩) ?_
   rotate_left 1
   ·(intro u hSw; go_simp; try with_reducible rfl)
   try simp only [Act.put, sA, sB, sC]
   refine tk (i := 2) (oi := ⟨some 7, .fieldAddr 82 (.tmp 6) 6, 0, "free.go:10", #[⟨1, .data⟩], none⟩) (v := ?_) (Or.inl ⟨by rfl, ?_⟩) ?_
   rotate_left 1
   ·(intro u hSw; go_simp; try with_reducible rfl)
   try simp only [Act.put, sA, sB, sC]
   refine tk (i := 3) (oi := ⟨some 8, .fieldAddr 68 (.tmp 7) 1, 0, "free.go:10", #[⟨2, .data⟩], none⟩) (v := ?_) (Or.inl ⟨by rfl, ?_⟩) ?_
   rotate_left 1
   ·(intro u hSw; go_simp; try with_reducible rfl)
   try simp only [Act.put, sA, sB, sC]
   refine tk (i := 4) (oi := ⟨some 9, .load 60 (.tmp 8), 60, "free.go:10", #[⟨3, .data⟩], none⟩) (v := ?_) (Or.inl ⟨by rfl, ?_⟩) ?_
   rotate_left 1
   ·(intro u hSw; have c27 := (cell_of_row u k.P 27 _ _ _ hSw).trans HC27.out; have c26 := (cell_of_row u k.P 26 _ _ _ hSw).trans HC26.out; go_simp; try with_reducible rfl)
   try simp only [Act.put, sA, sB, sC]
   refine tk (i := 5) (oi := ⟨some 10, .binOp BinOp.gtr 60 (.tmp 9) (.const (Value.int IntKind.u64 0)) 60, 4, "free.go:10", #[⟨4, .data⟩], none⟩) (v := .bool true) (Or.inl ⟨by rfl, ?_⟩) ?_
   ·intro u hSw
    have c27 := (cell_of_row u k.P 27 _ _ _ hSw).trans HC27.out
    go_simp
    omega
   try simp only [Act.put, sA, sB, sC]
   refine tk (i := 6) (oi := ⟨some 11, .move (.tmp 10), 4, "free.go:10", #[⟨5, .data⟩], none⟩) (v := ?_) (Or.inl ⟨by rfl, ?_⟩) ?_
   rotate_left 1
   ·(intro u hSw; go_simp; try with_reducible rfl)
   try simp only [Act.put, sA, sB, sC]
   refine tk (i := 7) (oi := ⟨some 12, .move (.tmp 0), 30, "free.go:10", #[⟨6, .guard⟩], some (6, true)⟩) (v := ?_) (Or.inl ⟨by rfl, ?_⟩) ?_
   rotate_left 1
   ·(intro u hSw; go_simp; try with_reducible rfl)
   try simp only [Act.put, sA, sB, sC]
   refine tk (i := 8) (oi := ⟨some 13, .nilCheck (.tmp 12), 0, "free.go:10", #[⟨7, .data⟩, ⟨6, .guard⟩], some (6, true)⟩) (v := ?_) (Or.inl ⟨by rfl, ?_⟩) ?_
   rotate_left 1
   ·(intro u hSw; go_simp; try with_reducible rfl)
   try simp only [Act.put, sA, sB, sC]
   refine tk (i := 9) (oi := ⟨some 14, .fieldAddr 82 (.tmp 13) 6, 0, "free.go:10", #[⟨8, .data⟩, ⟨6, .guard⟩], some (6, true)⟩) (v := ?_) (Or.inl ⟨by rfl, ?_⟩) ?_
   rotate_left 1
   ·(intro u hSw; go_simp; try with_reducible rfl)
   try simp only [Act.put, sA, sB, sC]
   refine tk (i := 10) (oi := ⟨some 15, .fieldAddr 68 (.tmp 14) 1, 0, "free.go:10", #[⟨9, .data⟩, ⟨6, .guard⟩], some (6, true)⟩) (v := ?_) (Or.inl ⟨by rfl, ?_⟩) ?_
   rotate_left 1
   ·(intro u hSw; go_simp; try with_reducible rfl)
   try simp only [Act.put, sA, sB, sC]
   refine tk (i := 11) (oi := ⟨some 16, .load 60 (.tmp 15), 60, "free.go:10", #[⟨10, .data⟩, ⟨6, .guard⟩], some (6, true)⟩) (v := ?_) (Or.inl ⟨by rfl, ?_⟩) ?_
   rotate_left 1
   ·(intro u hSw; have c27 := (cell_of_row u k.P 27 _ _ _ hSw).trans HC27.out; have c26 := (cell_of_row u k.P 26 _ _ _ hSw).trans HC26.out; go_simp; try with_reducible rfl)
   try simp only [Act.put, sA, sB, sC]
   refine tk (i := 12) (oi := ⟨some 17, .move (.tmp 0), 30, "free.go:10", #[⟨6, .guard⟩], some (6, true)⟩) (v := ?_) (Or.inl ⟨by rfl, ?_⟩) ?_
   rotate_left 1
   ·(intro u hSw; go_simp; try with_reducible rfl)
   try simp only [Act.put, sA, sB, sC]
   refine tk (i := 13) (oi := ⟨some 18, .nilCheck (.tmp 17), 0, "free.go:10", #[⟨12, .data⟩, ⟨6, .guard⟩], some (6, true)⟩) (v := ?_) (Or.inl ⟨by rfl, ?_⟩) ?_
   rotate_left 1
   ·(intro u hSw; go_simp; try with_reducible rfl)
   try simp only [Act.put, sA, sB, sC]
   refine tk (i := 14) (oi := ⟨some 19, .fieldAddr 82 (.tmp 18) 6, 0, "free.go:10", #[⟨13, .data⟩, ⟨6, .guard⟩], some (6, true)⟩) (v := ?_) (Or.inl ⟨by rfl, ?_⟩) ?_
   rotate_left 1
   ·(intro u hSw; go_simp; try with_reducible rfl)
   try simp only [Act.put, sA, sB, sC]
   refine tk (i := 15) (oi := ⟨some 20, .fieldAddr 68 (.tmp 19) 0, 0, "free.go:10", #[⟨14, .data⟩, ⟨6, .guard⟩], some (6, true)⟩) (v := ?_) (Or.inl ⟨by rfl, ?_⟩) ?_
   rotate_left 1
   ·(intro u hSw; go_simp; try with_reducible rfl)
   try simp only [Act.put, sA, sB, sC]
   refine tk (i := 16) (oi := ⟨some 21, .load 60 (.tmp 20), 60, "free.go:10", #[⟨15, .data⟩, ⟨6, .guard⟩], some (6, true)⟩) (v := ?_) (Or.inl ⟨by rfl, ?_⟩) ?_
   rotate_left 1
   ·(intro u hSw; have c27 := (cell_of_row u k.P 27 _ _ _ hSw).trans HC27.out; have c26 := (cell_of_row u k.P 26 _ _ _ hSw).trans HC26.out; go_simp; try with_reducible rfl)
   try simp only [Act.put, sA, sB, sC]
   refine tk (i := 17) (oi := ⟨some 22, .binOp BinOp.lss 60 (.tmp 16) (.tmp 21) 60, 4, "free.go:10", #[⟨11, .data⟩, ⟨16, .data⟩, ⟨6, .guard⟩], some (6, true)⟩) (v := .bool true) (Or.inl ⟨by rfl, ?_⟩) ?_
   ·(intro u hSw; go_simp; try with_reducible rfl)
   try simp only [Act.put, sA, sB, sC]
   refine tk (i := 18) (oi := ⟨some 23, .pick (.tmp 11) (.tmp 22) (.const (Value.bool false)), 4, "free.go:10", #[⟨6, .data⟩, ⟨17, .data⟩], none⟩) (v := ?_) (Or.inl ⟨by rfl, ?_⟩) ?_
   rotate_left 1
   ·(intro u hSw; go_simp; try with_reducible rfl)
   try simp only [Act.put, sA, sB, sC]
   refine wpAnyH_done (by kernel_rfl) ?_ _
   have c27 := (cell_of_row w.drew k.P 27 _ _ _ HB0.out).trans HC27.out
   have hcv : IntKind.i64.wrap (hd : Int) = (hd : Int) := wrap_i64 _ (by omega) (by omega)
   have HAA := hid (HAH.out (hd : Int) (by omega))
   go_wp2_with fail
   refine HAA.out.mono ?_
   rintro e wc ⟨rfl, ov3, hpe3⟩
   have HP5 := hid (PE.pre HW.out hpe3)
   rw [← HR.out] at HP5
   have HR2 := hid (show ahU k v (hd : Nat) = alU k v from HR.out.symm)
   clear hpe3 c27
   rw [HR2.out]
   generalize alU k v = r at *
   go_wp2_with fail
   go_ret2
   exact ⟨rfl, ov3, HP5.out⟩
  ·have HAF := hid (show alU k v = if k.nb - k.sz ≤ (us : Nat) then (v, 0, 42) else (stU k { v with h1 := v.h1.set 0 (us + 1) } (us : Nat) (zeros 256), (us : Int), 0) by rw [HA.out, if_neg (fun e => h1 e.2)])
   have h1i : ¬ ((hd : Int) < (us : Int)) := by omega
   refine wp_region_held_drew (S := fun u => u.heap[k.P]? = some (.cells (PC k v) 82 (0, 0))) (by kernel_rfl) (HB0.out) (fun hHeld => ?_)
   refine tk (i := 0) (oi := ⟨some 5, .move (.tmp 0), 30, "free.go:10", #[], none⟩) (v := ?_) (Or.inl ⟨by rfl, ?_⟩) ?_
   rotate_left 1
   ·(intro u hSw; go_simp; try with_reducible rfl)
   try simp only [Act.put, sA, sB, sC]
   refine tk (i := 1) (oi := ⟨some 6, .nilCheck (.tmp 5), 0, "free.go:10", #[⟨0, .data⟩], none⟩) (v := ?_) (Or.inl ⟨by rfl, ?_⟩) ?_
   rotate_left 1
   ·(intro u hSw; go_simp; try with_reducible rfl)
   try simp only [Act.put, sA, sB, sC]
   refine tk (i := 2) (oi := ⟨some 7, .fieldAddr 82 (.tmp 6) 6, 0, "free.go:10", #[⟨1, .data⟩], none⟩) (v := ?_) (Or.inl ⟨by rfl, ?_⟩) ?_
   rotate_left 1
   ·(intro u hSw; go_simp; try with_reducible rfl)
   try simp only [Act.put, sA, sB, sC]
   refine tk (i := 3) (oi := ⟨some 8, .fieldAddr 68 (.tmp 7) 1, 0, "free.go:10", #[⟨2, .data⟩], none⟩) (v := ?_) (Or.inl ⟨by rfl, ?_⟩) ?_
   rotate_left 1
   ·(intro u hSw; go_simp; try with_reducible rfl)
   try simp only [Act.put, sA, sB, sC]
   refine tk (i := 4) (oi := ⟨some 9, .load 60 (.tmp 8), 60, "free.go:10", #[⟨3, .data⟩], none⟩) (v := ?_) (Or.inl ⟨by rfl, ?_⟩) ?_
   rotate_left 1
   ·(intro u hSw; have c27 := (cell_of_row u k.P 27 _ _ _ hSw).trans HC27.out; have c26 := (cell_of_row u k.P 26 _ _ _ hSw).trans HC26.out; go_simp; try with_reducible rfl)
   try simp only [Act.put, sA, sB, sC]
   refine tk (i := 5) (oi := ⟨some 10, .binOp BinOp.gtr 60 (.tmp 9) (.const (Value.int IntKind.u64 0)) 60, 4, "free.go:10", #[⟨4, .data⟩], none⟩) (v := .bool true) (Or.inl ⟨by rfl, ?_⟩) ?_
   ·intro u hSw
    have c27 := (cell_of_row u k.P 27 _ _ _ hSw).trans HC27.out
    go_simp
    omega
   try simp only [Act.put, sA, sB, sC]
   refine tk (i := 6) (oi := ⟨some 11, .move (.tmp 10), 4, "free.go:10", #[⟨5, .data⟩], none⟩) (v := ?_) (Or.inl ⟨by rfl, ?_⟩) ?_
   rotate_left 1
   ·(intro u hSw; go_simp; try with_reducible rfl)
   try simp only [Act.put, sA, sB, sC]
   refine tk (i := 7) (oi := ⟨some 12, .move (.tmp 0), 30, "free.go:10", #[⟨6, .guard⟩], some (6, true)⟩) (v := ?_) (Or.inl ⟨by rfl, ?_⟩) ?_
   rotate_left 1
   ·(intro u hSw; go_simp; try with_reducible rfl)
   try simp only [Act.put, sA, sB, sC]
   refine tk (i := 8) (oi := ⟨some 13, .nilCheck (.tmp 12), 0, "free.go:10", #[⟨7, .data⟩, ⟨6, .guard⟩], some (6, true)⟩) (v := ?_) (Or.inl ⟨by rfl, ?_⟩) ?_
   rotate_left 1
   ·(intro u hSw; go_simp; try with_reducible rfl)
   try simp only [Act.put, sA, sB, sC]
   refine tk (i := 9) (oi := ⟨some 14, .fieldAddr 82 (.tmp 13) 6, 0, "free.go:10", #[⟨8, .data⟩, ⟨6, .guard⟩], some (6, true)⟩) (v := ?_) (Or.inl ⟨by rfl, ?_⟩) ?_
   rotate_left 1
   ·(intro u hSw; go_simp; try with_reducible rfl)
   try simp only [Act.put, sA, sB, sC]
   refine tk (i := 10) (oi := ⟨some 15, .fieldAddr 68 (.tmp 14) 1, 0, "free.go:10", #[⟨9, .data⟩, ⟨6, .guard⟩], some (6, true)⟩) (v := ?_) (Or.inl ⟨by rfl, ?_⟩) ?_
   rotate_left 1
   ·(intro u hSw; go_simp; try with_reducible rfl)
   try simp only [Act.put, sA, sB, sC]
   refine tk (i := 11) (oi := ⟨some 16, .load 60 (.tmp 15), 60, "free.go:10", #[⟨10, .data⟩, ⟨6, .guard⟩], some (6, true)⟩) (v := ?_) (Or.inl ⟨by rfl, ?_⟩) ?_
   rotate_left 1
   ·(intro u hSw; have c27 := (cell_of_row u k.P 27 _ _ _ hSw).trans HC27.out; have c26 := (cell_of_row u k.P 26 _ _ _ hSw).trans HC26.out; go_simp; try with_reducible rfl)
   try simp only [Act.put, sA, sB, sC]
   refine tk (i := 12) (oi := ⟨some 17, .move (.tmp 0), 30, "free.go:10", #[⟨6, .guard⟩], some (6, true)⟩) (v := ?_) (Or.inl ⟨by rfl, ?_⟩) ?_
   rotate_left 1
   ·(intro u hSw; go_simp; try with_reducible rfl)
   try simp only [Act.put, sA, sB, sC]
   refine tk (i := 13) (oi := ⟨some 18, .nilCheck (.tmp 17), 0, "free.go:10", #[⟨12, .data⟩, ⟨6, .guard⟩], some (6, true)⟩) (v := ?_) (Or.inl ⟨by rfl, ?_⟩) ?_
   rotate_left 1
   ·(intro u hSw; go_simp; try with_reducible rfl)
   try simp only [Act.put, sA, sB, sC]
   refine tk (i := 14) (oi := ⟨some 19, .fieldAddr 82 (.tmp 18) 6, 0, "free.go:10", #[⟨13, .data⟩, ⟨6, .guard⟩], some (6, true)⟩) (v := ?_) (Or.inl ⟨by rfl, ?_⟩) ?_
   rotate_left 1
   ·(intro u hSw; go_simp; try with_reducible rfl)
   try simp only [Act.put, sA, sB, sC]
   refine tk (i := 15) (oi := ⟨some 20, .fieldAddr 68 (.tmp 19) 0, 0, "free.go:10", #[⟨14, .data⟩, ⟨6, .guard⟩], some (6, true)⟩) (v := ?_) (Or.inl ⟨by rfl, ?_⟩) ?_
   rotate_left 1
   ·(intro u hSw; go_simp; try with_reducible rfl)
   try simp only [Act.put, sA, sB, sC]
   refine tk (i := 16) (oi := ⟨some 21, .load 60 (.tmp 20), 60, "free.go:10", #[⟨15, .data⟩, ⟨6, .guard⟩], some (6, true)⟩) (v := ?_) (Or.inl ⟨by rfl, ?_⟩) ?_
   rotate_left 1
   ·(intro u hSw; have c27 := (cell_of_row u k.P 27 _ _ _ hSw).trans HC27.out; have c26 := (cell_of_row u k.P 26 _ _ _ hSw).trans HC26.out; go_simp; try with_reducible rfl)
   try simp only [Act.put, sA, sB, sC]
   refine tk (i := 17) (oi := ⟨some 22, .binOp BinOp.lss 60 (.tmp 16) (.tmp 21) 60, 4, "free.go:10", #[⟨11, .data⟩, ⟨16, .data⟩, ⟨6, .guard⟩], some (6, true)⟩) (v := .bool false) (Or.inl ⟨by rfl, ?_⟩) ?_
   ·(intro u hSw; go_simp; try with_reducible rfl)
   try simp only [Act.put, sA, sB, sC]
   refine tk (i := 18) (oi := ⟨some 23, .pick (.tmp 11) (.tmp 22) (.const (Value.bool false)), 4, "free.go:10", #[⟨6, .data⟩, ⟨17, .data⟩], none⟩) (v := ?_) (Or.inl ⟨by rfl, ?_⟩) ?_
   rotate_left 1
   ·(intro u hSw; go_simp; try with_reducible rfl)
   try simp only [Act.put, sA, sB, sC]
   refine wpAnyH_done (by kernel_rfl) ?_ _
   have c26 := (cell_of_row w.drew k.P 26 _ _ _ HB0.out).trans HC26.out
   have hcv : IntKind.i64.wrap (us : Int) = (us : Int) := wrap_i64 _ (by omega) (by omega)
   have hcu : IntKind.u64.wrap ((us : Int) + 1) = ((us + 1 : Nat) : Int) := by rw [IntKind.wrap_u64]; omega
   go_wp2_with (first | (refine wpList_load_mid rfl 63 (Operand.tmp 43) rfl k.P 1 rfl _ _ HRG.out Tryz.underlying63 rfl HIL.out ?_) | fail)
   refine HPG.out.mono ?_
   rintro e wp ⟨rfl, hbp⟩
   have HPP := hid (HD.out.fresh (hbp.mono (Nat.le_refl _)))
   have HBP := hid (HW.out.trans (hbp.mono HW.out.size))
   clear c26 hbp
   by_cases hge : k.nb - k.sz ≤ (us : Int)
   ·have HR := hid (show alU k v = (v, 0, 42) by rw [HAF.out, if_pos hge])
    go_wp2_with fail
    go_ret2
    refine ⟨by rw [HR.out]; rfl, v.ov, ?_⟩
    rw [HR.out]
    exact PE.same HH.out HBP.out
   ·have HR := hid (show alU k v = (stU k { v with h1 := v.h1.set 0 (us + 1) } (us : Nat) (zeros 256), (us : Int), 0) by rw [HAF.out, if_neg hge])
    have hlt : (us : Int) < k.nb - k.sz := by omega
    have hnm := HPP.out.num 0 (us + 1) (by decide)
    have hj2 := HUU.out hlt
    have HST := hid (set_any k _ (us : Int) (zeros 256) _ hnm.1 hj2.pin ⟨by omega, hlt⟩ (zeros_len _))
    have HNM2 := hid hnm
    have c26 : wp.cell? ⟨k.P, 26, none⟩ = some (.int .u64 (us : Int)) := (cell_of_row wp k.P 26 _ _ _ HPP.out.box).trans HC26.out
    have f26 := frozen_of_row wp k.P 26 _ _ HPP.out.box
    clear hnm hj2 hge
    go_wp2_with fail
    refine HST.out.mono ?_
    rintro e wc ⟨rfl, ov3, hpe3⟩
    have HP5 := hid (PE.pre HBP.out (PE.trans HNM2.out hpe3))
    clear hpe3 c26 f26
    go_wp2_with fail
    go_ret2
    refine ⟨by rw [HR.out]; rfl, ov3, ?_⟩
    rw [HR.out]
    exact HP5.out
end Go.Proofs.YtdkjkibdncbibaaGreat
/- what the library is at this program: maps.Keys, slices.Sorted, slices.Sort, maps.Clone -/
namespace Go.Proofs
open Go.Shelf
open Go.Lib (hid)
def Tryz.keysL_ren : Go.Shelf.Ren := ⟨fun | 7 => 79 | 10 => 96 | n => n, fun | 23 => 75 | 26 => 3 | 3 => 3 | 28 => 122 | 0 => 0 | 27 => 121 | 33 => 100 | 4 => 4 | n => n, fun | n => n⟩
theorem Tryz.keysL : Go.Proofs.SlLaysZI.n7 Tryz.prog Tryz.keysL_ren := {
  mixed := by kernel_rfl
  f7 := ⟨Tryz.f79.name, by decide, Tryz.func79.trans (congrArg some (by kernel_rfl))⟩
  f10 := ⟨Tryz.f96.name, by decide, Tryz.func96.trans (congrArg some (by kernel_rfl))⟩
  t0 := Tryz.underlying0
  a0 := Tryz.isAgg0
  z0 := Tryz.sizeOf0
  v0 := Tryz.zeroValue0
  t4 := Tryz.underlying4
  a4 := Tryz.isAgg4
  z4 := Tryz.sizeOf4
  v4 := Tryz.zeroValue4
  t23 := Tryz.underlying75
  a23 := Tryz.isAgg75
  z23 := Tryz.sizeOf75
  v23 := Tryz.zeroValue75
  t26 := Tryz.underlying3
  a26 := Tryz.isAgg3
  z26 := Tryz.sizeOf3
  v26 := Tryz.zeroValue3
  t27 := Tryz.underlying121
  a27 := Tryz.isAgg121
  z27 := Tryz.sizeOf121
  v27 := Tryz.zeroValue121
  t28 := Tryz.underlying122
  a28 := Tryz.isAgg122
  z28 := Tryz.sizeOf122
  v28 := Tryz.zeroValue122
  t33 := Tryz.underlying100
  a33 := Tryz.isAgg100
  z33 := Tryz.sizeOf100
  v33 := Tryz.zeroValue100 }
def Tryz.keysB_ren : Go.Shelf.Ren := ⟨fun | 7 => 83 | 10 => 99 | n => n, fun | 23 => 76 | 26 => 3 | 3 => 50 | 28 => 122 | 0 => 0 | 27 => 121 | 33 => 100 | 4 => 4 | n => n, fun | n => n⟩
theorem Tryz.keysB : Go.Proofs.SlLaysZI.n7 Tryz.prog Tryz.keysB_ren := {
  mixed := by kernel_rfl
  f7 := ⟨Tryz.f83.name, by decide, Tryz.func83.trans (congrArg some (by kernel_rfl))⟩
  f10 := ⟨Tryz.f99.name, by decide, Tryz.func99.trans (congrArg some (by kernel_rfl))⟩
  t0 := Tryz.underlying0
  a0 := Tryz.isAgg0
  z0 := Tryz.sizeOf0
  v0 := Tryz.zeroValue0
  t4 := Tryz.underlying4
  a4 := Tryz.isAgg4
  z4 := Tryz.sizeOf4
  v4 := Tryz.zeroValue4
  t23 := Tryz.underlying76
  a23 := Tryz.isAgg76
  z23 := Tryz.sizeOf76
  v23 := Tryz.zeroValue76
  t26 := Tryz.underlying3
  a26 := Tryz.isAgg3
  z26 := Tryz.sizeOf3
  v26 := Tryz.zeroValue3
  t27 := Tryz.underlying121
  a27 := Tryz.isAgg121
  z27 := Tryz.sizeOf121
  v27 := Tryz.zeroValue121
  t28 := Tryz.underlying122
  a28 := Tryz.isAgg122
  z28 := Tryz.sizeOf122
  v28 := Tryz.zeroValue122
  t33 := Tryz.underlying100
  a33 := Tryz.isAgg100
  z33 := Tryz.sizeOf100
  v33 := Tryz.zeroValue100 }
def Tryz.sortedI_ren : Go.Shelf.Ren := ⟨fun | 6 => 78 | 8 => 94 | 9 => 95 | 11 => 104 | 13 => 106 | 12 => 105 | 23 => 120 | 24 => 121 | 14 => 111 | 15 => 112 | 16 => 113 | 17 => 114 | 18 => 115 | 19 => 116 | 20 => 117 | 21 => 118 | 22 => 119 | 25 => 122 | 26 => 123 | 27 => 124 | 28 => 125 | 29 => 126 | 30 => 127 | 31 => 128 | n => n, fun | 26 => 3 | 28 => 122 | 24 => 77 | 0 => 0 | 3 => 3 | 37 => 134 | 48 => 154 | 50 => 60 | 4 => 4 | 40 => 147 | 39 => 146 | 45 => 118 | 5 => 5 | 9 => 9 | 51 => 156 | 55 => 160 | 57 => 162 | 58 => 163 | 33 => 100 | n => n, fun | n => n⟩
theorem Tryz.sortedI : Go.Proofs.SlLaysZI.n6 Tryz.prog Tryz.sortedI_ren := {
  mixed := by kernel_rfl
  f6 := ⟨Tryz.f78.name, by decide, Tryz.func78.trans (congrArg some (by kernel_rfl))⟩
  f8 := ⟨Tryz.f94.name, by decide, Tryz.func94.trans (congrArg some (by kernel_rfl))⟩
  f11 := ⟨Tryz.f104.name, by decide, Tryz.func104.trans (congrArg some (by kernel_rfl))⟩
  t0 := Tryz.underlying0
  a0 := Tryz.isAgg0
  z0 := Tryz.sizeOf0
  v0 := Tryz.zeroValue0
  t24 := Tryz.underlying77
  a24 := Tryz.isAgg77
  z24 := Tryz.sizeOf77
  v24 := Tryz.zeroValue77
  t26 := Tryz.underlying3
  a26 := Tryz.isAgg3
  z26 := Tryz.sizeOf3
  v26 := Tryz.zeroValue3
  t28 := Tryz.underlying122
  a28 := Tryz.isAgg122
  z28 := Tryz.sizeOf122
  v28 := Tryz.zeroValue122
  i26 := by kernel_rfl }
def Tryz.sortI_ren : Go.Shelf.Ren := ⟨fun | 5 => 95 | 8 => 106 | 7 => 105 | 19 => 120 | 20 => 121 | 10 => 111 | 11 => 112 | 12 => 113 | 13 => 114 | 14 => 115 | 15 => 116 | 16 => 117 | 17 => 118 | 18 => 119 | 30 => 122 | 31 => 123 | 32 => 124 | 33 => 125 | 34 => 126 | 35 => 127 | 40 => 128 | n => n, fun | 23 => 77 | 25 => 3 | 3 => 3 | 32 => 134 | 22 => 77 | 0 => 0 | 44 => 154 | 46 => 60 | 4 => 4 | 36 => 147 | 35 => 146 | 41 => 118 | 5 => 5 | 9 => 9 | 53 => 156 | 57 => 160 | 63 => 162 | 64 => 163 | n => n, fun | n => n⟩
theorem Tryz.sortI : Go.Proofs.SlLaysM.n5 Tryz.prog Tryz.sortI_ren := {
  mixed := by kernel_rfl
  f5 := ⟨Tryz.f95.name, by decide, Tryz.func95.trans (congrArg some (by kernel_rfl))⟩
  f7 := ⟨Tryz.f105.name, by decide, Tryz.func105.trans (congrArg some (by kernel_rfl))⟩
  f8 := Tryz.func106.trans (congrArg some (by kernel_rfl))
  f10 := ⟨Tryz.f111.name, by decide, Tryz.func111.trans (congrArg some (by kernel_rfl))⟩
  f11 := ⟨Tryz.f112.name, by decide, Tryz.func112.trans (congrArg some (by kernel_rfl))⟩
  f12 := ⟨Tryz.f113.name, by decide, Tryz.func113.trans (congrArg some (by kernel_rfl))⟩
  f13 := ⟨Tryz.f114.name, by decide, Tryz.func114.trans (congrArg some (by kernel_rfl))⟩
  f14 := ⟨Tryz.f115.name, by decide, Tryz.func115.trans (congrArg some (by kernel_rfl))⟩
  f15 := ⟨Tryz.f116.name, by decide, Tryz.func116.trans (congrArg some (by kernel_rfl))⟩
  f16 := ⟨Tryz.f117.name, by decide, Tryz.func117.trans (congrArg some (by kernel_rfl))⟩
  f17 := ⟨Tryz.f118.name, by decide, Tryz.func118.trans (congrArg some (by kernel_rfl))⟩
  f18 := ⟨Tryz.f119.name, by decide, Tryz.func119.trans (congrArg some (by kernel_rfl))⟩
  f19 := Tryz.func120.trans (congrArg some (by kernel_rfl))
  f20 := Tryz.func121.trans (congrArg some (by kernel_rfl))
  f30 := ⟨Tryz.f122.name, by decide, Tryz.func122.trans (congrArg some (by kernel_rfl))⟩
  f31 := Tryz.func123.trans (congrArg some (by kernel_rfl))
  f32 := Tryz.func124.trans (congrArg some (by kernel_rfl))
  f33 := ⟨Tryz.f125.name, by decide, Tryz.func125.trans (congrArg some (by kernel_rfl))⟩
  f34 := ⟨Tryz.f126.name, by decide, Tryz.func126.trans (congrArg some (by kernel_rfl))⟩
  f35 := ⟨Tryz.f127.name, by decide, Tryz.func127.trans (congrArg some (by kernel_rfl))⟩
  f40 := ⟨Tryz.f128.name, by decide, Tryz.func128.trans (congrArg some (by kernel_rfl))⟩
  t0 := Tryz.underlying0
  a0 := Tryz.isAgg0
  z0 := Tryz.sizeOf0
  v0 := Tryz.zeroValue0
  t3 := Tryz.underlying3
  a3 := Tryz.isAgg3
  z3 := Tryz.sizeOf3
  v3 := Tryz.zeroValue3
  t4 := Tryz.underlying4
  a4 := Tryz.isAgg4
  z4 := Tryz.sizeOf4
  v4 := Tryz.zeroValue4
  t5 := Tryz.underlying5
  a5 := Tryz.isAgg5
  z5 := Tryz.sizeOf5
  v5 := Tryz.zeroValue5
  t9 := Tryz.underlying9
  a9 := Tryz.isAgg9
  z9 := Tryz.sizeOf9
  v9 := Tryz.zeroValue9
  t22 := Tryz.underlying77
  a22 := Tryz.isAgg77
  z22 := Tryz.sizeOf77
  v22 := Tryz.zeroValue77
  t23 := Tryz.underlying77
  a23 := Tryz.isAgg77
  z23 := Tryz.sizeOf77
  v23 := Tryz.zeroValue77
  t25 := Tryz.underlying3
  a25 := Tryz.isAgg3
  z25 := Tryz.sizeOf3
  v25 := Tryz.zeroValue3
  t32 := Tryz.underlying134
  a32 := Tryz.isAgg134
  z32 := Tryz.sizeOf134
  v32 := Tryz.zeroValue134
  t35 := Tryz.underlying146
  a35 := Tryz.isAgg146
  z35 := Tryz.sizeOf146
  v35 := Tryz.zeroValue146
  t36 := Tryz.underlying147
  a36 := Tryz.isAgg147
  z36 := Tryz.sizeOf147
  v36 := Tryz.zeroValue147
  t41 := Tryz.underlying118
  a41 := Tryz.isAgg118
  z41 := Tryz.sizeOf118
  v41 := Tryz.zeroValue118
  t44 := Tryz.underlying154
  a44 := Tryz.isAgg154
  z44 := Tryz.sizeOf154
  v44 := Tryz.zeroValue154
  t46 := Tryz.underlying60
  a46 := Tryz.isAgg60
  z46 := Tryz.sizeOf60
  v46 := Tryz.zeroValue60
  t53 := Tryz.underlying156
  a53 := Tryz.isAgg156
  z53 := Tryz.sizeOf156
  v53 := Tryz.zeroValue156
  t57 := Tryz.underlying160
  a57 := Tryz.isAgg160
  z57 := Tryz.sizeOf160
  v57 := Tryz.zeroValue160
  t63 := Tryz.underlying162
  a63 := Tryz.isAgg162
  z63 := Tryz.sizeOf162
  v63 := Tryz.zeroValue162
  t64 := Tryz.underlying163
  a64 := Tryz.isAgg163
  z64 := Tryz.sizeOf163
  v64 := Tryz.zeroValue163 }
def Tryz.cloneB_ren : Go.Shelf.Ren := ⟨fun | 5 => 98 | 7 => 108 | n => n, fun | 23 => 76 | 25 => 3 | 3 => 50 | 4 => 4 | 20 => 20 | n => n, fun | n => n⟩
theorem Tryz.cloneB : Go.Proofs.SlLaysW.n5 Tryz.prog Tryz.cloneB_ren := {
  mixed := by kernel_rfl
  f5 := ⟨Tryz.f98.name, by decide, Tryz.func98.trans (congrArg some (by kernel_rfl))⟩
  f7 := Tryz.func108.trans (congrArg some (by kernel_rfl))
  t4 := Tryz.underlying4
  a4 := Tryz.isAgg4
  z4 := Tryz.sizeOf4
  v4 := Tryz.zeroValue4
  t20 := Tryz.underlying20
  a20 := Tryz.isAgg20
  z20 := Tryz.sizeOf20
  v20 := Tryz.zeroValue20
  t23 := Tryz.underlying76
  a23 := Tryz.isAgg76
  z23 := Tryz.sizeOf76
  v23 := Tryz.zeroValue76 }
end Go.Proofs
