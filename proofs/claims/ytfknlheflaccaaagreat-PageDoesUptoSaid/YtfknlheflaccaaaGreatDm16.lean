/- a page given -/
import Derived.Test.YtfknlheflaccaaaGreatDm15
import Derived.Test.YtfknlheflaccaaaGreatProg
import Derived.Shelf.SlIterI.Nil
import Derived.Shelf.SortM.Plain
import Derived.Shelf.SortM.SortNone
import Derived.Shelf.SlMaps.Clone
namespace Go.Proofs.YtfknlheflaccaaaGreat
open Go.RowKit
def alU (k : PK) (v : PV) : PV × Int × Int :=
 if 0 < hN v.h1 1 ∧ hN v.h1 1 < hN v.h1 0 then ahU k v (hN v.h1 1 : Nat)
 else if k.nb - k.sz ≤ (hN v.h1 0 : Nat) then (v, 0, 42)
 else (stU k { v with h1 := v.h1.set 0 (hN v.h1 0 + 1) } (hN v.h1 0 : Nat) (zeros 256), (hN v.h1 0 : Nat), 0)
set_option maxRecDepth 100000 in
set_option maxHeartbeats 4000000 in
theorem alloc_any (k : PK) (v : PV) (w : World) (h : PgS k v w) (hj : PJ k v) :
  Calls Tryz.prog 19 #[.pointer (some ⟨k.P, 0, none⟩)] w (AhEnds k v (alU k v) w) := by
 have HIL := Lib.hid (show (Tryz.prog.info? 80).map (·.size) = some ([.pointer (some ⟨k.D, 0, none⟩), .int .i64 k.sz] : List Value).length by kernel_rfl)
 have HI35 := Lib.hid (show (Tryz.prog.info? 50).map (·.size) = some 256 by kernel_rfl)
 have hbl : ∀ u : World, (Instr.build 50 #[]).run Tryz.prog u = .ok (.agg (ArrU8 (zeros 256))) u := fun u => by kernel_rfl
 have HB0 := Lib.hid (show w.drew.heap[k.P]? = some (.cells (PC k v) 98 (0, 0)) from h.box)
 have HC26 := Lib.hid ((PC_h1 (k := k) (v := v) 0 h.l0 h.l1 (by decide)).trans (HV_at v.h1 0 (by rw [h.l1]; decide)))
 have HC27 := Lib.hid ((PC_h1 (k := k) (v := v) 1 h.l0 h.l1 (by decide)).trans (HV_at v.h1 1 (by rw [h.l1]; decide)))
 have hd := h.fresh ((Below.refl _ w).drew)
 have HD := Lib.hid hd
 have HJ := Lib.hid hj
 have HA := Lib.hid (show alU k v = if 0 < hN v.h1 1 ∧ hN v.h1 1 < hN v.h1 0 then ahU k v (hN v.h1 1 : Nat) else if k.nb - k.sz ≤ (hN v.h1 0 : Nat) then (v, 0, 42) else (stU k { v with h1 := v.h1.set 0 (hN v.h1 0 + 1) } (hN v.h1 0 : Nat) (zeros 256), (hN v.h1 0 : Nat), 0) from rfl)
 have hu := hj.u1
 have hz := hj.z3
 have hz1 := hj.z1
 have hz2 := hj.z2
 have HW := Lib.hid (show Below w.heap.size w w.drew from (Below.refl _ w).drew)
 have HCU := Lib.hid hd.cN
 have HUU := Lib.hid (fun (hx : (hN v.h1 0 : Int) < k.nb - k.sz) => hj.used hx)
 have HNM := Lib.hid (fun x => hd.num 0 x (by decide))
 have HAH := Lib.hid (fun n hn => allocHead_any k v n w.drew hd hj hn)
 have HRG := Lib.hid hd.rg
 have hpg := pages_any k.B k.D k.M k.nb k.rm v.s.fz k.sz v.s.dn v.s.f v.s.L v.lv w.drew hd.ls.dk (by omega) (by omega)
 have HPG := Lib.hid hpg
 have HH := Lib.hid h
 clear h hj hd hpg
 generalize hN v.h1 1 = hd at *
 generalize hN v.h1 0 = us at *
 have husI : (us : Int) ≤ 4096 := by omega
 by_cases h0 : hd = 0
 ·subst h0
  have HAF := Lib.hid (show alU k v = if k.nb - k.sz ≤ (us : Nat) then (v, 0, 42) else (stU k { v with h1 := v.h1.set 0 (us + 1) } (us : Nat) (zeros 256), (us : Int), 0) by rw [HA.out, if_neg (by omega)])
  go_enter Tryz.func19, Tryz.ntmps19
  go_wp2_with fail
  refine wp_region_held_drew (S := fun u => u.heap[k.P]? = some (.cells (PC k v) 98 (0, 0))) (by kernel_rfl) (HB0.out) (fun hHeld => ?_)
  refine wpAnyH_take (i := 0) (oi := ({ dst := some 5, op := .move (.tmp 0), type := 30, pos := "free.go:10", after := #[], guard := none } : Oper)) (v := ?_) rfl (by kernel_rfl) (by kernel_rfl) (by kernel_rfl) (fun _ _ _ h => h) (Or.inl ⟨by rfl, ?_⟩) (by assumption) ?_
  rotate_left 1
  ·(intro u hSw; go_simp; try with_reducible rfl)
  try simp only [Act.put, List.setIfInBounds_toArray, List.set_cons_zero, List.set_cons_succ]
  refine wpAnyH_take (i := 1) (oi := ({ dst := some 6, op := .nilCheck (.tmp 5), type := 0, pos := "free.go:10", after := #[{ on := 0, ground := .data }], guard := none } : Oper)) (v := ?_) rfl (by kernel_rfl) (by kernel_rfl) (by kernel_rfl) (fun _ _ _ h => h) (Or.inl ⟨by rfl, ?_⟩) (by assumption) ?_
  rotate_left 1
  ·(intro u hSw; go_simp; try with_reducible rfl)
  try simp only [Act.put, List.setIfInBounds_toArray, List.set_cons_zero, List.set_cons_succ]
  refine wpAnyH_take (i := 2) (oi := ({ dst := some 7, op := .fieldAddr 98 (.tmp 6) 6, type := 0, pos := "free.go:10", after := #[{ on := 1, ground := .data }], guard := none } : Oper)) (v := ?_) rfl (by kernel_rfl) (by kernel_rfl) (by kernel_rfl) (fun _ _ _ h => h) (Or.inl ⟨by rfl, ?_⟩) (by assumption) ?_
  rotate_left 1
  ·(intro u hSw; go_simp; try with_reducible rfl)
  try simp only [Act.put, List.setIfInBounds_toArray, List.set_cons_zero, List.set_cons_succ]
  refine wpAnyH_take (i := 3) (oi := ({ dst := some 8, op := .fieldAddr 85 (.tmp 7) 1, type := 0, pos := "free.go:10", after := #[{ on := 2, ground := .data }], guard := none } : Oper)) (v := ?_) rfl (by kernel_rfl) (by kernel_rfl) (by kernel_rfl) (fun _ _ _ h => h) (Or.inl ⟨by rfl, ?_⟩) (by assumption) ?_
  rotate_left 1
  ·(intro u hSw; go_simp; try with_reducible rfl)
  try simp only [Act.put, List.setIfInBounds_toArray, List.set_cons_zero, List.set_cons_succ]
  refine wpAnyH_take (i := 4) (oi := ({ dst := some 9, op := .load 59 (.tmp 8), type := 59, pos := "free.go:10", after := #[{ on := 3, ground := .data }], guard := none } : Oper)) (v := ?_) rfl (by kernel_rfl) (by kernel_rfl) (by kernel_rfl) (fun _ _ _ h => h) (Or.inl ⟨by rfl, ?_⟩) (by assumption) ?_
  rotate_left 1
  ·(intro u hSw; have c27 := (cell_of_row u k.P 27 _ _ _ hSw).trans HC27.out; go_simp; try with_reducible rfl)
  try simp only [Act.put, List.setIfInBounds_toArray, List.set_cons_zero, List.set_cons_succ]
  refine wpAnyH_take (i := 5) (oi := ({ dst := some 10, op := .binOp BinOp.gtr 59 (.tmp 9) (.const (Value.int IntKind.u64 0)) 59, type := 4, pos := "free.go:10", after := #[{ on := 4, ground := .data }], guard := none } : Oper)) (v := ?_) rfl (by kernel_rfl) (by kernel_rfl) (by kernel_rfl) (fun _ _ _ h => h) (Or.inl ⟨by rfl, ?_⟩) (by assumption) ?_
  rotate_left 1
  ·(intro u hSw; go_simp; try with_reducible rfl)
  try simp only [Act.put, List.setIfInBounds_toArray, List.set_cons_zero, List.set_cons_succ]
  refine wpAnyH_take (i := 6) (oi := ({ dst := some 11, op := .move (.tmp 10), type := 4, pos := "free.go:10", after := #[{ on := 5, ground := .data }], guard := none } : Oper)) (v := ?_) rfl (by kernel_rfl) (by kernel_rfl) (by kernel_rfl) (fun _ _ _ h => h) (Or.inl ⟨by rfl, ?_⟩) (by assumption) ?_
  rotate_left 1
  ·(intro u hSw; go_simp; try with_reducible rfl)
  try simp only [Act.put, List.setIfInBounds_toArray, List.set_cons_zero, List.set_cons_succ]
  refine wpAnyH_take (i := 7) (oi := ({ dst := some 12, op := .move (.tmp 0), type := 30, pos := "free.go:10", after := #[{ on := 6, ground := .guard }], guard := some (6, true) } : Oper)) (v := undef) rfl (by kernel_rfl) (by kernel_rfl) (by kernel_rfl) (fun _ _ _ h => h) (by exact Or.inr ⟨by rfl, rfl⟩) (by assumption) ?_
  try simp only [Act.put, List.setIfInBounds_toArray, List.set_cons_zero, List.set_cons_succ]
  refine wpAnyH_take (i := 8) (oi := ({ dst := some 13, op := .nilCheck (.tmp 12), type := 0, pos := "free.go:10", after := #[{ on := 7, ground := .data }, { on := 6, ground := .guard }], guard := some (6, true) } : Oper)) (v := undef) rfl (by kernel_rfl) (by kernel_rfl) (by kernel_rfl) (fun _ _ _ h => h) (by exact Or.inr ⟨by rfl, rfl⟩) (by assumption) ?_
  try simp only [Act.put, List.setIfInBounds_toArray, List.set_cons_zero, List.set_cons_succ]
  refine wpAnyH_take (i := 9) (oi := ({ dst := some 14, op := .fieldAddr 98 (.tmp 13) 6, type := 0, pos := "free.go:10", after := #[{ on := 8, ground := .data }, { on := 6, ground := .guard }], guard := some (6, true) } : Oper)) (v := undef) rfl (by kernel_rfl) (by kernel_rfl) (by kernel_rfl) (fun _ _ _ h => h) (by exact Or.inr ⟨by rfl, rfl⟩) (by assumption) ?_
  try simp only [Act.put, List.setIfInBounds_toArray, List.set_cons_zero, List.set_cons_succ]
  refine wpAnyH_take (i := 10) (oi := ({ dst := some 15, op := .fieldAddr 85 (.tmp 14) 1, type := 0, pos := "free.go:10", after := #[{ on := 9, ground := .data }, { on := 6, ground := .guard }], guard := some (6, true) } : Oper)) (v := undef) rfl (by kernel_rfl) (by kernel_rfl) (by kernel_rfl) (fun _ _ _ h => h) (by exact Or.inr ⟨by rfl, rfl⟩) (by assumption) ?_
  try simp only [Act.put, List.setIfInBounds_toArray, List.set_cons_zero, List.set_cons_succ]
  refine wpAnyH_take (i := 11) (oi := ({ dst := some 16, op := .load 59 (.tmp 15), type := 59, pos := "free.go:10", after := #[{ on := 10, ground := .data }, { on := 6, ground := .guard }], guard := some (6, true) } : Oper)) (v := undef) rfl (by kernel_rfl) (by kernel_rfl) (by kernel_rfl) (fun _ _ _ h => h) (by exact Or.inr ⟨by rfl, rfl⟩) (by assumption) ?_
  try simp only [Act.put, List.setIfInBounds_toArray, List.set_cons_zero, List.set_cons_succ]
  refine wpAnyH_take (i := 12) (oi := ({ dst := some 17, op := .move (.tmp 0), type := 30, pos := "free.go:10", after := #[{ on := 6, ground := .guard }], guard := some (6, true) } : Oper)) (v := undef) rfl (by kernel_rfl) (by kernel_rfl) (by kernel_rfl) (fun _ _ _ h => h) (by exact Or.inr ⟨by rfl, rfl⟩) (by assumption) ?_
  try simp only [Act.put, List.setIfInBounds_toArray, List.set_cons_zero, List.set_cons_succ]
  refine wpAnyH_take (i := 13) (oi := ({ dst := some 18, op := .nilCheck (.tmp 17), type := 0, pos := "free.go:10", after := #[{ on := 12, ground := .data }, { on := 6, ground := .guard }], guard := some (6, true) } : Oper)) (v := undef) rfl (by kernel_rfl) (by kernel_rfl) (by kernel_rfl) (fun _ _ _ h => h) (by exact Or.inr ⟨by rfl, rfl⟩) (by assumption) ?_
  try simp only [Act.put, List.setIfInBounds_toArray, List.set_cons_zero, List.set_cons_succ]
  refine wpAnyH_take (i := 14) (oi := ({ dst := some 19, op := .fieldAddr 98 (.tmp 18) 6, type := 0, pos := "free.go:10", after := #[{ on := 13, ground := .data }, { on := 6, ground := .guard }], guard := some (6, true) } : Oper)) (v := undef) rfl (by kernel_rfl) (by kernel_rfl) (by kernel_rfl) (fun _ _ _ h => h) (by exact Or.inr ⟨by rfl, rfl⟩) (by assumption) ?_
  try simp only [Act.put, List.setIfInBounds_toArray, List.set_cons_zero, List.set_cons_succ]
  refine wpAnyH_take (i := 15) (oi := ({ dst := some 20, op := .fieldAddr 85 (.tmp 19) 0, type := 0, pos := "free.go:10", after := #[{ on := 14, ground := .data }, { on := 6, ground := .guard }], guard := some (6, true) } : Oper)) (v := undef) rfl (by kernel_rfl) (by kernel_rfl) (by kernel_rfl) (fun _ _ _ h => h) (by exact Or.inr ⟨by rfl, rfl⟩) (by assumption) ?_
  try simp only [Act.put, List.setIfInBounds_toArray, List.set_cons_zero, List.set_cons_succ]
  refine wpAnyH_take (i := 16) (oi := ({ dst := some 21, op := .load 59 (.tmp 20), type := 59, pos := "free.go:10", after := #[{ on := 15, ground := .data }, { on := 6, ground := .guard }], guard := some (6, true) } : Oper)) (v := undef) rfl (by kernel_rfl) (by kernel_rfl) (by kernel_rfl) (fun _ _ _ h => h) (by exact Or.inr ⟨by rfl, rfl⟩) (by assumption) ?_
  try simp only [Act.put, List.setIfInBounds_toArray, List.set_cons_zero, List.set_cons_succ]
  refine wpAnyH_take (i := 17) (oi := ({ dst := some 22, op := .binOp BinOp.lss 59 (.tmp 16) (.tmp 21) 59, type := 4, pos := "free.go:10", after := #[{ on := 11, ground := .data }, { on := 16, ground := .data }, { on := 6, ground := .guard }], guard := some (6, true) } : Oper)) (v := undef) rfl (by kernel_rfl) (by kernel_rfl) (by kernel_rfl) (fun _ _ _ h => h) (by exact Or.inr ⟨by rfl, rfl⟩) (by assumption) ?_
  try simp only [Act.put, List.setIfInBounds_toArray, List.set_cons_zero, List.set_cons_succ]
  refine wpAnyH_take (i := 18) (oi := ({ dst := some 23, op := .pick (.tmp 11) (.tmp 22) (.const (Value.bool false)), type := 4, pos := "free.go:10", after := #[{ on := 6, ground := .data }, { on := 17, ground := .data }], guard := none } : Oper)) (v := ?_) rfl (by kernel_rfl) (by kernel_rfl) (by kernel_rfl) (fun _ _ _ h => h) (Or.inl ⟨by rfl, ?_⟩) (by assumption) ?_
  rotate_left 1
  ·(intro u hSw; go_simp; try with_reducible rfl)
  try simp only [Act.put, List.setIfInBounds_toArray, List.set_cons_zero, List.set_cons_succ]
  refine wpAnyH_done (by kernel_rfl) ?_ _
  have c26 := (cell_of_row w.drew k.P 26 _ _ _ HB0.out).trans HC26.out
  have hcv : IntKind.i64.wrap (us : Int) = (us : Int) := wrap_i64 _ (by omega) (by omega)
  have hcu : IntKind.u64.wrap ((us : Int) + 1) = ((us + 1 : Nat) : Int) := by rw [IntKind.wrap_u64]; omega
  go_wp2_with (first | (refine wpList_load_mid rfl 80 (Operand.tmp 43) rfl k.P 1 rfl _ _ HRG.out Tryz.underlying80 rfl HIL.out ?_) | fail)
  refine HPG.out.mono ?_
  rintro e wp ⟨rfl, hbp⟩
  have HPP := Lib.hid (HD.out.fresh (hbp.mono (Nat.le_refl _)))
  have HBP := Lib.hid (HW.out.trans (hbp.mono HW.out.size))
  clear c26 hbp
  by_cases hge : k.nb - k.sz ≤ (us : Int)
  ·have HR := Lib.hid (show alU k v = (v, 0, 42) by rw [HAF.out, if_pos hge])
   go_wp2_with fail
   go_ret2
   refine ⟨by rw [HR.out]; rfl, v.ov, ?_⟩
   rw [HR.out]
   exact PE.same HH.out HBP.out
  ·have HR := Lib.hid (show alU k v = (stU k { v with h1 := v.h1.set 0 (us + 1) } (us : Nat) (zeros 256), (us : Int), 0) by rw [HAF.out, if_neg hge])
   have hlt : (us : Int) < k.nb - k.sz := by omega
   have hnm := HPP.out.num 0 (us + 1) (by decide)
   have hj2 := HUU.out hlt
   have HST := Lib.hid (set_any k _ (us : Int) (zeros 256) _ hnm.1 hj2.pin ⟨by omega, hlt⟩ (zeros_len _))
   have HNM2 := Lib.hid hnm
   have c26 : wp.cell? ⟨k.P, 26, none⟩ = some (.int .u64 (us : Int)) := (cell_of_row wp k.P 26 _ _ _ HPP.out.box).trans HC26.out
   have f26 := frozen_of_row wp k.P 26 _ _ HPP.out.box
   clear hnm hj2 hge
   go_wp2_with fail
   refine HST.out.mono ?_
   rintro e wc ⟨rfl, ov3, hpe3⟩
   have HP5 := Lib.hid (PE.pre HBP.out (PE.trans HNM2.out hpe3))
   clear hpe3 c26 f26
   go_wp2_with fail
   go_ret2
   refine ⟨by rw [HR.out]; rfl, ov3, ?_⟩
   rw [HR.out]
   exact HP5.out
 ·have hpos : (0 : Int) < (hd : Int) := by omega
  go_enter Tryz.func19, Tryz.ntmps19
  go_wp2_with fail
  by_cases h1 : hd < us
  ·have HR := Lib.hid (show alU k v = ahU k v (hd : Nat) by rw [HA.out, if_pos (show 0 < hd ∧ hd < us from ⟨by omega, h1⟩)])
   have h1i : (hd : Int) < (us : Int) := by omega
   refine wp_region_held_drew (S := fun u => u.heap[k.P]? = some (.cells (PC k v) 98 (0, 0))) (by kernel_rfl) (HB0.out) (fun hHeld => ?_)
   refine wpAnyH_take (i := 0) (oi := ({ dst := some 5, op := .move (.tmp 0), type := 30, pos := "free.go:10", after := #[], guard := none } : Oper)) (v := ?_) rfl (by kernel_rfl) (by kernel_rfl) (by kernel_rfl) (fun _ _ _ h => h) (Or.inl ⟨by rfl, ?_⟩) (by assumption) ?_
   rotate_left 1
   ·(intro u hSw; go_simp; try with_reducible rfl)
   try simp only [Act.put, List.setIfInBounds_toArray, List.set_cons_zero, List.set_cons_succ]
   refine wpAnyH_take (i := 1) (oi := ({ dst := some 6, op := .nilCheck (.tmp 5), type := 0, pos := "free.go:10", after := #[{ on := 0, ground := .data }], guard := none } : Oper)) (v := ?_) rfl (by kernel_rfl) (by kernel_rfl) (by kernel_rfl) (fun _ _ _ h => h) (Or.inl ⟨by rfl, ?_⟩) (by assumption) ?_
   rotate_left 1
   ·(intro u hSw; go_simp; try with_reducible rfl)
   try simp only [Act.put, List.setIfInBounds_toArray, List.set_cons_zero, List.set_cons_succ]
   refine wpAnyH_take (i := 2) (oi := ({ dst := some 7, op := .fieldAddr 98 (.tmp 6) 6, type := 0, pos := "free.go:10", after := #[{ on := 1, ground := .data }], guard := none } : Oper)) (v := ?_) rfl (by kernel_rfl) (by kernel_rfl) (by kernel_rfl) (fun _ _ _ h => h) (Or.inl ⟨by rfl, ?_⟩) (by assumption) ?_
   rotate_left 1
   ·(intro u hSw; go_simp; try with_reducible rfl)
   try simp only [Act.put, List.setIfInBounds_toArray, List.set_cons_zero, List.set_cons_succ]
   refine wpAnyH_take (i := 3) (oi := ({ dst := some 8, op := .fieldAddr 85 (.tmp 7) 1, type := 0, pos := "free.go:10", after := #[{ on := 2, ground := .data }], guard := none } : Oper)) (v := ?_) rfl (by kernel_rfl) (by kernel_rfl) (by kernel_rfl) (fun _ _ _ h => h) (Or.inl ⟨by rfl, ?_⟩) (by assumption) ?_
   rotate_left 1
   ·(intro u hSw; go_simp; try with_reducible rfl)
   try simp only [Act.put, List.setIfInBounds_toArray, List.set_cons_zero, List.set_cons_succ]
   refine wpAnyH_take (i := 4) (oi := ({ dst := some 9, op := .load 59 (.tmp 8), type := 59, pos := "free.go:10", after := #[{ on := 3, ground := .data }], guard := none } : Oper)) (v := ?_) rfl (by kernel_rfl) (by kernel_rfl) (by kernel_rfl) (fun _ _ _ h => h) (Or.inl ⟨by rfl, ?_⟩) (by assumption) ?_
   rotate_left 1
   ·(intro u hSw; have c27 := (cell_of_row u k.P 27 _ _ _ hSw).trans HC27.out; have c26 := (cell_of_row u k.P 26 _ _ _ hSw).trans HC26.out; go_simp; try with_reducible rfl)
   try simp only [Act.put, List.setIfInBounds_toArray, List.set_cons_zero, List.set_cons_succ]
   refine wpAnyH_take (i := 5) (oi := ({ dst := some 10, op := .binOp BinOp.gtr 59 (.tmp 9) (.const (Value.int IntKind.u64 0)) 59, type := 4, pos := "free.go:10", after := #[{ on := 4, ground := .data }], guard := none } : Oper)) (v := .bool true) rfl (by kernel_rfl) (by kernel_rfl) (by kernel_rfl) (fun _ _ _ h => h) (Or.inl ⟨by rfl, ?_⟩) (by assumption) ?_
   ·intro u hSw
    have c27 := (cell_of_row u k.P 27 _ _ _ hSw).trans HC27.out
    go_simp
    omega
   try simp only [Act.put, List.setIfInBounds_toArray, List.set_cons_zero, List.set_cons_succ]
   refine wpAnyH_take (i := 6) (oi := ({ dst := some 11, op := .move (.tmp 10), type := 4, pos := "free.go:10", after := #[{ on := 5, ground := .data }], guard := none } : Oper)) (v := ?_) rfl (by kernel_rfl) (by kernel_rfl) (by kernel_rfl) (fun _ _ _ h => h) (Or.inl ⟨by rfl, ?_⟩) (by assumption) ?_
   rotate_left 1
   ·(intro u hSw; go_simp; try with_reducible rfl)
   try simp only [Act.put, List.setIfInBounds_toArray, List.set_cons_zero, List.set_cons_succ]
   refine wpAnyH_take (i := 7) (oi := ({ dst := some 12, op := .move (.tmp 0), type := 30, pos := "free.go:10", after := #[{ on := 6, ground := .guard }], guard := some (6, true) } : Oper)) (v := ?_) rfl (by kernel_rfl) (by kernel_rfl) (by kernel_rfl) (fun _ _ _ h => h) (Or.inl ⟨by rfl, ?_⟩) (by assumption) ?_
   rotate_left 1
   ·(intro u hSw; go_simp; try with_reducible rfl)
   try simp only [Act.put, List.setIfInBounds_toArray, List.set_cons_zero, List.set_cons_succ]
   refine wpAnyH_take (i := 8) (oi := ({ dst := some 13, op := .nilCheck (.tmp 12), type := 0, pos := "free.go:10", after := #[{ on := 7, ground := .data }, { on := 6, ground := .guard }], guard := some (6, true) } : Oper)) (v := ?_) rfl (by kernel_rfl) (by kernel_rfl) (by kernel_rfl) (fun _ _ _ h => h) (Or.inl ⟨by rfl, ?_⟩) (by assumption) ?_
   rotate_left 1
   ·(intro u hSw; go_simp; try with_reducible rfl)
   try simp only [Act.put, List.setIfInBounds_toArray, List.set_cons_zero, List.set_cons_succ]
   refine wpAnyH_take (i := 9) (oi := ({ dst := some 14, op := .fieldAddr 98 (.tmp 13) 6, type := 0, pos := "free.go:10", after := #[{ on := 8, ground := .data }, { on := 6, ground := .guard }], guard := some (6, true) } : Oper)) (v := ?_) rfl (by kernel_rfl) (by kernel_rfl) (by kernel_rfl) (fun _ _ _ h => h) (Or.inl ⟨by rfl, ?_⟩) (by assumption) ?_
   rotate_left 1
   ·(intro u hSw; go_simp; try with_reducible rfl)
   try simp only [Act.put, List.setIfInBounds_toArray, List.set_cons_zero, List.set_cons_succ]
   refine wpAnyH_take (i := 10) (oi := ({ dst := some 15, op := .fieldAddr 85 (.tmp 14) 1, type := 0, pos := "free.go:10", after := #[{ on := 9, ground := .data }, { on := 6, ground := .guard }], guard := some (6, true) } : Oper)) (v := ?_) rfl (by kernel_rfl) (by kernel_rfl) (by kernel_rfl) (fun _ _ _ h => h) (Or.inl ⟨by rfl, ?_⟩) (by assumption) ?_
   rotate_left 1
   ·(intro u hSw; go_simp; try with_reducible rfl)
   try simp only [Act.put, List.setIfInBounds_toArray, List.set_cons_zero, List.set_cons_succ]
   refine wpAnyH_take (i := 11) (oi := ({ dst := some 16, op := .load 59 (.tmp 15), type := 59, pos := "free.go:10", after := #[{ on := 10, ground := .data }, { on := 6, ground := .guard }], guard := some (6, true) } : Oper)) (v := ?_) rfl (by kernel_rfl) (by kernel_rfl) (by kernel_rfl) (fun _ _ _ h => h) (Or.inl ⟨by rfl, ?_⟩) (by assumption) ?_
   rotate_left 1
   ·(intro u hSw; have c27 := (cell_of_row u k.P 27 _ _ _ hSw).trans HC27.out; have c26 := (cell_of_row u k.P 26 _ _ _ hSw).trans HC26.out; go_simp; try with_reducible rfl)
   try simp only [Act.put, List.setIfInBounds_toArray, List.set_cons_zero, List.set_cons_succ]
   refine wpAnyH_take (i := 12) (oi := ({ dst := some 17, op := .move (.tmp 0), type := 30, pos := "free.go:10", after := #[{ on := 6, ground := .guard }], guard := some (6, true) } : Oper)) (v := ?_) rfl (by kernel_rfl) (by kernel_rfl) (by kernel_rfl) (fun _ _ _ h => h) (Or.inl ⟨by rfl, ?_⟩) (by assumption) ?_
   rotate_left 1
   ·(intro u hSw; go_simp; try with_reducible rfl)
   try simp only [Act.put, List.setIfInBounds_toArray, List.set_cons_zero, List.set_cons_succ]
   refine wpAnyH_take (i := 13) (oi := ({ dst := some 18, op := .nilCheck (.tmp 17), type := 0, pos := "free.go:10", after := #[{ on := 12, ground := .data }, { on := 6, ground := .guard }], guard := some (6, true) } : Oper)) (v := ?_) rfl (by kernel_rfl) (by kernel_rfl) (by kernel_rfl) (fun _ _ _ h => h) (Or.inl ⟨by rfl, ?_⟩) (by assumption) ?_
   rotate_left 1
   ·(intro u hSw; go_simp; try with_reducible rfl)
   try simp only [Act.put, List.setIfInBounds_toArray, List.set_cons_zero, List.set_cons_succ]
   refine wpAnyH_take (i := 14) (oi := ({ dst := some 19, op := .fieldAddr 98 (.tmp 18) 6, type := 0, pos := "free.go:10", after := #[{ on := 13, ground := .data }, { on := 6, ground := .guard }], guard := some (6, true) } : Oper)) (v := ?_) rfl (by kernel_rfl) (by kernel_rfl) (by kernel_rfl) (fun _ _ _ h => h) (Or.inl ⟨by rfl, ?_⟩) (by assumption) ?_
   rotate_left 1
   ·(intro u hSw; go_simp; try with_reducible rfl)
   try simp only [Act.put, List.setIfInBounds_toArray, List.set_cons_zero, List.set_cons_succ]
   refine wpAnyH_take (i := 15) (oi := ({ dst := some 20, op := .fieldAddr 85 (.tmp 19) 0, type := 0, pos := "free.go:10", after := #[{ on := 14, ground := .data }, { on := 6, ground := .guard }], guard := some (6, true) } : Oper)) (v := ?_) rfl (by kernel_rfl) (by kernel_rfl) (by kernel_rfl) (fun _ _ _ h => h) (Or.inl ⟨by rfl, ?_⟩) (by assumption) ?_
   rotate_left 1
   ·(intro u hSw; go_simp; try with_reducible rfl)
   try simp only [Act.put, List.setIfInBounds_toArray, List.set_cons_zero, List.set_cons_succ]
   refine wpAnyH_take (i := 16) (oi := ({ dst := some 21, op := .load 59 (.tmp 20), type := 59, pos := "free.go:10", after := #[{ on := 15, ground := .data }, { on := 6, ground := .guard }], guard := some (6, true) } : Oper)) (v := ?_) rfl (by kernel_rfl) (by kernel_rfl) (by kernel_rfl) (fun _ _ _ h => h) (Or.inl ⟨by rfl, ?_⟩) (by assumption) ?_
   rotate_left 1
   ·(intro u hSw; have c27 := (cell_of_row u k.P 27 _ _ _ hSw).trans HC27.out; have c26 := (cell_of_row u k.P 26 _ _ _ hSw).trans HC26.out; go_simp; try with_reducible rfl)
   try simp only [Act.put, List.setIfInBounds_toArray, List.set_cons_zero, List.set_cons_succ]
   refine wpAnyH_take (i := 17) (oi := ({ dst := some 22, op := .binOp BinOp.lss 59 (.tmp 16) (.tmp 21) 59, type := 4, pos := "free.go:10", after := #[{ on := 11, ground := .data }, { on := 16, ground := .data }, { on := 6, ground := .guard }], guard := some (6, true) } : Oper)) (v := .bool true) rfl (by kernel_rfl) (by kernel_rfl) (by kernel_rfl) (fun _ _ _ h => h) (Or.inl ⟨by rfl, ?_⟩) (by assumption) ?_
   ·(intro u hSw; go_simp; try with_reducible rfl)
   try simp only [Act.put, List.setIfInBounds_toArray, List.set_cons_zero, List.set_cons_succ]
   refine wpAnyH_take (i := 18) (oi := ({ dst := some 23, op := .pick (.tmp 11) (.tmp 22) (.const (Value.bool false)), type := 4, pos := "free.go:10", after := #[{ on := 6, ground := .data }, { on := 17, ground := .data }], guard := none } : Oper)) (v := ?_) rfl (by kernel_rfl) (by kernel_rfl) (by kernel_rfl) (fun _ _ _ h => h) (Or.inl ⟨by rfl, ?_⟩) (by assumption) ?_
   rotate_left 1
   ·(intro u hSw; go_simp; try with_reducible rfl)
   try simp only [Act.put, List.setIfInBounds_toArray, List.set_cons_zero, List.set_cons_succ]
   refine wpAnyH_done (by kernel_rfl) ?_ _
   have c27 := (cell_of_row w.drew k.P 27 _ _ _ HB0.out).trans HC27.out
   have hcv : IntKind.i64.wrap (hd : Int) = (hd : Int) := wrap_i64 _ (by omega) (by omega)
   have HAA := Lib.hid (HAH.out (hd : Int) (by omega))
   go_wp2_with fail
   refine HAA.out.mono ?_
   rintro e wc ⟨rfl, ov3, hpe3⟩
   have HP5 := Lib.hid (PE.pre HW.out hpe3)
   rw [← HR.out] at HP5
   have HR2 := Lib.hid (show ahU k v (hd : Nat) = alU k v from HR.out.symm)
   clear hpe3 c27
   rw [HR2.out]
   generalize alU k v = r at *
   go_wp2_with fail
   go_ret2
   exact ⟨rfl, ov3, HP5.out⟩
  ·have HAF := Lib.hid (show alU k v = if k.nb - k.sz ≤ (us : Nat) then (v, 0, 42) else (stU k { v with h1 := v.h1.set 0 (us + 1) } (us : Nat) (zeros 256), (us : Int), 0) by rw [HA.out, if_neg (fun e => h1 e.2)])
   have h1i : ¬ ((hd : Int) < (us : Int)) := by omega
   refine wp_region_held_drew (S := fun u => u.heap[k.P]? = some (.cells (PC k v) 98 (0, 0))) (by kernel_rfl) (HB0.out) (fun hHeld => ?_)
   refine wpAnyH_take (i := 0) (oi := ({ dst := some 5, op := .move (.tmp 0), type := 30, pos := "free.go:10", after := #[], guard := none } : Oper)) (v := ?_) rfl (by kernel_rfl) (by kernel_rfl) (by kernel_rfl) (fun _ _ _ h => h) (Or.inl ⟨by rfl, ?_⟩) (by assumption) ?_
   rotate_left 1
   ·(intro u hSw; go_simp; try with_reducible rfl)
   try simp only [Act.put, List.setIfInBounds_toArray, List.set_cons_zero, List.set_cons_succ]
   refine wpAnyH_take (i := 1) (oi := ({ dst := some 6, op := .nilCheck (.tmp 5), type := 0, pos := "free.go:10", after := #[{ on := 0, ground := .data }], guard := none } : Oper)) (v := ?_) rfl (by kernel_rfl) (by kernel_rfl) (by kernel_rfl) (fun _ _ _ h => h) (Or.inl ⟨by rfl, ?_⟩) (by assumption) ?_
   rotate_left 1
   ·(intro u hSw; go_simp; try with_reducible rfl)
   try simp only [Act.put, List.setIfInBounds_toArray, List.set_cons_zero, List.set_cons_succ]
   refine wpAnyH_take (i := 2) (oi := ({ dst := some 7, op := .fieldAddr 98 (.tmp 6) 6, type := 0, pos := "free.go:10", after := #[{ on := 1, ground := .data }], guard := none } : Oper)) (v := ?_) rfl (by kernel_rfl) (by kernel_rfl) (by kernel_rfl) (fun _ _ _ h => h) (Or.inl ⟨by rfl, ?_⟩) (by assumption) ?_
   rotate_left 1
   ·(intro u hSw; go_simp; try with_reducible rfl)
   try simp only [Act.put, List.setIfInBounds_toArray, List.set_cons_zero, List.set_cons_succ]
   refine wpAnyH_take (i := 3) (oi := ({ dst := some 8, op := .fieldAddr 85 (.tmp 7) 1, type := 0, pos := "free.go:10", after := #[{ on := 2, ground := .data }], guard := none } : Oper)) (v := ?_) rfl (by kernel_rfl) (by kernel_rfl) (by kernel_rfl) (fun _ _ _ h => h) (Or.inl ⟨by rfl, ?_⟩) (by assumption) ?_
   rotate_left 1
   ·(intro u hSw; go_simp; try with_reducible rfl)
   try simp only [Act.put, List.setIfInBounds_toArray, List.set_cons_zero, List.set_cons_succ]
   refine wpAnyH_take (i := 4) (oi := ({ dst := some 9, op := .load 59 (.tmp 8), type := 59, pos := "free.go:10", after := #[{ on := 3, ground := .data }], guard := none } : Oper)) (v := ?_) rfl (by kernel_rfl) (by kernel_rfl) (by kernel_rfl) (fun _ _ _ h => h) (Or.inl ⟨by rfl, ?_⟩) (by assumption) ?_
   rotate_left 1
   ·(intro u hSw; have c27 := (cell_of_row u k.P 27 _ _ _ hSw).trans HC27.out; have c26 := (cell_of_row u k.P 26 _ _ _ hSw).trans HC26.out; go_simp; try with_reducible rfl)
   try simp only [Act.put, List.setIfInBounds_toArray, List.set_cons_zero, List.set_cons_succ]
   refine wpAnyH_take (i := 5) (oi := ({ dst := some 10, op := .binOp BinOp.gtr 59 (.tmp 9) (.const (Value.int IntKind.u64 0)) 59, type := 4, pos := "free.go:10", after := #[{ on := 4, ground := .data }], guard := none } : Oper)) (v := .bool true) rfl (by kernel_rfl) (by kernel_rfl) (by kernel_rfl) (fun _ _ _ h => h) (Or.inl ⟨by rfl, ?_⟩) (by assumption) ?_
   ·intro u hSw
    have c27 := (cell_of_row u k.P 27 _ _ _ hSw).trans HC27.out
    go_simp
    omega
   try simp only [Act.put, List.setIfInBounds_toArray, List.set_cons_zero, List.set_cons_succ]
   refine wpAnyH_take (i := 6) (oi := ({ dst := some 11, op := .move (.tmp 10), type := 4, pos := "free.go:10", after := #[{ on := 5, ground := .data }], guard := none } : Oper)) (v := ?_) rfl (by kernel_rfl) (by kernel_rfl) (by kernel_rfl) (fun _ _ _ h => h) (Or.inl ⟨by rfl, ?_⟩) (by assumption) ?_
   rotate_left 1
   ·(intro u hSw; go_simp; try with_reducible rfl)
   try simp only [Act.put, List.setIfInBounds_toArray, List.set_cons_zero, List.set_cons_succ]
   refine wpAnyH_take (i := 7) (oi := ({ dst := some 12, op := .move (.tmp 0), type := 30, pos := "free.go:10", after := #[{ on := 6, ground := .guard }], guard := some (6, true) } : Oper)) (v := ?_) rfl (by kernel_rfl) (by kernel_rfl) (by kernel_rfl) (fun _ _ _ h => h) (Or.inl ⟨by rfl, ?_⟩) (by assumption) ?_
   rotate_left 1
   ·(intro u hSw; go_simp; try with_reducible rfl)
   try simp only [Act.put, List.setIfInBounds_toArray, List.set_cons_zero, List.set_cons_succ]
   refine wpAnyH_take (i := 8) (oi := ({ dst := some 13, op := .nilCheck (.tmp 12), type := 0, pos := "free.go:10", after := #[{ on := 7, ground := .data }, { on := 6, ground := .guard }], guard := some (6, true) } : Oper)) (v := ?_) rfl (by kernel_rfl) (by kernel_rfl) (by kernel_rfl) (fun _ _ _ h => h) (Or.inl ⟨by rfl, ?_⟩) (by assumption) ?_
   rotate_left 1
   ·(intro u hSw; go_simp; try with_reducible rfl)
   try simp only [Act.put, List.setIfInBounds_toArray, List.set_cons_zero, List.set_cons_succ]
   refine wpAnyH_take (i := 9) (oi := ({ dst := some 14, op := .fieldAddr 98 (.tmp 13) 6, type := 0, pos := "free.go:10", after := #[{ on := 8, ground := .data }, { on := 6, ground := .guard }], guard := some (6, true) } : Oper)) (v := ?_) rfl (by kernel_rfl) (by kernel_rfl) (by kernel_rfl) (fun _ _ _ h => h) (Or.inl ⟨by rfl, ?_⟩) (by assumption) ?_
   rotate_left 1
   ·(intro u hSw; go_simp; try with_reducible rfl)
   try simp only [Act.put, List.setIfInBounds_toArray, List.set_cons_zero, List.set_cons_succ]
   refine wpAnyH_take (i := 10) (oi := ({ dst := some 15, op := .fieldAddr 85 (.tmp 14) 1, type := 0, pos := "free.go:10", after := #[{ on := 9, ground := .data }, { on := 6, ground := .guard }], guard := some (6, true) } : Oper)) (v := ?_) rfl (by kernel_rfl) (by kernel_rfl) (by kernel_rfl) (fun _ _ _ h => h) (Or.inl ⟨by rfl, ?_⟩) (by assumption) ?_
   rotate_left 1
   ·(intro u hSw; go_simp; try with_reducible rfl)
   try simp only [Act.put, List.setIfInBounds_toArray, List.set_cons_zero, List.set_cons_succ]
   refine wpAnyH_take (i := 11) (oi := ({ dst := some 16, op := .load 59 (.tmp 15), type := 59, pos := "free.go:10", after := #[{ on := 10, ground := .data }, { on := 6, ground := .guard }], guard := some (6, true) } : Oper)) (v := ?_) rfl (by kernel_rfl) (by kernel_rfl) (by kernel_rfl) (fun _ _ _ h => h) (Or.inl ⟨by rfl, ?_⟩) (by assumption) ?_
   rotate_left 1
   ·(intro u hSw; have c27 := (cell_of_row u k.P 27 _ _ _ hSw).trans HC27.out; have c26 := (cell_of_row u k.P 26 _ _ _ hSw).trans HC26.out; go_simp; try with_reducible rfl)
   try simp only [Act.put, List.setIfInBounds_toArray, List.set_cons_zero, List.set_cons_succ]
   refine wpAnyH_take (i := 12) (oi := ({ dst := some 17, op := .move (.tmp 0), type := 30, pos := "free.go:10", after := #[{ on := 6, ground := .guard }], guard := some (6, true) } : Oper)) (v := ?_) rfl (by kernel_rfl) (by kernel_rfl) (by kernel_rfl) (fun _ _ _ h => h) (Or.inl ⟨by rfl, ?_⟩) (by assumption) ?_
   rotate_left 1
   ·(intro u hSw; go_simp; try with_reducible rfl)
   try simp only [Act.put, List.setIfInBounds_toArray, List.set_cons_zero, List.set_cons_succ]
   refine wpAnyH_take (i := 13) (oi := ({ dst := some 18, op := .nilCheck (.tmp 17), type := 0, pos := "free.go:10", after := #[{ on := 12, ground := .data }, { on := 6, ground := .guard }], guard := some (6, true) } : Oper)) (v := ?_) rfl (by kernel_rfl) (by kernel_rfl) (by kernel_rfl) (fun _ _ _ h => h) (Or.inl ⟨by rfl, ?_⟩) (by assumption) ?_
   rotate_left 1
   ·(intro u hSw; go_simp; try with_reducible rfl)
   try simp only [Act.put, List.setIfInBounds_toArray, List.set_cons_zero, List.set_cons_succ]
   refine wpAnyH_take (i := 14) (oi := ({ dst := some 19, op := .fieldAddr 98 (.tmp 18) 6, type := 0, pos := "free.go:10", after := #[{ on := 13, ground := .data }, { on := 6, ground := .guard }], guard := some (6, true) } : Oper)) (v := ?_) rfl (by kernel_rfl) (by kernel_rfl) (by kernel_rfl) (fun _ _ _ h => h) (Or.inl ⟨by rfl, ?_⟩) (by assumption) ?_
   rotate_left 1
   ·(intro u hSw; go_simp; try with_reducible rfl)
   try simp only [Act.put, List.setIfInBounds_toArray, List.set_cons_zero, List.set_cons_succ]
   refine wpAnyH_take (i := 15) (oi := ({ dst := some 20, op := .fieldAddr 85 (.tmp 19) 0, type := 0, pos := "free.go:10", after := #[{ on := 14, ground := .data }, { on := 6, ground := .guard }], guard := some (6, true) } : Oper)) (v := ?_) rfl (by kernel_rfl) (by kernel_rfl) (by kernel_rfl) (fun _ _ _ h => h) (Or.inl ⟨by rfl, ?_⟩) (by assumption) ?_
   rotate_left 1
   ·(intro u hSw; go_simp; try with_reducible rfl)
   try simp only [Act.put, List.setIfInBounds_toArray, List.set_cons_zero, List.set_cons_succ]
   refine wpAnyH_take (i := 16) (oi := ({ dst := some 21, op := .load 59 (.tmp 20), type := 59, pos := "free.go:10", after := #[{ on := 15, ground := .data }, { on := 6, ground := .guard }], guard := some (6, true) } : Oper)) (v := ?_) rfl (by kernel_rfl) (by kernel_rfl) (by kernel_rfl) (fun _ _ _ h => h) (Or.inl ⟨by rfl, ?_⟩) (by assumption) ?_
   rotate_left 1
   ·(intro u hSw; have c27 := (cell_of_row u k.P 27 _ _ _ hSw).trans HC27.out; have c26 := (cell_of_row u k.P 26 _ _ _ hSw).trans HC26.out; go_simp; try with_reducible rfl)
   try simp only [Act.put, List.setIfInBounds_toArray, List.set_cons_zero, List.set_cons_succ]
   refine wpAnyH_take (i := 17) (oi := ({ dst := some 22, op := .binOp BinOp.lss 59 (.tmp 16) (.tmp 21) 59, type := 4, pos := "free.go:10", after := #[{ on := 11, ground := .data }, { on := 16, ground := .data }, { on := 6, ground := .guard }], guard := some (6, true) } : Oper)) (v := .bool false) rfl (by kernel_rfl) (by kernel_rfl) (by kernel_rfl) (fun _ _ _ h => h) (Or.inl ⟨by rfl, ?_⟩) (by assumption) ?_
   ·(intro u hSw; go_simp; try with_reducible rfl)
   try simp only [Act.put, List.setIfInBounds_toArray, List.set_cons_zero, List.set_cons_succ]
   refine wpAnyH_take (i := 18) (oi := ({ dst := some 23, op := .pick (.tmp 11) (.tmp 22) (.const (Value.bool false)), type := 4, pos := "free.go:10", after := #[{ on := 6, ground := .data }, { on := 17, ground := .data }], guard := none } : Oper)) (v := ?_) rfl (by kernel_rfl) (by kernel_rfl) (by kernel_rfl) (fun _ _ _ h => h) (Or.inl ⟨by rfl, ?_⟩) (by assumption) ?_
   rotate_left 1
   ·(intro u hSw; go_simp; try with_reducible rfl)
   try simp only [Act.put, List.setIfInBounds_toArray, List.set_cons_zero, List.set_cons_succ]
   refine wpAnyH_done (by kernel_rfl) ?_ _
   have c26 := (cell_of_row w.drew k.P 26 _ _ _ HB0.out).trans HC26.out
   have hcv : IntKind.i64.wrap (us : Int) = (us : Int) := wrap_i64 _ (by omega) (by omega)
   have hcu : IntKind.u64.wrap ((us : Int) + 1) = ((us + 1 : Nat) : Int) := by rw [IntKind.wrap_u64]; omega
   go_wp2_with (first | (refine wpList_load_mid rfl 80 (Operand.tmp 43) rfl k.P 1 rfl _ _ HRG.out Tryz.underlying80 rfl HIL.out ?_) | fail)
   refine HPG.out.mono ?_
   rintro e wp ⟨rfl, hbp⟩
   have HPP := Lib.hid (HD.out.fresh (hbp.mono (Nat.le_refl _)))
   have HBP := Lib.hid (HW.out.trans (hbp.mono HW.out.size))
   clear c26 hbp
   by_cases hge : k.nb - k.sz ≤ (us : Int)
   ·have HR := Lib.hid (show alU k v = (v, 0, 42) by rw [HAF.out, if_pos hge])
    go_wp2_with fail
    go_ret2
    refine ⟨by rw [HR.out]; rfl, v.ov, ?_⟩
    rw [HR.out]
    exact PE.same HH.out HBP.out
   ·have HR := Lib.hid (show alU k v = (stU k { v with h1 := v.h1.set 0 (us + 1) } (us : Nat) (zeros 256), (us : Int), 0) by rw [HAF.out, if_neg hge])
    have hlt : (us : Int) < k.nb - k.sz := by omega
    have hnm := HPP.out.num 0 (us + 1) (by decide)
    have hj2 := HUU.out hlt
    have HST := Lib.hid (set_any k _ (us : Int) (zeros 256) _ hnm.1 hj2.pin ⟨by omega, hlt⟩ (zeros_len _))
    have HNM2 := Lib.hid hnm
    have c26 : wp.cell? ⟨k.P, 26, none⟩ = some (.int .u64 (us : Int)) := (cell_of_row wp k.P 26 _ _ _ HPP.out.box).trans HC26.out
    have f26 := frozen_of_row wp k.P 26 _ _ HPP.out.box
    clear hnm hj2 hge
    go_wp2_with fail
    refine HST.out.mono ?_
    rintro e wc ⟨rfl, ov3, hpe3⟩
    have HP5 := Lib.hid (PE.pre HBP.out (PE.trans HNM2.out hpe3))
    clear hpe3 c26 f26
    go_wp2_with fail
    go_ret2
    refine ⟨by rw [HR.out]; rfl, ov3, ?_⟩
    rw [HR.out]
    exact HP5.out
end Go.Proofs.YtfknlheflaccaaaGreat
/- what the library is at this program: maps.Keys, slices.Sorted, slices.Sort, maps.Clone -/
namespace Go.Proofs
open Go.Shelf
def Tryz.keysL_ren : Go.Shelf.Ren := ⟨fun | 7 => 104 | 10 => 143 | n => n, fun | 23 => 91 | 26 => 3 | 3 => 3 | 28 => 164 | 0 => 0 | 27 => 163 | 33 => 115 | 4 => 4 | n => n, fun | n => n⟩
theorem Tryz.keysL : Go.Proofs.SlLaysZI.n7 Tryz.prog Tryz.keysL_ren := {
  mixed := by kernel_rfl
  f7 := ⟨Tryz.f104.name, by decide, Tryz.func104.trans (congrArg some (by kernel_rfl))⟩
  f10 := ⟨Tryz.f143.name, by decide, Tryz.func143.trans (congrArg some (by kernel_rfl))⟩
  t0 := Tryz.underlying0
  a0 := Tryz.isAgg0
  z0 := Tryz.sizeOf0
  v0 := Tryz.zeroValue0
  t4 := Tryz.underlying4
  a4 := Tryz.isAgg4
  z4 := Tryz.sizeOf4
  v4 := Tryz.zeroValue4
  t23 := Tryz.underlying91
  a23 := Tryz.isAgg91
  z23 := Tryz.sizeOf91
  v23 := Tryz.zeroValue91
  t26 := Tryz.underlying3
  a26 := Tryz.isAgg3
  z26 := Tryz.sizeOf3
  v26 := Tryz.zeroValue3
  t27 := Tryz.underlying163
  a27 := Tryz.isAgg163
  z27 := Tryz.sizeOf163
  v27 := Tryz.zeroValue163
  t28 := Tryz.underlying164
  a28 := Tryz.isAgg164
  z28 := Tryz.sizeOf164
  v28 := Tryz.zeroValue164
  t33 := Tryz.underlying115
  a33 := Tryz.isAgg115
  z33 := Tryz.sizeOf115
  v33 := Tryz.zeroValue115 }
def Tryz.keysB_ren : Go.Shelf.Ren := ⟨fun | 7 => 108 | 10 => 146 | n => n, fun | 23 => 92 | 26 => 3 | 3 => 50 | 28 => 164 | 0 => 0 | 27 => 163 | 33 => 115 | 4 => 4 | n => n, fun | n => n⟩
theorem Tryz.keysB : Go.Proofs.SlLaysZI.n7 Tryz.prog Tryz.keysB_ren := {
  mixed := by kernel_rfl
  f7 := ⟨Tryz.f108.name, by decide, Tryz.func108.trans (congrArg some (by kernel_rfl))⟩
  f10 := ⟨Tryz.f146.name, by decide, Tryz.func146.trans (congrArg some (by kernel_rfl))⟩
  t0 := Tryz.underlying0
  a0 := Tryz.isAgg0
  z0 := Tryz.sizeOf0
  v0 := Tryz.zeroValue0
  t4 := Tryz.underlying4
  a4 := Tryz.isAgg4
  z4 := Tryz.sizeOf4
  v4 := Tryz.zeroValue4
  t23 := Tryz.underlying92
  a23 := Tryz.isAgg92
  z23 := Tryz.sizeOf92
  v23 := Tryz.zeroValue92
  t26 := Tryz.underlying3
  a26 := Tryz.isAgg3
  z26 := Tryz.sizeOf3
  v26 := Tryz.zeroValue3
  t27 := Tryz.underlying163
  a27 := Tryz.isAgg163
  z27 := Tryz.sizeOf163
  v27 := Tryz.zeroValue163
  t28 := Tryz.underlying164
  a28 := Tryz.isAgg164
  z28 := Tryz.sizeOf164
  v28 := Tryz.zeroValue164
  t33 := Tryz.underlying115
  a33 := Tryz.isAgg115
  z33 := Tryz.sizeOf115
  v33 := Tryz.zeroValue115 }
def Tryz.sortedI_ren : Go.Shelf.Ren := ⟨fun | 6 => 103 | 8 => 141 | 9 => 142 | 11 => 164 | 13 => 166 | 12 => 165 | 23 => 185 | 24 => 186 | 14 => 176 | 15 => 177 | 16 => 178 | 17 => 179 | 18 => 180 | 19 => 181 | 20 => 182 | 21 => 183 | 22 => 184 | 25 => 189 | 26 => 190 | 27 => 191 | 28 => 192 | 29 => 193 | 30 => 194 | 31 => 195 | n => n, fun | 26 => 3 | 28 => 164 | 24 => 93 | 0 => 0 | 3 => 3 | 37 => 195 | 48 => 225 | 50 => 59 | 4 => 4 | 40 => 218 | 39 => 217 | 45 => 130 | 5 => 5 | 9 => 9 | 51 => 230 | 55 => 234 | 57 => 236 | 58 => 237 | 33 => 115 | n => n, fun | n => n⟩
theorem Tryz.sortedI : Go.Proofs.SlLaysZI.n6 Tryz.prog Tryz.sortedI_ren := {
  mixed := by kernel_rfl
  f6 := ⟨Tryz.f103.name, by decide, Tryz.func103.trans (congrArg some (by kernel_rfl))⟩
  f8 := ⟨Tryz.f141.name, by decide, Tryz.func141.trans (congrArg some (by kernel_rfl))⟩
  f11 := ⟨Tryz.f164.name, by decide, Tryz.func164.trans (congrArg some (by kernel_rfl))⟩
  t0 := Tryz.underlying0
  a0 := Tryz.isAgg0
  z0 := Tryz.sizeOf0
  v0 := Tryz.zeroValue0
  t24 := Tryz.underlying93
  a24 := Tryz.isAgg93
  z24 := Tryz.sizeOf93
  v24 := Tryz.zeroValue93
  t26 := Tryz.underlying3
  a26 := Tryz.isAgg3
  z26 := Tryz.sizeOf3
  v26 := Tryz.zeroValue3
  t28 := Tryz.underlying164
  a28 := Tryz.isAgg164
  z28 := Tryz.sizeOf164
  v28 := Tryz.zeroValue164
  i26 := by kernel_rfl }
def Tryz.sortI_ren : Go.Shelf.Ren := ⟨fun | 5 => 142 | 8 => 166 | 7 => 165 | 19 => 185 | 20 => 186 | 10 => 176 | 11 => 177 | 12 => 178 | 13 => 179 | 14 => 180 | 15 => 181 | 16 => 182 | 17 => 183 | 18 => 184 | 30 => 189 | 31 => 190 | 32 => 191 | 33 => 192 | 34 => 193 | 35 => 194 | 40 => 195 | n => n, fun | 23 => 93 | 25 => 3 | 3 => 3 | 32 => 195 | 22 => 93 | 0 => 0 | 44 => 225 | 46 => 59 | 4 => 4 | 36 => 218 | 35 => 217 | 41 => 130 | 5 => 5 | 9 => 9 | 53 => 230 | 57 => 234 | 63 => 236 | 64 => 237 | n => n, fun | n => n⟩
theorem Tryz.sortI : Go.Proofs.SlLaysM.n5 Tryz.prog Tryz.sortI_ren := {
  mixed := by kernel_rfl
  f5 := ⟨Tryz.f142.name, by decide, Tryz.func142.trans (congrArg some (by kernel_rfl))⟩
  f7 := ⟨Tryz.f165.name, by decide, Tryz.func165.trans (congrArg some (by kernel_rfl))⟩
  f8 := Tryz.func166.trans (congrArg some (by kernel_rfl))
  f10 := ⟨Tryz.f176.name, by decide, Tryz.func176.trans (congrArg some (by kernel_rfl))⟩
  f11 := ⟨Tryz.f177.name, by decide, Tryz.func177.trans (congrArg some (by kernel_rfl))⟩
  f12 := ⟨Tryz.f178.name, by decide, Tryz.func178.trans (congrArg some (by kernel_rfl))⟩
  f13 := ⟨Tryz.f179.name, by decide, Tryz.func179.trans (congrArg some (by kernel_rfl))⟩
  f14 := ⟨Tryz.f180.name, by decide, Tryz.func180.trans (congrArg some (by kernel_rfl))⟩
  f15 := ⟨Tryz.f181.name, by decide, Tryz.func181.trans (congrArg some (by kernel_rfl))⟩
  f16 := ⟨Tryz.f182.name, by decide, Tryz.func182.trans (congrArg some (by kernel_rfl))⟩
  f17 := ⟨Tryz.f183.name, by decide, Tryz.func183.trans (congrArg some (by kernel_rfl))⟩
  f18 := ⟨Tryz.f184.name, by decide, Tryz.func184.trans (congrArg some (by kernel_rfl))⟩
  f19 := Tryz.func185.trans (congrArg some (by kernel_rfl))
  f20 := Tryz.func186.trans (congrArg some (by kernel_rfl))
  f30 := ⟨Tryz.f189.name, by decide, Tryz.func189.trans (congrArg some (by kernel_rfl))⟩
  f31 := Tryz.func190.trans (congrArg some (by kernel_rfl))
  f32 := Tryz.func191.trans (congrArg some (by kernel_rfl))
  f33 := ⟨Tryz.f192.name, by decide, Tryz.func192.trans (congrArg some (by kernel_rfl))⟩
  f34 := ⟨Tryz.f193.name, by decide, Tryz.func193.trans (congrArg some (by kernel_rfl))⟩
  f35 := ⟨Tryz.f194.name, by decide, Tryz.func194.trans (congrArg some (by kernel_rfl))⟩
  f40 := ⟨Tryz.f195.name, by decide, Tryz.func195.trans (congrArg some (by kernel_rfl))⟩
  t0 := Tryz.underlying0
  a0 := Tryz.isAgg0
  z0 := Tryz.sizeOf0
  v0 := Tryz.zeroValue0
  t3 := Tryz.underlying3
  a3 := Tryz.isAgg3
  z3 := Tryz.sizeOf3
  v3 := Tryz.zeroValue3
  t4 := Tryz.underlying4
  a4 := Tryz.isAgg4
  z4 := Tryz.sizeOf4
  v4 := Tryz.zeroValue4
  t5 := Tryz.underlying5
  a5 := Tryz.isAgg5
  z5 := Tryz.sizeOf5
  v5 := Tryz.zeroValue5
  t9 := Tryz.underlying9
  a9 := Tryz.isAgg9
  z9 := Tryz.sizeOf9
  v9 := Tryz.zeroValue9
  t22 := Tryz.underlying93
  a22 := Tryz.isAgg93
  z22 := Tryz.sizeOf93
  v22 := Tryz.zeroValue93
  t23 := Tryz.underlying93
  a23 := Tryz.isAgg93
  z23 := Tryz.sizeOf93
  v23 := Tryz.zeroValue93
  t25 := Tryz.underlying3
  a25 := Tryz.isAgg3
  z25 := Tryz.sizeOf3
  v25 := Tryz.zeroValue3
  t32 := Tryz.underlying195
  a32 := Tryz.isAgg195
  z32 := Tryz.sizeOf195
  v32 := Tryz.zeroValue195
  t35 := Tryz.underlying217
  a35 := Tryz.isAgg217
  z35 := Tryz.sizeOf217
  v35 := Tryz.zeroValue217
  t36 := Tryz.underlying218
  a36 := Tryz.isAgg218
  z36 := Tryz.sizeOf218
  v36 := Tryz.zeroValue218
  t41 := Tryz.underlying130
  a41 := Tryz.isAgg130
  z41 := Tryz.sizeOf130
  v41 := Tryz.zeroValue130
  t44 := Tryz.underlying225
  a44 := Tryz.isAgg225
  z44 := Tryz.sizeOf225
  v44 := Tryz.zeroValue225
  t46 := Tryz.underlying59
  a46 := Tryz.isAgg59
  z46 := Tryz.sizeOf59
  v46 := Tryz.zeroValue59
  t53 := Tryz.underlying230
  a53 := Tryz.isAgg230
  z53 := Tryz.sizeOf230
  v53 := Tryz.zeroValue230
  t57 := Tryz.underlying234
  a57 := Tryz.isAgg234
  z57 := Tryz.sizeOf234
  v57 := Tryz.zeroValue234
  t63 := Tryz.underlying236
  a63 := Tryz.isAgg236
  z63 := Tryz.sizeOf236
  v63 := Tryz.zeroValue236
  t64 := Tryz.underlying237
  a64 := Tryz.isAgg237
  z64 := Tryz.sizeOf237
  v64 := Tryz.zeroValue237 }
def Tryz.cloneB_ren : Go.Shelf.Ren := ⟨fun | 5 => 145 | 7 => 168 | n => n, fun | 23 => 92 | 25 => 3 | 3 => 50 | 4 => 4 | 20 => 20 | n => n, fun | n => n⟩
theorem Tryz.cloneB : Go.Proofs.SlLaysW.n5 Tryz.prog Tryz.cloneB_ren := {
  mixed := by kernel_rfl
  f5 := ⟨Tryz.f145.name, by decide, Tryz.func145.trans (congrArg some (by kernel_rfl))⟩
  f7 := Tryz.func168.trans (congrArg some (by kernel_rfl))
  t4 := Tryz.underlying4
  a4 := Tryz.isAgg4
  z4 := Tryz.sizeOf4
  v4 := Tryz.zeroValue4
  t20 := Tryz.underlying20
  a20 := Tryz.isAgg20
  z20 := Tryz.sizeOf20
  v20 := Tryz.zeroValue20
  t23 := Tryz.underlying92
  a23 := Tryz.isAgg92
  z23 := Tryz.sizeOf92
  v23 := Tryz.zeroValue92 }
end Go.Proofs
