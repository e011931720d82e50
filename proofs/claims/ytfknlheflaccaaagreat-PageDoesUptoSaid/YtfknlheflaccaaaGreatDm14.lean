/- a page set -/
import Derived.Test.YtfknlheflaccaaaGreatDm13
import Derived.DeepKeys
namespace Go.Proofs.YtfknlheflaccaaaGreat
open Go.RowKit
/-- the changed pages' map that has turned, put back -/
theorem PgS.rech {k : PK} {v : PV} {w w' : World} (h : PgS k v w) {ch' : List (Int × List Int)} (hm : MapG blkV w' v.Hm ch') (hg : w.grownBy w' (some v.Hm)) : PE k v w { v with ch := ch' } w' := by
  obtain ⟨u, hu⟩ := h.ap
  have hc : Chg (fun g => g = v.Hm) w w' := Chg.grown hg (fun g hg => (Option.some.inj hg).symm)
  have hn : ∀ g, u g ≠ 4 → ¬ (g = v.Hm) := fun g h4 e => h4 (by rw [e]; exact hu.h)
  exact ⟨{ h with
      ls := h.ls.chg hc (fun g hg => hn g (by rw [hu.l g hg]; decide))
      box := (hc.block k.P h.ltP (hn _ (by rw [hu.p]; decide))).trans h.box
      lg := h.lg.of (hc.block _ h.lg.lt (hn _ (by rw [hu.m]; decide)))
      ca := h.ca.of (hc.block _ h.ca.lt (hn _ (by rw [hu.c]; decide)))
      ch := hm
      ord := h.ord.chg hc (fun g hg => hn g (by rw [hu.o g hg]; decide))
      ap := ⟨u, { hu with }⟩ }, hc.mono (fun g e => .inr (.inr (.inr (.inr (.inl e))))), fun g hg => .inl hg⟩
def stV (k : PK) (v : PV) (n : Int) (b : List Int) : List (Int × List Int) := if (cmR k v n).2 = 0 ∧ b = (cmR k v n).1 then gd v.ch n else gp v.ch n b
def StEnds (k : PK) (v : PV) (n : Int) (b : List Int) (w : World) (e : Ending) (w' : World) : Prop :=
 e = .returned (.tuple #[]) ∧ ∃ ov', PE k v w { v with ov := ov', ca := (cmV k v n).1, od := (cmV k v n).2, ch := stV k v n b } w'
set_option maxRecDepth 100000 in
set_option maxHeartbeats 2000000 in
theorem set_any (k : PK) (v : PV) (n : Int) (b : List Int) (w : World) (h : PgS k v w) (hi : PIn k v) (hn : 0 ≤ n ∧ n < k.nb - k.sz) (hb : b.length = 256) :
  Calls Tryz.prog 70 #[.pointer (some ⟨k.P, 0, none⟩), .int .i64 n, .agg (ArrU8 b)] w (StEnds k v n b w) := by
 have hz := zero35
 have HI35 := Lib.hid (show (Tryz.prog.info? 50).map (·.size) = some 256 by kernel_rfl)
 have SZ := Lib.hid (show (ArrU8 (zeros 256)).size = 256 by rw [ArrU8_size, zeros_len])
 have SB := Lib.hid (show (ArrU8 b).size = 256 by rw [ArrU8_size, hb])
 have hb1 : Below w.heap.size w (w.alloc (.cells (ArrU8 b) 50)) := (Below.refl _ _).alloc (Nat.le_refl _) _
 have h1 := h.fresh hb1
 have hx := heap_alloc_new w (.cells (ArrU8 b) 50)
 have HX := Lib.hid hx
 have HB1 := Lib.hid hb1
 have HH := Lib.hid h
 have HB := Lib.hid hb
 have HRL := Lib.hid (cmR_len h hi n)
 have HST := Lib.hid (committed_any k v n _ h1 hi hn)
 have HV := Lib.hid (show stV k v n b = if (cmR k v n).2 = 0 ∧ b = (cmR k v n).1 then gd v.ch n else gp v.ch n b from rfl)
 have HER := Lib.hid (show (cmR k v n).2 = 0 ∨ (cmR k v n).2 = 44 by
  unfold cmR
  split
  ·exact .inl rfl
  ·split
   ·exact .inr rfl
   ·exact .inl rfl)
 clear h hi hb1 h1 hx hb
 go_enter Tryz.func70, Tryz.ntmps70
 go_wp2_with fail
 refine HST.out.mono ?_
 rintro e wa ⟨rfl, ov', hpe⟩
 have HPE := Lib.hid hpe
 have HXA := Lib.hid ((hpe.2.1.block w.heap.size (Array.getElem?_eq_some_iff.1 HX.out).1 (fun hp => by have := (HH.out.lt _ hp).2; omega)).trans HX.out)
 have hxn := heap_alloc_new wa (.cells (ArrU8 (zeros 256)) 50)
 have HXN := Lib.hid hxn
 have HXL := Lib.hid (Array.getElem?_eq_some_iff.1 HXA.out).1
 clear hpe hxn HST
 generalize cmR k v n = R at *
 obtain ⟨R, E⟩ := R
 simp only [] at HRL HV HER
 have SR := Lib.hid (show (ArrU8 R).size = 256 by rw [ArrU8_size, HRL.out])
 simp only []
 rcases HER.out with he | he
 ·subst he
  clear HER
  by_cases hbR : b = R
  ·have HVE := Lib.hid (show stV k v n b = gd v.ch n by rw [HV.out, if_pos ⟨rfl, hbR⟩])
   have h4 : PgS k { v with ov := ov', ca := (cmV k v n).1, od := (cmV k v n).2 } ((wa.alloc (.cells (ArrU8 (zeros 256)) 50)).setRow wa.heap.size (ArrU8 R)) := HPE.out.1.fresh (new_below (Below.refl _ _) _ _)
   have hp4 := PE.post HPE.out (new_below (Below.refl _ wa) (.cells (ArrU8 (zeros 256)) 50) (ArrU8 R))
   have p44 := (cell_of_row _ k.P 44 _ _ _ h4.box).trans (PC_44 h4.l0 h4.l1)
   have hx4 := (new_old (w := wa) (.cells (ArrU8 (zeros 256)) 50) (ArrU8 R) _ HXL.out).trans HXA.out
   obtain ⟨w9, hdel, hm9, hg9, hs9⟩ := run_delete_g (P := Tryz.prog) (mT := 92) (kT := 3) (eT := 50) (enc := blkV) (ty := 0) Tryz.underlying92 Tryz.underlying3 n h4.ch
   have HDEL := Lib.hid hdel
   have HPF := Lib.hid (hp4.trans (h4.rech hm9 hg9))
   have HBR := Lib.hid hbR
   clear hdel hm9 hg9 hs9 hx4 h4 hp4 hbR
   go_wp2_with (first | (refine wpList_store_row rfl 50 (Operand.tmp 6) (Operand.tmp 12) rfl wa.heap.size (ArrU8 R) rfl rfl 50 (ArrU8 (zeros 256)) HXN.out (by rw [HI35.out, SR.out]) (by rw [SR.out, SZ.out]) (ArrU8_one _) ?_) | (refine wpList_load_rowG (by rfl) 50 (Operand.tmp 5) rfl w.heap.size rfl 50 (ArrU8 b) (0, 0) _ ((new_old _ _ _ HXL.out).trans HXA.out) Tryz.underlying50 rfl (by rw [HI35.out, SB.out]) ?_) | (refine wpList_load_rowG (by rfl) 50 (Operand.tmp 6) rfl wa.heap.size rfl 50 (ArrU8 R) (0, 0) _ (new_at wa _ _ _) Tryz.underlying50 rfl (by rw [HI35.out, SR.out]) ?_) | (refine wpList_of_runG (by rfl) (exec_eql_blk (Operand.tmp 17) (Operand.tmp 18) 50 rfl b R rfl rfl HB.out HRL.out true (by exact decide_eq_true HBR.out)) ?_) | (at_delete; refine wpList_of_run rfl (exec_delete (Operand.tmp 24) (Operand.tmp 25) 92 3 rfl _ _ rfl rfl HDEL.out) ?_))
   go_end0
   refine ⟨rfl, ov', ?_⟩
   rw [HVE.out]
   exact PE.pre HB1.out HPF.out
  ·have HNV := Lib.hid (show ¬ ((0 : Int) = 0 ∧ b = R) from fun e => hbR e.2)
   have HBR := Lib.hid hbR
   have h4 : PgS k { v with ov := ov', ca := (cmV k v n).1, od := (cmV k v n).2 } ((wa.alloc (.cells (ArrU8 (zeros 256)) 50)).setRow wa.heap.size (ArrU8 R)) := HPE.out.1.fresh (new_below (Below.refl _ _) _ _)
   have hp4 := PE.post HPE.out (new_below (Below.refl _ wa) (.cells (ArrU8 (zeros 256)) 50) (ArrU8 R))
   have p44 := (cell_of_row _ k.P 44 _ _ _ h4.box).trans (PC_44 h4.l0 h4.l1)
   have hx4 := (new_old (w := wa) (.cells (ArrU8 (zeros 256)) 50) (ArrU8 R) _ HXL.out).trans HXA.out
   clear hbR
   go_wp2_with (first | (refine wpList_store_row rfl 50 (Operand.tmp 6) (Operand.tmp 12) rfl wa.heap.size (ArrU8 R) rfl rfl 50 (ArrU8 (zeros 256)) HXN.out (by rw [HI35.out, SR.out]) (by rw [SR.out, SZ.out]) (ArrU8_one _) ?_) | (refine wpList_load_rowG (by rfl) 50 (Operand.tmp 5) rfl w.heap.size rfl 50 (ArrU8 b) (0, 0) _ ((new_old _ _ _ HXL.out).trans HXA.out) Tryz.underlying50 rfl (by rw [HI35.out, SB.out]) ?_) | (refine wpList_load_rowG (by rfl) 50 (Operand.tmp 6) rfl wa.heap.size rfl 50 (ArrU8 R) (0, 0) _ (new_at wa _ _ _) Tryz.underlying50 rfl (by rw [HI35.out, SR.out]) ?_) | (refine wpList_of_runG (by rfl) (exec_eql_blk (Operand.tmp 17) (Operand.tmp 18) 50 rfl b R rfl rfl HB.out HRL.out false (by exact decide_eq_false HBR.out)) ?_))
   obtain ⟨w9, hup, hm9, hg9, hs9⟩ := run_update_g (P := Tryz.prog) (mT := 92) (kT := 3) (eT := 50) (enc := blkV) Tryz.underlying92 Tryz.underlying3 n b (h4.ch.of (w' := ((wa.alloc (.cells (ArrU8 (zeros 256)) 50)).setRow wa.heap.size (ArrU8 R)).drew) rfl)
   have HUP := Lib.hid hup
   have HX4 := Lib.hid hx4
   have HP44 := Lib.hid p44
   have hd4 := h4.fresh ((Below.refl _ _).drew)
   have HPF := Lib.hid ((PE.post hp4 ((Below.refl _ _).drew)).trans (hd4.rech hm9 hg9))
   have HNX := Lib.hid (show w.heap.size ≠ v.Hm by have := HH.out.ch.lt; omega)
   have HNP := Lib.hid (show k.P ≠ v.Hm by obtain ⟨u, hu⟩ := HH.out.ap; intro e; have h1 := hu.p; have h2 := hu.h; rw [e] at h1; omega)
   have H9 := Lib.hid (And.intro ((hg9.block k.P h4.ltP (fun e => HNP.out (Option.some.inj e))).trans h4.box) ((hg9.block w.heap.size (Array.getElem?_eq_some_iff.1 hx4).1 (fun e => HNX.out (Option.some.inj e))).trans hx4))
   have H44 := Lib.hid (And.intro h4.box hx4)
   have HLL := Lib.hid (And.intro h4.l0 h4.l1)
   clear hup hm9 hg9 hs9 hx4 p44 h4 hp4 hd4
   generalize (wa.alloc (.cells (ArrU8 (zeros 256)) 50)).setRow wa.heap.size (ArrU8 R) = wb at *
   refine wp_region_held_drew (S := fun u => u.heap[k.P]? = some (.cells (PC k { v with ov := ov', ca := (cmV k v n).1, od := (cmV k v n).2 }) 98 (0, 0)) ∧ u.heap[w.heap.size]? = some (.cells (ArrU8 b) 50 (0, 0))) (by kernel_rfl) (H44.out) (fun hHeld => ?_)
   refine wpAnyH_take (i := 0) (oi := ({ dst := some 26, op := .move (.tmp 0), type := 30, pos := "page.go:150", after := #[], guard := none } : Oper)) (v := ?_) rfl (by kernel_rfl) (by kernel_rfl) (by kernel_rfl) (fun _ _ _ h => h) (Or.inl ⟨by rfl, ?_⟩) (by assumption) ?_
   rotate_left 1
   ·(intro u hSw; go_simp; try with_reducible rfl)
   try simp only [Act.put, List.setIfInBounds_toArray, List.set_cons_zero, List.set_cons_succ]
   refine wpAnyH_take (i := 1) (oi := ({ dst := some 27, op := .nilCheck (.tmp 26), type := 0, pos := "page.go:150", after := #[{ on := 0, ground := .data }], guard := none } : Oper)) (v := ?_) rfl (by kernel_rfl) (by kernel_rfl) (by kernel_rfl) (fun _ _ _ h => h) (Or.inl ⟨by rfl, ?_⟩) (by assumption) ?_
   rotate_left 1
   ·(intro u hSw; go_simp; try with_reducible rfl)
   try simp only [Act.put, List.setIfInBounds_toArray, List.set_cons_zero, List.set_cons_succ]
   refine wpAnyH_take (i := 2) (oi := ({ dst := some 28, op := .fieldAddr 98 (.tmp 27) 7, type := 0, pos := "page.go:150", after := #[{ on := 1, ground := .data }], guard := none } : Oper)) (v := ?_) rfl (by kernel_rfl) (by kernel_rfl) (by kernel_rfl) (fun _ _ _ h => h) (Or.inl ⟨by rfl, ?_⟩) (by assumption) ?_
   rotate_left 1
   ·(intro u hSw; go_simp; try with_reducible rfl)
   try simp only [Act.put, List.setIfInBounds_toArray, List.set_cons_zero, List.set_cons_succ]
   refine wpAnyH_take (i := 3) (oi := ({ dst := some 29, op := .load 92 (.tmp 28), type := 92, pos := "page.go:150", after := #[{ on := 2, ground := .data }], guard := none } : Oper)) (v := ?_) rfl (by kernel_rfl) (by kernel_rfl) (by kernel_rfl) (fun _ _ _ h => h) (Or.inl ⟨by rfl, ?_⟩) (by assumption) ?_
   rotate_left 1
   ·intro u hSw
    have p44 := (cell_of_row u k.P 44 _ _ _ hSw.1).trans (PC_44 HLL.out.1 HLL.out.2)
    go_simp
    try with_reducible rfl
   try simp only [Act.put, List.setIfInBounds_toArray, List.set_cons_zero, List.set_cons_succ]
   refine wpAnyH_take (i := 4) (oi := ({ dst := some 30, op := .move (.tmp 1), type := 3, pos := "page.go:150", after := #[], guard := none } : Oper)) (v := ?_) rfl (by kernel_rfl) (by kernel_rfl) (by kernel_rfl) (fun _ _ _ h => h) (Or.inl ⟨by rfl, ?_⟩) (by assumption) ?_
   rotate_left 1
   ·(intro u hSw; go_simp; try with_reducible rfl)
   try simp only [Act.put, List.setIfInBounds_toArray, List.set_cons_zero, List.set_cons_succ]
   refine wpAnyH_take (i := 5) (oi := ({ dst := some 31, op := .load 50 (.tmp 5), type := 50, pos := "page.go:150", after := #[], guard := none } : Oper)) (v := ?_) rfl (by kernel_rfl) (by kernel_rfl) (by kernel_rfl) (fun _ _ _ h => h) (Or.inl ⟨by rfl, ?_⟩) (by assumption) ?_
   rotate_left 1
   ·intro u hSw
    refine exec_load_row 50 (Operand.tmp 5) ?_ u w.heap.size ?_ (ArrU8 b) 50 (0, 0) _ hSw.2 Tryz.underlying50 rfl (by rw [HI35.out, SB.out]) <;> rfl
   try simp only [Act.put, List.setIfInBounds_toArray, List.set_cons_zero, List.set_cons_succ]
   refine wpAnyH_ready (rs := [6]) (by kernel_rfl) (by simp) ?_
   refine (AllReadyH.cons (o := ({ dst := none, op := .mapUpdate 92 (.tmp 29) (.tmp 30) (.tmp 31), type := 0, pos := "page.go:150", after := #[{ on := 3, ground := .data }, { on := 4, ground := .data }, { on := 5, ground := .data }, { on := 0, ground := .phase }, { on := 1, ground := .phase }, { on := 2, ground := .phase }, { on := 3, ground := .phase }, { on := 4, ground := .phase }, { on := 5, ground := .phase }], guard := none } : Oper)) rfl (fun K hK => ?_) AllReadyH.nil)
   refine step_of_skip ?_ (exec_update (Operand.tmp 29) (Operand.tmp 30) (Operand.tmp 31) ?_ _ _ _ ?_ ?_ ?_ HUP.out) ?_
   rfl
   rfl
   rfl
   rfl
   rfl
   refine hK.out _ _ H9.out (fun hHeld => ?_)
   clear hK K
   try simp only [Act.put]
   refine wpAnyH_done (by kernel_rfl) ?_ _
   go_end0
   refine ⟨rfl, ov', ?_⟩
   rw [HV.out, if_neg HNV.out]
   exact PE.pre HB1.out HPF.out
 ·subst he
  clear HER
  have HNV := Lib.hid (show ¬ ((44 : Int) = 0 ∧ b = R) from fun e => by have := e.1; omega)
  have h4 : PgS k { v with ov := ov', ca := (cmV k v n).1, od := (cmV k v n).2 } ((wa.alloc (.cells (ArrU8 (zeros 256)) 50)).setRow wa.heap.size (ArrU8 R)) := HPE.out.1.fresh (new_below (Below.refl _ _) _ _)
  have hp4 := PE.post HPE.out (new_below (Below.refl _ wa) (.cells (ArrU8 (zeros 256)) 50) (ArrU8 R))
  have p44 := (cell_of_row _ k.P 44 _ _ _ h4.box).trans (PC_44 h4.l0 h4.l1)
  have hx4 := (new_old (w := wa) (.cells (ArrU8 (zeros 256)) 50) (ArrU8 R) _ HXL.out).trans HXA.out
  go_wp2_with (first | (refine wpList_store_row rfl 50 (Operand.tmp 6) (Operand.tmp 12) rfl wa.heap.size (ArrU8 R) rfl rfl 50 (ArrU8 (zeros 256)) HXN.out (by rw [HI35.out, SR.out]) (by rw [SR.out, SZ.out]) (ArrU8_one _) ?_) | fail)
  obtain ⟨w9, hup, hm9, hg9, hs9⟩ := run_update_g (P := Tryz.prog) (mT := 92) (kT := 3) (eT := 50) (enc := blkV) Tryz.underlying92 Tryz.underlying3 n b (h4.ch.of (w' := ((wa.alloc (.cells (ArrU8 (zeros 256)) 50)).setRow wa.heap.size (ArrU8 R)).drew) rfl)
  have HUP := Lib.hid hup
  have HX4 := Lib.hid hx4
  have HP44 := Lib.hid p44
  have hd4 := h4.fresh ((Below.refl _ _).drew)
  have HPF := Lib.hid ((PE.post hp4 ((Below.refl _ _).drew)).trans (hd4.rech hm9 hg9))
  have HNX := Lib.hid (show w.heap.size ≠ v.Hm by have := HH.out.ch.lt; omega)
  have HNP := Lib.hid (show k.P ≠ v.Hm by obtain ⟨u, hu⟩ := HH.out.ap; intro e; have h1 := hu.p; have h2 := hu.h; rw [e] at h1; omega)
  have H9 := Lib.hid (And.intro ((hg9.block k.P h4.ltP (fun e => HNP.out (Option.some.inj e))).trans h4.box) ((hg9.block w.heap.size (Array.getElem?_eq_some_iff.1 hx4).1 (fun e => HNX.out (Option.some.inj e))).trans hx4))
  have H44 := Lib.hid (And.intro h4.box hx4)
  have HLL := Lib.hid (And.intro h4.l0 h4.l1)
  clear hup hm9 hg9 hs9 hx4 p44 h4 hp4 hd4
  generalize (wa.alloc (.cells (ArrU8 (zeros 256)) 50)).setRow wa.heap.size (ArrU8 R) = wb at *
  refine wp_region_held_drew (S := fun u => u.heap[k.P]? = some (.cells (PC k { v with ov := ov', ca := (cmV k v n).1, od := (cmV k v n).2 }) 98 (0, 0)) ∧ u.heap[w.heap.size]? = some (.cells (ArrU8 b) 50 (0, 0))) (by kernel_rfl) (H44.out) (fun hHeld => ?_)
  refine wpAnyH_take (i := 0) (oi := ({ dst := some 26, op := .move (.tmp 0), type := 30, pos := "page.go:150", after := #[], guard := none } : Oper)) (v := ?_) rfl (by kernel_rfl) (by kernel_rfl) (by kernel_rfl) (fun _ _ _ h => h) (Or.inl ⟨by rfl, ?_⟩) (by assumption) ?_
  rotate_left 1
  ·(intro u hSw; go_simp; try with_reducible rfl)
  try simp only [Act.put, List.setIfInBounds_toArray, List.set_cons_zero, List.set_cons_succ]
  refine wpAnyH_take (i := 1) (oi := ({ dst := some 27, op := .nilCheck (.tmp 26), type := 0, pos := "page.go:150", after := #[{ on := 0, ground := .data }], guard := none } : Oper)) (v := ?_) rfl (by kernel_rfl) (by kernel_rfl) (by kernel_rfl) (fun _ _ _ h => h) (Or.inl ⟨by rfl, ?_⟩) (by assumption) ?_
  rotate_left 1
  ·(intro u hSw; go_simp; try with_reducible rfl)
  try simp only [Act.put, List.setIfInBounds_toArray, List.set_cons_zero, List.set_cons_succ]
  refine wpAnyH_take (i := 2) (oi := ({ dst := some 28, op := .fieldAddr 98 (.tmp 27) 7, type := 0, pos := "page.go:150", after := #[{ on := 1, ground := .data }], guard := none } : Oper)) (v := ?_) rfl (by kernel_rfl) (by kernel_rfl) (by kernel_rfl) (fun _ _ _ h => h) (Or.inl ⟨by rfl, ?_⟩) (by assumption) ?_
  rotate_left 1
  ·(intro u hSw; go_simp; try with_reducible rfl)
  try simp only [Act.put, List.setIfInBounds_toArray, List.set_cons_zero, List.set_cons_succ]
  refine wpAnyH_take (i := 3) (oi := ({ dst := some 29, op := .load 92 (.tmp 28), type := 92, pos := "page.go:150", after := #[{ on := 2, ground := .data }], guard := none } : Oper)) (v := ?_) rfl (by kernel_rfl) (by kernel_rfl) (by kernel_rfl) (fun _ _ _ h => h) (Or.inl ⟨by rfl, ?_⟩) (by assumption) ?_
  rotate_left 1
  ·intro u hSw
   have p44 := (cell_of_row u k.P 44 _ _ _ hSw.1).trans (PC_44 HLL.out.1 HLL.out.2)
   go_simp
   try with_reducible rfl
  try simp only [Act.put, List.setIfInBounds_toArray, List.set_cons_zero, List.set_cons_succ]
  refine wpAnyH_take (i := 4) (oi := ({ dst := some 30, op := .move (.tmp 1), type := 3, pos := "page.go:150", after := #[], guard := none } : Oper)) (v := ?_) rfl (by kernel_rfl) (by kernel_rfl) (by kernel_rfl) (fun _ _ _ h => h) (Or.inl ⟨by rfl, ?_⟩) (by assumption) ?_
  rotate_left 1
  ·(intro u hSw; go_simp; try with_reducible rfl)
  try simp only [Act.put, List.setIfInBounds_toArray, List.set_cons_zero, List.set_cons_succ]
  refine wpAnyH_take (i := 5) (oi := ({ dst := some 31, op := .load 50 (.tmp 5), type := 50, pos := "page.go:150", after := #[], guard := none } : Oper)) (v := ?_) rfl (by kernel_rfl) (by kernel_rfl) (by kernel_rfl) (fun _ _ _ h => h) (Or.inl ⟨by rfl, ?_⟩) (by assumption) ?_
  rotate_left 1
  ·intro u hSw
   refine exec_load_row 50 (Operand.tmp 5) ?_ u w.heap.size ?_ (ArrU8 b) 50 (0, 0) _ hSw.2 Tryz.underlying50 rfl (by rw [HI35.out, SB.out]) <;> rfl
  try simp only [Act.put, List.setIfInBounds_toArray, List.set_cons_zero, List.set_cons_succ]
  refine wpAnyH_ready (rs := [6]) (by kernel_rfl) (by simp) ?_
  refine (AllReadyH.cons (o := ({ dst := none, op := .mapUpdate 92 (.tmp 29) (.tmp 30) (.tmp 31), type := 0, pos := "page.go:150", after := #[{ on := 3, ground := .data }, { on := 4, ground := .data }, { on := 5, ground := .data }, { on := 0, ground := .phase }, { on := 1, ground := .phase }, { on := 2, ground := .phase }, { on := 3, ground := .phase }, { on := 4, ground := .phase }, { on := 5, ground := .phase }], guard := none } : Oper)) rfl (fun K hK => ?_) AllReadyH.nil)
  refine step_of_skip ?_ (exec_update (Operand.tmp 29) (Operand.tmp 30) (Operand.tmp 31) ?_ _ _ _ ?_ ?_ ?_ HUP.out) ?_
  rfl
  rfl
  rfl
  rfl
  rfl
  refine hK.out _ _ H9.out (fun hHeld => ?_)
  clear hK K
  try simp only [Act.put]
  refine wpAnyH_done (by kernel_rfl) ?_ _
  go_end0
  refine ⟨rfl, ov', ?_⟩
  rw [HV.out, if_neg HNV.out]
  exact PE.pre HB1.out HPF.out
end Go.Proofs.YtfknlheflaccaaaGreat
/- headers held against one another -/
namespace Go.Proofs.YtfknlheflaccaaaGreat
open Go.RowKit
def hL (n : Nat) : Lit := .int .u64 (n : Int)
theorem mapM_of {α β : Type} (f : α → Option β) (g : α → β) : ∀ (l : List α), (∀ x ∈ l, f x = some (g x)) → l.mapM f = some (l.map g)
 | [], _ => rfl
 | x :: r, h => by
  rw [List.mapM_cons, h x (by simp), mapM_of f g r (fun y hy => h y (by simp [hy]))]
  rfl
theorem lits_u64 (d n : Nat) (h : n < 18446744073709551616) : Tryz.prog.keyLits (d + 1) 59 [.int .u64 (n : Int)] = some [hL n] := by
 have hu := Tryz.underlying59
 unfold Program.keyLits
 rw [hu]
 have hw : (Lit.int .u64 (n : Int)).wf = true := by
  have h1 : IntKind.u64.min = 0 := by decide
  have h2 : IntKind.u64.max = 18446744073709551615 := by decide
  simp only [Lit.wf, h1, h2, Bool.and_eq_true, decide_eq_true_eq]
  omega
 simp [hw, hL]
theorem flat_one {α β : Type} (f : α → β) : ∀ (l : List α), (l.map fun i => [f i]).flatten = l.map f
 | [] => rfl
 | x :: r => by simp only [List.map_cons, List.flatten_cons, flat_one f r]; rfl
set_option maxRecDepth 100000 in
theorem lits_16 (d : Nat) (ns : List Nat) (hn : ns.length = 16) (h : ∀ n ∈ ns, n < 18446744073709551616) : Tryz.prog.keyLits (d + 2) 83 (HV ns) = some (ns.map hL) := by
  have hu : Tryz.prog.underlying 83 = some (.array 16 59) := by kernel_rfl
  have hc : Tryz.prog.cellsOf 83 = 16 := by kernel_rfl
  have hc1 : Tryz.prog.cellsOf 59 = 1 := by kernel_rfl
  have hm : (List.range 16).mapM (fun i => Tryz.prog.keyLits (d + 1) 59 (((HV ns).drop (i * 1)).take 1)) = some ((List.range 16).map fun i => [hL (hN ns i)]) := by
    refine mapM_of _ _ _ (fun i hi => ?_)
    have hi := List.mem_range.1 hi
    have h1 : ((HV ns).drop (i * 1)).take 1 = [.int .u64 (hN ns i : Nat)] := by
      rw [Nat.mul_one, List.drop_eq_getElem_cons (by rw [HV_len]; omega)]
      simp only [List.take_succ_cons, List.take_zero]
      congr 1
      have := HV_at ns i (by omega)
      exact (List.getElem?_eq_some_iff.1 this).2
    rw [h1]
    refine lits_u64 d _ ?_
    unfold hN
    have hil : i < ns.length := by omega
    have h5 := h (ns[i]'hil) (List.getElem_mem hil)
    rw [List.getElem?_eq_getElem hil, Option.getD_some]
    exact h5
  have hf : ((List.range 16).map fun i => [hL (hN ns i)]).flatten = ns.map hL := by
    rw [flat_one]
    apply List.ext_getElem?
    intro i
    rw [List.getElem?_map, List.getElem?_map]
    by_cases hi : i < 16
    · rw [List.getElem?_range hi, List.getElem?_eq_getElem (show i < ns.length by omega)]
      simp [hN, hn, hi]
    · rw [List.getElem?_eq_none (by simpa using hi), List.getElem?_eq_none (by omega)]; rfl
  unfold Program.keyLits
  rw [hu]
  simp only [hc, hc1, HV_len, hn, if_true, hm, Option.map_some, hf]
theorem lits_hdr (d : Nat) (ns : List Nat) (hn : ns.length = 18) (h : ∀ n ∈ ns, n < 18446744073709551616) : Tryz.prog.keyLits (d + 3) 85 (HV ns) = some (ns.map hL) := by
 obtain ⟨a, b, r, rfl⟩ : ∃ a b r, ns = a :: b :: r := by
  match ns, hn with
  | a :: b :: r, _ => exact ⟨a, b, r, rfl⟩
 have hr : r.length = 16 := by simpa using hn
 have hu : Tryz.prog.underlying 85 = some (.struct (Tryz.prog.fieldsOf 85)) := by kernel_rfl
 have hfs : (Tryz.prog.fieldsOf 85).toList.map (fun f => (f.type, f.offset)) = [(59, 0), (59, 1), (83, 2)] := by kernel_rfl
 have hnm : (Tryz.prog.fieldsOf 85).all (·.name != "_") = true := by kernel_rfl
 have hc : Tryz.prog.cellsOf 85 = 18 := by kernel_rfl
 have hc1 : Tryz.prog.cellsOf 59 = 1 := by kernel_rfl
 have hc16 : Tryz.prog.cellsOf 83 = 16 := by kernel_rfl
 have h1 := lits_u64 (d + 1) a (h a (by simp))
 have h2 := lits_u64 (d + 1) b (h b (by simp))
 have h3 := lits_16 d r hr (fun n hn => h n (by simp [hn]))
 have hm : (Tryz.prog.fieldsOf 85).toList.mapM (fun f => Tryz.prog.keyLits (d + 2) f.type (((HV (a :: b :: r)).drop f.offset).take (Tryz.prog.cellsOf f.type))) = some [[hL a], [hL b], r.map hL] := by
  generalize (Tryz.prog.fieldsOf 85).toList = l at hfs ⊢
  rcases l with _ | ⟨x, _ | ⟨y, _ | ⟨z, _ | ⟨q, rr⟩⟩⟩⟩
  ·simp at hfs
  ·simp at hfs
  ·simp at hfs
  ·simp only [List.map_cons, List.map_nil, List.cons.injEq, Prod.mk.injEq, and_true] at hfs
   obtain ⟨⟨x1, x2⟩, ⟨y1, y2⟩, z1, z2⟩ := hfs
   have e1 : ((HV (a :: b :: r)).drop 0).take 1 = [.int .u64 (a : Int)] := rfl
   have e2 : ((HV (a :: b :: r)).drop 1).take 1 = [.int .u64 (b : Int)] := rfl
   have e3 : ((HV (a :: b :: r)).drop 2).take 16 = HV r := by
    show (HV r).take 16 = HV r
    exact List.take_of_length_le (by rw [HV_len]; omega)
   simp only [List.mapM_cons, List.mapM_nil, x1, x2, y1, y2, z1, z2, hc1, hc16, e1, e2, e3, h1, h2, h3]
   rfl
  ·simp at hfs
 unfold Program.keyLits
 rw [hu]
 simp only [hc, HV_len, hn, hnm, and_self, if_true, hm, Option.map_some]
 simp
theorem hL_inj {xs ys : List Nat} (h : xs.map hL = ys.map hL) : xs = ys := by
 refine List.map_inj_right (f := hL) (fun x y e => ?_) |>.1 h
 unfold hL at e
 injection e with _ e
 omega
theorem run_neq_hdr (w : World) (xs ys : List Nat) (hx : xs.length = 18) (hy : ys.length = 18) (bx : ∀ n ∈ xs, n < 18446744073709551616) (by_ : ∀ n ∈ ys, n < 18446744073709551616) :
  (binOp .neq 85 (.agg (HA xs)) (.agg (HA ys))).run Tryz.prog w = .ok (.bool (!decide (xs = ys))) w := by
 have hk : Tryz.prog.keyTypeAt 3 85 = true := by kernel_rfl
 have hE := run_equalIn_deep (P := Tryz.prog) 9997 3 85 hk
 have hf : ∀ zs : List Nat, zs.length = 18 → (Value.agg (HA zs)).formed Tryz.prog 85 = true := by
  intro zs hz
  have hu : Tryz.prog.underlying 85 = some (.struct (Tryz.prog.fieldsOf 85)) := by kernel_rfl
  have hc : Tryz.prog.cellsOf 85 = 18 := by kernel_rfl
  simp only [Value.formed, hu, hc, HA_size, hz]
  rfl
 have hcl : ∀ zs : List Nat, (Value.agg (HA zs)).cells.toList = HV zs := fun zs => by simp [Value.cells, HA, HV]
 obtain ⟨r, hr, hrr⟩ := hE w 3 3 (.agg (HA xs)) (.agg (HA ys)) (xs.map hL) (ys.map hL) (hf xs hx) (hf ys hy) (by rw [hcl]; exact lits_hdr 0 xs hx bx) (by rw [hcl]; exact lits_hdr 0 ys hy by_)
 have hr2 : r = decide (xs = ys) := by
  cases r with
  | true => exact (decide_eq_true (hL_inj (hrr.1 rfl))).symm
  | false => exact (decide_eq_false (fun e => by have := hrr.2 (by rw [e]); cases this)).symm
 show (do pure (Value.bool (!(← Op.equal 85 (.agg (HA xs)) (.agg (HA ys))))) : Sem Value).run Tryz.prog w = _
 have h3 : (Op.equal 85 (.agg (HA xs)) (.agg (HA ys))).run Tryz.prog w = .ok r w := hr
 simp only [Sem.run_bind, Sem.run_pure, h3, Result.andThen_ok, hr2]
theorem exec_neq_hdr {ρ : Operand → Value} {o : Oper} {w : World} (x y : Operand) (U : TypeId) (ho : o.op = .binOp .neq 85 x y U) (xs ys : List Nat) (hx : ρ x = .agg (HA xs)) (hy : ρ y = .agg (HA ys)) (lx : xs.length = 18) (ly : ys.length = 18) (bx : ∀ n ∈ xs, n < 18446744073709551616) (by_ : ∀ n ∈ ys, n < 18446744073709551616) (b : Bool) (hb : (!decide (xs = ys)) = b) :
  (execOp ρ o).run Tryz.prog w = .ok (.value (.bool b)) w := by
 unfold execOp
 rw [ho]
 simp only [hx, hy]
 have hg := run_eqGuard_agg (P := Tryz.prog) w .neq 85 x y (HA xs) (HA ys) (by kernel_rfl)
 simp only [Sem.run_bind, hg, Result.andThen_ok, run_neq_hdr w xs ys lx ly bx by_, hb, Sem.run_pure]
end Go.Proofs.YtfknlheflaccaaaGreat
/- pages looked at and put, roots; how many are changed and held -/
namespace Go.Proofs.YtfknlheflaccaaaGreat
open Go.RowKit
def geR (k : PK) (v : PV) (n : Int) : List Int × Int := if inU v n = true then cuR k v n else (zeros 256, 2)
def geV (k : PK) (v : PV) (n : Int) : List (Int × List Int) × List Int := if inU v n = true then cuV k v n else (v.ca, v.od)
def GeEnds (k : PK) (v : PV) (n : Int) (w : World) (e : Ending) (w' : World) : Prop :=
 e = .returned (.tuple #[.agg (ArrU8 (geR k v n).1), .int .i64 (geR k v n).2]) ∧ ∃ ov', PE k v w { v with ov := ov', ca := (geV k v n).1, od := (geV k v n).2 } w'
theorem inU_rng {k : PK} {v : PV} {n : Int} (h : inU v n = true) (hu : usedN v ≤ k.nb - k.sz) : 0 ≤ n ∧ n < k.nb - k.sz := by
 unfold inU at h
 simp only [Bool.and_eq_true, decide_eq_true_eq] at h
 omega
set_option maxRecDepth 100000 in
set_option maxHeartbeats 2000000 in
theorem get_any (k : PK) (v : PV) (n : Int) (w : World) (h : PgS k v w) (hi : PIn k v) (hu : usedN v ≤ k.nb - k.sz) (hn : n ≤ 9223372036854775807) :
  Calls Tryz.prog 21 #[.pointer (some ⟨k.P, 0, none⟩), .int .i64 n] w (GeEnds k v n w) := by
 have hz := zero35
 have HI35 := Lib.hid (show (Tryz.prog.info? 50).map (·.size) = some 256 by kernel_rfl)
 have SZ := Lib.hid (show (ArrU8 (zeros 256)).size = 256 by rw [ArrU8_size, zeros_len])
 have hbl : ∀ u : World, (Instr.build 50 #[]).run Tryz.prog u = .ok (.agg (ArrU8 (zeros 256))) u := fun u => by kernel_rfl
 have hb1 : Below w.heap.size w (w.alloc (.cells (ArrU8 (zeros 256)) 50)) := (Below.refl _ _).alloc (Nat.le_refl _) _
 have h1 := h.fresh hb1
 have hx := heap_alloc_new w (.cells (ArrU8 (zeros 256)) 50)
 have HX := Lib.hid hx
 have HB1 := Lib.hid hb1
 have HH := Lib.hid h
 have HIN := Lib.hid (inUse_any k v n _ h1 hn)
 cases hin : inU v n with
 | false =>
  have HR := Lib.hid (show geR k v n = (zeros 256, 2) ∧ geV k v n = (v.ca, v.od) by unfold geR geV; rw [hin]; exact ⟨rfl, rfl⟩)
  rw [hin] at HIN
  clear h hi hb1 h1 hx hin hu hn
  go_enter Tryz.func21, Tryz.ntmps21
  go_wp2_with fail
  refine HIN.out.mono ?_
  rintro e w' ⟨rfl, rfl⟩
  go_wp2_with (first | (refine wpList_store_row rfl 50 (Operand.tmp 4) (Operand.tmp 10) rfl w.heap.size (ArrU8 (zeros 256)) rfl rfl 50 (ArrU8 (zeros 256)) HX.out (by rw [HI35.out, SZ.out]) rfl (ArrU8_one _) ?_) | fail)
  refine bodyPost_ret (results_cell_tmp (p := 4) (q := 5) (ty := 50) rfl _ _ w.heap.size 50 (ArrU8 (zeros 256)) (0, 0) _ rfl (setRow_heap _ _ _ _ _ _ HX.out) Tryz.underlying50 rfl (by rw [HI35.out, SZ.out])) rfl ⟨by rw [HR.out.1]; rfl, v.ov, ?_⟩
  rw [HR.out.2]
  exact PE.same HH.out (below_setRow HB1.out (Nat.le_refl _) _)
 | true =>
  have HR := Lib.hid (show geR k v n = cuR k v n ∧ geV k v n = cuV k v n by unfold geR geV; rw [hin]; exact ⟨rfl, rfl⟩)
  rw [hin] at HIN
  have HRL := Lib.hid (cuR_len h hi n)
  have HC := Lib.hid (current_any k v n _ h1 hi (inU_rng hin hu))
  clear h hi hb1 h1 hx hin hu hn
  go_enter Tryz.func21, Tryz.ntmps21
  go_wp2_with fail
  refine HIN.out.mono ?_
  rintro e w' ⟨rfl, rfl⟩
  go_wp2_with fail
  refine HC.out.mono ?_
  rintro e wa ⟨rfl, ov', hpe⟩
  have HXA := Lib.hid ((hpe.2.1.block w.heap.size (Array.getElem?_eq_some_iff.1 HX.out).1 (fun hp => by have := (HH.out.lt _ hp).2; omega)).trans HX.out)
  have HWL := Lib.hid (Array.getElem?_eq_some_iff.1 HX.out).1
  have HPE := Lib.hid hpe
  rw [← HR.out.2] at HPE
  have HR1 := Lib.hid HR.out.1
  clear hpe HC HIN
  generalize cuR k v n = R at *
  obtain ⟨R, E⟩ := R
  have SR := Lib.hid (show (ArrU8 R).size = 256 by rw [ArrU8_size]; exact HRL.out)
  go_wp2_with (first | (refine wpList_store_row rfl 50 (Operand.tmp 4) (Operand.tmp 14) rfl w.heap.size (ArrU8 R) rfl rfl 50 (ArrU8 (zeros 256)) HXA.out (by rw [HI35.out, SR.out]) (by rw [SR.out, SZ.out]) (ArrU8_one _) ?_) | fail)
  refine bodyPost_ret (results_cell_tmp (p := 4) (q := 5) (ty := 50) rfl _ _ w.heap.size 50 (ArrU8 R) (0, 0) _ rfl (setRow_heap _ _ _ _ _ _ HXA.out) Tryz.underlying50 rfl (by rw [HI35.out, SR.out])) rfl ⟨by rw [HR1.out]; rfl, ov', ?_⟩
  exact PE.own HB1.out HH.out HPE.out w.heap.size (Nat.le_refl _) HWL.out _
def puV (k : PK) (v : PV) (n : Int) (b : List Int) : List (Int × List Int) × List Int × List (Int × List Int) := if inU v n = true then ((cmV k v n).1, (cmV k v n).2, stV k v n b) else (v.ca, v.od, v.ch)
def PuEnds (k : PK) (v : PV) (n : Int) (b : List Int) (w : World) (e : Ending) (w' : World) : Prop :=
 e = .returned (.int .i64 (if inU v n = true then 0 else 2)) ∧ ∃ ov', PE k v w { v with ov := ov', ca := (puV k v n b).1, od := (puV k v n b).2.1, ch := (puV k v n b).2.2 } w'
set_option maxRecDepth 100000 in
set_option maxHeartbeats 2000000 in
theorem put_any (k : PK) (v : PV) (n : Int) (b : List Int) (w : World) (h : PgS k v w) (hi : PIn k v) (hu : usedN v ≤ k.nb - k.sz) (hn : n ≤ 9223372036854775807) (hb : b.length = 256) :
  Calls Tryz.prog 24 #[.pointer (some ⟨k.P, 0, none⟩), .int .i64 n, .agg (ArrU8 b)] w (PuEnds k v n b w) := by
 have HI35 := Lib.hid (show (Tryz.prog.info? 50).map (·.size) = some 256 by kernel_rfl)
 have SB := Lib.hid (show (ArrU8 b).size = 256 by rw [ArrU8_size, hb])
 have hb1 : Below w.heap.size w (w.alloc (.cells (ArrU8 b) 50)) := (Below.refl _ _).alloc (Nat.le_refl _) _
 have h1 := h.fresh hb1
 have HX := Lib.hid (heap_alloc_new w (.cells (ArrU8 b) 50))
 have HB1 := Lib.hid hb1
 have HH := Lib.hid h
 have HIN := Lib.hid (inUse_any k v n _ h1 hn)
 cases hin : inU v n with
 | false =>
  have HR := Lib.hid (show puV k v n b = (v.ca, v.od, v.ch) by unfold puV; rw [hin]; rfl)
  rw [hin] at HIN
  have HF := Lib.hid hin
  clear h hi hb1 h1 hin hu hn
  go_enter Tryz.func24, Tryz.ntmps24
  go_wp2_with fail
  refine HIN.out.mono ?_
  rintro e w' ⟨rfl, rfl⟩
  go_wp2_with fail
  go_ret
  refine ⟨by rw [HF.out]; rfl, v.ov, ?_⟩
  rw [HR.out]
  exact PE.same HH.out HB1.out
 | true =>
  have HR := Lib.hid (show puV k v n b = ((cmV k v n).1, (cmV k v n).2, stV k v n b) by unfold puV; rw [hin]; rfl)
  rw [hin] at HIN
  have HF := Lib.hid hin
  have HC := Lib.hid (set_any k v n b _ h1 hi (inU_rng hin hu) hb)
  clear h hi hb1 h1 hin hu hn
  go_enter Tryz.func24, Tryz.ntmps24
  go_wp2_with fail
  refine HIN.out.mono ?_
  rintro e w' ⟨rfl, rfl⟩
  go_wp2_with (first | (refine wpList_load_row rfl 50 (Operand.tmp 5) rfl w.heap.size rfl 50 (ArrU8 b) (0, 0) _ HX.out Tryz.underlying50 rfl (by rw [HI35.out, SB.out]) ?_) | fail)
  refine HC.out.mono ?_
  rintro e wa ⟨rfl, ov', hpe⟩
  have HPE := Lib.hid hpe
  clear hpe
  go_wp2_with fail
  go_ret
  refine ⟨by rw [HF.out]; rfl, ov', ?_⟩
  rw [HR.out]
  exact PE.pre HB1.out HPE.out
theorem PC_root {k : PK} {v : PV} (h0 : v.h0.length = 18) (h1 : v.h1.length = 18) (i : Nat) (hi : i < 16) : (PC k v)[28 + i]? = some (.int .u64 (hN v.h1 (2 + i) : Nat)) := by
 rw [show 28 + i = 26 + (2 + i) by omega, PC_h1 _ h0 h1 (by omega)]
 exact HV_at _ _ (by omega)
set_option maxRecDepth 100000 in
set_option maxHeartbeats 1000000 in
theorem root_any (k : PK) (v : PV) (n : Int) (w : World) (h : PgS k v w) :
  Calls Tryz.prog 39 #[.pointer (some ⟨k.P, 0, none⟩), .int .i64 n] w fun e w' => e = .returned (.int .u64 (if 0 ≤ n ∧ n < 16 then (hN v.h1 (2 + n.toNat) : Nat) else 0)) ∧ w = w' := by
 by_cases h0 : n < 0
 ·have HR := Lib.hid (show ¬ (0 ≤ n ∧ n < 16) by omega)
  clear h
  go_enter Tryz.func39, Tryz.ntmps39
  go_wp2_with fail
  go_ret
  exact ⟨rfl, rfl⟩
 ·by_cases h1 : n ≥ 16
  ·have HR := Lib.hid (show ¬ (0 ≤ n ∧ n < 16) by omega)
   clear h
   go_enter Tryz.func39, Tryz.ntmps39
   go_wp2_with fail
   go_ret
   exact ⟨rfl, rfl⟩
  ·obtain ⟨m, rfl⟩ : ∃ m : Nat, n = (m : Int) := ⟨n.toNat, by omega⟩
   have hm : m < 16 := by omega
   have c := (cell_of_row _ k.P (28 + m) _ _ _ h.box).trans (PC_root h.l0 h.l1 m hm)
   have HR := Lib.hid (show 0 ≤ (m : Int) ∧ (m : Int) < 16 by omega)
   clear h h0 h1
   go_enter Tryz.func39, Tryz.ntmps39
   go_wp2_with fail
   go_ret
   exact ⟨rfl, rfl⟩
end Go.Proofs.YtfknlheflaccaaaGreat
/- how many pages are changed, how many are held; changes taken back -/
namespace Go.Proofs.YtfknlheflaccaaaGreat
open Go.RowKit
theorem run_len_g {α : Type} {enc : α → Value} {u : World} {M : Nat} {kvs : List (Int × α)} {P : Program} {mT kT eT ty : TypeId} (hm : P.underlying mT = some (.map kT eT)) (h : MapG enc u M kvs) : (Builtin.len_ #[mT] ty #[.map (some M)]).run P u = .ok (.int .i64 (kvs.length : Int)) u := by
 obtain ⟨es, c, h1, h2⟩ := h.len
 have hg : (getObj M).run P u = .ok (.map es c) u := by simp [getObj, Sem.run, h1]
 simp [Builtin.len_, run_underlying hm, hg, Result.andThen, h2, goInt]
def setArr (C : Array Value) : Nat → List Value → Array Value
 | _, [] => C
 | o, v :: r => setArr (C.setIfInBounds o v) (o + 1) r
theorem heap_setCells (g : Nat) (T : TypeId) : ∀ (vs : List Value) (o : Nat) (w : World) (C : Array Value), w.heap[g]? = some (.cells C T (0, 0)) → (w.setCells g o vs).heap[g]? = some (.cells (setArr C o vs) T (0, 0))
 | [], _, _, _, h => h
 | v :: r, o, w, C, h => heap_setCells g T r (o + 1) _ _ (heap_setCell_same w g o C T v h)
theorem setArr_mid (D : List Value) : ∀ (vs B A : List Value), B.length = vs.length → setArr (A ++ B ++ D).toArray A.length vs = (A ++ vs ++ D).toArray
 | [], [], A, _ => rfl
 | [], _ :: _, _, h => by simp at h
 | _ :: _, [], _, h => by simp at h
 | v :: r, b :: B, A, h => by
  have ih := setArr_mid D r B (A ++ [v]) (by simpa using h)
  unfold setArr
  rw [show (A ++ b :: B ++ D).toArray.setIfInBounds A.length v = ((A ++ [v]) ++ B ++ D).toArray by simp, show A.length + 1 = (A ++ [v]).length by simp, ih]
  simp
theorem Chg.setCells {F : Nat → Prop} {a : World} (g : Nat) : ∀ (vs : List Value) (o : Nat) (b : World), Chg F a b → F g → Chg F a (b.setCells g o vs)
 | [], _, _, h, _ => h
 | v :: r, o, _, h, hg => Chg.setCells g r (o + 1) _ (h.setCell ⟨g, o, none⟩ v (.inl hg)) hg
section
variable {k : PK} {v : PV} {w w' : World}
theorem PC_seth1 (h0 : v.h0.length = 18) (h1 : v.h1.length = 18) (ns : List Nat) (hn : ns.length = 18) : setArr (PC k v) 26 (HV ns) = PC k { v with h1 := ns } := by
 have h := setArr_mid [.map (some v.Hm)] (HV ns) (HV v.h1) ([.pointer (some ⟨k.Pl, 0, none⟩), .pointer (some ⟨k.D, 0, none⟩), .int .i64 k.sz, .map (some v.Lm), .int .i64 v.en, .int .i64 k.most, .map (some v.C), v.ov] ++ HV v.h0) (by rw [HV_len, HV_len, h1, hn])
 rw [show ([.pointer (some ⟨k.Pl, 0, none⟩), .pointer (some ⟨k.D, 0, none⟩), .int .i64 k.sz, .map (some v.Lm), .int .i64 v.en, .int .i64 k.most, .map (some v.C), v.ov] ++ HV v.h0 : List Value).length = 26 by simp [HV_len, h0]] at h
 exact h
theorem PC_seth0 (h0 : v.h0.length = 18) (ns : List Nat) (hn : ns.length = 18) : setArr (PC k v) 8 (HV ns) = PC k { v with h0 := ns } := by
 have h := setArr_mid (HV v.h1 ++ [.map (some v.Hm)]) (HV ns) (HV v.h0) ([.pointer (some ⟨k.Pl, 0, none⟩), .pointer (some ⟨k.D, 0, none⟩), .int .i64 k.sz, .map (some v.Lm), .int .i64 v.en, .int .i64 k.most, .map (some v.C), v.ov]) (by rw [HV_len, HV_len, h0, hn])
 simp only [← List.append_assoc] at h
 exact h
theorem PC_set44 (h0 : v.h0.length = 18) (h1 : v.h1.length = 18) (x : Nat) : (PC k v).setIfInBounds 44 (.map (some x)) = PC k { v with Hm := x } := by
 have h := setArr_mid [] [.map (some x)] [.map (some v.Hm)] ([.pointer (some ⟨k.Pl, 0, none⟩), .pointer (some ⟨k.D, 0, none⟩), .int .i64 k.sz, .map (some v.Lm), .int .i64 v.en, .int .i64 k.most, .map (some v.C), v.ov] ++ HV v.h0 ++ HV v.h1) rfl
 rw [show ([.pointer (some ⟨k.Pl, 0, none⟩), .pointer (some ⟨k.D, 0, none⟩), .int .i64 k.sz, .map (some v.Lm), .int .i64 v.en, .int .i64 k.most, .map (some v.C), v.ov] ++ HV v.h0 ++ HV v.h1 : List Value).length = 44 by simp [HV_len, h0, h1], List.append_nil, List.append_nil] at h
 exact h
theorem PgS.rg0 (h : PgS k v w) : w.rangeAt k.P 8 (HV v.h0) := fun j x hj => by
 have hl := (List.getElem?_eq_some_iff.1 hj).1
 rw [HV_len, h.l0] at hl
 rw [cell_of_row _ _ _ _ _ _ h.box, PC_h0 j h.l0 hl]
 exact hj
theorem box_rg {u : World} (h0 : v.h0.length = 18) (h1 : v.h1.length = 18) (hb : u.heap[k.P]? = some (.cells (PC k v) 98 (0, 0))) : u.rangeAt k.P 8 (HV v.h0) ∧ u.rangeAt k.P 26 (HV v.h1) := by
 constructor
 ·intro j x hj
  have hl := (List.getElem?_eq_some_iff.1 hj).1
  rw [HV_len, h0] at hl
  rw [cell_of_row _ _ _ _ _ _ hb, PC_h0 j h0 hl]
  exact hj
 ·intro j x hj
  have hl := (List.getElem?_eq_some_iff.1 hj).1
  rw [HV_len, h1] at hl
  rw [cell_of_row _ _ _ _ _ _ hb, PC_h1 j h0 h1 hl]
  exact hj
end
/-- the headers' numbers are such -/
structure HIn (v : PV) : Prop where
 b0 : ∀ n ∈ v.h0, n < 18446744073709551616
 b1 : ∀ n ∈ v.h1, n < 18446744073709551616
def chN (v : PV) : Int := (v.ch.length : Int) + (if v.h1 = v.h0 then 0 else 1)
set_option maxRecDepth 100000 in
set_option maxHeartbeats 1000000 in
theorem changed_any (k : PK) (v : PV) (w : World) (h : PgS k v w) (hb : HIn v) (hc : v.ch.length ≤ 1048576) :
  Calls Tryz.prog 26 #[.pointer (some ⟨k.P, 0, none⟩)] w fun e w' => e = .returned (.int .i64 (chN v)) ∧ Below w.heap.size w w' := by
 have HIH := Lib.hid (show (Tryz.prog.info? 85).map (·.size) = some (HV v.h0).length by rw [HV_len, h.l0]; kernel_rfl)
 have HIH1 := Lib.hid (show (Tryz.prog.info? 85).map (·.size) = some (HV v.h1).length by rw [HV_len, h.l1]; kernel_rfl)
 have H := Lib.hid h
 have HB := Lib.hid hb
 have HC := Lib.hid hc
 have HA1 := Lib.hid (show (HV v.h1).toArray = HA v.h1 from rfl)
 have HA0 := Lib.hid (show (HV v.h0).toArray = HA v.h0 from rfl)
 clear h hb hc
 obtain ⟨b, hbb⟩ : ∃ b : Bool, b = !decide (v.h1 = v.h0) := ⟨_, rfl⟩
 have HBB := Lib.hid hbb
 have HN := Lib.hid (show chN v = (v.ch.length : Int) + (if b then 1 else 0) by rw [hbb]; unfold chN; by_cases e : v.h1 = v.h0 <;> simp [e])
 clear hbb
 go_enter Tryz.func26, Tryz.ntmps26
 go_wp2_with fail
 refine wp_region_held_drew (S := fun u => u.heap[k.P]? = some (.cells (PC k v) 98 (0, 0))) (by kernel_rfl) ((show w.drew.heap[k.P]? = some (.cells (PC k v) 98 (0, 0)) from H.out.box)) (fun hHeld => ?_)
 refine wpAnyH_take (i := 0) (oi := ({ dst := some 3, op := .move (.tmp 0), type := 30, pos := "page.go:100", after := #[], guard := none } : Oper)) (v := ?_) rfl (by kernel_rfl) (by kernel_rfl) (by kernel_rfl) (fun _ _ _ h => h) (Or.inl ⟨by rfl, ?_⟩) (by assumption) ?_
 rotate_left 1
 ·(intro u hSw; go_simp; try with_reducible rfl)
 try simp only [Act.put, List.setIfInBounds_toArray, List.set_cons_zero, List.set_cons_succ]
 refine wpAnyH_take (i := 1) (oi := ({ dst := some 4, op := .nilCheck (.tmp 3), type := 0, pos := "page.go:100", after := #[{ on := 0, ground := .data }], guard := none } : Oper)) (v := ?_) rfl (by kernel_rfl) (by kernel_rfl) (by kernel_rfl) (fun _ _ _ h => h) (Or.inl ⟨by rfl, ?_⟩) (by assumption) ?_
 rotate_left 1
 ·(intro u hSw; go_simp; try with_reducible rfl)
 try simp only [Act.put, List.setIfInBounds_toArray, List.set_cons_zero, List.set_cons_succ]
 refine wpAnyH_take (i := 2) (oi := ({ dst := some 5, op := .fieldAddr 98 (.tmp 4) 6, type := 0, pos := "page.go:100", after := #[{ on := 1, ground := .data }], guard := none } : Oper)) (v := ?_) rfl (by kernel_rfl) (by kernel_rfl) (by kernel_rfl) (fun _ _ _ h => h) (Or.inl ⟨by rfl, ?_⟩) (by assumption) ?_
 rotate_left 1
 ·(intro u hSw; go_simp; try with_reducible rfl)
 try simp only [Act.put, List.setIfInBounds_toArray, List.set_cons_zero, List.set_cons_succ]
 refine wpAnyH_take (i := 3) (oi := ({ dst := some 6, op := .load 85 (.tmp 5), type := 85, pos := "page.go:100", after := #[{ on := 2, ground := .data }], guard := none } : Oper)) (v := ?_) rfl (by kernel_rfl) (by kernel_rfl) (by kernel_rfl) (fun _ _ _ h => h) (Or.inl ⟨by rfl, ?_⟩) (by assumption) ?_
 rotate_left 1
 ·intro u hSw
  refine exec_load_mid 85 (Operand.tmp 5) ?_ k.P 26 ?_ (HV v.h1) _ (box_rg H.out.l0 H.out.l1 hSw).2 Tryz.underlying85 rfl HIH1.out <;> rfl
 try simp only [Act.put, List.setIfInBounds_toArray, List.set_cons_zero, List.set_cons_succ]
 refine wpAnyH_take (i := 4) (oi := ({ dst := some 7, op := .move (.tmp 0), type := 30, pos := "page.go:100", after := #[], guard := none } : Oper)) (v := ?_) rfl (by kernel_rfl) (by kernel_rfl) (by kernel_rfl) (fun _ _ _ h => h) (Or.inl ⟨by rfl, ?_⟩) (by assumption) ?_
 rotate_left 1
 ·(intro u hSw; go_simp; try with_reducible rfl)
 try simp only [Act.put, List.setIfInBounds_toArray, List.set_cons_zero, List.set_cons_succ]
 refine wpAnyH_take (i := 5) (oi := ({ dst := some 8, op := .nilCheck (.tmp 7), type := 0, pos := "page.go:100", after := #[{ on := 4, ground := .data }], guard := none } : Oper)) (v := ?_) rfl (by kernel_rfl) (by kernel_rfl) (by kernel_rfl) (fun _ _ _ h => h) (Or.inl ⟨by rfl, ?_⟩) (by assumption) ?_
 rotate_left 1
 ·(intro u hSw; go_simp; try with_reducible rfl)
 try simp only [Act.put, List.setIfInBounds_toArray, List.set_cons_zero, List.set_cons_succ]
 refine wpAnyH_take (i := 6) (oi := ({ dst := some 9, op := .fieldAddr 98 (.tmp 8) 5, type := 0, pos := "page.go:100", after := #[{ on := 5, ground := .data }], guard := none } : Oper)) (v := ?_) rfl (by kernel_rfl) (by kernel_rfl) (by kernel_rfl) (fun _ _ _ h => h) (Or.inl ⟨by rfl, ?_⟩) (by assumption) ?_
 rotate_left 1
 ·(intro u hSw; go_simp; try with_reducible rfl)
 try simp only [Act.put, List.setIfInBounds_toArray, List.set_cons_zero, List.set_cons_succ]
 refine wpAnyH_take (i := 7) (oi := ({ dst := some 10, op := .load 85 (.tmp 9), type := 85, pos := "page.go:100", after := #[{ on := 6, ground := .data }], guard := none } : Oper)) (v := ?_) rfl (by kernel_rfl) (by kernel_rfl) (by kernel_rfl) (fun _ _ _ h => h) (Or.inl ⟨by rfl, ?_⟩) (by assumption) ?_
 rotate_left 1
 ·intro u hSw
  refine exec_load_mid 85 (Operand.tmp 9) ?_ k.P 8 ?_ (HV v.h0) _ (box_rg H.out.l0 H.out.l1 hSw).1 Tryz.underlying85 rfl HIH.out <;> rfl
 try simp only [Act.put, List.setIfInBounds_toArray, List.set_cons_zero, List.set_cons_succ]
 refine wpAnyH_take (i := 8) (oi := ({ dst := some 11, op := .binOp BinOp.neq 85 (.tmp 6) (.tmp 10) 85, type := 4, pos := "page.go:100", after := #[{ on := 3, ground := .data }, { on := 7, ground := .data }], guard := none } : Oper)) (v := .bool b) rfl (by kernel_rfl) (by kernel_rfl) (by kernel_rfl) (fun _ _ _ h => h) (Or.inl ⟨by rfl, ?_⟩) (by assumption) ?_
 ·intro u hSw
  exact exec_neq_hdr (Operand.tmp 6) (Operand.tmp 10) 85 rfl v.h1 v.h0 rfl rfl H.out.l1 H.out.l0 HB.out.b1 HB.out.b0 b HBB.out.symm
 try simp only [Act.put, List.setIfInBounds_toArray, List.set_cons_zero, List.set_cons_succ]
 refine wpAnyH_done (by kernel_rfl) ?_ _
 have p44 := (cell_of_row w.drew k.P 44 _ _ _ H.out.box).trans (PC_44 H.out.l0 H.out.l1)
 have hln := run_len_g (P := Tryz.prog) (ty := 3) Tryz.underlying92 (H.out.ch.of (w' := w.drew) rfl)
 have HW := Lib.hid (show Below w.heap.size w w.drew from (Below.refl _ _).drew)
 have hlb := HC.out
 generalize hnn : v.ch.length = m at *
 clear hnn
 cases b with
 | true =>
  go_wp2_with fail
  go_ret
  exact ⟨by rw [HN.out]; rfl, HW.out⟩
 | false =>
  go_wp2_with fail
  go_ret
  exact ⟨by rw [HN.out]; simp, HW.out⟩
end Go.Proofs.YtfknlheflaccaaaGreat
/- changes taken back; pages given and given back -/
namespace Go.Proofs.YtfknlheflaccaaaGreat
open Go.RowKit
theorem run_mkmap_blk (u : World) : (Instr.makeMap 92 none).run Tryz.prog u = .ok (.map (some u.heap.size)) (u.alloc (.map #[] 0)) := by kernel_rfl
theorem Chg.two {F : Nat → Prop} {a : World} {P x : Nat} {vs : List Value} (hP : F P) : Chg F a (((a.alloc (.map #[] 0)).setCells P 26 vs).setCell ⟨P, 44, none⟩ (.map (some x))) :=
 (Chg.setCells P vs 26 _ ((Chg.refl F a).alloc _) hP).setCell ⟨P, 44, none⟩ _ (.inl hP)
/-- the box written, with maps that are new or stay -/
theorem PgS.rebox {k : PK} {v : PV} {w w' : World} (h : PgS k v w) {h0' h1' : List Nat} {en' : Int} {Lm' Hm' : Nat} {lg' : List (Int × Int)} {ch' : List (Int × List Int)} (hc : Chg (fun g => g = k.P) w w')
  (hb : w'.heap[k.P]? = some (.cells (PC k { v with h0 := h0', h1 := h1', en := en', Lm := Lm', Hm := Hm', lg := lg', ch := ch' }) 98 (0, 0))) (l0 : h0'.length = 18) (l1 : h1'.length = 18)
  (hL : (Lm' = v.Lm ∧ lg' = v.lg) ∨ (w.heap.size ≤ Lm' ∧ MapG (Value.int .i64) w' Lm' lg')) (hH : (Hm' = v.Hm ∧ ch' = v.ch) ∨ (w.heap.size ≤ Hm' ∧ MapG blkV w' Hm' ch')) (hne : Lm' ≠ Hm') :
  PE k v w { v with h0 := h0', h1 := h1', en := en', Lm := Lm', Hm := Hm', lg := lg', ch := ch' } w' := by
 obtain ⟨u, hu⟩ := h.ap
 have hn : ∀ g, u g ≠ 1 → ¬ (g = k.P) := fun g h1 e => h1 (by rw [e]; exact hu.p)
 have hB := h.hB
 have hLl : Lm' = v.Lm ∨ w.heap.size ≤ Lm' := hL.imp (fun h => h.1) (fun h => h.1)
 have hHl : Hm' = v.Hm ∨ w.heap.size ≤ Hm' := hH.imp (fun h => h.1) (fun h => h.1)
 refine ⟨{ h with ls := h.ls.chg hc (fun g hg => hn g (by rw [hu.l g hg]; decide)), box := hb, lg := ?_, ca := h.ca.of (hc.block _ h.ca.lt (hn _ (by rw [hu.c]; decide))), ch := ?_, ord := h.ord.chg hc (fun g hg => hn g (by rw [hu.o g hg]; decide)), l0 := l0, l1 := l1, bm := ?_, bh := ?_, ap := ⟨fun g => if g < w.heap.size then u g else if g = Lm' then 2 else 4, ?_, ?_, ?_, ?_, ?_, ?_⟩ }, hc.mono (fun g e => .inr (.inl e)), ?_⟩
 ·rcases hL with ⟨rfl, rfl⟩ | ⟨_, hm⟩
  ·exact h.lg.of (hc.block _ h.lg.lt (hn _ (by rw [hu.m]; decide)))
  ·exact hm
 ·rcases hH with ⟨rfl, rfl⟩ | ⟨_, hm⟩
  ·exact h.ch.of (hc.block _ h.ch.lt (hn _ (by rw [hu.h]; decide)))
  ·exact hm
 ·show k.B ≤ Lm'
  rcases hLl with rfl | e
  ·exact h.bm
  ·omega
 ·show k.B ≤ Hm'
  rcases hHl with rfl | e
  ·exact h.bh
  ·omega
 ·intro g hg
  rw [if_pos (h.ls.lt g hg).2]; exact hu.l g hg
 ·rw [if_pos h.ltP]; exact hu.p
 ·show (if Lm' < w.heap.size then u Lm' else if Lm' = Lm' then 2 else 4) = 2
  rcases hLl with e | e
  ·rw [if_pos (by rw [e]; exact h.lg.lt), e]; exact hu.m
  ·rw [if_neg (by omega), if_pos rfl]
 ·show (if v.C < w.heap.size then _ else _) = 3
  rw [if_pos h.ca.lt]; exact hu.c
 ·show (if Hm' < w.heap.size then u Hm' else if Hm' = Lm' then 2 else 4) = 4
  rcases hHl with e | e
  ·rw [if_pos (by rw [e]; exact h.ch.lt), e]; exact hu.h
  ·rw [if_neg (by omega), if_neg (fun e => hne e.symm)]
 ·intro g hg
  rw [if_pos (h.ord.lt g hg).2]; exact hu.o g hg
 ·rintro g (h1 | h1 | h1 | h1 | h1 | h1)
  ·exact .inl (.inl h1)
  ·exact .inl (.inr (.inl h1))
  ·rcases hLl with e | e
   ·exact .inl (.inr (.inr (.inl (h1.trans e))))
   ·exact .inr (by rw [show g = Lm' from h1]; exact e)
  ·exact .inl (.inr (.inr (.inr (.inl h1))))
  ·rcases hHl with e | e
   ·exact .inl (.inr (.inr (.inr (.inr (.inl (h1.trans e))))))
   ·exact .inr (by rw [show g = Hm' from h1]; exact e)
  ·exact .inl (.inr (.inr (.inr (.inr (.inr h1)))))
theorem PgS.mh {k : PK} {v : PV} {w : World} (h : PgS k v w) : v.Lm ≠ v.Hm := by
 obtain ⟨u, hu⟩ := h.ap
 intro e
 have h1 := hu.m
 have h2 := hu.h
 rw [e] at h1
 omega
theorem MapG.empty {α : Type} (enc : α → Value) (w : World) : MapG enc (w.alloc (.map #[] 0)) w.heap.size [] :=
 ⟨#[], 0, heap_alloc_new _ _, rfl, MapKept.stamped_empty 0⟩
def AbEnds (k : PK) (v : PV) (w : World) (e : Ending) (w' : World) : Prop :=
 e = .returned (.tuple #[]) ∧ ∃ H, PE k v w { v with h1 := v.h0, Hm := H, ch := [] } w'
set_option maxRecDepth 100000 in
set_option maxHeartbeats 1000000 in
theorem abort_any (k : PK) (v : PV) (w : World) (h : PgS k v w) :
  Calls Tryz.prog 22 #[.pointer (some ⟨k.P, 0, none⟩)] w (AbEnds k v w) := by
 have HIH := Lib.hid (show (Tryz.prog.info? 85).map (·.size) = some (HV v.h0).length by rw [HV_len, h.l0]; kernel_rfl)
 have HIH2 := Lib.hid (show (Tryz.prog.info? 85).map (·.size) = some (HV v.h0).toArray.size by rw [List.size_toArray, HV_len, h.l0]; kernel_rfl)
 have H := Lib.hid h
 have hrg := h.rg0
 have HRG := Lib.hid hrg
 have h1 : (w.alloc (.map #[] 0)).heap[k.P]? = some (.cells (PC k v) 98 (0, 0)) := (heap_alloc_old _ _ h.ltP).trans h.box
 have HB1 := Lib.hid h1
 have hth : (w.alloc (.map #[] 0)).there k.P 26 (HV v.h0).toArray.size := fun j hj => by
  rw [List.size_toArray, HV_len, h.l0] at hj
  rw [cell_of_row _ _ _ _ _ _ h1, PC_h1 j h.l0 h.l1 hj, HV_at _ _ (by rw [h.l1]; exact hj)]
  exact ⟨rfl, frozen_of_row _ _ _ _ _ h1⟩
 have HTH := Lib.hid hth
 have hb2 := heap_setCells k.P 98 (HV v.h0) 26 _ _ h1
 rw [PC_seth1 h.l0 h.l1 v.h0 h.l0] at hb2
 have HB2 := Lib.hid hb2
 have c44 := (cell_of_row _ k.P 44 _ _ _ hb2).trans (PC_44 (k := k) (v := { v with h1 := v.h0 }) h.l0 h.l0)
 have f44 := frozen_of_row _ k.P 44 _ _ hb2
 have H1C := Lib.hid (all_oneCell_toArray (cs := HV v.h0) (fun x hx => by obtain ⟨n, _, rfl⟩ := List.mem_map.1 hx; rfl))
 have hmk := run_mkmap_blk
 clear h h1 hrg hth hb2
 go_enter Tryz.func22, Tryz.ntmps22
 go_wp2_with (first | (refine wpList_load_mid rfl 85 (Operand.tmp 6) rfl k.P 8 rfl (HV v.h0) _ HRG.out Tryz.underlying85 rfl HIH.out ?_) | (refine wpList_store_mid rfl 85 (Operand.tmp 10) (Operand.tmp 7) rfl k.P 26 (HV v.h0).toArray rfl rfl HTH.out HIH2.out H1C.out ?_))
 go_end0
 refine ⟨rfl, w.heap.size, ?_⟩
 have hm : MapG blkV (((w.alloc (.map #[] 0)).setCells k.P 26 (HV v.h0)).setCell ⟨k.P, 44, none⟩ (.map (some w.heap.size))) w.heap.size [] := by
  refine (MapG.empty blkV w).of ((heap_setCell_other _ _ _ _ (by have := H.out.ltP; simp; omega)).trans ?_)
  exact (Chg.setCells k.P (HV v.h0) 26 _ (Chg.refl (fun g => g = k.P) (w.alloc (.map #[] 0))) rfl).block w.heap.size (by simp) (by have := H.out.ltP; omega)
 have hbx := heap_setCell_same _ k.P 44 _ 98 (.map (some w.heap.size)) HB2.out
 rw [PC_set44 (k := k) (v := { v with h1 := v.h0 }) H.out.l0 H.out.l0] at hbx
 exact H.out.rebox (h0' := v.h0) (h1' := v.h0) (en' := v.en) (Lm' := v.Lm) (lg' := v.lg) (Chg.two rfl) hbx H.out.l0 H.out.l0 (.inl ⟨rfl, rfl⟩) (.inr ⟨Nat.le_refl _, hm⟩) (by have := H.out.lg.lt; omega)
end Go.Proofs.YtfknlheflaccaaaGreat
