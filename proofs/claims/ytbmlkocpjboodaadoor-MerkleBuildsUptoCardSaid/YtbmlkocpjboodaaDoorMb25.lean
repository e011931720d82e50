/- stage 7: entries whose keys may be written -/
import Derived.Test.YtbmlkocpjboodaaDoorMb24
namespace Go.Proofs.YtbmlkocpjboodaaDoor
open Go.RowKit
open Go.Lib (hid)
set_option maxRecDepth 100000 in
set_option maxHeartbeats 8000000 in
theorem enMeetW_any {B Lb Sb : Nat} {S : Nat → Prop} {fv tv : Value} {fr to : List Int} {e : Bool} (gf : Rng fr) (gt : Rng to) (w : World) (s : List (List Int × Nat)) (J : Nat → Prop) (p : Value) (k : List Int) (n : Nat) (rk dg : List Int) (l r : MT) (h : NIW B Lb Sb S fv tv fr to e w s J) (hp : MIs w S p (.nd k n rk dg l r)) (gk : Rng k) (hkl : k.length ≤ 65535) (hbd : s.length ≤ 1099511627776) :
  Calls Tryd.prog 63 #[p, .pointer (some ⟨Sb, 0, none⟩), .pointer (some ⟨Lb, 0, none⟩)] w fun d w' => d = .returned (.tuple #[]) ∧ Stp (NIW B Lb Sb S fv tv fr to e) J w w' (enM fr to e s k n) := by
 obtain ⟨b, kv, lp, rp, rfl, hSb, h1, h2, hx, hk, -, -⟩ := hp
 obtain ⟨ak, ck, rfl⟩ := hk.form
 have hnJ : ¬ J b := fun hj => (h.low b hj).2 hSb
 have HHA := hid (fun u (hu : Below w.heap.size w u) => has_any fv tv (.slice ak k.length ck) fr to k e u (h.fr'.below hu).1 (h.to'.below hu).1 (hk.below hu).1 gf gt gk)
 have HS := hid (fun u (hu : Below w.heap.size w u) => (show u.rangeAt Sb 0 [fv, tv, .bool e] from fun j x hj => by
  rw [cell_of_row u Sb (0 + j) _ _ _ ((hu.block _ (blk_lt h.span)).trans h.span), Nat.zero_add]
  simpa using hj))
 have HN := hid (fun u (hu : Below w.heap.size w u) => (show u.cell? ⟨b, 0, none⟩ = some (.slice ak k.length ck) from (cell_of_row u b 0 _ _ _ ((hu.block _ (blk_lt hx)).trans hx)).trans ndC_0))
 have HH := hid (And.intro h (And.intro (fun u (hu : Chg J w u) => (show u.rangeAt b 0 [.slice ak k.length ck, .int .i64 (n : Int)] from fun j x hj => nd_rng0 ((hu.block b (blk_lt hx) hnJ).trans hx) h1 j x (by
  have hj2 : j < 2 := by have := (List.getElem?_eq_some_iff.1 hj).1; simpa using this
  unfold rkL
  rw [List.getElem?_append_left (by simpa using hj2)]
  exact hj))) (And.intro hk hkl)))
 have HR := hid (show enM fr to e s k n = if hasQ fr to e k = true then s ++ [(k, n)] else s from rfl)
 have HLEN := hid hbd
 have hb0 := (Below.refl w.heap.size w).drew
 generalize enM fr to e s k n = R at *
 clear h hx hk gf gt gk hkl hbd h1 h2 hSb hnJ
 go_enter Tryd.func63, Tryd.ntmps63
 go_wp2_with fail
 refine wp_region_held_drew (S := fun u => Below w.heap.size w u) (by kernel_rfl) (hb0) (fun hHeld => ?_)
 refine tk (i := 0) (oi := ⟨some 4, .load 74 (.tmp 1), 74, "visit.go:51", #[], none⟩) (v := .agg #[fv, tv, .bool e]) (Or.inl ⟨by rfl, ?_⟩) ?_
 ·intro u hSw
  exact exec_load_mid 74 (Operand.tmp 1) rfl Sb 0 rfl _ _ (HS.out _ hSw) Tryd.underlying74 rfl (by kernel_rfl)
 try simp only [Act.put, sA, sB, sC]
 refine tk (i := 1) (oi := ⟨some 5, .move (.tmp 0), 68, "visit.go:51", #[], none⟩) (v := ?_) (Or.inl ⟨by rfl, ?_⟩) ?_
 rotate_left 1
 ·(intro u hSw; go_simp; try with_reducible rfl)
 try simp only [Act.put, sA, sB, sC]
 refine tk (i := 2) (oi := ⟨some 6, .nilCheck (.tmp 5), 0, "visit.go:51", #[⟨1, .data⟩], none⟩) (v := ?_) (Or.inl ⟨by rfl, ?_⟩) ?_
 rotate_left 1
 ·(intro u hSw; go_simp; try with_reducible rfl)
 try simp only [Act.put, sA, sB, sC]
 refine tk (i := 3) (oi := ⟨some 7, .fieldAddr 115 (.tmp 6) 0, 0, "visit.go:51", #[⟨2, .data⟩], none⟩) (v := ?_) (Or.inl ⟨by rfl, ?_⟩) ?_
 rotate_left 1
 ·(intro u hSw; go_simp; try with_reducible rfl)
 try simp only [Act.put, sA, sB, sC]
 refine tk (i := 4) (oi := ⟨some 8, .fieldAddr 66 (.tmp 7) 0, 0, "visit.go:51", #[⟨3, .data⟩], none⟩) (v := ?_) (Or.inl ⟨by rfl, ?_⟩) ?_
 rotate_left 1
 ·(intro u hSw; go_simp; try with_reducible rfl)
 try simp only [Act.put, sA, sB, sC]
 refine tk (i := 5) (oi := ⟨some 9, .fieldAddr 33 (.tmp 8) 0, 0, "visit.go:51", #[⟨4, .data⟩], none⟩) (v := ?_) (Or.inl ⟨by rfl, ?_⟩) ?_
 rotate_left 1
 ·(intro u hSw; go_simp; try with_reducible rfl)
 try simp only [Act.put, sA, sB, sC]
 refine tk (i := 6) (oi := ⟨some 10, .load 31 (.tmp 9), 31, "visit.go:51", #[⟨5, .data⟩], none⟩) (v := ?_) (Or.inl ⟨by rfl, ?_⟩) ?_
 rotate_left 1
 ·(intro u hSw; have y1 := HN.out _ hSw; go_simp; try with_reducible rfl)
 try simp only [Act.put, sA, sB, sC]
 refine wpAnyH_ready (rs := [7]) (by kernel_rfl) (by simp) ?_
 refine (AllReadyH.cons (o := ⟨some 11, .call ⟨.value (.func 64), #[.tmp 4, .tmp 10], #[74, 31]⟩, 4, "visit.go:51", #[⟨0, .data⟩, ⟨6, .data⟩], none⟩) rfl (fun K hK => ?_) AllReadyH.nil)
 go_simp
 refine (HHA.out _ hb0).mono ?_
 rintro d w1 ⟨rfl, hb1⟩
 have hb1' := hb0.trans (hb1.mono hb0.size)
 clear hb1
 go_wp2_with fail
 refine hK.out _ _ hb1' (fun hHeld => ?_)
 clear hK K
 try simp only [Act.put, sA, sB, sC]
 refine wpAnyH_done (by kernel_rfl) ?_ _
 have hb1 := hb1'
 have HST0 := hid (Stp.below (I := NIW B Lb Sb S fv tv fr to e) (fun _ _ _ _ h hb => NIW.keep h hb) (Stp.refl (I := NIW B Lb Sb S fv tv fr to e) HH.out.1) hb1)
 generalize hasQ fr to e k = q at *
 cases q with
 | false =>
  go_wp2_with fail
  go_end0
  rw [HR.out]
  exact ⟨rfl, HST0.out⟩
 | true =>
  have hbd := hb1.drew
  have hI1 := HH.out.1.keep hbd
  obtain ⟨v, e1, e2, e3, e4⟩ := id hI1.box
  have HI1 := hid (And.intro hI1 e1)
  have HRG := hid (fun u (hu : Chg J w1.drew u) => HH.out.2.1 u ((Chg.fresh (F := J) hbd).trans hu (fun i hi => .inl hi)))
  have HCP := hid (fun u (hu : Below w1.drew.heap.size w1.drew u) => (show Calls Tryd.prog 57 #[.agg #[.slice ak k.length ck, .int .i64 (n : Int)]] u fun d w' => ∃ kv', d = .returned (.agg #[kv', .int .i64 (n : Int)]) ∧ KWs w' (fun b => u.heap.size ≤ b) kv' k ∧ Below u.heap.size u w' from copiedW_any u (.slice ak k.length ck) n k ((HH.out.2.2.1.below (hbd.trans (hu.mono hbd.size))).1) HH.out.2.2.2))
  have HPC := hid (fun u (hu : Below w1.drew.heap.size w1.drew u) => (show u.cell? ⟨Lb, 0, none⟩ = some v from cell_of_row _ Lb 0 _ _ _ ((hu.block _ (blk_lt e1)).trans e1)))
  have HAF := hid hbd
  have hbl : Below w1.drew.heap.size w1.drew w1.drew := Below.refl _ _
  have cP := HPC.out _ hbl
  have hch : Chg J w1.drew w1.drew := Chg.refl _ _
  clear hb1 hbd hI1 e1 e2 e3 e4
  go_wp2_with fail
  refine wp_region_held_drew (S := fun u => Chg J w1.drew u) (by kernel_rfl) (hch) (fun hHeld => ?_)
  refine tk (i := 1) (oi := ⟨some 13, .move (.tmp 0), 68, "visit.go:52", #[], none⟩) (v := ?_) (Or.inl ⟨by rfl, ?_⟩) ?_
  rotate_left 1
  ·(intro u hSw; go_simp; try with_reducible rfl)
  try simp only [Act.put, sA, sB, sC]
  refine tk (i := 2) (oi := ⟨some 14, .nilCheck (.tmp 13), 0, "visit.go:52", #[⟨1, .data⟩], none⟩) (v := ?_) (Or.inl ⟨by rfl, ?_⟩) ?_
  rotate_left 1
  ·(intro u hSw; go_simp; try with_reducible rfl)
  try simp only [Act.put, sA, sB, sC]
  refine tk (i := 3) (oi := ⟨some 15, .fieldAddr 115 (.tmp 14) 0, 0, "visit.go:52", #[⟨2, .data⟩], none⟩) (v := ?_) (Or.inl ⟨by rfl, ?_⟩) ?_
  rotate_left 1
  ·(intro u hSw; go_simp; try with_reducible rfl)
  try simp only [Act.put, sA, sB, sC]
  refine tk (i := 4) (oi := ⟨some 16, .fieldAddr 66 (.tmp 15) 0, 0, "visit.go:52", #[⟨3, .data⟩], none⟩) (v := ?_) (Or.inl ⟨by rfl, ?_⟩) ?_
  rotate_left 1
  ·(intro u hSw; go_simp; try with_reducible rfl)
  try simp only [Act.put, sA, sB, sC]
  refine tk (i := 5) (oi := ⟨some 17, .load 33 (.tmp 16), 33, "visit.go:52", #[⟨4, .data⟩], none⟩) (v := .agg #[.slice ak k.length ck, .int .i64 (n : Int)]) (Or.inl ⟨by rfl, ?_⟩) ?_
  ·intro u hSw
   exact exec_load_mid 33 (Operand.tmp 16) rfl b 0 rfl _ _ (HRG.out _ hSw) Tryd.underlying33 rfl (by kernel_rfl)
  try simp only [Act.put, sA, sB, sC]
  refine wpAnyH_ready (rs := [0, 6]) (by kernel_rfl) (by simp) ?_
  refine (AllReadyH.cons (o := ⟨some 12, .load 26 (.tmp 2), 26, "visit.go:52", #[], none⟩) rfl (fun K hK => ?_) (AllReadyH.cons (o := ⟨some 18, .call ⟨.value (.func 57), #[.tmp 17], #[33]⟩, 33, "visit.go:52", #[⟨5, .data⟩], none⟩) rfl (fun K hK => ?_) AllReadyH.nil))
  ·go_simp
   refine hK.out _ _ hch (fun hHeld => ?_)
   clear hK K
   try simp only [Act.put, sA, sB, sC]
   refine wpAnyH_ready (rs := [6]) (by kernel_rfl) (by simp) ?_
   refine (AllReadyH.cons (o := ⟨some 18, .call ⟨.value (.func 57), #[.tmp 17], #[33]⟩, 33, "visit.go:52", #[⟨5, .data⟩], none⟩) rfl (fun K hK => ?_) AllReadyH.nil)
   go_simp
   refine (HCP.out _ hbl).mono ?_
   rintro d w3 ⟨kv3, rfl, hk3, hb3⟩
   obtain ⟨a3, c3, rfl⟩ := hk3.form
   have HK3 := hid (hk3.mono (S' := fun q => w1.drew.heap.size ≤ q) (fun q hq => Nat.le_trans hbl.size hq))
   have hbl := hbl.trans (hb3.mono hbl.size)
   have hch : Chg J w1.drew w3 := Chg.fresh hbl
   have cP := HPC.out _ hbl
   clear hk3 hb3
   go_wp2_with fail
   refine hK.out _ _ hch (fun hHeld => ?_)
   clear hK K
   try simp only [Act.put, sA, sB, sC]
   refine wpAnyH_ready (rs := [7]) (by kernel_rfl) (by simp) ?_
   refine (AllReadyH.cons (o := ⟨some 19, .buildSlice 26 1 #[(0, .tmp 18)], 26, "visit.go:52", #[⟨6, .data⟩], none⟩) rfl (fun K hK => ?_) AllReadyH.nil)
   go_simp
   refine al_step2 hbl (fun nu hbn q hcn => ?_)
   have HQ4 := hid (And.intro q (HK3.out.below hcn))
   have hbl := hbn
   have hch : Chg J w1.drew nu := Chg.fresh hbl
   have cP := HPC.out _ hbl
   clear q hcn hbn
   refine hK.out _ _ hch (fun hHeld => ?_)
   clear hK K
   try simp only [Act.put, sA, sB, sC]
   refine wpAnyH_ready (rs := [8]) (by kernel_rfl) (by simp) ?_
   refine (AllReadyH.cons (o := ⟨some 20, .call ⟨.builtin .append, #[.tmp 12, .tmp 19], #[26, 26]⟩, 26, "visit.go:52", #[⟨0, .data⟩, ⟨7, .data⟩, ⟨6, .chain⟩], none⟩) rfl (fun K hK => ?_) AllReadyH.nil)
   obtain ⟨v5, w5, hr, ⟨a5, m5, c5, rfl⟩, hp5, hj5, hst⟩ := HI1.out.1.app HI1.out.2 hbl w3.heap.size (.slice a3 k.length c3) k n HQ4.out.1 HQ4.out.2 HLEN.out 26 rfl
   refine step_append_run (by rfl) (Operand.tmp 12) (Operand.tmp 19) (by rfl) v (.slice (some ⟨w3.heap.size, 0, none⟩) 1 1) (by rfl) (by rfl) hr ?_
   have cQ := cell_of_row _ Lb 0 _ _ _ hp5
   have fQ := frozen_of_row _ Lb 0 _ _ hp5
   have HST := hid hst
   have hch := hj5
   clear hp5 hj5 hst hr
   refine hK.out _ _ hch (fun hHeld => ?_)
   clear hK K
   try simp only [Act.put, sA, sB, sC]
   refine wpAnyH_ready (rs := [9]) (by kernel_rfl) (by simp) ?_
   refine (AllReadyH.cons (o := ⟨none, .store 26 (.tmp 2) (.tmp 20), 0, "visit.go:52", #[⟨8, .data⟩, ⟨8, .chain⟩, ⟨0, .phase⟩, ⟨1, .phase⟩, ⟨2, .phase⟩, ⟨3, .phase⟩, ⟨4, .phase⟩, ⟨5, .phase⟩, ⟨6, .phase⟩, ⟨7, .phase⟩, ⟨8, .phase⟩], none⟩) rfl (fun K hK => ?_) AllReadyH.nil)
   go_simp
   refine hK.out _ _ HST.out.chg (fun hHeld => ?_)
   clear hK K
   try simp only [Act.put]
   refine wpAnyH_done (by kernel_rfl) ?_ _
   go_wp2_with fail
   go_end0
   rw [HR.out]
   exact ⟨rfl, HST.out.after HAF.out⟩
  ·go_simp
   refine (HCP.out _ hbl).mono ?_
   rintro d w3 ⟨kv3, rfl, hk3, hb3⟩
   obtain ⟨a3, c3, rfl⟩ := hk3.form
   have HK3 := hid (hk3.mono (S' := fun q => w1.drew.heap.size ≤ q) (fun q hq => Nat.le_trans hbl.size hq))
   have hbl := hbl.trans (hb3.mono hbl.size)
   have hch : Chg J w1.drew w3 := Chg.fresh hbl
   have cP := HPC.out _ hbl
   clear hk3 hb3
   go_wp2_with fail
   refine hK.out _ _ hch (fun hHeld => ?_)
   clear hK K
   try simp only [Act.put, sA, sB, sC]
   refine wpAnyH_ready (rs := [0, 7]) (by kernel_rfl) (by simp) ?_
   refine (AllReadyH.cons (o := ⟨some 12, .load 26 (.tmp 2), 26, "visit.go:52", #[], none⟩) rfl (fun K hK => ?_) (AllReadyH.cons (o := ⟨some 19, .buildSlice 26 1 #[(0, .tmp 18)], 26, "visit.go:52", #[⟨6, .data⟩], none⟩) rfl (fun K hK => ?_) AllReadyH.nil))
   ·go_simp
    refine hK.out _ _ hch (fun hHeld => ?_)
    clear hK K
    try simp only [Act.put, sA, sB, sC]
    refine wpAnyH_ready (rs := [7]) (by kernel_rfl) (by simp) ?_
    refine (AllReadyH.cons (o := ⟨some 19, .buildSlice 26 1 #[(0, .tmp 18)], 26, "visit.go:52", #[⟨6, .data⟩], none⟩) rfl (fun K hK => ?_) AllReadyH.nil)
    go_simp
    refine al_step2 hbl (fun nu hbn q hcn => ?_)
    have HQ4 := hid (And.intro q (HK3.out.below hcn))
    have hbl := hbn
    have hch : Chg J w1.drew nu := Chg.fresh hbl
    have cP := HPC.out _ hbl
    clear q hcn hbn
    refine hK.out _ _ hch (fun hHeld => ?_)
    clear hK K
    try simp only [Act.put, sA, sB, sC]
    refine wpAnyH_ready (rs := [8]) (by kernel_rfl) (by simp) ?_
    refine (AllReadyH.cons (o := ⟨some 20, .call ⟨.builtin .append, #[.tmp 12, .tmp 19], #[26, 26]⟩, 26, "visit.go:52", #[⟨0, .data⟩, ⟨7, .data⟩, ⟨6, .chain⟩], none⟩) rfl (fun K hK => ?_) AllReadyH.nil)
    obtain ⟨v5, w5, hr, ⟨a5, m5, c5, rfl⟩, hp5, hj5, hst⟩ := HI1.out.1.app HI1.out.2 hbl w3.heap.size (.slice a3 k.length c3) k n HQ4.out.1 HQ4.out.2 HLEN.out 26 rfl
    refine step_append_run (by rfl) (Operand.tmp 12) (Operand.tmp 19) (by rfl) v (.slice (some ⟨w3.heap.size, 0, none⟩) 1 1) (by rfl) (by rfl) hr ?_
    have cQ := cell_of_row _ Lb 0 _ _ _ hp5
    have fQ := frozen_of_row _ Lb 0 _ _ hp5
    have HST := hid hst
    have hch := hj5
    clear hp5 hj5 hst hr
    refine hK.out _ _ hch (fun hHeld => ?_)
    clear hK K
    try simp only [Act.put, sA, sB, sC]
    refine wpAnyH_ready (rs := [9]) (by kernel_rfl) (by simp) ?_
    refine (AllReadyH.cons (o := ⟨none, .store 26 (.tmp 2) (.tmp 20), 0, "visit.go:52", #[⟨8, .data⟩, ⟨8, .chain⟩, ⟨0, .phase⟩, ⟨1, .phase⟩, ⟨2, .phase⟩, ⟨3, .phase⟩, ⟨4, .phase⟩, ⟨5, .phase⟩, ⟨6, .phase⟩, ⟨7, .phase⟩, ⟨8, .phase⟩], none⟩) rfl (fun K hK => ?_) AllReadyH.nil)
    go_simp
    refine hK.out _ _ HST.out.chg (fun hHeld => ?_)
    clear hK K
    try simp only [Act.put]
    refine wpAnyH_done (by kernel_rfl) ?_ _
    go_wp2_with fail
    go_end0
    rw [HR.out]
    exact ⟨rfl, HST.out.after HAF.out⟩
   ·go_simp
    refine al_step2 hbl (fun nu hbn q hcn => ?_)
    have HQ4 := hid (And.intro q (HK3.out.below hcn))
    have hbl := hbn
    have hch : Chg J w1.drew nu := Chg.fresh hbl
    have cP := HPC.out _ hbl
    clear q hcn hbn
    refine hK.out _ _ hch (fun hHeld => ?_)
    clear hK K
    try simp only [Act.put, sA, sB, sC]
    refine wpAnyH_ready (rs := [0]) (by kernel_rfl) (by simp) ?_
    refine (AllReadyH.cons (o := ⟨some 12, .load 26 (.tmp 2), 26, "visit.go:52", #[], none⟩) rfl (fun K hK => ?_) AllReadyH.nil)
    go_simp
    refine hK.out _ _ hch (fun hHeld => ?_)
    clear hK K
    try simp only [Act.put, sA, sB, sC]
    refine wpAnyH_ready (rs := [8]) (by kernel_rfl) (by simp) ?_
    refine (AllReadyH.cons (o := ⟨some 20, .call ⟨.builtin .append, #[.tmp 12, .tmp 19], #[26, 26]⟩, 26, "visit.go:52", #[⟨0, .data⟩, ⟨7, .data⟩, ⟨6, .chain⟩], none⟩) rfl (fun K hK => ?_) AllReadyH.nil)
    obtain ⟨v5, w5, hr, ⟨a5, m5, c5, rfl⟩, hp5, hj5, hst⟩ := HI1.out.1.app HI1.out.2 hbl w3.heap.size (.slice a3 k.length c3) k n HQ4.out.1 HQ4.out.2 HLEN.out 26 rfl
    refine step_append_run (by rfl) (Operand.tmp 12) (Operand.tmp 19) (by rfl) v (.slice (some ⟨w3.heap.size, 0, none⟩) 1 1) (by rfl) (by rfl) hr ?_
    have cQ := cell_of_row _ Lb 0 _ _ _ hp5
    have fQ := frozen_of_row _ Lb 0 _ _ hp5
    have HST := hid hst
    have hch := hj5
    clear hp5 hj5 hst hr
    refine hK.out _ _ hch (fun hHeld => ?_)
    clear hK K
    try simp only [Act.put, sA, sB, sC]
    refine wpAnyH_ready (rs := [9]) (by kernel_rfl) (by simp) ?_
    refine (AllReadyH.cons (o := ⟨none, .store 26 (.tmp 2) (.tmp 20), 0, "visit.go:52", #[⟨8, .data⟩, ⟨8, .chain⟩, ⟨0, .phase⟩, ⟨1, .phase⟩, ⟨2, .phase⟩, ⟨3, .phase⟩, ⟨4, .phase⟩, ⟨5, .phase⟩, ⟨6, .phase⟩, ⟨7, .phase⟩, ⟨8, .phase⟩], none⟩) rfl (fun K hK => ?_) AllReadyH.nil)
    go_simp
    refine hK.out _ _ HST.out.chg (fun hHeld => ?_)
    clear hK K
    try simp only [Act.put]
    refine wpAnyH_done (by kernel_rfl) ?_ _
    go_wp2_with fail
    go_end0
    rw [HR.out]
    exact ⟨rfl, HST.out.after HAF.out⟩
/-- a list of entries made since w -/
def EnNW (w w' : World) (v : Value) (es : List (List Int × Nat)) : Prop := ∃ K : Nat → Prop, EnRW w' w.heap.size K v es ∧ ∀ q, K q → w.heap.size ≤ q
theorem EnNW.slc {w w' : World} {v : Value} {es : List (List Int × Nat)} (h : EnNW w w' v es) : ∃ a c, v = .slice a es.length c := by
 obtain ⟨K, ⟨_, _, q, _⟩, _⟩ := h
 exact ownsRow_slc q
theorem EnNW.after {w w1 w' : World} {v : Value} {es : List (List Int × Nat)} (h : EnNW w1 w' v es) (hb : Below w.heap.size w w1) : EnNW w w' v es := by
 obtain ⟨K, ⟨xs, e1, e2, e3, e4⟩, hk⟩ := h
 exact ⟨K, ⟨xs, e1, ⟨e2.1, e2.2.imp id (fun ⟨g, cap, cur, a, b, c⟩ => ⟨g, cap, cur, a, Nat.le_trans hb.size b, c⟩)⟩, e3, e4⟩, fun q hq => Nat.le_trans hb.size (hk q hq)⟩
set_option maxRecDepth 100000 in
set_option maxHeartbeats 4000000 in
theorem entriesW_any {S : Nat → Prop} (w : World) (p fv tv : Value) (fr to : List Int) (e : Bool) (t : MT) (hp : MIs w S p t) (hg : t.Good) (hf : Bs w fv fr) (ht : Bs w tv to) (gf : Rng fr) (gt : Rng to) (hbd : (t.ents fr to e).length ≤ 1099511627776) :
  Calls Tryd.prog 33 #[p, .agg #[fv, tv, .bool e]] w fun d w' => ∃ v', d = .returned v' ∧ EnNW w w' v' (t.ents fr to e) ∧ Below w.heap.size w w' := by
 have hmf : ∀ (fn : Fn) (first cap : Array Value) (w : World), (Instr.makeFunc fn first cap).run Tryd.prog w = .ok (.func fn first cap) w := fun _ _ _ _ => rfl
 have hbb : Below w.heap.size w ((w.alloc (.cells #[fv, tv, .bool e] 74)).alloc (.cells #[.slice none 0 0] 26)) := ((Below.refl _ _).alloc (Nat.le_refl _) _).alloc (by simp) _
 have hx0 : ((w.alloc (.cells #[fv, tv, .bool e] 74)).alloc (.cells #[.slice none 0 0] 26)).heap[w.heap.size]? = some (.cells #[fv, tv, .bool e] 74 (0, 0)) := (heap_alloc_old _ _ (by simp)).trans (heap_alloc_new _ _)
 have hx1 : ((w.alloc (.cells #[fv, tv, .bool e] 74)).alloc (.cells #[.slice none 0 0] 26)).heap[w.heap.size + 1]? = some (.cells #[.slice none 0 0] 26 (0, 0)) := by
  have q := heap_alloc_new (w.alloc (.cells #[fv, tv, .bool e] 74)) (.cells #[.slice none 0 0] 26)
  rwa [World.size_alloc] at q
 have hI : NIW w.heap.size (w.heap.size + 1) w.heap.size (fun b => b < w.heap.size) fv tv fr to e ((w.alloc (.cells #[fv, tv, .bool e] 74)).alloc (.cells #[.slice none 0 0] 26)) [] (fun q => q = w.heap.size + 1) := ⟨⟨.slice none 0 0, hx1, EnRW.nil _ _ _, (fun g h => by cases h), fun q => ⟨.inl, fun h => h.elim id (fun h => by cases h)⟩⟩, hx0, (hf.kis).below hbb, (ht.kis).below hbb, by omega, ⟨by omega, by omega⟩, fun _ h => h⟩
 have HV := hid (each_any (me := enM fr to e) (Bd := fun s => s.length ≤ 1099511627776) (fm := 63) (cm := #[.pointer (some ⟨w.heap.size, 0, none⟩), .pointer (some ⟨w.heap.size + 1, 0, none⟩)])
  (fun s k n h => by
   unfold enM at h
   split at h
   ·rw [List.length_append] at h; omega
   ·exact h) goN1 (fun _ _ _ h => h.low) (fun _ _ _ _ h hb => h.keep hb)
  (fun u s J p k n rk d l r hI hp hg hbd => by
   rw [show (#[p] ++ #[Value.pointer (some ⟨w.heap.size, 0, none⟩), Value.pointer (some ⟨w.heap.size + 1, 0, none⟩)] : Array Value) = #[p, Value.pointer (some ⟨w.heap.size, 0, none⟩), Value.pointer (some ⟨w.heap.size + 1, 0, none⟩)] by simp]
   exact enMeetW_any gf gt u s J p k n rk d l r hI hp hg.2.2.2.2.1 hg.2.2.2.1 (by
    unfold enM at hbd
    split at hbd
    ·rw [List.length_append] at hbd; omega
    ·exact hbd)) t ((w.alloc (.cells #[fv, tv, .bool e] 74)).alloc (.cells #[.slice none 0 0] 26)) [] _ p hI (hp.bound.below hbb) hg hbd)
 have HBB := hid hbb
 obtain ⟨ap, rfl⟩ := hp.form
 rw [show eachM (enM fr to e) t [] = t.ents fr to e from rfl] at HV
 generalize t.ents fr to e = R at *
 clear hbb hx0 hx1 hI hp hg hf ht gf gt hbd
 go_enter Tryd.func33, Tryd.ntmps33
 go_wp2_with fail
 generalize ((w.alloc (.cells #[fv, tv, .bool e] 74)).alloc (.cells #[.slice none 0 0] 26)) = w2 at *
 refine HV.out.mono ?_
 rintro d w3 ⟨rfl, hst⟩
 obtain ⟨J', h1, h2, h3⟩ := hst
 obtain ⟨v, k1, k2, k3, k4⟩ := h1.box
 have c0 := cell_of_row _ (w.heap.size + 1) 0 _ _ _ k1
 have HF := hid (And.intro (show EnNW w w3 v R from ⟨_, k2, fun q hq => hq.1⟩) (HBB.out.trans (h2.below (B := w.heap.size) (fun q hq => by have : q = w.heap.size + 1 := hq; omega) HBB.out.size)))
 clear h1 h2 h3 k1 k2 k3 k4
 go_wp2_with fail
 go_ret
 exact ⟨_, rfl, HF.out.1, HF.out.2⟩
set_option maxRecDepth 100000 in
set_option maxHeartbeats 4000000 in
theorem treeAllW_any {S : Nat → Prop} (X : Nat) (w : World) (p : Value) (t : MT) (hx : TIs w X p) (hp : MIs w S p t) (hg : t.Good) (hbd : (t.ents [] [] false).length ≤ 1099511627776) :
  Calls Tryd.prog 13 #[.pointer (some ⟨X, 0, none⟩)] w fun d w' => ∃ v', d = .returned v' ∧ EnNW w w' v' (t.ents [] [] false) ∧ Below w.heap.size w w' := by
 have HE := hid (entriesW_any w p (.slice none 0 0) (.slice none 0 0) [] [] false t hp hg (Bs.nil w) (Bs.nil w) (fun x hx => by cases hx) (fun x hx => by cases hx) hbd)
 obtain ⟨ap, rfl⟩ := hp.form
 have c0 := cell_of_row _ X 0 _ _ _ hx
 generalize t.ents [] [] false = R at *
 clear hx hp hg hbd
 go_enter Tryd.func13, Tryd.ntmps13
 go_wp2_with fail
 refine HE.out.mono ?_
 rintro d w1 ⟨v, rfl, he, hb⟩
 have HF := hid (And.intro he hb)
 obtain ⟨a, c, rfl⟩ := he.slc
 clear he hb
 go_wp2_with fail
 go_ret
 exact ⟨_, rfl, HF.out.1, HF.out.2⟩
end Go.Proofs.YtbmlkocpjboodaaDoor
/- stage 7: the law's list of any entries -/
namespace Go.Proofs.YtbmlkocpjboodaaDoor
open Go.RowKit
open Go.Lib (hid)
theorem conv_kws (w : World) (s : List Int) (hr : Rng s) : ∃ W1 c, (convert 9 31 (.string (str s))).run Tryd.prog w = .ok (.slice (some ⟨w.heap.size, 0, none⟩) s.length c) W1 ∧ Below w.heap.size w W1 ∧ KWs W1 (fun b => w.heap.size ≤ b) (.slice (some ⟨w.heap.size, 0, none⟩) s.length c) s := by
 obtain ⟨W1, c, C, m, h1, h2, h3, h4, h5, h6, h7, h8⟩ := conv_blk w s hr
 exact ⟨W1, c, h1, h2, h4.mono (fun b e => by rw [e]; exact Nat.le_refl _), .inr ⟨_, _, rfl, Nat.le_refl _, C, (m, m + 1), h6, .inr h7, fun i hi => ⟨_, h8 i hi⟩⟩⟩
/-- the cells of a list of entries -/
def enZ (xs : List (Value × Int)) : List Value := xs.flatMap fun x => [x.1, Value.int .i64 (x.2 : Int)]
theorem enZ_snoc (xs : List (Value × Int)) (x : Value × Int) : enZ (xs ++ [x]) = enZ xs ++ [x.1, Value.int .i64 (x.2 : Int)] := by simp [enZ]
/-- an own row of entries, whose keys lie in blocks K -/
def EnRZ (w : World) (B : Nat) (K : Nat → Prop) (v : Value) (es : List (List Int × Int)) : Prop :=
 ∃ xs : List (Value × Int), xs.length = es.length ∧ w.ownsRow B 33 2 v es.length (enZ xs) ∧ (∀ g, v.ownBlock = some g → ¬ K g) ∧ ∀ (i : Nat) (x : Value × Int) (y : List Int × Int), xs[i]? = some x → es[i]? = some y → x.2 = y.2 ∧ KWs w K x.1 y.1
theorem EnRZ.nil (w : World) (B : Nat) (K : Nat → Prop) : EnRZ w B K (.slice none 0 0) [] := ⟨[], rfl, World.ownsRow_nil _ _ _ _, (fun g h => by cases h), (fun i x y h => by simp at h)⟩
theorem EnRZ.keep {w w' : World} {B : Nat} {K : Nat → Prop} {v : Value} {es : List (List Int × Int)} (h : EnRZ w B K v es) (hb : Below w.heap.size w w') : EnRZ w' B K v es := by
 obtain ⟨xs, h1, h2, h3, h4⟩ := h
 have hg : w.grownBy w' none := ⟨hb.os, hb.tape, hb.output, hb.size, fun k hk _ => hb.block k hk⟩
 refine ⟨xs, h1, World.ownsRow.kept h2 hg ?_, h3, fun i x y hx hy => ⟨(h4 i x y hx hy).1, (h4 i x y hx hy).2.below hb⟩⟩
 cases hv : v.ownBlock with
 | none => exact .inl rfl
 | some g => exact .inr (by simp)
/-- an entry is appended -/
theorem EnRZ.app {w : World} {B : Nat} {K K' : Nat → Prop} {v : Value} {es : List (List Int × Int)} (h : EnRZ w B K v es) (hb : B ≤ w.heap.size) (b : Nat) (kv : Value) (k : List Int) (n : Int) (hx : w.heap[b]? = some (.cells #[kv, .int .i64 (n : Int)] 33 (0, 0))) (hk : KWs w K kv k) (hn : es.length ≤ 1099511627776) (ty : TypeId) (h1 : kv.oneCell' = true)
    (hK : ∀ q, K q → q < w.heap.size → K' q) (hK0 : ∀ g, v.ownBlock = some g → ¬ K' g) (hK1 : ¬ K' w.heap.size) :
    ∃ v' w', (Builtin.append_ #[26, 26] ty #[v, .slice (some ⟨b, 0, none⟩) 1 1]).run Tryd.prog w = .ok v' w' ∧ EnRZ w' B K' v' (es ++ [(k, n)]) ∧ Chg (fun g => v.ownBlock = some g) w w' ∧ OwnTo w v v' := by
  obtain ⟨i, hi, hz, hs, hby⟩ := info33
  obtain ⟨xs, e1, e2, e3, e4⟩ := h
  obtain ⟨v', w', r1, r2, r3, -, r5⟩ := run_append_own_at (P := Tryd.prog) w B 26 ty 33 i _ 2 i.bytes Tryd.underlying26 hi hz hs rfl rfl (by decide) v es.length (enZ xs) e2 ⟨b, 0, none⟩ 1 1 [kv, .int .i64 (n : Int)] rfl (by
    intro j u hj
    rw [Addr.add_mid, cell_of_row _ b _ _ _ _ hx]
    rw [Nat.zero_add]
    simpa using hj) (by intro u hu; simp only [List.mem_cons, List.not_mem_nil, or_false] at hu; rcases hu with rfl | rfl; exact h1; rfl) (by unfold maxLen; omega) (by
    have : (es.length + 1) * i.bytes ≤ (es.length + 1) * 64 := Nat.mul_le_mul_left _ hby
    omega) hb
  have hc : Chg (fun g => v.ownBlock = some g) w w' := Chg.grown r3 (fun k hk => hk)
  have ho : OwnTo w v v' := fun g hg => by
    rcases r5 with h5 | h5
    · exact .inl (by rw [← h5]; exact hg)
    · rw [h5] at hg; injection hg with hg; exact .inr (by omega)
  have hkeep : ∀ {u : Value} {l : List Int}, KWs w K u l → KWs w' K' u l := fun hk => ((hk.bound).cg hc (fun q _ hq hj => e3 q hj hq.1)).mono (fun q hq => hK q hq.1 hq.2)
  refine ⟨v', w', r1, ⟨xs ++ [(kv, n)], by simp [e1], by rw [List.length_append, enZ_snoc]; exact r2, fun g hg => ?_, fun j x y hx hy => ?_⟩, hc, ho⟩
  · rcases r5 with h5 | h5
    · exact hK0 g (by rw [← h5]; exact hg)
    · rw [h5] at hg
      injection hg with hg
      subst hg
      exact hK1
  · by_cases hj : j < es.length
    · rw [List.getElem?_append_left (by omega)] at hx
      rw [List.getElem?_append_left hj] at hy
      exact ⟨(e4 j x y hx hy).1, hkeep (e4 j x y hx hy).2⟩
    · have hj2 : j = es.length := by
        have := (List.getElem?_eq_some_iff.1 hy).1
        simp at this
        omega
      subst hj2
      rw [List.getElem?_append_right (by omega), e1, Nat.sub_self] at hx
      rw [List.getElem?_append_right (by omega), Nat.sub_self] at hy
      injection hx with hx
      injection hy with hy
      subst hx hy
      exact ⟨rfl, hkeep hk⟩
theorem EnRZ.mono {w : World} {B : Nat} {K K' : Nat → Prop} {v : Value} {es : List (List Int × Int)} (h : EnRZ w B K v es) (hs : ∀ q, K q → K' q) (h3 : ∀ g, v.ownBlock = some g → ¬ K' g) : EnRZ w B K' v es := by
 obtain ⟨xs, e1, e2, e3, e4⟩ := h
 exact ⟨xs, e1, e2, h3, fun i x y hx hy => ⟨(e4 i x y hx hy).1, (e4 i x y hx hy).2.mono hs⟩⟩
theorem EnRZ.lt {w : World} {B : Nat} {K : Nat → Prop} {v : Value} {es : List (List Int × Int)} (h : EnRZ w B K v es) : ∀ g, v.ownBlock = some g → B ≤ g ∧ g < w.heap.size ∧ ¬ K g := by
 obtain ⟨xs, e1, e2, e3, e4⟩ := h
 exact fun g hg => ⟨(World.ownsRow.lt e2 g hg).1, (World.ownsRow.lt e2 g hg).2, e3 g hg⟩
theorem EnRZ.slc {w : World} {B : Nat} {K : Nat → Prop} {v : Value} {es : List (List Int × Int)} (h : EnRZ w B K v es) : ∃ a c, v = .slice a es.length c := by
 obtain ⟨xs, e1, e2, e3, e4⟩ := h
 exact ownsRow_slc e2
/-- a new key beside the list -/
theorem EnRZ.key {w w1 : World} {B : Nat} {K : Nat → Prop} {v kv : Value} {k : List Int} {es : List (List Int × Int)} (h : EnRZ w B K v es) (hb : Below w.heap.size w w1) (hk : KWs w1 (fun q => w.heap.size ≤ q) kv k) (hB : B ≤ w.heap.size) (hK : ∀ q, K q → B ≤ q ∧ q < w.heap.size) : ∃ K2 : Nat → Prop, EnRZ w1 B K2 v es ∧ KWs w1 K2 kv k ∧ ∀ q, K2 q → B ≤ q ∧ q < w1.heap.size := by
 have hs := hb.size
 refine ⟨fun q => K q ∨ (w.heap.size ≤ q ∧ q < w1.heap.size), (h.keep hb).mono (fun q h => .inl h) (fun g hg hc => ?_), hk.bound.mono (fun q h => .inr h), fun q hq => ?_⟩
 ·have := h.lt g hg
  rcases hc with hc | hc
  ·exact this.2.2 hc
  ·omega
 ·rcases hq with hq | hq
  ·have := hK q hq; omega
  ·omega
set_option maxRecDepth 100000 in
set_option maxHeartbeats 8000000 in
theorem lawListZ_any (w : World) (v : Value) (es : List (List Int × Int)) (hv : RfS w v es) (hes : ∀ x ∈ es, Rng x.1) (hn : es.length ≤ 1048576) :
  Calls Tryd.prog 10 #[v] w fun d w' => ∃ v', d = .returned v' ∧ (∃ K, EnRZ w' w.heap.size K v' es ∧ ∀ q, K q → w.heap.size ≤ q) ∧ Below w.heap.size w w' := by
 have HV := hid hv
 obtain ⟨av, cv, rfl, -⟩ := hv
 have HES := hid hes
 clear hes
 go_enter Tryd.func10, Tryd.ntmps10
 go_wp2_with fail
 go_loopw [3, 4] (fun ov iv wr => ∃ (j : Nat) (K : Nat → Prop), j ≤ es.length ∧ iv = .int .i64 (j : Int) ∧ EnRZ wr w.heap.size K ov (es.take j) ∧ (∀ q, K q → w.heap.size ≤ q ∧ q < wr.heap.size) ∧ Below w.heap.size w wr) (fun _ iv _ => es.length - (intOf iv).toNat)
 case atStart => exact ⟨0, fun _ => False, Nat.zero_le _, rfl, ⟨[], rfl, ⟨rfl, .inr ⟨w.heap.size, 0, #[], rfl, Nat.le_refl _, heap_alloc_new _ _, Nat.le_refl _, Nat.zero_le _, rfl, rfl⟩⟩, fun _ _ h => h, fun i x y h => by simp at h⟩, fun q h => h.elim, (Below.refl _ _).alloc (Nat.le_refl _) _⟩
 case round =>
  obtain ⟨j, K, hj, rfl, hro, hKb, hbw⟩ := hrel
  obtain ⟨ao, co, rfl⟩ := hro.slc
  have htl : (es.take j).length = j := by rw [List.length_take]; omega
  by_cases hjl : j < es.length
  ·have hx : es[j]? = some (es[j]'hjl) := List.getElem?_eq_getElem hjl
   have hts : es.take (j + 1) = es.take j ++ [es[j]'hjl] := by rw [List.take_add_one, hx]; rfl
   generalize es[j]'hjl = x at hx hts
   have gx := HES.out x (List.mem_of_getElem? hx)
   obtain ⟨a', c', he, hall⟩ := HV.out
   injection he with e1 e0 e2
   clear e0
   subst e1 e2
   obtain ⟨g, o, hag, hgl, hc0, hc1⟩ := hall j x hx
   subst hag
   have hj0 : (0 : Int) ≤ (j : Int) := by omega
   have hj1 : (j : Int) < (es.length : Int) := by omega
   have HC := hid (fun u (hu : Below w.heap.size w u) => (show u.cell? ⟨g, o + j * 2, none⟩ = some (.string (str x.1)) ∧ u.cell? ⟨g, o + j * 2 + 1, none⟩ = some (.int .i64 x.2) from ⟨(World.cell?_of_block (a := ⟨g, o + j * 2, none⟩) (hu.block g hgl)).trans hc0, (World.cell?_of_block (a := ⟨g, o + j * 2 + 1, none⟩) (hu.block g hgl)).trans hc1⟩))
   have hb := hbw.drew
   have hlt : j ≤ 1099511627776 := by omega
   have HX := hid (And.intro hjl (And.intro hts (And.intro htl (And.intro gx hlt))))
   rw [htl] at hro ⊢
   have HXD := hid (show EnRZ wr.drew w.heap.size K (.slice ao j co) (es.take j) ∧ ∀ q, K q → w.heap.size ≤ q ∧ q < wr.drew.heap.size from ⟨hro, hKb⟩)
   clear hro hbw hx hts hall hc0 hc1 hjl hgl hj htl gx hKb hlt
   go_wp2_with fail
   refine wp_region_held_drew (S := fun u => Below w.heap.size w u) (by kernel_rfl) (hb) (fun hHeld => ?_)
   refine tk (i := 0) (oi := ⟨some 12, .move (.tmp 3), 26, "law.go:29", #[], none⟩) (v := ?_) (Or.inl ⟨by rfl, ?_⟩) ?_
   rotate_left 1
   ·(intro u hSw; go_simp; try with_reducible rfl)
   try simp only [Act.put, sA, sB, sC]
   refine tk (i := 1) (oi := ⟨some 13, .move (.tmp 0), 22, "law.go:29", #[], none⟩) (v := ?_) (Or.inl ⟨by rfl, ?_⟩) ?_
   rotate_left 1
   ·(intro u hSw; go_simp; try with_reducible rfl)
   try simp only [Act.put, sA, sB, sC]
   refine tk (i := 2) (oi := ⟨some 14, .move (.tmp 4), 3, "law.go:29", #[], none⟩) (v := ?_) (Or.inl ⟨by rfl, ?_⟩) ?_
   rotate_left 1
   ·(intro u hSw; go_simp; try with_reducible rfl)
   try simp only [Act.put, sA, sB, sC]
   refine tk (i := 3) (oi := ⟨some 15, .indexAddr 22 (.tmp 13) (.tmp 14), 0, "law.go:29", #[⟨1, .data⟩, ⟨2, .data⟩], none⟩) (v := ?_) (Or.inl ⟨by rfl, ?_⟩) ?_
   rotate_left 1
   ·(intro u hSw; go_simp; try with_reducible rfl)
   try simp only [Act.put, sA, sB, sC]
   refine tk (i := 4) (oi := ⟨some 16, .fieldAddr 45 (.tmp 15) 0, 0, "law.go:29", #[⟨3, .data⟩], none⟩) (v := ?_) (Or.inl ⟨by rfl, ?_⟩) ?_
   rotate_left 1
   ·(intro u hSw; go_simp; try with_reducible rfl)
   try simp only [Act.put, sA, sB, sC]
   refine tk (i := 5) (oi := ⟨some 17, .load 9 (.tmp 16), 9, "law.go:29", #[⟨4, .data⟩], none⟩) (v := ?_) (Or.inl ⟨by rfl, ?_⟩) ?_
   rotate_left 1
   ·(intro u hSw; have y0 := (HC.out _ hSw).1; have y1 := (HC.out _ hSw).2; go_simp; try with_reducible rfl)
   try simp only [Act.put, sA, sB, sC]
   refine tk (i := 7) (oi := ⟨some 19, .move (.tmp 0), 22, "law.go:29", #[], none⟩) (v := ?_) (Or.inl ⟨by rfl, ?_⟩) ?_
   rotate_left 1
   ·(intro u hSw; go_simp; try with_reducible rfl)
   try simp only [Act.put, sA, sB, sC]
   refine tk (i := 8) (oi := ⟨some 20, .move (.tmp 4), 3, "law.go:29", #[], none⟩) (v := ?_) (Or.inl ⟨by rfl, ?_⟩) ?_
   rotate_left 1
   ·(intro u hSw; go_simp; try with_reducible rfl)
   try simp only [Act.put, sA, sB, sC]
   refine tk (i := 9) (oi := ⟨some 21, .indexAddr 22 (.tmp 19) (.tmp 20), 0, "law.go:29", #[⟨7, .data⟩, ⟨8, .data⟩], none⟩) (v := ?_) (Or.inl ⟨by rfl, ?_⟩) ?_
   rotate_left 1
   ·(intro u hSw; go_simp; try with_reducible rfl)
   try simp only [Act.put, sA, sB, sC]
   refine tk (i := 10) (oi := ⟨some 22, .fieldAddr 45 (.tmp 21) 1, 0, "law.go:29", #[⟨9, .data⟩], none⟩) (v := ?_) (Or.inl ⟨by rfl, ?_⟩) ?_
   rotate_left 1
   ·(intro u hSw; go_simp; try with_reducible rfl)
   try simp only [Act.put, sA, sB, sC]
   refine tk (i := 11) (oi := ⟨some 23, .load 2 (.tmp 22), 2, "law.go:29", #[⟨10, .data⟩], none⟩) (v := ?_) (Or.inl ⟨by rfl, ?_⟩) ?_
   rotate_left 1
   ·(intro u hSw; have y0 := (HC.out _ hSw).1; have y1 := (HC.out _ hSw).2; go_simp; try with_reducible rfl)
   try simp only [Act.put, sA, sB, sC]
   refine wpAnyH_ready (rs := [6]) (by kernel_rfl) (by simp) ?_
   refine (AllReadyH.cons (o := ⟨some 18, .convert 9 31 (.tmp 17), 31, "law.go:29", #[⟨5, .data⟩], none⟩) rfl (fun K hK => ?_) AllReadyH.nil)
   try (generalize World.drew wr = ud at *)
   obtain ⟨W1, c18, q18, b18, k18⟩ := conv_kws ud x.1 HX.out.2.2.2.1
   refine step_of_runP (by rfl) (exec_convP 9 31 (Operand.tmp 17) (by rfl) _ (by rfl) _ q18) ?_
   obtain ⟨K2, hro, hk, hKb⟩ := HXD.out.1.key b18 k18 hb.size HXD.out.2
   have hb := hb.trans (b18.mono hb.size)
   clear b18 k18 q18
   refine hK.out _ _ hb (fun hHeld => ?_)
   clear hK K
   try simp only [Act.put, sA, sB, sC]
   refine tk (i := 12) (oi := ⟨some 24, .build 33 #[(0, .tmp 18), (1, .tmp 23)], 33, "law.go:29", #[⟨6, .data⟩, ⟨11, .data⟩], none⟩) (v := ?_) (Or.inl ⟨by rfl, ?_⟩) ?_
   rotate_left 1
   ·(intro u hSw; go_simp; try with_reducible rfl)
   try simp only [Act.put, sA, sB, sC]
   refine wpAnyH_ready (rs := [13]) (by kernel_rfl) (by simp) ?_
   refine (AllReadyH.cons (o := ⟨some 25, .buildSlice 26 1 #[(0, .tmp 24)], 26, "law.go:29", #[⟨12, .data⟩], none⟩) rfl (fun K hK => ?_) AllReadyH.nil)
   go_simp
   refine al_step2 hb (fun nu hbn q1 hcn => ?_)
   have hro := hro.keep hcn
   have hk := hk.below hcn
   have hKb := fun q h => (show w.heap.size ≤ q ∧ q < nu.heap.size from ⟨(hKb q h).1, Nat.lt_of_lt_of_le (hKb q h).2 hcn.size⟩)
   have hb := hbn
   clear hcn hbn
   refine hK.out _ _ hb (fun hHeld => ?_)
   clear hK K
   try simp only [Act.put, sA, sB, sC]
   refine wpAnyH_ready (rs := [14]) (by kernel_rfl) (by simp) ?_
   refine (AllReadyH.cons (o := ⟨some 26, .call ⟨.builtin .append, #[.tmp 12, .tmp 25], #[26, 26]⟩, 26, "law.go:29", #[⟨0, .data⟩, ⟨13, .data⟩], none⟩) rfl (fun K hK => ?_) AllReadyH.nil)
   obtain ⟨v8, w8, hr8, ho8, hc8, -⟩ := hro.app hb.size _ _ x.1 x.2 q1 hk (by rw [HX.out.2.2.1]; exact HX.out.2.2.2.2) 26 (by rfl) (fun q h _ => h) (fun g hg => (hro.lt g hg).2.2) (fun h => Nat.lt_irrefl _ (hKb _ h).2)
   have hlt8 := hro.lt
   refine step_append_me (by rfl) (Operand.tmp 12) (Operand.tmp 25) (by rfl) _ _ (by rfl) (by rfl) hr8 ?_
   have hKb := fun q h => (show w.heap.size ≤ q ∧ q < w8.heap.size from ⟨(hKb q h).1, Nat.lt_of_lt_of_le (hKb q h).2 hc8.size⟩)
   have hb := hb.trans (hc8.below (B := w.heap.size) (fun q e => (hlt8 q e).1) hb.size)
   obtain ⟨a8, c8, rfl⟩ := ho8.slc
   have hl8 : (es.take j ++ [(x.1, x.2)]).length = j + 1 := by rw [List.length_append, HX.out.2.2.1]; rfl
   rw [hl8] at ho8 ⊢
   clear hc8 hr8 hro hlt8 hk hl8
   refine hK.out _ _ hb (fun hHeld => ?_)
   clear hK K
   try simp only [Act.put, sA, sB, sC]
   refine tk (i := 15) (oi := ⟨some 3, .assign (.tmp 26), 26, "law.go:29", #[⟨14, .data⟩, ⟨14, .chain⟩, ⟨0, .phase⟩, ⟨1, .phase⟩, ⟨2, .phase⟩, ⟨3, .phase⟩, ⟨4, .phase⟩, ⟨5, .phase⟩, ⟨6, .phase⟩, ⟨7, .phase⟩, ⟨8, .phase⟩, ⟨9, .phase⟩, ⟨10, .phase⟩, ⟨11, .phase⟩, ⟨12, .phase⟩, ⟨13, .phase⟩, ⟨14, .phase⟩], none⟩) (v := ?_) (Or.inl ⟨by rfl, ?_⟩) ?_
   rotate_left 1
   ·(intro u hSw; go_simp; try with_reducible rfl)
   try simp only [Act.put, sA, sB, sC]
   refine wpAnyH_done (by kernel_rfl) ?_ _
   have H8 := hid (And.intro ho8 (And.intro hKb hb))
   clear ho8 hb hHeld q1 hKb
   go_wp2_with fail
   go_roundw
   case rel => exact ⟨j + 1, K2, HX.out.1, by go_num, by rw [HX.out.2.1]; exact H8.out.1, H8.out.2.1, H8.out.2.2⟩
   case measure => have := HX.out.1; simp [intOf]; omega
  ·have hj2 : j = es.length := by omega
   subst hj2
   have HX := hid (And.intro hro (And.intro hKb hbw))
   rw [htl, List.take_length] at HX
   clear hro hbw htl hKb
   rw [List.take_length]
   go_wp2_with fail
   go_ret
   exact ⟨_, rfl, ⟨K, HX.out.1, fun q h => (HX.out.2.1 q h).1⟩, HX.out.2.2⟩
end Go.Proofs.YtbmlkocpjboodaaDoor
/- stage 7, plain: the reference's proof; which lists may be -/
namespace Go.Proofs.YtbmlkocpjboodaaDoor
open Go.RowKit
open Go.Lib (hid)
/-- the reference's proof, so many calls deep -/
def pvF (fr to : List Int) (e : Bool) : Nat → List (List Int × Nat) → List Int → List Int → Bool → Bool → List Int
 | 0, _, _, _, _, _ => [0]
 | m + 1, l, lo, hi, low, up => match l[topI l]? with
  | none => [0]
  | some x => if missQ lo hi low up fr to e = true then [1] ++ rRoot l else [2] ++ (pvF fr to e m (l.take (topI l)) lo x.1 low true ++ ([(x.1.length : Int) / 256, (x.1.length : Int) % 256] ++ (x.1 ++ (be8 x.2 ++ pvF fr to e m (l.drop (topI l + 1)) x.1 hi true up))))
def rPv (fr to : List Int) (e : Bool) (l : List (List Int × Nat)) (lo hi : List Int) (low up : Bool) : List Int := pvF fr to e l.length l lo hi low up
theorem pvF_more (fr to : List Int) (e : Bool) : ∀ (m : Nat) (l : List (List Int × Nat)) (lo hi : List Int) (low up : Bool), l.length ≤ m → pvF fr to e m l lo hi low up = pvF fr to e (m + 1) l lo hi low up
 | 0, l, lo, hi, low, up, h => by
  have : l = [] := List.eq_nil_of_length_eq_zero (by omega)
  subst this
  rfl
 | m + 1, l, lo, hi, low, up, h => by
  conv => lhs; unfold pvF
  conv => rhs; unfold pvF
  cases hx : l[topI l]? with
  | none => rfl
  | some x =>
   have hi := (List.getElem?_eq_some_iff.1 hx).1
   simp only []
   rw [pvF_more fr to e m _ _ _ _ _ (by rw [List.length_take]; omega), pvF_more fr to e m _ _ _ _ _ (by rw [List.length_drop]; omega)]
theorem pvF_any (fr to : List Int) (e : Bool) (l : List (List Int × Nat)) (lo hi : List Int) (low up : Bool) : ∀ (d : Nat), pvF fr to e (l.length + d) l lo hi low up = rPv fr to e l lo hi low up
 | 0 => rfl
 | d + 1 => by rw [← pvF_any fr to e l lo hi low up d, pvF_more fr to e (l.length + d) l lo hi low up (by omega)]; rfl
theorem pvF_ge {fr to : List Int} {e : Bool} {m : Nat} {l : List (List Int × Nat)} {lo hi : List Int} {low up : Bool} (h : l.length ≤ m) : pvF fr to e m l lo hi low up = rPv fr to e l lo hi low up := by
 obtain ⟨d, rfl⟩ := Nat.le.dest h
 exact pvF_any fr to e l lo hi low up d
theorem rPv_nil (fr to : List Int) (e : Bool) (lo hi : List Int) (low up : Bool) : rPv fr to e [] lo hi low up = [0] := rfl
theorem rPv_at {fr to : List Int} {e : Bool} {l : List (List Int × Nat)} {lo hi : List Int} {low up : Bool} {x : List Int × Nat} (hx : l[topI l]? = some x) : rPv fr to e l lo hi low up = if missQ lo hi low up fr to e = true then [1] ++ rRoot l else [2] ++ (rPv fr to e (l.take (topI l)) lo x.1 low true ++ ([(x.1.length : Int) / 256, (x.1.length : Int) % 256] ++ (x.1 ++ (be8 x.2 ++ rPv fr to e (l.drop (topI l + 1)) x.1 hi true up)))) := by
 have hi := (List.getElem?_eq_some_iff.1 hx).1
 rw [← pvF_ge (m := l.length + 1) (Nat.le_succ _)]
 conv => lhs; unfold pvF
 rw [hx]
 simp only []
 rw [pvF_ge (m := l.length) (by rw [List.length_take]; omega), pvF_ge (m := l.length) (by rw [List.length_drop]; omega)]
theorem miss_out (fr to : List Int) (e : Bool) (lo hi : Option (List Int)) : missQ (lo.getD []) (hi.getD []) lo.isSome hi.isSome fr to e = outQ fr to e lo hi := by
 unfold missQ outQ endsQ
 cases lo with
 | none => cases hi <;> simp
 | some k =>
  have hk : decide (0 ≤ cmpI k to) = decide (cmpI to k ≤ 0) := by rw [cmp_flip k to]; exact decide_eq_decide.2 ⟨fun h => by omega, fun h => by omega⟩
  cases hi <;> simp [hk]
/-- the proof of a list's tree is the reference's -/
theorem prB_rPv (fr to : List Int) (e : Bool) : ∀ (t : MT) (lo hi : Option (List Int)), t.Good → t.Full → t.Rkd → Asc t.ino → t.Heap → t.prB fr to e lo hi = rPv fr to e t.ino (lo.getD []) (hi.getD []) lo.isSome hi.isSome
 | .nil, _, _, _, _, _, _, _ => rfl
 | .cut _, _, _, _, f, _, _, _ => absurd f id
 | .nd k n rk d l r, lo, hi, g, f, q, a, h => by
  have hroot : d = rRoot (l.ino ++ (k, n) :: r.ino) := dg_root (.nd k n rk d l r) g f q a h
  obtain ⟨hd, gl, gr, -⟩ := id g
  obtain ⟨a1, a2, -⟩ := asc_nd a
  have hA : Asc (l.ino ++ (k, n) :: r.ino) := a
  have hl : ∀ y ∈ l.ino, cmpI y.1 k < 0 := by
   unfold Asc at hA
   rw [List.pairwise_append] at hA
   exact fun y hy => hA.2.2 y hy (k, n) List.mem_cons_self
  have ht : topI (l.ino ++ (k, n) :: r.ino) = l.ino.length := topI_mid (k, n) l.ino r.ino (fun y hy => abk_rnk2 (h.1 y hy) (hl y hy)) (fun y hy => abk_rnk (h.2.1 y hy))
  have hx : (l.ino ++ (k, n) :: r.ino)[topI (l.ino ++ (k, n) :: r.ino)]? = some (k, n) := by rw [ht]; simp
  show (MT.nd k n rk d l r).prB fr to e lo hi = rPv fr to e (l.ino ++ (k, n) :: r.ino) _ _ _ _
  rw [rPv_at hx, miss_out, ht]
  unfold MT.prB
  rw [← hroot, prB_rPv fr to e l lo (some k) gl f.1 q.2.1 a1 h.2.2.1, prB_rPv fr to e r (some k) hi gr f.2 q.2.2 a2 h.2.2.2]
  have e1 : (l.ino ++ (k, n) :: r.ino).take l.ino.length = l.ino := by rw [List.take_left']; rfl
  have e2 : (l.ino ++ (k, n) :: r.ino).drop (l.ino.length + 1) = r.ino := by
   rw [show l.ino.length + 1 = (l.ino ++ [(k, n)]).length by simp, show l.ino ++ (k, n) :: r.ino = (l.ino ++ [(k, n)]) ++ r.ino by simp, List.drop_left']
   rfl
  rw [e1, e2]
  rfl
theorem prove_rPv (fr to : List Int) (e : Bool) (t : MT) (g : t.Good) (f : t.Full) (q : t.Rkd) (a : Asc t.ino) (h : t.Heap) : t.prove fr to e = rPv fr to e t.ino [] [] false false := by
 have e1 : t.prove fr to e = t.prB fr to e none none := by
  unfold MT.prove
  rw [visit_prB]
  rfl
 rw [e1, prB_rPv fr to e t none none g f q a h]
 rfl
/-- a list that may be is a rising one -/
theorem mayF_asc : ∀ (l : List (List Int × Int)) (o : Option (List Int)), mayF o l = true → ∃ es : List (List Int × Nat), l = es.map toI ∧ chn o es = true ∧ ∀ x ∈ es, 1 ≤ x.2 ∧ x.1.length ≤ 65535
 | [], _, _ => ⟨[], rfl, rfl, fun x hx => by cases hx⟩
 | x :: l, o, h => by
  unfold mayF at h
  simp only [Bool.and_eq_true, Bool.not_eq_true', decide_eq_false_iff_not] at h
  obtain ⟨h1, h2, h3, h4⟩ := h
  obtain ⟨es, e1, e2, e3⟩ := mayF_asc l _ h4
  refine ⟨(x.1, x.2.toNat) :: es, ?_, ?_, fun y hy => ?_⟩
  ·rw [List.map_cons, ← e1]
   congr 1
   unfold toI
   exact Prod.ext rfl (by show x.2 = ((x.2.toNat : Nat) : Int); omega)
  ·unfold chn
   simp only [Bool.and_eq_true]
   exact ⟨h3, e2⟩
  ·rcases List.mem_cons.1 hy with rfl | hy
   ·exact ⟨by show 1 ≤ x.2.toNat; omega, by show x.1.length ≤ 65535; omega⟩
   ·exact e3 y hy
end Go.Proofs.YtbmlkocpjboodaaDoor
