/- stage 7: entries whose keys may be written -/
import Derived.Test.YtbmlkocpjboodaaDoorMv22
namespace Go.Proofs.YtbmlkocpjboodaaDoor
open Go.RowKit
open Go.Lib (hid)
set_option maxRecDepth 100000 in
set_option maxHeartbeats 8000000 in
theorem enMeetW_any {B Lb Sb : Nat} {S : Nat → Prop} {fv tv : Value} {fr to : List Int} {e : Bool} (gf : Rng fr) (gt : Rng to) (w : World) (s : List (List Int × Nat)) (J : Nat → Prop) (p : Value) (k : List Int) (n : Nat) (rk dg : List Int) (l r : MT) (h : NIW B Lb Sb S fv tv fr to e w s J) (hp : MIs w S p (.nd k n rk dg l r)) (gk : Rng k) (hkl : k.length ≤ 65535) (hbd : s.length ≤ 1099511627776) :
  Calls Tryd.prog 63 #[p, .pointer (some ⟨Sb, 0, none⟩), .pointer (some ⟨Lb, 0, none⟩)] w fun d w' => d = .returned (.tuple #[]) ∧ Stp (NIW B Lb Sb S fv tv fr to e) J w w' (enM fr to e s k n) := by
 obtain ⟨b, kv, lp, rp, rfl, hSb, h1, h2, hx, hk, -, -⟩ := hp
 obtain ⟨ak, ck, rfl⟩ := hk.form
 have hnJ : ¬ J b := fun hj => (h.low b hj).2 hSb
 have HHA := hid (fun u (hu : Below w.heap.size w u) => has_any fv tv (.slice ak k.length ck) fr to k e u (h.fr'.below hu).1 (h.to'.below hu).1 (hk.below hu).1 gf gt gk)
 have HS := hid (fun u (hu : Below w.heap.size w u) => (show u.rangeAt Sb 0 [fv, tv, .bool e] from fun j x hj => by
  rw [cell_of_row u Sb (0 + j) _ _ _ ((hu.block _ (blk_lt h.span)).trans h.span), Nat.zero_add]
  simpa using hj))
 have HN := hid (fun u (hu : Below w.heap.size w u) => (show u.cell? ⟨b, 0, none⟩ = some (.slice ak k.length ck) from (cell_of_row u b 0 _ _ _ ((hu.block _ (blk_lt hx)).trans hx)).trans ndC_0))
 have HH := hid (And.intro h (And.intro (fun u (hu : Chg J w u) => (show u.rangeAt b 0 [.slice ak k.length ck, .int .i64 (n : Int)] from fun j x hj => nd_rng0 ((hu.block b (blk_lt hx) hnJ).trans hx) h1 j x (by
  have hj2 : j < 2 := by have := (List.getElem?_eq_some_iff.1 hj).1; simpa using this
  unfold rkL
  rw [List.getElem?_append_left (by simpa using hj2)]
  exact hj))) (And.intro hk hkl)))
 have HR := hid (show enM fr to e s k n = if hasQ fr to e k = true then s ++ [(k, n)] else s from rfl)
 have HLEN := hid hbd
 have hb0 := (Below.refl w.heap.size w).drew
 generalize enM fr to e s k n = R at *
 clear h hx hk gf gt gk hkl hbd h1 h2 hSb hnJ
 go_enter Tryd.func63, Tryd.ntmps63
 go_wp2_with fail
 refine wp_region_held_drew (S := fun u => Below w.heap.size w u) (by kernel_rfl) (hb0) (fun hHeld => ?_)
 refine tk (i := 0) (oi := ⟨some 4, .load 74 (.tmp 1), 74, "visit.go:51", #[], none⟩) (v := .agg #[fv, tv, .bool e]) (Or.inl ⟨by rfl, ?_⟩) ?_
 ·intro u hSw
  exact exec_load_mid 74 (Operand.tmp 1) rfl Sb 0 rfl _ _ (HS.out _ hSw) Tryd.underlying74 rfl (by kernel_rfl)
 try simp only [Act.put, sA, sB, sC]
 refine tk (i := 1) (oi := ⟨some 5, .move (.tmp 0), 68, "visit.go:51", #[], none⟩) (v := ?_) (Or.inl ⟨by rfl, ?_⟩) ?_
 rotate_left 1
 ·(intro u hSw; go_simp; try with_reducible rfl)
 try simp only [Act.put, sA, sB, sC]
 refine tk (i := 2) (oi := ⟨some 6, .nilCheck (.tmp 5), 0, "visit.go:51", #[⟨1, .data⟩], none⟩) (v := ?_) (Or.inl ⟨by rfl, ?_⟩) ?_
 rotate_left 1
 ·(intro u hSw; go_simp; try with_reducible rfl)
 try simp only [Act.put, sA, sB, sC]
 refine tk (i := 3) (oi := ⟨some 7, .fieldAddr 115 (.tmp 6) 0, 0, "visit.go:51", #[⟨2, .data⟩], none⟩) (v := ?_) (Or.inl ⟨by rfl, ?_⟩) ?_
 rotate_left 1
 ·(intro u hSw; go_simp; try with_reducible rfl)
 try simp only [Act.put, sA, sB, sC]
 refine tk (i := 4) (oi := ⟨some 8, .fieldAddr 66 (.tmp 7) 0, 0, "visit.go:51", #[⟨3, .data⟩], none⟩) (v := ?_) (Or.inl ⟨by rfl, ?_⟩) ?_
 rotate_left 1
 ·(intro u hSw; go_simp; try with_reducible rfl)
 try simp only [Act.put, sA, sB, sC]
 refine tk (i := 5) (oi := ⟨some 9, .fieldAddr 33 (.tmp 8) 0, 0, "visit.go:51", #[⟨4, .data⟩], none⟩) (v := ?_) (Or.inl ⟨by rfl, ?_⟩) ?_
 rotate_left 1
 ·(intro u hSw; go_simp; try with_reducible rfl)
 try simp only [Act.put, sA, sB, sC]
 refine tk (i := 6) (oi := ⟨some 10, .load 31 (.tmp 9), 31, "visit.go:51", #[⟨5, .data⟩], none⟩) (v := ?_) (Or.inl ⟨by rfl, ?_⟩) ?_
 rotate_left 1
 ·(intro u hSw; have y1 := HN.out _ hSw; go_simp; try with_reducible rfl)
 try simp only [Act.put, sA, sB, sC]
 refine wpAnyH_ready (rs := [7]) (by kernel_rfl) (by simp) ?_
 refine (AllReadyH.cons (o := ⟨some 11, .call ⟨.value (.func 64), #[.tmp 4, .tmp 10], #[74, 31]⟩, 4, "visit.go:51", #[⟨0, .data⟩, ⟨6, .data⟩], none⟩) rfl (fun K hK => ?_) AllReadyH.nil)
 go_simp
 refine (HHA.out _ hb0).mono ?_
 rintro d w1 ⟨rfl, hb1⟩
 have hb1' := hb0.trans (hb1.mono hb0.size)
 clear hb1
 go_wp2_with fail
 refine hK.out _ _ hb1' (fun hHeld => ?_)
 clear hK K
 try simp only [Act.put, sA, sB, sC]
 refine wpAnyH_done (by kernel_rfl) ?_ _
 have hb1 := hb1'
 have HST0 := hid (Stp.below (I := NIW B Lb Sb S fv tv fr to e) (fun _ _ _ _ h hb => NIW.keep h hb) (Stp.refl (I := NIW B Lb Sb S fv tv fr to e) HH.out.1) hb1)
 generalize hasQ fr to e k = q at *
 cases q with
 | false =>
  go_wp2_with fail
  go_end0
  rw [HR.out]
  exact ⟨rfl, HST0.out⟩
 | true =>
  have hbd := hb1.drew
  have hI1 := HH.out.1.keep hbd
  obtain ⟨v, e1, e2, e3, e4⟩ := id hI1.box
  have HI1 := hid (And.intro hI1 e1)
  have HRG := hid (fun u (hu : Chg J w1.drew u) => HH.out.2.1 u ((Chg.fresh (F := J) hbd).trans hu (fun i hi => .inl hi)))
  have HCP := hid (fun u (hu : Below w1.drew.heap.size w1.drew u) => (show Calls Tryd.prog 57 #[.agg #[.slice ak k.length ck, .int .i64 (n : Int)]] u fun d w' => ∃ kv', d = .returned (.agg #[kv', .int .i64 (n : Int)]) ∧ KWs w' (fun b => u.heap.size ≤ b) kv' k ∧ Below u.heap.size u w' from copiedW_any u (.slice ak k.length ck) n k ((HH.out.2.2.1.below (hbd.trans (hu.mono hbd.size))).1) HH.out.2.2.2))
  have HPC := hid (fun u (hu : Below w1.drew.heap.size w1.drew u) => (show u.cell? ⟨Lb, 0, none⟩ = some v from cell_of_row _ Lb 0 _ _ _ ((hu.block _ (blk_lt e1)).trans e1)))
  have HAF := hid hbd
  have hbl : Below w1.drew.heap.size w1.drew w1.drew := Below.refl _ _
  have cP := HPC.out _ hbl
  have hch : Chg J w1.drew w1.drew := Chg.refl _ _
  clear hb1 hbd hI1 e1 e2 e3 e4
  go_wp2_with fail
  refine wp_region_held_drew (S := fun u => Chg J w1.drew u) (by kernel_rfl) (hch) (fun hHeld => ?_)
  refine tk (i := 1) (oi := ⟨some 13, .move (.tmp 0), 68, "visit.go:52", #[], none⟩) (v := ?_) (Or.inl ⟨by rfl, ?_⟩) ?_
  rotate_left 1
  ·(intro u hSw; go_simp; try with_reducible rfl)
  try simp only [Act.put, sA, sB, sC]
  refine tk (i := 2) (oi := ⟨some 14, .nilCheck (.tmp 13), 0, "visit.go:52", #[⟨1, .data⟩], none⟩) (v := ?_) (Or.inl ⟨by rfl, ?_⟩) ?_
  rotate_left 1
  ·(intro u hSw; go_simp; try with_reducible rfl)
  try simp only [Act.put, sA, sB, sC]
  refine tk (i := 3) (oi := ⟨some 15, .fieldAddr 115 (.tmp 14) 0, 0, "visit.go:52", #[⟨2, .data⟩], none⟩) (v := ?_) (Or.inl ⟨by rfl, ?_⟩) ?_
  rotate_left 1
  ·(intro u hSw; go_simp; try with_reducible rfl)
  try simp only [Act.put, sA, sB, sC]
  refine tk (i := 4) (oi := ⟨some 16, .fieldAddr 66 (.tmp 15) 0, 0, "visit.go:52", #[⟨3, .data⟩], none⟩) (v := ?_) (Or.inl ⟨by rfl, ?_⟩) ?_
  rotate_left 1
  ·(intro u hSw; go_simp; try with_reducible rfl)
  try simp only [Act.put, sA, sB, sC]
  refine tk (i := 5) (oi := ⟨some 17, .load 33 (.tmp 16), 33, "visit.go:52", #[⟨4, .data⟩], none⟩) (v := .agg #[.slice ak k.length ck, .int .i64 (n : Int)]) (Or.inl ⟨by rfl, ?_⟩) ?_
  ·intro u hSw
   exact exec_load_mid 33 (Operand.tmp 16) rfl b 0 rfl _ _ (HRG.out _ hSw) Tryd.underlying33 rfl (by kernel_rfl)
  try simp only [Act.put, sA, sB, sC]
  refine wpAnyH_ready (rs := [0, 6]) (by kernel_rfl) (by simp) ?_
  refine (AllReadyH.cons (o := ⟨some 12, .load 26 (.tmp 2), 26, "visit.go:52", #[], none⟩) rfl (fun K hK => ?_) (AllReadyH.cons (o := ⟨some 18, .call ⟨.value (.func 57), #[.tmp 17], #[33]⟩, 33, "visit.go:52", #[⟨5, .data⟩], none⟩) rfl (fun K hK => ?_) AllReadyH.nil))
  ·go_simp
   refine hK.out _ _ hch (fun hHeld => ?_)
   clear hK K
   try simp only [Act.put, sA, sB, sC]
   refine wpAnyH_ready (rs := [6]) (by kernel_rfl) (by simp) ?_
   refine (AllReadyH.cons (o := ⟨some 18, .call ⟨.value (.func 57), #[.tmp 17], #[33]⟩, 33, "visit.go:52", #[⟨5, .data⟩], none⟩) rfl (fun K hK => ?_) AllReadyH.nil)
   go_simp
   refine (HCP.out _ hbl).mono ?_
   rintro d w3 ⟨kv3, rfl, hk3, hb3⟩
   obtain ⟨a3, c3, rfl⟩ := hk3.form
   have HK3 := hid (hk3.mono (S' := fun q => w1.drew.heap.size ≤ q) (fun q hq => Nat.le_trans hbl.size hq))
   have hbl := hbl.trans (hb3.mono hbl.size)
   have hch : Chg J w1.drew w3 := Chg.fresh hbl
   have cP := HPC.out _ hbl
   clear hk3 hb3
   go_wp2_with fail
   refine hK.out _ _ hch (fun hHeld => ?_)
   clear hK K
   try simp only [Act.put, sA, sB, sC]
   refine wpAnyH_ready (rs := [7]) (by kernel_rfl) (by simp) ?_
   refine (AllReadyH.cons (o := ⟨some 19, .buildSlice 26 1 #[(0, .tmp 18)], 26, "visit.go:52", #[⟨6, .data⟩], none⟩) rfl (fun K hK => ?_) AllReadyH.nil)
   go_simp
   refine al_step2 hbl (fun nu hbn q hcn => ?_)
   have HQ4 := hid (And.intro q (HK3.out.below hcn))
   have hbl := hbn
   have hch : Chg J w1.drew nu := Chg.fresh hbl
   have cP := HPC.out _ hbl
   clear q hcn hbn
   refine hK.out _ _ hch (fun hHeld => ?_)
   clear hK K
   try simp only [Act.put, sA, sB, sC]
   refine wpAnyH_ready (rs := [8]) (by kernel_rfl) (by simp) ?_
   refine (AllReadyH.cons (o := ⟨some 20, .call ⟨.builtin .append, #[.tmp 12, .tmp 19], #[26, 26]⟩, 26, "visit.go:52", #[⟨0, .data⟩, ⟨7, .data⟩, ⟨6, .chain⟩], none⟩) rfl (fun K hK => ?_) AllReadyH.nil)
   obtain ⟨v5, w5, hr, ⟨a5, m5, c5, rfl⟩, hp5, hj5, hst⟩ := HI1.out.1.app HI1.out.2 hbl w3.heap.size (.slice a3 k.length c3) k n HQ4.out.1 HQ4.out.2 HLEN.out 26 rfl
   refine step_append_run (by rfl) (Operand.tmp 12) (Operand.tmp 19) (by rfl) v (.slice (some ⟨w3.heap.size, 0, none⟩) 1 1) (by rfl) (by rfl) hr ?_
   have cQ := cell_of_row _ Lb 0 _ _ _ hp5
   have fQ := frozen_of_row _ Lb 0 _ _ hp5
   have HST := hid hst
   have hch := hj5
   clear hp5 hj5 hst hr
   refine hK.out _ _ hch (fun hHeld => ?_)
   clear hK K
   try simp only [Act.put, sA, sB, sC]
   refine wpAnyH_ready (rs := [9]) (by kernel_rfl) (by simp) ?_
   refine (AllReadyH.cons (o := ⟨none, .store 26 (.tmp 2) (.tmp 20), 0, "visit.go:52", #[⟨8, .data⟩, ⟨8, .chain⟩, ⟨0, .phase⟩, ⟨1, .phase⟩, ⟨2, .phase⟩, ⟨3, .phase⟩, ⟨4, .phase⟩, ⟨5, .phase⟩, ⟨6, .phase⟩, ⟨7, .phase⟩, ⟨8, .phase⟩], none⟩) rfl (fun K hK => ?_) AllReadyH.nil)
   go_simp
   refine hK.out _ _ HST.out.chg (fun hHeld => ?_)
   clear hK K
   try simp only [Act.put]
   refine wpAnyH_done (by kernel_rfl) ?_ _
   go_wp2_with fail
   go_end0
   rw [HR.out]
   exact ⟨rfl, HST.out.after HAF.out⟩
  ·go_simp
   refine (HCP.out _ hbl).mono ?_
   rintro d w3 ⟨kv3, rfl, hk3, hb3⟩
   obtain ⟨a3, c3, rfl⟩ := hk3.form
   have HK3 := hid (hk3.mono (S' := fun q => w1.drew.heap.size ≤ q) (fun q hq => Nat.le_trans hbl.size hq))
   have hbl := hbl.trans (hb3.mono hbl.size)
   have hch : Chg J w1.drew w3 := Chg.fresh hbl
   have cP := HPC.out _ hbl
   clear hk3 hb3
   go_wp2_with fail
   refine hK.out _ _ hch (fun hHeld => ?_)
   clear hK K
   try simp only [Act.put, sA, sB, sC]
   refine wpAnyH_ready (rs := [0, 7]) (by kernel_rfl) (by simp) ?_
   refine (AllReadyH.cons (o := ⟨some 12, .load 26 (.tmp 2), 26, "visit.go:52", #[], none⟩) rfl (fun K hK => ?_) (AllReadyH.cons (o := ⟨some 19, .buildSlice 26 1 #[(0, .tmp 18)], 26, "visit.go:52", #[⟨6, .data⟩], none⟩) rfl (fun K hK => ?_) AllReadyH.nil))
   ·go_simp
    refine hK.out _ _ hch (fun hHeld => ?_)
    clear hK K
    try simp only [Act.put, sA, sB, sC]
    refine wpAnyH_ready (rs := [7]) (by kernel_rfl) (by simp) ?_
    refine (AllReadyH.cons (o := ⟨some 19, .buildSlice 26 1 #[(0, .tmp 18)], 26, "visit.go:52", #[⟨6, .data⟩], none⟩) rfl (fun K hK => ?_) AllReadyH.nil)
    go_simp
    refine al_step2 hbl (fun nu hbn q hcn => ?_)
    have HQ4 := hid (And.intro q (HK3.out.below hcn))
    have hbl := hbn
    have hch : Chg J w1.drew nu := Chg.fresh hbl
    have cP := HPC.out _ hbl
    clear q hcn hbn
    refine hK.out _ _ hch (fun hHeld => ?_)
    clear hK K
    try simp only [Act.put, sA, sB, sC]
    refine wpAnyH_ready (rs := [8]) (by kernel_rfl) (by simp) ?_
    refine (AllReadyH.cons (o := ⟨some 20, .call ⟨.builtin .append, #[.tmp 12, .tmp 19], #[26, 26]⟩, 26, "visit.go:52", #[⟨0, .data⟩, ⟨7, .data⟩, ⟨6, .chain⟩], none⟩) rfl (fun K hK => ?_) AllReadyH.nil)
    obtain ⟨v5, w5, hr, ⟨a5, m5, c5, rfl⟩, hp5, hj5, hst⟩ := HI1.out.1.app HI1.out.2 hbl w3.heap.size (.slice a3 k.length c3) k n HQ4.out.1 HQ4.out.2 HLEN.out 26 rfl
    refine step_append_run (by rfl) (Operand.tmp 12) (Operand.tmp 19) (by rfl) v (.slice (some ⟨w3.heap.size, 0, none⟩) 1 1) (by rfl) (by rfl) hr ?_
    have cQ := cell_of_row _ Lb 0 _ _ _ hp5
    have fQ := frozen_of_row _ Lb 0 _ _ hp5
    have HST := hid hst
    have hch := hj5
    clear hp5 hj5 hst hr
    refine hK.out _ _ hch (fun hHeld => ?_)
    clear hK K
    try simp only [Act.put, sA, sB, sC]
    refine wpAnyH_ready (rs := [9]) (by kernel_rfl) (by simp) ?_
    refine (AllReadyH.cons (o := ⟨none, .store 26 (.tmp 2) (.tmp 20), 0, "visit.go:52", #[⟨8, .data⟩, ⟨8, .chain⟩, ⟨0, .phase⟩, ⟨1, .phase⟩, ⟨2, .phase⟩, ⟨3, .phase⟩, ⟨4, .phase⟩, ⟨5, .phase⟩, ⟨6, .phase⟩, ⟨7, .phase⟩, ⟨8, .phase⟩], none⟩) rfl (fun K hK => ?_) AllReadyH.nil)
    go_simp
    refine hK.out _ _ HST.out.chg (fun hHeld => ?_)
    clear hK K
    try simp only [Act.put]
    refine wpAnyH_done (by kernel_rfl) ?_ _
    go_wp2_with fail
    go_end0
    rw [HR.out]
    exact ⟨rfl, HST.out.after HAF.out⟩
   ·go_simp
    refine al_step2 hbl (fun nu hbn q hcn => ?_)
    have HQ4 := hid (And.intro q (HK3.out.below hcn))
    have hbl := hbn
    have hch : Chg J w1.drew nu := Chg.fresh hbl
    have cP := HPC.out _ hbl
    clear q hcn hbn
    refine hK.out _ _ hch (fun hHeld => ?_)
    clear hK K
    try simp only [Act.put, sA, sB, sC]
    refine wpAnyH_ready (rs := [0]) (by kernel_rfl) (by simp) ?_
    refine (AllReadyH.cons (o := ⟨some 12, .load 26 (.tmp 2), 26, "visit.go:52", #[], none⟩) rfl (fun K hK => ?_) AllReadyH.nil)
    go_simp
    refine hK.out _ _ hch (fun hHeld => ?_)
    clear hK K
    try simp only [Act.put, sA, sB, sC]
    refine wpAnyH_ready (rs := [8]) (by kernel_rfl) (by simp) ?_
    refine (AllReadyH.cons (o := ⟨some 20, .call ⟨.builtin .append, #[.tmp 12, .tmp 19], #[26, 26]⟩, 26, "visit.go:52", #[⟨0, .data⟩, ⟨7, .data⟩, ⟨6, .chain⟩], none⟩) rfl (fun K hK => ?_) AllReadyH.nil)
    obtain ⟨v5, w5, hr, ⟨a5, m5, c5, rfl⟩, hp5, hj5, hst⟩ := HI1.out.1.app HI1.out.2 hbl w3.heap.size (.slice a3 k.length c3) k n HQ4.out.1 HQ4.out.2 HLEN.out 26 rfl
    refine step_append_run (by rfl) (Operand.tmp 12) (Operand.tmp 19) (by rfl) v (.slice (some ⟨w3.heap.size, 0, none⟩) 1 1) (by rfl) (by rfl) hr ?_
    have cQ := cell_of_row _ Lb 0 _ _ _ hp5
    have fQ := frozen_of_row _ Lb 0 _ _ hp5
    have HST := hid hst
    have hch := hj5
    clear hp5 hj5 hst hr
    refine hK.out _ _ hch (fun hHeld => ?_)
    clear hK K
    try simp only [Act.put, sA, sB, sC]
    refine wpAnyH_ready (rs := [9]) (by kernel_rfl) (by simp) ?_
    refine (AllReadyH.cons (o := ⟨none, .store 26 (.tmp 2) (.tmp 20), 0, "visit.go:52", #[⟨8, .data⟩, ⟨8, .chain⟩, ⟨0, .phase⟩, ⟨1, .phase⟩, ⟨2, .phase⟩, ⟨3, .phase⟩, ⟨4, .phase⟩, ⟨5, .phase⟩, ⟨6, .phase⟩, ⟨7, .phase⟩, ⟨8, .phase⟩], none⟩) rfl (fun K hK => ?_) AllReadyH.nil)
    go_simp
    refine hK.out _ _ HST.out.chg (fun hHeld => ?_)
    clear hK K
    try simp only [Act.put]
    refine wpAnyH_done (by kernel_rfl) ?_ _
    go_wp2_with fail
    go_end0
    rw [HR.out]
    exact ⟨rfl, HST.out.after HAF.out⟩
/-- a list of entries made since w -/
def EnNW (w w' : World) (v : Value) (es : List (List Int × Nat)) : Prop := ∃ K : Nat → Prop, EnRW w' w.heap.size K v es ∧ ∀ q, K q → w.heap.size ≤ q
theorem EnNW.slc {w w' : World} {v : Value} {es : List (List Int × Nat)} (h : EnNW w w' v es) : ∃ a c, v = .slice a es.length c := by
 obtain ⟨K, ⟨_, _, q, _⟩, _⟩ := h
 exact ownsRow_slc q
theorem EnNW.after {w w1 w' : World} {v : Value} {es : List (List Int × Nat)} (h : EnNW w1 w' v es) (hb : Below w.heap.size w w1) : EnNW w w' v es := by
 obtain ⟨K, ⟨xs, e1, e2, e3, e4⟩, hk⟩ := h
 exact ⟨K, ⟨xs, e1, ⟨e2.1, e2.2.imp id (fun ⟨g, cap, cur, a, b, c⟩ => ⟨g, cap, cur, a, Nat.le_trans hb.size b, c⟩)⟩, e3, e4⟩, fun q hq => Nat.le_trans hb.size (hk q hq)⟩
set_option maxRecDepth 100000 in
set_option maxHeartbeats 4000000 in
theorem entriesW_any {S : Nat → Prop} (w : World) (p fv tv : Value) (fr to : List Int) (e : Bool) (t : MT) (hp : MIs w S p t) (hg : t.Good) (hf : Bs w fv fr) (ht : Bs w tv to) (gf : Rng fr) (gt : Rng to) (hbd : (t.ents fr to e).length ≤ 1099511627776) :
  Calls Tryd.prog 33 #[p, .agg #[fv, tv, .bool e]] w fun d w' => ∃ v', d = .returned v' ∧ EnNW w w' v' (t.ents fr to e) ∧ Below w.heap.size w w' := by
 have hmf : ∀ (fn : Fn) (first cap : Array Value) (w : World), (Instr.makeFunc fn first cap).run Tryd.prog w = .ok (.func fn first cap) w := fun _ _ _ _ => rfl
 have hbb : Below w.heap.size w ((w.alloc (.cells #[fv, tv, .bool e] 74)).alloc (.cells #[.slice none 0 0] 26)) := ((Below.refl _ _).alloc (Nat.le_refl _) _).alloc (by simp) _
 have hx0 : ((w.alloc (.cells #[fv, tv, .bool e] 74)).alloc (.cells #[.slice none 0 0] 26)).heap[w.heap.size]? = some (.cells #[fv, tv, .bool e] 74 (0, 0)) := (heap_alloc_old _ _ (by simp)).trans (heap_alloc_new _ _)
 have hx1 : ((w.alloc (.cells #[fv, tv, .bool e] 74)).alloc (.cells #[.slice none 0 0] 26)).heap[w.heap.size + 1]? = some (.cells #[.slice none 0 0] 26 (0, 0)) := by
  have q := heap_alloc_new (w.alloc (.cells #[fv, tv, .bool e] 74)) (.cells #[.slice none 0 0] 26)
  rwa [World.size_alloc] at q
 have hI : NIW w.heap.size (w.heap.size + 1) w.heap.size (fun b => b < w.heap.size) fv tv fr to e ((w.alloc (.cells #[fv, tv, .bool e] 74)).alloc (.cells #[.slice none 0 0] 26)) [] (fun q => q = w.heap.size + 1) := ⟨⟨.slice none 0 0, hx1, EnRW.nil _ _ _, (fun g h => by cases h), fun q => ⟨.inl, fun h => h.elim id (fun h => by cases h)⟩⟩, hx0, (hf.kis).below hbb, (ht.kis).below hbb, by omega, ⟨by omega, by omega⟩, fun _ h => h⟩
 have HV := hid (each_any (me := enM fr to e) (Bd := fun s => s.length ≤ 1099511627776) (fm := 63) (cm := #[.pointer (some ⟨w.heap.size, 0, none⟩), .pointer (some ⟨w.heap.size + 1, 0, none⟩)])
  (fun s k n h => by
   unfold enM at h
   split at h
   ·rw [List.length_append] at h; omega
   ·exact h) goN1 (fun _ _ _ h => h.low) (fun _ _ _ _ h hb => h.keep hb)
  (fun u s J p k n rk d l r hI hp hg hbd => by
   rw [show (#[p] ++ #[Value.pointer (some ⟨w.heap.size, 0, none⟩), Value.pointer (some ⟨w.heap.size + 1, 0, none⟩)] : Array Value) = #[p, Value.pointer (some ⟨w.heap.size, 0, none⟩), Value.pointer (some ⟨w.heap.size + 1, 0, none⟩)] by simp]
   exact enMeetW_any gf gt u s J p k n rk d l r hI hp hg.2.2.2.2.1 hg.2.2.2.1 (by
    unfold enM at hbd
    split at hbd
    ·rw [List.length_append] at hbd; omega
    ·exact hbd)) t ((w.alloc (.cells #[fv, tv, .bool e] 74)).alloc (.cells #[.slice none 0 0] 26)) [] _ p hI (hp.bound.below hbb) hg hbd)
 have HBB := hid hbb
 obtain ⟨ap, rfl⟩ := hp.form
 rw [show eachM (enM fr to e) t [] = t.ents fr to e from rfl] at HV
 generalize t.ents fr to e = R at *
 clear hbb hx0 hx1 hI hp hg hf ht gf gt hbd
 go_enter Tryd.func33, Tryd.ntmps33
 go_wp2_with fail
 generalize ((w.alloc (.cells #[fv, tv, .bool e] 74)).alloc (.cells #[.slice none 0 0] 26)) = w2 at *
 refine HV.out.mono ?_
 rintro d w3 ⟨rfl, hst⟩
 obtain ⟨J', h1, h2, h3⟩ := hst
 obtain ⟨v, k1, k2, k3, k4⟩ := h1.box
 have c0 := cell_of_row _ (w.heap.size + 1) 0 _ _ _ k1
 have HF := hid (And.intro (show EnNW w w3 v R from ⟨_, k2, fun q hq => hq.1⟩) (HBB.out.trans (h2.below (B := w.heap.size) (fun q hq => by have : q = w.heap.size + 1 := hq; omega) HBB.out.size)))
 clear h1 h2 h3 k1 k2 k3 k4
 go_wp2_with fail
 go_ret
 exact ⟨_, rfl, HF.out.1, HF.out.2⟩
end Go.Proofs.YtbmlkocpjboodaaDoor
/- stage 7: the law's list of any entries -/
namespace Go.Proofs.YtbmlkocpjboodaaDoor
open Go.RowKit
open Go.Lib (hid)
/-- the cells of a list of entries -/
def enZ (xs : List (Value × Int)) : List Value := xs.flatMap fun x => [x.1, Value.int .i64 (x.2 : Int)]
theorem enZ_snoc (xs : List (Value × Int)) (x : Value × Int) : enZ (xs ++ [x]) = enZ xs ++ [x.1, Value.int .i64 (x.2 : Int)] := by simp [enZ]
/-- an own row of entries, whose keys lie in blocks K -/
def EnRZ (w : World) (B : Nat) (K : Nat → Prop) (v : Value) (es : List (List Int × Int)) : Prop :=
 ∃ xs : List (Value × Int), xs.length = es.length ∧ w.ownsRow B 33 2 v es.length (enZ xs) ∧ (∀ g, v.ownBlock = some g → ¬ K g) ∧ ∀ (i : Nat) (x : Value × Int) (y : List Int × Int), xs[i]? = some x → es[i]? = some y → x.2 = y.2 ∧ KWs w K x.1 y.1
theorem EnRZ.nil (w : World) (B : Nat) (K : Nat → Prop) : EnRZ w B K (.slice none 0 0) [] := ⟨[], rfl, World.ownsRow_nil _ _ _ _, (fun g h => by cases h), (fun i x y h => by simp at h)⟩
theorem EnRZ.keep {w w' : World} {B : Nat} {K : Nat → Prop} {v : Value} {es : List (List Int × Int)} (h : EnRZ w B K v es) (hb : Below w.heap.size w w') : EnRZ w' B K v es := by
 obtain ⟨xs, h1, h2, h3, h4⟩ := h
 have hg : w.grownBy w' none := ⟨hb.os, hb.tape, hb.output, hb.size, fun k hk _ => hb.block k hk⟩
 refine ⟨xs, h1, World.ownsRow.kept h2 hg ?_, h3, fun i x y hx hy => ⟨(h4 i x y hx hy).1, (h4 i x y hx hy).2.below hb⟩⟩
 cases hv : v.ownBlock with
 | none => exact .inl rfl
 | some g => exact .inr (by simp)
/-- an entry is appended -/
theorem EnRZ.app {w : World} {B : Nat} {K K' : Nat → Prop} {v : Value} {es : List (List Int × Int)} (h : EnRZ w B K v es) (hb : B ≤ w.heap.size) (b : Nat) (kv : Value) (k : List Int) (n : Int) (hx : w.heap[b]? = some (.cells #[kv, .int .i64 (n : Int)] 33 (0, 0))) (hk : KWs w K kv k) (hn : es.length ≤ 1099511627776) (ty : TypeId) (h1 : kv.oneCell' = true)
    (hK : ∀ q, K q → q < w.heap.size → K' q) (hK0 : ∀ g, v.ownBlock = some g → ¬ K' g) (hK1 : ¬ K' w.heap.size) :
    ∃ v' w', (Builtin.append_ #[26, 26] ty #[v, .slice (some ⟨b, 0, none⟩) 1 1]).run Tryd.prog w = .ok v' w' ∧ EnRZ w' B K' v' (es ++ [(k, n)]) ∧ Chg (fun g => v.ownBlock = some g) w w' ∧ OwnTo w v v' := by
  obtain ⟨i, hi, hz, hs, hby⟩ := info33
  obtain ⟨xs, e1, e2, e3, e4⟩ := h
  obtain ⟨v', w', r1, r2, r3, -, r5⟩ := run_append_own_at (P := Tryd.prog) w B 26 ty 33 i _ 2 i.bytes Tryd.underlying26 hi hz hs rfl rfl (by decide) v es.length (enZ xs) e2 ⟨b, 0, none⟩ 1 1 [kv, .int .i64 (n : Int)] rfl (by
    intro j u hj
    rw [Addr.add_mid, cell_of_row _ b _ _ _ _ hx]
    rw [Nat.zero_add]
    simpa using hj) (by intro u hu; simp only [List.mem_cons, List.not_mem_nil, or_false] at hu; rcases hu with rfl | rfl; exact h1; rfl) (by unfold maxLen; omega) (by
    have : (es.length + 1) * i.bytes ≤ (es.length + 1) * 64 := Nat.mul_le_mul_left _ hby
    omega) hb
  have hc : Chg (fun g => v.ownBlock = some g) w w' := Chg.grown r3 (fun k hk => hk)
  have ho : OwnTo w v v' := fun g hg => by
    rcases r5 with h5 | h5
    · exact .inl (by rw [← h5]; exact hg)
    · rw [h5] at hg; injection hg with hg; exact .inr (by omega)
  have hkeep : ∀ {u : Value} {l : List Int}, KWs w K u l → KWs w' K' u l := fun hk => ((hk.bound).cg hc (fun q _ hq hj => e3 q hj hq.1)).mono (fun q hq => hK q hq.1 hq.2)
  refine ⟨v', w', r1, ⟨xs ++ [(kv, n)], by simp [e1], by rw [List.length_append, enZ_snoc]; exact r2, fun g hg => ?_, fun j x y hx hy => ?_⟩, hc, ho⟩
  · rcases r5 with h5 | h5
    · exact hK0 g (by rw [← h5]; exact hg)
    · rw [h5] at hg
      injection hg with hg
      subst hg
      exact hK1
  · by_cases hj : j < es.length
    · rw [List.getElem?_append_left (by omega)] at hx
      rw [List.getElem?_append_left hj] at hy
      exact ⟨(e4 j x y hx hy).1, hkeep (e4 j x y hx hy).2⟩
    · have hj2 : j = es.length := by
        have := (List.getElem?_eq_some_iff.1 hy).1
        simp at this
        omega
      subst hj2
      rw [List.getElem?_append_right (by omega), e1, Nat.sub_self] at hx
      rw [List.getElem?_append_right (by omega), Nat.sub_self] at hy
      injection hx with hx
      injection hy with hy
      subst hx hy
      exact ⟨rfl, hkeep hk⟩
theorem EnRZ.mono {w : World} {B : Nat} {K K' : Nat → Prop} {v : Value} {es : List (List Int × Int)} (h : EnRZ w B K v es) (hs : ∀ q, K q → K' q) (h3 : ∀ g, v.ownBlock = some g → ¬ K' g) : EnRZ w B K' v es := by
 obtain ⟨xs, e1, e2, e3, e4⟩ := h
 exact ⟨xs, e1, e2, h3, fun i x y hx hy => ⟨(e4 i x y hx hy).1, (e4 i x y hx hy).2.mono hs⟩⟩
theorem EnRZ.lt {w : World} {B : Nat} {K : Nat → Prop} {v : Value} {es : List (List Int × Int)} (h : EnRZ w B K v es) : ∀ g, v.ownBlock = some g → B ≤ g ∧ g < w.heap.size ∧ ¬ K g := by
 obtain ⟨xs, e1, e2, e3, e4⟩ := h
 exact fun g hg => ⟨(World.ownsRow.lt e2 g hg).1, (World.ownsRow.lt e2 g hg).2, e3 g hg⟩
theorem EnRZ.slc {w : World} {B : Nat} {K : Nat → Prop} {v : Value} {es : List (List Int × Int)} (h : EnRZ w B K v es) : ∃ a c, v = .slice a es.length c := by
 obtain ⟨xs, e1, e2, e3, e4⟩ := h
 exact ownsRow_slc e2
/-- a new key beside the list -/
theorem EnRZ.key {w w1 : World} {B : Nat} {K : Nat → Prop} {v kv : Value} {k : List Int} {es : List (List Int × Int)} (h : EnRZ w B K v es) (hb : Below w.heap.size w w1) (hk : KWs w1 (fun q => w.heap.size ≤ q) kv k) (hB : B ≤ w.heap.size) (hK : ∀ q, K q → B ≤ q ∧ q < w.heap.size) : ∃ K2 : Nat → Prop, EnRZ w1 B K2 v es ∧ KWs w1 K2 kv k ∧ ∀ q, K2 q → B ≤ q ∧ q < w1.heap.size := by
 have hs := hb.size
 refine ⟨fun q => K q ∨ (w.heap.size ≤ q ∧ q < w1.heap.size), (h.keep hb).mono (fun q h => .inl h) (fun g hg hc => ?_), hk.bound.mono (fun q h => .inr h), fun q hq => ?_⟩
 ·have := h.lt g hg
  rcases hc with hc | hc
  ·exact this.2.2 hc
  ·omega
 ·rcases hq with hq | hq
  ·have := hK q hq; omega
  ·omega
end Go.Proofs.YtbmlkocpjboodaaDoor
/- stage 7, plain: the reference's proof; which lists may be -/
namespace Go.Proofs.YtbmlkocpjboodaaDoor
open Go.RowKit
open Go.Lib (hid)
theorem miss_out (fr to : List Int) (e : Bool) (lo hi : Option (List Int)) : missQ (lo.getD []) (hi.getD []) lo.isSome hi.isSome fr to e = outQ fr to e lo hi := by
 unfold missQ outQ endsQ
 cases lo with
 | none => cases hi <;> simp
 | some k =>
  have hk : decide (0 ≤ cmpI k to) = decide (cmpI to k ≤ 0) := by rw [cmp_flip k to]; exact decide_eq_decide.2 ⟨fun h => by omega, fun h => by omega⟩
  cases hi <;> simp [hk]
end Go.Proofs.YtbmlkocpjboodaaDoor
/- stage 7: Prove of the reference -/
namespace Go.Proofs.YtbmlkocpjboodaaDoor
open Go.RowKit
open Go.Lib (hid)
theorem Own.to {w w' : World} {B : Nat} {v v' : Value} {l m : List Int} {b : Nat} {w0 : World} (h : Own w B v l) (h' : Own w' B v' m) (hc : Chg (fun g => v.ownBlock = some g) w w') (hb : Below b w0 w) (hB : b ≤ B) (hs : b ≤ w0.heap.size) : Below b w0 w' :=
 hb.trans (hc.below (B := b) (fun q e => Nat.le_trans hB (World.ownsRow.lt h q e).1) (Nat.le_trans hs hb.size))
end Go.Proofs.YtbmlkocpjboodaaDoor
/- stage 7: valid of any list; slices whose bytes may be spoilt -/
namespace Go.Proofs.YtbmlkocpjboodaaDoor
open Go.RowKit
open Go.Lib (hid)
/-- a list of entries is read, whatever its counts -/
def EnSZ (w : World) (v : Value) (es : List (List Int × Int)) : Prop :=
 ∃ a c, v = .slice a es.length c ∧ ∀ (i : Nat) (x : List Int × Int), es[i]? = some x → ∃ g kv, a = some ⟨g, 0, none⟩ ∧ g < w.heap.size ∧ w.cell? ⟨g, i * 2, none⟩ = some kv ∧ w.cell? ⟨g, i * 2 + 1, none⟩ = some (.int .i64 x.2) ∧ Bs w kv x.1
theorem EnSZ.ens {w : World} {v : Value} {es : List (List Int × Nat)} (h : EnSZ w v (es.map toI)) : EnS w v es := by
 obtain ⟨a, c, e, h⟩ := h
 refine ⟨a, c, by rw [e, List.length_map], fun i x hx => ?_⟩
 exact h i (toI x) (by rw [List.getElem?_map, hx]; rfl)
theorem enZ_get : ∀ (l : List (Value × Int)) (i : Nat) (x : Value × Int) (j : Nat), l[i]? = some x → j < 2 → (enZ l)[i * 2 + j]? = ([x.1, Value.int .i64 x.2] : List Value)[j]?
 | [], i, x, j, h, _ => by simp at h
 | y :: l, 0, x, j, h, hj => by
  injection h with h
  subst h
  show ([y.1, Value.int .i64 y.2] ++ enZ l)[0 * 2 + j]? = _
  rw [List.getElem?_append_left (by simp; omega), Nat.zero_mul, Nat.zero_add]
 | y :: l, i + 1, x, j, h, hj => by
  have ih := enZ_get l i x j (by simpa using h) hj
  show ([y.1, Value.int .i64 y.2] ++ enZ l)[(i + 1) * 2 + j]? = _
  rw [List.getElem?_append_right (by simp; omega)]
  rw [← ih]
  congr 1
  simp only [List.length_cons, List.length_nil]
  omega
/-- an own row of entries: its cells -/
theorem EnRZ.at {w : World} {B : Nat} {K : Nat → Prop} {v : Value} {es : List (List Int × Int)} (h : EnRZ w B K v es) : ∃ a c, v = .slice a es.length c ∧ ∀ (i : Nat) (x : List Int × Int), es[i]? = some x → ∃ g kv, a = some ⟨g, 0, none⟩ ∧ g < w.heap.size ∧ ¬ K g ∧ w.cell? ⟨g, i * 2, none⟩ = some kv ∧ w.cell? ⟨g, i * 2 + 1, none⟩ = some (.int .i64 x.2) ∧ KWs w K kv x.1 := by
 obtain ⟨xs, h1, h2, h3, h4⟩ := h
 obtain ⟨e1, ⟨rfl, hn⟩ | ⟨g, cap, cur, rfl, q1, q2, q3, q4, q5, q6⟩⟩ := h2
 ·exact ⟨none, 0, by rw [hn], fun i x hx => by have := (List.getElem?_eq_some_iff.1 hx).1; omega⟩
 ·refine ⟨some ⟨g, 0, none⟩, cap, rfl, fun i x hx => ?_⟩
  have hi := (List.getElem?_eq_some_iff.1 hx).1
  have hy : xs[i]? = some (xs[i]'(by omega)) := List.getElem?_eq_getElem (by omega)
  generalize xs[i]'(by omega) = y at hy
  obtain ⟨k1, k2⟩ := h4 i y x hy hx
  have hc : ∀ j, j < 2 → w.cell? ⟨g, i * 2 + j, none⟩ = ([y.1, Value.int .i64 y.2] : List Value)[j]? := fun j hj => by
   rw [cell_of_row _ _ _ _ _ _ q2, ← Array.getElem?_toList, ← enZ_get xs i y j hy hj, ← q6, List.getElem?_take, if_pos (by omega)]
  refine ⟨g, y.1, rfl, blk_lt q2, h3 g rfl, hc 0 (by omega), ?_, k2⟩
  rw [← k1]
  exact hc 1 (by omega)
theorem EnRZ.ens {w : World} {B : Nat} {K : Nat → Prop} {v : Value} {es : List (List Int × Int)} (h : EnRZ w B K v es) : EnSZ w v es := by
 obtain ⟨a, c, e, h⟩ := h.at
 refine ⟨a, c, e, fun i x hx => ?_⟩
 obtain ⟨g, kv, h1, h2, -, h3, h4, h5⟩ := h i x hx
 exact ⟨g, kv, h1, h2, h3, h4, h5.1.1⟩
theorem enZ_map : ∀ xs : List (Value × Nat), enZ (xs.map (fun x => (x.1, (x.2 : Int)))) = enL xs
 | [] => rfl
 | x :: xs => by
  show [x.1, Value.int .i64 (x.2 : Int)] ++ enZ (xs.map _) = [x.1, Value.int .i64 (x.2 : Int)] ++ enL xs
  rw [enZ_map xs]
theorem EnRW.z {w : World} {B : Nat} {K : Nat → Prop} {v : Value} {es : List (List Int × Nat)} (h : EnRW w B K v es) : EnRZ w B K v (es.map toI) := by
 obtain ⟨xs, h1, h2, h3, h4⟩ := h
 refine ⟨xs.map (fun x => (x.1, (x.2 : Int))), by rw [List.length_map, List.length_map, h1], by rw [List.length_map, enZ_map]; exact h2, h3, fun i x y hx hy => ?_⟩
 rw [List.getElem?_map, Option.map_eq_some_iff] at hx hy
 obtain ⟨x0, hx0, rfl⟩ := hx
 obtain ⟨y0, hy0, rfl⟩ := hy
 obtain ⟨q1, q2⟩ := h4 i x0 y0 hx0 hy0
 exact ⟨by show (x0.2 : Int) = (y0.2 : Int); rw [q1], q2⟩
/-- a row of entries whose keys' bytes, all in blocks of F, may be written -/
def SpR (w : World) (F : Nat → Prop) (v : Value) (ns : List Nat) : Prop :=
 ∃ a c, v = .slice a ns.length c ∧ ∀ (i n : Nat), ns[i]? = some n → ∃ g a' c', a = some ⟨g, 0, none⟩ ∧ ¬ F g ∧ g < w.heap.size ∧ w.cell? ⟨g, i * 2, none⟩ = some (.slice a' n c') ∧ (n = 0 ∨ ∃ b, a' = some ⟨b, 0, none⟩ ∧ F b ∧ Soft w b n)
theorem EnRZ.spr {w : World} {B : Nat} {K : Nat → Prop} {v : Value} {es : List (List Int × Int)} (h : EnRZ w B K v es) : SpR w (fun q => K q ∧ q < w.heap.size) v (es.map (fun x => x.1.length)) := by
 obtain ⟨a, c, e, h⟩ := h.at
 refine ⟨a, c, by rw [List.length_map]; exact e, fun i n hn => ?_⟩
 rw [List.getElem?_map, Option.map_eq_some_iff] at hn
 obtain ⟨x, hx, rfl⟩ := hn
 obtain ⟨g, kv, h1, h2, h3, h4, -, h5⟩ := h i x hx
 rcases h5.2 with h0 | ⟨b, c', e', hs, hf⟩
 ·obtain ⟨a', c', rfl⟩ := h5.form
  exact ⟨g, a', c', h1, fun q => h3 q.1, h2, h4, .inl h0⟩
 ·subst e'
  exact ⟨g, _, c', h1, fun q => h3 q.1, h2, h4, .inr ⟨b, rfl, ⟨hs, hf.lt⟩, hf⟩⟩
theorem Soft.set' {w : World} {b b' n : Nat} (h : Soft w b' n) (j : Nat) (v : Int) : Soft (w.setCell ⟨b, j, none⟩ (.int .u8 v)) b' n := by
 by_cases e : b' = b
 ·subst e
  exact h.set j v
 ·exact h.of (heap_setCell_other w ⟨b, j, none⟩ b' _ e)
theorem SpR.set {w : World} {F : Nat → Prop} {v : Value} {ns : List Nat} (h : SpR w F v ns) {b : Nat} (hb : F b) (j : Nat) (u : Int) : SpR (w.setCell ⟨b, j, none⟩ (.int .u8 u)) F v ns := by
 obtain ⟨a, c, e, h⟩ := h
 refine ⟨a, c, e, fun i n hn => ?_⟩
 obtain ⟨g, a', c', h1, h2, h3, h4, h5⟩ := h i n hn
 have hgb : g ≠ b := fun e => h2 (e ▸ hb)
 refine ⟨g, a', c', h1, h2, by rw [World.size_setCell]; exact h3, (World.cell?_of_block (a := ⟨g, i * 2, none⟩) (heap_setCell_other w ⟨b, j, none⟩ g _ hgb)).trans h4, h5.imp id ?_⟩
 rintro ⟨b', e1, e2, e3⟩
 exact ⟨b', e1, e2, e3.set' j u⟩
theorem SpR.drew {w : World} {F : Nat → Prop} {v : Value} {ns : List Nat} (h : SpR w F v ns) : SpR w.drew F v ns := h
/-- a spoiling loop under way -/
def SpI (w0 : World) (F : Nat → Prop) (v : Value) (ns : List Nat) (u : World) : Prop := SpR u F v ns ∧ Chg F w0 u
theorem SpI.set {w0 w : World} {F : Nat → Prop} {v : Value} {ns : List Nat} (h : SpI w0 F v ns w) {b : Nat} (hb : F b) (j : Nat) (u : Int) : SpI w0 F v ns (w.setCell ⟨b, j, none⟩ (.int .u8 u)) := ⟨h.1.set hb j u, h.2.setCell ⟨b, j, none⟩ _ (.inl hb)⟩
end Go.Proofs.YtbmlkocpjboodaaDoor
/- stage 7: MerkleBuilds, the walk -/
namespace Go.Proofs.YtbmlkocpjboodaaDoor
open Go.RowKit
open Go.Lib (hid)
theorem SpR.form {w : World} {F : Nat → Prop} {v : Value} {ns : List Nat} (h : SpR w F v ns) : ∃ a c, v = .slice a ns.length c := by
 obtain ⟨a, c, e, -⟩ := h
 exact ⟨a, c, e⟩
theorem SpR.below {w w' : World} {F : Nat → Prop} {v : Value} {ns : List Nat} (h : SpR w F v ns) (hb : Below w.heap.size w w') : SpR w' F v ns := by
 obtain ⟨a, c, e, h⟩ := h
 refine ⟨a, c, e, fun i n hn => ?_⟩
 obtain ⟨g, a', c', h1, h2, h3, h4, h5⟩ := h i n hn
 refine ⟨g, a', c', h1, h2, Nat.lt_of_lt_of_le h3 hb.size, (World.cell?_of_block (a := ⟨g, i * 2, none⟩) (hb.block g h3)).trans h4, h5.imp id ?_⟩
 rintro ⟨b, e1, e2, e3⟩
 exact ⟨b, e1, e2, e3.of (hb.block b e3.lt)⟩
/-- the law's state: a tree, and the range's box -/
structure BSt (w : World) (X n : Nat) (S : Nat → Prop) (p : Value) (t : MT) (bx : Array Value) (u : World) : Prop where
 tis : TIs u X p
 mis : MIs u S p t
 kc : KC u
 bel : Below w.heap.size w u
 box : u.heap[w.heap.size]? = some (.cells bx 24 (0, 0))
 sz : n ≤ u.heap.size
theorem BSt.chg {w : World} {X n : Nat} {S F : Nat → Prop} {p : Value} {t : MT} {bx : Array Value} {u u' : World} (h : BSt w X n S p t bx u) (hc : Chg F u u') (hF : ∀ q, F q → w.heap.size < q ∧ q ≠ X ∧ ¬ S q) (hK : 1 < w.heap.size) : BSt w X n S p t bx u' :=
 ⟨(hc.block X (blk_lt h.tis) (fun q => (hF X q).2.1 rfl)).trans h.tis, h.mis.chg hc.size (fun b hb hs => hc.block b hb (fun q => (hF b q).2.2 hs)), h.kc.below (hc.below (B := w.heap.size) (fun q e => Nat.le_of_lt (hF q e).1) h.bel.size) hK, h.bel.trans (hc.below (fun q e => Nat.le_of_lt (hF q e).1) h.bel.size), (hc.block _ (blk_lt h.box) (fun q => Nat.lt_irrefl _ (hF _ q).1)).trans h.box, Nat.le_trans h.sz hc.size⟩
theorem BSt.below {w : World} {X n : Nat} {S : Nat → Prop} {p : Value} {t : MT} {bx : Array Value} {u u' : World} (h : BSt w X n S p t bx u) (hb : Below u.heap.size u u') (hK : 1 < w.heap.size) : BSt w X n S p t bx u' :=
 h.chg (F := fun _ => False) (Chg.fresh hb) (fun _ q => q.elim) hK
end Go.Proofs.YtbmlkocpjboodaaDoor
