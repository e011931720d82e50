/- stage 7: Text of the reference -/
import Derived.Test.YtbmlkocpjboodaaDoorMv20
namespace Go.Proofs.YtbmlkocpjboodaaDoor
open Go.RowKit
open Go.Lib (hid)
theorem conv_kis (w : World) (s : List Int) (hr : Rng s) : ∃ W1 a c, (convert 9 31 (.string (str s))).run Tryd.prog w = .ok (.slice a s.length c) W1 ∧ Below w.heap.size w W1 ∧ KIs W1 (fun b => w.heap.size ≤ b) (.slice a s.length c) s := by
 have h := Lib.run_convert_string_bytes (P := Tryd.prog) w 9 31 5 (str s) (u := .string) Tryd.underlying9 Tryd.underlying31 Tryd.underlying5
 rw [str_len] at h
 refine ⟨_, _, _, h, ⟨rfl, rfl, rfl, by rw [Lib.bytesWorld_size]; omega, fun k hk => Lib.bytesWorld_at_old _ _ _ _ hk⟩, ⟨⟨_, _, rfl, ⟨grownCap_ge _ _ _ _, fun e => by cases e⟩, fun _ => ⟨w.heap.size, 0, rfl, by rw [Lib.bytesWorld_size]; omega, fun i hi => ?_⟩⟩, fun b o n c e h0 => ?_⟩⟩
 ·rw [Nat.zero_add, Lib.bytesWorld_cell _ _ _ _ (by rw [str_len]; exact hi), str_get s i hr hi]
 ·injection e with e1 e2 e3
  injection e1 with e1
  injection e1 with e1
  omega
set_option maxRecDepth 100000 in
set_option maxHeartbeats 8000000 in
theorem refText_any (w : World) (dl dr k : List Int) (n : Nat) (hdl : dl.length = 32) (hdr : dr.length = 32) (hk : Rng k) (hkl : k.length ≤ 65535) (hn : n < 9223372036854775808) :
  Calls Tryd.prog 37 #[.agg (ArrU8 dl), .string (str k), .int .i64 (n : Int), .agg (ArrU8 dr)] w fun e w' => ∃ v', e = .returned v' ∧ Bs w' v' (txtN k n dl dr) ∧ Below w.heap.size w w' := by
 have kc := fun (w : World) (C : Array Value) (n c : Nat) => Lib.run_convert_bytes_const (P := Tryd.prog) w 31 5 C n c Tryd.underlying31 Tryd.underlying5
 have HDL := hid hdl
 have HDR := hid hdr
 have HK := hid (And.intro hk hkl)
 have HN := hid hn
 have WN := hid (IntWalk.u64_in (n : Int) (by omega))
 have HS3 := hid (sz32 dl hdl)
 have HS4 := hid (sz32 dr hdr)
 have HI3 := hid (info_re32 dl hdl)
 have HI4 := hid (info_re32 dr hdr)
 clear hdl hdr hk hkl
 go_enter Tryd.func37, Tryd.ntmps37
 go_wp2_with fail
 generalize hG3 : w.heap.size = g3 at *
 have x3 : ((w.alloc (.cells (ArrU8 dl) 35)).alloc (.cells (ArrU8 dr) 35)).heap[g3]? = some (.cells (ArrU8 dl) 35 (0, 0)) := by
  rw [← hG3]
  exact (((Below.refl _ _).alloc (Nat.le_refl _) _ : Below (w.alloc (.cells (ArrU8 dl) 35)).heap.size (w.alloc (.cells (ArrU8 dl) 35)) _).block w.heap.size (by simp)).trans (heap_alloc_new _ _)
 have x4 : ((w.alloc (.cells (ArrU8 dl) 35)).alloc (.cells (ArrU8 dr) 35)).heap[g3 + 1]? = some (.cells (ArrU8 dr) 35 (0, 0)) := by
  rw [← hG3, show w.heap.size + 1 = (w.alloc (.cells (ArrU8 dl) 35)).heap.size by simp]
  exact heap_alloc_new _ _
 have hbw : Below g3 w ((w.alloc (.cells (ArrU8 dl) 35)).alloc (.cells (ArrU8 dr) 35)) := by
  rw [← hG3]
  exact ((Below.refl _ _).alloc (Nat.le_refl _) _).alloc (by simp) _
 have hlo : g3 < ((w.alloc (.cells (ArrU8 dl) 35)).alloc (.cells (ArrU8 dr) 35)).heap.size := by rw [← hG3]; simp; omega
 generalize (w.alloc (.cells (ArrU8 dl) 35)).alloc (.cells (ArrU8 dr) 35) = u0 at *
 have HB0 := hid (And.intro hbw hlo)
 have H3 := hid x3
 have H4 := hid x4
 have y3 := blk_lt x3
 have y4 := blk_lt x4
 have SA3 := fun u => slice32_re u g3
 have SA4 := fun u => slice32_re u (g3 + 1)
 clear x3 x4 hbw hlo
 have hb : Below u0.heap.size u0 u0.drew := (Below.refl _ _).drew
 refine wp_region_held_drew (S := fun u => Below u0.heap.size u0 u) (by kernel_rfl) (hb) (fun hHeld => ?_)
 refine tk (i := 2) (oi := ⟨some 11, .slice 35 (.tmp 4) none none none, 31, "ref.go:32", #[], none⟩) (v := ?_) (Or.inl ⟨by rfl, ?_⟩) ?_
 rotate_left 1
 ·intro u hSw
  (go_simp; rfl)
 try simp only [Act.put, sA, sB, sC]
 refine tk (i := 3) (oi := ⟨some 12, .move (.tmp 1), 9, "ref.go:32", #[], none⟩) (v := ?_) (Or.inl ⟨by rfl, ?_⟩) ?_
 rotate_left 1
 ·(intro u hSw; go_simp; try with_reducible rfl)
 try simp only [Act.put, sA, sB, sC]
 refine tk (i := 5) (oi := ⟨some 14, .move (.tmp 2), 2, "ref.go:32", #[], none⟩) (v := ?_) (Or.inl ⟨by rfl, ?_⟩) ?_
 rotate_left 1
 ·(intro u hSw; go_simp; try with_reducible rfl)
 try simp only [Act.put, sA, sB, sC]
 refine tk (i := 6) (oi := ⟨some 15, .convert 2 81 (.tmp 14), 81, "ref.go:32", #[⟨5, .data⟩], none⟩) (v := .int .u64 (n : Int)) (Or.inl ⟨by rfl, ?_⟩) ?_
 ·intro u hSw
  go_simp; exact WN.out
 try simp only [Act.put, sA, sB, sC]
 refine tk (i := 8) (oi := ⟨some 17, .slice 35 (.tmp 7) none none none, 31, "ref.go:32", #[], none⟩) (v := ?_) (Or.inl ⟨by rfl, ?_⟩) ?_
 rotate_left 1
 ·intro u hSw
  (go_simp; rfl)
 try simp only [Act.put, sA, sB, sC]
 refine wpAnyH_ready (rs := [0, 4, 7]) (by kernel_rfl) (by simp) ?_
 refine (AllReadyH.cons (o := ⟨some 9, .buildSlice 31 4 #[(0, .const (Value.int IntKind.u8 110)), (1, .const (Value.int IntKind.u8 111)), (2, .const (Value.int IntKind.u8 100)), (3, .const (Value.int IntKind.u8 101))], 31, "ref.go:32", #[], none⟩) rfl (fun K hK => ?_) (AllReadyH.cons (o := ⟨some 13, .convert 9 31 (.tmp 12), 31, "ref.go:32", #[⟨3, .data⟩], none⟩) rfl (fun K hK => ?_) (AllReadyH.cons (o := ⟨some 16, .call ⟨.value (.func 39), #[.tmp 15], #[81]⟩, 31, "ref.go:32", #[⟨6, .data⟩], none⟩) rfl (fun K hK => ?_) AllReadyH.nil)))
 ·try (generalize World.drew u0 = ud at *)
  go_simp
  refine al_step2 hb (fun nu hbn q9 hb4 => ?_)
  try (rw [show (World.drew u0).heap.size = u0.heap.size from rfl] at q9)
  have lo9 := hb.size
  try (have k13 := k13.below hb4)
  try (have k16 := k16.below hb4)
  have h9 := q9
  have hb := hbn
  clear hb4 hbn
  refine hK.out _ _ hb (fun hHeld => ?_)
  clear hK K
  try simp only [Act.put, sA, sB, sC]
  refine wpAnyH_ready (rs := [1, 4, 7]) (by kernel_rfl) (by simp) ?_
  refine (AllReadyH.cons (o := ⟨some 10, .convert 31 31 (.tmp 9), 31, "ref.go:32", #[⟨0, .data⟩], none⟩) rfl (fun K hK => ?_) (AllReadyH.cons (o := ⟨some 13, .convert 9 31 (.tmp 12), 31, "ref.go:32", #[⟨3, .data⟩], none⟩) rfl (fun K hK => ?_) (AllReadyH.cons (o := ⟨some 16, .call ⟨.value (.func 39), #[.tmp 15], #[81]⟩, 31, "ref.go:32", #[⟨6, .data⟩], none⟩) rfl (fun K hK => ?_) AllReadyH.nil)))
  ·try (generalize World.drew u0 = ud at *)
   obtain ⟨nu, hrn, q9, hcn⟩ := run_mark _ _ 4 4 _ h9
   have hb := hb.trans (hcn.below (B := u0.heap.size) (fun q e => by omega) hb.size)
   try (have k13 := k13.cg hcn (fun q _ hs e => by have hs2 : _ ∧ _ := hs; omega))
   try (have k16 := k16.cg hcn (fun q _ hs e => by have hs2 : _ ∧ _ := hs; omega))
   have h9 := q9
   clear hcn
   go_simp
   try rw [hrn]
   try simp only [Result.andThen]
   try rw [Oper.upon_value]
   clear hrn
   refine hK.out _ _ hb (fun hHeld => ?_)
   clear hK K
   try simp only [Act.put, sA, sB, sC]
   refine wpAnyH_ready (rs := [4, 7]) (by kernel_rfl) (by simp) ?_
   refine (AllReadyH.cons (o := ⟨some 13, .convert 9 31 (.tmp 12), 31, "ref.go:32", #[⟨3, .data⟩], none⟩) rfl (fun K hK => ?_) (AllReadyH.cons (o := ⟨some 16, .call ⟨.value (.func 39), #[.tmp 15], #[81]⟩, 31, "ref.go:32", #[⟨6, .data⟩], none⟩) rfl (fun K hK => ?_) AllReadyH.nil))
   ·try (generalize World.drew u0 = ud at *)
    obtain ⟨nu, a13, c13, q13, hb4, k13⟩ := conv_kis _ k HK.out.1
    refine step_of_runP (by rfl) (exec_convP 9 31 (Operand.tmp 12) (by rfl) _ (by rfl) _ q13) ?_
    have k13 := k13.bound
    try (have l9 := blk_lt h9)
    try (have k16 := k16.below hb4)
    try (have h9 := (hb4.block _ (blk_lt h9)).trans h9)
    have l13 := hb.size
    have z13 := hb4.size
    have hb := hb.trans (hb4.mono hb.size)
    clear hb4 q13
    refine hK.out _ _ hb (fun hHeld => ?_)
    clear hK K
    try simp only [Act.put, sA, sB, sC]
    refine wpAnyH_ready (rs := [7]) (by kernel_rfl) (by simp) ?_
    refine (AllReadyH.cons (o := ⟨some 16, .call ⟨.value (.func 39), #[.tmp 15], #[81]⟩, 31, "ref.go:32", #[⟨6, .data⟩], none⟩) rfl (fun K hK => ?_) AllReadyH.nil)
    try (generalize World.drew u0 = ud at *)
    go_simp
    refine (refNum7_any n _ (by have := HN.out; omega)).mono ?_
    rintro e cu ⟨v16, rfl, ho16, hb4⟩
    have k16 := (own_kis (l := be8 n) (by rw [be8_len]; exact ho16)).bound
    try (have l9 := blk_lt h9)
    obtain ⟨a16, c16, rfl⟩ := k16.form
    try (have k13 := k13.below hb4)
    try (have h9 := (hb4.block _ (blk_lt h9)).trans h9)
    have l16 := hb.size
    have z16 := hb4.size
    have hb := hb.trans (hb4.mono hb.size)
    clear hb4 ho16
    go_wp2_with fail
    refine hK.out _ _ hb (fun hHeld => ?_)
    clear hK K
    try simp only [Act.put, sA, sB, sC]
    refine wpAnyH_ready (rs := [9]) (by kernel_rfl) (by simp) ?_
    refine (AllReadyH.cons (o := ⟨some 18, .buildSlice 99 5 #[(0, .tmp 10), (1, .tmp 11), (2, .tmp 13), (3, .tmp 16), (4, .tmp 17)], 99, "ref.go:32", #[⟨1, .data⟩, ⟨2, .data⟩, ⟨4, .data⟩, ⟨7, .data⟩, ⟨8, .data⟩], none⟩) rfl (fun K hK => ?_) AllReadyH.nil)
    try (generalize World.drew u0 = ud at *)
    go_simp
    refine al_step2 hb (fun nu hbn q18 hcn => ?_)
    have k13 := k13.below hcn
    have k16 := k16.below hcn
    have h9 := (hcn.block _ (blk_lt h9)).trans h9
    have hb := hbn
    clear hcn hbn
    refine hK.out _ _ hb (fun hHeld => ?_)
    clear hK K
    try simp only [Act.put, sA, sB, sC]
    refine wpAnyH_ready (rs := [10]) (by kernel_rfl) (by simp) ?_
    refine (AllReadyH.cons (o := ⟨some 19, .call ⟨.value (.func 66), #[.tmp 18], #[99]⟩, 31, "ref.go:32", #[⟨9, .data⟩, ⟨7, .chain⟩], none⟩) rfl (fun K hK => ?_) AllReadyH.nil)
    have hps := pss5 q18 (bs_blk (l := [110, 111, 100, 101]) h9 rfl) (box_bs ((hb.block g3 y3).trans H3.out) HDL.out) k13.1 k16.1 (box_bs ((hb.block (g3 + 1) y4).trans H4.out) HDR.out)
    go_simp
    refine (refJoin_any _ _ _ hps (by have e1 := HDL.out; have e2 := HDR.out; have e3 := HK.out.2; simp only [jlen, List.length_cons, List.length_nil, be8_len, e1, e2]; omega)).mono ?_
    rintro e cu ⟨v19, rfl, hk19, hb4⟩
    have k19 := Bs_of_own hk19
    obtain ⟨a19, c19, rfl⟩ := ownsRow_slc hk19
    have hb := hb.trans (hb4.mono hb.size)
    clear hb4 hps hk19
    go_wp2_with fail
    refine hK.out _ _ hb (fun hHeld => ?_)
    clear hK K
    try simp only [Act.put, sA, sB, sC]
    refine tk (i := 11) (oi := ⟨some 8, .assign (.tmp 19), 31, "ref.go:32", #[⟨10, .data⟩, ⟨10, .chain⟩, ⟨0, .phase⟩, ⟨1, .phase⟩, ⟨2, .phase⟩, ⟨3, .phase⟩, ⟨4, .phase⟩, ⟨5, .phase⟩, ⟨6, .phase⟩, ⟨7, .phase⟩, ⟨8, .phase⟩, ⟨9, .phase⟩, ⟨10, .phase⟩], none⟩) (v := ?_) (Or.inl ⟨by rfl, ?_⟩) ?_
    rotate_left 1
    ·(intro u hSw; go_simp; try with_reducible rfl)
    try simp only [Act.put, sA, sB, sC]
    refine wpAnyH_done (by kernel_rfl) ?_ _
    have HF := hid (And.intro k19 hb)
    clear k19 hb h9 q9 k13 k16 q18
    go_wp2_with fail
    go_ret
    exact ⟨_, rfl, HF.out.1, by rw [hG3]; exact HB0.out.1.trans (HF.out.2.mono (by have := HB0.out.2; omega))⟩
   ·try (generalize World.drew u0 = ud at *)
    go_simp
    refine (refNum7_any n _ (by have := HN.out; omega)).mono ?_
    rintro e cu ⟨v16, rfl, ho16, hb4⟩
    have k16 := (own_kis (l := be8 n) (by rw [be8_len]; exact ho16)).bound
    try (have l9 := blk_lt h9)
    obtain ⟨a16, c16, rfl⟩ := k16.form
    try (have k13 := k13.below hb4)
    try (have h9 := (hb4.block _ (blk_lt h9)).trans h9)
    have l16 := hb.size
    have z16 := hb4.size
    have hb := hb.trans (hb4.mono hb.size)
    clear hb4 ho16
    go_wp2_with fail
    refine hK.out _ _ hb (fun hHeld => ?_)
    clear hK K
    try simp only [Act.put, sA, sB, sC]
    refine wpAnyH_ready (rs := [4]) (by kernel_rfl) (by simp) ?_
    refine (AllReadyH.cons (o := ⟨some 13, .convert 9 31 (.tmp 12), 31, "ref.go:32", #[⟨3, .data⟩], none⟩) rfl (fun K hK => ?_) AllReadyH.nil)
    try (generalize World.drew u0 = ud at *)
    obtain ⟨nu, a13, c13, q13, hb4, k13⟩ := conv_kis _ k HK.out.1
    refine step_of_runP (by rfl) (exec_convP 9 31 (Operand.tmp 12) (by rfl) _ (by rfl) _ q13) ?_
    have k13 := k13.bound
    try (have l9 := blk_lt h9)
    try (have k16 := k16.below hb4)
    try (have h9 := (hb4.block _ (blk_lt h9)).trans h9)
    have l13 := hb.size
    have z13 := hb4.size
    have hb := hb.trans (hb4.mono hb.size)
    clear hb4 q13
    refine hK.out _ _ hb (fun hHeld => ?_)
    clear hK K
    try simp only [Act.put, sA, sB, sC]
    refine wpAnyH_ready (rs := [9]) (by kernel_rfl) (by simp) ?_
    refine (AllReadyH.cons (o := ⟨some 18, .buildSlice 99 5 #[(0, .tmp 10), (1, .tmp 11), (2, .tmp 13), (3, .tmp 16), (4, .tmp 17)], 99, "ref.go:32", #[⟨1, .data⟩, ⟨2, .data⟩, ⟨4, .data⟩, ⟨7, .data⟩, ⟨8, .data⟩], none⟩) rfl (fun K hK => ?_) AllReadyH.nil)
    try (generalize World.drew u0 = ud at *)
    go_simp
    refine al_step2 hb (fun nu hbn q18 hcn => ?_)
    have k13 := k13.below hcn
    have k16 := k16.below hcn
    have h9 := (hcn.block _ (blk_lt h9)).trans h9
    have hb := hbn
    clear hcn hbn
    refine hK.out _ _ hb (fun hHeld => ?_)
    clear hK K
    try simp only [Act.put, sA, sB, sC]
    refine wpAnyH_ready (rs := [10]) (by kernel_rfl) (by simp) ?_
    refine (AllReadyH.cons (o := ⟨some 19, .call ⟨.value (.func 66), #[.tmp 18], #[99]⟩, 31, "ref.go:32", #[⟨9, .data⟩, ⟨7, .chain⟩], none⟩) rfl (fun K hK => ?_) AllReadyH.nil)
    have hps := pss5 q18 (bs_blk (l := [110, 111, 100, 101]) h9 rfl) (box_bs ((hb.block g3 y3).trans H3.out) HDL.out) k13.1 k16.1 (box_bs ((hb.block (g3 + 1) y4).trans H4.out) HDR.out)
    go_simp
    refine (refJoin_any _ _ _ hps (by have e1 := HDL.out; have e2 := HDR.out; have e3 := HK.out.2; simp only [jlen, List.length_cons, List.length_nil, be8_len, e1, e2]; omega)).mono ?_
    rintro e cu ⟨v19, rfl, hk19, hb4⟩
    have k19 := Bs_of_own hk19
    obtain ⟨a19, c19, rfl⟩ := ownsRow_slc hk19
    have hb := hb.trans (hb4.mono hb.size)
    clear hb4 hps hk19
    go_wp2_with fail
    refine hK.out _ _ hb (fun hHeld => ?_)
    clear hK K
    try simp only [Act.put, sA, sB, sC]
    refine tk (i := 11) (oi := ⟨some 8, .assign (.tmp 19), 31, "ref.go:32", #[⟨10, .data⟩, ⟨10, .chain⟩, ⟨0, .phase⟩, ⟨1, .phase⟩, ⟨2, .phase⟩, ⟨3, .phase⟩, ⟨4, .phase⟩, ⟨5, .phase⟩, ⟨6, .phase⟩, ⟨7, .phase⟩, ⟨8, .phase⟩, ⟨9, .phase⟩, ⟨10, .phase⟩], none⟩) (v := ?_) (Or.inl ⟨by rfl, ?_⟩) ?_
    rotate_left 1
    ·(intro u hSw; go_simp; try with_reducible rfl)
    try simp only [Act.put, sA, sB, sC]
    refine wpAnyH_done (by kernel_rfl) ?_ _
    have HF := hid (And.intro k19 hb)
    clear k19 hb h9 q9 k13 k16 q18
    go_wp2_with fail
    go_ret
    exact ⟨_, rfl, HF.out.1, by rw [hG3]; exact HB0.out.1.trans (HF.out.2.mono (by have := HB0.out.2; omega))⟩
  ·try (generalize World.drew u0 = ud at *)
   obtain ⟨nu, a13, c13, q13, hb4, k13⟩ := conv_kis _ k HK.out.1
   refine step_of_runP (by rfl) (exec_convP 9 31 (Operand.tmp 12) (by rfl) _ (by rfl) _ q13) ?_
   have k13 := k13.bound
   try (have l9 := blk_lt h9)
   try (have k16 := k16.below hb4)
   try (have h9 := (hb4.block _ (blk_lt h9)).trans h9)
   have l13 := hb.size
   have z13 := hb4.size
   have hb := hb.trans (hb4.mono hb.size)
   clear hb4 q13
   refine hK.out _ _ hb (fun hHeld => ?_)
   clear hK K
   try simp only [Act.put, sA, sB, sC]
   refine wpAnyH_ready (rs := [1, 7]) (by kernel_rfl) (by simp) ?_
   refine (AllReadyH.cons (o := ⟨some 10, .convert 31 31 (.tmp 9), 31, "ref.go:32", #[⟨0, .data⟩], none⟩) rfl (fun K hK => ?_) (AllReadyH.cons (o := ⟨some 16, .call ⟨.value (.func 39), #[.tmp 15], #[81]⟩, 31, "ref.go:32", #[⟨6, .data⟩], none⟩) rfl (fun K hK => ?_) AllReadyH.nil))
   ·try (generalize World.drew u0 = ud at *)
    obtain ⟨nu, hrn, q9, hcn⟩ := run_mark _ _ 4 4 _ h9
    have hb := hb.trans (hcn.below (B := u0.heap.size) (fun q e => by omega) hb.size)
    try (have k13 := k13.cg hcn (fun q _ hs e => by have hs2 : _ ∧ _ := hs; omega))
    try (have k16 := k16.cg hcn (fun q _ hs e => by have hs2 : _ ∧ _ := hs; omega))
    have h9 := q9
    clear hcn
    go_simp
    try rw [hrn]
    try simp only [Result.andThen]
    try rw [Oper.upon_value]
    clear hrn
    refine hK.out _ _ hb (fun hHeld => ?_)
    clear hK K
    try simp only [Act.put, sA, sB, sC]
    refine wpAnyH_ready (rs := [7]) (by kernel_rfl) (by simp) ?_
    refine (AllReadyH.cons (o := ⟨some 16, .call ⟨.value (.func 39), #[.tmp 15], #[81]⟩, 31, "ref.go:32", #[⟨6, .data⟩], none⟩) rfl (fun K hK => ?_) AllReadyH.nil)
    try (generalize World.drew u0 = ud at *)
    go_simp
    refine (refNum7_any n _ (by have := HN.out; omega)).mono ?_
    rintro e cu ⟨v16, rfl, ho16, hb4⟩
    have k16 := (own_kis (l := be8 n) (by rw [be8_len]; exact ho16)).bound
    try (have l9 := blk_lt h9)
    obtain ⟨a16, c16, rfl⟩ := k16.form
    try (have k13 := k13.below hb4)
    try (have h9 := (hb4.block _ (blk_lt h9)).trans h9)
    have l16 := hb.size
    have z16 := hb4.size
    have hb := hb.trans (hb4.mono hb.size)
    clear hb4 ho16
    go_wp2_with fail
    refine hK.out _ _ hb (fun hHeld => ?_)
    clear hK K
    try simp only [Act.put, sA, sB, sC]
    refine wpAnyH_ready (rs := [9]) (by kernel_rfl) (by simp) ?_
    refine (AllReadyH.cons (o := ⟨some 18, .buildSlice 99 5 #[(0, .tmp 10), (1, .tmp 11), (2, .tmp 13), (3, .tmp 16), (4, .tmp 17)], 99, "ref.go:32", #[⟨1, .data⟩, ⟨2, .data⟩, ⟨4, .data⟩, ⟨7, .data⟩, ⟨8, .data⟩], none⟩) rfl (fun K hK => ?_) AllReadyH.nil)
    try (generalize World.drew u0 = ud at *)
    go_simp
    refine al_step2 hb (fun nu hbn q18 hcn => ?_)
    have k13 := k13.below hcn
    have k16 := k16.below hcn
    have h9 := (hcn.block _ (blk_lt h9)).trans h9
    have hb := hbn
    clear hcn hbn
    refine hK.out _ _ hb (fun hHeld => ?_)
    clear hK K
    try simp only [Act.put, sA, sB, sC]
    refine wpAnyH_ready (rs := [10]) (by kernel_rfl) (by simp) ?_
    refine (AllReadyH.cons (o := ⟨some 19, .call ⟨.value (.func 66), #[.tmp 18], #[99]⟩, 31, "ref.go:32", #[⟨9, .data⟩, ⟨7, .chain⟩], none⟩) rfl (fun K hK => ?_) AllReadyH.nil)
    have hps := pss5 q18 (bs_blk (l := [110, 111, 100, 101]) h9 rfl) (box_bs ((hb.block g3 y3).trans H3.out) HDL.out) k13.1 k16.1 (box_bs ((hb.block (g3 + 1) y4).trans H4.out) HDR.out)
    go_simp
    refine (refJoin_any _ _ _ hps (by have e1 := HDL.out; have e2 := HDR.out; have e3 := HK.out.2; simp only [jlen, List.length_cons, List.length_nil, be8_len, e1, e2]; omega)).mono ?_
    rintro e cu ⟨v19, rfl, hk19, hb4⟩
    have k19 := Bs_of_own hk19
    obtain ⟨a19, c19, rfl⟩ := ownsRow_slc hk19
    have hb := hb.trans (hb4.mono hb.size)
    clear hb4 hps hk19
    go_wp2_with fail
    refine hK.out _ _ hb (fun hHeld => ?_)
    clear hK K
    try simp only [Act.put, sA, sB, sC]
    refine tk (i := 11) (oi := ⟨some 8, .assign (.tmp 19), 31, "ref.go:32", #[⟨10, .data⟩, ⟨10, .chain⟩, ⟨0, .phase⟩, ⟨1, .phase⟩, ⟨2, .phase⟩, ⟨3, .phase⟩, ⟨4, .phase⟩, ⟨5, .phase⟩, ⟨6, .phase⟩, ⟨7, .phase⟩, ⟨8, .phase⟩, ⟨9, .phase⟩, ⟨10, .phase⟩], none⟩) (v := ?_) (Or.inl ⟨by rfl, ?_⟩) ?_
    rotate_left 1
    ·(intro u hSw; go_simp; try with_reducible rfl)
    try simp only [Act.put, sA, sB, sC]
    refine wpAnyH_done (by kernel_rfl) ?_ _
    have HF := hid (And.intro k19 hb)
    clear k19 hb h9 q9 k13 k16 q18
    go_wp2_with fail
    go_ret
    exact ⟨_, rfl, HF.out.1, by rw [hG3]; exact HB0.out.1.trans (HF.out.2.mono (by have := HB0.out.2; omega))⟩
   ·try (generalize World.drew u0 = ud at *)
    go_simp
    refine (refNum7_any n _ (by have := HN.out; omega)).mono ?_
    rintro e cu ⟨v16, rfl, ho16, hb4⟩
    have k16 := (own_kis (l := be8 n) (by rw [be8_len]; exact ho16)).bound
    try (have l9 := blk_lt h9)
    obtain ⟨a16, c16, rfl⟩ := k16.form
    try (have k13 := k13.below hb4)
    try (have h9 := (hb4.block _ (blk_lt h9)).trans h9)
    have l16 := hb.size
    have z16 := hb4.size
    have hb := hb.trans (hb4.mono hb.size)
    clear hb4 ho16
    go_wp2_with fail
    refine hK.out _ _ hb (fun hHeld => ?_)
    clear hK K
    try simp only [Act.put, sA, sB, sC]
    refine wpAnyH_ready (rs := [1]) (by kernel_rfl) (by simp) ?_
    refine (AllReadyH.cons (o := ⟨some 10, .convert 31 31 (.tmp 9), 31, "ref.go:32", #[⟨0, .data⟩], none⟩) rfl (fun K hK => ?_) AllReadyH.nil)
    try (generalize World.drew u0 = ud at *)
    obtain ⟨nu, hrn, q9, hcn⟩ := run_mark _ _ 4 4 _ h9
    have hb := hb.trans (hcn.below (B := u0.heap.size) (fun q e => by omega) hb.size)
    try (have k13 := k13.cg hcn (fun q _ hs e => by have hs2 : _ ∧ _ := hs; omega))
    try (have k16 := k16.cg hcn (fun q _ hs e => by have hs2 : _ ∧ _ := hs; omega))
    have h9 := q9
    clear hcn
    go_simp
    try rw [hrn]
    try simp only [Result.andThen]
    try rw [Oper.upon_value]
    clear hrn
    refine hK.out _ _ hb (fun hHeld => ?_)
    clear hK K
    try simp only [Act.put, sA, sB, sC]
    refine wpAnyH_ready (rs := [9]) (by kernel_rfl) (by simp) ?_
    refine (AllReadyH.cons (o := ⟨some 18, .buildSlice 99 5 #[(0, .tmp 10), (1, .tmp 11), (2, .tmp 13), (3, .tmp 16), (4, .tmp 17)], 99, "ref.go:32", #[⟨1, .data⟩, ⟨2, .data⟩, ⟨4, .data⟩, ⟨7, .data⟩, ⟨8, .data⟩], none⟩) rfl (fun K hK => ?_) AllReadyH.nil)
    try (generalize World.drew u0 = ud at *)
    go_simp
    refine al_step2 hb (fun nu hbn q18 hcn => ?_)
    have k13 := k13.below hcn
    have k16 := k16.below hcn
    have h9 := (hcn.block _ (blk_lt h9)).trans h9
    have hb := hbn
    clear hcn hbn
    refine hK.out _ _ hb (fun hHeld => ?_)
    clear hK K
    try simp only [Act.put, sA, sB, sC]
    refine wpAnyH_ready (rs := [10]) (by kernel_rfl) (by simp) ?_
    refine (AllReadyH.cons (o := ⟨some 19, .call ⟨.value (.func 66), #[.tmp 18], #[99]⟩, 31, "ref.go:32", #[⟨9, .data⟩, ⟨7, .chain⟩], none⟩) rfl (fun K hK => ?_) AllReadyH.nil)
    have hps := pss5 q18 (bs_blk (l := [110, 111, 100, 101]) h9 rfl) (box_bs ((hb.block g3 y3).trans H3.out) HDL.out) k13.1 k16.1 (box_bs ((hb.block (g3 + 1) y4).trans H4.out) HDR.out)
    go_simp
    refine (refJoin_any _ _ _ hps (by have e1 := HDL.out; have e2 := HDR.out; have e3 := HK.out.2; simp only [jlen, List.length_cons, List.length_nil, be8_len, e1, e2]; omega)).mono ?_
    rintro e cu ⟨v19, rfl, hk19, hb4⟩
    have k19 := Bs_of_own hk19
    obtain ⟨a19, c19, rfl⟩ := ownsRow_slc hk19
    have hb := hb.trans (hb4.mono hb.size)
    clear hb4 hps hk19
    go_wp2_with fail
    refine hK.out _ _ hb (fun hHeld => ?_)
    clear hK K
    try simp only [Act.put, sA, sB, sC]
    refine tk (i := 11) (oi := ⟨some 8, .assign (.tmp 19), 31, "ref.go:32", #[⟨10, .data⟩, ⟨10, .chain⟩, ⟨0, .phase⟩, ⟨1, .phase⟩, ⟨2, .phase⟩, ⟨3, .phase⟩, ⟨4, .phase⟩, ⟨5, .phase⟩, ⟨6, .phase⟩, ⟨7, .phase⟩, ⟨8, .phase⟩, ⟨9, .phase⟩, ⟨10, .phase⟩], none⟩) (v := ?_) (Or.inl ⟨by rfl, ?_⟩) ?_
    rotate_left 1
    ·(intro u hSw; go_simp; try with_reducible rfl)
    try simp only [Act.put, sA, sB, sC]
    refine wpAnyH_done (by kernel_rfl) ?_ _
    have HF := hid (And.intro k19 hb)
    clear k19 hb h9 q9 k13 k16 q18
    go_wp2_with fail
    go_ret
    exact ⟨_, rfl, HF.out.1, by rw [hG3]; exact HB0.out.1.trans (HF.out.2.mono (by have := HB0.out.2; omega))⟩
  ·try (generalize World.drew u0 = ud at *)
   go_simp
   refine (refNum7_any n _ (by have := HN.out; omega)).mono ?_
   rintro e cu ⟨v16, rfl, ho16, hb4⟩
   have k16 := (own_kis (l := be8 n) (by rw [be8_len]; exact ho16)).bound
   try (have l9 := blk_lt h9)
   obtain ⟨a16, c16, rfl⟩ := k16.form
   try (have k13 := k13.below hb4)
   try (have h9 := (hb4.block _ (blk_lt h9)).trans h9)
   have l16 := hb.size
   have z16 := hb4.size
   have hb := hb.trans (hb4.mono hb.size)
   clear hb4 ho16
   go_wp2_with fail
   refine hK.out _ _ hb (fun hHeld => ?_)
   clear hK K
   try simp only [Act.put, sA, sB, sC]
   refine wpAnyH_ready (rs := [1, 4]) (by kernel_rfl) (by simp) ?_
   refine (AllReadyH.cons (o := ⟨some 10, .convert 31 31 (.tmp 9), 31, "ref.go:32", #[⟨0, .data⟩], none⟩) rfl (fun K hK => ?_) (AllReadyH.cons (o := ⟨some 13, .convert 9 31 (.tmp 12), 31, "ref.go:32", #[⟨3, .data⟩], none⟩) rfl (fun K hK => ?_) AllReadyH.nil))
   ·try (generalize World.drew u0 = ud at *)
    obtain ⟨nu, hrn, q9, hcn⟩ := run_mark _ _ 4 4 _ h9
    have hb := hb.trans (hcn.below (B := u0.heap.size) (fun q e => by omega) hb.size)
    try (have k13 := k13.cg hcn (fun q _ hs e => by have hs2 : _ ∧ _ := hs; omega))
    try (have k16 := k16.cg hcn (fun q _ hs e => by have hs2 : _ ∧ _ := hs; omega))
    have h9 := q9
    clear hcn
    go_simp
    try rw [hrn]
    try simp only [Result.andThen]
    try rw [Oper.upon_value]
    clear hrn
    refine hK.out _ _ hb (fun hHeld => ?_)
    clear hK K
    try simp only [Act.put, sA, sB, sC]
    refine wpAnyH_ready (rs := [4]) (by kernel_rfl) (by simp) ?_
    refine (AllReadyH.cons (o := ⟨some 13, .convert 9 31 (.tmp 12), 31, "ref.go:32", #[⟨3, .data⟩], none⟩) rfl (fun K hK => ?_) AllReadyH.nil)
    try (generalize World.drew u0 = ud at *)
    obtain ⟨nu, a13, c13, q13, hb4, k13⟩ := conv_kis _ k HK.out.1
    refine step_of_runP (by rfl) (exec_convP 9 31 (Operand.tmp 12) (by rfl) _ (by rfl) _ q13) ?_
    have k13 := k13.bound
    try (have l9 := blk_lt h9)
    try (have k16 := k16.below hb4)
    try (have h9 := (hb4.block _ (blk_lt h9)).trans h9)
    have l13 := hb.size
    have z13 := hb4.size
    have hb := hb.trans (hb4.mono hb.size)
    clear hb4 q13
    refine hK.out _ _ hb (fun hHeld => ?_)
    clear hK K
    try simp only [Act.put, sA, sB, sC]
    refine wpAnyH_ready (rs := [9]) (by kernel_rfl) (by simp) ?_
    refine (AllReadyH.cons (o := ⟨some 18, .buildSlice 99 5 #[(0, .tmp 10), (1, .tmp 11), (2, .tmp 13), (3, .tmp 16), (4, .tmp 17)], 99, "ref.go:32", #[⟨1, .data⟩, ⟨2, .data⟩, ⟨4, .data⟩, ⟨7, .data⟩, ⟨8, .data⟩], none⟩) rfl (fun K hK => ?_) AllReadyH.nil)
    try (generalize World.drew u0 = ud at *)
    go_simp
    refine al_step2 hb (fun nu hbn q18 hcn => ?_)
    have k13 := k13.below hcn
    have k16 := k16.below hcn
    have h9 := (hcn.block _ (blk_lt h9)).trans h9
    have hb := hbn
    clear hcn hbn
    refine hK.out _ _ hb (fun hHeld => ?_)
    clear hK K
    try simp only [Act.put, sA, sB, sC]
    refine wpAnyH_ready (rs := [10]) (by kernel_rfl) (by simp) ?_
    refine (AllReadyH.cons (o := ⟨some 19, .call ⟨.value (.func 66), #[.tmp 18], #[99]⟩, 31, "ref.go:32", #[⟨9, .data⟩, ⟨7, .chain⟩], none⟩) rfl (fun K hK => ?_) AllReadyH.nil)
    have hps := pss5 q18 (bs_blk (l := [110, 111, 100, 101]) h9 rfl) (box_bs ((hb.block g3 y3).trans H3.out) HDL.out) k13.1 k16.1 (box_bs ((hb.block (g3 + 1) y4).trans H4.out) HDR.out)
    go_simp
    refine (refJoin_any _ _ _ hps (by have e1 := HDL.out; have e2 := HDR.out; have e3 := HK.out.2; simp only [jlen, List.length_cons, List.length_nil, be8_len, e1, e2]; omega)).mono ?_
    rintro e cu ⟨v19, rfl, hk19, hb4⟩
    have k19 := Bs_of_own hk19
    obtain ⟨a19, c19, rfl⟩ := ownsRow_slc hk19
    have hb := hb.trans (hb4.mono hb.size)
    clear hb4 hps hk19
    go_wp2_with fail
    refine hK.out _ _ hb (fun hHeld => ?_)
    clear hK K
    try simp only [Act.put, sA, sB, sC]
    refine tk (i := 11) (oi := ⟨some 8, .assign (.tmp 19), 31, "ref.go:32", #[⟨10, .data⟩, ⟨10, .chain⟩, ⟨0, .phase⟩, ⟨1, .phase⟩, ⟨2, .phase⟩, ⟨3, .phase⟩, ⟨4, .phase⟩, ⟨5, .phase⟩, ⟨6, .phase⟩, ⟨7, .phase⟩, ⟨8, .phase⟩, ⟨9, .phase⟩, ⟨10, .phase⟩], none⟩) (v := ?_) (Or.inl ⟨by rfl, ?_⟩) ?_
    rotate_left 1
    ·(intro u hSw; go_simp; try with_reducible rfl)
    try simp only [Act.put, sA, sB, sC]
    refine wpAnyH_done (by kernel_rfl) ?_ _
    have HF := hid (And.intro k19 hb)
    clear k19 hb h9 q9 k13 k16 q18
    go_wp2_with fail
    go_ret
    exact ⟨_, rfl, HF.out.1, by rw [hG3]; exact HB0.out.1.trans (HF.out.2.mono (by have := HB0.out.2; omega))⟩
   ·try (generalize World.drew u0 = ud at *)
    obtain ⟨nu, a13, c13, q13, hb4, k13⟩ := conv_kis _ k HK.out.1
    refine step_of_runP (by rfl) (exec_convP 9 31 (Operand.tmp 12) (by rfl) _ (by rfl) _ q13) ?_
    have k13 := k13.bound
    try (have l9 := blk_lt h9)
    try (have k16 := k16.below hb4)
    try (have h9 := (hb4.block _ (blk_lt h9)).trans h9)
    have l13 := hb.size
    have z13 := hb4.size
    have hb := hb.trans (hb4.mono hb.size)
    clear hb4 q13
    refine hK.out _ _ hb (fun hHeld => ?_)
    clear hK K
    try simp only [Act.put, sA, sB, sC]
    refine wpAnyH_ready (rs := [1]) (by kernel_rfl) (by simp) ?_
    refine (AllReadyH.cons (o := ⟨some 10, .convert 31 31 (.tmp 9), 31, "ref.go:32", #[⟨0, .data⟩], none⟩) rfl (fun K hK => ?_) AllReadyH.nil)
    try (generalize World.drew u0 = ud at *)
    obtain ⟨nu, hrn, q9, hcn⟩ := run_mark _ _ 4 4 _ h9
    have hb := hb.trans (hcn.below (B := u0.heap.size) (fun q e => by omega) hb.size)
    try (have k13 := k13.cg hcn (fun q _ hs e => by have hs2 : _ ∧ _ := hs; omega))
    try (have k16 := k16.cg hcn (fun q _ hs e => by have hs2 : _ ∧ _ := hs; omega))
    have h9 := q9
    clear hcn
    go_simp
    try rw [hrn]
    try simp only [Result.andThen]
    try rw [Oper.upon_value]
    clear hrn
    refine hK.out _ _ hb (fun hHeld => ?_)
    clear hK K
    try simp only [Act.put, sA, sB, sC]
    refine wpAnyH_ready (rs := [9]) (by kernel_rfl) (by simp) ?_
    refine (AllReadyH.cons (o := ⟨some 18, .buildSlice 99 5 #[(0, .tmp 10), (1, .tmp 11), (2, .tmp 13), (3, .tmp 16), (4, .tmp 17)], 99, "ref.go:32", #[⟨1, .data⟩, ⟨2, .data⟩, ⟨4, .data⟩, ⟨7, .data⟩, ⟨8, .data⟩], none⟩) rfl (fun K hK => ?_) AllReadyH.nil)
    try (generalize World.drew u0 = ud at *)
    go_simp
    refine al_step2 hb (fun nu hbn q18 hcn => ?_)
    have k13 := k13.below hcn
    have k16 := k16.below hcn
    have h9 := (hcn.block _ (blk_lt h9)).trans h9
    have hb := hbn
    clear hcn hbn
    refine hK.out _ _ hb (fun hHeld => ?_)
    clear hK K
    try simp only [Act.put, sA, sB, sC]
    refine wpAnyH_ready (rs := [10]) (by kernel_rfl) (by simp) ?_
    refine (AllReadyH.cons (o := ⟨some 19, .call ⟨.value (.func 66), #[.tmp 18], #[99]⟩, 31, "ref.go:32", #[⟨9, .data⟩, ⟨7, .chain⟩], none⟩) rfl (fun K hK => ?_) AllReadyH.nil)
    have hps := pss5 q18 (bs_blk (l := [110, 111, 100, 101]) h9 rfl) (box_bs ((hb.block g3 y3).trans H3.out) HDL.out) k13.1 k16.1 (box_bs ((hb.block (g3 + 1) y4).trans H4.out) HDR.out)
    go_simp
    refine (refJoin_any _ _ _ hps (by have e1 := HDL.out; have e2 := HDR.out; have e3 := HK.out.2; simp only [jlen, List.length_cons, List.length_nil, be8_len, e1, e2]; omega)).mono ?_
    rintro e cu ⟨v19, rfl, hk19, hb4⟩
    have k19 := Bs_of_own hk19
    obtain ⟨a19, c19, rfl⟩ := ownsRow_slc hk19
    have hb := hb.trans (hb4.mono hb.size)
    clear hb4 hps hk19
    go_wp2_with fail
    refine hK.out _ _ hb (fun hHeld => ?_)
    clear hK K
    try simp only [Act.put, sA, sB, sC]
    refine tk (i := 11) (oi := ⟨some 8, .assign (.tmp 19), 31, "ref.go:32", #[⟨10, .data⟩, ⟨10, .chain⟩, ⟨0, .phase⟩, ⟨1, .phase⟩, ⟨2, .phase⟩, ⟨3, .phase⟩, ⟨4, .phase⟩, ⟨5, .phase⟩, ⟨6, .phase⟩, ⟨7, .phase⟩, ⟨8, .phase⟩, ⟨9, .phase⟩, ⟨10, .phase⟩], none⟩) (v := ?_) (Or.inl ⟨by rfl, ?_⟩) ?_
    rotate_left 1
    ·(intro u hSw; go_simp; try with_reducible rfl)
    try simp only [Act.put, sA, sB, sC]
    refine wpAnyH_done (by kernel_rfl) ?_ _
    have HF := hid (And.intro k19 hb)
    clear k19 hb h9 q9 k13 k16 q18
    go_wp2_with fail
    go_ret
    exact ⟨_, rfl, HF.out.1, by rw [hG3]; exact HB0.out.1.trans (HF.out.2.mono (by have := HB0.out.2; omega))⟩
 ·try (generalize World.drew u0 = ud at *)
  obtain ⟨nu, a13, c13, q13, hb4, k13⟩ := conv_kis _ k HK.out.1
  refine step_of_runP (by rfl) (exec_convP 9 31 (Operand.tmp 12) (by rfl) _ (by rfl) _ q13) ?_
  have k13 := k13.bound
  try (have l9 := blk_lt h9)
  try (have k16 := k16.below hb4)
  try (have h9 := (hb4.block _ (blk_lt h9)).trans h9)
  have l13 := hb.size
  have z13 := hb4.size
  have hb := hb.trans (hb4.mono hb.size)
  clear hb4 q13
  refine hK.out _ _ hb (fun hHeld => ?_)
  clear hK K
  try simp only [Act.put, sA, sB, sC]
  refine wpAnyH_ready (rs := [0, 7]) (by kernel_rfl) (by simp) ?_
  refine (AllReadyH.cons (o := ⟨some 9, .buildSlice 31 4 #[(0, .const (Value.int IntKind.u8 110)), (1, .const (Value.int IntKind.u8 111)), (2, .const (Value.int IntKind.u8 100)), (3, .const (Value.int IntKind.u8 101))], 31, "ref.go:32", #[], none⟩) rfl (fun K hK => ?_) (AllReadyH.cons (o := ⟨some 16, .call ⟨.value (.func 39), #[.tmp 15], #[81]⟩, 31, "ref.go:32", #[⟨6, .data⟩], none⟩) rfl (fun K hK => ?_) AllReadyH.nil))
  ·try (generalize World.drew u0 = ud at *)
   go_simp
   refine al_step2 hb (fun nu hbn q9 hb4 => ?_)
   try (rw [show (World.drew u0).heap.size = u0.heap.size from rfl] at q9)
   have lo9 := hb.size
   try (have k13 := k13.below hb4)
   try (have k16 := k16.below hb4)
   have h9 := q9
   have hb := hbn
   clear hb4 hbn
   refine hK.out _ _ hb (fun hHeld => ?_)
   clear hK K
   try simp only [Act.put, sA, sB, sC]
   refine wpAnyH_ready (rs := [1, 7]) (by kernel_rfl) (by simp) ?_
   refine (AllReadyH.cons (o := ⟨some 10, .convert 31 31 (.tmp 9), 31, "ref.go:32", #[⟨0, .data⟩], none⟩) rfl (fun K hK => ?_) (AllReadyH.cons (o := ⟨some 16, .call ⟨.value (.func 39), #[.tmp 15], #[81]⟩, 31, "ref.go:32", #[⟨6, .data⟩], none⟩) rfl (fun K hK => ?_) AllReadyH.nil))
   ·try (generalize World.drew u0 = ud at *)
    obtain ⟨nu, hrn, q9, hcn⟩ := run_mark _ _ 4 4 _ h9
    have hb := hb.trans (hcn.below (B := u0.heap.size) (fun q e => by omega) hb.size)
    try (have k13 := k13.cg hcn (fun q _ hs e => by have hs2 : _ ∧ _ := hs; omega))
    try (have k16 := k16.cg hcn (fun q _ hs e => by have hs2 : _ ∧ _ := hs; omega))
    have h9 := q9
    clear hcn
    go_simp
    try rw [hrn]
    try simp only [Result.andThen]
    try rw [Oper.upon_value]
    clear hrn
    refine hK.out _ _ hb (fun hHeld => ?_)
    clear hK K
    try simp only [Act.put, sA, sB, sC]
    refine wpAnyH_ready (rs := [7]) (by kernel_rfl) (by simp) ?_
    refine (AllReadyH.cons (o := ⟨some 16, .call ⟨.value (.func 39), #[.tmp 15], #[81]⟩, 31, "ref.go:32", #[⟨6, .data⟩], none⟩) rfl (fun K hK => ?_) AllReadyH.nil)
    try (generalize World.drew u0 = ud at *)
    go_simp
    refine (refNum7_any n _ (by have := HN.out; omega)).mono ?_
    rintro e cu ⟨v16, rfl, ho16, hb4⟩
    have k16 := (own_kis (l := be8 n) (by rw [be8_len]; exact ho16)).bound
    try (have l9 := blk_lt h9)
    obtain ⟨a16, c16, rfl⟩ := k16.form
    try (have k13 := k13.below hb4)
    try (have h9 := (hb4.block _ (blk_lt h9)).trans h9)
    have l16 := hb.size
    have z16 := hb4.size
    have hb := hb.trans (hb4.mono hb.size)
    clear hb4 ho16
    go_wp2_with fail
    refine hK.out _ _ hb (fun hHeld => ?_)
    clear hK K
    try simp only [Act.put, sA, sB, sC]
    refine wpAnyH_ready (rs := [9]) (by kernel_rfl) (by simp) ?_
    refine (AllReadyH.cons (o := ⟨some 18, .buildSlice 99 5 #[(0, .tmp 10), (1, .tmp 11), (2, .tmp 13), (3, .tmp 16), (4, .tmp 17)], 99, "ref.go:32", #[⟨1, .data⟩, ⟨2, .data⟩, ⟨4, .data⟩, ⟨7, .data⟩, ⟨8, .data⟩], none⟩) rfl (fun K hK => ?_) AllReadyH.nil)
    try (generalize World.drew u0 = ud at *)
    go_simp
    refine al_step2 hb (fun nu hbn q18 hcn => ?_)
    have k13 := k13.below hcn
    have k16 := k16.below hcn
    have h9 := (hcn.block _ (blk_lt h9)).trans h9
    have hb := hbn
    clear hcn hbn
    refine hK.out _ _ hb (fun hHeld => ?_)
    clear hK K
    try simp only [Act.put, sA, sB, sC]
    refine wpAnyH_ready (rs := [10]) (by kernel_rfl) (by simp) ?_
    refine (AllReadyH.cons (o := ⟨some 19, .call ⟨.value (.func 66), #[.tmp 18], #[99]⟩, 31, "ref.go:32", #[⟨9, .data⟩, ⟨7, .chain⟩], none⟩) rfl (fun K hK => ?_) AllReadyH.nil)
    have hps := pss5 q18 (bs_blk (l := [110, 111, 100, 101]) h9 rfl) (box_bs ((hb.block g3 y3).trans H3.out) HDL.out) k13.1 k16.1 (box_bs ((hb.block (g3 + 1) y4).trans H4.out) HDR.out)
    go_simp
    refine (refJoin_any _ _ _ hps (by have e1 := HDL.out; have e2 := HDR.out; have e3 := HK.out.2; simp only [jlen, List.length_cons, List.length_nil, be8_len, e1, e2]; omega)).mono ?_
    rintro e cu ⟨v19, rfl, hk19, hb4⟩
    have k19 := Bs_of_own hk19
    obtain ⟨a19, c19, rfl⟩ := ownsRow_slc hk19
    have hb := hb.trans (hb4.mono hb.size)
    clear hb4 hps hk19
    go_wp2_with fail
    refine hK.out _ _ hb (fun hHeld => ?_)
    clear hK K
    try simp only [Act.put, sA, sB, sC]
    refine tk (i := 11) (oi := ⟨some 8, .assign (.tmp 19), 31, "ref.go:32", #[⟨10, .data⟩, ⟨10, .chain⟩, ⟨0, .phase⟩, ⟨1, .phase⟩, ⟨2, .phase⟩, ⟨3, .phase⟩, ⟨4, .phase⟩, ⟨5, .phase⟩, ⟨6, .phase⟩, ⟨7, .phase⟩, ⟨8, .phase⟩, ⟨9, .phase⟩, ⟨10, .phase⟩], none⟩) (v := ?_) (Or.inl ⟨by rfl, ?_⟩) ?_
    rotate_left 1
    ·(intro u hSw; go_simp; try with_reducible rfl)
    try simp only [Act.put, sA, sB, sC]
    refine wpAnyH_done (by kernel_rfl) ?_ _
    have HF := hid (And.intro k19 hb)
    clear k19 hb h9 q9 k13 k16 q18
    go_wp2_with fail
    go_ret
    exact ⟨_, rfl, HF.out.1, by rw [hG3]; exact HB0.out.1.trans (HF.out.2.mono (by have := HB0.out.2; omega))⟩
   ·try (generalize World.drew u0 = ud at *)
    go_simp
    refine (refNum7_any n _ (by have := HN.out; omega)).mono ?_
    rintro e cu ⟨v16, rfl, ho16, hb4⟩
    have k16 := (own_kis (l := be8 n) (by rw [be8_len]; exact ho16)).bound
    try (have l9 := blk_lt h9)
    obtain ⟨a16, c16, rfl⟩ := k16.form
    try (have k13 := k13.below hb4)
    try (have h9 := (hb4.block _ (blk_lt h9)).trans h9)
    have l16 := hb.size
    have z16 := hb4.size
    have hb := hb.trans (hb4.mono hb.size)
    clear hb4 ho16
    go_wp2_with fail
    refine hK.out _ _ hb (fun hHeld => ?_)
    clear hK K
    try simp only [Act.put, sA, sB, sC]
    refine wpAnyH_ready (rs := [1]) (by kernel_rfl) (by simp) ?_
    refine (AllReadyH.cons (o := ⟨some 10, .convert 31 31 (.tmp 9), 31, "ref.go:32", #[⟨0, .data⟩], none⟩) rfl (fun K hK => ?_) AllReadyH.nil)
    try (generalize World.drew u0 = ud at *)
    obtain ⟨nu, hrn, q9, hcn⟩ := run_mark _ _ 4 4 _ h9
    have hb := hb.trans (hcn.below (B := u0.heap.size) (fun q e => by omega) hb.size)
    try (have k13 := k13.cg hcn (fun q _ hs e => by have hs2 : _ ∧ _ := hs; omega))
    try (have k16 := k16.cg hcn (fun q _ hs e => by have hs2 : _ ∧ _ := hs; omega))
    have h9 := q9
    clear hcn
    go_simp
    try rw [hrn]
    try simp only [Result.andThen]
    try rw [Oper.upon_value]
    clear hrn
    refine hK.out _ _ hb (fun hHeld => ?_)
    clear hK K
    try simp only [Act.put, sA, sB, sC]
    refine wpAnyH_ready (rs := [9]) (by kernel_rfl) (by simp) ?_
    refine (AllReadyH.cons (o := ⟨some 18, .buildSlice 99 5 #[(0, .tmp 10), (1, .tmp 11), (2, .tmp 13), (3, .tmp 16), (4, .tmp 17)], 99, "ref.go:32", #[⟨1, .data⟩, ⟨2, .data⟩, ⟨4, .data⟩, ⟨7, .data⟩, ⟨8, .data⟩], none⟩) rfl (fun K hK => ?_) AllReadyH.nil)
    try (generalize World.drew u0 = ud at *)
    go_simp
    refine al_step2 hb (fun nu hbn q18 hcn => ?_)
    have k13 := k13.below hcn
    have k16 := k16.below hcn
    have h9 := (hcn.block _ (blk_lt h9)).trans h9
    have hb := hbn
    clear hcn hbn
    refine hK.out _ _ hb (fun hHeld => ?_)
    clear hK K
    try simp only [Act.put, sA, sB, sC]
    refine wpAnyH_ready (rs := [10]) (by kernel_rfl) (by simp) ?_
    refine (AllReadyH.cons (o := ⟨some 19, .call ⟨.value (.func 66), #[.tmp 18], #[99]⟩, 31, "ref.go:32", #[⟨9, .data⟩, ⟨7, .chain⟩], none⟩) rfl (fun K hK => ?_) AllReadyH.nil)
    have hps := pss5 q18 (bs_blk (l := [110, 111, 100, 101]) h9 rfl) (box_bs ((hb.block g3 y3).trans H3.out) HDL.out) k13.1 k16.1 (box_bs ((hb.block (g3 + 1) y4).trans H4.out) HDR.out)
    go_simp
    refine (refJoin_any _ _ _ hps (by have e1 := HDL.out; have e2 := HDR.out; have e3 := HK.out.2; simp only [jlen, List.length_cons, List.length_nil, be8_len, e1, e2]; omega)).mono ?_
    rintro e cu ⟨v19, rfl, hk19, hb4⟩
    have k19 := Bs_of_own hk19
    obtain ⟨a19, c19, rfl⟩ := ownsRow_slc hk19
    have hb := hb.trans (hb4.mono hb.size)
    clear hb4 hps hk19
    go_wp2_with fail
    refine hK.out _ _ hb (fun hHeld => ?_)
    clear hK K
    try simp only [Act.put, sA, sB, sC]
    refine tk (i := 11) (oi := ⟨some 8, .assign (.tmp 19), 31, "ref.go:32", #[⟨10, .data⟩, ⟨10, .chain⟩, ⟨0, .phase⟩, ⟨1, .phase⟩, ⟨2, .phase⟩, ⟨3, .phase⟩, ⟨4, .phase⟩, ⟨5, .phase⟩, ⟨6, .phase⟩, ⟨7, .phase⟩, ⟨8, .phase⟩, ⟨9, .phase⟩, ⟨10, .phase⟩], none⟩) (v := ?_) (Or.inl ⟨by rfl, ?_⟩) ?_
    rotate_left 1
    ·(intro u hSw; go_simp; try with_reducible rfl)
    try simp only [Act.put, sA, sB, sC]
    refine wpAnyH_done (by kernel_rfl) ?_ _
    have HF := hid (And.intro k19 hb)
    clear k19 hb h9 q9 k13 k16 q18
    go_wp2_with fail
    go_ret
    exact ⟨_, rfl, HF.out.1, by rw [hG3]; exact HB0.out.1.trans (HF.out.2.mono (by have := HB0.out.2; omega))⟩
  ·try (generalize World.drew u0 = ud at *)
   go_simp
   refine (refNum7_any n _ (by have := HN.out; omega)).mono ?_
   rintro e cu ⟨v16, rfl, ho16, hb4⟩
   have k16 := (own_kis (l := be8 n) (by rw [be8_len]; exact ho16)).bound
   try (have l9 := blk_lt h9)
   obtain ⟨a16, c16, rfl⟩ := k16.form
   try (have k13 := k13.below hb4)
   try (have h9 := (hb4.block _ (blk_lt h9)).trans h9)
   have l16 := hb.size
   have z16 := hb4.size
   have hb := hb.trans (hb4.mono hb.size)
   clear hb4 ho16
   go_wp2_with fail
   refine hK.out _ _ hb (fun hHeld => ?_)
   clear hK K
   try simp only [Act.put, sA, sB, sC]
   refine wpAnyH_ready (rs := [0]) (by kernel_rfl) (by simp) ?_
   refine (AllReadyH.cons (o := ⟨some 9, .buildSlice 31 4 #[(0, .const (Value.int IntKind.u8 110)), (1, .const (Value.int IntKind.u8 111)), (2, .const (Value.int IntKind.u8 100)), (3, .const (Value.int IntKind.u8 101))], 31, "ref.go:32", #[], none⟩) rfl (fun K hK => ?_) AllReadyH.nil)
   try (generalize World.drew u0 = ud at *)
   go_simp
   refine al_step2 hb (fun nu hbn q9 hb4 => ?_)
   try (rw [show (World.drew u0).heap.size = u0.heap.size from rfl] at q9)
   have lo9 := hb.size
   try (have k13 := k13.below hb4)
   try (have k16 := k16.below hb4)
   have h9 := q9
   have hb := hbn
   clear hb4 hbn
   refine hK.out _ _ hb (fun hHeld => ?_)
   clear hK K
   try simp only [Act.put, sA, sB, sC]
   refine wpAnyH_ready (rs := [1]) (by kernel_rfl) (by simp) ?_
   refine (AllReadyH.cons (o := ⟨some 10, .convert 31 31 (.tmp 9), 31, "ref.go:32", #[⟨0, .data⟩], none⟩) rfl (fun K hK => ?_) AllReadyH.nil)
   try (generalize World.drew u0 = ud at *)
   obtain ⟨nu, hrn, q9, hcn⟩ := run_mark _ _ 4 4 _ h9
   have hb := hb.trans (hcn.below (B := u0.heap.size) (fun q e => by omega) hb.size)
   try (have k13 := k13.cg hcn (fun q _ hs e => by have hs2 : _ ∧ _ := hs; omega))
   try (have k16 := k16.cg hcn (fun q _ hs e => by have hs2 : _ ∧ _ := hs; omega))
   have h9 := q9
   clear hcn
   go_simp
   try rw [hrn]
   try simp only [Result.andThen]
   try rw [Oper.upon_value]
   clear hrn
   refine hK.out _ _ hb (fun hHeld => ?_)
   clear hK K
   try simp only [Act.put, sA, sB, sC]
   refine wpAnyH_ready (rs := [9]) (by kernel_rfl) (by simp) ?_
   refine (AllReadyH.cons (o := ⟨some 18, .buildSlice 99 5 #[(0, .tmp 10), (1, .tmp 11), (2, .tmp 13), (3, .tmp 16), (4, .tmp 17)], 99, "ref.go:32", #[⟨1, .data⟩, ⟨2, .data⟩, ⟨4, .data⟩, ⟨7, .data⟩, ⟨8, .data⟩], none⟩) rfl (fun K hK => ?_) AllReadyH.nil)
   try (generalize World.drew u0 = ud at *)
   go_simp
   refine al_step2 hb (fun nu hbn q18 hcn => ?_)
   have k13 := k13.below hcn
   have k16 := k16.below hcn
   have h9 := (hcn.block _ (blk_lt h9)).trans h9
   have hb := hbn
   clear hcn hbn
   refine hK.out _ _ hb (fun hHeld => ?_)
   clear hK K
   try simp only [Act.put, sA, sB, sC]
   refine wpAnyH_ready (rs := [10]) (by kernel_rfl) (by simp) ?_
   refine (AllReadyH.cons (o := ⟨some 19, .call ⟨.value (.func 66), #[.tmp 18], #[99]⟩, 31, "ref.go:32", #[⟨9, .data⟩, ⟨7, .chain⟩], none⟩) rfl (fun K hK => ?_) AllReadyH.nil)
   have hps := pss5 q18 (bs_blk (l := [110, 111, 100, 101]) h9 rfl) (box_bs ((hb.block g3 y3).trans H3.out) HDL.out) k13.1 k16.1 (box_bs ((hb.block (g3 + 1) y4).trans H4.out) HDR.out)
   go_simp
   refine (refJoin_any _ _ _ hps (by have e1 := HDL.out; have e2 := HDR.out; have e3 := HK.out.2; simp only [jlen, List.length_cons, List.length_nil, be8_len, e1, e2]; omega)).mono ?_
   rintro e cu ⟨v19, rfl, hk19, hb4⟩
   have k19 := Bs_of_own hk19
   obtain ⟨a19, c19, rfl⟩ := ownsRow_slc hk19
   have hb := hb.trans (hb4.mono hb.size)
   clear hb4 hps hk19
   go_wp2_with fail
   refine hK.out _ _ hb (fun hHeld => ?_)
   clear hK K
   try simp only [Act.put, sA, sB, sC]
   refine tk (i := 11) (oi := ⟨some 8, .assign (.tmp 19), 31, "ref.go:32", #[⟨10, .data⟩, ⟨10, .chain⟩, ⟨0, .phase⟩, ⟨1, .phase⟩, ⟨2, .phase⟩, ⟨3, .phase⟩, ⟨4, .phase⟩, ⟨5, .phase⟩, ⟨6, .phase⟩, ⟨7, .phase⟩, ⟨8, .phase⟩, ⟨9, .phase⟩, ⟨10, .phase⟩], none⟩) (v := ?_) (Or.inl ⟨by rfl, ?_⟩) ?_
   rotate_left 1
   ·(intro u hSw; go_simp; try with_reducible rfl)
   try simp only [Act.put, sA, sB, sC]
   refine wpAnyH_done (by kernel_rfl) ?_ _
   have HF := hid (And.intro k19 hb)
   clear k19 hb h9 q9 k13 k16 q18
   go_wp2_with fail
   go_ret
   exact ⟨_, rfl, HF.out.1, by rw [hG3]; exact HB0.out.1.trans (HF.out.2.mono (by have := HB0.out.2; omega))⟩
 ·try (generalize World.drew u0 = ud at *)
  go_simp
  refine (refNum7_any n _ (by have := HN.out; omega)).mono ?_
  rintro e cu ⟨v16, rfl, ho16, hb4⟩
  have k16 := (own_kis (l := be8 n) (by rw [be8_len]; exact ho16)).bound
  try (have l9 := blk_lt h9)
  obtain ⟨a16, c16, rfl⟩ := k16.form
  try (have k13 := k13.below hb4)
  try (have h9 := (hb4.block _ (blk_lt h9)).trans h9)
  have l16 := hb.size
  have z16 := hb4.size
  have hb := hb.trans (hb4.mono hb.size)
  clear hb4 ho16
  go_wp2_with fail
  refine hK.out _ _ hb (fun hHeld => ?_)
  clear hK K
  try simp only [Act.put, sA, sB, sC]
  refine wpAnyH_ready (rs := [0, 4]) (by kernel_rfl) (by simp) ?_
  refine (AllReadyH.cons (o := ⟨some 9, .buildSlice 31 4 #[(0, .const (Value.int IntKind.u8 110)), (1, .const (Value.int IntKind.u8 111)), (2, .const (Value.int IntKind.u8 100)), (3, .const (Value.int IntKind.u8 101))], 31, "ref.go:32", #[], none⟩) rfl (fun K hK => ?_) (AllReadyH.cons (o := ⟨some 13, .convert 9 31 (.tmp 12), 31, "ref.go:32", #[⟨3, .data⟩], none⟩) rfl (fun K hK => ?_) AllReadyH.nil))
  ·try (generalize World.drew u0 = ud at *)
   go_simp
   refine al_step2 hb (fun nu hbn q9 hb4 => ?_)
   try (rw [show (World.drew u0).heap.size = u0.heap.size from rfl] at q9)
   have lo9 := hb.size
   try (have k13 := k13.below hb4)
   try (have k16 := k16.below hb4)
   have h9 := q9
   have hb := hbn
   clear hb4 hbn
   refine hK.out _ _ hb (fun hHeld => ?_)
   clear hK K
   try simp only [Act.put, sA, sB, sC]
   refine wpAnyH_ready (rs := [1, 4]) (by kernel_rfl) (by simp) ?_
   refine (AllReadyH.cons (o := ⟨some 10, .convert 31 31 (.tmp 9), 31, "ref.go:32", #[⟨0, .data⟩], none⟩) rfl (fun K hK => ?_) (AllReadyH.cons (o := ⟨some 13, .convert 9 31 (.tmp 12), 31, "ref.go:32", #[⟨3, .data⟩], none⟩) rfl (fun K hK => ?_) AllReadyH.nil))
   ·try (generalize World.drew u0 = ud at *)
    obtain ⟨nu, hrn, q9, hcn⟩ := run_mark _ _ 4 4 _ h9
    have hb := hb.trans (hcn.below (B := u0.heap.size) (fun q e => by omega) hb.size)
    try (have k13 := k13.cg hcn (fun q _ hs e => by have hs2 : _ ∧ _ := hs; omega))
    try (have k16 := k16.cg hcn (fun q _ hs e => by have hs2 : _ ∧ _ := hs; omega))
    have h9 := q9
    clear hcn
    go_simp
    try rw [hrn]
    try simp only [Result.andThen]
    try rw [Oper.upon_value]
    clear hrn
    refine hK.out _ _ hb (fun hHeld => ?_)
    clear hK K
    try simp only [Act.put, sA, sB, sC]
    refine wpAnyH_ready (rs := [4]) (by kernel_rfl) (by simp) ?_
    refine (AllReadyH.cons (o := ⟨some 13, .convert 9 31 (.tmp 12), 31, "ref.go:32", #[⟨3, .data⟩], none⟩) rfl (fun K hK => ?_) AllReadyH.nil)
    try (generalize World.drew u0 = ud at *)
    obtain ⟨nu, a13, c13, q13, hb4, k13⟩ := conv_kis _ k HK.out.1
    refine step_of_runP (by rfl) (exec_convP 9 31 (Operand.tmp 12) (by rfl) _ (by rfl) _ q13) ?_
    have k13 := k13.bound
    try (have l9 := blk_lt h9)
    try (have k16 := k16.below hb4)
    try (have h9 := (hb4.block _ (blk_lt h9)).trans h9)
    have l13 := hb.size
    have z13 := hb4.size
    have hb := hb.trans (hb4.mono hb.size)
    clear hb4 q13
    refine hK.out _ _ hb (fun hHeld => ?_)
    clear hK K
    try simp only [Act.put, sA, sB, sC]
    refine wpAnyH_ready (rs := [9]) (by kernel_rfl) (by simp) ?_
    refine (AllReadyH.cons (o := ⟨some 18, .buildSlice 99 5 #[(0, .tmp 10), (1, .tmp 11), (2, .tmp 13), (3, .tmp 16), (4, .tmp 17)], 99, "ref.go:32", #[⟨1, .data⟩, ⟨2, .data⟩, ⟨4, .data⟩, ⟨7, .data⟩, ⟨8, .data⟩], none⟩) rfl (fun K hK => ?_) AllReadyH.nil)
    try (generalize World.drew u0 = ud at *)
    go_simp
    refine al_step2 hb (fun nu hbn q18 hcn => ?_)
    have k13 := k13.below hcn
    have k16 := k16.below hcn
    have h9 := (hcn.block _ (blk_lt h9)).trans h9
    have hb := hbn
    clear hcn hbn
    refine hK.out _ _ hb (fun hHeld => ?_)
    clear hK K
    try simp only [Act.put, sA, sB, sC]
    refine wpAnyH_ready (rs := [10]) (by kernel_rfl) (by simp) ?_
    refine (AllReadyH.cons (o := ⟨some 19, .call ⟨.value (.func 66), #[.tmp 18], #[99]⟩, 31, "ref.go:32", #[⟨9, .data⟩, ⟨7, .chain⟩], none⟩) rfl (fun K hK => ?_) AllReadyH.nil)
    have hps := pss5 q18 (bs_blk (l := [110, 111, 100, 101]) h9 rfl) (box_bs ((hb.block g3 y3).trans H3.out) HDL.out) k13.1 k16.1 (box_bs ((hb.block (g3 + 1) y4).trans H4.out) HDR.out)
    go_simp
    refine (refJoin_any _ _ _ hps (by have e1 := HDL.out; have e2 := HDR.out; have e3 := HK.out.2; simp only [jlen, List.length_cons, List.length_nil, be8_len, e1, e2]; omega)).mono ?_
    rintro e cu ⟨v19, rfl, hk19, hb4⟩
    have k19 := Bs_of_own hk19
    obtain ⟨a19, c19, rfl⟩ := ownsRow_slc hk19
    have hb := hb.trans (hb4.mono hb.size)
    clear hb4 hps hk19
    go_wp2_with fail
    refine hK.out _ _ hb (fun hHeld => ?_)
    clear hK K
    try simp only [Act.put, sA, sB, sC]
    refine tk (i := 11) (oi := ⟨some 8, .assign (.tmp 19), 31, "ref.go:32", #[⟨10, .data⟩, ⟨10, .chain⟩, ⟨0, .phase⟩, ⟨1, .phase⟩, ⟨2, .phase⟩, ⟨3, .phase⟩, ⟨4, .phase⟩, ⟨5, .phase⟩, ⟨6, .phase⟩, ⟨7, .phase⟩, ⟨8, .phase⟩, ⟨9, .phase⟩, ⟨10, .phase⟩], none⟩) (v := ?_) (Or.inl ⟨by rfl, ?_⟩) ?_
    rotate_left 1
    ·(intro u hSw; go_simp; try with_reducible rfl)
    try simp only [Act.put, sA, sB, sC]
    refine wpAnyH_done (by kernel_rfl) ?_ _
    have HF := hid (And.intro k19 hb)
    clear k19 hb h9 q9 k13 k16 q18
    go_wp2_with fail
    go_ret
    exact ⟨_, rfl, HF.out.1, by rw [hG3]; exact HB0.out.1.trans (HF.out.2.mono (by have := HB0.out.2; omega))⟩
   ·try (generalize World.drew u0 = ud at *)
    obtain ⟨nu, a13, c13, q13, hb4, k13⟩ := conv_kis _ k HK.out.1
    refine step_of_runP (by rfl) (exec_convP 9 31 (Operand.tmp 12) (by rfl) _ (by rfl) _ q13) ?_
    have k13 := k13.bound
    try (have l9 := blk_lt h9)
    try (have k16 := k16.below hb4)
    try (have h9 := (hb4.block _ (blk_lt h9)).trans h9)
    have l13 := hb.size
    have z13 := hb4.size
    have hb := hb.trans (hb4.mono hb.size)
    clear hb4 q13
    refine hK.out _ _ hb (fun hHeld => ?_)
    clear hK K
    try simp only [Act.put, sA, sB, sC]
    refine wpAnyH_ready (rs := [1]) (by kernel_rfl) (by simp) ?_
    refine (AllReadyH.cons (o := ⟨some 10, .convert 31 31 (.tmp 9), 31, "ref.go:32", #[⟨0, .data⟩], none⟩) rfl (fun K hK => ?_) AllReadyH.nil)
    try (generalize World.drew u0 = ud at *)
    obtain ⟨nu, hrn, q9, hcn⟩ := run_mark _ _ 4 4 _ h9
    have hb := hb.trans (hcn.below (B := u0.heap.size) (fun q e => by omega) hb.size)
    try (have k13 := k13.cg hcn (fun q _ hs e => by have hs2 : _ ∧ _ := hs; omega))
    try (have k16 := k16.cg hcn (fun q _ hs e => by have hs2 : _ ∧ _ := hs; omega))
    have h9 := q9
    clear hcn
    go_simp
    try rw [hrn]
    try simp only [Result.andThen]
    try rw [Oper.upon_value]
    clear hrn
    refine hK.out _ _ hb (fun hHeld => ?_)
    clear hK K
    try simp only [Act.put, sA, sB, sC]
    refine wpAnyH_ready (rs := [9]) (by kernel_rfl) (by simp) ?_
    refine (AllReadyH.cons (o := ⟨some 18, .buildSlice 99 5 #[(0, .tmp 10), (1, .tmp 11), (2, .tmp 13), (3, .tmp 16), (4, .tmp 17)], 99, "ref.go:32", #[⟨1, .data⟩, ⟨2, .data⟩, ⟨4, .data⟩, ⟨7, .data⟩, ⟨8, .data⟩], none⟩) rfl (fun K hK => ?_) AllReadyH.nil)
    try (generalize World.drew u0 = ud at *)
    go_simp
    refine al_step2 hb (fun nu hbn q18 hcn => ?_)
    have k13 := k13.below hcn
    have k16 := k16.below hcn
    have h9 := (hcn.block _ (blk_lt h9)).trans h9
    have hb := hbn
    clear hcn hbn
    refine hK.out _ _ hb (fun hHeld => ?_)
    clear hK K
    try simp only [Act.put, sA, sB, sC]
    refine wpAnyH_ready (rs := [10]) (by kernel_rfl) (by simp) ?_
    refine (AllReadyH.cons (o := ⟨some 19, .call ⟨.value (.func 66), #[.tmp 18], #[99]⟩, 31, "ref.go:32", #[⟨9, .data⟩, ⟨7, .chain⟩], none⟩) rfl (fun K hK => ?_) AllReadyH.nil)
    have hps := pss5 q18 (bs_blk (l := [110, 111, 100, 101]) h9 rfl) (box_bs ((hb.block g3 y3).trans H3.out) HDL.out) k13.1 k16.1 (box_bs ((hb.block (g3 + 1) y4).trans H4.out) HDR.out)
    go_simp
    refine (refJoin_any _ _ _ hps (by have e1 := HDL.out; have e2 := HDR.out; have e3 := HK.out.2; simp only [jlen, List.length_cons, List.length_nil, be8_len, e1, e2]; omega)).mono ?_
    rintro e cu ⟨v19, rfl, hk19, hb4⟩
    have k19 := Bs_of_own hk19
    obtain ⟨a19, c19, rfl⟩ := ownsRow_slc hk19
    have hb := hb.trans (hb4.mono hb.size)
    clear hb4 hps hk19
    go_wp2_with fail
    refine hK.out _ _ hb (fun hHeld => ?_)
    clear hK K
    try simp only [Act.put, sA, sB, sC]
    refine tk (i := 11) (oi := ⟨some 8, .assign (.tmp 19), 31, "ref.go:32", #[⟨10, .data⟩, ⟨10, .chain⟩, ⟨0, .phase⟩, ⟨1, .phase⟩, ⟨2, .phase⟩, ⟨3, .phase⟩, ⟨4, .phase⟩, ⟨5, .phase⟩, ⟨6, .phase⟩, ⟨7, .phase⟩, ⟨8, .phase⟩, ⟨9, .phase⟩, ⟨10, .phase⟩], none⟩) (v := ?_) (Or.inl ⟨by rfl, ?_⟩) ?_
    rotate_left 1
    ·(intro u hSw; go_simp; try with_reducible rfl)
    try simp only [Act.put, sA, sB, sC]
    refine wpAnyH_done (by kernel_rfl) ?_ _
    have HF := hid (And.intro k19 hb)
    clear k19 hb h9 q9 k13 k16 q18
    go_wp2_with fail
    go_ret
    exact ⟨_, rfl, HF.out.1, by rw [hG3]; exact HB0.out.1.trans (HF.out.2.mono (by have := HB0.out.2; omega))⟩
  ·try (generalize World.drew u0 = ud at *)
   obtain ⟨nu, a13, c13, q13, hb4, k13⟩ := conv_kis _ k HK.out.1
   refine step_of_runP (by rfl) (exec_convP 9 31 (Operand.tmp 12) (by rfl) _ (by rfl) _ q13) ?_
   have k13 := k13.bound
   try (have l9 := blk_lt h9)
   try (have k16 := k16.below hb4)
   try (have h9 := (hb4.block _ (blk_lt h9)).trans h9)
   have l13 := hb.size
   have z13 := hb4.size
   have hb := hb.trans (hb4.mono hb.size)
   clear hb4 q13
   refine hK.out _ _ hb (fun hHeld => ?_)
   clear hK K
   try simp only [Act.put, sA, sB, sC]
   refine wpAnyH_ready (rs := [0]) (by kernel_rfl) (by simp) ?_
   refine (AllReadyH.cons (o := ⟨some 9, .buildSlice 31 4 #[(0, .const (Value.int IntKind.u8 110)), (1, .const (Value.int IntKind.u8 111)), (2, .const (Value.int IntKind.u8 100)), (3, .const (Value.int IntKind.u8 101))], 31, "ref.go:32", #[], none⟩) rfl (fun K hK => ?_) AllReadyH.nil)
   try (generalize World.drew u0 = ud at *)
   go_simp
   refine al_step2 hb (fun nu hbn q9 hb4 => ?_)
   try (rw [show (World.drew u0).heap.size = u0.heap.size from rfl] at q9)
   have lo9 := hb.size
   try (have k13 := k13.below hb4)
   try (have k16 := k16.below hb4)
   have h9 := q9
   have hb := hbn
   clear hb4 hbn
   refine hK.out _ _ hb (fun hHeld => ?_)
   clear hK K
   try simp only [Act.put, sA, sB, sC]
   refine wpAnyH_ready (rs := [1]) (by kernel_rfl) (by simp) ?_
   refine (AllReadyH.cons (o := ⟨some 10, .convert 31 31 (.tmp 9), 31, "ref.go:32", #[⟨0, .data⟩], none⟩) rfl (fun K hK => ?_) AllReadyH.nil)
   try (generalize World.drew u0 = ud at *)
   obtain ⟨nu, hrn, q9, hcn⟩ := run_mark _ _ 4 4 _ h9
   have hb := hb.trans (hcn.below (B := u0.heap.size) (fun q e => by omega) hb.size)
   try (have k13 := k13.cg hcn (fun q _ hs e => by have hs2 : _ ∧ _ := hs; omega))
   try (have k16 := k16.cg hcn (fun q _ hs e => by have hs2 : _ ∧ _ := hs; omega))
   have h9 := q9
   clear hcn
   go_simp
   try rw [hrn]
   try simp only [Result.andThen]
   try rw [Oper.upon_value]
   clear hrn
   refine hK.out _ _ hb (fun hHeld => ?_)
   clear hK K
   try simp only [Act.put, sA, sB, sC]
   refine wpAnyH_ready (rs := [9]) (by kernel_rfl) (by simp) ?_
   refine (AllReadyH.cons (o := ⟨some 18, .buildSlice 99 5 #[(0, .tmp 10), (1, .tmp 11), (2, .tmp 13), (3, .tmp 16), (4, .tmp 17)], 99, "ref.go:32", #[⟨1, .data⟩, ⟨2, .data⟩, ⟨4, .data⟩, ⟨7, .data⟩, ⟨8, .data⟩], none⟩) rfl (fun K hK => ?_) AllReadyH.nil)
   try (generalize World.drew u0 = ud at *)
   go_simp
   refine al_step2 hb (fun nu hbn q18 hcn => ?_)
   have k13 := k13.below hcn
   have k16 := k16.below hcn
   have h9 := (hcn.block _ (blk_lt h9)).trans h9
   have hb := hbn
   clear hcn hbn
   refine hK.out _ _ hb (fun hHeld => ?_)
   clear hK K
   try simp only [Act.put, sA, sB, sC]
   refine wpAnyH_ready (rs := [10]) (by kernel_rfl) (by simp) ?_
   refine (AllReadyH.cons (o := ⟨some 19, .call ⟨.value (.func 66), #[.tmp 18], #[99]⟩, 31, "ref.go:32", #[⟨9, .data⟩, ⟨7, .chain⟩], none⟩) rfl (fun K hK => ?_) AllReadyH.nil)
   have hps := pss5 q18 (bs_blk (l := [110, 111, 100, 101]) h9 rfl) (box_bs ((hb.block g3 y3).trans H3.out) HDL.out) k13.1 k16.1 (box_bs ((hb.block (g3 + 1) y4).trans H4.out) HDR.out)
   go_simp
   refine (refJoin_any _ _ _ hps (by have e1 := HDL.out; have e2 := HDR.out; have e3 := HK.out.2; simp only [jlen, List.length_cons, List.length_nil, be8_len, e1, e2]; omega)).mono ?_
   rintro e cu ⟨v19, rfl, hk19, hb4⟩
   have k19 := Bs_of_own hk19
   obtain ⟨a19, c19, rfl⟩ := ownsRow_slc hk19
   have hb := hb.trans (hb4.mono hb.size)
   clear hb4 hps hk19
   go_wp2_with fail
   refine hK.out _ _ hb (fun hHeld => ?_)
   clear hK K
   try simp only [Act.put, sA, sB, sC]
   refine tk (i := 11) (oi := ⟨some 8, .assign (.tmp 19), 31, "ref.go:32", #[⟨10, .data⟩, ⟨10, .chain⟩, ⟨0, .phase⟩, ⟨1, .phase⟩, ⟨2, .phase⟩, ⟨3, .phase⟩, ⟨4, .phase⟩, ⟨5, .phase⟩, ⟨6, .phase⟩, ⟨7, .phase⟩, ⟨8, .phase⟩, ⟨9, .phase⟩, ⟨10, .phase⟩], none⟩) (v := ?_) (Or.inl ⟨by rfl, ?_⟩) ?_
   rotate_left 1
   ·(intro u hSw; go_simp; try with_reducible rfl)
   try simp only [Act.put, sA, sB, sC]
   refine wpAnyH_done (by kernel_rfl) ?_ _
   have HF := hid (And.intro k19 hb)
   clear k19 hb h9 q9 k13 k16 q18
   go_wp2_with fail
   go_ret
   exact ⟨_, rfl, HF.out.1, by rw [hG3]; exact HB0.out.1.trans (HF.out.2.mono (by have := HB0.out.2; omega))⟩
end Go.Proofs.YtbmlkocpjboodaaDoor
