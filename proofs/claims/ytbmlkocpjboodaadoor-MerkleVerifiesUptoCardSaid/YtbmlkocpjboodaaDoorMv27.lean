/- stage 7: sum, misses, entries of the reference -/
import Derived.Test.YtbmlkocpjboodaaDoorMv26
namespace Go.Proofs.YtbmlkocpjboodaaDoor
open Go.RowKit
open Go.Lib (hid)
set_option maxRecDepth 100000 in
set_option maxHeartbeats 8000000 in
theorem ptext_nd (w : World) (b bl br : Nat) (cut k : List Int) (n : Nat) (dl dr : List Int) (hp : PB w b 2 cut k (n : Int) (.pointer (some ⟨bl, 0, none⟩)) (.pointer (some ⟨br, 0, none⟩)))
  (hl : ∀ u, Below w.heap.size w u → Calls Tryd.prog 45 #[.pointer (some ⟨bl, 0, none⟩)] u fun e w' => e = .returned (.agg (ArrU8 dl)) ∧ Below u.heap.size u w')
  (hr : ∀ u, Below w.heap.size w u → Calls Tryd.prog 45 #[.pointer (some ⟨br, 0, none⟩)] u fun e w' => e = .returned (.agg (ArrU8 dr)) ∧ Below u.heap.size u w')
  (hdl : dl.length = 32) (hdr : dr.length = 32) (gk : Rng k) (hkl : k.length ≤ 65535) (hn : n < 9223372036854775808) :
  Calls Tryd.prog 73 #[.pointer (some ⟨b, 0, none⟩)] w fun e w' => ∃ v', e = .returned v' ∧ Bs w' v' (txtN k n dl dr) ∧ Below w.heap.size w w' := by
 have k0 := hp.c0
 have HC := hid (fun u (hu : Below w.heap.size w u) => (show u.cell? ⟨b, 33, none⟩ = some (.string (str k)) ∧ u.cell? ⟨b, 34, none⟩ = some (.int .i64 (n : Int)) ∧ u.cell? ⟨b, 35, none⟩ = some (.pointer (some ⟨bl, 0, none⟩)) ∧ u.cell? ⟨b, 36, none⟩ = some (.pointer (some ⟨br, 0, none⟩)) from ⟨(hp.below hu).ck, (hp.below hu).cn, (hp.below hu).cl, (hp.below hu).cr⟩))
 have HL := hid hl
 have HR := hid hr
 have HX := hid (And.intro hdl (And.intro hdr (And.intro gk (And.intro hkl hn))))
 have hb : Below w.heap.size w w.drew := (Below.refl _ _).drew
 clear hp hl hr hdl hdr gk hkl hn
 go_enter Tryd.func73, Tryd.ntmps73
 go_wp2_with fail
 refine wp_region_held_drew (S := fun u => Below w.heap.size w u) (by kernel_rfl) (hb) (fun hHeld => ?_)
 refine tk (i := 0) (oi := ⟨some 9, .move (.tmp 0), 83, "ref.go:196", #[], none⟩) (v := ?_) (Or.inl ⟨by rfl, ?_⟩) ?_
 rotate_left 1
 ·(intro u hSw; go_simp; try with_reducible rfl)
 try simp only [Act.put, sA, sB, sC]
 refine tk (i := 1) (oi := ⟨some 10, .nilCheck (.tmp 9), 0, "ref.go:196", #[⟨0, .data⟩], none⟩) (v := ?_) (Or.inl ⟨by rfl, ?_⟩) ?_
 rotate_left 1
 ·(intro u hSw; go_simp; try with_reducible rfl)
 try simp only [Act.put, sA, sB, sC]
 refine tk (i := 2) (oi := ⟨some 11, .fieldAddr 127 (.tmp 10) 3, 0, "ref.go:196", #[⟨1, .data⟩], none⟩) (v := ?_) (Or.inl ⟨by rfl, ?_⟩) ?_
 rotate_left 1
 ·(intro u hSw; go_simp; try with_reducible rfl)
 try simp only [Act.put, sA, sB, sC]
 refine tk (i := 3) (oi := ⟨some 12, .load 83 (.tmp 11), 83, "ref.go:196", #[⟨2, .data⟩], none⟩) (v := ?_) (Or.inl ⟨by rfl, ?_⟩) ?_
 rotate_left 1
 ·(intro u hSw; have y0 := (HC.out _ hSw).1; have y1 := (HC.out _ hSw).2.1; have y2 := (HC.out _ hSw).2.2.1; have y3 := (HC.out _ hSw).2.2.2; go_simp; try with_reducible rfl)
 try simp only [Act.put, sA, sB, sC]
 refine tk (i := 5) (oi := ⟨some 14, .move (.tmp 0), 83, "ref.go:196", #[], none⟩) (v := ?_) (Or.inl ⟨by rfl, ?_⟩) ?_
 rotate_left 1
 ·(intro u hSw; go_simp; try with_reducible rfl)
 try simp only [Act.put, sA, sB, sC]
 refine tk (i := 6) (oi := ⟨some 15, .nilCheck (.tmp 14), 0, "ref.go:196", #[⟨5, .data⟩], none⟩) (v := ?_) (Or.inl ⟨by rfl, ?_⟩) ?_
 rotate_left 1
 ·(intro u hSw; go_simp; try with_reducible rfl)
 try simp only [Act.put, sA, sB, sC]
 refine tk (i := 7) (oi := ⟨some 16, .fieldAddr 127 (.tmp 15) 2, 0, "ref.go:196", #[⟨6, .data⟩], none⟩) (v := ?_) (Or.inl ⟨by rfl, ?_⟩) ?_
 rotate_left 1
 ·(intro u hSw; go_simp; try with_reducible rfl)
 try simp only [Act.put, sA, sB, sC]
 refine tk (i := 8) (oi := ⟨some 17, .fieldAddr 45 (.tmp 16) 0, 0, "ref.go:196", #[⟨7, .data⟩], none⟩) (v := ?_) (Or.inl ⟨by rfl, ?_⟩) ?_
 rotate_left 1
 ·(intro u hSw; go_simp; try with_reducible rfl)
 try simp only [Act.put, sA, sB, sC]
 refine tk (i := 9) (oi := ⟨some 18, .load 9 (.tmp 17), 9, "ref.go:196", #[⟨8, .data⟩], none⟩) (v := ?_) (Or.inl ⟨by rfl, ?_⟩) ?_
 rotate_left 1
 ·(intro u hSw; have y0 := (HC.out _ hSw).1; have y1 := (HC.out _ hSw).2.1; have y2 := (HC.out _ hSw).2.2.1; have y3 := (HC.out _ hSw).2.2.2; go_simp; try with_reducible rfl)
 try simp only [Act.put, sA, sB, sC]
 refine tk (i := 10) (oi := ⟨some 19, .move (.tmp 0), 83, "ref.go:196", #[], none⟩) (v := ?_) (Or.inl ⟨by rfl, ?_⟩) ?_
 rotate_left 1
 ·(intro u hSw; go_simp; try with_reducible rfl)
 try simp only [Act.put, sA, sB, sC]
 refine tk (i := 11) (oi := ⟨some 20, .nilCheck (.tmp 19), 0, "ref.go:196", #[⟨10, .data⟩], none⟩) (v := ?_) (Or.inl ⟨by rfl, ?_⟩) ?_
 rotate_left 1
 ·(intro u hSw; go_simp; try with_reducible rfl)
 try simp only [Act.put, sA, sB, sC]
 refine tk (i := 12) (oi := ⟨some 21, .fieldAddr 127 (.tmp 20) 2, 0, "ref.go:196", #[⟨11, .data⟩], none⟩) (v := ?_) (Or.inl ⟨by rfl, ?_⟩) ?_
 rotate_left 1
 ·(intro u hSw; go_simp; try with_reducible rfl)
 try simp only [Act.put, sA, sB, sC]
 refine tk (i := 13) (oi := ⟨some 22, .fieldAddr 45 (.tmp 21) 1, 0, "ref.go:196", #[⟨12, .data⟩], none⟩) (v := ?_) (Or.inl ⟨by rfl, ?_⟩) ?_
 rotate_left 1
 ·(intro u hSw; go_simp; try with_reducible rfl)
 try simp only [Act.put, sA, sB, sC]
 refine tk (i := 14) (oi := ⟨some 23, .load 2 (.tmp 22), 2, "ref.go:196", #[⟨13, .data⟩], none⟩) (v := ?_) (Or.inl ⟨by rfl, ?_⟩) ?_
 rotate_left 1
 ·(intro u hSw; have y0 := (HC.out _ hSw).1; have y1 := (HC.out _ hSw).2.1; have y2 := (HC.out _ hSw).2.2.1; have y3 := (HC.out _ hSw).2.2.2; go_simp; try with_reducible rfl)
 try simp only [Act.put, sA, sB, sC]
 refine tk (i := 15) (oi := ⟨some 24, .move (.tmp 0), 83, "ref.go:196", #[], none⟩) (v := ?_) (Or.inl ⟨by rfl, ?_⟩) ?_
 rotate_left 1
 ·(intro u hSw; go_simp; try with_reducible rfl)
 try simp only [Act.put, sA, sB, sC]
 refine tk (i := 16) (oi := ⟨some 25, .nilCheck (.tmp 24), 0, "ref.go:196", #[⟨15, .data⟩], none⟩) (v := ?_) (Or.inl ⟨by rfl, ?_⟩) ?_
 rotate_left 1
 ·(intro u hSw; go_simp; try with_reducible rfl)
 try simp only [Act.put, sA, sB, sC]
 refine tk (i := 17) (oi := ⟨some 26, .fieldAddr 127 (.tmp 25) 4, 0, "ref.go:196", #[⟨16, .data⟩], none⟩) (v := ?_) (Or.inl ⟨by rfl, ?_⟩) ?_
 rotate_left 1
 ·(intro u hSw; go_simp; try with_reducible rfl)
 try simp only [Act.put, sA, sB, sC]
 refine tk (i := 18) (oi := ⟨some 27, .load 83 (.tmp 26), 83, "ref.go:196", #[⟨17, .data⟩], none⟩) (v := ?_) (Or.inl ⟨by rfl, ?_⟩) ?_
 rotate_left 1
 ·(intro u hSw; have y0 := (HC.out _ hSw).1; have y1 := (HC.out _ hSw).2.1; have y2 := (HC.out _ hSw).2.2.1; have y3 := (HC.out _ hSw).2.2.2; go_simp; try with_reducible rfl)
 try simp only [Act.put, sA, sB, sC]
 refine wpAnyH_ready (rs := [4]) (by kernel_rfl) (by simp) ?_
 refine (AllReadyH.cons (o := ⟨some 13, .call ⟨.value (.func 45), #[.tmp 12], #[83]⟩, 35, "ref.go:196", #[⟨3, .data⟩], none⟩) rfl (fun K hK => ?_) AllReadyH.nil)
 try (generalize World.drew w = ud at *)
 go_simp
 refine (HL.out _ hb).mono ?_
 rintro d cu ⟨rfl, hb4⟩
 have hb := hb.trans (hb4.mono hb.size)
 clear hb4
 go_wp2_with fail
 refine hK.out _ _ hb (fun hHeld => ?_)
 clear hK K
 try simp only [Act.put, sA, sB, sC]
 refine wpAnyH_ready (rs := [19]) (by kernel_rfl) (by simp) ?_
 refine (AllReadyH.cons (o := ⟨some 28, .call ⟨.value (.func 45), #[.tmp 27], #[83]⟩, 35, "ref.go:196", #[⟨18, .data⟩, ⟨4, .chain⟩], none⟩) rfl (fun K hK => ?_) AllReadyH.nil)
 try (generalize World.drew w = ud at *)
 go_simp
 refine (HR.out _ hb).mono ?_
 rintro d cu ⟨rfl, hb4⟩
 have hb := hb.trans (hb4.mono hb.size)
 clear hb4
 go_wp2_with fail
 refine hK.out _ _ hb (fun hHeld => ?_)
 clear hK K
 try simp only [Act.put, sA, sB, sC]
 refine wpAnyH_ready (rs := [20]) (by kernel_rfl) (by simp) ?_
 refine (AllReadyH.cons (o := ⟨some 29, .call ⟨.value (.func 37), #[.tmp 13, .tmp 18, .tmp 23, .tmp 28], #[35, 9, 2, 35]⟩, 31, "ref.go:196", #[⟨4, .data⟩, ⟨9, .data⟩, ⟨14, .data⟩, ⟨19, .data⟩, ⟨19, .chain⟩], none⟩) rfl (fun K hK => ?_) AllReadyH.nil)
 go_simp
 refine (refText_any _ dl dr k n HX.out.1 HX.out.2.1 HX.out.2.2.1 HX.out.2.2.2.1 HX.out.2.2.2.2).mono ?_
 rintro d cu ⟨v9, rfl, hbs, hb4⟩
 have HBS := hid hbs
 obtain ⟨a9, c9, rfl⟩ : ∃ a c, v9 = .slice a (txtN k n dl dr).length c := by obtain ⟨a, c, h, _⟩ := hbs; exact ⟨a, c, h⟩
 have hb := hb.trans (hb4.mono hb.size)
 clear hb4 hbs
 go_wp2_with fail
 refine hK.out _ _ hb (fun hHeld => ?_)
 clear hK K
 try simp only [Act.put, sA, sB, sC]
 refine tk (i := 21) (oi := ⟨some 2, .assign (.tmp 29), 31, "ref.go:196", #[⟨20, .data⟩, ⟨20, .chain⟩, ⟨0, .phase⟩, ⟨1, .phase⟩, ⟨2, .phase⟩, ⟨3, .phase⟩, ⟨4, .phase⟩, ⟨5, .phase⟩, ⟨6, .phase⟩, ⟨7, .phase⟩, ⟨8, .phase⟩, ⟨9, .phase⟩, ⟨10, .phase⟩, ⟨11, .phase⟩, ⟨12, .phase⟩, ⟨13, .phase⟩, ⟨14, .phase⟩, ⟨15, .phase⟩, ⟨16, .phase⟩, ⟨17, .phase⟩, ⟨18, .phase⟩, ⟨19, .phase⟩, ⟨20, .phase⟩], none⟩) (v := ?_) (Or.inl ⟨by rfl, ?_⟩) ?_
 rotate_left 1
 ·(intro u hSw; go_simp; try with_reducible rfl)
 try simp only [Act.put, sA, sB, sC]
 refine wpAnyH_done (by kernel_rfl) ?_ _
 have HE := hid hb
 clear hb hHeld
 go_wp2_with fail
 go_ret
 exact ⟨_, rfl, HBS.out, HE.out⟩
theorem psum_any {B : Nat} : ∀ (t : MT) (v : Value) (w : World), PTs w B v t → t.Good → Calls Tryd.prog 45 #[v] w fun e w' => e = .returned (.agg (ArrU8 t.dg)) ∧ Below w.heap.size w w'
 | .nil, v, w, ⟨b, e, _, hp⟩, _ => by
  subst e
  exact psum_of w b 0 _ _ _ _ _ hp (by decide) txt0 (by decide) (fun u hu => ptext_nil u b _ _ _ _ _ (hp.below hu))
 | .cut d, v, w, ⟨b, e, _, hp⟩, _ => by
  subst e
  exact psum_cut w b d _ _ _ _ hp
 | .nd k n rk d l r, v, w, ⟨b, lp, rp, e, _, hp, hl, hr⟩, hg => by
  subst e
  obtain ⟨hd, gl, gr, hkl, gk, hn, -, -⟩ := hg
  obtain ⟨bl, rfl⟩ := hl.form
  obtain ⟨br, rfl⟩ := hr.form
  show Calls _ _ _ _ fun e w' => e = .returned (.agg (ArrU8 d)) ∧ _
  rw [hd]
  exact psum_of w b 2 _ _ _ _ _ hp (by decide) (txtN k n l.dg r.dg) (by rw [txtN_len, gl.dlen, gr.dlen]; omega) (fun u hu => ptext_nd u b bl br _ k n l.dg r.dg (hp.below hu) (fun u2 hu2 => psum_any l _ u2 ((hl.below hu).below hu2) gl) (fun u2 hu2 => psum_any r _ u2 ((hr.below hu).below hu2) gr) gl.dlen gr.dlen gk hkl hn)
set_option maxRecDepth 100000 in
set_option maxHeartbeats 8000000 in
theorem pmiss_nil (w : World) (b : Nat) (cut k : List Int) (n : Int) (lp rp : Value) (lo hi fr to : List Int) (low up e : Bool) (hp : PB w b 0 cut k n lp rp) :
  Calls Tryd.prog 44 #[.pointer (some ⟨b, 0, none⟩), .string (str lo), .string (str hi), .bool low, .bool up, .string (str fr), .string (str to), .bool e] w fun d w' => d = .returned (.bool true) ∧ Below w.heap.size w w' := by
 have k0 := hp.c0
 clear hp
 go_enter Tryd.func44, Tryd.ntmps44
 go_wp2_with fail
 go_ret
 exact ⟨rfl, Below.refl _ _⟩
set_option maxRecDepth 100000 in
set_option maxHeartbeats 8000000 in
theorem pmiss_cut (w : World) (b : Nat) (cut k : List Int) (n : Int) (lp rp : Value) (lo hi fr to : List Int) (low up e : Bool) (hp : PB w b 1 cut k n lp rp) (glo : Rng lo) (ghi : Rng hi) (gf : Rng fr) (gt : Rng to) :
  Calls Tryd.prog 44 #[.pointer (some ⟨b, 0, none⟩), .string (str lo), .string (str hi), .bool low, .bool up, .string (str fr), .string (str to), .bool e] w fun d w' => d = .returned (.bool (missQ lo hi low up fr to e)) ∧ Below w.heap.size w w' := by
 have k0 := hp.c0
 have HM := hid (refMisses_any w lo hi fr to low up e glo ghi gf gt)
 generalize missQ lo hi low up fr to e = q at *
 clear hp glo ghi gf gt
 go_enter Tryd.func44, Tryd.ntmps44
 go_wp2_with fail
 refine HM.out.mono ?_
 rintro d w1 ⟨rfl, rfl⟩
 clear HM
 go_wp2_with fail
 go_ret
 exact ⟨rfl, Below.refl _ _⟩
set_option maxRecDepth 100000 in
set_option maxHeartbeats 8000000 in
theorem pmiss_nd (w : World) (b bl br : Nat) (cut k : List Int) (n : Nat) (lo hi fr to : List Int) (low up e mL mR : Bool) (hp : PB w b 2 cut k (n : Int) (.pointer (some ⟨bl, 0, none⟩)) (.pointer (some ⟨br, 0, none⟩)))
  (hl : ∀ u, Below w.heap.size w u → Calls Tryd.prog 44 #[.pointer (some ⟨bl, 0, none⟩), .string (str lo), .string (str k), .bool low, .bool true, .string (str fr), .string (str to), .bool e] u fun d w' => d = .returned (.bool mL) ∧ Below u.heap.size u w')
  (hr : ∀ u, Below w.heap.size w u → Calls Tryd.prog 44 #[.pointer (some ⟨br, 0, none⟩), .string (str k), .string (str hi), .bool true, .bool up, .string (str fr), .string (str to), .bool e] u fun d w' => d = .returned (.bool mR) ∧ Below u.heap.size u w') :
  Calls Tryd.prog 44 #[.pointer (some ⟨b, 0, none⟩), .string (str lo), .string (str hi), .bool low, .bool up, .string (str fr), .string (str to), .bool e] w fun d w' => d = .returned (.bool (mL && mR)) ∧ Below w.heap.size w w' := by
 have k0 := hp.c0
 have HC := hid (fun u (hu : Below w.heap.size w u) => (show u.cell? ⟨b, 33, none⟩ = some (.string (str k)) ∧ u.cell? ⟨b, 34, none⟩ = some (.int .i64 (n : Int)) ∧ u.cell? ⟨b, 35, none⟩ = some (.pointer (some ⟨bl, 0, none⟩)) ∧ u.cell? ⟨b, 36, none⟩ = some (.pointer (some ⟨br, 0, none⟩)) from ⟨(hp.below hu).ck, (hp.below hu).cn, (hp.below hu).cl, (hp.below hu).cr⟩))
 have HL := hid hl
 have HR := hid hr
 have hb : Below w.heap.size w w.drew := (Below.refl _ _).drew
 clear hp hl hr
 cases mL with
 | true =>
  rw [Bool.true_and]
  go_enter Tryd.func44, Tryd.ntmps44
  go_wp2_with fail
  refine wp_region_held_drew (S := fun u => Below w.heap.size w u) (by kernel_rfl) (hb) (fun hHeld => ?_)
  refine tk (i := 0) (oi := ⟨some 33, .move (.tmp 0), 83, "ref.go:216", #[], none⟩) (v := ?_) (Or.inl ⟨by rfl, ?_⟩) ?_
  rotate_left 1
  ·(intro u hSw; go_simp; try with_reducible rfl)
  try simp only [Act.put, sA, sB, sC]
  refine tk (i := 1) (oi := ⟨some 34, .nilCheck (.tmp 33), 0, "ref.go:216", #[⟨0, .data⟩], none⟩) (v := ?_) (Or.inl ⟨by rfl, ?_⟩) ?_
  rotate_left 1
  ·(intro u hSw; go_simp; try with_reducible rfl)
  try simp only [Act.put, sA, sB, sC]
  refine tk (i := 2) (oi := ⟨some 35, .fieldAddr 127 (.tmp 34) 3, 0, "ref.go:216", #[⟨1, .data⟩], none⟩) (v := ?_) (Or.inl ⟨by rfl, ?_⟩) ?_
  rotate_left 1
  ·(intro u hSw; go_simp; try with_reducible rfl)
  try simp only [Act.put, sA, sB, sC]
  refine tk (i := 3) (oi := ⟨some 36, .load 83 (.tmp 35), 83, "ref.go:216", #[⟨2, .data⟩], none⟩) (v := ?_) (Or.inl ⟨by rfl, ?_⟩) ?_
  rotate_left 1
  ·(intro u hSw; have y0 := (HC.out _ hSw).1; have y1 := (HC.out _ hSw).2.1; have y2 := (HC.out _ hSw).2.2.1; have y3 := (HC.out _ hSw).2.2.2; go_simp; try with_reducible rfl)
  try simp only [Act.put, sA, sB, sC]
  refine tk (i := 4) (oi := ⟨some 37, .move (.tmp 1), 9, "ref.go:216", #[], none⟩) (v := ?_) (Or.inl ⟨by rfl, ?_⟩) ?_
  rotate_left 1
  ·(intro u hSw; go_simp; try with_reducible rfl)
  try simp only [Act.put, sA, sB, sC]
  refine tk (i := 5) (oi := ⟨some 38, .move (.tmp 0), 83, "ref.go:216", #[], none⟩) (v := ?_) (Or.inl ⟨by rfl, ?_⟩) ?_
  rotate_left 1
  ·(intro u hSw; go_simp; try with_reducible rfl)
  try simp only [Act.put, sA, sB, sC]
  refine tk (i := 6) (oi := ⟨some 39, .nilCheck (.tmp 38), 0, "ref.go:216", #[⟨5, .data⟩], none⟩) (v := ?_) (Or.inl ⟨by rfl, ?_⟩) ?_
  rotate_left 1
  ·(intro u hSw; go_simp; try with_reducible rfl)
  try simp only [Act.put, sA, sB, sC]
  refine tk (i := 7) (oi := ⟨some 40, .fieldAddr 127 (.tmp 39) 2, 0, "ref.go:216", #[⟨6, .data⟩], none⟩) (v := ?_) (Or.inl ⟨by rfl, ?_⟩) ?_
  rotate_left 1
  ·(intro u hSw; go_simp; try with_reducible rfl)
  try simp only [Act.put, sA, sB, sC]
  refine tk (i := 8) (oi := ⟨some 41, .fieldAddr 45 (.tmp 40) 0, 0, "ref.go:216", #[⟨7, .data⟩], none⟩) (v := ?_) (Or.inl ⟨by rfl, ?_⟩) ?_
  rotate_left 1
  ·(intro u hSw; go_simp; try with_reducible rfl)
  try simp only [Act.put, sA, sB, sC]
  refine tk (i := 9) (oi := ⟨some 42, .load 9 (.tmp 41), 9, "ref.go:216", #[⟨8, .data⟩], none⟩) (v := ?_) (Or.inl ⟨by rfl, ?_⟩) ?_
  rotate_left 1
  ·(intro u hSw; have y0 := (HC.out _ hSw).1; have y1 := (HC.out _ hSw).2.1; have y2 := (HC.out _ hSw).2.2.1; have y3 := (HC.out _ hSw).2.2.2; go_simp; try with_reducible rfl)
  try simp only [Act.put, sA, sB, sC]
  refine tk (i := 10) (oi := ⟨some 43, .move (.tmp 3), 4, "ref.go:216", #[], none⟩) (v := ?_) (Or.inl ⟨by rfl, ?_⟩) ?_
  rotate_left 1
  ·(intro u hSw; go_simp; try with_reducible rfl)
  try simp only [Act.put, sA, sB, sC]
  refine tk (i := 11) (oi := ⟨some 44, .move (.tmp 5), 9, "ref.go:216", #[], none⟩) (v := ?_) (Or.inl ⟨by rfl, ?_⟩) ?_
  rotate_left 1
  ·(intro u hSw; go_simp; try with_reducible rfl)
  try simp only [Act.put, sA, sB, sC]
  refine tk (i := 12) (oi := ⟨some 45, .move (.tmp 6), 9, "ref.go:216", #[], none⟩) (v := ?_) (Or.inl ⟨by rfl, ?_⟩) ?_
  rotate_left 1
  ·(intro u hSw; go_simp; try with_reducible rfl)
  try simp only [Act.put, sA, sB, sC]
  refine tk (i := 13) (oi := ⟨some 46, .move (.tmp 7), 4, "ref.go:216", #[], none⟩) (v := ?_) (Or.inl ⟨by rfl, ?_⟩) ?_
  rotate_left 1
  ·(intro u hSw; go_simp; try with_reducible rfl)
  try simp only [Act.put, sA, sB, sC]
  refine wpAnyH_ready (rs := [14]) (by kernel_rfl) (by simp) ?_
  refine (AllReadyH.cons (o := ⟨some 47, .call ⟨.value (.func 44), #[.tmp 36, .tmp 37, .tmp 42, .tmp 43, .const (Value.bool true), .tmp 44, .tmp 45, .tmp 46], #[83, 9, 9, 4, 4, 9, 9, 4]⟩, 4, "ref.go:216", #[⟨3, .data⟩, ⟨4, .data⟩, ⟨9, .data⟩, ⟨10, .data⟩, ⟨11, .data⟩, ⟨12, .data⟩, ⟨13, .data⟩], none⟩) rfl (fun K hK => ?_) AllReadyH.nil)
  try (generalize World.drew w = ud at *)
  go_simp
  refine (HL.out _ hb).mono ?_
  rintro d cu ⟨rfl, hb4⟩
  have hb := hb.trans (hb4.mono hb.size)
  clear hb4
  go_wp2_with fail
  refine hK.out _ _ hb (fun hHeld => ?_)
  clear hK K
  try simp only [Act.put, sA, sB, sC]
  refine tk (i := 15) (oi := ⟨some 48, .move (.tmp 47), 4, "ref.go:216", #[⟨14, .data⟩, ⟨14, .chain⟩], none⟩) (v := ?_) (Or.inl ⟨by rfl, ?_⟩) ?_
  rotate_left 1
  ·(intro u hSw; go_simp; try with_reducible rfl)
  try simp only [Act.put, sA, sB, sC]
  refine tk (i := 16) (oi := ⟨some 49, .move (.tmp 0), 83, "ref.go:216", #[⟨15, .guard⟩], some (15, true)⟩) (v := ?_) (Or.inl ⟨by rfl, ?_⟩) ?_
  rotate_left 1
  ·(intro u hSw; go_simp; try with_reducible rfl)
  try simp only [Act.put, sA, sB, sC]
  refine tk (i := 17) (oi := ⟨some 50, .nilCheck (.tmp 49), 0, "ref.go:216", #[⟨16, .data⟩, ⟨15, .guard⟩], some (15, true)⟩) (v := ?_) (Or.inl ⟨by rfl, ?_⟩) ?_
  rotate_left 1
  ·(intro u hSw; go_simp; try with_reducible rfl)
  try simp only [Act.put, sA, sB, sC]
  refine tk (i := 18) (oi := ⟨some 51, .fieldAddr 127 (.tmp 50) 4, 0, "ref.go:216", #[⟨17, .data⟩, ⟨15, .guard⟩], some (15, true)⟩) (v := ?_) (Or.inl ⟨by rfl, ?_⟩) ?_
  rotate_left 1
  ·(intro u hSw; go_simp; try with_reducible rfl)
  try simp only [Act.put, sA, sB, sC]
  refine tk (i := 19) (oi := ⟨some 52, .load 83 (.tmp 51), 83, "ref.go:216", #[⟨18, .data⟩, ⟨15, .guard⟩], some (15, true)⟩) (v := ?_) (Or.inl ⟨by rfl, ?_⟩) ?_
  rotate_left 1
  ·(intro u hSw; have y0 := (HC.out _ hSw).1; have y1 := (HC.out _ hSw).2.1; have y2 := (HC.out _ hSw).2.2.1; have y3 := (HC.out _ hSw).2.2.2; go_simp; try with_reducible rfl)
  try simp only [Act.put, sA, sB, sC]
  refine tk (i := 20) (oi := ⟨some 53, .move (.tmp 0), 83, "ref.go:216", #[⟨15, .guard⟩], some (15, true)⟩) (v := ?_) (Or.inl ⟨by rfl, ?_⟩) ?_
  rotate_left 1
  ·(intro u hSw; go_simp; try with_reducible rfl)
  try simp only [Act.put, sA, sB, sC]
  refine tk (i := 21) (oi := ⟨some 54, .nilCheck (.tmp 53), 0, "ref.go:216", #[⟨20, .data⟩, ⟨15, .guard⟩], some (15, true)⟩) (v := ?_) (Or.inl ⟨by rfl, ?_⟩) ?_
  rotate_left 1
  ·(intro u hSw; go_simp; try with_reducible rfl)
  try simp only [Act.put, sA, sB, sC]
  refine tk (i := 22) (oi := ⟨some 55, .fieldAddr 127 (.tmp 54) 2, 0, "ref.go:216", #[⟨21, .data⟩, ⟨15, .guard⟩], some (15, true)⟩) (v := ?_) (Or.inl ⟨by rfl, ?_⟩) ?_
  rotate_left 1
  ·(intro u hSw; go_simp; try with_reducible rfl)
  try simp only [Act.put, sA, sB, sC]
  refine tk (i := 23) (oi := ⟨some 56, .fieldAddr 45 (.tmp 55) 0, 0, "ref.go:216", #[⟨22, .data⟩, ⟨15, .guard⟩], some (15, true)⟩) (v := ?_) (Or.inl ⟨by rfl, ?_⟩) ?_
  rotate_left 1
  ·(intro u hSw; go_simp; try with_reducible rfl)
  try simp only [Act.put, sA, sB, sC]
  refine tk (i := 24) (oi := ⟨some 57, .load 9 (.tmp 56), 9, "ref.go:216", #[⟨23, .data⟩, ⟨15, .guard⟩], some (15, true)⟩) (v := ?_) (Or.inl ⟨by rfl, ?_⟩) ?_
  rotate_left 1
  ·(intro u hSw; have y0 := (HC.out _ hSw).1; have y1 := (HC.out _ hSw).2.1; have y2 := (HC.out _ hSw).2.2.1; have y3 := (HC.out _ hSw).2.2.2; go_simp; try with_reducible rfl)
  try simp only [Act.put, sA, sB, sC]
  refine tk (i := 25) (oi := ⟨some 58, .move (.tmp 2), 9, "ref.go:216", #[⟨15, .guard⟩], some (15, true)⟩) (v := ?_) (Or.inl ⟨by rfl, ?_⟩) ?_
  rotate_left 1
  ·(intro u hSw; go_simp; try with_reducible rfl)
  try simp only [Act.put, sA, sB, sC]
  refine tk (i := 26) (oi := ⟨some 59, .move (.tmp 4), 4, "ref.go:216", #[⟨15, .guard⟩], some (15, true)⟩) (v := ?_) (Or.inl ⟨by rfl, ?_⟩) ?_
  rotate_left 1
  ·(intro u hSw; go_simp; try with_reducible rfl)
  try simp only [Act.put, sA, sB, sC]
  refine tk (i := 27) (oi := ⟨some 60, .move (.tmp 5), 9, "ref.go:216", #[⟨15, .guard⟩], some (15, true)⟩) (v := ?_) (Or.inl ⟨by rfl, ?_⟩) ?_
  rotate_left 1
  ·(intro u hSw; go_simp; try with_reducible rfl)
  try simp only [Act.put, sA, sB, sC]
  refine tk (i := 28) (oi := ⟨some 61, .move (.tmp 6), 9, "ref.go:216", #[⟨15, .guard⟩], some (15, true)⟩) (v := ?_) (Or.inl ⟨by rfl, ?_⟩) ?_
  rotate_left 1
  ·(intro u hSw; go_simp; try with_reducible rfl)
  try simp only [Act.put, sA, sB, sC]
  refine tk (i := 29) (oi := ⟨some 62, .move (.tmp 7), 4, "ref.go:216", #[⟨15, .guard⟩], some (15, true)⟩) (v := ?_) (Or.inl ⟨by rfl, ?_⟩) ?_
  rotate_left 1
  ·(intro u hSw; go_simp; try with_reducible rfl)
  try simp only [Act.put, sA, sB, sC]
  refine wpAnyH_ready (rs := [30]) (by kernel_rfl) (by simp) ?_
  refine (AllReadyH.cons (o := ⟨some 63, .call ⟨.value (.func 44), #[.tmp 52, .tmp 57, .tmp 58, .const (Value.bool true), .tmp 59, .tmp 60, .tmp 61, .tmp 62], #[83, 9, 9, 4, 4, 9, 9, 4]⟩, 4, "ref.go:216", #[⟨19, .data⟩, ⟨24, .data⟩, ⟨25, .data⟩, ⟨26, .data⟩, ⟨27, .data⟩, ⟨28, .data⟩, ⟨29, .data⟩, ⟨15, .chain⟩, ⟨15, .guard⟩], some (15, true)⟩) rfl (fun K hK => ?_) AllReadyH.nil)
  try (generalize World.drew w = ud at *)
  go_simp
  refine (HR.out _ hb).mono ?_
  rintro d cu ⟨rfl, hb4⟩
  have hb := hb.trans (hb4.mono hb.size)
  clear hb4
  go_wp2_with fail
  refine hK.out _ _ hb (fun hHeld => ?_)
  clear hK K
  try simp only [Act.put, sA, sB, sC]
  refine tk (i := 31) (oi := ⟨some 64, .pick (.tmp 48) (.tmp 63) (.const (Value.bool false)), 4, "ref.go:216", #[⟨15, .data⟩, ⟨30, .data⟩], none⟩) (v := ?_) (Or.inl ⟨by rfl, ?_⟩) ?_
  rotate_left 1
  ·(intro u hSw; go_simp; try with_reducible rfl)
  try simp only [Act.put, sA, sB, sC]
  refine tk (i := 32) (oi := ⟨some 16, .assign (.tmp 64), 4, "ref.go:216", #[⟨31, .data⟩, ⟨30, .chain⟩, ⟨0, .phase⟩, ⟨1, .phase⟩, ⟨2, .phase⟩, ⟨3, .phase⟩, ⟨4, .phase⟩, ⟨5, .phase⟩, ⟨6, .phase⟩, ⟨7, .phase⟩, ⟨8, .phase⟩, ⟨9, .phase⟩, ⟨10, .phase⟩, ⟨11, .phase⟩, ⟨12, .phase⟩, ⟨13, .phase⟩, ⟨14, .phase⟩, ⟨15, .phase⟩, ⟨16, .phase⟩, ⟨17, .phase⟩, ⟨18, .phase⟩, ⟨19, .phase⟩, ⟨20, .phase⟩, ⟨21, .phase⟩, ⟨22, .phase⟩, ⟨23, .phase⟩, ⟨24, .phase⟩, ⟨25, .phase⟩, ⟨26, .phase⟩, ⟨27, .phase⟩, ⟨28, .phase⟩, ⟨29, .phase⟩, ⟨30, .phase⟩, ⟨31, .phase⟩], none⟩) (v := ?_) (Or.inl ⟨by rfl, ?_⟩) ?_
  rotate_left 1
  ·(intro u hSw; go_simp; try with_reducible rfl)
  try simp only [Act.put, sA, sB, sC]
  refine wpAnyH_done (by kernel_rfl) ?_ _
  have HE := hid hb
  clear hb hHeld
  go_wp2_with fail
  go_ret
  exact ⟨rfl, HE.out⟩
 | false =>
  rw [Bool.false_and]
  clear HR
  go_enter Tryd.func44, Tryd.ntmps44
  go_wp2_with fail
  refine wp_region_held_drew (S := fun u => Below w.heap.size w u) (by kernel_rfl) (hb) (fun hHeld => ?_)
  refine tk (i := 0) (oi := ⟨some 33, .move (.tmp 0), 83, "ref.go:216", #[], none⟩) (v := ?_) (Or.inl ⟨by rfl, ?_⟩) ?_
  rotate_left 1
  ·(intro u hSw; go_simp; try with_reducible rfl)
  try simp only [Act.put, sA, sB, sC]
  refine tk (i := 1) (oi := ⟨some 34, .nilCheck (.tmp 33), 0, "ref.go:216", #[⟨0, .data⟩], none⟩) (v := ?_) (Or.inl ⟨by rfl, ?_⟩) ?_
  rotate_left 1
  ·(intro u hSw; go_simp; try with_reducible rfl)
  try simp only [Act.put, sA, sB, sC]
  refine tk (i := 2) (oi := ⟨some 35, .fieldAddr 127 (.tmp 34) 3, 0, "ref.go:216", #[⟨1, .data⟩], none⟩) (v := ?_) (Or.inl ⟨by rfl, ?_⟩) ?_
  rotate_left 1
  ·(intro u hSw; go_simp; try with_reducible rfl)
  try simp only [Act.put, sA, sB, sC]
  refine tk (i := 3) (oi := ⟨some 36, .load 83 (.tmp 35), 83, "ref.go:216", #[⟨2, .data⟩], none⟩) (v := ?_) (Or.inl ⟨by rfl, ?_⟩) ?_
  rotate_left 1
  ·(intro u hSw; have y0 := (HC.out _ hSw).1; have y1 := (HC.out _ hSw).2.1; have y2 := (HC.out _ hSw).2.2.1; have y3 := (HC.out _ hSw).2.2.2; go_simp; try with_reducible rfl)
  try simp only [Act.put, sA, sB, sC]
  refine tk (i := 4) (oi := ⟨some 37, .move (.tmp 1), 9, "ref.go:216", #[], none⟩) (v := ?_) (Or.inl ⟨by rfl, ?_⟩) ?_
  rotate_left 1
  ·(intro u hSw; go_simp; try with_reducible rfl)
  try simp only [Act.put, sA, sB, sC]
  refine tk (i := 5) (oi := ⟨some 38, .move (.tmp 0), 83, "ref.go:216", #[], none⟩) (v := ?_) (Or.inl ⟨by rfl, ?_⟩) ?_
  rotate_left 1
  ·(intro u hSw; go_simp; try with_reducible rfl)
  try simp only [Act.put, sA, sB, sC]
  refine tk (i := 6) (oi := ⟨some 39, .nilCheck (.tmp 38), 0, "ref.go:216", #[⟨5, .data⟩], none⟩) (v := ?_) (Or.inl ⟨by rfl, ?_⟩) ?_
  rotate_left 1
  ·(intro u hSw; go_simp; try with_reducible rfl)
  try simp only [Act.put, sA, sB, sC]
  refine tk (i := 7) (oi := ⟨some 40, .fieldAddr 127 (.tmp 39) 2, 0, "ref.go:216", #[⟨6, .data⟩], none⟩) (v := ?_) (Or.inl ⟨by rfl, ?_⟩) ?_
  rotate_left 1
  ·(intro u hSw; go_simp; try with_reducible rfl)
  try simp only [Act.put, sA, sB, sC]
  refine tk (i := 8) (oi := ⟨some 41, .fieldAddr 45 (.tmp 40) 0, 0, "ref.go:216", #[⟨7, .data⟩], none⟩) (v := ?_) (Or.inl ⟨by rfl, ?_⟩) ?_
  rotate_left 1
  ·(intro u hSw; go_simp; try with_reducible rfl)
  try simp only [Act.put, sA, sB, sC]
  refine tk (i := 9) (oi := ⟨some 42, .load 9 (.tmp 41), 9, "ref.go:216", #[⟨8, .data⟩], none⟩) (v := ?_) (Or.inl ⟨by rfl, ?_⟩) ?_
  rotate_left 1
  ·(intro u hSw; have y0 := (HC.out _ hSw).1; have y1 := (HC.out _ hSw).2.1; have y2 := (HC.out _ hSw).2.2.1; have y3 := (HC.out _ hSw).2.2.2; go_simp; try with_reducible rfl)
  try simp only [Act.put, sA, sB, sC]
  refine tk (i := 10) (oi := ⟨some 43, .move (.tmp 3), 4, "ref.go:216", #[], none⟩) (v := ?_) (Or.inl ⟨by rfl, ?_⟩) ?_
  rotate_left 1
  ·(intro u hSw; go_simp; try with_reducible rfl)
  try simp only [Act.put, sA, sB, sC]
  refine tk (i := 11) (oi := ⟨some 44, .move (.tmp 5), 9, "ref.go:216", #[], none⟩) (v := ?_) (Or.inl ⟨by rfl, ?_⟩) ?_
  rotate_left 1
  ·(intro u hSw; go_simp; try with_reducible rfl)
  try simp only [Act.put, sA, sB, sC]
  refine tk (i := 12) (oi := ⟨some 45, .move (.tmp 6), 9, "ref.go:216", #[], none⟩) (v := ?_) (Or.inl ⟨by rfl, ?_⟩) ?_
  rotate_left 1
  ·(intro u hSw; go_simp; try with_reducible rfl)
  try simp only [Act.put, sA, sB, sC]
  refine tk (i := 13) (oi := ⟨some 46, .move (.tmp 7), 4, "ref.go:216", #[], none⟩) (v := ?_) (Or.inl ⟨by rfl, ?_⟩) ?_
  rotate_left 1
  ·(intro u hSw; go_simp; try with_reducible rfl)
  try simp only [Act.put, sA, sB, sC]
  refine wpAnyH_ready (rs := [14]) (by kernel_rfl) (by simp) ?_
  refine (AllReadyH.cons (o := ⟨some 47, .call ⟨.value (.func 44), #[.tmp 36, .tmp 37, .tmp 42, .tmp 43, .const (Value.bool true), .tmp 44, .tmp 45, .tmp 46], #[83, 9, 9, 4, 4, 9, 9, 4]⟩, 4, "ref.go:216", #[⟨3, .data⟩, ⟨4, .data⟩, ⟨9, .data⟩, ⟨10, .data⟩, ⟨11, .data⟩, ⟨12, .data⟩, ⟨13, .data⟩], none⟩) rfl (fun K hK => ?_) AllReadyH.nil)
  try (generalize World.drew w = ud at *)
  go_simp
  refine (HL.out _ hb).mono ?_
  rintro d cu ⟨rfl, hb4⟩
  have hb := hb.trans (hb4.mono hb.size)
  clear hb4
  go_wp2_with fail
  refine hK.out _ _ hb (fun hHeld => ?_)
  clear hK K
  try simp only [Act.put, sA, sB, sC]
  refine tk (i := 15) (oi := ⟨some 48, .move (.tmp 47), 4, "ref.go:216", #[⟨14, .data⟩, ⟨14, .chain⟩], none⟩) (v := ?_) (Or.inl ⟨by rfl, ?_⟩) ?_
  rotate_left 1
  ·(intro u hSw; go_simp; try with_reducible rfl)
  try simp only [Act.put, sA, sB, sC]
  refine tk (i := 16) (oi := ⟨some 49, .move (.tmp 0), 83, "ref.go:216", #[⟨15, .guard⟩], some (15, true)⟩) (v := undef) (by exact .inr ⟨by rfl, rfl⟩) ?_
  try simp only [Act.put, sA, sB, sC]
  refine tk (i := 17) (oi := ⟨some 50, .nilCheck (.tmp 49), 0, "ref.go:216", #[⟨16, .data⟩, ⟨15, .guard⟩], some (15, true)⟩) (v := undef) (by exact .inr ⟨by rfl, rfl⟩) ?_
  try simp only [Act.put, sA, sB, sC]
  refine tk (i := 18) (oi := ⟨some 51, .fieldAddr 127 (.tmp 50) 4, 0, "ref.go:216", #[⟨17, .data⟩, ⟨15, .guard⟩], some (15, true)⟩) (v := undef) (by exact .inr ⟨by rfl, rfl⟩) ?_
  try simp only [Act.put, sA, sB, sC]
  refine tk (i := 19) (oi := ⟨some 52, .load 83 (.tmp 51), 83, "ref.go:216", #[⟨18, .data⟩, ⟨15, .guard⟩], some (15, true)⟩) (v := undef) (by exact .inr ⟨by rfl, rfl⟩) ?_
  try simp only [Act.put, sA, sB, sC]
  refine tk (i := 20) (oi := ⟨some 53, .move (.tmp 0), 83, "ref.go:216", #[⟨15, .guard⟩], some (15, true)⟩) (v := undef) (by exact .inr ⟨by rfl, rfl⟩) ?_
  try simp only [Act.put, sA, sB, sC]
  refine tk (i := 21) (oi := ⟨some 54, .nilCheck (.tmp 53), 0, "ref.go:216", #[⟨20, .data⟩, ⟨15, .guard⟩], some (15, true)⟩) (v := undef) (by exact .inr ⟨by rfl, rfl⟩) ?_
  try simp only [Act.put, sA, sB, sC]
  refine tk (i := 22) (oi := ⟨some 55, .fieldAddr 127 (.tmp 54) 2, 0, "ref.go:216", #[⟨21, .data⟩, ⟨15, .guard⟩], some (15, true)⟩) (v := undef) (by exact .inr ⟨by rfl, rfl⟩) ?_
  try simp only [Act.put, sA, sB, sC]
  refine tk (i := 23) (oi := ⟨some 56, .fieldAddr 45 (.tmp 55) 0, 0, "ref.go:216", #[⟨22, .data⟩, ⟨15, .guard⟩], some (15, true)⟩) (v := undef) (by exact .inr ⟨by rfl, rfl⟩) ?_
  try simp only [Act.put, sA, sB, sC]
  refine tk (i := 24) (oi := ⟨some 57, .load 9 (.tmp 56), 9, "ref.go:216", #[⟨23, .data⟩, ⟨15, .guard⟩], some (15, true)⟩) (v := undef) (by exact .inr ⟨by rfl, rfl⟩) ?_
  try simp only [Act.put, sA, sB, sC]
  refine tk (i := 25) (oi := ⟨some 58, .move (.tmp 2), 9, "ref.go:216", #[⟨15, .guard⟩], some (15, true)⟩) (v := undef) (by exact .inr ⟨by rfl, rfl⟩) ?_
  try simp only [Act.put, sA, sB, sC]
  refine tk (i := 26) (oi := ⟨some 59, .move (.tmp 4), 4, "ref.go:216", #[⟨15, .guard⟩], some (15, true)⟩) (v := undef) (by exact .inr ⟨by rfl, rfl⟩) ?_
  try simp only [Act.put, sA, sB, sC]
  refine tk (i := 27) (oi := ⟨some 60, .move (.tmp 5), 9, "ref.go:216", #[⟨15, .guard⟩], some (15, true)⟩) (v := undef) (by exact .inr ⟨by rfl, rfl⟩) ?_
  try simp only [Act.put, sA, sB, sC]
  refine tk (i := 28) (oi := ⟨some 61, .move (.tmp 6), 9, "ref.go:216", #[⟨15, .guard⟩], some (15, true)⟩) (v := undef) (by exact .inr ⟨by rfl, rfl⟩) ?_
  try simp only [Act.put, sA, sB, sC]
  refine tk (i := 29) (oi := ⟨some 62, .move (.tmp 7), 4, "ref.go:216", #[⟨15, .guard⟩], some (15, true)⟩) (v := undef) (by exact .inr ⟨by rfl, rfl⟩) ?_
  try simp only [Act.put, sA, sB, sC]
  refine tk (i := 30) (oi := ⟨some 63, .call ⟨.value (.func 44), #[.tmp 52, .tmp 57, .tmp 58, .const (Value.bool true), .tmp 59, .tmp 60, .tmp 61, .tmp 62], #[83, 9, 9, 4, 4, 9, 9, 4]⟩, 4, "ref.go:216", #[⟨19, .data⟩, ⟨24, .data⟩, ⟨25, .data⟩, ⟨26, .data⟩, ⟨27, .data⟩, ⟨28, .data⟩, ⟨29, .data⟩, ⟨15, .chain⟩, ⟨15, .guard⟩], some (15, true)⟩) (v := undef) (by exact .inr ⟨by rfl, rfl⟩) ?_
  try simp only [Act.put, sA, sB, sC]
  refine tk (i := 31) (oi := ⟨some 64, .pick (.tmp 48) (.tmp 63) (.const (Value.bool false)), 4, "ref.go:216", #[⟨15, .data⟩, ⟨30, .data⟩], none⟩) (v := ?_) (Or.inl ⟨by rfl, ?_⟩) ?_
  rotate_left 1
  ·(intro u hSw; go_simp; try with_reducible rfl)
  try simp only [Act.put, sA, sB, sC]
  refine tk (i := 32) (oi := ⟨some 16, .assign (.tmp 64), 4, "ref.go:216", #[⟨31, .data⟩, ⟨30, .chain⟩, ⟨0, .phase⟩, ⟨1, .phase⟩, ⟨2, .phase⟩, ⟨3, .phase⟩, ⟨4, .phase⟩, ⟨5, .phase⟩, ⟨6, .phase⟩, ⟨7, .phase⟩, ⟨8, .phase⟩, ⟨9, .phase⟩, ⟨10, .phase⟩, ⟨11, .phase⟩, ⟨12, .phase⟩, ⟨13, .phase⟩, ⟨14, .phase⟩, ⟨15, .phase⟩, ⟨16, .phase⟩, ⟨17, .phase⟩, ⟨18, .phase⟩, ⟨19, .phase⟩, ⟨20, .phase⟩, ⟨21, .phase⟩, ⟨22, .phase⟩, ⟨23, .phase⟩, ⟨24, .phase⟩, ⟨25, .phase⟩, ⟨26, .phase⟩, ⟨27, .phase⟩, ⟨28, .phase⟩, ⟨29, .phase⟩, ⟨30, .phase⟩, ⟨31, .phase⟩], none⟩) (v := ?_) (Or.inl ⟨by rfl, ?_⟩) ?_
  rotate_left 1
  ·(intro u hSw; go_simp; try with_reducible rfl)
  try simp only [Act.put, sA, sB, sC]
  refine wpAnyH_done (by kernel_rfl) ?_ _
  have HE := hid hb
  clear hb hHeld
  go_wp2_with fail
  go_ret
  exact ⟨rfl, HE.out⟩
theorem pmiss_any {B : Nat} (fr to : List Int) (e : Bool) (gf : Rng fr) (gt : Rng to) : ∀ (t : MT) (v : Value) (w : World) (lo hi : List Int) (low up : Bool), PTs w B v t → t.Good → Rng lo → Rng hi →
  Calls Tryd.prog 44 #[v, .string (str lo), .string (str hi), .bool low, .bool up, .string (str fr), .string (str to), .bool e] w fun d w' => d = .returned (.bool (missT fr to e t lo hi low up)) ∧ Below w.heap.size w w'
 | .nil, v, w, lo, hi, low, up, ⟨b, h, _, hp⟩, _, _, _ => by
  subst h
  exact pmiss_nil w b _ _ _ _ _ lo hi fr to low up e hp
 | .cut d, v, w, lo, hi, low, up, ⟨b, h, _, hp⟩, _, glo, ghi => by
  subst h
  exact pmiss_cut w b _ _ _ _ _ lo hi fr to low up e hp glo ghi gf gt
 | .nd k n rk d l r, v, w, lo, hi, low, up, ⟨b, lp, rp, h, _, hp, hl, hr⟩, hg, glo, ghi => by
  subst h
  obtain ⟨hd, gl, gr, hkl, gk, hn, -, -⟩ := hg
  obtain ⟨bl, rfl⟩ := hl.form
  obtain ⟨br, rfl⟩ := hr.form
  exact pmiss_nd w b bl br _ k n lo hi fr to low up e _ _ hp (fun u hu => pmiss_any fr to e gf gt l _ u lo k low true (hl.below hu) gl glo gk) (fun u hu => pmiss_any fr to e gf gt r _ u k hi true up (hr.below hu) gr gk ghi)
theorem rfL_app (l m : List (List Int × Nat)) : rfL (l ++ m) = rfL l ++ rfL m := by unfold rfL; rw [List.flatMap_append]
theorem rfL_one (l : List (List Int × Nat)) : ∀ u ∈ rfL l, u.oneCell' = true := by
 intro u hu
 unfold rfL at hu
 obtain ⟨x, -, hx⟩ := List.mem_flatMap.1 hu
 simp only [List.mem_cons, List.not_mem_nil, or_false] at hx
 rcases hx with rfl | rfl <;> rfl
/-- a list is appended to a list of one's own -/
theorem RfO.apps {w : World} {B B2 : Nat} {v v2 : Value} {l m : List (List Int × Nat)} (h : RfO w B v l) (hb : B ≤ w.heap.size) (h2 : RfO w B2 v2 m) (hn : l.length + m.length ≤ 1073741824) (ty : TypeId) :
  ∃ v' w', (Builtin.append_ #[22, 22] ty #[v, v2]).run Tryd.prog w = .ok v' w' ∧ RfO w' B v' (l ++ m) ∧ Chg (fun g => v.ownBlock = some g) w w' ∧ OwnTo w v v' := by
 obtain ⟨i, hi, ⟨z, hz, hzz⟩, hs, hby⟩ := infoRe
 obtain ⟨-, ⟨rfl, hm0⟩ | ⟨g, cap, cur, rfl, q1, q2, q3, q4, q5, q6⟩⟩ := h2
 ·have hm : m = [] := List.eq_nil_of_length_eq_zero hm0
  subst hm
  exact ⟨v, w, run_append_owned_none (P := Tryd.prog) (w := w) B 22 ty 45 i 2 Tryd.underlying22 hi v _ _ h, by rw [List.append_nil]; exact h, Chg.refl _ _, OwnTo.refl _ _⟩
 ·obtain ⟨v', w', r1, r2, r3, -, r5⟩ := run_append_own_at (P := Tryd.prog) (w := w) B 22 ty 45 i z 2 i.bytes Tryd.underlying22 hi hz hs rfl (by rw [hzz]; rfl) (by decide) v l.length (rfL l) h ⟨g, 0, none⟩ m.length cap (rfL m) (rfL_len m) (by
   intro j u hj
   have hjl := (List.getElem?_eq_some_iff.1 hj).1
   rw [rfL_len] at hjl
   rw [Addr.add_mid, cell_of_row _ g _ _ _ _ q2, Nat.zero_add, ← Array.getElem?_toList, ← hj, ← q6, List.getElem?_take, if_pos hjl]) (rfL_one m) (by unfold maxLen; omega) (by
   have : (l.length + m.length) * i.bytes ≤ (l.length + m.length) * 64 := Nat.mul_le_mul_left _ hby
   omega) hb
  refine ⟨v', w', r1, by unfold RfO; rw [List.length_append, rfL_app]; exact r2, Chg.grown r3 (fun k hk => hk), fun g hg => ?_⟩
  rcases r5 with h5 | h5
  ·exact .inl (by rw [← h5]; exact hg)
  ·rw [h5] at hg; injection hg with hg; exact .inr (by omega)
end Go.Proofs.YtbmlkocpjboodaaDoor
