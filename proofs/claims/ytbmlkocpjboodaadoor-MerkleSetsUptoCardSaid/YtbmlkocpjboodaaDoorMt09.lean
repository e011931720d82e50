/- stage 7: changed, set -/
import Derived.Test.YtbmlkocpjboodaaDoorMt08
namespace Go.Proofs.YtbmlkocpjboodaaDoor
open Go.RowKit
open Go.Lib (hid)
theorem rk_rng {u : World} {g : Nat} {kv : Value} {n : Nat} {rk : List Int} (h : u.heap[g]? = some (.cells (rkC kv n rk) 66 (0, 0))) : u.rangeAt g 0 (rkL kv n rk) := fun j x hj => by
 rw [cell_of_row _ g _ _ _ _ h, Nat.zero_add]
 unfold rkC
 rw [List.getElem?_toArray]
 exact hj
set_option maxRecDepth 100000 in
set_option maxHeartbeats 16000000 in
theorem changed_any {S : Nat → Prop} (key : List Int) (cnt : Nat) (rk : List Int) (hkl : key.length ≤ 65535) (gk : Rng key) (hn : cnt < 9223372036854775808) (h1 : rk.length = 32) (h2 : Rng rk) (g : Nat) (kv : Value) : ∀ (t : MT) (w : World) (p : Value), (∀ b, w.heap.size ≤ b → S b) → MIs w S p t → t.Full → t.Good → KC w → CB w g kv cnt rk → KIs w S kv key →
  Calls Tryd.prog 68 #[p, .agg (rkC kv cnt rk), (.func (.func 69) #[] #[.pointer (some ⟨g, 0, none⟩)])] w fun e w' => ∃ x, e = .returned x ∧ MIs w' S x (t.put key cnt rk) ∧ Below w.heap.size w w' := by
 intro t
 induction t with
 | nil =>
  intro w p hS hp hf hg hK hc hk
  obtain rfl : p = .pointer none := hp
  obtain ⟨ak, ck, rfl⟩ := hk.form
  have HED := hid (fun u (hu : Below w.heap.size w u) => edit_any (S := S) key cnt rk hkl gk hn h1 g (.slice ak key.length ck) .nil u (.pointer none) (fun b hb => hS b (Nat.le_trans hu.size hb)) rfl trivial trivial (hK.below hu hK.1) (hc.below hu) (hk.below hu))
  clear hS hf hg hK hc hk
  rw [show (MT.nil).put key cnt rk = MT.edit key cnt rk .nil from rfl]
  generalize MT.edit key cnt rk .nil = T at *
  go_enter Tryd.func68, Tryd.ntmps68
  go_wp2_with fail
  have hb2 : Below w.heap.size w (w.alloc (.cells (rkC (.slice ak key.length ck) cnt rk) 66)) := (Below.refl _ _).alloc (Nat.le_refl _) _
  generalize w.alloc (.cells (rkC (.slice ak key.length ck) cnt rk) 66) = w2 at *
  have HB2 := hid hb2.drew
  clear hb2
  refine wp_region_held_drew (S := fun _ => True) (by kernel_rfl) (trivial) (fun hHeld => ?_)
  refine tk (i := 0) (oi := ⟨some 7, .move (.tmp 0), 68, "node.go:109", #[], none⟩) (v := ?_) (Or.inl ⟨by rfl, ?_⟩) ?_
  rotate_left 1
  ·(intro u hSw; go_simp; try with_reducible rfl)
  try simp only [Act.put, sA, sB, sC]
  refine tk (i := 1) (oi := ⟨some 8, .binOp BinOp.eql 68 (.tmp 7) (.const (Value.pointer none)) 68, 4, "node.go:109", #[⟨0, .data⟩], none⟩) (v := ?_) (Or.inl ⟨by rfl, ?_⟩) ?_
  rotate_left 1
  ·(intro u hSw; go_simp; try with_reducible rfl)
  try simp only [Act.put, sA, sB, sC]
  refine tk (i := 2) (oi := ⟨some 9, .move (.tmp 8), 4, "node.go:109", #[⟨1, .data⟩], none⟩) (v := ?_) (Or.inl ⟨by rfl, ?_⟩) ?_
  rotate_left 1
  ·(intro u hSw; go_simp; try with_reducible rfl)
  try simp only [Act.put, sA, sB, sC]
  refine tk (i := 3) (oi := ⟨some 10, .move (.tmp 0), 68, "node.go:109", #[⟨2, .guard⟩], some (2, false)⟩) (v := undef) (by exact .inr ⟨by rfl, rfl⟩) ?_
  try simp only [Act.put, sA, sB, sC]
  refine tk (i := 4) (oi := ⟨some 11, .nilCheck (.tmp 10), 0, "node.go:109", #[⟨3, .data⟩, ⟨2, .guard⟩], some (2, false)⟩) (v := undef) (by exact .inr ⟨by rfl, rfl⟩) ?_
  try simp only [Act.put, sA, sB, sC]
  refine tk (i := 5) (oi := ⟨some 12, .fieldAddr 115 (.tmp 11) 0, 0, "node.go:109", #[⟨4, .data⟩, ⟨2, .guard⟩], some (2, false)⟩) (v := undef) (by exact .inr ⟨by rfl, rfl⟩) ?_
  try simp only [Act.put, sA, sB, sC]
  refine tk (i := 6) (oi := ⟨some 13, .load 66 (.tmp 12), 66, "node.go:109", #[⟨5, .data⟩, ⟨2, .guard⟩], some (2, false)⟩) (v := undef) (by exact .inr ⟨by rfl, rfl⟩) ?_
  try simp only [Act.put, sA, sB, sC]
  refine tk (i := 7) (oi := ⟨some 14, .load 66 (.tmp 4), 66, "node.go:109", #[⟨2, .guard⟩], some (2, false)⟩) (v := undef) (by exact .inr ⟨by rfl, rfl⟩) ?_
  try simp only [Act.put, sA, sB, sC]
  refine tk (i := 8) (oi := ⟨some 15, .call ⟨.value (.func 60), #[.tmp 13, .tmp 14], #[66, 66]⟩, 4, "node.go:109", #[⟨6, .data⟩, ⟨7, .data⟩, ⟨2, .chain⟩, ⟨2, .guard⟩], some (2, false)⟩) (v := undef) (by exact .inr ⟨by rfl, rfl⟩) ?_
  try simp only [Act.put, sA, sB, sC]
  refine tk (i := 9) (oi := ⟨some 16, .unOp UnOp.not 4 (.tmp 15), 4, "node.go:109", #[⟨8, .data⟩, ⟨2, .guard⟩], some (2, false)⟩) (v := undef) (by exact .inr ⟨by rfl, rfl⟩) ?_
  try simp only [Act.put, sA, sB, sC]
  refine tk (i := 10) (oi := ⟨some 17, .pick (.tmp 9) (.const (Value.bool true)) (.tmp 16), 4, "node.go:109", #[⟨2, .data⟩, ⟨9, .data⟩], none⟩) (v := ?_) (Or.inl ⟨by rfl, ?_⟩) ?_
  rotate_left 1
  ·(intro u hSw; go_simp; try with_reducible rfl)
  try simp only [Act.put, sA, sB, sC]
  refine wpAnyH_done (by kernel_rfl) ?_ _
  go_wp2_with fail
  refine (HED.out _ HB2.out).mono ?_
  rintro e w3 ⟨x, rfl, hx, hb3⟩
  obtain ⟨ax, rfl⟩ := hx.form
  have HX := hid (And.intro hx hb3)
  clear hx hb3
  go_wp2_with fail
  go_ret
  exact ⟨_, rfl, HX.out.1, HB2.out.trans (HX.out.2.mono HB2.out.size)⟩
 | cut d => intro w p _ _ hf; exact absurd hf id
 | nd k n rk' dg l r ihl ihr =>
  intro w p hS hp hf hg hK hc hk
  have hp0 := hp
  obtain ⟨b, kn, lp, rp, rfl, hSb, q1, q2, hx, hkn, hl, hr⟩ := hp
  obtain ⟨fl, fr⟩ := id hf
  obtain ⟨-, gl, gr, hkl', hkr', hn', hr1, hr2⟩ := id hg
  obtain ⟨al, rfl⟩ := hl.form
  obtain ⟨ar, rfl⟩ := hr.form
  obtain ⟨an, cn, rfl⟩ := hkn.form
  obtain ⟨ak, ck, rfl⟩ := hk.form
  have pl := MT.put_ok key cnt rk hkl gk hn h1 h2 l gl fl
  have pr := MT.put_ok key cnt rk hkl gk hn h1 h2 r gr fr
  have hb2 : Below w.heap.size w (w.alloc (.cells (rkC (.slice ak key.length ck) cnt rk) 66)) := (Below.refl _ _).alloc (Nat.le_refl _) _
  have hx2 : (w.alloc (.cells (rkC (.slice ak key.length ck) cnt rk) 66)).heap[w.heap.size]? = some (.cells (rkC (.slice ak key.length ck) cnt rk) 66 (0, 0)) := heap_alloc_new _ _
  generalize hw2 : w.alloc (.cells (rkC (.slice ak key.length ck) cnt rk) 66) = w2 at *
  have hS2 : ∀ b, w2.heap.size ≤ b → S b := fun b hb => hS b (Nat.le_trans hb2.size hb)
  replace hp0 := hp0.below hb2
  replace hkn := hkn.below hb2
  replace hl := hl.below hb2
  replace hr := hr.below hb2
  replace hK := hK.below hb2 hK.1
  have hK1 := hK.1
  replace hc := hc.below hb2
  replace hk := hk.below hb2
  have HN := hid ((NR.of hx q1).below hb2)
  have HXR := hid (fun u (hu : Below w2.heap.size w2 u) => (show u.heap[w.heap.size]? = some (.cells (rkC (.slice ak key.length ck) cnt rk) 66 (0, 0)) from (hu.block _ (blk_lt hx2)).trans hx2))
  have HR1 := hid (rkL_info (kv := (.slice an k.length cn)) (n := n) q1)
  have HR2 := hid (rkL_info (kv := (.slice ak key.length ck)) (n := cnt) h1)
  have HED := hid (fun u (hu : Below w2.heap.size w2 u) => edit_any (S := S) key cnt rk hkl gk hn h1 g (.slice ak key.length ck) (.nd k n rk' dg l r) u (.pointer (some ⟨b, 0, none⟩)) (fun b hb => hS2 b (Nat.le_trans hu.size hb)) (hp0.below hu) hf hg (hK.below hu hK1) (hc.below hu) (hk.below hu))
  have HAB := hid (fun u (hu : Below w2.heap.size w2 u) => above_any u (.slice an k.length cn) (.slice ak key.length ck) n cnt k rk' key rk (hkn.below hu).1 (hk.below hu).1 hkr' gk q1 h1 hr2 h2)
  have HCM := hid (fun u (hu : Below w2.heap.size w2 u) => compare_any (.slice ak key.length ck) (.slice an k.length cn) key k u (hk.below hu).1 (hkn.below hu).1 gk hkr')
  have HIL := hid (fun u (hu : Below w2.heap.size w2 u) => ihl u (.pointer al) (fun b hb => hS2 b (Nat.le_trans hu.size hb)) (hl.below hu) fl gl (hK.below hu hK1) (hc.below hu) (hk.below hu))
  have HIR := hid (fun u (hu : Below w2.heap.size w2 u) => ihr u (.pointer ar) (fun b hb => hS2 b (Nat.le_trans hu.size hb)) (hr.below hu) fr gr (hK.below hu hK1) (hc.below hu) (hk.below hu))
  have HML := hid (fun u x (hu : Below w2.heap.size w2 u) (hx : MIs u S x (l.put key cnt rk)) => newNode_any (S := S) u (.slice an k.length cn) x (.pointer ar) k n rk' (l.put key cnt rk) r (fun b hb => hS2 b (Nat.le_trans hu.size hb)) q1 (hkn.below hu) hx (hr.below hu) pl.1 gr (hK.below hu hK1) hkl' hn')
  have HMR := hid (fun u x (hu : Below w2.heap.size w2 u) (hx : MIs u S x (r.put key cnt rk)) => newNode_any (S := S) u (.slice an k.length cn) (.pointer al) x k n rk' l (r.put key cnt rk) (fun b hb => hS2 b (Nat.le_trans hu.size hb)) q1 (hkn.below hu) (hl.below hu) hx gl pr.1 (hK.below hu hK1) hkl' hn')
  have HPUT := hid (show (MT.nd k n rk' dg l r).put key cnt rk = if abv k rk' key rk = true then (if cmpI key k < 0 then mkN k n rk' (l.put key cnt rk) r else mkN k n rk' l (r.put key cnt rk)) else MT.edit key cnt rk (.nd k n rk' dg l r) from rfl)
  have HB2 := hid hb2
  have hbb : Below w2.heap.size w2 w2.drew := (Below.refl _ _).drew
  clear hS hf hg hK hc hk hp0 hSb q2 hx hkn hl hr fl fr gl gr hkl' hkr' hn' hr1 hr2 pl pr hb2 hx2 hS2 hK1 ihl ihr
  generalize (MT.nd k n rk' dg l r).put key cnt rk = RES at *
  generalize MT.edit key cnt rk (.nd k n rk' dg l r) = T at *
  generalize l.put key cnt rk = TL at *
  generalize r.put key cnt rk = TR at *
  go_enter Tryd.func68, Tryd.ntmps68
  go_wp2_with fail
  try rw [hw2]
  clear hw2
  refine wp_region_held_drew (S := fun u => Below w2.heap.size w2 u) (by kernel_rfl) (hbb) (fun hHeld => ?_)
  refine tk (i := 0) (oi := ⟨some 7, .move (.tmp 0), 68, "node.go:109", #[], none⟩) (v := ?_) (Or.inl ⟨by rfl, ?_⟩) ?_
  rotate_left 1
  ·(intro u hSw; go_simp; try with_reducible rfl)
  try simp only [Act.put, sA, sB, sC]
  refine tk (i := 1) (oi := ⟨some 8, .binOp BinOp.eql 68 (.tmp 7) (.const (Value.pointer none)) 68, 4, "node.go:109", #[⟨0, .data⟩], none⟩) (v := ?_) (Or.inl ⟨by rfl, ?_⟩) ?_
  rotate_left 1
  ·(intro u hSw; go_simp; try with_reducible rfl)
  try simp only [Act.put, sA, sB, sC]
  refine tk (i := 2) (oi := ⟨some 9, .move (.tmp 8), 4, "node.go:109", #[⟨1, .data⟩], none⟩) (v := ?_) (Or.inl ⟨by rfl, ?_⟩) ?_
  rotate_left 1
  ·(intro u hSw; go_simp; try with_reducible rfl)
  try simp only [Act.put, sA, sB, sC]
  refine tk (i := 3) (oi := ⟨some 10, .move (.tmp 0), 68, "node.go:109", #[⟨2, .guard⟩], some (2, false)⟩) (v := ?_) (Or.inl ⟨by rfl, ?_⟩) ?_
  rotate_left 1
  ·(intro u hSw; go_simp; try with_reducible rfl)
  try simp only [Act.put, sA, sB, sC]
  refine tk (i := 4) (oi := ⟨some 11, .nilCheck (.tmp 10), 0, "node.go:109", #[⟨3, .data⟩, ⟨2, .guard⟩], some (2, false)⟩) (v := ?_) (Or.inl ⟨by rfl, ?_⟩) ?_
  rotate_left 1
  ·(intro u hSw; go_simp; try with_reducible rfl)
  try simp only [Act.put, sA, sB, sC]
  refine tk (i := 5) (oi := ⟨some 12, .fieldAddr 115 (.tmp 11) 0, 0, "node.go:109", #[⟨4, .data⟩, ⟨2, .guard⟩], some (2, false)⟩) (v := ?_) (Or.inl ⟨by rfl, ?_⟩) ?_
  rotate_left 1
  ·(intro u hSw; go_simp; try with_reducible rfl)
  try simp only [Act.put, sA, sB, sC]
  refine tk (i := 6) (oi := ⟨some 13, .load 66 (.tmp 12), 66, "node.go:109", #[⟨5, .data⟩, ⟨2, .guard⟩], some (2, false)⟩) (v := .agg (rkC (.slice an k.length cn) n rk')) (Or.inl ⟨by rfl, ?_⟩) ?_
  ·intro u hSw
   exact exec_load_mid 66 (Operand.tmp 12) rfl b 0 rfl (rkL (.slice an k.length cn) n rk') _ (HN.out.below hSw).rg Tryd.underlying66 rfl HR1.out
  try simp only [Act.put, sA, sB, sC]
  refine tk (i := 7) (oi := ⟨some 14, .load 66 (.tmp 4), 66, "node.go:109", #[⟨2, .guard⟩], some (2, false)⟩) (v := .agg (rkC (.slice ak key.length ck) cnt rk)) (Or.inl ⟨by rfl, ?_⟩) ?_
  ·intro u hSw
   exact exec_load_mid 66 (Operand.tmp 4) rfl w.heap.size 0 rfl (rkL (.slice ak key.length ck) cnt rk) _ (rk_rng (HXR.out _ hSw)) Tryd.underlying66 rfl HR2.out
  try simp only [Act.put, sA, sB, sC]
  refine wpAnyH_ready (rs := [8]) (by kernel_rfl) (by simp) ?_
  refine (AllReadyH.cons (o := ⟨some 15, .call ⟨.value (.func 60), #[.tmp 13, .tmp 14], #[66, 66]⟩, 4, "node.go:109", #[⟨6, .data⟩, ⟨7, .data⟩, ⟨2, .chain⟩, ⟨2, .guard⟩], some (2, false)⟩) rfl (fun K hK => ?_) AllReadyH.nil)
  go_simp
  refine (HAB.out _ hbb).mono ?_
  rintro e w1 ⟨rfl, hb1⟩
  have hbc := hbb.trans (hb1.mono hbb.size)
  clear hb1
  go_wp2_with fail
  refine hK.out _ _ hbc (fun hHeld => ?_)
  clear hK K
  try simp only [Act.put, sA, sB, sC]
  refine tk (i := 9) (oi := ⟨some 16, .unOp UnOp.not 4 (.tmp 15), 4, "node.go:109", #[⟨8, .data⟩, ⟨2, .guard⟩], some (2, false)⟩) (v := ?_) (Or.inl ⟨by rfl, ?_⟩) ?_
  rotate_left 1
  ·(intro u hSw; go_simp; try with_reducible rfl)
  try simp only [Act.put, sA, sB, sC]
  refine tk (i := 10) (oi := ⟨some 17, .pick (.tmp 9) (.const (Value.bool true)) (.tmp 16), 4, "node.go:109", #[⟨2, .data⟩, ⟨9, .data⟩], none⟩) (v := ?_) (Or.inl ⟨by rfl, ?_⟩) ?_
  rotate_left 1
  ·(intro u hSw; go_simp; try with_reducible rfl)
  try simp only [Act.put, sA, sB, sC]
  refine wpAnyH_done (by kernel_rfl) ?_ _
  have HBC := hid hbc
  clear hbc hbb
  generalize abv k rk' key rk = ab at *
  cases ab with
  | false =>
   rw [if_neg (by decide)] at HPUT
   go_wp2_with fail
   refine (HED.out _ HBC.out).mono ?_
   rintro e w3 ⟨x, rfl, hx, hb3⟩
   obtain ⟨ax, rfl⟩ := hx.form
   have HX := hid (And.intro hx hb3)
   clear hx hb3
   go_wp2_with fail
   go_ret
   rw [HPUT.out]
   exact ⟨_, rfl, HX.out.1, HB2.out.trans ((HBC.out.trans (HX.out.2.mono HBC.out.size)).mono HB2.out.size)⟩
  | true =>
   rw [if_pos rfl] at HPUT
   go_wp2_with fail
   have hb3 := HBC.out.drew
   refine wp_region_held_drew (S := fun u => Below w2.heap.size w2 u) (by kernel_rfl) (hb3) (fun hHeld => ?_)
   refine tk (i := 0) (oi := ⟨some 21, .fieldAddr 66 (.tmp 4) 0, 0, "node.go:112", #[], none⟩) (v := ?_) (Or.inl ⟨by rfl, ?_⟩) ?_
   rotate_left 1
   ·(intro u hSw; go_simp; try with_reducible rfl)
   try simp only [Act.put, sA, sB, sC]
   refine tk (i := 1) (oi := ⟨some 22, .fieldAddr 33 (.tmp 21) 0, 0, "node.go:112", #[⟨0, .data⟩], none⟩) (v := ?_) (Or.inl ⟨by rfl, ?_⟩) ?_
   rotate_left 1
   ·(intro u hSw; go_simp; try with_reducible rfl)
   try simp only [Act.put, sA, sB, sC]
   refine tk (i := 2) (oi := ⟨some 23, .load 31 (.tmp 22), 31, "node.go:112", #[⟨1, .data⟩], none⟩) (v := ?_) (Or.inl ⟨by rfl, ?_⟩) ?_
   rotate_left 1
   ·(intro u hSw; have c0 := (HN.out.below hSw).c0; have d0 := (rk_0 (HXR.out _ hSw)).1; go_simp; try with_reducible rfl)
   try simp only [Act.put, sA, sB, sC]
   refine tk (i := 3) (oi := ⟨some 24, .move (.tmp 0), 68, "node.go:112", #[], none⟩) (v := ?_) (Or.inl ⟨by rfl, ?_⟩) ?_
   rotate_left 1
   ·(intro u hSw; go_simp; try with_reducible rfl)
   try simp only [Act.put, sA, sB, sC]
   refine tk (i := 4) (oi := ⟨some 25, .nilCheck (.tmp 24), 0, "node.go:112", #[⟨3, .data⟩], none⟩) (v := ?_) (Or.inl ⟨by rfl, ?_⟩) ?_
   rotate_left 1
   ·(intro u hSw; go_simp; try with_reducible rfl)
   try simp only [Act.put, sA, sB, sC]
   refine tk (i := 5) (oi := ⟨some 26, .fieldAddr 115 (.tmp 25) 0, 0, "node.go:112", #[⟨4, .data⟩], none⟩) (v := ?_) (Or.inl ⟨by rfl, ?_⟩) ?_
   rotate_left 1
   ·(intro u hSw; go_simp; try with_reducible rfl)
   try simp only [Act.put, sA, sB, sC]
   refine tk (i := 6) (oi := ⟨some 27, .fieldAddr 66 (.tmp 26) 0, 0, "node.go:112", #[⟨5, .data⟩], none⟩) (v := ?_) (Or.inl ⟨by rfl, ?_⟩) ?_
   rotate_left 1
   ·(intro u hSw; go_simp; try with_reducible rfl)
   try simp only [Act.put, sA, sB, sC]
   refine tk (i := 7) (oi := ⟨some 28, .fieldAddr 33 (.tmp 27) 0, 0, "node.go:112", #[⟨6, .data⟩], none⟩) (v := ?_) (Or.inl ⟨by rfl, ?_⟩) ?_
   rotate_left 1
   ·(intro u hSw; go_simp; try with_reducible rfl)
   try simp only [Act.put, sA, sB, sC]
   refine tk (i := 8) (oi := ⟨some 29, .load 31 (.tmp 28), 31, "node.go:112", #[⟨7, .data⟩], none⟩) (v := ?_) (Or.inl ⟨by rfl, ?_⟩) ?_
   rotate_left 1
   ·(intro u hSw; have c0 := (HN.out.below hSw).c0; have d0 := (rk_0 (HXR.out _ hSw)).1; go_simp; try with_reducible rfl)
   try simp only [Act.put, sA, sB, sC]
   refine wpAnyH_ready (rs := [9]) (by kernel_rfl) (by simp) ?_
   refine (AllReadyH.cons (o := ⟨some 30, .call ⟨.value (.func 56), #[.tmp 23, .tmp 29], #[31, 31]⟩, 3, "node.go:112", #[⟨2, .data⟩, ⟨8, .data⟩], none⟩) rfl (fun K hK => ?_) AllReadyH.nil)
   go_simp
   refine (HCM.out _ hb3).mono ?_
   rintro e w4 ⟨rfl, hw4⟩
   have hb4 : Below w2.heap.size w2 w4 := by rw [hw4]; exact hb3
   clear hw4
   go_wp2_with fail
   refine hK.out _ _ hb4 (fun hHeld => ?_)
   clear hK K
   try simp only [Act.put, sA, sB, sC]
   refine tk (i := 10) (oi := ⟨some 31, .binOp BinOp.lss 3 (.tmp 30) (.const (Value.int IntKind.i64 0)) 3, 4, "node.go:112", #[⟨9, .data⟩], none⟩) (v := ?_) (Or.inl ⟨by rfl, ?_⟩) ?_
   rotate_left 1
   ·(intro u hSw; go_simp; try with_reducible rfl)
   try simp only [Act.put, sA, sB, sC]
   refine wpAnyH_done (by kernel_rfl) ?_ _
   have HB4 := hid hb4
   clear hb4 hb3
   generalize cmpI key k = cc at *
   by_cases hlt : cc < 0
   ·rw [if_pos hlt] at HPUT
    go_wp2_with fail
    have hb5 := HB4.out.drew
    refine wp_region_held_drew (S := fun u => Below w2.heap.size w2 u) (by kernel_rfl) (hb5) (fun hHeld => ?_)
    refine tk (i := 0) (oi := ⟨some 32, .move (.tmp 0), 68, "node.go:113", #[], none⟩) (v := ?_) (Or.inl ⟨by rfl, ?_⟩) ?_
    rotate_left 1
    ·(intro u hSw; go_simp; try with_reducible rfl)
    try simp only [Act.put, sA, sB, sC]
    refine tk (i := 1) (oi := ⟨some 33, .nilCheck (.tmp 32), 0, "node.go:113", #[⟨0, .data⟩], none⟩) (v := ?_) (Or.inl ⟨by rfl, ?_⟩) ?_
    rotate_left 1
    ·(intro u hSw; go_simp; try with_reducible rfl)
    try simp only [Act.put, sA, sB, sC]
    refine tk (i := 2) (oi := ⟨some 34, .fieldAddr 115 (.tmp 33) 0, 0, "node.go:113", #[⟨1, .data⟩], none⟩) (v := ?_) (Or.inl ⟨by rfl, ?_⟩) ?_
    rotate_left 1
    ·(intro u hSw; go_simp; try with_reducible rfl)
    try simp only [Act.put, sA, sB, sC]
    refine tk (i := 3) (oi := ⟨some 35, .load 66 (.tmp 34), 66, "node.go:113", #[⟨2, .data⟩], none⟩) (v := .agg (rkC (.slice an k.length cn) n rk')) (Or.inl ⟨by rfl, ?_⟩) ?_
    ·intro u hSw
     exact exec_load_mid 66 (Operand.tmp 34) rfl b 0 rfl (rkL (.slice an k.length cn) n rk') _ (HN.out.below hSw).rg Tryd.underlying66 rfl HR1.out
    try simp only [Act.put, sA, sB, sC]
    refine tk (i := 4) (oi := ⟨some 36, .move (.tmp 0), 68, "node.go:113", #[], none⟩) (v := ?_) (Or.inl ⟨by rfl, ?_⟩) ?_
    rotate_left 1
    ·(intro u hSw; go_simp; try with_reducible rfl)
    try simp only [Act.put, sA, sB, sC]
    refine tk (i := 5) (oi := ⟨some 37, .nilCheck (.tmp 36), 0, "node.go:113", #[⟨4, .data⟩], none⟩) (v := ?_) (Or.inl ⟨by rfl, ?_⟩) ?_
    rotate_left 1
    ·(intro u hSw; go_simp; try with_reducible rfl)
    try simp only [Act.put, sA, sB, sC]
    refine tk (i := 6) (oi := ⟨some 38, .fieldAddr 115 (.tmp 37) 1, 0, "node.go:113", #[⟨5, .data⟩], none⟩) (v := ?_) (Or.inl ⟨by rfl, ?_⟩) ?_
    rotate_left 1
    ·(intro u hSw; go_simp; try with_reducible rfl)
    try simp only [Act.put, sA, sB, sC]
    refine tk (i := 7) (oi := ⟨some 39, .load 68 (.tmp 38), 68, "node.go:113", #[⟨6, .data⟩], none⟩) (v := ?_) (Or.inl ⟨by rfl, ?_⟩) ?_
    rotate_left 1
    ·(intro u hSw; have c34 := (HN.out.below hSw).c34; have c35 := (HN.out.below hSw).c35; go_simp; try with_reducible rfl)
    try simp only [Act.put, sA, sB, sC]
    refine tk (i := 8) (oi := ⟨some 40, .load 66 (.tmp 4), 66, "node.go:113", #[], none⟩) (v := .agg (rkC (.slice ak key.length ck) cnt rk)) (Or.inl ⟨by rfl, ?_⟩) ?_
    ·intro u hSw
     exact exec_load_mid 66 (Operand.tmp 4) rfl w.heap.size 0 rfl (rkL (.slice ak key.length ck) cnt rk) _ (rk_rng (HXR.out _ hSw)) Tryd.underlying66 rfl HR2.out
    try simp only [Act.put, sA, sB, sC]
    refine tk (i := 9) (oi := ⟨some 41, .move (.tmp 2), 123, "node.go:113", #[], none⟩) (v := ?_) (Or.inl ⟨by rfl, ?_⟩) ?_
    rotate_left 1
    ·(intro u hSw; go_simp; try with_reducible rfl)
    try simp only [Act.put, sA, sB, sC]
    refine tk (i := 11) (oi := ⟨some 43, .move (.tmp 0), 68, "node.go:113", #[], none⟩) (v := ?_) (Or.inl ⟨by rfl, ?_⟩) ?_
    rotate_left 1
    ·(intro u hSw; go_simp; try with_reducible rfl)
    try simp only [Act.put, sA, sB, sC]
    refine tk (i := 12) (oi := ⟨some 44, .nilCheck (.tmp 43), 0, "node.go:113", #[⟨11, .data⟩], none⟩) (v := ?_) (Or.inl ⟨by rfl, ?_⟩) ?_
    rotate_left 1
    ·(intro u hSw; go_simp; try with_reducible rfl)
    try simp only [Act.put, sA, sB, sC]
    refine tk (i := 13) (oi := ⟨some 45, .fieldAddr 115 (.tmp 44) 2, 0, "node.go:113", #[⟨12, .data⟩], none⟩) (v := ?_) (Or.inl ⟨by rfl, ?_⟩) ?_
    rotate_left 1
    ·(intro u hSw; go_simp; try with_reducible rfl)
    try simp only [Act.put, sA, sB, sC]
    refine tk (i := 14) (oi := ⟨some 46, .load 68 (.tmp 45), 68, "node.go:113", #[⟨13, .data⟩], none⟩) (v := ?_) (Or.inl ⟨by rfl, ?_⟩) ?_
    rotate_left 1
    ·(intro u hSw; have c34 := (HN.out.below hSw).c34; have c35 := (HN.out.below hSw).c35; go_simp; try with_reducible rfl)
    try simp only [Act.put, sA, sB, sC]
    refine wpAnyH_ready (rs := [10]) (by kernel_rfl) (by simp) ?_
    refine (AllReadyH.cons (o := ⟨some 42, .call ⟨.value (.func 68), #[.tmp 39, .tmp 40, .tmp 41], #[68, 66, 123]⟩, 68, "node.go:113", #[⟨7, .data⟩, ⟨8, .data⟩, ⟨9, .data⟩], none⟩) rfl (fun K hK => ?_) AllReadyH.nil)
    go_simp
    refine (HIL.out _ hb5).mono ?_
    rintro e w6 ⟨x6, rfl, hx6, hb6⟩
    obtain ⟨a6, rfl⟩ := hx6.form
    have HX6 := hid hx6
    have hb6' := hb5.trans (hb6.mono hb5.size)
    clear hx6 hb6
    go_wp2_with fail
    refine hK.out _ _ hb6' (fun hHeld => ?_)
    clear hK K
    try simp only [Act.put, sA, sB, sC]
    refine wpAnyH_ready (rs := [15]) (by kernel_rfl) (by simp) ?_
    refine (AllReadyH.cons (o := ⟨some 47, .call ⟨.value (.func 59), #[.tmp 35, .tmp 42, .tmp 46], #[66, 68, 68]⟩, 68, "node.go:113", #[⟨3, .data⟩, ⟨10, .data⟩, ⟨14, .data⟩, ⟨10, .chain⟩], none⟩) rfl (fun K hK => ?_) AllReadyH.nil)
    go_simp
    refine (HML.out _ _ hb6' HX6.out).mono ?_
    rintro e w7 ⟨x7, rfl, hx7, hb7⟩
    obtain ⟨a7, rfl⟩ := hx7.form
    have HX7 := hid hx7
    have hb7' := hb6'.trans (hb7.mono hb6'.size)
    clear hx7 hb7
    go_wp2_with fail
    refine hK.out _ _ hb7' (fun hHeld => ?_)
    clear hK K
    try simp only [Act.put, sA, sB, sC]
    refine tk (i := 16) (oi := ⟨some 6, .assign (.tmp 47), 68, "node.go:113", #[⟨15, .data⟩, ⟨15, .chain⟩, ⟨0, .phase⟩, ⟨1, .phase⟩, ⟨2, .phase⟩, ⟨3, .phase⟩, ⟨4, .phase⟩, ⟨5, .phase⟩, ⟨6, .phase⟩, ⟨7, .phase⟩, ⟨8, .phase⟩, ⟨9, .phase⟩, ⟨10, .phase⟩, ⟨11, .phase⟩, ⟨12, .phase⟩, ⟨13, .phase⟩, ⟨14, .phase⟩, ⟨15, .phase⟩], none⟩) (v := ?_) (Or.inl ⟨by rfl, ?_⟩) ?_
    rotate_left 1
    ·(intro u hSw; go_simp; try with_reducible rfl)
    try simp only [Act.put, sA, sB, sC]
    refine wpAnyH_done (by kernel_rfl) ?_ _
    have HB7 := hid hb7'
    go_wp2_with fail
    go_ret
    rw [HPUT.out]
    exact ⟨_, rfl, HX7.out, HB2.out.trans (HB7.out.mono HB2.out.size)⟩
   ·rw [if_neg hlt] at HPUT
    go_wp2_with fail
    have hb5 := HB4.out.drew
    refine wp_region_held_drew (S := fun u => Below w2.heap.size w2 u) (by kernel_rfl) (hb5) (fun hHeld => ?_)
    refine tk (i := 0) (oi := ⟨some 48, .move (.tmp 0), 68, "node.go:115", #[], none⟩) (v := ?_) (Or.inl ⟨by rfl, ?_⟩) ?_
    rotate_left 1
    ·(intro u hSw; go_simp; try with_reducible rfl)
    try simp only [Act.put, sA, sB, sC]
    refine tk (i := 1) (oi := ⟨some 49, .nilCheck (.tmp 48), 0, "node.go:115", #[⟨0, .data⟩], none⟩) (v := ?_) (Or.inl ⟨by rfl, ?_⟩) ?_
    rotate_left 1
    ·(intro u hSw; go_simp; try with_reducible rfl)
    try simp only [Act.put, sA, sB, sC]
    refine tk (i := 2) (oi := ⟨some 50, .fieldAddr 115 (.tmp 49) 0, 0, "node.go:115", #[⟨1, .data⟩], none⟩) (v := ?_) (Or.inl ⟨by rfl, ?_⟩) ?_
    rotate_left 1
    ·(intro u hSw; go_simp; try with_reducible rfl)
    try simp only [Act.put, sA, sB, sC]
    refine tk (i := 3) (oi := ⟨some 51, .load 66 (.tmp 50), 66, "node.go:115", #[⟨2, .data⟩], none⟩) (v := .agg (rkC (.slice an k.length cn) n rk')) (Or.inl ⟨by rfl, ?_⟩) ?_
    ·intro u hSw
     exact exec_load_mid 66 (Operand.tmp 50) rfl b 0 rfl (rkL (.slice an k.length cn) n rk') _ (HN.out.below hSw).rg Tryd.underlying66 rfl HR1.out
    try simp only [Act.put, sA, sB, sC]
    refine tk (i := 4) (oi := ⟨some 52, .move (.tmp 0), 68, "node.go:115", #[], none⟩) (v := ?_) (Or.inl ⟨by rfl, ?_⟩) ?_
    rotate_left 1
    ·(intro u hSw; go_simp; try with_reducible rfl)
    try simp only [Act.put, sA, sB, sC]
    refine tk (i := 5) (oi := ⟨some 53, .nilCheck (.tmp 52), 0, "node.go:115", #[⟨4, .data⟩], none⟩) (v := ?_) (Or.inl ⟨by rfl, ?_⟩) ?_
    rotate_left 1
    ·(intro u hSw; go_simp; try with_reducible rfl)
    try simp only [Act.put, sA, sB, sC]
    refine tk (i := 6) (oi := ⟨some 54, .fieldAddr 115 (.tmp 53) 1, 0, "node.go:115", #[⟨5, .data⟩], none⟩) (v := ?_) (Or.inl ⟨by rfl, ?_⟩) ?_
    rotate_left 1
    ·(intro u hSw; go_simp; try with_reducible rfl)
    try simp only [Act.put, sA, sB, sC]
    refine tk (i := 7) (oi := ⟨some 55, .load 68 (.tmp 54), 68, "node.go:115", #[⟨6, .data⟩], none⟩) (v := ?_) (Or.inl ⟨by rfl, ?_⟩) ?_
    rotate_left 1
    ·(intro u hSw; have c34 := (HN.out.below hSw).c34; have c35 := (HN.out.below hSw).c35; go_simp; try with_reducible rfl)
    try simp only [Act.put, sA, sB, sC]
    refine tk (i := 8) (oi := ⟨some 56, .move (.tmp 0), 68, "node.go:115", #[], none⟩) (v := ?_) (Or.inl ⟨by rfl, ?_⟩) ?_
    rotate_left 1
    ·(intro u hSw; go_simp; try with_reducible rfl)
    try simp only [Act.put, sA, sB, sC]
    refine tk (i := 9) (oi := ⟨some 57, .nilCheck (.tmp 56), 0, "node.go:115", #[⟨8, .data⟩], none⟩) (v := ?_) (Or.inl ⟨by rfl, ?_⟩) ?_
    rotate_left 1
    ·(intro u hSw; go_simp; try with_reducible rfl)
    try simp only [Act.put, sA, sB, sC]
    refine tk (i := 10) (oi := ⟨some 58, .fieldAddr 115 (.tmp 57) 2, 0, "node.go:115", #[⟨9, .data⟩], none⟩) (v := ?_) (Or.inl ⟨by rfl, ?_⟩) ?_
    rotate_left 1
    ·(intro u hSw; go_simp; try with_reducible rfl)
    try simp only [Act.put, sA, sB, sC]
    refine tk (i := 11) (oi := ⟨some 59, .load 68 (.tmp 58), 68, "node.go:115", #[⟨10, .data⟩], none⟩) (v := ?_) (Or.inl ⟨by rfl, ?_⟩) ?_
    rotate_left 1
    ·(intro u hSw; have c34 := (HN.out.below hSw).c34; have c35 := (HN.out.below hSw).c35; go_simp; try with_reducible rfl)
    try simp only [Act.put, sA, sB, sC]
    refine tk (i := 12) (oi := ⟨some 60, .load 66 (.tmp 4), 66, "node.go:115", #[], none⟩) (v := .agg (rkC (.slice ak key.length ck) cnt rk)) (Or.inl ⟨by rfl, ?_⟩) ?_
    ·intro u hSw
     exact exec_load_mid 66 (Operand.tmp 4) rfl w.heap.size 0 rfl (rkL (.slice ak key.length ck) cnt rk) _ (rk_rng (HXR.out _ hSw)) Tryd.underlying66 rfl HR2.out
    try simp only [Act.put, sA, sB, sC]
    refine tk (i := 13) (oi := ⟨some 61, .move (.tmp 2), 123, "node.go:115", #[], none⟩) (v := ?_) (Or.inl ⟨by rfl, ?_⟩) ?_
    rotate_left 1
    ·(intro u hSw; go_simp; try with_reducible rfl)
    try simp only [Act.put, sA, sB, sC]
    refine wpAnyH_ready (rs := [14]) (by kernel_rfl) (by simp) ?_
    refine (AllReadyH.cons (o := ⟨some 62, .call ⟨.value (.func 68), #[.tmp 59, .tmp 60, .tmp 61], #[68, 66, 123]⟩, 68, "node.go:115", #[⟨11, .data⟩, ⟨12, .data⟩, ⟨13, .data⟩], none⟩) rfl (fun K hK => ?_) AllReadyH.nil)
    go_simp
    refine (HIR.out _ hb5).mono ?_
    rintro e w6 ⟨x6, rfl, hx6, hb6⟩
    obtain ⟨a6, rfl⟩ := hx6.form
    have HX6 := hid hx6
    have hb6' := hb5.trans (hb6.mono hb5.size)
    clear hx6 hb6
    go_wp2_with fail
    refine hK.out _ _ hb6' (fun hHeld => ?_)
    clear hK K
    try simp only [Act.put, sA, sB, sC]
    refine wpAnyH_ready (rs := [15]) (by kernel_rfl) (by simp) ?_
    refine (AllReadyH.cons (o := ⟨some 63, .call ⟨.value (.func 59), #[.tmp 51, .tmp 55, .tmp 62], #[66, 68, 68]⟩, 68, "node.go:115", #[⟨3, .data⟩, ⟨7, .data⟩, ⟨14, .data⟩, ⟨14, .chain⟩], none⟩) rfl (fun K hK => ?_) AllReadyH.nil)
    go_simp
    refine (HMR.out _ _ hb6' HX6.out).mono ?_
    rintro e w7 ⟨x7, rfl, hx7, hb7⟩
    obtain ⟨a7, rfl⟩ := hx7.form
    have HX7 := hid hx7
    have hb7' := hb6'.trans (hb7.mono hb6'.size)
    clear hx7 hb7
    go_wp2_with fail
    refine hK.out _ _ hb7' (fun hHeld => ?_)
    clear hK K
    try simp only [Act.put, sA, sB, sC]
    refine tk (i := 16) (oi := ⟨some 6, .assign (.tmp 63), 68, "node.go:115", #[⟨15, .data⟩, ⟨15, .chain⟩, ⟨0, .phase⟩, ⟨1, .phase⟩, ⟨2, .phase⟩, ⟨3, .phase⟩, ⟨4, .phase⟩, ⟨5, .phase⟩, ⟨6, .phase⟩, ⟨7, .phase⟩, ⟨8, .phase⟩, ⟨9, .phase⟩, ⟨10, .phase⟩, ⟨11, .phase⟩, ⟨12, .phase⟩, ⟨13, .phase⟩, ⟨14, .phase⟩, ⟨15, .phase⟩], none⟩) (v := ?_) (Or.inl ⟨by rfl, ?_⟩) ?_
    rotate_left 1
    ·(intro u hSw; go_simp; try with_reducible rfl)
    try simp only [Act.put, sA, sB, sC]
    refine wpAnyH_done (by kernel_rfl) ?_ _
    have HB7 := hid hb7'
    go_wp2_with fail
    go_ret
    rw [HPUT.out]
    exact ⟨_, rfl, HX7.out, HB2.out.trans (HB7.out.mono HB2.out.size)⟩
end Go.Proofs.YtbmlkocpjboodaaDoor
