/- stage 7: changed, set -/
import Derived.Test.YtmejjjkbbkgioaaDoorMs08
namespace Go.Proofs.YtmejjjkbbkgioaaDoor
open Go.RowKit
theorem rk_rng {u : World} {g : Nat} {kv : Value} {n : Nat} {rk : List Int} (h : u.heap[g]? = some (.cells (rkC kv n rk) 66 (0, 0))) : u.rangeAt g 0 (rkL kv n rk) := fun j x hj => by
 rw [cell_of_row _ g _ _ _ _ h, Nat.zero_add]
 unfold rkC
 rw [List.getElem?_toArray]
 exact hj
set_option maxRecDepth 100000 in
set_option maxHeartbeats 16000000 in
theorem changed_any {S : Nat → Prop} (key : List Int) (cnt : Nat) (rk : List Int) (hkl : key.length ≤ 65535) (gk : Rng key) (hn : cnt < 9223372036854775808) (h1 : rk.length = 32) (h2 : Rng rk) (g : Nat) (kv : Value) : ∀ (t : MT) (w : World) (p : Value), (∀ b, w.heap.size ≤ b → S b) → MIs w S p t → t.Full → t.Good → KC w → CB w g kv cnt rk → KIs w S kv key →
  Calls Tryd.prog 68 #[p, .agg (rkC kv cnt rk), (.func (.func 69) #[] #[.pointer (some ⟨g, 0, none⟩)])] w fun e w' => ∃ x, e = .returned x ∧ MIs w' S x (t.put key cnt rk) ∧ Below w.heap.size w w' := by
 intro t
 induction t with
 | nil =>
  intro w p hS hp hf hg hK hc hk
  obtain rfl : p = .pointer none := hp
  obtain ⟨ak, ck, rfl⟩ := hk.form
  have HED := Lib.hid (fun u (hu : Below w.heap.size w u) => edit_any (S := S) key cnt rk hkl gk hn h1 g (.slice ak key.length ck) .nil u (.pointer none) (fun b hb => hS b (Nat.le_trans hu.size hb)) rfl trivial trivial (hK.below hu hK.1) (hc.below hu) (hk.below hu))
  clear hS hf hg hK hc hk
  rw [show (MT.nil).put key cnt rk = MT.edit key cnt rk .nil from rfl]
  generalize MT.edit key cnt rk .nil = T at *
  go_enter Tryd.func68, Tryd.ntmps68
  go_wp2_with fail
  have hb2 : Below w.heap.size w (w.alloc (.cells (rkC (.slice ak key.length ck) cnt rk) 66)) := (Below.refl _ _).alloc (Nat.le_refl _) _
  generalize w.alloc (.cells (rkC (.slice ak key.length ck) cnt rk) 66) = w2 at *
  have HB2 := Lib.hid hb2.drew
  clear hb2
  refine wp_region_held_drew (S := fun _ => True) (by kernel_rfl) (trivial) (fun hHeld => ?_)
  refine wpAnyH_take (i := 0) (oi := ({ dst := some 7, op := .move (.tmp 0), type := 68, pos := "node.go:109", after := #[], guard := none } : Oper)) (v := ?_) rfl (by kernel_rfl) (by kernel_rfl) (by kernel_rfl) (fun _ _ _ h => h) (Or.inl ⟨by rfl, ?_⟩) (by assumption) ?_
  rotate_left 1
  ·(intro u hSw; go_simp; try with_reducible rfl)
  try simp only [Act.put, List.setIfInBounds_toArray, List.set_cons_zero, List.set_cons_succ]
  refine wpAnyH_take (i := 1) (oi := ({ dst := some 8, op := .binOp BinOp.eql 68 (.tmp 7) (.const (Value.pointer none)) 68, type := 4, pos := "node.go:109", after := #[{ on := 0, ground := .data }], guard := none } : Oper)) (v := ?_) rfl (by kernel_rfl) (by kernel_rfl) (by kernel_rfl) (fun _ _ _ h => h) (Or.inl ⟨by rfl, ?_⟩) (by assumption) ?_
  rotate_left 1
  ·(intro u hSw; go_simp; try with_reducible rfl)
  try simp only [Act.put, List.setIfInBounds_toArray, List.set_cons_zero, List.set_cons_succ]
  refine wpAnyH_take (i := 2) (oi := ({ dst := some 9, op := .move (.tmp 8), type := 4, pos := "node.go:109", after := #[{ on := 1, ground := .data }], guard := none } : Oper)) (v := ?_) rfl (by kernel_rfl) (by kernel_rfl) (by kernel_rfl) (fun _ _ _ h => h) (Or.inl ⟨by rfl, ?_⟩) (by assumption) ?_
  rotate_left 1
  ·(intro u hSw; go_simp; try with_reducible rfl)
  try simp only [Act.put, List.setIfInBounds_toArray, List.set_cons_zero, List.set_cons_succ]
  refine wpAnyH_take (i := 3) (oi := ({ dst := some 10, op := .move (.tmp 0), type := 68, pos := "node.go:109", after := #[{ on := 2, ground := .guard }], guard := some (2, false) } : Oper)) (v := undef) rfl (by kernel_rfl) (by kernel_rfl) (by kernel_rfl) (fun _ _ _ h => h) (by exact .inr ⟨by rfl, rfl⟩) (by assumption) ?_
  try simp only [Act.put, List.setIfInBounds_toArray, List.set_cons_zero, List.set_cons_succ]
  refine wpAnyH_take (i := 4) (oi := ({ dst := some 11, op := .nilCheck (.tmp 10), type := 0, pos := "node.go:109", after := #[{ on := 3, ground := .data }, { on := 2, ground := .guard }], guard := some (2, false) } : Oper)) (v := undef) rfl (by kernel_rfl) (by kernel_rfl) (by kernel_rfl) (fun _ _ _ h => h) (by exact .inr ⟨by rfl, rfl⟩) (by assumption) ?_
  try simp only [Act.put, List.setIfInBounds_toArray, List.set_cons_zero, List.set_cons_succ]
  refine wpAnyH_take (i := 5) (oi := ({ dst := some 12, op := .fieldAddr 115 (.tmp 11) 0, type := 0, pos := "node.go:109", after := #[{ on := 4, ground := .data }, { on := 2, ground := .guard }], guard := some (2, false) } : Oper)) (v := undef) rfl (by kernel_rfl) (by kernel_rfl) (by kernel_rfl) (fun _ _ _ h => h) (by exact .inr ⟨by rfl, rfl⟩) (by assumption) ?_
  try simp only [Act.put, List.setIfInBounds_toArray, List.set_cons_zero, List.set_cons_succ]
  refine wpAnyH_take (i := 6) (oi := ({ dst := some 13, op := .load 66 (.tmp 12), type := 66, pos := "node.go:109", after := #[{ on := 5, ground := .data }, { on := 2, ground := .guard }], guard := some (2, false) } : Oper)) (v := undef) rfl (by kernel_rfl) (by kernel_rfl) (by kernel_rfl) (fun _ _ _ h => h) (by exact .inr ⟨by rfl, rfl⟩) (by assumption) ?_
  try simp only [Act.put, List.setIfInBounds_toArray, List.set_cons_zero, List.set_cons_succ]
  refine wpAnyH_take (i := 7) (oi := ({ dst := some 14, op := .load 66 (.tmp 4), type := 66, pos := "node.go:109", after := #[{ on := 2, ground := .guard }], guard := some (2, false) } : Oper)) (v := undef) rfl (by kernel_rfl) (by kernel_rfl) (by kernel_rfl) (fun _ _ _ h => h) (by exact .inr ⟨by rfl, rfl⟩) (by assumption) ?_
  try simp only [Act.put, List.setIfInBounds_toArray, List.set_cons_zero, List.set_cons_succ]
  refine wpAnyH_take (i := 8) (oi := ({ dst := some 15, op := .call { callee := Callee.value (Operand.func 60), args := #[.tmp 13, .tmp 14], argTypes := #[66, 66] }, type := 4, pos := "node.go:109", after := #[{ on := 6, ground := .data }, { on := 7, ground := .data }, { on := 2, ground := .chain }, { on := 2, ground := .guard }], guard := some (2, false) } : Oper)) (v := undef) rfl (by kernel_rfl) (by kernel_rfl) (by kernel_rfl) (fun _ _ _ h => h) (by exact .inr ⟨by rfl, rfl⟩) (by assumption) ?_
  try simp only [Act.put, List.setIfInBounds_toArray, List.set_cons_zero, List.set_cons_succ]
  refine wpAnyH_take (i := 9) (oi := ({ dst := some 16, op := .unOp UnOp.not 4 (.tmp 15), type := 4, pos := "node.go:109", after := #[{ on := 8, ground := .data }, { on := 2, ground := .guard }], guard := some (2, false) } : Oper)) (v := undef) rfl (by kernel_rfl) (by kernel_rfl) (by kernel_rfl) (fun _ _ _ h => h) (by exact .inr ⟨by rfl, rfl⟩) (by assumption) ?_
  try simp only [Act.put, List.setIfInBounds_toArray, List.set_cons_zero, List.set_cons_succ]
  refine wpAnyH_take (i := 10) (oi := ({ dst := some 17, op := .pick (.tmp 9) (.const (Value.bool true)) (.tmp 16), type := 4, pos := "node.go:109", after := #[{ on := 2, ground := .data }, { on := 9, ground := .data }], guard := none } : Oper)) (v := ?_) rfl (by kernel_rfl) (by kernel_rfl) (by kernel_rfl) (fun _ _ _ h => h) (Or.inl ⟨by rfl, ?_⟩) (by assumption) ?_
  rotate_left 1
  ·(intro u hSw; go_simp; try with_reducible rfl)
  try simp only [Act.put, List.setIfInBounds_toArray, List.set_cons_zero, List.set_cons_succ]
  refine wpAnyH_done (by kernel_rfl) ?_ _
  go_wp2_with fail
  refine (HED.out _ HB2.out).mono ?_
  rintro e w3 ⟨x, rfl, hx, hb3⟩
  obtain ⟨ax, rfl⟩ := hx.form
  have HX := Lib.hid (And.intro hx hb3)
  clear hx hb3
  go_wp2_with fail
  go_ret
  exact ⟨_, rfl, HX.out.1, HB2.out.trans (HX.out.2.mono HB2.out.size)⟩
 | cut d => intro w p _ _ hf; exact absurd hf id
 | nd k n rk' dg l r ihl ihr =>
  intro w p hS hp hf hg hK hc hk
  have hp0 := hp
  obtain ⟨b, kn, lp, rp, rfl, hSb, q1, q2, hx, hkn, hl, hr⟩ := hp
  obtain ⟨fl, fr⟩ := id hf
  obtain ⟨-, gl, gr, hkl', hkr', hn', hr1, hr2⟩ := id hg
  obtain ⟨al, rfl⟩ := hl.form
  obtain ⟨ar, rfl⟩ := hr.form
  obtain ⟨an, cn, rfl⟩ := hkn.form
  obtain ⟨ak, ck, rfl⟩ := hk.form
  have pl := MT.put_ok key cnt rk hkl gk hn h1 h2 l gl fl
  have pr := MT.put_ok key cnt rk hkl gk hn h1 h2 r gr fr
  have hb2 : Below w.heap.size w (w.alloc (.cells (rkC (.slice ak key.length ck) cnt rk) 66)) := (Below.refl _ _).alloc (Nat.le_refl _) _
  have hx2 : (w.alloc (.cells (rkC (.slice ak key.length ck) cnt rk) 66)).heap[w.heap.size]? = some (.cells (rkC (.slice ak key.length ck) cnt rk) 66 (0, 0)) := heap_alloc_new _ _
  generalize hw2 : w.alloc (.cells (rkC (.slice ak key.length ck) cnt rk) 66) = w2 at *
  have hS2 : ∀ b, w2.heap.size ≤ b → S b := fun b hb => hS b (Nat.le_trans hb2.size hb)
  replace hp0 := hp0.below hb2
  replace hkn := hkn.below hb2
  replace hl := hl.below hb2
  replace hr := hr.below hb2
  replace hK := hK.below hb2 hK.1
  have hK1 := hK.1
  replace hc := hc.below hb2
  replace hk := hk.below hb2
  have HN := Lib.hid ((NR.of hx q1).below hb2)
  have HXR := Lib.hid (fun u (hu : Below w2.heap.size w2 u) => (show u.heap[w.heap.size]? = some (.cells (rkC (.slice ak key.length ck) cnt rk) 66 (0, 0)) from (hu.block _ (blk_lt hx2)).trans hx2))
  have HR1 := Lib.hid (rkL_info (kv := (.slice an k.length cn)) (n := n) q1)
  have HR2 := Lib.hid (rkL_info (kv := (.slice ak key.length ck)) (n := cnt) h1)
  have HED := Lib.hid (fun u (hu : Below w2.heap.size w2 u) => edit_any (S := S) key cnt rk hkl gk hn h1 g (.slice ak key.length ck) (.nd k n rk' dg l r) u (.pointer (some ⟨b, 0, none⟩)) (fun b hb => hS2 b (Nat.le_trans hu.size hb)) (hp0.below hu) hf hg (hK.below hu hK1) (hc.below hu) (hk.below hu))
  have HAB := Lib.hid (fun u (hu : Below w2.heap.size w2 u) => above_any u (.slice an k.length cn) (.slice ak key.length ck) n cnt k rk' key rk (hkn.below hu).1 (hk.below hu).1 hkr' gk q1 h1 hr2 h2)
  have HCM := Lib.hid (fun u (hu : Below w2.heap.size w2 u) => compare_any (.slice ak key.length ck) (.slice an k.length cn) key k u (hk.below hu).1 (hkn.below hu).1 gk hkr')
  have HIL := Lib.hid (fun u (hu : Below w2.heap.size w2 u) => ihl u (.pointer al) (fun b hb => hS2 b (Nat.le_trans hu.size hb)) (hl.below hu) fl gl (hK.below hu hK1) (hc.below hu) (hk.below hu))
  have HIR := Lib.hid (fun u (hu : Below w2.heap.size w2 u) => ihr u (.pointer ar) (fun b hb => hS2 b (Nat.le_trans hu.size hb)) (hr.below hu) fr gr (hK.below hu hK1) (hc.below hu) (hk.below hu))
  have HML := Lib.hid (fun u x (hu : Below w2.heap.size w2 u) (hx : MIs u S x (l.put key cnt rk)) => newNode_any (S := S) u (.slice an k.length cn) x (.pointer ar) k n rk' (l.put key cnt rk) r (fun b hb => hS2 b (Nat.le_trans hu.size hb)) q1 (hkn.below hu) hx (hr.below hu) pl.1 gr (hK.below hu hK1) hkl' hn')
  have HMR := Lib.hid (fun u x (hu : Below w2.heap.size w2 u) (hx : MIs u S x (r.put key cnt rk)) => newNode_any (S := S) u (.slice an k.length cn) (.pointer al) x k n rk' l (r.put key cnt rk) (fun b hb => hS2 b (Nat.le_trans hu.size hb)) q1 (hkn.below hu) (hl.below hu) hx gl pr.1 (hK.below hu hK1) hkl' hn')
  have HPUT := Lib.hid (show (MT.nd k n rk' dg l r).put key cnt rk = if abv k rk' key rk = true then (if cmpI key k < 0 then mkN k n rk' (l.put key cnt rk) r else mkN k n rk' l (r.put key cnt rk)) else MT.edit key cnt rk (.nd k n rk' dg l r) from rfl)
  have HB2 := Lib.hid hb2
  have hbb : Below w2.heap.size w2 w2.drew := (Below.refl _ _).drew
  clear hS hf hg hK hc hk hp0 hSb q2 hx hkn hl hr fl fr gl gr hkl' hkr' hn' hr1 hr2 pl pr hb2 hx2 hS2 hK1 ihl ihr
  generalize (MT.nd k n rk' dg l r).put key cnt rk = RES at *
  generalize MT.edit key cnt rk (.nd k n rk' dg l r) = T at *
  generalize l.put key cnt rk = TL at *
  generalize r.put key cnt rk = TR at *
  go_enter Tryd.func68, Tryd.ntmps68
  go_wp2_with fail
  try rw [hw2]
  clear hw2
  refine wp_region_held_drew (S := fun u => Below w2.heap.size w2 u) (by kernel_rfl) (hbb) (fun hHeld => ?_)
  refine wpAnyH_take (i := 0) (oi := ({ dst := some 7, op := .move (.tmp 0), type := 68, pos := "node.go:109", after := #[], guard := none } : Oper)) (v := ?_) rfl (by kernel_rfl) (by kernel_rfl) (by kernel_rfl) (fun _ _ _ h => h) (Or.inl ⟨by rfl, ?_⟩) (by assumption) ?_
  rotate_left 1
  ·(intro u hSw; go_simp; try with_reducible rfl)
  try simp only [Act.put, List.setIfInBounds_toArray, List.set_cons_zero, List.set_cons_succ]
  refine wpAnyH_take (i := 1) (oi := ({ dst := some 8, op := .binOp BinOp.eql 68 (.tmp 7) (.const (Value.pointer none)) 68, type := 4, pos := "node.go:109", after := #[{ on := 0, ground := .data }], guard := none } : Oper)) (v := ?_) rfl (by kernel_rfl) (by kernel_rfl) (by kernel_rfl) (fun _ _ _ h => h) (Or.inl ⟨by rfl, ?_⟩) (by assumption) ?_
  rotate_left 1
  ·(intro u hSw; go_simp; try with_reducible rfl)
  try simp only [Act.put, List.setIfInBounds_toArray, List.set_cons_zero, List.set_cons_succ]
  refine wpAnyH_take (i := 2) (oi := ({ dst := some 9, op := .move (.tmp 8), type := 4, pos := "node.go:109", after := #[{ on := 1, ground := .data }], guard := none } : Oper)) (v := ?_) rfl (by kernel_rfl) (by kernel_rfl) (by kernel_rfl) (fun _ _ _ h => h) (Or.inl ⟨by rfl, ?_⟩) (by assumption) ?_
  rotate_left 1
  ·(intro u hSw; go_simp; try with_reducible rfl)
  try simp only [Act.put, List.setIfInBounds_toArray, List.set_cons_zero, List.set_cons_succ]
  refine wpAnyH_take (i := 3) (oi := ({ dst := some 10, op := .move (.tmp 0), type := 68, pos := "node.go:109", after := #[{ on := 2, ground := .guard }], guard := some (2, false) } : Oper)) (v := ?_) rfl (by kernel_rfl) (by kernel_rfl) (by kernel_rfl) (fun _ _ _ h => h) (Or.inl ⟨by rfl, ?_⟩) (by assumption) ?_
  rotate_left 1
  ·(intro u hSw; go_simp; try with_reducible rfl)
  try simp only [Act.put, List.setIfInBounds_toArray, List.set_cons_zero, List.set_cons_succ]
  refine wpAnyH_take (i := 4) (oi := ({ dst := some 11, op := .nilCheck (.tmp 10), type := 0, pos := "node.go:109", after := #[{ on := 3, ground := .data }, { on := 2, ground := .guard }], guard := some (2, false) } : Oper)) (v := ?_) rfl (by kernel_rfl) (by kernel_rfl) (by kernel_rfl) (fun _ _ _ h => h) (Or.inl ⟨by rfl, ?_⟩) (by assumption) ?_
  rotate_left 1
  ·(intro u hSw; go_simp; try with_reducible rfl)
  try simp only [Act.put, List.setIfInBounds_toArray, List.set_cons_zero, List.set_cons_succ]
  refine wpAnyH_take (i := 5) (oi := ({ dst := some 12, op := .fieldAddr 115 (.tmp 11) 0, type := 0, pos := "node.go:109", after := #[{ on := 4, ground := .data }, { on := 2, ground := .guard }], guard := some (2, false) } : Oper)) (v := ?_) rfl (by kernel_rfl) (by kernel_rfl) (by kernel_rfl) (fun _ _ _ h => h) (Or.inl ⟨by rfl, ?_⟩) (by assumption) ?_
  rotate_left 1
  ·(intro u hSw; go_simp; try with_reducible rfl)
  try simp only [Act.put, List.setIfInBounds_toArray, List.set_cons_zero, List.set_cons_succ]
  refine wpAnyH_take (i := 6) (oi := ({ dst := some 13, op := .load 66 (.tmp 12), type := 66, pos := "node.go:109", after := #[{ on := 5, ground := .data }, { on := 2, ground := .guard }], guard := some (2, false) } : Oper)) (v := .agg (rkC (.slice an k.length cn) n rk')) rfl (by kernel_rfl) (by kernel_rfl) (by kernel_rfl) (fun _ _ _ h => h) (Or.inl ⟨by rfl, ?_⟩) (by assumption) ?_
  ·intro u hSw
   exact exec_load_mid 66 (Operand.tmp 12) rfl b 0 rfl (rkL (.slice an k.length cn) n rk') _ (HN.out.below hSw).rg Tryd.underlying66 rfl HR1.out
  try simp only [Act.put, List.setIfInBounds_toArray, List.set_cons_zero, List.set_cons_succ]
  refine wpAnyH_take (i := 7) (oi := ({ dst := some 14, op := .load 66 (.tmp 4), type := 66, pos := "node.go:109", after := #[{ on := 2, ground := .guard }], guard := some (2, false) } : Oper)) (v := .agg (rkC (.slice ak key.length ck) cnt rk)) rfl (by kernel_rfl) (by kernel_rfl) (by kernel_rfl) (fun _ _ _ h => h) (Or.inl ⟨by rfl, ?_⟩) (by assumption) ?_
  ·intro u hSw
   exact exec_load_mid 66 (Operand.tmp 4) rfl w.heap.size 0 rfl (rkL (.slice ak key.length ck) cnt rk) _ (rk_rng (HXR.out _ hSw)) Tryd.underlying66 rfl HR2.out
  try simp only [Act.put, List.setIfInBounds_toArray, List.set_cons_zero, List.set_cons_succ]
  refine wpAnyH_ready (rs := [8]) (by kernel_rfl) (by simp) ?_
  refine (AllReadyH.cons (o := ({ dst := some 15, op := .call { callee := Callee.value (Operand.func 60), args := #[.tmp 13, .tmp 14], argTypes := #[66, 66] }, type := 4, pos := "node.go:109", after := #[{ on := 6, ground := .data }, { on := 7, ground := .data }, { on := 2, ground := .chain }, { on := 2, ground := .guard }], guard := some (2, false) } : Oper)) rfl (fun K hK => ?_) AllReadyH.nil)
  go_simp
  refine (HAB.out _ hbb).mono ?_
  rintro e w1 ⟨rfl, hb1⟩
  have hbc := hbb.trans (hb1.mono hbb.size)
  clear hb1
  go_wp2_with fail
  refine hK.out _ _ hbc (fun hHeld => ?_)
  clear hK K
  try simp only [Act.put, List.setIfInBounds_toArray, List.set_cons_zero, List.set_cons_succ]
  refine wpAnyH_take (i := 9) (oi := ({ dst := some 16, op := .unOp UnOp.not 4 (.tmp 15), type := 4, pos := "node.go:109", after := #[{ on := 8, ground := .data }, { on := 2, ground := .guard }], guard := some (2, false) } : Oper)) (v := ?_) rfl (by kernel_rfl) (by kernel_rfl) (by kernel_rfl) (fun _ _ _ h => h) (Or.inl ⟨by rfl, ?_⟩) (by assumption) ?_
  rotate_left 1
  ·(intro u hSw; go_simp; try with_reducible rfl)
  try simp only [Act.put, List.setIfInBounds_toArray, List.set_cons_zero, List.set_cons_succ]
  refine wpAnyH_take (i := 10) (oi := ({ dst := some 17, op := .pick (.tmp 9) (.const (Value.bool true)) (.tmp 16), type := 4, pos := "node.go:109", after := #[{ on := 2, ground := .data }, { on := 9, ground := .data }], guard := none } : Oper)) (v := ?_) rfl (by kernel_rfl) (by kernel_rfl) (by kernel_rfl) (fun _ _ _ h => h) (Or.inl ⟨by rfl, ?_⟩) (by assumption) ?_
  rotate_left 1
  ·(intro u hSw; go_simp; try with_reducible rfl)
  try simp only [Act.put, List.setIfInBounds_toArray, List.set_cons_zero, List.set_cons_succ]
  refine wpAnyH_done (by kernel_rfl) ?_ _
  have HBC := Lib.hid hbc
  clear hbc hbb
  generalize abv k rk' key rk = ab at *
  cases ab with
  | false =>
   rw [if_neg (by decide)] at HPUT
   go_wp2_with fail
   refine (HED.out _ HBC.out).mono ?_
   rintro e w3 ⟨x, rfl, hx, hb3⟩
   obtain ⟨ax, rfl⟩ := hx.form
   have HX := Lib.hid (And.intro hx hb3)
   clear hx hb3
   go_wp2_with fail
   go_ret
   rw [HPUT.out]
   exact ⟨_, rfl, HX.out.1, HB2.out.trans ((HBC.out.trans (HX.out.2.mono HBC.out.size)).mono HB2.out.size)⟩
  | true =>
   rw [if_pos rfl] at HPUT
   go_wp2_with fail
   have hb3 := HBC.out.drew
   refine wp_region_held_drew (S := fun u => Below w2.heap.size w2 u) (by kernel_rfl) (hb3) (fun hHeld => ?_)
   refine wpAnyH_take (i := 0) (oi := ({ dst := some 21, op := .fieldAddr 66 (.tmp 4) 0, type := 0, pos := "node.go:112", after := #[], guard := none } : Oper)) (v := ?_) rfl (by kernel_rfl) (by kernel_rfl) (by kernel_rfl) (fun _ _ _ h => h) (Or.inl ⟨by rfl, ?_⟩) (by assumption) ?_
   rotate_left 1
   ·(intro u hSw; go_simp; try with_reducible rfl)
   try simp only [Act.put, List.setIfInBounds_toArray, List.set_cons_zero, List.set_cons_succ]
   refine wpAnyH_take (i := 1) (oi := ({ dst := some 22, op := .fieldAddr 33 (.tmp 21) 0, type := 0, pos := "node.go:112", after := #[{ on := 0, ground := .data }], guard := none } : Oper)) (v := ?_) rfl (by kernel_rfl) (by kernel_rfl) (by kernel_rfl) (fun _ _ _ h => h) (Or.inl ⟨by rfl, ?_⟩) (by assumption) ?_
   rotate_left 1
   ·(intro u hSw; go_simp; try with_reducible rfl)
   try simp only [Act.put, List.setIfInBounds_toArray, List.set_cons_zero, List.set_cons_succ]
   refine wpAnyH_take (i := 2) (oi := ({ dst := some 23, op := .load 31 (.tmp 22), type := 31, pos := "node.go:112", after := #[{ on := 1, ground := .data }], guard := none } : Oper)) (v := ?_) rfl (by kernel_rfl) (by kernel_rfl) (by kernel_rfl) (fun _ _ _ h => h) (Or.inl ⟨by rfl, ?_⟩) (by assumption) ?_
   rotate_left 1
   ·(intro u hSw; have c0 := (HN.out.below hSw).c0; have d0 := (rk_0 (HXR.out _ hSw)).1; go_simp; try with_reducible rfl)
   try simp only [Act.put, List.setIfInBounds_toArray, List.set_cons_zero, List.set_cons_succ]
   refine wpAnyH_take (i := 3) (oi := ({ dst := some 24, op := .move (.tmp 0), type := 68, pos := "node.go:112", after := #[], guard := none } : Oper)) (v := ?_) rfl (by kernel_rfl) (by kernel_rfl) (by kernel_rfl) (fun _ _ _ h => h) (Or.inl ⟨by rfl, ?_⟩) (by assumption) ?_
   rotate_left 1
   ·(intro u hSw; go_simp; try with_reducible rfl)
   try simp only [Act.put, List.setIfInBounds_toArray, List.set_cons_zero, List.set_cons_succ]
   refine wpAnyH_take (i := 4) (oi := ({ dst := some 25, op := .nilCheck (.tmp 24), type := 0, pos := "node.go:112", after := #[{ on := 3, ground := .data }], guard := none } : Oper)) (v := ?_) rfl (by kernel_rfl) (by kernel_rfl) (by kernel_rfl) (fun _ _ _ h => h) (Or.inl ⟨by rfl, ?_⟩) (by assumption) ?_
   rotate_left 1
   ·(intro u hSw; go_simp; try with_reducible rfl)
   try simp only [Act.put, List.setIfInBounds_toArray, List.set_cons_zero, List.set_cons_succ]
   refine wpAnyH_take (i := 5) (oi := ({ dst := some 26, op := .fieldAddr 115 (.tmp 25) 0, type := 0, pos := "node.go:112", after := #[{ on := 4, ground := .data }], guard := none } : Oper)) (v := ?_) rfl (by kernel_rfl) (by kernel_rfl) (by kernel_rfl) (fun _ _ _ h => h) (Or.inl ⟨by rfl, ?_⟩) (by assumption) ?_
   rotate_left 1
   ·(intro u hSw; go_simp; try with_reducible rfl)
   try simp only [Act.put, List.setIfInBounds_toArray, List.set_cons_zero, List.set_cons_succ]
   refine wpAnyH_take (i := 6) (oi := ({ dst := some 27, op := .fieldAddr 66 (.tmp 26) 0, type := 0, pos := "node.go:112", after := #[{ on := 5, ground := .data }], guard := none } : Oper)) (v := ?_) rfl (by kernel_rfl) (by kernel_rfl) (by kernel_rfl) (fun _ _ _ h => h) (Or.inl ⟨by rfl, ?_⟩) (by assumption) ?_
   rotate_left 1
   ·(intro u hSw; go_simp; try with_reducible rfl)
   try simp only [Act.put, List.setIfInBounds_toArray, List.set_cons_zero, List.set_cons_succ]
   refine wpAnyH_take (i := 7) (oi := ({ dst := some 28, op := .fieldAddr 33 (.tmp 27) 0, type := 0, pos := "node.go:112", after := #[{ on := 6, ground := .data }], guard := none } : Oper)) (v := ?_) rfl (by kernel_rfl) (by kernel_rfl) (by kernel_rfl) (fun _ _ _ h => h) (Or.inl ⟨by rfl, ?_⟩) (by assumption) ?_
   rotate_left 1
   ·(intro u hSw; go_simp; try with_reducible rfl)
   try simp only [Act.put, List.setIfInBounds_toArray, List.set_cons_zero, List.set_cons_succ]
   refine wpAnyH_take (i := 8) (oi := ({ dst := some 29, op := .load 31 (.tmp 28), type := 31, pos := "node.go:112", after := #[{ on := 7, ground := .data }], guard := none } : Oper)) (v := ?_) rfl (by kernel_rfl) (by kernel_rfl) (by kernel_rfl) (fun _ _ _ h => h) (Or.inl ⟨by rfl, ?_⟩) (by assumption) ?_
   rotate_left 1
   ·(intro u hSw; have c0 := (HN.out.below hSw).c0; have d0 := (rk_0 (HXR.out _ hSw)).1; go_simp; try with_reducible rfl)
   try simp only [Act.put, List.setIfInBounds_toArray, List.set_cons_zero, List.set_cons_succ]
   refine wpAnyH_ready (rs := [9]) (by kernel_rfl) (by simp) ?_
   refine (AllReadyH.cons (o := ({ dst := some 30, op := .call { callee := Callee.value (Operand.func 56), args := #[.tmp 23, .tmp 29], argTypes := #[31, 31] }, type := 3, pos := "node.go:112", after := #[{ on := 2, ground := .data }, { on := 8, ground := .data }], guard := none } : Oper)) rfl (fun K hK => ?_) AllReadyH.nil)
   go_simp
   refine (HCM.out _ hb3).mono ?_
   rintro e w4 ⟨rfl, hw4⟩
   have hb4 : Below w2.heap.size w2 w4 := by rw [hw4]; exact hb3
   clear hw4
   go_wp2_with fail
   refine hK.out _ _ hb4 (fun hHeld => ?_)
   clear hK K
   try simp only [Act.put, List.setIfInBounds_toArray, List.set_cons_zero, List.set_cons_succ]
   refine wpAnyH_take (i := 10) (oi := ({ dst := some 31, op := .binOp BinOp.lss 3 (.tmp 30) (.const (Value.int IntKind.i64 0)) 3, type := 4, pos := "node.go:112", after := #[{ on := 9, ground := .data }], guard := none } : Oper)) (v := ?_) rfl (by kernel_rfl) (by kernel_rfl) (by kernel_rfl) (fun _ _ _ h => h) (Or.inl ⟨by rfl, ?_⟩) (by assumption) ?_
   rotate_left 1
   ·(intro u hSw; go_simp; try with_reducible rfl)
   try simp only [Act.put, List.setIfInBounds_toArray, List.set_cons_zero, List.set_cons_succ]
   refine wpAnyH_done (by kernel_rfl) ?_ _
   have HB4 := Lib.hid hb4
   clear hb4 hb3
   generalize cmpI key k = cc at *
   by_cases hlt : cc < 0
   ·rw [if_pos hlt] at HPUT
    go_wp2_with fail
    have hb5 := HB4.out.drew
    refine wp_region_held_drew (S := fun u => Below w2.heap.size w2 u) (by kernel_rfl) (hb5) (fun hHeld => ?_)
    refine wpAnyH_take (i := 0) (oi := ({ dst := some 32, op := .move (.tmp 0), type := 68, pos := "node.go:113", after := #[], guard := none } : Oper)) (v := ?_) rfl (by kernel_rfl) (by kernel_rfl) (by kernel_rfl) (fun _ _ _ h => h) (Or.inl ⟨by rfl, ?_⟩) (by assumption) ?_
    rotate_left 1
    ·(intro u hSw; go_simp; try with_reducible rfl)
    try simp only [Act.put, List.setIfInBounds_toArray, List.set_cons_zero, List.set_cons_succ]
    refine wpAnyH_take (i := 1) (oi := ({ dst := some 33, op := .nilCheck (.tmp 32), type := 0, pos := "node.go:113", after := #[{ on := 0, ground := .data }], guard := none } : Oper)) (v := ?_) rfl (by kernel_rfl) (by kernel_rfl) (by kernel_rfl) (fun _ _ _ h => h) (Or.inl ⟨by rfl, ?_⟩) (by assumption) ?_
    rotate_left 1
    ·(intro u hSw; go_simp; try with_reducible rfl)
    try simp only [Act.put, List.setIfInBounds_toArray, List.set_cons_zero, List.set_cons_succ]
    refine wpAnyH_take (i := 2) (oi := ({ dst := some 34, op := .fieldAddr 115 (.tmp 33) 0, type := 0, pos := "node.go:113", after := #[{ on := 1, ground := .data }], guard := none } : Oper)) (v := ?_) rfl (by kernel_rfl) (by kernel_rfl) (by kernel_rfl) (fun _ _ _ h => h) (Or.inl ⟨by rfl, ?_⟩) (by assumption) ?_
    rotate_left 1
    ·(intro u hSw; go_simp; try with_reducible rfl)
    try simp only [Act.put, List.setIfInBounds_toArray, List.set_cons_zero, List.set_cons_succ]
    refine wpAnyH_take (i := 3) (oi := ({ dst := some 35, op := .load 66 (.tmp 34), type := 66, pos := "node.go:113", after := #[{ on := 2, ground := .data }], guard := none } : Oper)) (v := .agg (rkC (.slice an k.length cn) n rk')) rfl (by kernel_rfl) (by kernel_rfl) (by kernel_rfl) (fun _ _ _ h => h) (Or.inl ⟨by rfl, ?_⟩) (by assumption) ?_
    ·intro u hSw
     exact exec_load_mid 66 (Operand.tmp 34) rfl b 0 rfl (rkL (.slice an k.length cn) n rk') _ (HN.out.below hSw).rg Tryd.underlying66 rfl HR1.out
    try simp only [Act.put, List.setIfInBounds_toArray, List.set_cons_zero, List.set_cons_succ]
    refine wpAnyH_take (i := 4) (oi := ({ dst := some 36, op := .move (.tmp 0), type := 68, pos := "node.go:113", after := #[], guard := none } : Oper)) (v := ?_) rfl (by kernel_rfl) (by kernel_rfl) (by kernel_rfl) (fun _ _ _ h => h) (Or.inl ⟨by rfl, ?_⟩) (by assumption) ?_
    rotate_left 1
    ·(intro u hSw; go_simp; try with_reducible rfl)
    try simp only [Act.put, List.setIfInBounds_toArray, List.set_cons_zero, List.set_cons_succ]
    refine wpAnyH_take (i := 5) (oi := ({ dst := some 37, op := .nilCheck (.tmp 36), type := 0, pos := "node.go:113", after := #[{ on := 4, ground := .data }], guard := none } : Oper)) (v := ?_) rfl (by kernel_rfl) (by kernel_rfl) (by kernel_rfl) (fun _ _ _ h => h) (Or.inl ⟨by rfl, ?_⟩) (by assumption) ?_
    rotate_left 1
    ·(intro u hSw; go_simp; try with_reducible rfl)
    try simp only [Act.put, List.setIfInBounds_toArray, List.set_cons_zero, List.set_cons_succ]
    refine wpAnyH_take (i := 6) (oi := ({ dst := some 38, op := .fieldAddr 115 (.tmp 37) 1, type := 0, pos := "node.go:113", after := #[{ on := 5, ground := .data }], guard := none } : Oper)) (v := ?_) rfl (by kernel_rfl) (by kernel_rfl) (by kernel_rfl) (fun _ _ _ h => h) (Or.inl ⟨by rfl, ?_⟩) (by assumption) ?_
    rotate_left 1
    ·(intro u hSw; go_simp; try with_reducible rfl)
    try simp only [Act.put, List.setIfInBounds_toArray, List.set_cons_zero, List.set_cons_succ]
    refine wpAnyH_take (i := 7) (oi := ({ dst := some 39, op := .load 68 (.tmp 38), type := 68, pos := "node.go:113", after := #[{ on := 6, ground := .data }], guard := none } : Oper)) (v := ?_) rfl (by kernel_rfl) (by kernel_rfl) (by kernel_rfl) (fun _ _ _ h => h) (Or.inl ⟨by rfl, ?_⟩) (by assumption) ?_
    rotate_left 1
    ·(intro u hSw; have c34 := (HN.out.below hSw).c34; have c35 := (HN.out.below hSw).c35; go_simp; try with_reducible rfl)
    try simp only [Act.put, List.setIfInBounds_toArray, List.set_cons_zero, List.set_cons_succ]
    refine wpAnyH_take (i := 8) (oi := ({ dst := some 40, op := .load 66 (.tmp 4), type := 66, pos := "node.go:113", after := #[], guard := none } : Oper)) (v := .agg (rkC (.slice ak key.length ck) cnt rk)) rfl (by kernel_rfl) (by kernel_rfl) (by kernel_rfl) (fun _ _ _ h => h) (Or.inl ⟨by rfl, ?_⟩) (by assumption) ?_
    ·intro u hSw
     exact exec_load_mid 66 (Operand.tmp 4) rfl w.heap.size 0 rfl (rkL (.slice ak key.length ck) cnt rk) _ (rk_rng (HXR.out _ hSw)) Tryd.underlying66 rfl HR2.out
    try simp only [Act.put, List.setIfInBounds_toArray, List.set_cons_zero, List.set_cons_succ]
    refine wpAnyH_take (i := 9) (oi := ({ dst := some 41, op := .move (.tmp 2), type := 123, pos := "node.go:113", after := #[], guard := none } : Oper)) (v := ?_) rfl (by kernel_rfl) (by kernel_rfl) (by kernel_rfl) (fun _ _ _ h => h) (Or.inl ⟨by rfl, ?_⟩) (by assumption) ?_
    rotate_left 1
    ·(intro u hSw; go_simp; try with_reducible rfl)
    try simp only [Act.put, List.setIfInBounds_toArray, List.set_cons_zero, List.set_cons_succ]
    refine wpAnyH_take (i := 11) (oi := ({ dst := some 43, op := .move (.tmp 0), type := 68, pos := "node.go:113", after := #[], guard := none } : Oper)) (v := ?_) rfl (by kernel_rfl) (by kernel_rfl) (by kernel_rfl) (fun _ _ _ h => h) (Or.inl ⟨by rfl, ?_⟩) (by assumption) ?_
    rotate_left 1
    ·(intro u hSw; go_simp; try with_reducible rfl)
    try simp only [Act.put, List.setIfInBounds_toArray, List.set_cons_zero, List.set_cons_succ]
    refine wpAnyH_take (i := 12) (oi := ({ dst := some 44, op := .nilCheck (.tmp 43), type := 0, pos := "node.go:113", after := #[{ on := 11, ground := .data }], guard := none } : Oper)) (v := ?_) rfl (by kernel_rfl) (by kernel_rfl) (by kernel_rfl) (fun _ _ _ h => h) (Or.inl ⟨by rfl, ?_⟩) (by assumption) ?_
    rotate_left 1
    ·(intro u hSw; go_simp; try with_reducible rfl)
    try simp only [Act.put, List.setIfInBounds_toArray, List.set_cons_zero, List.set_cons_succ]
    refine wpAnyH_take (i := 13) (oi := ({ dst := some 45, op := .fieldAddr 115 (.tmp 44) 2, type := 0, pos := "node.go:113", after := #[{ on := 12, ground := .data }], guard := none } : Oper)) (v := ?_) rfl (by kernel_rfl) (by kernel_rfl) (by kernel_rfl) (fun _ _ _ h => h) (Or.inl ⟨by rfl, ?_⟩) (by assumption) ?_
    rotate_left 1
    ·(intro u hSw; go_simp; try with_reducible rfl)
    try simp only [Act.put, List.setIfInBounds_toArray, List.set_cons_zero, List.set_cons_succ]
    refine wpAnyH_take (i := 14) (oi := ({ dst := some 46, op := .load 68 (.tmp 45), type := 68, pos := "node.go:113", after := #[{ on := 13, ground := .data }], guard := none } : Oper)) (v := ?_) rfl (by kernel_rfl) (by kernel_rfl) (by kernel_rfl) (fun _ _ _ h => h) (Or.inl ⟨by rfl, ?_⟩) (by assumption) ?_
    rotate_left 1
    ·(intro u hSw; have c34 := (HN.out.below hSw).c34; have c35 := (HN.out.below hSw).c35; go_simp; try with_reducible rfl)
    try simp only [Act.put, List.setIfInBounds_toArray, List.set_cons_zero, List.set_cons_succ]
    refine wpAnyH_ready (rs := [10]) (by kernel_rfl) (by simp) ?_
    refine (AllReadyH.cons (o := ({ dst := some 42, op := .call { callee := Callee.value (Operand.func 68), args := #[.tmp 39, .tmp 40, .tmp 41], argTypes := #[68, 66, 123] }, type := 68, pos := "node.go:113", after := #[{ on := 7, ground := .data }, { on := 8, ground := .data }, { on := 9, ground := .data }], guard := none } : Oper)) rfl (fun K hK => ?_) AllReadyH.nil)
    go_simp
    refine (HIL.out _ hb5).mono ?_
    rintro e w6 ⟨x6, rfl, hx6, hb6⟩
    obtain ⟨a6, rfl⟩ := hx6.form
    have HX6 := Lib.hid hx6
    have hb6' := hb5.trans (hb6.mono hb5.size)
    clear hx6 hb6
    go_wp2_with fail
    refine hK.out _ _ hb6' (fun hHeld => ?_)
    clear hK K
    try simp only [Act.put, List.setIfInBounds_toArray, List.set_cons_zero, List.set_cons_succ]
    refine wpAnyH_ready (rs := [15]) (by kernel_rfl) (by simp) ?_
    refine (AllReadyH.cons (o := ({ dst := some 47, op := .call { callee := Callee.value (Operand.func 59), args := #[.tmp 35, .tmp 42, .tmp 46], argTypes := #[66, 68, 68] }, type := 68, pos := "node.go:113", after := #[{ on := 3, ground := .data }, { on := 10, ground := .data }, { on := 14, ground := .data }, { on := 10, ground := .chain }], guard := none } : Oper)) rfl (fun K hK => ?_) AllReadyH.nil)
    go_simp
    refine (HML.out _ _ hb6' HX6.out).mono ?_
    rintro e w7 ⟨x7, rfl, hx7, hb7⟩
    obtain ⟨a7, rfl⟩ := hx7.form
    have HX7 := Lib.hid hx7
    have hb7' := hb6'.trans (hb7.mono hb6'.size)
    clear hx7 hb7
    go_wp2_with fail
    refine hK.out _ _ hb7' (fun hHeld => ?_)
    clear hK K
    try simp only [Act.put, List.setIfInBounds_toArray, List.set_cons_zero, List.set_cons_succ]
    refine wpAnyH_take (i := 16) (oi := ({ dst := some 6, op := .assign (.tmp 47), type := 68, pos := "node.go:113", after := #[{ on := 15, ground := .data }, { on := 15, ground := .chain }, { on := 0, ground := .phase }, { on := 1, ground := .phase }, { on := 2, ground := .phase }, { on := 3, ground := .phase }, { on := 4, ground := .phase }, { on := 5, ground := .phase }, { on := 6, ground := .phase }, { on := 7, ground := .phase }, { on := 8, ground := .phase }, { on := 9, ground := .phase }, { on := 10, ground := .phase }, { on := 11, ground := .phase }, { on := 12, ground := .phase }, { on := 13, ground := .phase }, { on := 14, ground := .phase }, { on := 15, ground := .phase }], guard := none } : Oper)) (v := ?_) rfl (by kernel_rfl) (by kernel_rfl) (by kernel_rfl) (fun _ _ _ h => h) (Or.inl ⟨by rfl, ?_⟩) (by assumption) ?_
    rotate_left 1
    ·(intro u hSw; go_simp; try with_reducible rfl)
    try simp only [Act.put, List.setIfInBounds_toArray, List.set_cons_zero, List.set_cons_succ]
    refine wpAnyH_done (by kernel_rfl) ?_ _
    have HB7 := Lib.hid hb7'
    go_wp2_with fail
    go_ret
    rw [HPUT.out]
    exact ⟨_, rfl, HX7.out, HB2.out.trans (HB7.out.mono HB2.out.size)⟩
   ·rw [if_neg hlt] at HPUT
    go_wp2_with fail
    have hb5 := HB4.out.drew
    refine wp_region_held_drew (S := fun u => Below w2.heap.size w2 u) (by kernel_rfl) (hb5) (fun hHeld => ?_)
    refine wpAnyH_take (i := 0) (oi := ({ dst := some 48, op := .move (.tmp 0), type := 68, pos := "node.go:115", after := #[], guard := none } : Oper)) (v := ?_) rfl (by kernel_rfl) (by kernel_rfl) (by kernel_rfl) (fun _ _ _ h => h) (Or.inl ⟨by rfl, ?_⟩) (by assumption) ?_
    rotate_left 1
    ·(intro u hSw; go_simp; try with_reducible rfl)
    try simp only [Act.put, List.setIfInBounds_toArray, List.set_cons_zero, List.set_cons_succ]
    refine wpAnyH_take (i := 1) (oi := ({ dst := some 49, op := .nilCheck (.tmp 48), type := 0, pos := "node.go:115", after := #[{ on := 0, ground := .data }], guard := none } : Oper)) (v := ?_) rfl (by kernel_rfl) (by kernel_rfl) (by kernel_rfl) (fun _ _ _ h => h) (Or.inl ⟨by rfl, ?_⟩) (by assumption) ?_
    rotate_left 1
    ·(intro u hSw; go_simp; try with_reducible rfl)
    try simp only [Act.put, List.setIfInBounds_toArray, List.set_cons_zero, List.set_cons_succ]
    refine wpAnyH_take (i := 2) (oi := ({ dst := some 50, op := .fieldAddr 115 (.tmp 49) 0, type := 0, pos := "node.go:115", after := #[{ on := 1, ground := .data }], guard := none } : Oper)) (v := ?_) rfl (by kernel_rfl) (by kernel_rfl) (by kernel_rfl) (fun _ _ _ h => h) (Or.inl ⟨by rfl, ?_⟩) (by assumption) ?_
    rotate_left 1
    ·(intro u hSw; go_simp; try with_reducible rfl)
    try simp only [Act.put, List.setIfInBounds_toArray, List.set_cons_zero, List.set_cons_succ]
    refine wpAnyH_take (i := 3) (oi := ({ dst := some 51, op := .load 66 (.tmp 50), type := 66, pos := "node.go:115", after := #[{ on := 2, ground := .data }], guard := none } : Oper)) (v := .agg (rkC (.slice an k.length cn) n rk')) rfl (by kernel_rfl) (by kernel_rfl) (by kernel_rfl) (fun _ _ _ h => h) (Or.inl ⟨by rfl, ?_⟩) (by assumption) ?_
    ·intro u hSw
     exact exec_load_mid 66 (Operand.tmp 50) rfl b 0 rfl (rkL (.slice an k.length cn) n rk') _ (HN.out.below hSw).rg Tryd.underlying66 rfl HR1.out
    try simp only [Act.put, List.setIfInBounds_toArray, List.set_cons_zero, List.set_cons_succ]
    refine wpAnyH_take (i := 4) (oi := ({ dst := some 52, op := .move (.tmp 0), type := 68, pos := "node.go:115", after := #[], guard := none } : Oper)) (v := ?_) rfl (by kernel_rfl) (by kernel_rfl) (by kernel_rfl) (fun _ _ _ h => h) (Or.inl ⟨by rfl, ?_⟩) (by assumption) ?_
    rotate_left 1
    ·(intro u hSw; go_simp; try with_reducible rfl)
    try simp only [Act.put, List.setIfInBounds_toArray, List.set_cons_zero, List.set_cons_succ]
    refine wpAnyH_take (i := 5) (oi := ({ dst := some 53, op := .nilCheck (.tmp 52), type := 0, pos := "node.go:115", after := #[{ on := 4, ground := .data }], guard := none } : Oper)) (v := ?_) rfl (by kernel_rfl) (by kernel_rfl) (by kernel_rfl) (fun _ _ _ h => h) (Or.inl ⟨by rfl, ?_⟩) (by assumption) ?_
    rotate_left 1
    ·(intro u hSw; go_simp; try with_reducible rfl)
    try simp only [Act.put, List.setIfInBounds_toArray, List.set_cons_zero, List.set_cons_succ]
    refine wpAnyH_take (i := 6) (oi := ({ dst := some 54, op := .fieldAddr 115 (.tmp 53) 1, type := 0, pos := "node.go:115", after := #[{ on := 5, ground := .data }], guard := none } : Oper)) (v := ?_) rfl (by kernel_rfl) (by kernel_rfl) (by kernel_rfl) (fun _ _ _ h => h) (Or.inl ⟨by rfl, ?_⟩) (by assumption) ?_
    rotate_left 1
    ·(intro u hSw; go_simp; try with_reducible rfl)
    try simp only [Act.put, List.setIfInBounds_toArray, List.set_cons_zero, List.set_cons_succ]
    refine wpAnyH_take (i := 7) (oi := ({ dst := some 55, op := .load 68 (.tmp 54), type := 68, pos := "node.go:115", after := #[{ on := 6, ground := .data }], guard := none } : Oper)) (v := ?_) rfl (by kernel_rfl) (by kernel_rfl) (by kernel_rfl) (fun _ _ _ h => h) (Or.inl ⟨by rfl, ?_⟩) (by assumption) ?_
    rotate_left 1
    ·(intro u hSw; have c34 := (HN.out.below hSw).c34; have c35 := (HN.out.below hSw).c35; go_simp; try with_reducible rfl)
    try simp only [Act.put, List.setIfInBounds_toArray, List.set_cons_zero, List.set_cons_succ]
    refine wpAnyH_take (i := 8) (oi := ({ dst := some 56, op := .move (.tmp 0), type := 68, pos := "node.go:115", after := #[], guard := none } : Oper)) (v := ?_) rfl (by kernel_rfl) (by kernel_rfl) (by kernel_rfl) (fun _ _ _ h => h) (Or.inl ⟨by rfl, ?_⟩) (by assumption) ?_
    rotate_left 1
    ·(intro u hSw; go_simp; try with_reducible rfl)
    try simp only [Act.put, List.setIfInBounds_toArray, List.set_cons_zero, List.set_cons_succ]
    refine wpAnyH_take (i := 9) (oi := ({ dst := some 57, op := .nilCheck (.tmp 56), type := 0, pos := "node.go:115", after := #[{ on := 8, ground := .data }], guard := none } : Oper)) (v := ?_) rfl (by kernel_rfl) (by kernel_rfl) (by kernel_rfl) (fun _ _ _ h => h) (Or.inl ⟨by rfl, ?_⟩) (by assumption) ?_
    rotate_left 1
    ·(intro u hSw; go_simp; try with_reducible rfl)
    try simp only [Act.put, List.setIfInBounds_toArray, List.set_cons_zero, List.set_cons_succ]
    refine wpAnyH_take (i := 10) (oi := ({ dst := some 58, op := .fieldAddr 115 (.tmp 57) 2, type := 0, pos := "node.go:115", after := #[{ on := 9, ground := .data }], guard := none } : Oper)) (v := ?_) rfl (by kernel_rfl) (by kernel_rfl) (by kernel_rfl) (fun _ _ _ h => h) (Or.inl ⟨by rfl, ?_⟩) (by assumption) ?_
    rotate_left 1
    ·(intro u hSw; go_simp; try with_reducible rfl)
    try simp only [Act.put, List.setIfInBounds_toArray, List.set_cons_zero, List.set_cons_succ]
    refine wpAnyH_take (i := 11) (oi := ({ dst := some 59, op := .load 68 (.tmp 58), type := 68, pos := "node.go:115", after := #[{ on := 10, ground := .data }], guard := none } : Oper)) (v := ?_) rfl (by kernel_rfl) (by kernel_rfl) (by kernel_rfl) (fun _ _ _ h => h) (Or.inl ⟨by rfl, ?_⟩) (by assumption) ?_
    rotate_left 1
    ·(intro u hSw; have c34 := (HN.out.below hSw).c34; have c35 := (HN.out.below hSw).c35; go_simp; try with_reducible rfl)
    try simp only [Act.put, List.setIfInBounds_toArray, List.set_cons_zero, List.set_cons_succ]
    refine wpAnyH_take (i := 12) (oi := ({ dst := some 60, op := .load 66 (.tmp 4), type := 66, pos := "node.go:115", after := #[], guard := none } : Oper)) (v := .agg (rkC (.slice ak key.length ck) cnt rk)) rfl (by kernel_rfl) (by kernel_rfl) (by kernel_rfl) (fun _ _ _ h => h) (Or.inl ⟨by rfl, ?_⟩) (by assumption) ?_
    ·intro u hSw
     exact exec_load_mid 66 (Operand.tmp 4) rfl w.heap.size 0 rfl (rkL (.slice ak key.length ck) cnt rk) _ (rk_rng (HXR.out _ hSw)) Tryd.underlying66 rfl HR2.out
    try simp only [Act.put, List.setIfInBounds_toArray, List.set_cons_zero, List.set_cons_succ]
    refine wpAnyH_take (i := 13) (oi := ({ dst := some 61, op := .move (.tmp 2), type := 123, pos := "node.go:115", after := #[], guard := none } : Oper)) (v := ?_) rfl (by kernel_rfl) (by kernel_rfl) (by kernel_rfl) (fun _ _ _ h => h) (Or.inl ⟨by rfl, ?_⟩) (by assumption) ?_
    rotate_left 1
    ·(intro u hSw; go_simp; try with_reducible rfl)
    try simp only [Act.put, List.setIfInBounds_toArray, List.set_cons_zero, List.set_cons_succ]
    refine wpAnyH_ready (rs := [14]) (by kernel_rfl) (by simp) ?_
    refine (AllReadyH.cons (o := ({ dst := some 62, op := .call { callee := Callee.value (Operand.func 68), args := #[.tmp 59, .tmp 60, .tmp 61], argTypes := #[68, 66, 123] }, type := 68, pos := "node.go:115", after := #[{ on := 11, ground := .data }, { on := 12, ground := .data }, { on := 13, ground := .data }], guard := none } : Oper)) rfl (fun K hK => ?_) AllReadyH.nil)
    go_simp
    refine (HIR.out _ hb5).mono ?_
    rintro e w6 ⟨x6, rfl, hx6, hb6⟩
    obtain ⟨a6, rfl⟩ := hx6.form
    have HX6 := Lib.hid hx6
    have hb6' := hb5.trans (hb6.mono hb5.size)
    clear hx6 hb6
    go_wp2_with fail
    refine hK.out _ _ hb6' (fun hHeld => ?_)
    clear hK K
    try simp only [Act.put, List.setIfInBounds_toArray, List.set_cons_zero, List.set_cons_succ]
    refine wpAnyH_ready (rs := [15]) (by kernel_rfl) (by simp) ?_
    refine (AllReadyH.cons (o := ({ dst := some 63, op := .call { callee := Callee.value (Operand.func 59), args := #[.tmp 51, .tmp 55, .tmp 62], argTypes := #[66, 68, 68] }, type := 68, pos := "node.go:115", after := #[{ on := 3, ground := .data }, { on := 7, ground := .data }, { on := 14, ground := .data }, { on := 14, ground := .chain }], guard := none } : Oper)) rfl (fun K hK => ?_) AllReadyH.nil)
    go_simp
    refine (HMR.out _ _ hb6' HX6.out).mono ?_
    rintro e w7 ⟨x7, rfl, hx7, hb7⟩
    obtain ⟨a7, rfl⟩ := hx7.form
    have HX7 := Lib.hid hx7
    have hb7' := hb6'.trans (hb7.mono hb6'.size)
    clear hx7 hb7
    go_wp2_with fail
    refine hK.out _ _ hb7' (fun hHeld => ?_)
    clear hK K
    try simp only [Act.put, List.setIfInBounds_toArray, List.set_cons_zero, List.set_cons_succ]
    refine wpAnyH_take (i := 16) (oi := ({ dst := some 6, op := .assign (.tmp 63), type := 68, pos := "node.go:115", after := #[{ on := 15, ground := .data }, { on := 15, ground := .chain }, { on := 0, ground := .phase }, { on := 1, ground := .phase }, { on := 2, ground := .phase }, { on := 3, ground := .phase }, { on := 4, ground := .phase }, { on := 5, ground := .phase }, { on := 6, ground := .phase }, { on := 7, ground := .phase }, { on := 8, ground := .phase }, { on := 9, ground := .phase }, { on := 10, ground := .phase }, { on := 11, ground := .phase }, { on := 12, ground := .phase }, { on := 13, ground := .phase }, { on := 14, ground := .phase }, { on := 15, ground := .phase }], guard := none } : Oper)) (v := ?_) rfl (by kernel_rfl) (by kernel_rfl) (by kernel_rfl) (fun _ _ _ h => h) (Or.inl ⟨by rfl, ?_⟩) (by assumption) ?_
    rotate_left 1
    ·(intro u hSw; go_simp; try with_reducible rfl)
    try simp only [Act.put, List.setIfInBounds_toArray, List.set_cons_zero, List.set_cons_succ]
    refine wpAnyH_done (by kernel_rfl) ?_ _
    have HB7 := Lib.hid hb7'
    go_wp2_with fail
    go_ret
    rw [HPUT.out]
    exact ⟨_, rfl, HX7.out, HB2.out.trans (HB7.out.mono HB2.out.size)⟩
end Go.Proofs.YtmejjjkbbkgioaaDoor
