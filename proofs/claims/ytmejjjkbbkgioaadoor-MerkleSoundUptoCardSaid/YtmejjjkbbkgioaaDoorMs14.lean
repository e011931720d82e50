/- stage 7: outside -/
import Derived.Test.YtmejjjkbbkgioaaDoorMs13
namespace Go.Proofs.YtmejjjkbbkgioaaDoor
open Go.RowKit
set_option maxRecDepth 100000 in
set_option maxHeartbeats 16000000 in
theorem outside_any {S : Nat → Prop} (fv tv plo phi : Value) (fr to : List Int) (e : Bool) (lo hi : Option (List Int)) (w : World) (hf : Bs w fv fr) (ht : Bs w tv to) (gf : Rng fr) (gt : Rng to) (hlo : BK w S plo lo) (hhi : BK w S phi hi) :
  Calls Tryd.prog 85 #[.agg #[plo, phi], .agg #[fv, tv, .bool e]] w fun d w' => d = .returned (.bool (outQ fr to e lo hi)) ∧ Below w.heap.size w w' := by
 obtain ⟨alo, rfl⟩ := hlo.form
 obtain ⟨ahi, rfl⟩ := hhi.form
 have hf0 := hf
 have ht0 := ht
 obtain ⟨af, cf, rfl, -, -⟩ := hf
 obtain ⟨at2, ct, rfl, -, -⟩ := ht
 have hbb : Below w.heap.size w ((w.alloc (.cells #[.pointer alo, .pointer ahi] 142)).alloc (.cells #[.slice af fr.length cf, .slice at2 to.length ct, .bool e] 74)) := ((Below.refl _ _).alloc (Nat.le_refl _) _).alloc (by simp) _
 have hx0 : ((w.alloc (.cells #[.pointer alo, .pointer ahi] 142)).alloc (.cells #[.slice af fr.length cf, .slice at2 to.length ct, .bool e] 74)).heap[w.heap.size]? = some (.cells #[.pointer alo, .pointer ahi] 142 (0, 0)) := (heap_alloc_old _ _ (by simp)).trans (heap_alloc_new _ _)
 have hx1 : ((w.alloc (.cells #[.pointer alo, .pointer ahi] 142)).alloc (.cells #[.slice af fr.length cf, .slice at2 to.length ct, .bool e] 74)).heap[w.heap.size + 1]? = some (.cells #[.slice af fr.length cf, .slice at2 to.length ct, .bool e] 74 (0, 0)) := by
  have q := heap_alloc_new (w.alloc (.cells #[.pointer alo, .pointer ahi] 142)) (.cells #[.slice af fr.length cf, .slice at2 to.length ct, .bool e] 74)
  rwa [World.size_alloc] at q
 have HY := Lib.hid (fun u (hu : Below ((w.alloc (.cells #[.pointer alo, .pointer ahi] 142)).alloc (.cells #[.slice af fr.length cf, .slice at2 to.length ct, .bool e] 74)).heap.size ((w.alloc (.cells #[.pointer alo, .pointer ahi] 142)).alloc (.cells #[.slice af fr.length cf, .slice at2 to.length ct, .bool e] 74)) u) => (show u.cell? ⟨w.heap.size, 0, none⟩ = some (.pointer alo) ∧ u.cell? ⟨w.heap.size, 1, none⟩ = some (.pointer ahi) from ⟨cell_of_row u w.heap.size 0 _ _ _ ((hu.block _ (blk_lt hx0)).trans hx0), cell_of_row u w.heap.size 1 _ _ _ ((hu.block _ (blk_lt hx0)).trans hx0)⟩))
 have HZ := Lib.hid (fun u (hu : Below ((w.alloc (.cells #[.pointer alo, .pointer ahi] 142)).alloc (.cells #[.slice af fr.length cf, .slice at2 to.length ct, .bool e] 74)).heap.size ((w.alloc (.cells #[.pointer alo, .pointer ahi] 142)).alloc (.cells #[.slice af fr.length cf, .slice at2 to.length ct, .bool e] 74)) u) => (show u.cell? ⟨w.heap.size + 1, 0, none⟩ = some (.slice af fr.length cf) from cell_of_row u (w.heap.size + 1) 0 _ _ _ ((hu.block _ (blk_lt hx1)).trans hx1)))
 have HSP := Lib.hid (fun u (hu : Below ((w.alloc (.cells #[.pointer alo, .pointer ahi] 142)).alloc (.cells #[.slice af fr.length cf, .slice at2 to.length ct, .bool e] 74)).heap.size ((w.alloc (.cells #[.pointer alo, .pointer ahi] 142)).alloc (.cells #[.slice af fr.length cf, .slice at2 to.length ct, .bool e] 74)) u) => (show u.rangeAt (w.heap.size + 1) 0 [.slice af fr.length cf, .slice at2 to.length ct, .bool e] from fun j x hj => by
  rw [cell_of_row u (w.heap.size + 1) (0 + j) _ _ _ ((hu.block _ (blk_lt hx1)).trans hx1), Nat.zero_add]
  simpa using hj))
 have HE0 := Lib.hid (fun u (hu : Below ((w.alloc (.cells #[.pointer alo, .pointer ahi] 142)).alloc (.cells #[.slice af fr.length cf, .slice at2 to.length ct, .bool e] 74)).heap.size ((w.alloc (.cells #[.pointer alo, .pointer ahi] 142)).alloc (.cells #[.slice af fr.length cf, .slice at2 to.length ct, .bool e] 74)) u) => endsBy_any (.slice af fr.length cf) (.slice at2 to.length ct) (.slice af fr.length cf) fr to fr e u ((hf0.below hbb).below hu) ((ht0.below hbb).below hu) ((hf0.below hbb).below hu) gt gf)
 have HB0 := Lib.hid hbb
 have HR := Lib.hid (show outQ fr to e lo hi = (endsQ to e fr || hi.elim false (fun h => decide (cmpI h fr ≤ 0)) || lo.elim false (fun l => endsQ to e l)) from rfl)
 generalize outQ fr to e lo hi = R at *
 clear hx0 hx1
 generalize hq0 : endsQ to e fr = q0 at *
 clear hq0
 have hlo2 := hlo.chg (Chg.fresh (F := fun _ => False) hbb) (fun _ _ h => h)
 have hhi2 := hhi.chg (Chg.fresh (F := fun _ => False) hbb) (fun _ _ h => h)
 clear hlo hhi
 cases q0 with
 | true =>
  replace HR : Hid (R = true) := Lib.hid (by rw [HR.out]; simp)
  clear hbb gf gt hlo2 hhi2 hf0 ht0
  go_enter Tryd.func85, Tryd.ntmps85
  go_wp2_with fail
  generalize ((w.alloc (.cells #[.pointer alo, .pointer ahi] 142)).alloc (.cells #[.slice af fr.length cf, .slice at2 to.length ct, .bool e] 74)) = w0 at *
  have hb0 := (Below.refl w0.heap.size w0).drew
  refine wp_region_held_drew (S := fun u => Below w0.heap.size w0 u) (by kernel_rfl) (hb0) (fun hHeld => ?_)
  refine wpAnyH_take (i := 0) (oi := ({ dst := some 5, op := .load 74 (.tmp 3), type := 74, pos := "visit.go:27", after := #[], guard := none } : Oper)) (v := .agg #[.slice af fr.length cf, .slice at2 to.length ct, .bool e]) rfl (by kernel_rfl) (by kernel_rfl) (by kernel_rfl) (fun _ _ _ h => h) (Or.inl ⟨by rfl, ?_⟩) (by assumption) ?_
  ·intro u hSw
   exact exec_load_mid 74 (Operand.tmp 3) rfl (w.heap.size + 1) 0 rfl _ _ (HSP.out _ hSw) Tryd.underlying74 rfl (by kernel_rfl)
  try simp only [Act.put, List.setIfInBounds_toArray, List.set_cons_zero, List.set_cons_succ]
  refine wpAnyH_take (i := 1) (oi := ({ dst := some 6, op := .fieldAddr 74 (.tmp 3) 0, type := 0, pos := "visit.go:27", after := #[], guard := none } : Oper)) (v := ?_) rfl (by kernel_rfl) (by kernel_rfl) (by kernel_rfl) (fun _ _ _ h => h) (Or.inl ⟨by rfl, ?_⟩) (by assumption) ?_
  rotate_left 1
  ·(intro u hSw; go_simp; try with_reducible rfl)
  try simp only [Act.put, List.setIfInBounds_toArray, List.set_cons_zero, List.set_cons_succ]
  refine wpAnyH_take (i := 2) (oi := ({ dst := some 7, op := .load 31 (.tmp 6), type := 31, pos := "visit.go:27", after := #[{ on := 1, ground := .data }], guard := none } : Oper)) (v := ?_) rfl (by kernel_rfl) (by kernel_rfl) (by kernel_rfl) (fun _ _ _ h => h) (Or.inl ⟨by rfl, ?_⟩) (by assumption) ?_
  rotate_left 1
  ·(intro u hSw; have y0 := (HY.out _ hSw).1; have y1 := (HY.out _ hSw).2; have z0 := HZ.out _ hSw; go_simp; try with_reducible rfl)
  try simp only [Act.put, List.setIfInBounds_toArray, List.set_cons_zero, List.set_cons_succ]
  refine wpAnyH_ready (rs := [3]) (by kernel_rfl) (by simp) ?_
  refine (AllReadyH.cons (o := ({ dst := some 8, op := .call { callee := Callee.value (Operand.func 94), args := #[.tmp 5, .tmp 7], argTypes := #[74, 31] }, type := 4, pos := "visit.go:27", after := #[{ on := 0, ground := .data }, { on := 2, ground := .data }], guard := none } : Oper)) rfl (fun K hK => ?_) AllReadyH.nil)
  go_simp
  refine (HE0.out _ hb0).mono ?_
  rintro d w3 ⟨rfl, hw3⟩
  have hb3 : Below w0.heap.size w0 w3 := hb0.trans (hw3.mono hb0.size)
  clear hw3
  go_wp2_with fail
  refine hK.out _ _ hb3 (fun hHeld => ?_)
  clear hK K
  try simp only [Act.put, List.setIfInBounds_toArray, List.set_cons_zero, List.set_cons_succ]
  refine wpAnyH_take (i := 4) (oi := ({ dst := some 9, op := .move (.tmp 8), type := 4, pos := "visit.go:27", after := #[{ on := 3, ground := .data }, { on := 3, ground := .chain }], guard := none } : Oper)) (v := ?_) rfl (by kernel_rfl) (by kernel_rfl) (by kernel_rfl) (fun _ _ _ h => h) (Or.inl ⟨by rfl, ?_⟩) (by assumption) ?_
  rotate_left 1
  ·(intro u hSw; go_simp; try with_reducible rfl)
  try simp only [Act.put, List.setIfInBounds_toArray, List.set_cons_zero, List.set_cons_succ]
  refine wpAnyH_take (i := 5) (oi := ({ dst := some 10, op := .fieldAddr 142 (.tmp 2) 1, type := 0, pos := "visit.go:27", after := #[{ on := 4, ground := .guard }], guard := some (4, false) } : Oper)) (v := undef) rfl (by kernel_rfl) (by kernel_rfl) (by kernel_rfl) (fun _ _ _ h => h) (by exact .inr ⟨by rfl, rfl⟩) (by assumption) ?_
  try simp only [Act.put, List.setIfInBounds_toArray, List.set_cons_zero, List.set_cons_succ]
  refine wpAnyH_take (i := 6) (oi := ({ dst := some 11, op := .load 68 (.tmp 10), type := 68, pos := "visit.go:27", after := #[{ on := 5, ground := .data }, { on := 4, ground := .guard }], guard := some (4, false) } : Oper)) (v := undef) rfl (by kernel_rfl) (by kernel_rfl) (by kernel_rfl) (fun _ _ _ h => h) (by exact .inr ⟨by rfl, rfl⟩) (by assumption) ?_
  try simp only [Act.put, List.setIfInBounds_toArray, List.set_cons_zero, List.set_cons_succ]
  refine wpAnyH_take (i := 7) (oi := ({ dst := some 12, op := .binOp BinOp.neq 68 (.tmp 11) (.const (Value.pointer none)) 68, type := 4, pos := "visit.go:27", after := #[{ on := 6, ground := .data }, { on := 4, ground := .guard }], guard := some (4, false) } : Oper)) (v := undef) rfl (by kernel_rfl) (by kernel_rfl) (by kernel_rfl) (fun _ _ _ h => h) (by exact .inr ⟨by rfl, rfl⟩) (by assumption) ?_
  try simp only [Act.put, List.setIfInBounds_toArray, List.set_cons_zero, List.set_cons_succ]
  refine wpAnyH_take (i := 8) (oi := ({ dst := some 13, op := .move (.tmp 12), type := 4, pos := "visit.go:27", after := #[{ on := 7, ground := .data }, { on := 4, ground := .chain }, { on := 4, ground := .guard }], guard := some (4, false) } : Oper)) (v := undef) rfl (by kernel_rfl) (by kernel_rfl) (by kernel_rfl) (fun _ _ _ h => h) (by exact .inr ⟨by rfl, rfl⟩) (by assumption) ?_
  try simp only [Act.put, List.setIfInBounds_toArray, List.set_cons_zero, List.set_cons_succ]
  refine wpAnyH_take (i := 9) (oi := ({ dst := some 14, op := .fieldAddr 142 (.tmp 2) 1, type := 0, pos := "visit.go:27", after := #[{ on := 8, ground := .guard }], guard := some (8, true) } : Oper)) (v := undef) rfl (by kernel_rfl) (by kernel_rfl) (by kernel_rfl) (fun _ _ _ h => h) (by exact .inr ⟨by rfl, rfl⟩) (by assumption) ?_
  try simp only [Act.put, List.setIfInBounds_toArray, List.set_cons_zero, List.set_cons_succ]
  refine wpAnyH_take (i := 10) (oi := ({ dst := some 15, op := .load 68 (.tmp 14), type := 68, pos := "visit.go:27", after := #[{ on := 9, ground := .data }, { on := 8, ground := .guard }], guard := some (8, true) } : Oper)) (v := undef) rfl (by kernel_rfl) (by kernel_rfl) (by kernel_rfl) (fun _ _ _ h => h) (by exact .inr ⟨by rfl, rfl⟩) (by assumption) ?_
  try simp only [Act.put, List.setIfInBounds_toArray, List.set_cons_zero, List.set_cons_succ]
  refine wpAnyH_take (i := 11) (oi := ({ dst := some 16, op := .nilCheck (.tmp 15), type := 0, pos := "visit.go:27", after := #[{ on := 10, ground := .data }, { on := 8, ground := .guard }], guard := some (8, true) } : Oper)) (v := undef) rfl (by kernel_rfl) (by kernel_rfl) (by kernel_rfl) (fun _ _ _ h => h) (by exact .inr ⟨by rfl, rfl⟩) (by assumption) ?_
  try simp only [Act.put, List.setIfInBounds_toArray, List.set_cons_zero, List.set_cons_succ]
  refine wpAnyH_take (i := 12) (oi := ({ dst := some 17, op := .fieldAddr 115 (.tmp 16) 0, type := 0, pos := "visit.go:27", after := #[{ on := 11, ground := .data }, { on := 8, ground := .guard }], guard := some (8, true) } : Oper)) (v := undef) rfl (by kernel_rfl) (by kernel_rfl) (by kernel_rfl) (fun _ _ _ h => h) (by exact .inr ⟨by rfl, rfl⟩) (by assumption) ?_
  try simp only [Act.put, List.setIfInBounds_toArray, List.set_cons_zero, List.set_cons_succ]
  refine wpAnyH_take (i := 13) (oi := ({ dst := some 18, op := .fieldAddr 66 (.tmp 17) 0, type := 0, pos := "visit.go:27", after := #[{ on := 12, ground := .data }, { on := 8, ground := .guard }], guard := some (8, true) } : Oper)) (v := undef) rfl (by kernel_rfl) (by kernel_rfl) (by kernel_rfl) (fun _ _ _ h => h) (by exact .inr ⟨by rfl, rfl⟩) (by assumption) ?_
  try simp only [Act.put, List.setIfInBounds_toArray, List.set_cons_zero, List.set_cons_succ]
  refine wpAnyH_take (i := 14) (oi := ({ dst := some 19, op := .fieldAddr 33 (.tmp 18) 0, type := 0, pos := "visit.go:27", after := #[{ on := 13, ground := .data }, { on := 8, ground := .guard }], guard := some (8, true) } : Oper)) (v := undef) rfl (by kernel_rfl) (by kernel_rfl) (by kernel_rfl) (fun _ _ _ h => h) (by exact .inr ⟨by rfl, rfl⟩) (by assumption) ?_
  try simp only [Act.put, List.setIfInBounds_toArray, List.set_cons_zero, List.set_cons_succ]
  refine wpAnyH_take (i := 15) (oi := ({ dst := some 20, op := .load 31 (.tmp 19), type := 31, pos := "visit.go:27", after := #[{ on := 14, ground := .data }, { on := 8, ground := .guard }], guard := some (8, true) } : Oper)) (v := undef) rfl (by kernel_rfl) (by kernel_rfl) (by kernel_rfl) (fun _ _ _ h => h) (by exact .inr ⟨by rfl, rfl⟩) (by assumption) ?_
  try simp only [Act.put, List.setIfInBounds_toArray, List.set_cons_zero, List.set_cons_succ]
  refine wpAnyH_take (i := 16) (oi := ({ dst := some 21, op := .fieldAddr 74 (.tmp 3) 0, type := 0, pos := "visit.go:27", after := #[{ on := 8, ground := .guard }], guard := some (8, true) } : Oper)) (v := undef) rfl (by kernel_rfl) (by kernel_rfl) (by kernel_rfl) (fun _ _ _ h => h) (by exact .inr ⟨by rfl, rfl⟩) (by assumption) ?_
  try simp only [Act.put, List.setIfInBounds_toArray, List.set_cons_zero, List.set_cons_succ]
  refine wpAnyH_take (i := 17) (oi := ({ dst := some 22, op := .load 31 (.tmp 21), type := 31, pos := "visit.go:27", after := #[{ on := 16, ground := .data }, { on := 8, ground := .guard }], guard := some (8, true) } : Oper)) (v := undef) rfl (by kernel_rfl) (by kernel_rfl) (by kernel_rfl) (fun _ _ _ h => h) (by exact .inr ⟨by rfl, rfl⟩) (by assumption) ?_
  try simp only [Act.put, List.setIfInBounds_toArray, List.set_cons_zero, List.set_cons_succ]
  refine wpAnyH_take (i := 18) (oi := ({ dst := some 23, op := .call { callee := Callee.value (Operand.func 56), args := #[.tmp 20, .tmp 22], argTypes := #[31, 31] }, type := 3, pos := "visit.go:28", after := #[{ on := 15, ground := .data }, { on := 17, ground := .data }, { on := 8, ground := .chain }, { on := 8, ground := .guard }], guard := some (8, true) } : Oper)) (v := undef) rfl (by kernel_rfl) (by kernel_rfl) (by kernel_rfl) (fun _ _ _ h => h) (by exact .inr ⟨by rfl, rfl⟩) (by assumption) ?_
  try simp only [Act.put, List.setIfInBounds_toArray, List.set_cons_zero, List.set_cons_succ]
  refine wpAnyH_take (i := 19) (oi := ({ dst := some 24, op := .binOp BinOp.leq 3 (.tmp 23) (.const (Value.int IntKind.i64 0)) 3, type := 4, pos := "visit.go:27", after := #[{ on := 18, ground := .data }, { on := 8, ground := .guard }], guard := some (8, true) } : Oper)) (v := undef) rfl (by kernel_rfl) (by kernel_rfl) (by kernel_rfl) (fun _ _ _ h => h) (by exact .inr ⟨by rfl, rfl⟩) (by assumption) ?_
  try simp only [Act.put, List.setIfInBounds_toArray, List.set_cons_zero, List.set_cons_succ]
  refine wpAnyH_take (i := 20) (oi := ({ dst := some 25, op := .pick (.tmp 13) (.tmp 24) (.const (Value.bool false)), type := 4, pos := "visit.go:27", after := #[{ on := 8, ground := .data }, { on := 19, ground := .data }, { on := 4, ground := .guard }], guard := some (4, false) } : Oper)) (v := undef) rfl (by kernel_rfl) (by kernel_rfl) (by kernel_rfl) (fun _ _ _ h => h) (by exact .inr ⟨by rfl, rfl⟩) (by assumption) ?_
  try simp only [Act.put, List.setIfInBounds_toArray, List.set_cons_zero, List.set_cons_succ]
  refine wpAnyH_take (i := 21) (oi := ({ dst := some 26, op := .pick (.tmp 9) (.const (Value.bool true)) (.tmp 25), type := 4, pos := "visit.go:27", after := #[{ on := 4, ground := .data }, { on := 20, ground := .data }], guard := none } : Oper)) (v := ?_) rfl (by kernel_rfl) (by kernel_rfl) (by kernel_rfl) (fun _ _ _ h => h) (Or.inl ⟨by rfl, ?_⟩) (by assumption) ?_
  rotate_left 1
  ·(intro u hSw; go_simp; try with_reducible rfl)
  try simp only [Act.put, List.setIfInBounds_toArray, List.set_cons_zero, List.set_cons_succ]
  refine wpAnyH_take (i := 22) (oi := ({ dst := some 27, op := .move (.tmp 26), type := 4, pos := "visit.go:27", after := #[{ on := 21, ground := .data }, { on := 18, ground := .chain }], guard := none } : Oper)) (v := ?_) rfl (by kernel_rfl) (by kernel_rfl) (by kernel_rfl) (fun _ _ _ h => h) (Or.inl ⟨by rfl, ?_⟩) (by assumption) ?_
  rotate_left 1
  ·(intro u hSw; go_simp; try with_reducible rfl)
  try simp only [Act.put, List.setIfInBounds_toArray, List.set_cons_zero, List.set_cons_succ]
  refine wpAnyH_take (i := 23) (oi := ({ dst := some 28, op := .fieldAddr 142 (.tmp 2) 0, type := 0, pos := "visit.go:27", after := #[{ on := 22, ground := .guard }], guard := some (22, false) } : Oper)) (v := undef) rfl (by kernel_rfl) (by kernel_rfl) (by kernel_rfl) (fun _ _ _ h => h) (by exact .inr ⟨by rfl, rfl⟩) (by assumption) ?_
  try simp only [Act.put, List.setIfInBounds_toArray, List.set_cons_zero, List.set_cons_succ]
  refine wpAnyH_take (i := 24) (oi := ({ dst := some 29, op := .load 68 (.tmp 28), type := 68, pos := "visit.go:27", after := #[{ on := 23, ground := .data }, { on := 22, ground := .guard }], guard := some (22, false) } : Oper)) (v := undef) rfl (by kernel_rfl) (by kernel_rfl) (by kernel_rfl) (fun _ _ _ h => h) (by exact .inr ⟨by rfl, rfl⟩) (by assumption) ?_
  try simp only [Act.put, List.setIfInBounds_toArray, List.set_cons_zero, List.set_cons_succ]
  refine wpAnyH_take (i := 25) (oi := ({ dst := some 30, op := .binOp BinOp.neq 68 (.tmp 29) (.const (Value.pointer none)) 68, type := 4, pos := "visit.go:27", after := #[{ on := 24, ground := .data }, { on := 22, ground := .guard }], guard := some (22, false) } : Oper)) (v := undef) rfl (by kernel_rfl) (by kernel_rfl) (by kernel_rfl) (fun _ _ _ h => h) (by exact .inr ⟨by rfl, rfl⟩) (by assumption) ?_
  try simp only [Act.put, List.setIfInBounds_toArray, List.set_cons_zero, List.set_cons_succ]
  refine wpAnyH_take (i := 26) (oi := ({ dst := some 31, op := .move (.tmp 30), type := 4, pos := "visit.go:27", after := #[{ on := 25, ground := .data }, { on := 22, ground := .chain }, { on := 22, ground := .guard }], guard := some (22, false) } : Oper)) (v := undef) rfl (by kernel_rfl) (by kernel_rfl) (by kernel_rfl) (fun _ _ _ h => h) (by exact .inr ⟨by rfl, rfl⟩) (by assumption) ?_
  try simp only [Act.put, List.setIfInBounds_toArray, List.set_cons_zero, List.set_cons_succ]
  refine wpAnyH_take (i := 27) (oi := ({ dst := some 32, op := .load 74 (.tmp 3), type := 74, pos := "visit.go:27", after := #[{ on := 26, ground := .guard }], guard := some (26, true) } : Oper)) (v := undef) rfl (by kernel_rfl) (by kernel_rfl) (by kernel_rfl) (fun _ _ _ h => h) (by exact .inr ⟨by rfl, rfl⟩) (by assumption) ?_
  try simp only [Act.put, List.setIfInBounds_toArray, List.set_cons_zero, List.set_cons_succ]
  refine wpAnyH_take (i := 28) (oi := ({ dst := some 33, op := .fieldAddr 142 (.tmp 2) 0, type := 0, pos := "visit.go:27", after := #[{ on := 26, ground := .guard }], guard := some (26, true) } : Oper)) (v := undef) rfl (by kernel_rfl) (by kernel_rfl) (by kernel_rfl) (fun _ _ _ h => h) (by exact .inr ⟨by rfl, rfl⟩) (by assumption) ?_
  try simp only [Act.put, List.setIfInBounds_toArray, List.set_cons_zero, List.set_cons_succ]
  refine wpAnyH_take (i := 29) (oi := ({ dst := some 34, op := .load 68 (.tmp 33), type := 68, pos := "visit.go:27", after := #[{ on := 28, ground := .data }, { on := 26, ground := .guard }], guard := some (26, true) } : Oper)) (v := undef) rfl (by kernel_rfl) (by kernel_rfl) (by kernel_rfl) (fun _ _ _ h => h) (by exact .inr ⟨by rfl, rfl⟩) (by assumption) ?_
  try simp only [Act.put, List.setIfInBounds_toArray, List.set_cons_zero, List.set_cons_succ]
  refine wpAnyH_take (i := 30) (oi := ({ dst := some 35, op := .nilCheck (.tmp 34), type := 0, pos := "visit.go:27", after := #[{ on := 29, ground := .data }, { on := 26, ground := .guard }], guard := some (26, true) } : Oper)) (v := undef) rfl (by kernel_rfl) (by kernel_rfl) (by kernel_rfl) (fun _ _ _ h => h) (by exact .inr ⟨by rfl, rfl⟩) (by assumption) ?_
  try simp only [Act.put, List.setIfInBounds_toArray, List.set_cons_zero, List.set_cons_succ]
  refine wpAnyH_take (i := 31) (oi := ({ dst := some 36, op := .fieldAddr 115 (.tmp 35) 0, type := 0, pos := "visit.go:27", after := #[{ on := 30, ground := .data }, { on := 26, ground := .guard }], guard := some (26, true) } : Oper)) (v := undef) rfl (by kernel_rfl) (by kernel_rfl) (by kernel_rfl) (fun _ _ _ h => h) (by exact .inr ⟨by rfl, rfl⟩) (by assumption) ?_
  try simp only [Act.put, List.setIfInBounds_toArray, List.set_cons_zero, List.set_cons_succ]
  refine wpAnyH_take (i := 32) (oi := ({ dst := some 37, op := .fieldAddr 66 (.tmp 36) 0, type := 0, pos := "visit.go:27", after := #[{ on := 31, ground := .data }, { on := 26, ground := .guard }], guard := some (26, true) } : Oper)) (v := undef) rfl (by kernel_rfl) (by kernel_rfl) (by kernel_rfl) (fun _ _ _ h => h) (by exact .inr ⟨by rfl, rfl⟩) (by assumption) ?_
  try simp only [Act.put, List.setIfInBounds_toArray, List.set_cons_zero, List.set_cons_succ]
  refine wpAnyH_take (i := 33) (oi := ({ dst := some 38, op := .fieldAddr 33 (.tmp 37) 0, type := 0, pos := "visit.go:27", after := #[{ on := 32, ground := .data }, { on := 26, ground := .guard }], guard := some (26, true) } : Oper)) (v := undef) rfl (by kernel_rfl) (by kernel_rfl) (by kernel_rfl) (fun _ _ _ h => h) (by exact .inr ⟨by rfl, rfl⟩) (by assumption) ?_
  try simp only [Act.put, List.setIfInBounds_toArray, List.set_cons_zero, List.set_cons_succ]
  refine wpAnyH_take (i := 34) (oi := ({ dst := some 39, op := .load 31 (.tmp 38), type := 31, pos := "visit.go:27", after := #[{ on := 33, ground := .data }, { on := 26, ground := .guard }], guard := some (26, true) } : Oper)) (v := undef) rfl (by kernel_rfl) (by kernel_rfl) (by kernel_rfl) (fun _ _ _ h => h) (by exact .inr ⟨by rfl, rfl⟩) (by assumption) ?_
  try simp only [Act.put, List.setIfInBounds_toArray, List.set_cons_zero, List.set_cons_succ]
  refine wpAnyH_take (i := 35) (oi := ({ dst := some 40, op := .call { callee := Callee.value (Operand.func 94), args := #[.tmp 32, .tmp 39], argTypes := #[74, 31] }, type := 4, pos := "visit.go:29", after := #[{ on := 27, ground := .data }, { on := 34, ground := .data }, { on := 26, ground := .chain }, { on := 26, ground := .guard }], guard := some (26, true) } : Oper)) (v := undef) rfl (by kernel_rfl) (by kernel_rfl) (by kernel_rfl) (fun _ _ _ h => h) (by exact .inr ⟨by rfl, rfl⟩) (by assumption) ?_
  try simp only [Act.put, List.setIfInBounds_toArray, List.set_cons_zero, List.set_cons_succ]
  refine wpAnyH_take (i := 36) (oi := ({ dst := some 41, op := .pick (.tmp 31) (.tmp 40) (.const (Value.bool false)), type := 4, pos := "visit.go:27", after := #[{ on := 26, ground := .data }, { on := 35, ground := .data }, { on := 22, ground := .guard }], guard := some (22, false) } : Oper)) (v := undef) rfl (by kernel_rfl) (by kernel_rfl) (by kernel_rfl) (fun _ _ _ h => h) (by exact .inr ⟨by rfl, rfl⟩) (by assumption) ?_
  try simp only [Act.put, List.setIfInBounds_toArray, List.set_cons_zero, List.set_cons_succ]
  refine wpAnyH_take (i := 37) (oi := ({ dst := some 42, op := .pick (.tmp 27) (.const (Value.bool true)) (.tmp 41), type := 4, pos := "visit.go:27", after := #[{ on := 22, ground := .data }, { on := 36, ground := .data }], guard := none } : Oper)) (v := ?_) rfl (by kernel_rfl) (by kernel_rfl) (by kernel_rfl) (fun _ _ _ h => h) (Or.inl ⟨by rfl, ?_⟩) (by assumption) ?_
  rotate_left 1
  ·(intro u hSw; go_simp; try with_reducible rfl)
  try simp only [Act.put, List.setIfInBounds_toArray, List.set_cons_zero, List.set_cons_succ]
  refine wpAnyH_take (i := 38) (oi := ({ dst := some 4, op := .assign (.tmp 42), type := 4, pos := "visit.go:27", after := #[{ on := 37, ground := .data }, { on := 35, ground := .chain }, { on := 0, ground := .phase }, { on := 1, ground := .phase }, { on := 2, ground := .phase }, { on := 3, ground := .phase }, { on := 4, ground := .phase }, { on := 5, ground := .phase }, { on := 6, ground := .phase }, { on := 7, ground := .phase }, { on := 8, ground := .phase }, { on := 9, ground := .phase }, { on := 10, ground := .phase }, { on := 11, ground := .phase }, { on := 12, ground := .phase }, { on := 13, ground := .phase }, { on := 14, ground := .phase }, { on := 15, ground := .phase }, { on := 16, ground := .phase }, { on := 17, ground := .phase }, { on := 18, ground := .phase }, { on := 19, ground := .phase }, { on := 20, ground := .phase }, { on := 21, ground := .phase }, { on := 22, ground := .phase }, { on := 23, ground := .phase }, { on := 24, ground := .phase }, { on := 25, ground := .phase }, { on := 26, ground := .phase }, { on := 27, ground := .phase }, { on := 28, ground := .phase }, { on := 29, ground := .phase }, { on := 30, ground := .phase }, { on := 31, ground := .phase }, { on := 32, ground := .phase }, { on := 33, ground := .phase }, { on := 34, ground := .phase }, { on := 35, ground := .phase }, { on := 36, ground := .phase }, { on := 37, ground := .phase }], guard := none } : Oper)) (v := ?_) rfl (by kernel_rfl) (by kernel_rfl) (by kernel_rfl) (fun _ _ _ h => h) (Or.inl ⟨by rfl, ?_⟩) (by assumption) ?_
  rotate_left 1
  ·(intro u hSw; go_simp; try with_reducible rfl)
  try simp only [Act.put, List.setIfInBounds_toArray, List.set_cons_zero, List.set_cons_succ]
  refine wpAnyH_done (by kernel_rfl) ?_ _
  have HBE := Lib.hid (HB0.out.trans (hb3.mono HB0.out.size))
  go_wp2_with fail
  go_ret
  rw [HR.out]
  exact ⟨rfl, HBE.out⟩
 | false =>
  rw [Bool.false_or] at HR
  have HLO : ∀ lk, lo = some lk → ∃ bl al cl, alo = some ⟨bl, 0, none⟩ ∧ (∀ u, Below ((w.alloc (.cells #[.pointer alo, .pointer ahi] 142)).alloc (.cells #[.slice af fr.length cf, .slice at2 to.length ct, .bool e] 74)).heap.size ((w.alloc (.cells #[.pointer alo, .pointer ahi] 142)).alloc (.cells #[.slice af fr.length cf, .slice at2 to.length ct, .bool e] 74)) u → u.cell? ⟨bl, 0, none⟩ = some (.slice al lk.length cl)) ∧ (∀ u, Below ((w.alloc (.cells #[.pointer alo, .pointer ahi] 142)).alloc (.cells #[.slice af fr.length cf, .slice at2 to.length ct, .bool e] 74)).heap.size ((w.alloc (.cells #[.pointer alo, .pointer ahi] 142)).alloc (.cells #[.slice af fr.length cf, .slice at2 to.length ct, .bool e] 74)) u → Calls Tryd.prog 94 #[.agg #[.slice af fr.length cf, .slice at2 to.length ct, .bool e], .slice al lk.length cl] u fun d w' => d = .returned (.bool (endsQ to e lk)) ∧ Below u.heap.size u w') := fun lk hlk => by
   subst hlk
   obtain ⟨bl, kv, e1, -, hl, hc, hk, grk⟩ := hlo2
   obtain ⟨al, cl, rfl⟩ := hk.form
   injection e1 with e1
   refine ⟨bl, al, cl, e1, fun u hu => (World.cell?_of_block (a := ⟨bl, 0, none⟩) (hu.block bl hl)).trans hc, fun u hu => endsBy_any _ _ _ fr to lk e u ((hf0.below hbb).below hu) ((ht0.below hbb).below hu) (hk.below hu).1 gt grk⟩
  have HHI : ∀ hk', hi = some hk' → ∃ bh ah ch, ahi = some ⟨bh, 0, none⟩ ∧ (∀ u, Below ((w.alloc (.cells #[.pointer alo, .pointer ahi] 142)).alloc (.cells #[.slice af fr.length cf, .slice at2 to.length ct, .bool e] 74)).heap.size ((w.alloc (.cells #[.pointer alo, .pointer ahi] 142)).alloc (.cells #[.slice af fr.length cf, .slice at2 to.length ct, .bool e] 74)) u → u.cell? ⟨bh, 0, none⟩ = some (.slice ah hk'.length ch)) ∧ (∀ u, Below ((w.alloc (.cells #[.pointer alo, .pointer ahi] 142)).alloc (.cells #[.slice af fr.length cf, .slice at2 to.length ct, .bool e] 74)).heap.size ((w.alloc (.cells #[.pointer alo, .pointer ahi] 142)).alloc (.cells #[.slice af fr.length cf, .slice at2 to.length ct, .bool e] 74)) u → Calls Tryd.prog 56 #[.slice ah hk'.length ch, .slice af fr.length cf] u fun d w' => d = .returned (.int .i64 (cmpI hk' fr)) ∧ w' = u) := fun lk hlk => by
   subst hlk
   obtain ⟨bl, kv, e1, -, hl, hc, hk, grk⟩ := hhi2
   obtain ⟨al, cl, rfl⟩ := hk.form
   injection e1 with e1
   refine ⟨bl, al, cl, e1, fun u hu => (World.cell?_of_block (a := ⟨bl, 0, none⟩) (hu.block bl hl)).trans hc, fun u hu => compare_any _ _ lk fr u (hk.below hu).1 ((hf0.below hbb).below hu) grk gf⟩
  cases hi with
  | none =>
   obtain rfl : ahi = none := by injection (show Value.pointer ahi = .pointer none from hhi2)
   cases lo with
   | none =>
    obtain rfl : alo = none := by injection (show Value.pointer alo = .pointer none from hlo2)
    replace HR : Hid (R = false) := HR
    clear hbb gf gt hlo2 hhi2 hf0 ht0 HLO HHI
    go_enter Tryd.func85, Tryd.ntmps85
    go_wp2_with fail
    generalize ((w.alloc (.cells #[.pointer none, .pointer none] 142)).alloc (.cells #[.slice af fr.length cf, .slice at2 to.length ct, .bool e] 74)) = w0 at *
    have hb0 := (Below.refl w0.heap.size w0).drew
    refine wp_region_held_drew (S := fun u => Below w0.heap.size w0 u) (by kernel_rfl) (hb0) (fun hHeld => ?_)
    refine wpAnyH_take (i := 0) (oi := ({ dst := some 5, op := .load 74 (.tmp 3), type := 74, pos := "visit.go:27", after := #[], guard := none } : Oper)) (v := .agg #[.slice af fr.length cf, .slice at2 to.length ct, .bool e]) rfl (by kernel_rfl) (by kernel_rfl) (by kernel_rfl) (fun _ _ _ h => h) (Or.inl ⟨by rfl, ?_⟩) (by assumption) ?_
    ·intro u hSw
     exact exec_load_mid 74 (Operand.tmp 3) rfl (w.heap.size + 1) 0 rfl _ _ (HSP.out _ hSw) Tryd.underlying74 rfl (by kernel_rfl)
    try simp only [Act.put, List.setIfInBounds_toArray, List.set_cons_zero, List.set_cons_succ]
    refine wpAnyH_take (i := 1) (oi := ({ dst := some 6, op := .fieldAddr 74 (.tmp 3) 0, type := 0, pos := "visit.go:27", after := #[], guard := none } : Oper)) (v := ?_) rfl (by kernel_rfl) (by kernel_rfl) (by kernel_rfl) (fun _ _ _ h => h) (Or.inl ⟨by rfl, ?_⟩) (by assumption) ?_
    rotate_left 1
    ·(intro u hSw; go_simp; try with_reducible rfl)
    try simp only [Act.put, List.setIfInBounds_toArray, List.set_cons_zero, List.set_cons_succ]
    refine wpAnyH_take (i := 2) (oi := ({ dst := some 7, op := .load 31 (.tmp 6), type := 31, pos := "visit.go:27", after := #[{ on := 1, ground := .data }], guard := none } : Oper)) (v := ?_) rfl (by kernel_rfl) (by kernel_rfl) (by kernel_rfl) (fun _ _ _ h => h) (Or.inl ⟨by rfl, ?_⟩) (by assumption) ?_
    rotate_left 1
    ·(intro u hSw; have y0 := (HY.out _ hSw).1; have y1 := (HY.out _ hSw).2; have z0 := HZ.out _ hSw; go_simp; try with_reducible rfl)
    try simp only [Act.put, List.setIfInBounds_toArray, List.set_cons_zero, List.set_cons_succ]
    refine wpAnyH_ready (rs := [3]) (by kernel_rfl) (by simp) ?_
    refine (AllReadyH.cons (o := ({ dst := some 8, op := .call { callee := Callee.value (Operand.func 94), args := #[.tmp 5, .tmp 7], argTypes := #[74, 31] }, type := 4, pos := "visit.go:27", after := #[{ on := 0, ground := .data }, { on := 2, ground := .data }], guard := none } : Oper)) rfl (fun K hK => ?_) AllReadyH.nil)
    go_simp
    refine (HE0.out _ hb0).mono ?_
    rintro d w3 ⟨rfl, hw3⟩
    have hb3 : Below w0.heap.size w0 w3 := hb0.trans (hw3.mono hb0.size)
    clear hw3
    go_wp2_with fail
    refine hK.out _ _ hb3 (fun hHeld => ?_)
    clear hK K
    try simp only [Act.put, List.setIfInBounds_toArray, List.set_cons_zero, List.set_cons_succ]
    refine wpAnyH_take (i := 4) (oi := ({ dst := some 9, op := .move (.tmp 8), type := 4, pos := "visit.go:27", after := #[{ on := 3, ground := .data }, { on := 3, ground := .chain }], guard := none } : Oper)) (v := ?_) rfl (by kernel_rfl) (by kernel_rfl) (by kernel_rfl) (fun _ _ _ h => h) (Or.inl ⟨by rfl, ?_⟩) (by assumption) ?_
    rotate_left 1
    ·(intro u hSw; go_simp; try with_reducible rfl)
    try simp only [Act.put, List.setIfInBounds_toArray, List.set_cons_zero, List.set_cons_succ]
    refine wpAnyH_take (i := 5) (oi := ({ dst := some 10, op := .fieldAddr 142 (.tmp 2) 1, type := 0, pos := "visit.go:27", after := #[{ on := 4, ground := .guard }], guard := some (4, false) } : Oper)) (v := ?_) rfl (by kernel_rfl) (by kernel_rfl) (by kernel_rfl) (fun _ _ _ h => h) (Or.inl ⟨by rfl, ?_⟩) (by assumption) ?_
    rotate_left 1
    ·(intro u hSw; go_simp; try with_reducible rfl)
    try simp only [Act.put, List.setIfInBounds_toArray, List.set_cons_zero, List.set_cons_succ]
    refine wpAnyH_take (i := 6) (oi := ({ dst := some 11, op := .load 68 (.tmp 10), type := 68, pos := "visit.go:27", after := #[{ on := 5, ground := .data }, { on := 4, ground := .guard }], guard := some (4, false) } : Oper)) (v := ?_) rfl (by kernel_rfl) (by kernel_rfl) (by kernel_rfl) (fun _ _ _ h => h) (Or.inl ⟨by rfl, ?_⟩) (by assumption) ?_
    rotate_left 1
    ·(intro u hSw; have y0 := (HY.out _ hSw).1; have y1 := (HY.out _ hSw).2; have z0 := HZ.out _ hSw; go_simp; try with_reducible rfl)
    try simp only [Act.put, List.setIfInBounds_toArray, List.set_cons_zero, List.set_cons_succ]
    refine wpAnyH_take (i := 7) (oi := ({ dst := some 12, op := .binOp BinOp.neq 68 (.tmp 11) (.const (Value.pointer none)) 68, type := 4, pos := "visit.go:27", after := #[{ on := 6, ground := .data }, { on := 4, ground := .guard }], guard := some (4, false) } : Oper)) (v := ?_) rfl (by kernel_rfl) (by kernel_rfl) (by kernel_rfl) (fun _ _ _ h => h) (Or.inl ⟨by rfl, ?_⟩) (by assumption) ?_
    rotate_left 1
    ·(intro u hSw; go_simp; try with_reducible rfl)
    try simp only [Act.put, List.setIfInBounds_toArray, List.set_cons_zero, List.set_cons_succ]
    refine wpAnyH_take (i := 8) (oi := ({ dst := some 13, op := .move (.tmp 12), type := 4, pos := "visit.go:27", after := #[{ on := 7, ground := .data }, { on := 4, ground := .chain }, { on := 4, ground := .guard }], guard := some (4, false) } : Oper)) (v := ?_) rfl (by kernel_rfl) (by kernel_rfl) (by kernel_rfl) (fun _ _ _ h => h) (Or.inl ⟨by rfl, ?_⟩) (by assumption) ?_
    rotate_left 1
    ·(intro u hSw; go_simp; try with_reducible rfl)
    try simp only [Act.put, List.setIfInBounds_toArray, List.set_cons_zero, List.set_cons_succ]
    refine wpAnyH_take (i := 9) (oi := ({ dst := some 14, op := .fieldAddr 142 (.tmp 2) 1, type := 0, pos := "visit.go:27", after := #[{ on := 8, ground := .guard }], guard := some (8, true) } : Oper)) (v := undef) rfl (by kernel_rfl) (by kernel_rfl) (by kernel_rfl) (fun _ _ _ h => h) (by exact .inr ⟨by rfl, rfl⟩) (by assumption) ?_
    try simp only [Act.put, List.setIfInBounds_toArray, List.set_cons_zero, List.set_cons_succ]
    refine wpAnyH_take (i := 10) (oi := ({ dst := some 15, op := .load 68 (.tmp 14), type := 68, pos := "visit.go:27", after := #[{ on := 9, ground := .data }, { on := 8, ground := .guard }], guard := some (8, true) } : Oper)) (v := undef) rfl (by kernel_rfl) (by kernel_rfl) (by kernel_rfl) (fun _ _ _ h => h) (by exact .inr ⟨by rfl, rfl⟩) (by assumption) ?_
    try simp only [Act.put, List.setIfInBounds_toArray, List.set_cons_zero, List.set_cons_succ]
    refine wpAnyH_take (i := 11) (oi := ({ dst := some 16, op := .nilCheck (.tmp 15), type := 0, pos := "visit.go:27", after := #[{ on := 10, ground := .data }, { on := 8, ground := .guard }], guard := some (8, true) } : Oper)) (v := undef) rfl (by kernel_rfl) (by kernel_rfl) (by kernel_rfl) (fun _ _ _ h => h) (by exact .inr ⟨by rfl, rfl⟩) (by assumption) ?_
    try simp only [Act.put, List.setIfInBounds_toArray, List.set_cons_zero, List.set_cons_succ]
    refine wpAnyH_take (i := 12) (oi := ({ dst := some 17, op := .fieldAddr 115 (.tmp 16) 0, type := 0, pos := "visit.go:27", after := #[{ on := 11, ground := .data }, { on := 8, ground := .guard }], guard := some (8, true) } : Oper)) (v := undef) rfl (by kernel_rfl) (by kernel_rfl) (by kernel_rfl) (fun _ _ _ h => h) (by exact .inr ⟨by rfl, rfl⟩) (by assumption) ?_
    try simp only [Act.put, List.setIfInBounds_toArray, List.set_cons_zero, List.set_cons_succ]
    refine wpAnyH_take (i := 13) (oi := ({ dst := some 18, op := .fieldAddr 66 (.tmp 17) 0, type := 0, pos := "visit.go:27", after := #[{ on := 12, ground := .data }, { on := 8, ground := .guard }], guard := some (8, true) } : Oper)) (v := undef) rfl (by kernel_rfl) (by kernel_rfl) (by kernel_rfl) (fun _ _ _ h => h) (by exact .inr ⟨by rfl, rfl⟩) (by assumption) ?_
    try simp only [Act.put, List.setIfInBounds_toArray, List.set_cons_zero, List.set_cons_succ]
    refine wpAnyH_take (i := 14) (oi := ({ dst := some 19, op := .fieldAddr 33 (.tmp 18) 0, type := 0, pos := "visit.go:27", after := #[{ on := 13, ground := .data }, { on := 8, ground := .guard }], guard := some (8, true) } : Oper)) (v := undef) rfl (by kernel_rfl) (by kernel_rfl) (by kernel_rfl) (fun _ _ _ h => h) (by exact .inr ⟨by rfl, rfl⟩) (by assumption) ?_
    try simp only [Act.put, List.setIfInBounds_toArray, List.set_cons_zero, List.set_cons_succ]
    refine wpAnyH_take (i := 15) (oi := ({ dst := some 20, op := .load 31 (.tmp 19), type := 31, pos := "visit.go:27", after := #[{ on := 14, ground := .data }, { on := 8, ground := .guard }], guard := some (8, true) } : Oper)) (v := undef) rfl (by kernel_rfl) (by kernel_rfl) (by kernel_rfl) (fun _ _ _ h => h) (by exact .inr ⟨by rfl, rfl⟩) (by assumption) ?_
    try simp only [Act.put, List.setIfInBounds_toArray, List.set_cons_zero, List.set_cons_succ]
    refine wpAnyH_take (i := 16) (oi := ({ dst := some 21, op := .fieldAddr 74 (.tmp 3) 0, type := 0, pos := "visit.go:27", after := #[{ on := 8, ground := .guard }], guard := some (8, true) } : Oper)) (v := undef) rfl (by kernel_rfl) (by kernel_rfl) (by kernel_rfl) (fun _ _ _ h => h) (by exact .inr ⟨by rfl, rfl⟩) (by assumption) ?_
    try simp only [Act.put, List.setIfInBounds_toArray, List.set_cons_zero, List.set_cons_succ]
    refine wpAnyH_take (i := 17) (oi := ({ dst := some 22, op := .load 31 (.tmp 21), type := 31, pos := "visit.go:27", after := #[{ on := 16, ground := .data }, { on := 8, ground := .guard }], guard := some (8, true) } : Oper)) (v := undef) rfl (by kernel_rfl) (by kernel_rfl) (by kernel_rfl) (fun _ _ _ h => h) (by exact .inr ⟨by rfl, rfl⟩) (by assumption) ?_
    try simp only [Act.put, List.setIfInBounds_toArray, List.set_cons_zero, List.set_cons_succ]
    refine wpAnyH_take (i := 18) (oi := ({ dst := some 23, op := .call { callee := Callee.value (Operand.func 56), args := #[.tmp 20, .tmp 22], argTypes := #[31, 31] }, type := 3, pos := "visit.go:28", after := #[{ on := 15, ground := .data }, { on := 17, ground := .data }, { on := 8, ground := .chain }, { on := 8, ground := .guard }], guard := some (8, true) } : Oper)) (v := undef) rfl (by kernel_rfl) (by kernel_rfl) (by kernel_rfl) (fun _ _ _ h => h) (by exact .inr ⟨by rfl, rfl⟩) (by assumption) ?_
    try simp only [Act.put, List.setIfInBounds_toArray, List.set_cons_zero, List.set_cons_succ]
    refine wpAnyH_take (i := 19) (oi := ({ dst := some 24, op := .binOp BinOp.leq 3 (.tmp 23) (.const (Value.int IntKind.i64 0)) 3, type := 4, pos := "visit.go:27", after := #[{ on := 18, ground := .data }, { on := 8, ground := .guard }], guard := some (8, true) } : Oper)) (v := undef) rfl (by kernel_rfl) (by kernel_rfl) (by kernel_rfl) (fun _ _ _ h => h) (by exact .inr ⟨by rfl, rfl⟩) (by assumption) ?_
    try simp only [Act.put, List.setIfInBounds_toArray, List.set_cons_zero, List.set_cons_succ]
    refine wpAnyH_take (i := 20) (oi := ({ dst := some 25, op := .pick (.tmp 13) (.tmp 24) (.const (Value.bool false)), type := 4, pos := "visit.go:27", after := #[{ on := 8, ground := .data }, { on := 19, ground := .data }, { on := 4, ground := .guard }], guard := some (4, false) } : Oper)) (v := ?_) rfl (by kernel_rfl) (by kernel_rfl) (by kernel_rfl) (fun _ _ _ h => h) (Or.inl ⟨by rfl, ?_⟩) (by assumption) ?_
    rotate_left 1
    ·(intro u hSw; go_simp; try with_reducible rfl)
    try simp only [Act.put, List.setIfInBounds_toArray, List.set_cons_zero, List.set_cons_succ]
    refine wpAnyH_take (i := 21) (oi := ({ dst := some 26, op := .pick (.tmp 9) (.const (Value.bool true)) (.tmp 25), type := 4, pos := "visit.go:27", after := #[{ on := 4, ground := .data }, { on := 20, ground := .data }], guard := none } : Oper)) (v := ?_) rfl (by kernel_rfl) (by kernel_rfl) (by kernel_rfl) (fun _ _ _ h => h) (Or.inl ⟨by rfl, ?_⟩) (by assumption) ?_
    rotate_left 1
    ·(intro u hSw; go_simp; try with_reducible rfl)
    try simp only [Act.put, List.setIfInBounds_toArray, List.set_cons_zero, List.set_cons_succ]
    refine wpAnyH_take (i := 22) (oi := ({ dst := some 27, op := .move (.tmp 26), type := 4, pos := "visit.go:27", after := #[{ on := 21, ground := .data }, { on := 18, ground := .chain }], guard := none } : Oper)) (v := ?_) rfl (by kernel_rfl) (by kernel_rfl) (by kernel_rfl) (fun _ _ _ h => h) (Or.inl ⟨by rfl, ?_⟩) (by assumption) ?_
    rotate_left 1
    ·(intro u hSw; go_simp; try with_reducible rfl)
    try simp only [Act.put, List.setIfInBounds_toArray, List.set_cons_zero, List.set_cons_succ]
    refine wpAnyH_take (i := 23) (oi := ({ dst := some 28, op := .fieldAddr 142 (.tmp 2) 0, type := 0, pos := "visit.go:27", after := #[{ on := 22, ground := .guard }], guard := some (22, false) } : Oper)) (v := ?_) rfl (by kernel_rfl) (by kernel_rfl) (by kernel_rfl) (fun _ _ _ h => h) (Or.inl ⟨by rfl, ?_⟩) (by assumption) ?_
    rotate_left 1
    ·(intro u hSw; go_simp; try with_reducible rfl)
    try simp only [Act.put, List.setIfInBounds_toArray, List.set_cons_zero, List.set_cons_succ]
    refine wpAnyH_take (i := 24) (oi := ({ dst := some 29, op := .load 68 (.tmp 28), type := 68, pos := "visit.go:27", after := #[{ on := 23, ground := .data }, { on := 22, ground := .guard }], guard := some (22, false) } : Oper)) (v := ?_) rfl (by kernel_rfl) (by kernel_rfl) (by kernel_rfl) (fun _ _ _ h => h) (Or.inl ⟨by rfl, ?_⟩) (by assumption) ?_
    rotate_left 1
    ·(intro u hSw; have y0 := (HY.out _ hSw).1; have y1 := (HY.out _ hSw).2; have z0 := HZ.out _ hSw; go_simp; try with_reducible rfl)
    try simp only [Act.put, List.setIfInBounds_toArray, List.set_cons_zero, List.set_cons_succ]
    refine wpAnyH_take (i := 25) (oi := ({ dst := some 30, op := .binOp BinOp.neq 68 (.tmp 29) (.const (Value.pointer none)) 68, type := 4, pos := "visit.go:27", after := #[{ on := 24, ground := .data }, { on := 22, ground := .guard }], guard := some (22, false) } : Oper)) (v := ?_) rfl (by kernel_rfl) (by kernel_rfl) (by kernel_rfl) (fun _ _ _ h => h) (Or.inl ⟨by rfl, ?_⟩) (by assumption) ?_
    rotate_left 1
    ·(intro u hSw; go_simp; try with_reducible rfl)
    try simp only [Act.put, List.setIfInBounds_toArray, List.set_cons_zero, List.set_cons_succ]
    refine wpAnyH_take (i := 26) (oi := ({ dst := some 31, op := .move (.tmp 30), type := 4, pos := "visit.go:27", after := #[{ on := 25, ground := .data }, { on := 22, ground := .chain }, { on := 22, ground := .guard }], guard := some (22, false) } : Oper)) (v := ?_) rfl (by kernel_rfl) (by kernel_rfl) (by kernel_rfl) (fun _ _ _ h => h) (Or.inl ⟨by rfl, ?_⟩) (by assumption) ?_
    rotate_left 1
    ·(intro u hSw; go_simp; try with_reducible rfl)
    try simp only [Act.put, List.setIfInBounds_toArray, List.set_cons_zero, List.set_cons_succ]
    refine wpAnyH_take (i := 27) (oi := ({ dst := some 32, op := .load 74 (.tmp 3), type := 74, pos := "visit.go:27", after := #[{ on := 26, ground := .guard }], guard := some (26, true) } : Oper)) (v := undef) rfl (by kernel_rfl) (by kernel_rfl) (by kernel_rfl) (fun _ _ _ h => h) (by exact .inr ⟨by rfl, rfl⟩) (by assumption) ?_
    try simp only [Act.put, List.setIfInBounds_toArray, List.set_cons_zero, List.set_cons_succ]
    refine wpAnyH_take (i := 28) (oi := ({ dst := some 33, op := .fieldAddr 142 (.tmp 2) 0, type := 0, pos := "visit.go:27", after := #[{ on := 26, ground := .guard }], guard := some (26, true) } : Oper)) (v := undef) rfl (by kernel_rfl) (by kernel_rfl) (by kernel_rfl) (fun _ _ _ h => h) (by exact .inr ⟨by rfl, rfl⟩) (by assumption) ?_
    try simp only [Act.put, List.setIfInBounds_toArray, List.set_cons_zero, List.set_cons_succ]
    refine wpAnyH_take (i := 29) (oi := ({ dst := some 34, op := .load 68 (.tmp 33), type := 68, pos := "visit.go:27", after := #[{ on := 28, ground := .data }, { on := 26, ground := .guard }], guard := some (26, true) } : Oper)) (v := undef) rfl (by kernel_rfl) (by kernel_rfl) (by kernel_rfl) (fun _ _ _ h => h) (by exact .inr ⟨by rfl, rfl⟩) (by assumption) ?_
    try simp only [Act.put, List.setIfInBounds_toArray, List.set_cons_zero, List.set_cons_succ]
    refine wpAnyH_take (i := 30) (oi := ({ dst := some 35, op := .nilCheck (.tmp 34), type := 0, pos := "visit.go:27", after := #[{ on := 29, ground := .data }, { on := 26, ground := .guard }], guard := some (26, true) } : Oper)) (v := undef) rfl (by kernel_rfl) (by kernel_rfl) (by kernel_rfl) (fun _ _ _ h => h) (by exact .inr ⟨by rfl, rfl⟩) (by assumption) ?_
    try simp only [Act.put, List.setIfInBounds_toArray, List.set_cons_zero, List.set_cons_succ]
    refine wpAnyH_take (i := 31) (oi := ({ dst := some 36, op := .fieldAddr 115 (.tmp 35) 0, type := 0, pos := "visit.go:27", after := #[{ on := 30, ground := .data }, { on := 26, ground := .guard }], guard := some (26, true) } : Oper)) (v := undef) rfl (by kernel_rfl) (by kernel_rfl) (by kernel_rfl) (fun _ _ _ h => h) (by exact .inr ⟨by rfl, rfl⟩) (by assumption) ?_
    try simp only [Act.put, List.setIfInBounds_toArray, List.set_cons_zero, List.set_cons_succ]
    refine wpAnyH_take (i := 32) (oi := ({ dst := some 37, op := .fieldAddr 66 (.tmp 36) 0, type := 0, pos := "visit.go:27", after := #[{ on := 31, ground := .data }, { on := 26, ground := .guard }], guard := some (26, true) } : Oper)) (v := undef) rfl (by kernel_rfl) (by kernel_rfl) (by kernel_rfl) (fun _ _ _ h => h) (by exact .inr ⟨by rfl, rfl⟩) (by assumption) ?_
    try simp only [Act.put, List.setIfInBounds_toArray, List.set_cons_zero, List.set_cons_succ]
    refine wpAnyH_take (i := 33) (oi := ({ dst := some 38, op := .fieldAddr 33 (.tmp 37) 0, type := 0, pos := "visit.go:27", after := #[{ on := 32, ground := .data }, { on := 26, ground := .guard }], guard := some (26, true) } : Oper)) (v := undef) rfl (by kernel_rfl) (by kernel_rfl) (by kernel_rfl) (fun _ _ _ h => h) (by exact .inr ⟨by rfl, rfl⟩) (by assumption) ?_
    try simp only [Act.put, List.setIfInBounds_toArray, List.set_cons_zero, List.set_cons_succ]
    refine wpAnyH_take (i := 34) (oi := ({ dst := some 39, op := .load 31 (.tmp 38), type := 31, pos := "visit.go:27", after := #[{ on := 33, ground := .data }, { on := 26, ground := .guard }], guard := some (26, true) } : Oper)) (v := undef) rfl (by kernel_rfl) (by kernel_rfl) (by kernel_rfl) (fun _ _ _ h => h) (by exact .inr ⟨by rfl, rfl⟩) (by assumption) ?_
    try simp only [Act.put, List.setIfInBounds_toArray, List.set_cons_zero, List.set_cons_succ]
    refine wpAnyH_take (i := 35) (oi := ({ dst := some 40, op := .call { callee := Callee.value (Operand.func 94), args := #[.tmp 32, .tmp 39], argTypes := #[74, 31] }, type := 4, pos := "visit.go:29", after := #[{ on := 27, ground := .data }, { on := 34, ground := .data }, { on := 26, ground := .chain }, { on := 26, ground := .guard }], guard := some (26, true) } : Oper)) (v := undef) rfl (by kernel_rfl) (by kernel_rfl) (by kernel_rfl) (fun _ _ _ h => h) (by exact .inr ⟨by rfl, rfl⟩) (by assumption) ?_
    try simp only [Act.put, List.setIfInBounds_toArray, List.set_cons_zero, List.set_cons_succ]
    refine wpAnyH_take (i := 36) (oi := ({ dst := some 41, op := .pick (.tmp 31) (.tmp 40) (.const (Value.bool false)), type := 4, pos := "visit.go:27", after := #[{ on := 26, ground := .data }, { on := 35, ground := .data }, { on := 22, ground := .guard }], guard := some (22, false) } : Oper)) (v := ?_) rfl (by kernel_rfl) (by kernel_rfl) (by kernel_rfl) (fun _ _ _ h => h) (Or.inl ⟨by rfl, ?_⟩) (by assumption) ?_
    rotate_left 1
    ·(intro u hSw; go_simp; try with_reducible rfl)
    try simp only [Act.put, List.setIfInBounds_toArray, List.set_cons_zero, List.set_cons_succ]
    refine wpAnyH_take (i := 37) (oi := ({ dst := some 42, op := .pick (.tmp 27) (.const (Value.bool true)) (.tmp 41), type := 4, pos := "visit.go:27", after := #[{ on := 22, ground := .data }, { on := 36, ground := .data }], guard := none } : Oper)) (v := ?_) rfl (by kernel_rfl) (by kernel_rfl) (by kernel_rfl) (fun _ _ _ h => h) (Or.inl ⟨by rfl, ?_⟩) (by assumption) ?_
    rotate_left 1
    ·(intro u hSw; go_simp; try with_reducible rfl)
    try simp only [Act.put, List.setIfInBounds_toArray, List.set_cons_zero, List.set_cons_succ]
    refine wpAnyH_take (i := 38) (oi := ({ dst := some 4, op := .assign (.tmp 42), type := 4, pos := "visit.go:27", after := #[{ on := 37, ground := .data }, { on := 35, ground := .chain }, { on := 0, ground := .phase }, { on := 1, ground := .phase }, { on := 2, ground := .phase }, { on := 3, ground := .phase }, { on := 4, ground := .phase }, { on := 5, ground := .phase }, { on := 6, ground := .phase }, { on := 7, ground := .phase }, { on := 8, ground := .phase }, { on := 9, ground := .phase }, { on := 10, ground := .phase }, { on := 11, ground := .phase }, { on := 12, ground := .phase }, { on := 13, ground := .phase }, { on := 14, ground := .phase }, { on := 15, ground := .phase }, { on := 16, ground := .phase }, { on := 17, ground := .phase }, { on := 18, ground := .phase }, { on := 19, ground := .phase }, { on := 20, ground := .phase }, { on := 21, ground := .phase }, { on := 22, ground := .phase }, { on := 23, ground := .phase }, { on := 24, ground := .phase }, { on := 25, ground := .phase }, { on := 26, ground := .phase }, { on := 27, ground := .phase }, { on := 28, ground := .phase }, { on := 29, ground := .phase }, { on := 30, ground := .phase }, { on := 31, ground := .phase }, { on := 32, ground := .phase }, { on := 33, ground := .phase }, { on := 34, ground := .phase }, { on := 35, ground := .phase }, { on := 36, ground := .phase }, { on := 37, ground := .phase }], guard := none } : Oper)) (v := ?_) rfl (by kernel_rfl) (by kernel_rfl) (by kernel_rfl) (fun _ _ _ h => h) (Or.inl ⟨by rfl, ?_⟩) (by assumption) ?_
    rotate_left 1
    ·(intro u hSw; go_simp; try with_reducible rfl)
    try simp only [Act.put, List.setIfInBounds_toArray, List.set_cons_zero, List.set_cons_succ]
    refine wpAnyH_done (by kernel_rfl) ?_ _
    have HBE := Lib.hid (HB0.out.trans (hb3.mono HB0.out.size))
    go_wp2_with fail
    go_ret
    rw [HR.out]
    exact ⟨rfl, HBE.out⟩
   | some lk =>
    obtain ⟨bl, al, cl, rfl, hpl, he2⟩ := HLO lk rfl
    replace HR : Hid (R = endsQ to e lk) := Lib.hid (HR.out.trans (Bool.false_or _))
    have HPL := Lib.hid hpl
    have HE2 := Lib.hid he2
    generalize hgen : endsQ to e lk = q2 at *
    clear hbb gf gt hlo2 hhi2 hf0 ht0 HLO HHI hpl he2 hgen
    cases q2 with
    | true =>
     go_enter Tryd.func85, Tryd.ntmps85
     go_wp2_with fail
     generalize ((w.alloc (.cells #[.pointer (some ⟨bl, 0, none⟩), .pointer none] 142)).alloc (.cells #[.slice af fr.length cf, .slice at2 to.length ct, .bool e] 74)) = w0 at *
     have hb0 := (Below.refl w0.heap.size w0).drew
     refine wp_region_held_drew (S := fun u => Below w0.heap.size w0 u) (by kernel_rfl) (hb0) (fun hHeld => ?_)
     refine wpAnyH_take (i := 0) (oi := ({ dst := some 5, op := .load 74 (.tmp 3), type := 74, pos := "visit.go:27", after := #[], guard := none } : Oper)) (v := .agg #[.slice af fr.length cf, .slice at2 to.length ct, .bool e]) rfl (by kernel_rfl) (by kernel_rfl) (by kernel_rfl) (fun _ _ _ h => h) (Or.inl ⟨by rfl, ?_⟩) (by assumption) ?_
     ·intro u hSw
      exact exec_load_mid 74 (Operand.tmp 3) rfl (w.heap.size + 1) 0 rfl _ _ (HSP.out _ hSw) Tryd.underlying74 rfl (by kernel_rfl)
     try simp only [Act.put, List.setIfInBounds_toArray, List.set_cons_zero, List.set_cons_succ]
     refine wpAnyH_take (i := 1) (oi := ({ dst := some 6, op := .fieldAddr 74 (.tmp 3) 0, type := 0, pos := "visit.go:27", after := #[], guard := none } : Oper)) (v := ?_) rfl (by kernel_rfl) (by kernel_rfl) (by kernel_rfl) (fun _ _ _ h => h) (Or.inl ⟨by rfl, ?_⟩) (by assumption) ?_
     rotate_left 1
     ·(intro u hSw; go_simp; try with_reducible rfl)
     try simp only [Act.put, List.setIfInBounds_toArray, List.set_cons_zero, List.set_cons_succ]
     refine wpAnyH_take (i := 2) (oi := ({ dst := some 7, op := .load 31 (.tmp 6), type := 31, pos := "visit.go:27", after := #[{ on := 1, ground := .data }], guard := none } : Oper)) (v := ?_) rfl (by kernel_rfl) (by kernel_rfl) (by kernel_rfl) (fun _ _ _ h => h) (Or.inl ⟨by rfl, ?_⟩) (by assumption) ?_
     rotate_left 1
     ·(intro u hSw; have y0 := (HY.out _ hSw).1; have y1 := (HY.out _ hSw).2; have z0 := HZ.out _ hSw; have p0 := HPL.out _ hSw; go_simp; try with_reducible rfl)
     try simp only [Act.put, List.setIfInBounds_toArray, List.set_cons_zero, List.set_cons_succ]
     refine wpAnyH_ready (rs := [3]) (by kernel_rfl) (by simp) ?_
     refine (AllReadyH.cons (o := ({ dst := some 8, op := .call { callee := Callee.value (Operand.func 94), args := #[.tmp 5, .tmp 7], argTypes := #[74, 31] }, type := 4, pos := "visit.go:27", after := #[{ on := 0, ground := .data }, { on := 2, ground := .data }], guard := none } : Oper)) rfl (fun K hK => ?_) AllReadyH.nil)
     go_simp
     refine (HE0.out _ hb0).mono ?_
     rintro d w3 ⟨rfl, hw3⟩
     have hb3 : Below w0.heap.size w0 w3 := hb0.trans (hw3.mono hb0.size)
     clear hw3
     go_wp2_with fail
     refine hK.out _ _ hb3 (fun hHeld => ?_)
     clear hK K
     try simp only [Act.put, List.setIfInBounds_toArray, List.set_cons_zero, List.set_cons_succ]
     refine wpAnyH_take (i := 4) (oi := ({ dst := some 9, op := .move (.tmp 8), type := 4, pos := "visit.go:27", after := #[{ on := 3, ground := .data }, { on := 3, ground := .chain }], guard := none } : Oper)) (v := ?_) rfl (by kernel_rfl) (by kernel_rfl) (by kernel_rfl) (fun _ _ _ h => h) (Or.inl ⟨by rfl, ?_⟩) (by assumption) ?_
     rotate_left 1
     ·(intro u hSw; go_simp; try with_reducible rfl)
     try simp only [Act.put, List.setIfInBounds_toArray, List.set_cons_zero, List.set_cons_succ]
     refine wpAnyH_take (i := 5) (oi := ({ dst := some 10, op := .fieldAddr 142 (.tmp 2) 1, type := 0, pos := "visit.go:27", after := #[{ on := 4, ground := .guard }], guard := some (4, false) } : Oper)) (v := ?_) rfl (by kernel_rfl) (by kernel_rfl) (by kernel_rfl) (fun _ _ _ h => h) (Or.inl ⟨by rfl, ?_⟩) (by assumption) ?_
     rotate_left 1
     ·(intro u hSw; go_simp; try with_reducible rfl)
     try simp only [Act.put, List.setIfInBounds_toArray, List.set_cons_zero, List.set_cons_succ]
     refine wpAnyH_take (i := 6) (oi := ({ dst := some 11, op := .load 68 (.tmp 10), type := 68, pos := "visit.go:27", after := #[{ on := 5, ground := .data }, { on := 4, ground := .guard }], guard := some (4, false) } : Oper)) (v := ?_) rfl (by kernel_rfl) (by kernel_rfl) (by kernel_rfl) (fun _ _ _ h => h) (Or.inl ⟨by rfl, ?_⟩) (by assumption) ?_
     rotate_left 1
     ·(intro u hSw; have y0 := (HY.out _ hSw).1; have y1 := (HY.out _ hSw).2; have z0 := HZ.out _ hSw; have p0 := HPL.out _ hSw; go_simp; try with_reducible rfl)
     try simp only [Act.put, List.setIfInBounds_toArray, List.set_cons_zero, List.set_cons_succ]
     refine wpAnyH_take (i := 7) (oi := ({ dst := some 12, op := .binOp BinOp.neq 68 (.tmp 11) (.const (Value.pointer none)) 68, type := 4, pos := "visit.go:27", after := #[{ on := 6, ground := .data }, { on := 4, ground := .guard }], guard := some (4, false) } : Oper)) (v := ?_) rfl (by kernel_rfl) (by kernel_rfl) (by kernel_rfl) (fun _ _ _ h => h) (Or.inl ⟨by rfl, ?_⟩) (by assumption) ?_
     rotate_left 1
     ·(intro u hSw; go_simp; try with_reducible rfl)
     try simp only [Act.put, List.setIfInBounds_toArray, List.set_cons_zero, List.set_cons_succ]
     refine wpAnyH_take (i := 8) (oi := ({ dst := some 13, op := .move (.tmp 12), type := 4, pos := "visit.go:27", after := #[{ on := 7, ground := .data }, { on := 4, ground := .chain }, { on := 4, ground := .guard }], guard := some (4, false) } : Oper)) (v := ?_) rfl (by kernel_rfl) (by kernel_rfl) (by kernel_rfl) (fun _ _ _ h => h) (Or.inl ⟨by rfl, ?_⟩) (by assumption) ?_
     rotate_left 1
     ·(intro u hSw; go_simp; try with_reducible rfl)
     try simp only [Act.put, List.setIfInBounds_toArray, List.set_cons_zero, List.set_cons_succ]
     refine wpAnyH_take (i := 9) (oi := ({ dst := some 14, op := .fieldAddr 142 (.tmp 2) 1, type := 0, pos := "visit.go:27", after := #[{ on := 8, ground := .guard }], guard := some (8, true) } : Oper)) (v := undef) rfl (by kernel_rfl) (by kernel_rfl) (by kernel_rfl) (fun _ _ _ h => h) (by exact .inr ⟨by rfl, rfl⟩) (by assumption) ?_
     try simp only [Act.put, List.setIfInBounds_toArray, List.set_cons_zero, List.set_cons_succ]
     refine wpAnyH_take (i := 10) (oi := ({ dst := some 15, op := .load 68 (.tmp 14), type := 68, pos := "visit.go:27", after := #[{ on := 9, ground := .data }, { on := 8, ground := .guard }], guard := some (8, true) } : Oper)) (v := undef) rfl (by kernel_rfl) (by kernel_rfl) (by kernel_rfl) (fun _ _ _ h => h) (by exact .inr ⟨by rfl, rfl⟩) (by assumption) ?_
     try simp only [Act.put, List.setIfInBounds_toArray, List.set_cons_zero, List.set_cons_succ]
     refine wpAnyH_take (i := 11) (oi := ({ dst := some 16, op := .nilCheck (.tmp 15), type := 0, pos := "visit.go:27", after := #[{ on := 10, ground := .data }, { on := 8, ground := .guard }], guard := some (8, true) } : Oper)) (v := undef) rfl (by kernel_rfl) (by kernel_rfl) (by kernel_rfl) (fun _ _ _ h => h) (by exact .inr ⟨by rfl, rfl⟩) (by assumption) ?_
     try simp only [Act.put, List.setIfInBounds_toArray, List.set_cons_zero, List.set_cons_succ]
     refine wpAnyH_take (i := 12) (oi := ({ dst := some 17, op := .fieldAddr 115 (.tmp 16) 0, type := 0, pos := "visit.go:27", after := #[{ on := 11, ground := .data }, { on := 8, ground := .guard }], guard := some (8, true) } : Oper)) (v := undef) rfl (by kernel_rfl) (by kernel_rfl) (by kernel_rfl) (fun _ _ _ h => h) (by exact .inr ⟨by rfl, rfl⟩) (by assumption) ?_
     try simp only [Act.put, List.setIfInBounds_toArray, List.set_cons_zero, List.set_cons_succ]
     refine wpAnyH_take (i := 13) (oi := ({ dst := some 18, op := .fieldAddr 66 (.tmp 17) 0, type := 0, pos := "visit.go:27", after := #[{ on := 12, ground := .data }, { on := 8, ground := .guard }], guard := some (8, true) } : Oper)) (v := undef) rfl (by kernel_rfl) (by kernel_rfl) (by kernel_rfl) (fun _ _ _ h => h) (by exact .inr ⟨by rfl, rfl⟩) (by assumption) ?_
     try simp only [Act.put, List.setIfInBounds_toArray, List.set_cons_zero, List.set_cons_succ]
     refine wpAnyH_take (i := 14) (oi := ({ dst := some 19, op := .fieldAddr 33 (.tmp 18) 0, type := 0, pos := "visit.go:27", after := #[{ on := 13, ground := .data }, { on := 8, ground := .guard }], guard := some (8, true) } : Oper)) (v := undef) rfl (by kernel_rfl) (by kernel_rfl) (by kernel_rfl) (fun _ _ _ h => h) (by exact .inr ⟨by rfl, rfl⟩) (by assumption) ?_
     try simp only [Act.put, List.setIfInBounds_toArray, List.set_cons_zero, List.set_cons_succ]
     refine wpAnyH_take (i := 15) (oi := ({ dst := some 20, op := .load 31 (.tmp 19), type := 31, pos := "visit.go:27", after := #[{ on := 14, ground := .data }, { on := 8, ground := .guard }], guard := some (8, true) } : Oper)) (v := undef) rfl (by kernel_rfl) (by kernel_rfl) (by kernel_rfl) (fun _ _ _ h => h) (by exact .inr ⟨by rfl, rfl⟩) (by assumption) ?_
     try simp only [Act.put, List.setIfInBounds_toArray, List.set_cons_zero, List.set_cons_succ]
     refine wpAnyH_take (i := 16) (oi := ({ dst := some 21, op := .fieldAddr 74 (.tmp 3) 0, type := 0, pos := "visit.go:27", after := #[{ on := 8, ground := .guard }], guard := some (8, true) } : Oper)) (v := undef) rfl (by kernel_rfl) (by kernel_rfl) (by kernel_rfl) (fun _ _ _ h => h) (by exact .inr ⟨by rfl, rfl⟩) (by assumption) ?_
     try simp only [Act.put, List.setIfInBounds_toArray, List.set_cons_zero, List.set_cons_succ]
     refine wpAnyH_take (i := 17) (oi := ({ dst := some 22, op := .load 31 (.tmp 21), type := 31, pos := "visit.go:27", after := #[{ on := 16, ground := .data }, { on := 8, ground := .guard }], guard := some (8, true) } : Oper)) (v := undef) rfl (by kernel_rfl) (by kernel_rfl) (by kernel_rfl) (fun _ _ _ h => h) (by exact .inr ⟨by rfl, rfl⟩) (by assumption) ?_
     try simp only [Act.put, List.setIfInBounds_toArray, List.set_cons_zero, List.set_cons_succ]
     refine wpAnyH_take (i := 18) (oi := ({ dst := some 23, op := .call { callee := Callee.value (Operand.func 56), args := #[.tmp 20, .tmp 22], argTypes := #[31, 31] }, type := 3, pos := "visit.go:28", after := #[{ on := 15, ground := .data }, { on := 17, ground := .data }, { on := 8, ground := .chain }, { on := 8, ground := .guard }], guard := some (8, true) } : Oper)) (v := undef) rfl (by kernel_rfl) (by kernel_rfl) (by kernel_rfl) (fun _ _ _ h => h) (by exact .inr ⟨by rfl, rfl⟩) (by assumption) ?_
     try simp only [Act.put, List.setIfInBounds_toArray, List.set_cons_zero, List.set_cons_succ]
     refine wpAnyH_take (i := 19) (oi := ({ dst := some 24, op := .binOp BinOp.leq 3 (.tmp 23) (.const (Value.int IntKind.i64 0)) 3, type := 4, pos := "visit.go:27", after := #[{ on := 18, ground := .data }, { on := 8, ground := .guard }], guard := some (8, true) } : Oper)) (v := undef) rfl (by kernel_rfl) (by kernel_rfl) (by kernel_rfl) (fun _ _ _ h => h) (by exact .inr ⟨by rfl, rfl⟩) (by assumption) ?_
     try simp only [Act.put, List.setIfInBounds_toArray, List.set_cons_zero, List.set_cons_succ]
     refine wpAnyH_take (i := 20) (oi := ({ dst := some 25, op := .pick (.tmp 13) (.tmp 24) (.const (Value.bool false)), type := 4, pos := "visit.go:27", after := #[{ on := 8, ground := .data }, { on := 19, ground := .data }, { on := 4, ground := .guard }], guard := some (4, false) } : Oper)) (v := ?_) rfl (by kernel_rfl) (by kernel_rfl) (by kernel_rfl) (fun _ _ _ h => h) (Or.inl ⟨by rfl, ?_⟩) (by assumption) ?_
     rotate_left 1
     ·(intro u hSw; go_simp; try with_reducible rfl)
     try simp only [Act.put, List.setIfInBounds_toArray, List.set_cons_zero, List.set_cons_succ]
     refine wpAnyH_take (i := 21) (oi := ({ dst := some 26, op := .pick (.tmp 9) (.const (Value.bool true)) (.tmp 25), type := 4, pos := "visit.go:27", after := #[{ on := 4, ground := .data }, { on := 20, ground := .data }], guard := none } : Oper)) (v := ?_) rfl (by kernel_rfl) (by kernel_rfl) (by kernel_rfl) (fun _ _ _ h => h) (Or.inl ⟨by rfl, ?_⟩) (by assumption) ?_
     rotate_left 1
     ·(intro u hSw; go_simp; try with_reducible rfl)
     try simp only [Act.put, List.setIfInBounds_toArray, List.set_cons_zero, List.set_cons_succ]
     refine wpAnyH_take (i := 22) (oi := ({ dst := some 27, op := .move (.tmp 26), type := 4, pos := "visit.go:27", after := #[{ on := 21, ground := .data }, { on := 18, ground := .chain }], guard := none } : Oper)) (v := ?_) rfl (by kernel_rfl) (by kernel_rfl) (by kernel_rfl) (fun _ _ _ h => h) (Or.inl ⟨by rfl, ?_⟩) (by assumption) ?_
     rotate_left 1
     ·(intro u hSw; go_simp; try with_reducible rfl)
     try simp only [Act.put, List.setIfInBounds_toArray, List.set_cons_zero, List.set_cons_succ]
     refine wpAnyH_take (i := 23) (oi := ({ dst := some 28, op := .fieldAddr 142 (.tmp 2) 0, type := 0, pos := "visit.go:27", after := #[{ on := 22, ground := .guard }], guard := some (22, false) } : Oper)) (v := ?_) rfl (by kernel_rfl) (by kernel_rfl) (by kernel_rfl) (fun _ _ _ h => h) (Or.inl ⟨by rfl, ?_⟩) (by assumption) ?_
     rotate_left 1
     ·(intro u hSw; go_simp; try with_reducible rfl)
     try simp only [Act.put, List.setIfInBounds_toArray, List.set_cons_zero, List.set_cons_succ]
     refine wpAnyH_take (i := 24) (oi := ({ dst := some 29, op := .load 68 (.tmp 28), type := 68, pos := "visit.go:27", after := #[{ on := 23, ground := .data }, { on := 22, ground := .guard }], guard := some (22, false) } : Oper)) (v := ?_) rfl (by kernel_rfl) (by kernel_rfl) (by kernel_rfl) (fun _ _ _ h => h) (Or.inl ⟨by rfl, ?_⟩) (by assumption) ?_
     rotate_left 1
     ·(intro u hSw; have y0 := (HY.out _ hSw).1; have y1 := (HY.out _ hSw).2; have z0 := HZ.out _ hSw; have p0 := HPL.out _ hSw; go_simp; try with_reducible rfl)
     try simp only [Act.put, List.setIfInBounds_toArray, List.set_cons_zero, List.set_cons_succ]
     refine wpAnyH_take (i := 25) (oi := ({ dst := some 30, op := .binOp BinOp.neq 68 (.tmp 29) (.const (Value.pointer none)) 68, type := 4, pos := "visit.go:27", after := #[{ on := 24, ground := .data }, { on := 22, ground := .guard }], guard := some (22, false) } : Oper)) (v := ?_) rfl (by kernel_rfl) (by kernel_rfl) (by kernel_rfl) (fun _ _ _ h => h) (Or.inl ⟨by rfl, ?_⟩) (by assumption) ?_
     rotate_left 1
     ·(intro u hSw; go_simp; try with_reducible rfl)
     try simp only [Act.put, List.setIfInBounds_toArray, List.set_cons_zero, List.set_cons_succ]
     refine wpAnyH_take (i := 26) (oi := ({ dst := some 31, op := .move (.tmp 30), type := 4, pos := "visit.go:27", after := #[{ on := 25, ground := .data }, { on := 22, ground := .chain }, { on := 22, ground := .guard }], guard := some (22, false) } : Oper)) (v := ?_) rfl (by kernel_rfl) (by kernel_rfl) (by kernel_rfl) (fun _ _ _ h => h) (Or.inl ⟨by rfl, ?_⟩) (by assumption) ?_
     rotate_left 1
     ·(intro u hSw; go_simp; try with_reducible rfl)
     try simp only [Act.put, List.setIfInBounds_toArray, List.set_cons_zero, List.set_cons_succ]
     refine wpAnyH_take (i := 27) (oi := ({ dst := some 32, op := .load 74 (.tmp 3), type := 74, pos := "visit.go:27", after := #[{ on := 26, ground := .guard }], guard := some (26, true) } : Oper)) (v := .agg #[.slice af fr.length cf, .slice at2 to.length ct, .bool e]) rfl (by kernel_rfl) (by kernel_rfl) (by kernel_rfl) (fun _ _ _ h => h) (Or.inl ⟨by rfl, ?_⟩) (by assumption) ?_
     ·intro u hSw
      exact exec_load_mid 74 (Operand.tmp 3) rfl (w.heap.size + 1) 0 rfl _ _ (HSP.out _ hSw) Tryd.underlying74 rfl (by kernel_rfl)
     try simp only [Act.put, List.setIfInBounds_toArray, List.set_cons_zero, List.set_cons_succ]
     refine wpAnyH_take (i := 28) (oi := ({ dst := some 33, op := .fieldAddr 142 (.tmp 2) 0, type := 0, pos := "visit.go:27", after := #[{ on := 26, ground := .guard }], guard := some (26, true) } : Oper)) (v := ?_) rfl (by kernel_rfl) (by kernel_rfl) (by kernel_rfl) (fun _ _ _ h => h) (Or.inl ⟨by rfl, ?_⟩) (by assumption) ?_
     rotate_left 1
     ·(intro u hSw; go_simp; try with_reducible rfl)
     try simp only [Act.put, List.setIfInBounds_toArray, List.set_cons_zero, List.set_cons_succ]
     refine wpAnyH_take (i := 29) (oi := ({ dst := some 34, op := .load 68 (.tmp 33), type := 68, pos := "visit.go:27", after := #[{ on := 28, ground := .data }, { on := 26, ground := .guard }], guard := some (26, true) } : Oper)) (v := ?_) rfl (by kernel_rfl) (by kernel_rfl) (by kernel_rfl) (fun _ _ _ h => h) (Or.inl ⟨by rfl, ?_⟩) (by assumption) ?_
     rotate_left 1
     ·(intro u hSw; have y0 := (HY.out _ hSw).1; have y1 := (HY.out _ hSw).2; have z0 := HZ.out _ hSw; have p0 := HPL.out _ hSw; go_simp; try with_reducible rfl)
     try simp only [Act.put, List.setIfInBounds_toArray, List.set_cons_zero, List.set_cons_succ]
     refine wpAnyH_take (i := 30) (oi := ({ dst := some 35, op := .nilCheck (.tmp 34), type := 0, pos := "visit.go:27", after := #[{ on := 29, ground := .data }, { on := 26, ground := .guard }], guard := some (26, true) } : Oper)) (v := ?_) rfl (by kernel_rfl) (by kernel_rfl) (by kernel_rfl) (fun _ _ _ h => h) (Or.inl ⟨by rfl, ?_⟩) (by assumption) ?_
     rotate_left 1
     ·(intro u hSw; go_simp; try with_reducible rfl)
     try simp only [Act.put, List.setIfInBounds_toArray, List.set_cons_zero, List.set_cons_succ]
     refine wpAnyH_take (i := 31) (oi := ({ dst := some 36, op := .fieldAddr 115 (.tmp 35) 0, type := 0, pos := "visit.go:27", after := #[{ on := 30, ground := .data }, { on := 26, ground := .guard }], guard := some (26, true) } : Oper)) (v := ?_) rfl (by kernel_rfl) (by kernel_rfl) (by kernel_rfl) (fun _ _ _ h => h) (Or.inl ⟨by rfl, ?_⟩) (by assumption) ?_
     rotate_left 1
     ·(intro u hSw; go_simp; try with_reducible rfl)
     try simp only [Act.put, List.setIfInBounds_toArray, List.set_cons_zero, List.set_cons_succ]
     refine wpAnyH_take (i := 32) (oi := ({ dst := some 37, op := .fieldAddr 66 (.tmp 36) 0, type := 0, pos := "visit.go:27", after := #[{ on := 31, ground := .data }, { on := 26, ground := .guard }], guard := some (26, true) } : Oper)) (v := ?_) rfl (by kernel_rfl) (by kernel_rfl) (by kernel_rfl) (fun _ _ _ h => h) (Or.inl ⟨by rfl, ?_⟩) (by assumption) ?_
     rotate_left 1
     ·(intro u hSw; go_simp; try with_reducible rfl)
     try simp only [Act.put, List.setIfInBounds_toArray, List.set_cons_zero, List.set_cons_succ]
     refine wpAnyH_take (i := 33) (oi := ({ dst := some 38, op := .fieldAddr 33 (.tmp 37) 0, type := 0, pos := "visit.go:27", after := #[{ on := 32, ground := .data }, { on := 26, ground := .guard }], guard := some (26, true) } : Oper)) (v := ?_) rfl (by kernel_rfl) (by kernel_rfl) (by kernel_rfl) (fun _ _ _ h => h) (Or.inl ⟨by rfl, ?_⟩) (by assumption) ?_
     rotate_left 1
     ·(intro u hSw; go_simp; try with_reducible rfl)
     try simp only [Act.put, List.setIfInBounds_toArray, List.set_cons_zero, List.set_cons_succ]
     refine wpAnyH_take (i := 34) (oi := ({ dst := some 39, op := .load 31 (.tmp 38), type := 31, pos := "visit.go:27", after := #[{ on := 33, ground := .data }, { on := 26, ground := .guard }], guard := some (26, true) } : Oper)) (v := ?_) rfl (by kernel_rfl) (by kernel_rfl) (by kernel_rfl) (fun _ _ _ h => h) (Or.inl ⟨by rfl, ?_⟩) (by assumption) ?_
     rotate_left 1
     ·(intro u hSw; have y0 := (HY.out _ hSw).1; have y1 := (HY.out _ hSw).2; have z0 := HZ.out _ hSw; have p0 := HPL.out _ hSw; go_simp; try with_reducible rfl)
     try simp only [Act.put, List.setIfInBounds_toArray, List.set_cons_zero, List.set_cons_succ]
     refine wpAnyH_ready (rs := [35]) (by kernel_rfl) (by simp) ?_
     refine (AllReadyH.cons (o := ({ dst := some 40, op := .call { callee := Callee.value (Operand.func 94), args := #[.tmp 32, .tmp 39], argTypes := #[74, 31] }, type := 4, pos := "visit.go:29", after := #[{ on := 27, ground := .data }, { on := 34, ground := .data }, { on := 26, ground := .chain }, { on := 26, ground := .guard }], guard := some (26, true) } : Oper)) rfl (fun K hK => ?_) AllReadyH.nil)
     go_simp
     refine (HE2.out _ hb3).mono ?_
     rintro d w35 ⟨rfl, hw35⟩
     have hb35 : Below w0.heap.size w0 w35 := hb3.trans (hw35.mono hb3.size)
     clear hw35
     go_wp2_with fail
     refine hK.out _ _ hb35 (fun hHeld => ?_)
     clear hK K
     try simp only [Act.put, List.setIfInBounds_toArray, List.set_cons_zero, List.set_cons_succ]
     refine wpAnyH_take (i := 36) (oi := ({ dst := some 41, op := .pick (.tmp 31) (.tmp 40) (.const (Value.bool false)), type := 4, pos := "visit.go:27", after := #[{ on := 26, ground := .data }, { on := 35, ground := .data }, { on := 22, ground := .guard }], guard := some (22, false) } : Oper)) (v := ?_) rfl (by kernel_rfl) (by kernel_rfl) (by kernel_rfl) (fun _ _ _ h => h) (Or.inl ⟨by rfl, ?_⟩) (by assumption) ?_
     rotate_left 1
     ·(intro u hSw; go_simp; try with_reducible rfl)
     try simp only [Act.put, List.setIfInBounds_toArray, List.set_cons_zero, List.set_cons_succ]
     refine wpAnyH_take (i := 37) (oi := ({ dst := some 42, op := .pick (.tmp 27) (.const (Value.bool true)) (.tmp 41), type := 4, pos := "visit.go:27", after := #[{ on := 22, ground := .data }, { on := 36, ground := .data }], guard := none } : Oper)) (v := ?_) rfl (by kernel_rfl) (by kernel_rfl) (by kernel_rfl) (fun _ _ _ h => h) (Or.inl ⟨by rfl, ?_⟩) (by assumption) ?_
     rotate_left 1
     ·(intro u hSw; go_simp; try with_reducible rfl)
     try simp only [Act.put, List.setIfInBounds_toArray, List.set_cons_zero, List.set_cons_succ]
     refine wpAnyH_take (i := 38) (oi := ({ dst := some 4, op := .assign (.tmp 42), type := 4, pos := "visit.go:27", after := #[{ on := 37, ground := .data }, { on := 35, ground := .chain }, { on := 0, ground := .phase }, { on := 1, ground := .phase }, { on := 2, ground := .phase }, { on := 3, ground := .phase }, { on := 4, ground := .phase }, { on := 5, ground := .phase }, { on := 6, ground := .phase }, { on := 7, ground := .phase }, { on := 8, ground := .phase }, { on := 9, ground := .phase }, { on := 10, ground := .phase }, { on := 11, ground := .phase }, { on := 12, ground := .phase }, { on := 13, ground := .phase }, { on := 14, ground := .phase }, { on := 15, ground := .phase }, { on := 16, ground := .phase }, { on := 17, ground := .phase }, { on := 18, ground := .phase }, { on := 19, ground := .phase }, { on := 20, ground := .phase }, { on := 21, ground := .phase }, { on := 22, ground := .phase }, { on := 23, ground := .phase }, { on := 24, ground := .phase }, { on := 25, ground := .phase }, { on := 26, ground := .phase }, { on := 27, ground := .phase }, { on := 28, ground := .phase }, { on := 29, ground := .phase }, { on := 30, ground := .phase }, { on := 31, ground := .phase }, { on := 32, ground := .phase }, { on := 33, ground := .phase }, { on := 34, ground := .phase }, { on := 35, ground := .phase }, { on := 36, ground := .phase }, { on := 37, ground := .phase }], guard := none } : Oper)) (v := ?_) rfl (by kernel_rfl) (by kernel_rfl) (by kernel_rfl) (fun _ _ _ h => h) (Or.inl ⟨by rfl, ?_⟩) (by assumption) ?_
     rotate_left 1
     ·(intro u hSw; go_simp; try with_reducible rfl)
     try simp only [Act.put, List.setIfInBounds_toArray, List.set_cons_zero, List.set_cons_succ]
     refine wpAnyH_done (by kernel_rfl) ?_ _
     have HBE := Lib.hid (HB0.out.trans (hb35.mono HB0.out.size))
     go_wp2_with fail
     go_ret
     rw [HR.out]
     exact ⟨rfl, HBE.out⟩
    | false =>
     go_enter Tryd.func85, Tryd.ntmps85
     go_wp2_with fail
     generalize ((w.alloc (.cells #[.pointer (some ⟨bl, 0, none⟩), .pointer none] 142)).alloc (.cells #[.slice af fr.length cf, .slice at2 to.length ct, .bool e] 74)) = w0 at *
     have hb0 := (Below.refl w0.heap.size w0).drew
     refine wp_region_held_drew (S := fun u => Below w0.heap.size w0 u) (by kernel_rfl) (hb0) (fun hHeld => ?_)
     refine wpAnyH_take (i := 0) (oi := ({ dst := some 5, op := .load 74 (.tmp 3), type := 74, pos := "visit.go:27", after := #[], guard := none } : Oper)) (v := .agg #[.slice af fr.length cf, .slice at2 to.length ct, .bool e]) rfl (by kernel_rfl) (by kernel_rfl) (by kernel_rfl) (fun _ _ _ h => h) (Or.inl ⟨by rfl, ?_⟩) (by assumption) ?_
     ·intro u hSw
      exact exec_load_mid 74 (Operand.tmp 3) rfl (w.heap.size + 1) 0 rfl _ _ (HSP.out _ hSw) Tryd.underlying74 rfl (by kernel_rfl)
     try simp only [Act.put, List.setIfInBounds_toArray, List.set_cons_zero, List.set_cons_succ]
     refine wpAnyH_take (i := 1) (oi := ({ dst := some 6, op := .fieldAddr 74 (.tmp 3) 0, type := 0, pos := "visit.go:27", after := #[], guard := none } : Oper)) (v := ?_) rfl (by kernel_rfl) (by kernel_rfl) (by kernel_rfl) (fun _ _ _ h => h) (Or.inl ⟨by rfl, ?_⟩) (by assumption) ?_
     rotate_left 1
     ·(intro u hSw; go_simp; try with_reducible rfl)
     try simp only [Act.put, List.setIfInBounds_toArray, List.set_cons_zero, List.set_cons_succ]
     refine wpAnyH_take (i := 2) (oi := ({ dst := some 7, op := .load 31 (.tmp 6), type := 31, pos := "visit.go:27", after := #[{ on := 1, ground := .data }], guard := none } : Oper)) (v := ?_) rfl (by kernel_rfl) (by kernel_rfl) (by kernel_rfl) (fun _ _ _ h => h) (Or.inl ⟨by rfl, ?_⟩) (by assumption) ?_
     rotate_left 1
     ·(intro u hSw; have y0 := (HY.out _ hSw).1; have y1 := (HY.out _ hSw).2; have z0 := HZ.out _ hSw; have p0 := HPL.out _ hSw; go_simp; try with_reducible rfl)
     try simp only [Act.put, List.setIfInBounds_toArray, List.set_cons_zero, List.set_cons_succ]
     refine wpAnyH_ready (rs := [3]) (by kernel_rfl) (by simp) ?_
     refine (AllReadyH.cons (o := ({ dst := some 8, op := .call { callee := Callee.value (Operand.func 94), args := #[.tmp 5, .tmp 7], argTypes := #[74, 31] }, type := 4, pos := "visit.go:27", after := #[{ on := 0, ground := .data }, { on := 2, ground := .data }], guard := none } : Oper)) rfl (fun K hK => ?_) AllReadyH.nil)
     go_simp
     refine (HE0.out _ hb0).mono ?_
     rintro d w3 ⟨rfl, hw3⟩
     have hb3 : Below w0.heap.size w0 w3 := hb0.trans (hw3.mono hb0.size)
     clear hw3
     go_wp2_with fail
     refine hK.out _ _ hb3 (fun hHeld => ?_)
     clear hK K
     try simp only [Act.put, List.setIfInBounds_toArray, List.set_cons_zero, List.set_cons_succ]
     refine wpAnyH_take (i := 4) (oi := ({ dst := some 9, op := .move (.tmp 8), type := 4, pos := "visit.go:27", after := #[{ on := 3, ground := .data }, { on := 3, ground := .chain }], guard := none } : Oper)) (v := ?_) rfl (by kernel_rfl) (by kernel_rfl) (by kernel_rfl) (fun _ _ _ h => h) (Or.inl ⟨by rfl, ?_⟩) (by assumption) ?_
     rotate_left 1
     ·(intro u hSw; go_simp; try with_reducible rfl)
     try simp only [Act.put, List.setIfInBounds_toArray, List.set_cons_zero, List.set_cons_succ]
     refine wpAnyH_take (i := 5) (oi := ({ dst := some 10, op := .fieldAddr 142 (.tmp 2) 1, type := 0, pos := "visit.go:27", after := #[{ on := 4, ground := .guard }], guard := some (4, false) } : Oper)) (v := ?_) rfl (by kernel_rfl) (by kernel_rfl) (by kernel_rfl) (fun _ _ _ h => h) (Or.inl ⟨by rfl, ?_⟩) (by assumption) ?_
     rotate_left 1
     ·(intro u hSw; go_simp; try with_reducible rfl)
     try simp only [Act.put, List.setIfInBounds_toArray, List.set_cons_zero, List.set_cons_succ]
     refine wpAnyH_take (i := 6) (oi := ({ dst := some 11, op := .load 68 (.tmp 10), type := 68, pos := "visit.go:27", after := #[{ on := 5, ground := .data }, { on := 4, ground := .guard }], guard := some (4, false) } : Oper)) (v := ?_) rfl (by kernel_rfl) (by kernel_rfl) (by kernel_rfl) (fun _ _ _ h => h) (Or.inl ⟨by rfl, ?_⟩) (by assumption) ?_
     rotate_left 1
     ·(intro u hSw; have y0 := (HY.out _ hSw).1; have y1 := (HY.out _ hSw).2; have z0 := HZ.out _ hSw; have p0 := HPL.out _ hSw; go_simp; try with_reducible rfl)
     try simp only [Act.put, List.setIfInBounds_toArray, List.set_cons_zero, List.set_cons_succ]
     refine wpAnyH_take (i := 7) (oi := ({ dst := some 12, op := .binOp BinOp.neq 68 (.tmp 11) (.const (Value.pointer none)) 68, type := 4, pos := "visit.go:27", after := #[{ on := 6, ground := .data }, { on := 4, ground := .guard }], guard := some (4, false) } : Oper)) (v := ?_) rfl (by kernel_rfl) (by kernel_rfl) (by kernel_rfl) (fun _ _ _ h => h) (Or.inl ⟨by rfl, ?_⟩) (by assumption) ?_
     rotate_left 1
     ·(intro u hSw; go_simp; try with_reducible rfl)
     try simp only [Act.put, List.setIfInBounds_toArray, List.set_cons_zero, List.set_cons_succ]
     refine wpAnyH_take (i := 8) (oi := ({ dst := some 13, op := .move (.tmp 12), type := 4, pos := "visit.go:27", after := #[{ on := 7, ground := .data }, { on := 4, ground := .chain }, { on := 4, ground := .guard }], guard := some (4, false) } : Oper)) (v := ?_) rfl (by kernel_rfl) (by kernel_rfl) (by kernel_rfl) (fun _ _ _ h => h) (Or.inl ⟨by rfl, ?_⟩) (by assumption) ?_
     rotate_left 1
     ·(intro u hSw; go_simp; try with_reducible rfl)
     try simp only [Act.put, List.setIfInBounds_toArray, List.set_cons_zero, List.set_cons_succ]
     refine wpAnyH_take (i := 9) (oi := ({ dst := some 14, op := .fieldAddr 142 (.tmp 2) 1, type := 0, pos := "visit.go:27", after := #[{ on := 8, ground := .guard }], guard := some (8, true) } : Oper)) (v := undef) rfl (by kernel_rfl) (by kernel_rfl) (by kernel_rfl) (fun _ _ _ h => h) (by exact .inr ⟨by rfl, rfl⟩) (by assumption) ?_
     try simp only [Act.put, List.setIfInBounds_toArray, List.set_cons_zero, List.set_cons_succ]
     refine wpAnyH_take (i := 10) (oi := ({ dst := some 15, op := .load 68 (.tmp 14), type := 68, pos := "visit.go:27", after := #[{ on := 9, ground := .data }, { on := 8, ground := .guard }], guard := some (8, true) } : Oper)) (v := undef) rfl (by kernel_rfl) (by kernel_rfl) (by kernel_rfl) (fun _ _ _ h => h) (by exact .inr ⟨by rfl, rfl⟩) (by assumption) ?_
     try simp only [Act.put, List.setIfInBounds_toArray, List.set_cons_zero, List.set_cons_succ]
     refine wpAnyH_take (i := 11) (oi := ({ dst := some 16, op := .nilCheck (.tmp 15), type := 0, pos := "visit.go:27", after := #[{ on := 10, ground := .data }, { on := 8, ground := .guard }], guard := some (8, true) } : Oper)) (v := undef) rfl (by kernel_rfl) (by kernel_rfl) (by kernel_rfl) (fun _ _ _ h => h) (by exact .inr ⟨by rfl, rfl⟩) (by assumption) ?_
     try simp only [Act.put, List.setIfInBounds_toArray, List.set_cons_zero, List.set_cons_succ]
     refine wpAnyH_take (i := 12) (oi := ({ dst := some 17, op := .fieldAddr 115 (.tmp 16) 0, type := 0, pos := "visit.go:27", after := #[{ on := 11, ground := .data }, { on := 8, ground := .guard }], guard := some (8, true) } : Oper)) (v := undef) rfl (by kernel_rfl) (by kernel_rfl) (by kernel_rfl) (fun _ _ _ h => h) (by exact .inr ⟨by rfl, rfl⟩) (by assumption) ?_
     try simp only [Act.put, List.setIfInBounds_toArray, List.set_cons_zero, List.set_cons_succ]
     refine wpAnyH_take (i := 13) (oi := ({ dst := some 18, op := .fieldAddr 66 (.tmp 17) 0, type := 0, pos := "visit.go:27", after := #[{ on := 12, ground := .data }, { on := 8, ground := .guard }], guard := some (8, true) } : Oper)) (v := undef) rfl (by kernel_rfl) (by kernel_rfl) (by kernel_rfl) (fun _ _ _ h => h) (by exact .inr ⟨by rfl, rfl⟩) (by assumption) ?_
     try simp only [Act.put, List.setIfInBounds_toArray, List.set_cons_zero, List.set_cons_succ]
     refine wpAnyH_take (i := 14) (oi := ({ dst := some 19, op := .fieldAddr 33 (.tmp 18) 0, type := 0, pos := "visit.go:27", after := #[{ on := 13, ground := .data }, { on := 8, ground := .guard }], guard := some (8, true) } : Oper)) (v := undef) rfl (by kernel_rfl) (by kernel_rfl) (by kernel_rfl) (fun _ _ _ h => h) (by exact .inr ⟨by rfl, rfl⟩) (by assumption) ?_
     try simp only [Act.put, List.setIfInBounds_toArray, List.set_cons_zero, List.set_cons_succ]
     refine wpAnyH_take (i := 15) (oi := ({ dst := some 20, op := .load 31 (.tmp 19), type := 31, pos := "visit.go:27", after := #[{ on := 14, ground := .data }, { on := 8, ground := .guard }], guard := some (8, true) } : Oper)) (v := undef) rfl (by kernel_rfl) (by kernel_rfl) (by kernel_rfl) (fun _ _ _ h => h) (by exact .inr ⟨by rfl, rfl⟩) (by assumption) ?_
     try simp only [Act.put, List.setIfInBounds_toArray, List.set_cons_zero, List.set_cons_succ]
     refine wpAnyH_take (i := 16) (oi := ({ dst := some 21, op := .fieldAddr 74 (.tmp 3) 0, type := 0, pos := "visit.go:27", after := #[{ on := 8, ground := .guard }], guard := some (8, true) } : Oper)) (v := undef) rfl (by kernel_rfl) (by kernel_rfl) (by kernel_rfl) (fun _ _ _ h => h) (by exact .inr ⟨by rfl, rfl⟩) (by assumption) ?_
     try simp only [Act.put, List.setIfInBounds_toArray, List.set_cons_zero, List.set_cons_succ]
     refine wpAnyH_take (i := 17) (oi := ({ dst := some 22, op := .load 31 (.tmp 21), type := 31, pos := "visit.go:27", after := #[{ on := 16, ground := .data }, { on := 8, ground := .guard }], guard := some (8, true) } : Oper)) (v := undef) rfl (by kernel_rfl) (by kernel_rfl) (by kernel_rfl) (fun _ _ _ h => h) (by exact .inr ⟨by rfl, rfl⟩) (by assumption) ?_
     try simp only [Act.put, List.setIfInBounds_toArray, List.set_cons_zero, List.set_cons_succ]
     refine wpAnyH_take (i := 18) (oi := ({ dst := some 23, op := .call { callee := Callee.value (Operand.func 56), args := #[.tmp 20, .tmp 22], argTypes := #[31, 31] }, type := 3, pos := "visit.go:28", after := #[{ on := 15, ground := .data }, { on := 17, ground := .data }, { on := 8, ground := .chain }, { on := 8, ground := .guard }], guard := some (8, true) } : Oper)) (v := undef) rfl (by kernel_rfl) (by kernel_rfl) (by kernel_rfl) (fun _ _ _ h => h) (by exact .inr ⟨by rfl, rfl⟩) (by assumption) ?_
     try simp only [Act.put, List.setIfInBounds_toArray, List.set_cons_zero, List.set_cons_succ]
     refine wpAnyH_take (i := 19) (oi := ({ dst := some 24, op := .binOp BinOp.leq 3 (.tmp 23) (.const (Value.int IntKind.i64 0)) 3, type := 4, pos := "visit.go:27", after := #[{ on := 18, ground := .data }, { on := 8, ground := .guard }], guard := some (8, true) } : Oper)) (v := undef) rfl (by kernel_rfl) (by kernel_rfl) (by kernel_rfl) (fun _ _ _ h => h) (by exact .inr ⟨by rfl, rfl⟩) (by assumption) ?_
     try simp only [Act.put, List.setIfInBounds_toArray, List.set_cons_zero, List.set_cons_succ]
     refine wpAnyH_take (i := 20) (oi := ({ dst := some 25, op := .pick (.tmp 13) (.tmp 24) (.const (Value.bool false)), type := 4, pos := "visit.go:27", after := #[{ on := 8, ground := .data }, { on := 19, ground := .data }, { on := 4, ground := .guard }], guard := some (4, false) } : Oper)) (v := ?_) rfl (by kernel_rfl) (by kernel_rfl) (by kernel_rfl) (fun _ _ _ h => h) (Or.inl ⟨by rfl, ?_⟩) (by assumption) ?_
     rotate_left 1
     ·(intro u hSw; go_simp; try with_reducible rfl)
     try simp only [Act.put, List.setIfInBounds_toArray, List.set_cons_zero, List.set_cons_succ]
     refine wpAnyH_take (i := 21) (oi := ({ dst := some 26, op := .pick (.tmp 9) (.const (Value.bool true)) (.tmp 25), type := 4, pos := "visit.go:27", after := #[{ on := 4, ground := .data }, { on := 20, ground := .data }], guard := none } : Oper)) (v := ?_) rfl (by kernel_rfl) (by kernel_rfl) (by kernel_rfl) (fun _ _ _ h => h) (Or.inl ⟨by rfl, ?_⟩) (by assumption) ?_
     rotate_left 1
     ·(intro u hSw; go_simp; try with_reducible rfl)
     try simp only [Act.put, List.setIfInBounds_toArray, List.set_cons_zero, List.set_cons_succ]
     refine wpAnyH_take (i := 22) (oi := ({ dst := some 27, op := .move (.tmp 26), type := 4, pos := "visit.go:27", after := #[{ on := 21, ground := .data }, { on := 18, ground := .chain }], guard := none } : Oper)) (v := ?_) rfl (by kernel_rfl) (by kernel_rfl) (by kernel_rfl) (fun _ _ _ h => h) (Or.inl ⟨by rfl, ?_⟩) (by assumption) ?_
     rotate_left 1
     ·(intro u hSw; go_simp; try with_reducible rfl)
     try simp only [Act.put, List.setIfInBounds_toArray, List.set_cons_zero, List.set_cons_succ]
     refine wpAnyH_take (i := 23) (oi := ({ dst := some 28, op := .fieldAddr 142 (.tmp 2) 0, type := 0, pos := "visit.go:27", after := #[{ on := 22, ground := .guard }], guard := some (22, false) } : Oper)) (v := ?_) rfl (by kernel_rfl) (by kernel_rfl) (by kernel_rfl) (fun _ _ _ h => h) (Or.inl ⟨by rfl, ?_⟩) (by assumption) ?_
     rotate_left 1
     ·(intro u hSw; go_simp; try with_reducible rfl)
     try simp only [Act.put, List.setIfInBounds_toArray, List.set_cons_zero, List.set_cons_succ]
     refine wpAnyH_take (i := 24) (oi := ({ dst := some 29, op := .load 68 (.tmp 28), type := 68, pos := "visit.go:27", after := #[{ on := 23, ground := .data }, { on := 22, ground := .guard }], guard := some (22, false) } : Oper)) (v := ?_) rfl (by kernel_rfl) (by kernel_rfl) (by kernel_rfl) (fun _ _ _ h => h) (Or.inl ⟨by rfl, ?_⟩) (by assumption) ?_
     rotate_left 1
     ·(intro u hSw; have y0 := (HY.out _ hSw).1; have y1 := (HY.out _ hSw).2; have z0 := HZ.out _ hSw; have p0 := HPL.out _ hSw; go_simp; try with_reducible rfl)
     try simp only [Act.put, List.setIfInBounds_toArray, List.set_cons_zero, List.set_cons_succ]
     refine wpAnyH_take (i := 25) (oi := ({ dst := some 30, op := .binOp BinOp.neq 68 (.tmp 29) (.const (Value.pointer none)) 68, type := 4, pos := "visit.go:27", after := #[{ on := 24, ground := .data }, { on := 22, ground := .guard }], guard := some (22, false) } : Oper)) (v := ?_) rfl (by kernel_rfl) (by kernel_rfl) (by kernel_rfl) (fun _ _ _ h => h) (Or.inl ⟨by rfl, ?_⟩) (by assumption) ?_
     rotate_left 1
     ·(intro u hSw; go_simp; try with_reducible rfl)
     try simp only [Act.put, List.setIfInBounds_toArray, List.set_cons_zero, List.set_cons_succ]
     refine wpAnyH_take (i := 26) (oi := ({ dst := some 31, op := .move (.tmp 30), type := 4, pos := "visit.go:27", after := #[{ on := 25, ground := .data }, { on := 22, ground := .chain }, { on := 22, ground := .guard }], guard := some (22, false) } : Oper)) (v := ?_) rfl (by kernel_rfl) (by kernel_rfl) (by kernel_rfl) (fun _ _ _ h => h) (Or.inl ⟨by rfl, ?_⟩) (by assumption) ?_
     rotate_left 1
     ·(intro u hSw; go_simp; try with_reducible rfl)
     try simp only [Act.put, List.setIfInBounds_toArray, List.set_cons_zero, List.set_cons_succ]
     refine wpAnyH_take (i := 27) (oi := ({ dst := some 32, op := .load 74 (.tmp 3), type := 74, pos := "visit.go:27", after := #[{ on := 26, ground := .guard }], guard := some (26, true) } : Oper)) (v := .agg #[.slice af fr.length cf, .slice at2 to.length ct, .bool e]) rfl (by kernel_rfl) (by kernel_rfl) (by kernel_rfl) (fun _ _ _ h => h) (Or.inl ⟨by rfl, ?_⟩) (by assumption) ?_
     ·intro u hSw
      exact exec_load_mid 74 (Operand.tmp 3) rfl (w.heap.size + 1) 0 rfl _ _ (HSP.out _ hSw) Tryd.underlying74 rfl (by kernel_rfl)
     try simp only [Act.put, List.setIfInBounds_toArray, List.set_cons_zero, List.set_cons_succ]
     refine wpAnyH_take (i := 28) (oi := ({ dst := some 33, op := .fieldAddr 142 (.tmp 2) 0, type := 0, pos := "visit.go:27", after := #[{ on := 26, ground := .guard }], guard := some (26, true) } : Oper)) (v := ?_) rfl (by kernel_rfl) (by kernel_rfl) (by kernel_rfl) (fun _ _ _ h => h) (Or.inl ⟨by rfl, ?_⟩) (by assumption) ?_
     rotate_left 1
     ·(intro u hSw; go_simp; try with_reducible rfl)
     try simp only [Act.put, List.setIfInBounds_toArray, List.set_cons_zero, List.set_cons_succ]
     refine wpAnyH_take (i := 29) (oi := ({ dst := some 34, op := .load 68 (.tmp 33), type := 68, pos := "visit.go:27", after := #[{ on := 28, ground := .data }, { on := 26, ground := .guard }], guard := some (26, true) } : Oper)) (v := ?_) rfl (by kernel_rfl) (by kernel_rfl) (by kernel_rfl) (fun _ _ _ h => h) (Or.inl ⟨by rfl, ?_⟩) (by assumption) ?_
     rotate_left 1
     ·(intro u hSw; have y0 := (HY.out _ hSw).1; have y1 := (HY.out _ hSw).2; have z0 := HZ.out _ hSw; have p0 := HPL.out _ hSw; go_simp; try with_reducible rfl)
     try simp only [Act.put, List.setIfInBounds_toArray, List.set_cons_zero, List.set_cons_succ]
     refine wpAnyH_take (i := 30) (oi := ({ dst := some 35, op := .nilCheck (.tmp 34), type := 0, pos := "visit.go:27", after := #[{ on := 29, ground := .data }, { on := 26, ground := .guard }], guard := some (26, true) } : Oper)) (v := ?_) rfl (by kernel_rfl) (by kernel_rfl) (by kernel_rfl) (fun _ _ _ h => h) (Or.inl ⟨by rfl, ?_⟩) (by assumption) ?_
     rotate_left 1
     ·(intro u hSw; go_simp; try with_reducible rfl)
     try simp only [Act.put, List.setIfInBounds_toArray, List.set_cons_zero, List.set_cons_succ]
     refine wpAnyH_take (i := 31) (oi := ({ dst := some 36, op := .fieldAddr 115 (.tmp 35) 0, type := 0, pos := "visit.go:27", after := #[{ on := 30, ground := .data }, { on := 26, ground := .guard }], guard := some (26, true) } : Oper)) (v := ?_) rfl (by kernel_rfl) (by kernel_rfl) (by kernel_rfl) (fun _ _ _ h => h) (Or.inl ⟨by rfl, ?_⟩) (by assumption) ?_
     rotate_left 1
     ·(intro u hSw; go_simp; try with_reducible rfl)
     try simp only [Act.put, List.setIfInBounds_toArray, List.set_cons_zero, List.set_cons_succ]
     refine wpAnyH_take (i := 32) (oi := ({ dst := some 37, op := .fieldAddr 66 (.tmp 36) 0, type := 0, pos := "visit.go:27", after := #[{ on := 31, ground := .data }, { on := 26, ground := .guard }], guard := some (26, true) } : Oper)) (v := ?_) rfl (by kernel_rfl) (by kernel_rfl) (by kernel_rfl) (fun _ _ _ h => h) (Or.inl ⟨by rfl, ?_⟩) (by assumption) ?_
     rotate_left 1
     ·(intro u hSw; go_simp; try with_reducible rfl)
     try simp only [Act.put, List.setIfInBounds_toArray, List.set_cons_zero, List.set_cons_succ]
     refine wpAnyH_take (i := 33) (oi := ({ dst := some 38, op := .fieldAddr 33 (.tmp 37) 0, type := 0, pos := "visit.go:27", after := #[{ on := 32, ground := .data }, { on := 26, ground := .guard }], guard := some (26, true) } : Oper)) (v := ?_) rfl (by kernel_rfl) (by kernel_rfl) (by kernel_rfl) (fun _ _ _ h => h) (Or.inl ⟨by rfl, ?_⟩) (by assumption) ?_
     rotate_left 1
     ·(intro u hSw; go_simp; try with_reducible rfl)
     try simp only [Act.put, List.setIfInBounds_toArray, List.set_cons_zero, List.set_cons_succ]
     refine wpAnyH_take (i := 34) (oi := ({ dst := some 39, op := .load 31 (.tmp 38), type := 31, pos := "visit.go:27", after := #[{ on := 33, ground := .data }, { on := 26, ground := .guard }], guard := some (26, true) } : Oper)) (v := ?_) rfl (by kernel_rfl) (by kernel_rfl) (by kernel_rfl) (fun _ _ _ h => h) (Or.inl ⟨by rfl, ?_⟩) (by assumption) ?_
     rotate_left 1
     ·(intro u hSw; have y0 := (HY.out _ hSw).1; have y1 := (HY.out _ hSw).2; have z0 := HZ.out _ hSw; have p0 := HPL.out _ hSw; go_simp; try with_reducible rfl)
     try simp only [Act.put, List.setIfInBounds_toArray, List.set_cons_zero, List.set_cons_succ]
     refine wpAnyH_ready (rs := [35]) (by kernel_rfl) (by simp) ?_
     refine (AllReadyH.cons (o := ({ dst := some 40, op := .call { callee := Callee.value (Operand.func 94), args := #[.tmp 32, .tmp 39], argTypes := #[74, 31] }, type := 4, pos := "visit.go:29", after := #[{ on := 27, ground := .data }, { on := 34, ground := .data }, { on := 26, ground := .chain }, { on := 26, ground := .guard }], guard := some (26, true) } : Oper)) rfl (fun K hK => ?_) AllReadyH.nil)
     go_simp
     refine (HE2.out _ hb3).mono ?_
     rintro d w35 ⟨rfl, hw35⟩
     have hb35 : Below w0.heap.size w0 w35 := hb3.trans (hw35.mono hb3.size)
     clear hw35
     go_wp2_with fail
     refine hK.out _ _ hb35 (fun hHeld => ?_)
     clear hK K
     try simp only [Act.put, List.setIfInBounds_toArray, List.set_cons_zero, List.set_cons_succ]
     refine wpAnyH_take (i := 36) (oi := ({ dst := some 41, op := .pick (.tmp 31) (.tmp 40) (.const (Value.bool false)), type := 4, pos := "visit.go:27", after := #[{ on := 26, ground := .data }, { on := 35, ground := .data }, { on := 22, ground := .guard }], guard := some (22, false) } : Oper)) (v := ?_) rfl (by kernel_rfl) (by kernel_rfl) (by kernel_rfl) (fun _ _ _ h => h) (Or.inl ⟨by rfl, ?_⟩) (by assumption) ?_
     rotate_left 1
     ·(intro u hSw; go_simp; try with_reducible rfl)
     try simp only [Act.put, List.setIfInBounds_toArray, List.set_cons_zero, List.set_cons_succ]
     refine wpAnyH_take (i := 37) (oi := ({ dst := some 42, op := .pick (.tmp 27) (.const (Value.bool true)) (.tmp 41), type := 4, pos := "visit.go:27", after := #[{ on := 22, ground := .data }, { on := 36, ground := .data }], guard := none } : Oper)) (v := ?_) rfl (by kernel_rfl) (by kernel_rfl) (by kernel_rfl) (fun _ _ _ h => h) (Or.inl ⟨by rfl, ?_⟩) (by assumption) ?_
     rotate_left 1
     ·(intro u hSw; go_simp; try with_reducible rfl)
     try simp only [Act.put, List.setIfInBounds_toArray, List.set_cons_zero, List.set_cons_succ]
     refine wpAnyH_take (i := 38) (oi := ({ dst := some 4, op := .assign (.tmp 42), type := 4, pos := "visit.go:27", after := #[{ on := 37, ground := .data }, { on := 35, ground := .chain }, { on := 0, ground := .phase }, { on := 1, ground := .phase }, { on := 2, ground := .phase }, { on := 3, ground := .phase }, { on := 4, ground := .phase }, { on := 5, ground := .phase }, { on := 6, ground := .phase }, { on := 7, ground := .phase }, { on := 8, ground := .phase }, { on := 9, ground := .phase }, { on := 10, ground := .phase }, { on := 11, ground := .phase }, { on := 12, ground := .phase }, { on := 13, ground := .phase }, { on := 14, ground := .phase }, { on := 15, ground := .phase }, { on := 16, ground := .phase }, { on := 17, ground := .phase }, { on := 18, ground := .phase }, { on := 19, ground := .phase }, { on := 20, ground := .phase }, { on := 21, ground := .phase }, { on := 22, ground := .phase }, { on := 23, ground := .phase }, { on := 24, ground := .phase }, { on := 25, ground := .phase }, { on := 26, ground := .phase }, { on := 27, ground := .phase }, { on := 28, ground := .phase }, { on := 29, ground := .phase }, { on := 30, ground := .phase }, { on := 31, ground := .phase }, { on := 32, ground := .phase }, { on := 33, ground := .phase }, { on := 34, ground := .phase }, { on := 35, ground := .phase }, { on := 36, ground := .phase }, { on := 37, ground := .phase }], guard := none } : Oper)) (v := ?_) rfl (by kernel_rfl) (by kernel_rfl) (by kernel_rfl) (fun _ _ _ h => h) (Or.inl ⟨by rfl, ?_⟩) (by assumption) ?_
     rotate_left 1
     ·(intro u hSw; go_simp; try with_reducible rfl)
     try simp only [Act.put, List.setIfInBounds_toArray, List.set_cons_zero, List.set_cons_succ]
     refine wpAnyH_done (by kernel_rfl) ?_ _
     have HBE := Lib.hid (HB0.out.trans (hb35.mono HB0.out.size))
     go_wp2_with fail
     go_ret
     rw [HR.out]
     exact ⟨rfl, HBE.out⟩
  | some hk' =>
   obtain ⟨bh, ah, ch, rfl, hph, hc⟩ := HHI hk' rfl
   have HPH := Lib.hid hph
   have HC := Lib.hid hc
   clear hph hc HHI
   replace HR : Hid (R = (decide (cmpI hk' fr ≤ 0) || lo.elim false (fun l => endsQ to e l))) := HR
   generalize cmpI hk' fr = cm at *
   by_cases hcm : cm ≤ 0
   ·replace HR : Hid (R = true) := Lib.hid (by rw [HR.out, decide_eq_true hcm]; rfl)
    clear hbb gf gt hlo2 hhi2 hf0 ht0 HLO
    go_enter Tryd.func85, Tryd.ntmps85
    go_wp2_with fail
    generalize ((w.alloc (.cells #[.pointer alo, .pointer (some ⟨bh, 0, none⟩)] 142)).alloc (.cells #[.slice af fr.length cf, .slice at2 to.length ct, .bool e] 74)) = w0 at *
    have hb0 := (Below.refl w0.heap.size w0).drew
    refine wp_region_held_drew (S := fun u => Below w0.heap.size w0 u) (by kernel_rfl) (hb0) (fun hHeld => ?_)
    refine wpAnyH_take (i := 0) (oi := ({ dst := some 5, op := .load 74 (.tmp 3), type := 74, pos := "visit.go:27", after := #[], guard := none } : Oper)) (v := .agg #[.slice af fr.length cf, .slice at2 to.length ct, .bool e]) rfl (by kernel_rfl) (by kernel_rfl) (by kernel_rfl) (fun _ _ _ h => h) (Or.inl ⟨by rfl, ?_⟩) (by assumption) ?_
    ·intro u hSw
     exact exec_load_mid 74 (Operand.tmp 3) rfl (w.heap.size + 1) 0 rfl _ _ (HSP.out _ hSw) Tryd.underlying74 rfl (by kernel_rfl)
    try simp only [Act.put, List.setIfInBounds_toArray, List.set_cons_zero, List.set_cons_succ]
    refine wpAnyH_take (i := 1) (oi := ({ dst := some 6, op := .fieldAddr 74 (.tmp 3) 0, type := 0, pos := "visit.go:27", after := #[], guard := none } : Oper)) (v := ?_) rfl (by kernel_rfl) (by kernel_rfl) (by kernel_rfl) (fun _ _ _ h => h) (Or.inl ⟨by rfl, ?_⟩) (by assumption) ?_
    rotate_left 1
    ·(intro u hSw; go_simp; try with_reducible rfl)
    try simp only [Act.put, List.setIfInBounds_toArray, List.set_cons_zero, List.set_cons_succ]
    refine wpAnyH_take (i := 2) (oi := ({ dst := some 7, op := .load 31 (.tmp 6), type := 31, pos := "visit.go:27", after := #[{ on := 1, ground := .data }], guard := none } : Oper)) (v := ?_) rfl (by kernel_rfl) (by kernel_rfl) (by kernel_rfl) (fun _ _ _ h => h) (Or.inl ⟨by rfl, ?_⟩) (by assumption) ?_
    rotate_left 1
    ·(intro u hSw; have y0 := (HY.out _ hSw).1; have y1 := (HY.out _ hSw).2; have z0 := HZ.out _ hSw; have p1 := HPH.out _ hSw; go_simp; try with_reducible rfl)
    try simp only [Act.put, List.setIfInBounds_toArray, List.set_cons_zero, List.set_cons_succ]
    refine wpAnyH_ready (rs := [3]) (by kernel_rfl) (by simp) ?_
    refine (AllReadyH.cons (o := ({ dst := some 8, op := .call { callee := Callee.value (Operand.func 94), args := #[.tmp 5, .tmp 7], argTypes := #[74, 31] }, type := 4, pos := "visit.go:27", after := #[{ on := 0, ground := .data }, { on := 2, ground := .data }], guard := none } : Oper)) rfl (fun K hK => ?_) AllReadyH.nil)
    go_simp
    refine (HE0.out _ hb0).mono ?_
    rintro d w3 ⟨rfl, hw3⟩
    have hb3 : Below w0.heap.size w0 w3 := hb0.trans (hw3.mono hb0.size)
    clear hw3
    go_wp2_with fail
    refine hK.out _ _ hb3 (fun hHeld => ?_)
    clear hK K
    try simp only [Act.put, List.setIfInBounds_toArray, List.set_cons_zero, List.set_cons_succ]
    refine wpAnyH_take (i := 4) (oi := ({ dst := some 9, op := .move (.tmp 8), type := 4, pos := "visit.go:27", after := #[{ on := 3, ground := .data }, { on := 3, ground := .chain }], guard := none } : Oper)) (v := ?_) rfl (by kernel_rfl) (by kernel_rfl) (by kernel_rfl) (fun _ _ _ h => h) (Or.inl ⟨by rfl, ?_⟩) (by assumption) ?_
    rotate_left 1
    ·(intro u hSw; go_simp; try with_reducible rfl)
    try simp only [Act.put, List.setIfInBounds_toArray, List.set_cons_zero, List.set_cons_succ]
    refine wpAnyH_take (i := 5) (oi := ({ dst := some 10, op := .fieldAddr 142 (.tmp 2) 1, type := 0, pos := "visit.go:27", after := #[{ on := 4, ground := .guard }], guard := some (4, false) } : Oper)) (v := ?_) rfl (by kernel_rfl) (by kernel_rfl) (by kernel_rfl) (fun _ _ _ h => h) (Or.inl ⟨by rfl, ?_⟩) (by assumption) ?_
    rotate_left 1
    ·(intro u hSw; go_simp; try with_reducible rfl)
    try simp only [Act.put, List.setIfInBounds_toArray, List.set_cons_zero, List.set_cons_succ]
    refine wpAnyH_take (i := 6) (oi := ({ dst := some 11, op := .load 68 (.tmp 10), type := 68, pos := "visit.go:27", after := #[{ on := 5, ground := .data }, { on := 4, ground := .guard }], guard := some (4, false) } : Oper)) (v := ?_) rfl (by kernel_rfl) (by kernel_rfl) (by kernel_rfl) (fun _ _ _ h => h) (Or.inl ⟨by rfl, ?_⟩) (by assumption) ?_
    rotate_left 1
    ·(intro u hSw; have y0 := (HY.out _ hSw).1; have y1 := (HY.out _ hSw).2; have z0 := HZ.out _ hSw; have p1 := HPH.out _ hSw; go_simp; try with_reducible rfl)
    try simp only [Act.put, List.setIfInBounds_toArray, List.set_cons_zero, List.set_cons_succ]
    refine wpAnyH_take (i := 7) (oi := ({ dst := some 12, op := .binOp BinOp.neq 68 (.tmp 11) (.const (Value.pointer none)) 68, type := 4, pos := "visit.go:27", after := #[{ on := 6, ground := .data }, { on := 4, ground := .guard }], guard := some (4, false) } : Oper)) (v := ?_) rfl (by kernel_rfl) (by kernel_rfl) (by kernel_rfl) (fun _ _ _ h => h) (Or.inl ⟨by rfl, ?_⟩) (by assumption) ?_
    rotate_left 1
    ·(intro u hSw; go_simp; try with_reducible rfl)
    try simp only [Act.put, List.setIfInBounds_toArray, List.set_cons_zero, List.set_cons_succ]
    refine wpAnyH_take (i := 8) (oi := ({ dst := some 13, op := .move (.tmp 12), type := 4, pos := "visit.go:27", after := #[{ on := 7, ground := .data }, { on := 4, ground := .chain }, { on := 4, ground := .guard }], guard := some (4, false) } : Oper)) (v := ?_) rfl (by kernel_rfl) (by kernel_rfl) (by kernel_rfl) (fun _ _ _ h => h) (Or.inl ⟨by rfl, ?_⟩) (by assumption) ?_
    rotate_left 1
    ·(intro u hSw; go_simp; try with_reducible rfl)
    try simp only [Act.put, List.setIfInBounds_toArray, List.set_cons_zero, List.set_cons_succ]
    refine wpAnyH_take (i := 9) (oi := ({ dst := some 14, op := .fieldAddr 142 (.tmp 2) 1, type := 0, pos := "visit.go:27", after := #[{ on := 8, ground := .guard }], guard := some (8, true) } : Oper)) (v := ?_) rfl (by kernel_rfl) (by kernel_rfl) (by kernel_rfl) (fun _ _ _ h => h) (Or.inl ⟨by rfl, ?_⟩) (by assumption) ?_
    rotate_left 1
    ·(intro u hSw; go_simp; try with_reducible rfl)
    try simp only [Act.put, List.setIfInBounds_toArray, List.set_cons_zero, List.set_cons_succ]
    refine wpAnyH_take (i := 10) (oi := ({ dst := some 15, op := .load 68 (.tmp 14), type := 68, pos := "visit.go:27", after := #[{ on := 9, ground := .data }, { on := 8, ground := .guard }], guard := some (8, true) } : Oper)) (v := ?_) rfl (by kernel_rfl) (by kernel_rfl) (by kernel_rfl) (fun _ _ _ h => h) (Or.inl ⟨by rfl, ?_⟩) (by assumption) ?_
    rotate_left 1
    ·(intro u hSw; have y0 := (HY.out _ hSw).1; have y1 := (HY.out _ hSw).2; have z0 := HZ.out _ hSw; have p1 := HPH.out _ hSw; go_simp; try with_reducible rfl)
    try simp only [Act.put, List.setIfInBounds_toArray, List.set_cons_zero, List.set_cons_succ]
    refine wpAnyH_take (i := 11) (oi := ({ dst := some 16, op := .nilCheck (.tmp 15), type := 0, pos := "visit.go:27", after := #[{ on := 10, ground := .data }, { on := 8, ground := .guard }], guard := some (8, true) } : Oper)) (v := ?_) rfl (by kernel_rfl) (by kernel_rfl) (by kernel_rfl) (fun _ _ _ h => h) (Or.inl ⟨by rfl, ?_⟩) (by assumption) ?_
    rotate_left 1
    ·(intro u hSw; go_simp; try with_reducible rfl)
    try simp only [Act.put, List.setIfInBounds_toArray, List.set_cons_zero, List.set_cons_succ]
    refine wpAnyH_take (i := 12) (oi := ({ dst := some 17, op := .fieldAddr 115 (.tmp 16) 0, type := 0, pos := "visit.go:27", after := #[{ on := 11, ground := .data }, { on := 8, ground := .guard }], guard := some (8, true) } : Oper)) (v := ?_) rfl (by kernel_rfl) (by kernel_rfl) (by kernel_rfl) (fun _ _ _ h => h) (Or.inl ⟨by rfl, ?_⟩) (by assumption) ?_
    rotate_left 1
    ·(intro u hSw; go_simp; try with_reducible rfl)
    try simp only [Act.put, List.setIfInBounds_toArray, List.set_cons_zero, List.set_cons_succ]
    refine wpAnyH_take (i := 13) (oi := ({ dst := some 18, op := .fieldAddr 66 (.tmp 17) 0, type := 0, pos := "visit.go:27", after := #[{ on := 12, ground := .data }, { on := 8, ground := .guard }], guard := some (8, true) } : Oper)) (v := ?_) rfl (by kernel_rfl) (by kernel_rfl) (by kernel_rfl) (fun _ _ _ h => h) (Or.inl ⟨by rfl, ?_⟩) (by assumption) ?_
    rotate_left 1
    ·(intro u hSw; go_simp; try with_reducible rfl)
    try simp only [Act.put, List.setIfInBounds_toArray, List.set_cons_zero, List.set_cons_succ]
    refine wpAnyH_take (i := 14) (oi := ({ dst := some 19, op := .fieldAddr 33 (.tmp 18) 0, type := 0, pos := "visit.go:27", after := #[{ on := 13, ground := .data }, { on := 8, ground := .guard }], guard := some (8, true) } : Oper)) (v := ?_) rfl (by kernel_rfl) (by kernel_rfl) (by kernel_rfl) (fun _ _ _ h => h) (Or.inl ⟨by rfl, ?_⟩) (by assumption) ?_
    rotate_left 1
    ·(intro u hSw; go_simp; try with_reducible rfl)
    try simp only [Act.put, List.setIfInBounds_toArray, List.set_cons_zero, List.set_cons_succ]
    refine wpAnyH_take (i := 15) (oi := ({ dst := some 20, op := .load 31 (.tmp 19), type := 31, pos := "visit.go:27", after := #[{ on := 14, ground := .data }, { on := 8, ground := .guard }], guard := some (8, true) } : Oper)) (v := ?_) rfl (by kernel_rfl) (by kernel_rfl) (by kernel_rfl) (fun _ _ _ h => h) (Or.inl ⟨by rfl, ?_⟩) (by assumption) ?_
    rotate_left 1
    ·(intro u hSw; have y0 := (HY.out _ hSw).1; have y1 := (HY.out _ hSw).2; have z0 := HZ.out _ hSw; have p1 := HPH.out _ hSw; go_simp; try with_reducible rfl)
    try simp only [Act.put, List.setIfInBounds_toArray, List.set_cons_zero, List.set_cons_succ]
    refine wpAnyH_take (i := 16) (oi := ({ dst := some 21, op := .fieldAddr 74 (.tmp 3) 0, type := 0, pos := "visit.go:27", after := #[{ on := 8, ground := .guard }], guard := some (8, true) } : Oper)) (v := ?_) rfl (by kernel_rfl) (by kernel_rfl) (by kernel_rfl) (fun _ _ _ h => h) (Or.inl ⟨by rfl, ?_⟩) (by assumption) ?_
    rotate_left 1
    ·(intro u hSw; go_simp; try with_reducible rfl)
    try simp only [Act.put, List.setIfInBounds_toArray, List.set_cons_zero, List.set_cons_succ]
    refine wpAnyH_take (i := 17) (oi := ({ dst := some 22, op := .load 31 (.tmp 21), type := 31, pos := "visit.go:27", after := #[{ on := 16, ground := .data }, { on := 8, ground := .guard }], guard := some (8, true) } : Oper)) (v := ?_) rfl (by kernel_rfl) (by kernel_rfl) (by kernel_rfl) (fun _ _ _ h => h) (Or.inl ⟨by rfl, ?_⟩) (by assumption) ?_
    rotate_left 1
    ·(intro u hSw; have y0 := (HY.out _ hSw).1; have y1 := (HY.out _ hSw).2; have z0 := HZ.out _ hSw; have p1 := HPH.out _ hSw; go_simp; try with_reducible rfl)
    try simp only [Act.put, List.setIfInBounds_toArray, List.set_cons_zero, List.set_cons_succ]
    refine wpAnyH_ready (rs := [18]) (by kernel_rfl) (by simp) ?_
    refine (AllReadyH.cons (o := ({ dst := some 23, op := .call { callee := Callee.value (Operand.func 56), args := #[.tmp 20, .tmp 22], argTypes := #[31, 31] }, type := 3, pos := "visit.go:28", after := #[{ on := 15, ground := .data }, { on := 17, ground := .data }, { on := 8, ground := .chain }, { on := 8, ground := .guard }], guard := some (8, true) } : Oper)) rfl (fun K hK => ?_) AllReadyH.nil)
    go_simp
    refine (HC.out _ hb3).mono ?_
    rintro d w18 ⟨rfl, hw18⟩
    have hb18 : Below w0.heap.size w0 w18 := (by rw [hw18]; exact hb3)
    clear hw18
    go_wp2_with fail
    refine hK.out _ _ hb18 (fun hHeld => ?_)
    clear hK K
    try simp only [Act.put, List.setIfInBounds_toArray, List.set_cons_zero, List.set_cons_succ]
    refine wpAnyH_take (i := 19) (oi := ({ dst := some 24, op := .binOp BinOp.leq 3 (.tmp 23) (.const (Value.int IntKind.i64 0)) 3, type := 4, pos := "visit.go:27", after := #[{ on := 18, ground := .data }, { on := 8, ground := .guard }], guard := some (8, true) } : Oper)) (v := ?_) rfl (by kernel_rfl) (by kernel_rfl) (by kernel_rfl) (fun _ _ _ h => h) (Or.inl ⟨by rfl, ?_⟩) (by assumption) ?_
    rotate_left 1
    ·(intro u hSw; go_simp; try with_reducible rfl)
    try simp only [Act.put, List.setIfInBounds_toArray, List.set_cons_zero, List.set_cons_succ]
    refine wpAnyH_take (i := 20) (oi := ({ dst := some 25, op := .pick (.tmp 13) (.tmp 24) (.const (Value.bool false)), type := 4, pos := "visit.go:27", after := #[{ on := 8, ground := .data }, { on := 19, ground := .data }, { on := 4, ground := .guard }], guard := some (4, false) } : Oper)) (v := ?_) rfl (by kernel_rfl) (by kernel_rfl) (by kernel_rfl) (fun _ _ _ h => h) (Or.inl ⟨by rfl, ?_⟩) (by assumption) ?_
    rotate_left 1
    ·(intro u hSw; go_simp; try with_reducible rfl)
    try simp only [Act.put, List.setIfInBounds_toArray, List.set_cons_zero, List.set_cons_succ]
    refine wpAnyH_take (i := 21) (oi := ({ dst := some 26, op := .pick (.tmp 9) (.const (Value.bool true)) (.tmp 25), type := 4, pos := "visit.go:27", after := #[{ on := 4, ground := .data }, { on := 20, ground := .data }], guard := none } : Oper)) (v := ?_) rfl (by kernel_rfl) (by kernel_rfl) (by kernel_rfl) (fun _ _ _ h => h) (Or.inl ⟨by rfl, ?_⟩) (by assumption) ?_
    rotate_left 1
    ·(intro u hSw; go_simp; try with_reducible rfl)
    try simp only [Act.put, List.setIfInBounds_toArray, List.set_cons_zero, List.set_cons_succ]
    refine wpAnyH_take (i := 22) (oi := ({ dst := some 27, op := .move (.tmp 26), type := 4, pos := "visit.go:27", after := #[{ on := 21, ground := .data }, { on := 18, ground := .chain }], guard := none } : Oper)) (v := ?_) rfl (by kernel_rfl) (by kernel_rfl) (by kernel_rfl) (fun _ _ _ h => h) (Or.inl ⟨by rfl, ?_⟩) (by assumption) ?_
    rotate_left 1
    ·(intro u hSw; go_simp; try with_reducible rfl)
    try simp only [Act.put, List.setIfInBounds_toArray, List.set_cons_zero, List.set_cons_succ]
    refine wpAnyH_take (i := 23) (oi := ({ dst := some 28, op := .fieldAddr 142 (.tmp 2) 0, type := 0, pos := "visit.go:27", after := #[{ on := 22, ground := .guard }], guard := some (22, false) } : Oper)) (v := undef) rfl (by kernel_rfl) (by kernel_rfl) (by kernel_rfl) (fun _ _ _ h => h) (by exact .inr ⟨by rfl, rfl⟩) (by assumption) ?_
    try simp only [Act.put, List.setIfInBounds_toArray, List.set_cons_zero, List.set_cons_succ]
    refine wpAnyH_take (i := 24) (oi := ({ dst := some 29, op := .load 68 (.tmp 28), type := 68, pos := "visit.go:27", after := #[{ on := 23, ground := .data }, { on := 22, ground := .guard }], guard := some (22, false) } : Oper)) (v := undef) rfl (by kernel_rfl) (by kernel_rfl) (by kernel_rfl) (fun _ _ _ h => h) (by exact .inr ⟨by rfl, rfl⟩) (by assumption) ?_
    try simp only [Act.put, List.setIfInBounds_toArray, List.set_cons_zero, List.set_cons_succ]
    refine wpAnyH_take (i := 25) (oi := ({ dst := some 30, op := .binOp BinOp.neq 68 (.tmp 29) (.const (Value.pointer none)) 68, type := 4, pos := "visit.go:27", after := #[{ on := 24, ground := .data }, { on := 22, ground := .guard }], guard := some (22, false) } : Oper)) (v := undef) rfl (by kernel_rfl) (by kernel_rfl) (by kernel_rfl) (fun _ _ _ h => h) (by exact .inr ⟨by rfl, rfl⟩) (by assumption) ?_
    try simp only [Act.put, List.setIfInBounds_toArray, List.set_cons_zero, List.set_cons_succ]
    refine wpAnyH_take (i := 26) (oi := ({ dst := some 31, op := .move (.tmp 30), type := 4, pos := "visit.go:27", after := #[{ on := 25, ground := .data }, { on := 22, ground := .chain }, { on := 22, ground := .guard }], guard := some (22, false) } : Oper)) (v := undef) rfl (by kernel_rfl) (by kernel_rfl) (by kernel_rfl) (fun _ _ _ h => h) (by exact .inr ⟨by rfl, rfl⟩) (by assumption) ?_
    try simp only [Act.put, List.setIfInBounds_toArray, List.set_cons_zero, List.set_cons_succ]
    refine wpAnyH_take (i := 27) (oi := ({ dst := some 32, op := .load 74 (.tmp 3), type := 74, pos := "visit.go:27", after := #[{ on := 26, ground := .guard }], guard := some (26, true) } : Oper)) (v := undef) rfl (by kernel_rfl) (by kernel_rfl) (by kernel_rfl) (fun _ _ _ h => h) (by exact .inr ⟨by rfl, rfl⟩) (by assumption) ?_
    try simp only [Act.put, List.setIfInBounds_toArray, List.set_cons_zero, List.set_cons_succ]
    refine wpAnyH_take (i := 28) (oi := ({ dst := some 33, op := .fieldAddr 142 (.tmp 2) 0, type := 0, pos := "visit.go:27", after := #[{ on := 26, ground := .guard }], guard := some (26, true) } : Oper)) (v := undef) rfl (by kernel_rfl) (by kernel_rfl) (by kernel_rfl) (fun _ _ _ h => h) (by exact .inr ⟨by rfl, rfl⟩) (by assumption) ?_
    try simp only [Act.put, List.setIfInBounds_toArray, List.set_cons_zero, List.set_cons_succ]
    refine wpAnyH_take (i := 29) (oi := ({ dst := some 34, op := .load 68 (.tmp 33), type := 68, pos := "visit.go:27", after := #[{ on := 28, ground := .data }, { on := 26, ground := .guard }], guard := some (26, true) } : Oper)) (v := undef) rfl (by kernel_rfl) (by kernel_rfl) (by kernel_rfl) (fun _ _ _ h => h) (by exact .inr ⟨by rfl, rfl⟩) (by assumption) ?_
    try simp only [Act.put, List.setIfInBounds_toArray, List.set_cons_zero, List.set_cons_succ]
    refine wpAnyH_take (i := 30) (oi := ({ dst := some 35, op := .nilCheck (.tmp 34), type := 0, pos := "visit.go:27", after := #[{ on := 29, ground := .data }, { on := 26, ground := .guard }], guard := some (26, true) } : Oper)) (v := undef) rfl (by kernel_rfl) (by kernel_rfl) (by kernel_rfl) (fun _ _ _ h => h) (by exact .inr ⟨by rfl, rfl⟩) (by assumption) ?_
    try simp only [Act.put, List.setIfInBounds_toArray, List.set_cons_zero, List.set_cons_succ]
    refine wpAnyH_take (i := 31) (oi := ({ dst := some 36, op := .fieldAddr 115 (.tmp 35) 0, type := 0, pos := "visit.go:27", after := #[{ on := 30, ground := .data }, { on := 26, ground := .guard }], guard := some (26, true) } : Oper)) (v := undef) rfl (by kernel_rfl) (by kernel_rfl) (by kernel_rfl) (fun _ _ _ h => h) (by exact .inr ⟨by rfl, rfl⟩) (by assumption) ?_
    try simp only [Act.put, List.setIfInBounds_toArray, List.set_cons_zero, List.set_cons_succ]
    refine wpAnyH_take (i := 32) (oi := ({ dst := some 37, op := .fieldAddr 66 (.tmp 36) 0, type := 0, pos := "visit.go:27", after := #[{ on := 31, ground := .data }, { on := 26, ground := .guard }], guard := some (26, true) } : Oper)) (v := undef) rfl (by kernel_rfl) (by kernel_rfl) (by kernel_rfl) (fun _ _ _ h => h) (by exact .inr ⟨by rfl, rfl⟩) (by assumption) ?_
    try simp only [Act.put, List.setIfInBounds_toArray, List.set_cons_zero, List.set_cons_succ]
    refine wpAnyH_take (i := 33) (oi := ({ dst := some 38, op := .fieldAddr 33 (.tmp 37) 0, type := 0, pos := "visit.go:27", after := #[{ on := 32, ground := .data }, { on := 26, ground := .guard }], guard := some (26, true) } : Oper)) (v := undef) rfl (by kernel_rfl) (by kernel_rfl) (by kernel_rfl) (fun _ _ _ h => h) (by exact .inr ⟨by rfl, rfl⟩) (by assumption) ?_
    try simp only [Act.put, List.setIfInBounds_toArray, List.set_cons_zero, List.set_cons_succ]
    refine wpAnyH_take (i := 34) (oi := ({ dst := some 39, op := .load 31 (.tmp 38), type := 31, pos := "visit.go:27", after := #[{ on := 33, ground := .data }, { on := 26, ground := .guard }], guard := some (26, true) } : Oper)) (v := undef) rfl (by kernel_rfl) (by kernel_rfl) (by kernel_rfl) (fun _ _ _ h => h) (by exact .inr ⟨by rfl, rfl⟩) (by assumption) ?_
    try simp only [Act.put, List.setIfInBounds_toArray, List.set_cons_zero, List.set_cons_succ]
    refine wpAnyH_take (i := 35) (oi := ({ dst := some 40, op := .call { callee := Callee.value (Operand.func 94), args := #[.tmp 32, .tmp 39], argTypes := #[74, 31] }, type := 4, pos := "visit.go:29", after := #[{ on := 27, ground := .data }, { on := 34, ground := .data }, { on := 26, ground := .chain }, { on := 26, ground := .guard }], guard := some (26, true) } : Oper)) (v := undef) rfl (by kernel_rfl) (by kernel_rfl) (by kernel_rfl) (fun _ _ _ h => h) (by exact .inr ⟨by rfl, rfl⟩) (by assumption) ?_
    try simp only [Act.put, List.setIfInBounds_toArray, List.set_cons_zero, List.set_cons_succ]
    refine wpAnyH_take (i := 36) (oi := ({ dst := some 41, op := .pick (.tmp 31) (.tmp 40) (.const (Value.bool false)), type := 4, pos := "visit.go:27", after := #[{ on := 26, ground := .data }, { on := 35, ground := .data }, { on := 22, ground := .guard }], guard := some (22, false) } : Oper)) (v := undef) rfl (by kernel_rfl) (by kernel_rfl) (by kernel_rfl) (fun _ _ _ h => h) (by exact .inr ⟨by rfl, rfl⟩) (by assumption) ?_
    try simp only [Act.put, List.setIfInBounds_toArray, List.set_cons_zero, List.set_cons_succ]
    refine wpAnyH_take (i := 37) (oi := ({ dst := some 42, op := .pick (.tmp 27) (.const (Value.bool true)) (.tmp 41), type := 4, pos := "visit.go:27", after := #[{ on := 22, ground := .data }, { on := 36, ground := .data }], guard := none } : Oper)) (v := ?_) rfl (by kernel_rfl) (by kernel_rfl) (by kernel_rfl) (fun _ _ _ h => h) (Or.inl ⟨by rfl, ?_⟩) (by assumption) ?_
    rotate_left 1
    ·(intro u hSw; go_simp; try with_reducible rfl)
    try simp only [Act.put, List.setIfInBounds_toArray, List.set_cons_zero, List.set_cons_succ]
    refine wpAnyH_take (i := 38) (oi := ({ dst := some 4, op := .assign (.tmp 42), type := 4, pos := "visit.go:27", after := #[{ on := 37, ground := .data }, { on := 35, ground := .chain }, { on := 0, ground := .phase }, { on := 1, ground := .phase }, { on := 2, ground := .phase }, { on := 3, ground := .phase }, { on := 4, ground := .phase }, { on := 5, ground := .phase }, { on := 6, ground := .phase }, { on := 7, ground := .phase }, { on := 8, ground := .phase }, { on := 9, ground := .phase }, { on := 10, ground := .phase }, { on := 11, ground := .phase }, { on := 12, ground := .phase }, { on := 13, ground := .phase }, { on := 14, ground := .phase }, { on := 15, ground := .phase }, { on := 16, ground := .phase }, { on := 17, ground := .phase }, { on := 18, ground := .phase }, { on := 19, ground := .phase }, { on := 20, ground := .phase }, { on := 21, ground := .phase }, { on := 22, ground := .phase }, { on := 23, ground := .phase }, { on := 24, ground := .phase }, { on := 25, ground := .phase }, { on := 26, ground := .phase }, { on := 27, ground := .phase }, { on := 28, ground := .phase }, { on := 29, ground := .phase }, { on := 30, ground := .phase }, { on := 31, ground := .phase }, { on := 32, ground := .phase }, { on := 33, ground := .phase }, { on := 34, ground := .phase }, { on := 35, ground := .phase }, { on := 36, ground := .phase }, { on := 37, ground := .phase }], guard := none } : Oper)) (v := ?_) rfl (by kernel_rfl) (by kernel_rfl) (by kernel_rfl) (fun _ _ _ h => h) (Or.inl ⟨by rfl, ?_⟩) (by assumption) ?_
    rotate_left 1
    ·(intro u hSw; go_simp; try with_reducible rfl)
    try simp only [Act.put, List.setIfInBounds_toArray, List.set_cons_zero, List.set_cons_succ]
    refine wpAnyH_done (by kernel_rfl) ?_ _
    have HBE := Lib.hid (HB0.out.trans (hb18.mono HB0.out.size))
    go_wp2_with fail
    go_ret
    rw [HR.out]
    exact ⟨rfl, HBE.out⟩
   ·have HCM := Lib.hid hcm
    replace HR : Hid (R = lo.elim false (fun l => endsQ to e l)) := Lib.hid (by rw [HR.out, decide_eq_false hcm]; rfl)
    cases lo with
    | none =>
     obtain rfl : alo = none := by injection (show Value.pointer alo = .pointer none from hlo2)
     replace HR : Hid (R = false) := HR
     clear hbb gf gt hlo2 hhi2 hf0 ht0 HLO
     go_enter Tryd.func85, Tryd.ntmps85
     go_wp2_with fail
     generalize ((w.alloc (.cells #[.pointer none, .pointer (some ⟨bh, 0, none⟩)] 142)).alloc (.cells #[.slice af fr.length cf, .slice at2 to.length ct, .bool e] 74)) = w0 at *
     have hb0 := (Below.refl w0.heap.size w0).drew
     refine wp_region_held_drew (S := fun u => Below w0.heap.size w0 u) (by kernel_rfl) (hb0) (fun hHeld => ?_)
     refine wpAnyH_take (i := 0) (oi := ({ dst := some 5, op := .load 74 (.tmp 3), type := 74, pos := "visit.go:27", after := #[], guard := none } : Oper)) (v := .agg #[.slice af fr.length cf, .slice at2 to.length ct, .bool e]) rfl (by kernel_rfl) (by kernel_rfl) (by kernel_rfl) (fun _ _ _ h => h) (Or.inl ⟨by rfl, ?_⟩) (by assumption) ?_
     ·intro u hSw
      exact exec_load_mid 74 (Operand.tmp 3) rfl (w.heap.size + 1) 0 rfl _ _ (HSP.out _ hSw) Tryd.underlying74 rfl (by kernel_rfl)
     try simp only [Act.put, List.setIfInBounds_toArray, List.set_cons_zero, List.set_cons_succ]
     refine wpAnyH_take (i := 1) (oi := ({ dst := some 6, op := .fieldAddr 74 (.tmp 3) 0, type := 0, pos := "visit.go:27", after := #[], guard := none } : Oper)) (v := ?_) rfl (by kernel_rfl) (by kernel_rfl) (by kernel_rfl) (fun _ _ _ h => h) (Or.inl ⟨by rfl, ?_⟩) (by assumption) ?_
     rotate_left 1
     ·(intro u hSw; go_simp; try with_reducible rfl)
     try simp only [Act.put, List.setIfInBounds_toArray, List.set_cons_zero, List.set_cons_succ]
     refine wpAnyH_take (i := 2) (oi := ({ dst := some 7, op := .load 31 (.tmp 6), type := 31, pos := "visit.go:27", after := #[{ on := 1, ground := .data }], guard := none } : Oper)) (v := ?_) rfl (by kernel_rfl) (by kernel_rfl) (by kernel_rfl) (fun _ _ _ h => h) (Or.inl ⟨by rfl, ?_⟩) (by assumption) ?_
     rotate_left 1
     ·(intro u hSw; have y0 := (HY.out _ hSw).1; have y1 := (HY.out _ hSw).2; have z0 := HZ.out _ hSw; have p1 := HPH.out _ hSw; go_simp; try with_reducible rfl)
     try simp only [Act.put, List.setIfInBounds_toArray, List.set_cons_zero, List.set_cons_succ]
     refine wpAnyH_ready (rs := [3]) (by kernel_rfl) (by simp) ?_
     refine (AllReadyH.cons (o := ({ dst := some 8, op := .call { callee := Callee.value (Operand.func 94), args := #[.tmp 5, .tmp 7], argTypes := #[74, 31] }, type := 4, pos := "visit.go:27", after := #[{ on := 0, ground := .data }, { on := 2, ground := .data }], guard := none } : Oper)) rfl (fun K hK => ?_) AllReadyH.nil)
     go_simp
     refine (HE0.out _ hb0).mono ?_
     rintro d w3 ⟨rfl, hw3⟩
     have hb3 : Below w0.heap.size w0 w3 := hb0.trans (hw3.mono hb0.size)
     clear hw3
     go_wp2_with fail
     refine hK.out _ _ hb3 (fun hHeld => ?_)
     clear hK K
     try simp only [Act.put, List.setIfInBounds_toArray, List.set_cons_zero, List.set_cons_succ]
     refine wpAnyH_take (i := 4) (oi := ({ dst := some 9, op := .move (.tmp 8), type := 4, pos := "visit.go:27", after := #[{ on := 3, ground := .data }, { on := 3, ground := .chain }], guard := none } : Oper)) (v := ?_) rfl (by kernel_rfl) (by kernel_rfl) (by kernel_rfl) (fun _ _ _ h => h) (Or.inl ⟨by rfl, ?_⟩) (by assumption) ?_
     rotate_left 1
     ·(intro u hSw; go_simp; try with_reducible rfl)
     try simp only [Act.put, List.setIfInBounds_toArray, List.set_cons_zero, List.set_cons_succ]
     refine wpAnyH_take (i := 5) (oi := ({ dst := some 10, op := .fieldAddr 142 (.tmp 2) 1, type := 0, pos := "visit.go:27", after := #[{ on := 4, ground := .guard }], guard := some (4, false) } : Oper)) (v := ?_) rfl (by kernel_rfl) (by kernel_rfl) (by kernel_rfl) (fun _ _ _ h => h) (Or.inl ⟨by rfl, ?_⟩) (by assumption) ?_
     rotate_left 1
     ·(intro u hSw; go_simp; try with_reducible rfl)
     try simp only [Act.put, List.setIfInBounds_toArray, List.set_cons_zero, List.set_cons_succ]
     refine wpAnyH_take (i := 6) (oi := ({ dst := some 11, op := .load 68 (.tmp 10), type := 68, pos := "visit.go:27", after := #[{ on := 5, ground := .data }, { on := 4, ground := .guard }], guard := some (4, false) } : Oper)) (v := ?_) rfl (by kernel_rfl) (by kernel_rfl) (by kernel_rfl) (fun _ _ _ h => h) (Or.inl ⟨by rfl, ?_⟩) (by assumption) ?_
     rotate_left 1
     ·(intro u hSw; have y0 := (HY.out _ hSw).1; have y1 := (HY.out _ hSw).2; have z0 := HZ.out _ hSw; have p1 := HPH.out _ hSw; go_simp; try with_reducible rfl)
     try simp only [Act.put, List.setIfInBounds_toArray, List.set_cons_zero, List.set_cons_succ]
     refine wpAnyH_take (i := 7) (oi := ({ dst := some 12, op := .binOp BinOp.neq 68 (.tmp 11) (.const (Value.pointer none)) 68, type := 4, pos := "visit.go:27", after := #[{ on := 6, ground := .data }, { on := 4, ground := .guard }], guard := some (4, false) } : Oper)) (v := ?_) rfl (by kernel_rfl) (by kernel_rfl) (by kernel_rfl) (fun _ _ _ h => h) (Or.inl ⟨by rfl, ?_⟩) (by assumption) ?_
     rotate_left 1
     ·(intro u hSw; go_simp; try with_reducible rfl)
     try simp only [Act.put, List.setIfInBounds_toArray, List.set_cons_zero, List.set_cons_succ]
     refine wpAnyH_take (i := 8) (oi := ({ dst := some 13, op := .move (.tmp 12), type := 4, pos := "visit.go:27", after := #[{ on := 7, ground := .data }, { on := 4, ground := .chain }, { on := 4, ground := .guard }], guard := some (4, false) } : Oper)) (v := ?_) rfl (by kernel_rfl) (by kernel_rfl) (by kernel_rfl) (fun _ _ _ h => h) (Or.inl ⟨by rfl, ?_⟩) (by assumption) ?_
     rotate_left 1
     ·(intro u hSw; go_simp; try with_reducible rfl)
     try simp only [Act.put, List.setIfInBounds_toArray, List.set_cons_zero, List.set_cons_succ]
     refine wpAnyH_take (i := 9) (oi := ({ dst := some 14, op := .fieldAddr 142 (.tmp 2) 1, type := 0, pos := "visit.go:27", after := #[{ on := 8, ground := .guard }], guard := some (8, true) } : Oper)) (v := ?_) rfl (by kernel_rfl) (by kernel_rfl) (by kernel_rfl) (fun _ _ _ h => h) (Or.inl ⟨by rfl, ?_⟩) (by assumption) ?_
     rotate_left 1
     ·(intro u hSw; go_simp; try with_reducible rfl)
     try simp only [Act.put, List.setIfInBounds_toArray, List.set_cons_zero, List.set_cons_succ]
     refine wpAnyH_take (i := 10) (oi := ({ dst := some 15, op := .load 68 (.tmp 14), type := 68, pos := "visit.go:27", after := #[{ on := 9, ground := .data }, { on := 8, ground := .guard }], guard := some (8, true) } : Oper)) (v := ?_) rfl (by kernel_rfl) (by kernel_rfl) (by kernel_rfl) (fun _ _ _ h => h) (Or.inl ⟨by rfl, ?_⟩) (by assumption) ?_
     rotate_left 1
     ·(intro u hSw; have y0 := (HY.out _ hSw).1; have y1 := (HY.out _ hSw).2; have z0 := HZ.out _ hSw; have p1 := HPH.out _ hSw; go_simp; try with_reducible rfl)
     try simp only [Act.put, List.setIfInBounds_toArray, List.set_cons_zero, List.set_cons_succ]
     refine wpAnyH_take (i := 11) (oi := ({ dst := some 16, op := .nilCheck (.tmp 15), type := 0, pos := "visit.go:27", after := #[{ on := 10, ground := .data }, { on := 8, ground := .guard }], guard := some (8, true) } : Oper)) (v := ?_) rfl (by kernel_rfl) (by kernel_rfl) (by kernel_rfl) (fun _ _ _ h => h) (Or.inl ⟨by rfl, ?_⟩) (by assumption) ?_
     rotate_left 1
     ·(intro u hSw; go_simp; try with_reducible rfl)
     try simp only [Act.put, List.setIfInBounds_toArray, List.set_cons_zero, List.set_cons_succ]
     refine wpAnyH_take (i := 12) (oi := ({ dst := some 17, op := .fieldAddr 115 (.tmp 16) 0, type := 0, pos := "visit.go:27", after := #[{ on := 11, ground := .data }, { on := 8, ground := .guard }], guard := some (8, true) } : Oper)) (v := ?_) rfl (by kernel_rfl) (by kernel_rfl) (by kernel_rfl) (fun _ _ _ h => h) (Or.inl ⟨by rfl, ?_⟩) (by assumption) ?_
     rotate_left 1
     ·(intro u hSw; go_simp; try with_reducible rfl)
     try simp only [Act.put, List.setIfInBounds_toArray, List.set_cons_zero, List.set_cons_succ]
     refine wpAnyH_take (i := 13) (oi := ({ dst := some 18, op := .fieldAddr 66 (.tmp 17) 0, type := 0, pos := "visit.go:27", after := #[{ on := 12, ground := .data }, { on := 8, ground := .guard }], guard := some (8, true) } : Oper)) (v := ?_) rfl (by kernel_rfl) (by kernel_rfl) (by kernel_rfl) (fun _ _ _ h => h) (Or.inl ⟨by rfl, ?_⟩) (by assumption) ?_
     rotate_left 1
     ·(intro u hSw; go_simp; try with_reducible rfl)
     try simp only [Act.put, List.setIfInBounds_toArray, List.set_cons_zero, List.set_cons_succ]
     refine wpAnyH_take (i := 14) (oi := ({ dst := some 19, op := .fieldAddr 33 (.tmp 18) 0, type := 0, pos := "visit.go:27", after := #[{ on := 13, ground := .data }, { on := 8, ground := .guard }], guard := some (8, true) } : Oper)) (v := ?_) rfl (by kernel_rfl) (by kernel_rfl) (by kernel_rfl) (fun _ _ _ h => h) (Or.inl ⟨by rfl, ?_⟩) (by assumption) ?_
     rotate_left 1
     ·(intro u hSw; go_simp; try with_reducible rfl)
     try simp only [Act.put, List.setIfInBounds_toArray, List.set_cons_zero, List.set_cons_succ]
     refine wpAnyH_take (i := 15) (oi := ({ dst := some 20, op := .load 31 (.tmp 19), type := 31, pos := "visit.go:27", after := #[{ on := 14, ground := .data }, { on := 8, ground := .guard }], guard := some (8, true) } : Oper)) (v := ?_) rfl (by kernel_rfl) (by kernel_rfl) (by kernel_rfl) (fun _ _ _ h => h) (Or.inl ⟨by rfl, ?_⟩) (by assumption) ?_
     rotate_left 1
     ·(intro u hSw; have y0 := (HY.out _ hSw).1; have y1 := (HY.out _ hSw).2; have z0 := HZ.out _ hSw; have p1 := HPH.out _ hSw; go_simp; try with_reducible rfl)
     try simp only [Act.put, List.setIfInBounds_toArray, List.set_cons_zero, List.set_cons_succ]
     refine wpAnyH_take (i := 16) (oi := ({ dst := some 21, op := .fieldAddr 74 (.tmp 3) 0, type := 0, pos := "visit.go:27", after := #[{ on := 8, ground := .guard }], guard := some (8, true) } : Oper)) (v := ?_) rfl (by kernel_rfl) (by kernel_rfl) (by kernel_rfl) (fun _ _ _ h => h) (Or.inl ⟨by rfl, ?_⟩) (by assumption) ?_
     rotate_left 1
     ·(intro u hSw; go_simp; try with_reducible rfl)
     try simp only [Act.put, List.setIfInBounds_toArray, List.set_cons_zero, List.set_cons_succ]
     refine wpAnyH_take (i := 17) (oi := ({ dst := some 22, op := .load 31 (.tmp 21), type := 31, pos := "visit.go:27", after := #[{ on := 16, ground := .data }, { on := 8, ground := .guard }], guard := some (8, true) } : Oper)) (v := ?_) rfl (by kernel_rfl) (by kernel_rfl) (by kernel_rfl) (fun _ _ _ h => h) (Or.inl ⟨by rfl, ?_⟩) (by assumption) ?_
     rotate_left 1
     ·(intro u hSw; have y0 := (HY.out _ hSw).1; have y1 := (HY.out _ hSw).2; have z0 := HZ.out _ hSw; have p1 := HPH.out _ hSw; go_simp; try with_reducible rfl)
     try simp only [Act.put, List.setIfInBounds_toArray, List.set_cons_zero, List.set_cons_succ]
     refine wpAnyH_ready (rs := [18]) (by kernel_rfl) (by simp) ?_
     refine (AllReadyH.cons (o := ({ dst := some 23, op := .call { callee := Callee.value (Operand.func 56), args := #[.tmp 20, .tmp 22], argTypes := #[31, 31] }, type := 3, pos := "visit.go:28", after := #[{ on := 15, ground := .data }, { on := 17, ground := .data }, { on := 8, ground := .chain }, { on := 8, ground := .guard }], guard := some (8, true) } : Oper)) rfl (fun K hK => ?_) AllReadyH.nil)
     go_simp
     refine (HC.out _ hb3).mono ?_
     rintro d w18 ⟨rfl, hw18⟩
     have hb18 : Below w0.heap.size w0 w18 := (by rw [hw18]; exact hb3)
     clear hw18
     go_wp2_with fail
     refine hK.out _ _ hb18 (fun hHeld => ?_)
     clear hK K
     try simp only [Act.put, List.setIfInBounds_toArray, List.set_cons_zero, List.set_cons_succ]
     refine wpAnyH_take (i := 19) (oi := ({ dst := some 24, op := .binOp BinOp.leq 3 (.tmp 23) (.const (Value.int IntKind.i64 0)) 3, type := 4, pos := "visit.go:27", after := #[{ on := 18, ground := .data }, { on := 8, ground := .guard }], guard := some (8, true) } : Oper)) (v := .bool false) rfl (by kernel_rfl) (by kernel_rfl) (by kernel_rfl) (fun _ _ _ h => h) (Or.inl ⟨by rfl, ?_⟩) (by assumption) ?_
     ·intro u hSw
      (go_simp; first | done | omega | (rw [decide_eq_false HCM.out]) | (have := HCM.out; simp_all))
     try simp only [Act.put, List.setIfInBounds_toArray, List.set_cons_zero, List.set_cons_succ]
     refine wpAnyH_take (i := 20) (oi := ({ dst := some 25, op := .pick (.tmp 13) (.tmp 24) (.const (Value.bool false)), type := 4, pos := "visit.go:27", after := #[{ on := 8, ground := .data }, { on := 19, ground := .data }, { on := 4, ground := .guard }], guard := some (4, false) } : Oper)) (v := ?_) rfl (by kernel_rfl) (by kernel_rfl) (by kernel_rfl) (fun _ _ _ h => h) (Or.inl ⟨by rfl, ?_⟩) (by assumption) ?_
     rotate_left 1
     ·(intro u hSw; go_simp; try with_reducible rfl)
     try simp only [Act.put, List.setIfInBounds_toArray, List.set_cons_zero, List.set_cons_succ]
     refine wpAnyH_take (i := 21) (oi := ({ dst := some 26, op := .pick (.tmp 9) (.const (Value.bool true)) (.tmp 25), type := 4, pos := "visit.go:27", after := #[{ on := 4, ground := .data }, { on := 20, ground := .data }], guard := none } : Oper)) (v := ?_) rfl (by kernel_rfl) (by kernel_rfl) (by kernel_rfl) (fun _ _ _ h => h) (Or.inl ⟨by rfl, ?_⟩) (by assumption) ?_
     rotate_left 1
     ·(intro u hSw; go_simp; try with_reducible rfl)
     try simp only [Act.put, List.setIfInBounds_toArray, List.set_cons_zero, List.set_cons_succ]
     refine wpAnyH_take (i := 22) (oi := ({ dst := some 27, op := .move (.tmp 26), type := 4, pos := "visit.go:27", after := #[{ on := 21, ground := .data }, { on := 18, ground := .chain }], guard := none } : Oper)) (v := ?_) rfl (by kernel_rfl) (by kernel_rfl) (by kernel_rfl) (fun _ _ _ h => h) (Or.inl ⟨by rfl, ?_⟩) (by assumption) ?_
     rotate_left 1
     ·(intro u hSw; go_simp; try with_reducible rfl)
     try simp only [Act.put, List.setIfInBounds_toArray, List.set_cons_zero, List.set_cons_succ]
     refine wpAnyH_take (i := 23) (oi := ({ dst := some 28, op := .fieldAddr 142 (.tmp 2) 0, type := 0, pos := "visit.go:27", after := #[{ on := 22, ground := .guard }], guard := some (22, false) } : Oper)) (v := ?_) rfl (by kernel_rfl) (by kernel_rfl) (by kernel_rfl) (fun _ _ _ h => h) (Or.inl ⟨by rfl, ?_⟩) (by assumption) ?_
     rotate_left 1
     ·(intro u hSw; go_simp; try with_reducible rfl)
     try simp only [Act.put, List.setIfInBounds_toArray, List.set_cons_zero, List.set_cons_succ]
     refine wpAnyH_take (i := 24) (oi := ({ dst := some 29, op := .load 68 (.tmp 28), type := 68, pos := "visit.go:27", after := #[{ on := 23, ground := .data }, { on := 22, ground := .guard }], guard := some (22, false) } : Oper)) (v := ?_) rfl (by kernel_rfl) (by kernel_rfl) (by kernel_rfl) (fun _ _ _ h => h) (Or.inl ⟨by rfl, ?_⟩) (by assumption) ?_
     rotate_left 1
     ·(intro u hSw; have y0 := (HY.out _ hSw).1; have y1 := (HY.out _ hSw).2; have z0 := HZ.out _ hSw; have p1 := HPH.out _ hSw; go_simp; try with_reducible rfl)
     try simp only [Act.put, List.setIfInBounds_toArray, List.set_cons_zero, List.set_cons_succ]
     refine wpAnyH_take (i := 25) (oi := ({ dst := some 30, op := .binOp BinOp.neq 68 (.tmp 29) (.const (Value.pointer none)) 68, type := 4, pos := "visit.go:27", after := #[{ on := 24, ground := .data }, { on := 22, ground := .guard }], guard := some (22, false) } : Oper)) (v := ?_) rfl (by kernel_rfl) (by kernel_rfl) (by kernel_rfl) (fun _ _ _ h => h) (Or.inl ⟨by rfl, ?_⟩) (by assumption) ?_
     rotate_left 1
     ·(intro u hSw; go_simp; try with_reducible rfl)
     try simp only [Act.put, List.setIfInBounds_toArray, List.set_cons_zero, List.set_cons_succ]
     refine wpAnyH_take (i := 26) (oi := ({ dst := some 31, op := .move (.tmp 30), type := 4, pos := "visit.go:27", after := #[{ on := 25, ground := .data }, { on := 22, ground := .chain }, { on := 22, ground := .guard }], guard := some (22, false) } : Oper)) (v := ?_) rfl (by kernel_rfl) (by kernel_rfl) (by kernel_rfl) (fun _ _ _ h => h) (Or.inl ⟨by rfl, ?_⟩) (by assumption) ?_
     rotate_left 1
     ·(intro u hSw; go_simp; try with_reducible rfl)
     try simp only [Act.put, List.setIfInBounds_toArray, List.set_cons_zero, List.set_cons_succ]
     refine wpAnyH_take (i := 27) (oi := ({ dst := some 32, op := .load 74 (.tmp 3), type := 74, pos := "visit.go:27", after := #[{ on := 26, ground := .guard }], guard := some (26, true) } : Oper)) (v := undef) rfl (by kernel_rfl) (by kernel_rfl) (by kernel_rfl) (fun _ _ _ h => h) (by exact .inr ⟨by rfl, rfl⟩) (by assumption) ?_
     try simp only [Act.put, List.setIfInBounds_toArray, List.set_cons_zero, List.set_cons_succ]
     refine wpAnyH_take (i := 28) (oi := ({ dst := some 33, op := .fieldAddr 142 (.tmp 2) 0, type := 0, pos := "visit.go:27", after := #[{ on := 26, ground := .guard }], guard := some (26, true) } : Oper)) (v := undef) rfl (by kernel_rfl) (by kernel_rfl) (by kernel_rfl) (fun _ _ _ h => h) (by exact .inr ⟨by rfl, rfl⟩) (by assumption) ?_
     try simp only [Act.put, List.setIfInBounds_toArray, List.set_cons_zero, List.set_cons_succ]
     refine wpAnyH_take (i := 29) (oi := ({ dst := some 34, op := .load 68 (.tmp 33), type := 68, pos := "visit.go:27", after := #[{ on := 28, ground := .data }, { on := 26, ground := .guard }], guard := some (26, true) } : Oper)) (v := undef) rfl (by kernel_rfl) (by kernel_rfl) (by kernel_rfl) (fun _ _ _ h => h) (by exact .inr ⟨by rfl, rfl⟩) (by assumption) ?_
     try simp only [Act.put, List.setIfInBounds_toArray, List.set_cons_zero, List.set_cons_succ]
     refine wpAnyH_take (i := 30) (oi := ({ dst := some 35, op := .nilCheck (.tmp 34), type := 0, pos := "visit.go:27", after := #[{ on := 29, ground := .data }, { on := 26, ground := .guard }], guard := some (26, true) } : Oper)) (v := undef) rfl (by kernel_rfl) (by kernel_rfl) (by kernel_rfl) (fun _ _ _ h => h) (by exact .inr ⟨by rfl, rfl⟩) (by assumption) ?_
     try simp only [Act.put, List.setIfInBounds_toArray, List.set_cons_zero, List.set_cons_succ]
     refine wpAnyH_take (i := 31) (oi := ({ dst := some 36, op := .fieldAddr 115 (.tmp 35) 0, type := 0, pos := "visit.go:27", after := #[{ on := 30, ground := .data }, { on := 26, ground := .guard }], guard := some (26, true) } : Oper)) (v := undef) rfl (by kernel_rfl) (by kernel_rfl) (by kernel_rfl) (fun _ _ _ h => h) (by exact .inr ⟨by rfl, rfl⟩) (by assumption) ?_
     try simp only [Act.put, List.setIfInBounds_toArray, List.set_cons_zero, List.set_cons_succ]
     refine wpAnyH_take (i := 32) (oi := ({ dst := some 37, op := .fieldAddr 66 (.tmp 36) 0, type := 0, pos := "visit.go:27", after := #[{ on := 31, ground := .data }, { on := 26, ground := .guard }], guard := some (26, true) } : Oper)) (v := undef) rfl (by kernel_rfl) (by kernel_rfl) (by kernel_rfl) (fun _ _ _ h => h) (by exact .inr ⟨by rfl, rfl⟩) (by assumption) ?_
     try simp only [Act.put, List.setIfInBounds_toArray, List.set_cons_zero, List.set_cons_succ]
     refine wpAnyH_take (i := 33) (oi := ({ dst := some 38, op := .fieldAddr 33 (.tmp 37) 0, type := 0, pos := "visit.go:27", after := #[{ on := 32, ground := .data }, { on := 26, ground := .guard }], guard := some (26, true) } : Oper)) (v := undef) rfl (by kernel_rfl) (by kernel_rfl) (by kernel_rfl) (fun _ _ _ h => h) (by exact .inr ⟨by rfl, rfl⟩) (by assumption) ?_
     try simp only [Act.put, List.setIfInBounds_toArray, List.set_cons_zero, List.set_cons_succ]
     refine wpAnyH_take (i := 34) (oi := ({ dst := some 39, op := .load 31 (.tmp 38), type := 31, pos := "visit.go:27", after := #[{ on := 33, ground := .data }, { on := 26, ground := .guard }], guard := some (26, true) } : Oper)) (v := undef) rfl (by kernel_rfl) (by kernel_rfl) (by kernel_rfl) (fun _ _ _ h => h) (by exact .inr ⟨by rfl, rfl⟩) (by assumption) ?_
     try simp only [Act.put, List.setIfInBounds_toArray, List.set_cons_zero, List.set_cons_succ]
     refine wpAnyH_take (i := 35) (oi := ({ dst := some 40, op := .call { callee := Callee.value (Operand.func 94), args := #[.tmp 32, .tmp 39], argTypes := #[74, 31] }, type := 4, pos := "visit.go:29", after := #[{ on := 27, ground := .data }, { on := 34, ground := .data }, { on := 26, ground := .chain }, { on := 26, ground := .guard }], guard := some (26, true) } : Oper)) (v := undef) rfl (by kernel_rfl) (by kernel_rfl) (by kernel_rfl) (fun _ _ _ h => h) (by exact .inr ⟨by rfl, rfl⟩) (by assumption) ?_
     try simp only [Act.put, List.setIfInBounds_toArray, List.set_cons_zero, List.set_cons_succ]
     refine wpAnyH_take (i := 36) (oi := ({ dst := some 41, op := .pick (.tmp 31) (.tmp 40) (.const (Value.bool false)), type := 4, pos := "visit.go:27", after := #[{ on := 26, ground := .data }, { on := 35, ground := .data }, { on := 22, ground := .guard }], guard := some (22, false) } : Oper)) (v := ?_) rfl (by kernel_rfl) (by kernel_rfl) (by kernel_rfl) (fun _ _ _ h => h) (Or.inl ⟨by rfl, ?_⟩) (by assumption) ?_
     rotate_left 1
     ·(intro u hSw; go_simp; try with_reducible rfl)
     try simp only [Act.put, List.setIfInBounds_toArray, List.set_cons_zero, List.set_cons_succ]
     refine wpAnyH_take (i := 37) (oi := ({ dst := some 42, op := .pick (.tmp 27) (.const (Value.bool true)) (.tmp 41), type := 4, pos := "visit.go:27", after := #[{ on := 22, ground := .data }, { on := 36, ground := .data }], guard := none } : Oper)) (v := ?_) rfl (by kernel_rfl) (by kernel_rfl) (by kernel_rfl) (fun _ _ _ h => h) (Or.inl ⟨by rfl, ?_⟩) (by assumption) ?_
     rotate_left 1
     ·(intro u hSw; go_simp; try with_reducible rfl)
     try simp only [Act.put, List.setIfInBounds_toArray, List.set_cons_zero, List.set_cons_succ]
     refine wpAnyH_take (i := 38) (oi := ({ dst := some 4, op := .assign (.tmp 42), type := 4, pos := "visit.go:27", after := #[{ on := 37, ground := .data }, { on := 35, ground := .chain }, { on := 0, ground := .phase }, { on := 1, ground := .phase }, { on := 2, ground := .phase }, { on := 3, ground := .phase }, { on := 4, ground := .phase }, { on := 5, ground := .phase }, { on := 6, ground := .phase }, { on := 7, ground := .phase }, { on := 8, ground := .phase }, { on := 9, ground := .phase }, { on := 10, ground := .phase }, { on := 11, ground := .phase }, { on := 12, ground := .phase }, { on := 13, ground := .phase }, { on := 14, ground := .phase }, { on := 15, ground := .phase }, { on := 16, ground := .phase }, { on := 17, ground := .phase }, { on := 18, ground := .phase }, { on := 19, ground := .phase }, { on := 20, ground := .phase }, { on := 21, ground := .phase }, { on := 22, ground := .phase }, { on := 23, ground := .phase }, { on := 24, ground := .phase }, { on := 25, ground := .phase }, { on := 26, ground := .phase }, { on := 27, ground := .phase }, { on := 28, ground := .phase }, { on := 29, ground := .phase }, { on := 30, ground := .phase }, { on := 31, ground := .phase }, { on := 32, ground := .phase }, { on := 33, ground := .phase }, { on := 34, ground := .phase }, { on := 35, ground := .phase }, { on := 36, ground := .phase }, { on := 37, ground := .phase }], guard := none } : Oper)) (v := ?_) rfl (by kernel_rfl) (by kernel_rfl) (by kernel_rfl) (fun _ _ _ h => h) (Or.inl ⟨by rfl, ?_⟩) (by assumption) ?_
     rotate_left 1
     ·(intro u hSw; go_simp; try with_reducible rfl)
     try simp only [Act.put, List.setIfInBounds_toArray, List.set_cons_zero, List.set_cons_succ]
     refine wpAnyH_done (by kernel_rfl) ?_ _
     have HBE := Lib.hid (HB0.out.trans (hb18.mono HB0.out.size))
     go_wp2_with fail
     go_ret
     rw [HR.out]
     exact ⟨rfl, HBE.out⟩
    | some lk =>
     obtain ⟨bl, al, cl, rfl, hpl, he2⟩ := HLO lk rfl
     replace HR : Hid (R = endsQ to e lk) := HR
     have HPL := Lib.hid hpl
     have HE2 := Lib.hid he2
     generalize hgen : endsQ to e lk = q2 at *
     clear hbb gf gt hlo2 hhi2 hf0 ht0 HLO hpl he2 hgen
     cases q2 with
     | true =>
      go_enter Tryd.func85, Tryd.ntmps85
      go_wp2_with fail
      generalize ((w.alloc (.cells #[.pointer (some ⟨bl, 0, none⟩), .pointer (some ⟨bh, 0, none⟩)] 142)).alloc (.cells #[.slice af fr.length cf, .slice at2 to.length ct, .bool e] 74)) = w0 at *
      have hb0 := (Below.refl w0.heap.size w0).drew
      refine wp_region_held_drew (S := fun u => Below w0.heap.size w0 u) (by kernel_rfl) (hb0) (fun hHeld => ?_)
      refine wpAnyH_take (i := 0) (oi := ({ dst := some 5, op := .load 74 (.tmp 3), type := 74, pos := "visit.go:27", after := #[], guard := none } : Oper)) (v := .agg #[.slice af fr.length cf, .slice at2 to.length ct, .bool e]) rfl (by kernel_rfl) (by kernel_rfl) (by kernel_rfl) (fun _ _ _ h => h) (Or.inl ⟨by rfl, ?_⟩) (by assumption) ?_
      ·intro u hSw
       exact exec_load_mid 74 (Operand.tmp 3) rfl (w.heap.size + 1) 0 rfl _ _ (HSP.out _ hSw) Tryd.underlying74 rfl (by kernel_rfl)
      try simp only [Act.put, List.setIfInBounds_toArray, List.set_cons_zero, List.set_cons_succ]
      refine wpAnyH_take (i := 1) (oi := ({ dst := some 6, op := .fieldAddr 74 (.tmp 3) 0, type := 0, pos := "visit.go:27", after := #[], guard := none } : Oper)) (v := ?_) rfl (by kernel_rfl) (by kernel_rfl) (by kernel_rfl) (fun _ _ _ h => h) (Or.inl ⟨by rfl, ?_⟩) (by assumption) ?_
      rotate_left 1
      ·(intro u hSw; go_simp; try with_reducible rfl)
      try simp only [Act.put, List.setIfInBounds_toArray, List.set_cons_zero, List.set_cons_succ]
      refine wpAnyH_take (i := 2) (oi := ({ dst := some 7, op := .load 31 (.tmp 6), type := 31, pos := "visit.go:27", after := #[{ on := 1, ground := .data }], guard := none } : Oper)) (v := ?_) rfl (by kernel_rfl) (by kernel_rfl) (by kernel_rfl) (fun _ _ _ h => h) (Or.inl ⟨by rfl, ?_⟩) (by assumption) ?_
      rotate_left 1
      ·(intro u hSw; have y0 := (HY.out _ hSw).1; have y1 := (HY.out _ hSw).2; have z0 := HZ.out _ hSw; have p1 := HPH.out _ hSw; have p0 := HPL.out _ hSw; go_simp; try with_reducible rfl)
      try simp only [Act.put, List.setIfInBounds_toArray, List.set_cons_zero, List.set_cons_succ]
      refine wpAnyH_ready (rs := [3]) (by kernel_rfl) (by simp) ?_
      refine (AllReadyH.cons (o := ({ dst := some 8, op := .call { callee := Callee.value (Operand.func 94), args := #[.tmp 5, .tmp 7], argTypes := #[74, 31] }, type := 4, pos := "visit.go:27", after := #[{ on := 0, ground := .data }, { on := 2, ground := .data }], guard := none } : Oper)) rfl (fun K hK => ?_) AllReadyH.nil)
      go_simp
      refine (HE0.out _ hb0).mono ?_
      rintro d w3 ⟨rfl, hw3⟩
      have hb3 : Below w0.heap.size w0 w3 := hb0.trans (hw3.mono hb0.size)
      clear hw3
      go_wp2_with fail
      refine hK.out _ _ hb3 (fun hHeld => ?_)
      clear hK K
      try simp only [Act.put, List.setIfInBounds_toArray, List.set_cons_zero, List.set_cons_succ]
      refine wpAnyH_take (i := 4) (oi := ({ dst := some 9, op := .move (.tmp 8), type := 4, pos := "visit.go:27", after := #[{ on := 3, ground := .data }, { on := 3, ground := .chain }], guard := none } : Oper)) (v := ?_) rfl (by kernel_rfl) (by kernel_rfl) (by kernel_rfl) (fun _ _ _ h => h) (Or.inl ⟨by rfl, ?_⟩) (by assumption) ?_
      rotate_left 1
      ·(intro u hSw; go_simp; try with_reducible rfl)
      try simp only [Act.put, List.setIfInBounds_toArray, List.set_cons_zero, List.set_cons_succ]
      refine wpAnyH_take (i := 5) (oi := ({ dst := some 10, op := .fieldAddr 142 (.tmp 2) 1, type := 0, pos := "visit.go:27", after := #[{ on := 4, ground := .guard }], guard := some (4, false) } : Oper)) (v := ?_) rfl (by kernel_rfl) (by kernel_rfl) (by kernel_rfl) (fun _ _ _ h => h) (Or.inl ⟨by rfl, ?_⟩) (by assumption) ?_
      rotate_left 1
      ·(intro u hSw; go_simp; try with_reducible rfl)
      try simp only [Act.put, List.setIfInBounds_toArray, List.set_cons_zero, List.set_cons_succ]
      refine wpAnyH_take (i := 6) (oi := ({ dst := some 11, op := .load 68 (.tmp 10), type := 68, pos := "visit.go:27", after := #[{ on := 5, ground := .data }, { on := 4, ground := .guard }], guard := some (4, false) } : Oper)) (v := ?_) rfl (by kernel_rfl) (by kernel_rfl) (by kernel_rfl) (fun _ _ _ h => h) (Or.inl ⟨by rfl, ?_⟩) (by assumption) ?_
      rotate_left 1
      ·(intro u hSw; have y0 := (HY.out _ hSw).1; have y1 := (HY.out _ hSw).2; have z0 := HZ.out _ hSw; have p1 := HPH.out _ hSw; have p0 := HPL.out _ hSw; go_simp; try with_reducible rfl)
      try simp only [Act.put, List.setIfInBounds_toArray, List.set_cons_zero, List.set_cons_succ]
      refine wpAnyH_take (i := 7) (oi := ({ dst := some 12, op := .binOp BinOp.neq 68 (.tmp 11) (.const (Value.pointer none)) 68, type := 4, pos := "visit.go:27", after := #[{ on := 6, ground := .data }, { on := 4, ground := .guard }], guard := some (4, false) } : Oper)) (v := ?_) rfl (by kernel_rfl) (by kernel_rfl) (by kernel_rfl) (fun _ _ _ h => h) (Or.inl ⟨by rfl, ?_⟩) (by assumption) ?_
      rotate_left 1
      ·(intro u hSw; go_simp; try with_reducible rfl)
      try simp only [Act.put, List.setIfInBounds_toArray, List.set_cons_zero, List.set_cons_succ]
      refine wpAnyH_take (i := 8) (oi := ({ dst := some 13, op := .move (.tmp 12), type := 4, pos := "visit.go:27", after := #[{ on := 7, ground := .data }, { on := 4, ground := .chain }, { on := 4, ground := .guard }], guard := some (4, false) } : Oper)) (v := ?_) rfl (by kernel_rfl) (by kernel_rfl) (by kernel_rfl) (fun _ _ _ h => h) (Or.inl ⟨by rfl, ?_⟩) (by assumption) ?_
      rotate_left 1
      ·(intro u hSw; go_simp; try with_reducible rfl)
      try simp only [Act.put, List.setIfInBounds_toArray, List.set_cons_zero, List.set_cons_succ]
      refine wpAnyH_take (i := 9) (oi := ({ dst := some 14, op := .fieldAddr 142 (.tmp 2) 1, type := 0, pos := "visit.go:27", after := #[{ on := 8, ground := .guard }], guard := some (8, true) } : Oper)) (v := ?_) rfl (by kernel_rfl) (by kernel_rfl) (by kernel_rfl) (fun _ _ _ h => h) (Or.inl ⟨by rfl, ?_⟩) (by assumption) ?_
      rotate_left 1
      ·(intro u hSw; go_simp; try with_reducible rfl)
      try simp only [Act.put, List.setIfInBounds_toArray, List.set_cons_zero, List.set_cons_succ]
      refine wpAnyH_take (i := 10) (oi := ({ dst := some 15, op := .load 68 (.tmp 14), type := 68, pos := "visit.go:27", after := #[{ on := 9, ground := .data }, { on := 8, ground := .guard }], guard := some (8, true) } : Oper)) (v := ?_) rfl (by kernel_rfl) (by kernel_rfl) (by kernel_rfl) (fun _ _ _ h => h) (Or.inl ⟨by rfl, ?_⟩) (by assumption) ?_
      rotate_left 1
      ·(intro u hSw; have y0 := (HY.out _ hSw).1; have y1 := (HY.out _ hSw).2; have z0 := HZ.out _ hSw; have p1 := HPH.out _ hSw; have p0 := HPL.out _ hSw; go_simp; try with_reducible rfl)
      try simp only [Act.put, List.setIfInBounds_toArray, List.set_cons_zero, List.set_cons_succ]
      refine wpAnyH_take (i := 11) (oi := ({ dst := some 16, op := .nilCheck (.tmp 15), type := 0, pos := "visit.go:27", after := #[{ on := 10, ground := .data }, { on := 8, ground := .guard }], guard := some (8, true) } : Oper)) (v := ?_) rfl (by kernel_rfl) (by kernel_rfl) (by kernel_rfl) (fun _ _ _ h => h) (Or.inl ⟨by rfl, ?_⟩) (by assumption) ?_
      rotate_left 1
      ·(intro u hSw; go_simp; try with_reducible rfl)
      try simp only [Act.put, List.setIfInBounds_toArray, List.set_cons_zero, List.set_cons_succ]
      refine wpAnyH_take (i := 12) (oi := ({ dst := some 17, op := .fieldAddr 115 (.tmp 16) 0, type := 0, pos := "visit.go:27", after := #[{ on := 11, ground := .data }, { on := 8, ground := .guard }], guard := some (8, true) } : Oper)) (v := ?_) rfl (by kernel_rfl) (by kernel_rfl) (by kernel_rfl) (fun _ _ _ h => h) (Or.inl ⟨by rfl, ?_⟩) (by assumption) ?_
      rotate_left 1
      ·(intro u hSw; go_simp; try with_reducible rfl)
      try simp only [Act.put, List.setIfInBounds_toArray, List.set_cons_zero, List.set_cons_succ]
      refine wpAnyH_take (i := 13) (oi := ({ dst := some 18, op := .fieldAddr 66 (.tmp 17) 0, type := 0, pos := "visit.go:27", after := #[{ on := 12, ground := .data }, { on := 8, ground := .guard }], guard := some (8, true) } : Oper)) (v := ?_) rfl (by kernel_rfl) (by kernel_rfl) (by kernel_rfl) (fun _ _ _ h => h) (Or.inl ⟨by rfl, ?_⟩) (by assumption) ?_
      rotate_left 1
      ·(intro u hSw; go_simp; try with_reducible rfl)
      try simp only [Act.put, List.setIfInBounds_toArray, List.set_cons_zero, List.set_cons_succ]
      refine wpAnyH_take (i := 14) (oi := ({ dst := some 19, op := .fieldAddr 33 (.tmp 18) 0, type := 0, pos := "visit.go:27", after := #[{ on := 13, ground := .data }, { on := 8, ground := .guard }], guard := some (8, true) } : Oper)) (v := ?_) rfl (by kernel_rfl) (by kernel_rfl) (by kernel_rfl) (fun _ _ _ h => h) (Or.inl ⟨by rfl, ?_⟩) (by assumption) ?_
      rotate_left 1
      ·(intro u hSw; go_simp; try with_reducible rfl)
      try simp only [Act.put, List.setIfInBounds_toArray, List.set_cons_zero, List.set_cons_succ]
      refine wpAnyH_take (i := 15) (oi := ({ dst := some 20, op := .load 31 (.tmp 19), type := 31, pos := "visit.go:27", after := #[{ on := 14, ground := .data }, { on := 8, ground := .guard }], guard := some (8, true) } : Oper)) (v := ?_) rfl (by kernel_rfl) (by kernel_rfl) (by kernel_rfl) (fun _ _ _ h => h) (Or.inl ⟨by rfl, ?_⟩) (by assumption) ?_
      rotate_left 1
      ·(intro u hSw; have y0 := (HY.out _ hSw).1; have y1 := (HY.out _ hSw).2; have z0 := HZ.out _ hSw; have p1 := HPH.out _ hSw; have p0 := HPL.out _ hSw; go_simp; try with_reducible rfl)
      try simp only [Act.put, List.setIfInBounds_toArray, List.set_cons_zero, List.set_cons_succ]
      refine wpAnyH_take (i := 16) (oi := ({ dst := some 21, op := .fieldAddr 74 (.tmp 3) 0, type := 0, pos := "visit.go:27", after := #[{ on := 8, ground := .guard }], guard := some (8, true) } : Oper)) (v := ?_) rfl (by kernel_rfl) (by kernel_rfl) (by kernel_rfl) (fun _ _ _ h => h) (Or.inl ⟨by rfl, ?_⟩) (by assumption) ?_
      rotate_left 1
      ·(intro u hSw; go_simp; try with_reducible rfl)
      try simp only [Act.put, List.setIfInBounds_toArray, List.set_cons_zero, List.set_cons_succ]
      refine wpAnyH_take (i := 17) (oi := ({ dst := some 22, op := .load 31 (.tmp 21), type := 31, pos := "visit.go:27", after := #[{ on := 16, ground := .data }, { on := 8, ground := .guard }], guard := some (8, true) } : Oper)) (v := ?_) rfl (by kernel_rfl) (by kernel_rfl) (by kernel_rfl) (fun _ _ _ h => h) (Or.inl ⟨by rfl, ?_⟩) (by assumption) ?_
      rotate_left 1
      ·(intro u hSw; have y0 := (HY.out _ hSw).1; have y1 := (HY.out _ hSw).2; have z0 := HZ.out _ hSw; have p1 := HPH.out _ hSw; have p0 := HPL.out _ hSw; go_simp; try with_reducible rfl)
      try simp only [Act.put, List.setIfInBounds_toArray, List.set_cons_zero, List.set_cons_succ]
      refine wpAnyH_ready (rs := [18]) (by kernel_rfl) (by simp) ?_
      refine (AllReadyH.cons (o := ({ dst := some 23, op := .call { callee := Callee.value (Operand.func 56), args := #[.tmp 20, .tmp 22], argTypes := #[31, 31] }, type := 3, pos := "visit.go:28", after := #[{ on := 15, ground := .data }, { on := 17, ground := .data }, { on := 8, ground := .chain }, { on := 8, ground := .guard }], guard := some (8, true) } : Oper)) rfl (fun K hK => ?_) AllReadyH.nil)
      go_simp
      refine (HC.out _ hb3).mono ?_
      rintro d w18 ⟨rfl, hw18⟩
      have hb18 : Below w0.heap.size w0 w18 := (by rw [hw18]; exact hb3)
      clear hw18
      go_wp2_with fail
      refine hK.out _ _ hb18 (fun hHeld => ?_)
      clear hK K
      try simp only [Act.put, List.setIfInBounds_toArray, List.set_cons_zero, List.set_cons_succ]
      refine wpAnyH_take (i := 19) (oi := ({ dst := some 24, op := .binOp BinOp.leq 3 (.tmp 23) (.const (Value.int IntKind.i64 0)) 3, type := 4, pos := "visit.go:27", after := #[{ on := 18, ground := .data }, { on := 8, ground := .guard }], guard := some (8, true) } : Oper)) (v := .bool false) rfl (by kernel_rfl) (by kernel_rfl) (by kernel_rfl) (fun _ _ _ h => h) (Or.inl ⟨by rfl, ?_⟩) (by assumption) ?_
      ·intro u hSw
       (go_simp; first | done | omega | (rw [decide_eq_false HCM.out]) | (have := HCM.out; simp_all))
      try simp only [Act.put, List.setIfInBounds_toArray, List.set_cons_zero, List.set_cons_succ]
      refine wpAnyH_take (i := 20) (oi := ({ dst := some 25, op := .pick (.tmp 13) (.tmp 24) (.const (Value.bool false)), type := 4, pos := "visit.go:27", after := #[{ on := 8, ground := .data }, { on := 19, ground := .data }, { on := 4, ground := .guard }], guard := some (4, false) } : Oper)) (v := ?_) rfl (by kernel_rfl) (by kernel_rfl) (by kernel_rfl) (fun _ _ _ h => h) (Or.inl ⟨by rfl, ?_⟩) (by assumption) ?_
      rotate_left 1
      ·(intro u hSw; go_simp; try with_reducible rfl)
      try simp only [Act.put, List.setIfInBounds_toArray, List.set_cons_zero, List.set_cons_succ]
      refine wpAnyH_take (i := 21) (oi := ({ dst := some 26, op := .pick (.tmp 9) (.const (Value.bool true)) (.tmp 25), type := 4, pos := "visit.go:27", after := #[{ on := 4, ground := .data }, { on := 20, ground := .data }], guard := none } : Oper)) (v := ?_) rfl (by kernel_rfl) (by kernel_rfl) (by kernel_rfl) (fun _ _ _ h => h) (Or.inl ⟨by rfl, ?_⟩) (by assumption) ?_
      rotate_left 1
      ·(intro u hSw; go_simp; try with_reducible rfl)
      try simp only [Act.put, List.setIfInBounds_toArray, List.set_cons_zero, List.set_cons_succ]
      refine wpAnyH_take (i := 22) (oi := ({ dst := some 27, op := .move (.tmp 26), type := 4, pos := "visit.go:27", after := #[{ on := 21, ground := .data }, { on := 18, ground := .chain }], guard := none } : Oper)) (v := ?_) rfl (by kernel_rfl) (by kernel_rfl) (by kernel_rfl) (fun _ _ _ h => h) (Or.inl ⟨by rfl, ?_⟩) (by assumption) ?_
      rotate_left 1
      ·(intro u hSw; go_simp; try with_reducible rfl)
      try simp only [Act.put, List.setIfInBounds_toArray, List.set_cons_zero, List.set_cons_succ]
      refine wpAnyH_take (i := 23) (oi := ({ dst := some 28, op := .fieldAddr 142 (.tmp 2) 0, type := 0, pos := "visit.go:27", after := #[{ on := 22, ground := .guard }], guard := some (22, false) } : Oper)) (v := ?_) rfl (by kernel_rfl) (by kernel_rfl) (by kernel_rfl) (fun _ _ _ h => h) (Or.inl ⟨by rfl, ?_⟩) (by assumption) ?_
      rotate_left 1
      ·(intro u hSw; go_simp; try with_reducible rfl)
      try simp only [Act.put, List.setIfInBounds_toArray, List.set_cons_zero, List.set_cons_succ]
      refine wpAnyH_take (i := 24) (oi := ({ dst := some 29, op := .load 68 (.tmp 28), type := 68, pos := "visit.go:27", after := #[{ on := 23, ground := .data }, { on := 22, ground := .guard }], guard := some (22, false) } : Oper)) (v := ?_) rfl (by kernel_rfl) (by kernel_rfl) (by kernel_rfl) (fun _ _ _ h => h) (Or.inl ⟨by rfl, ?_⟩) (by assumption) ?_
      rotate_left 1
      ·(intro u hSw; have y0 := (HY.out _ hSw).1; have y1 := (HY.out _ hSw).2; have z0 := HZ.out _ hSw; have p1 := HPH.out _ hSw; have p0 := HPL.out _ hSw; go_simp; try with_reducible rfl)
      try simp only [Act.put, List.setIfInBounds_toArray, List.set_cons_zero, List.set_cons_succ]
      refine wpAnyH_take (i := 25) (oi := ({ dst := some 30, op := .binOp BinOp.neq 68 (.tmp 29) (.const (Value.pointer none)) 68, type := 4, pos := "visit.go:27", after := #[{ on := 24, ground := .data }, { on := 22, ground := .guard }], guard := some (22, false) } : Oper)) (v := ?_) rfl (by kernel_rfl) (by kernel_rfl) (by kernel_rfl) (fun _ _ _ h => h) (Or.inl ⟨by rfl, ?_⟩) (by assumption) ?_
      rotate_left 1
      ·(intro u hSw; go_simp; try with_reducible rfl)
      try simp only [Act.put, List.setIfInBounds_toArray, List.set_cons_zero, List.set_cons_succ]
      refine wpAnyH_take (i := 26) (oi := ({ dst := some 31, op := .move (.tmp 30), type := 4, pos := "visit.go:27", after := #[{ on := 25, ground := .data }, { on := 22, ground := .chain }, { on := 22, ground := .guard }], guard := some (22, false) } : Oper)) (v := ?_) rfl (by kernel_rfl) (by kernel_rfl) (by kernel_rfl) (fun _ _ _ h => h) (Or.inl ⟨by rfl, ?_⟩) (by assumption) ?_
      rotate_left 1
      ·(intro u hSw; go_simp; try with_reducible rfl)
      try simp only [Act.put, List.setIfInBounds_toArray, List.set_cons_zero, List.set_cons_succ]
      refine wpAnyH_take (i := 27) (oi := ({ dst := some 32, op := .load 74 (.tmp 3), type := 74, pos := "visit.go:27", after := #[{ on := 26, ground := .guard }], guard := some (26, true) } : Oper)) (v := .agg #[.slice af fr.length cf, .slice at2 to.length ct, .bool e]) rfl (by kernel_rfl) (by kernel_rfl) (by kernel_rfl) (fun _ _ _ h => h) (Or.inl ⟨by rfl, ?_⟩) (by assumption) ?_
      ·intro u hSw
       exact exec_load_mid 74 (Operand.tmp 3) rfl (w.heap.size + 1) 0 rfl _ _ (HSP.out _ hSw) Tryd.underlying74 rfl (by kernel_rfl)
      try simp only [Act.put, List.setIfInBounds_toArray, List.set_cons_zero, List.set_cons_succ]
      refine wpAnyH_take (i := 28) (oi := ({ dst := some 33, op := .fieldAddr 142 (.tmp 2) 0, type := 0, pos := "visit.go:27", after := #[{ on := 26, ground := .guard }], guard := some (26, true) } : Oper)) (v := ?_) rfl (by kernel_rfl) (by kernel_rfl) (by kernel_rfl) (fun _ _ _ h => h) (Or.inl ⟨by rfl, ?_⟩) (by assumption) ?_
      rotate_left 1
      ·(intro u hSw; go_simp; try with_reducible rfl)
      try simp only [Act.put, List.setIfInBounds_toArray, List.set_cons_zero, List.set_cons_succ]
      refine wpAnyH_take (i := 29) (oi := ({ dst := some 34, op := .load 68 (.tmp 33), type := 68, pos := "visit.go:27", after := #[{ on := 28, ground := .data }, { on := 26, ground := .guard }], guard := some (26, true) } : Oper)) (v := ?_) rfl (by kernel_rfl) (by kernel_rfl) (by kernel_rfl) (fun _ _ _ h => h) (Or.inl ⟨by rfl, ?_⟩) (by assumption) ?_
      rotate_left 1
      ·(intro u hSw; have y0 := (HY.out _ hSw).1; have y1 := (HY.out _ hSw).2; have z0 := HZ.out _ hSw; have p1 := HPH.out _ hSw; have p0 := HPL.out _ hSw; go_simp; try with_reducible rfl)
      try simp only [Act.put, List.setIfInBounds_toArray, List.set_cons_zero, List.set_cons_succ]
      refine wpAnyH_take (i := 30) (oi := ({ dst := some 35, op := .nilCheck (.tmp 34), type := 0, pos := "visit.go:27", after := #[{ on := 29, ground := .data }, { on := 26, ground := .guard }], guard := some (26, true) } : Oper)) (v := ?_) rfl (by kernel_rfl) (by kernel_rfl) (by kernel_rfl) (fun _ _ _ h => h) (Or.inl ⟨by rfl, ?_⟩) (by assumption) ?_
      rotate_left 1
      ·(intro u hSw; go_simp; try with_reducible rfl)
      try simp only [Act.put, List.setIfInBounds_toArray, List.set_cons_zero, List.set_cons_succ]
      refine wpAnyH_take (i := 31) (oi := ({ dst := some 36, op := .fieldAddr 115 (.tmp 35) 0, type := 0, pos := "visit.go:27", after := #[{ on := 30, ground := .data }, { on := 26, ground := .guard }], guard := some (26, true) } : Oper)) (v := ?_) rfl (by kernel_rfl) (by kernel_rfl) (by kernel_rfl) (fun _ _ _ h => h) (Or.inl ⟨by rfl, ?_⟩) (by assumption) ?_
      rotate_left 1
      ·(intro u hSw; go_simp; try with_reducible rfl)
      try simp only [Act.put, List.setIfInBounds_toArray, List.set_cons_zero, List.set_cons_succ]
      refine wpAnyH_take (i := 32) (oi := ({ dst := some 37, op := .fieldAddr 66 (.tmp 36) 0, type := 0, pos := "visit.go:27", after := #[{ on := 31, ground := .data }, { on := 26, ground := .guard }], guard := some (26, true) } : Oper)) (v := ?_) rfl (by kernel_rfl) (by kernel_rfl) (by kernel_rfl) (fun _ _ _ h => h) (Or.inl ⟨by rfl, ?_⟩) (by assumption) ?_
      rotate_left 1
      ·(intro u hSw; go_simp; try with_reducible rfl)
      try simp only [Act.put, List.setIfInBounds_toArray, List.set_cons_zero, List.set_cons_succ]
      refine wpAnyH_take (i := 33) (oi := ({ dst := some 38, op := .fieldAddr 33 (.tmp 37) 0, type := 0, pos := "visit.go:27", after := #[{ on := 32, ground := .data }, { on := 26, ground := .guard }], guard := some (26, true) } : Oper)) (v := ?_) rfl (by kernel_rfl) (by kernel_rfl) (by kernel_rfl) (fun _ _ _ h => h) (Or.inl ⟨by rfl, ?_⟩) (by assumption) ?_
      rotate_left 1
      ·(intro u hSw; go_simp; try with_reducible rfl)
      try simp only [Act.put, List.setIfInBounds_toArray, List.set_cons_zero, List.set_cons_succ]
      refine wpAnyH_take (i := 34) (oi := ({ dst := some 39, op := .load 31 (.tmp 38), type := 31, pos := "visit.go:27", after := #[{ on := 33, ground := .data }, { on := 26, ground := .guard }], guard := some (26, true) } : Oper)) (v := ?_) rfl (by kernel_rfl) (by kernel_rfl) (by kernel_rfl) (fun _ _ _ h => h) (Or.inl ⟨by rfl, ?_⟩) (by assumption) ?_
      rotate_left 1
      ·(intro u hSw; have y0 := (HY.out _ hSw).1; have y1 := (HY.out _ hSw).2; have z0 := HZ.out _ hSw; have p1 := HPH.out _ hSw; have p0 := HPL.out _ hSw; go_simp; try with_reducible rfl)
      try simp only [Act.put, List.setIfInBounds_toArray, List.set_cons_zero, List.set_cons_succ]
      refine wpAnyH_ready (rs := [35]) (by kernel_rfl) (by simp) ?_
      refine (AllReadyH.cons (o := ({ dst := some 40, op := .call { callee := Callee.value (Operand.func 94), args := #[.tmp 32, .tmp 39], argTypes := #[74, 31] }, type := 4, pos := "visit.go:29", after := #[{ on := 27, ground := .data }, { on := 34, ground := .data }, { on := 26, ground := .chain }, { on := 26, ground := .guard }], guard := some (26, true) } : Oper)) rfl (fun K hK => ?_) AllReadyH.nil)
      go_simp
      refine (HE2.out _ hb18).mono ?_
      rintro d w35 ⟨rfl, hw35⟩
      have hb35 : Below w0.heap.size w0 w35 := hb18.trans (hw35.mono hb18.size)
      clear hw35
      go_wp2_with fail
      refine hK.out _ _ hb35 (fun hHeld => ?_)
      clear hK K
      try simp only [Act.put, List.setIfInBounds_toArray, List.set_cons_zero, List.set_cons_succ]
      refine wpAnyH_take (i := 36) (oi := ({ dst := some 41, op := .pick (.tmp 31) (.tmp 40) (.const (Value.bool false)), type := 4, pos := "visit.go:27", after := #[{ on := 26, ground := .data }, { on := 35, ground := .data }, { on := 22, ground := .guard }], guard := some (22, false) } : Oper)) (v := ?_) rfl (by kernel_rfl) (by kernel_rfl) (by kernel_rfl) (fun _ _ _ h => h) (Or.inl ⟨by rfl, ?_⟩) (by assumption) ?_
      rotate_left 1
      ·(intro u hSw; go_simp; try with_reducible rfl)
      try simp only [Act.put, List.setIfInBounds_toArray, List.set_cons_zero, List.set_cons_succ]
      refine wpAnyH_take (i := 37) (oi := ({ dst := some 42, op := .pick (.tmp 27) (.const (Value.bool true)) (.tmp 41), type := 4, pos := "visit.go:27", after := #[{ on := 22, ground := .data }, { on := 36, ground := .data }], guard := none } : Oper)) (v := ?_) rfl (by kernel_rfl) (by kernel_rfl) (by kernel_rfl) (fun _ _ _ h => h) (Or.inl ⟨by rfl, ?_⟩) (by assumption) ?_
      rotate_left 1
      ·(intro u hSw; go_simp; try with_reducible rfl)
      try simp only [Act.put, List.setIfInBounds_toArray, List.set_cons_zero, List.set_cons_succ]
      refine wpAnyH_take (i := 38) (oi := ({ dst := some 4, op := .assign (.tmp 42), type := 4, pos := "visit.go:27", after := #[{ on := 37, ground := .data }, { on := 35, ground := .chain }, { on := 0, ground := .phase }, { on := 1, ground := .phase }, { on := 2, ground := .phase }, { on := 3, ground := .phase }, { on := 4, ground := .phase }, { on := 5, ground := .phase }, { on := 6, ground := .phase }, { on := 7, ground := .phase }, { on := 8, ground := .phase }, { on := 9, ground := .phase }, { on := 10, ground := .phase }, { on := 11, ground := .phase }, { on := 12, ground := .phase }, { on := 13, ground := .phase }, { on := 14, ground := .phase }, { on := 15, ground := .phase }, { on := 16, ground := .phase }, { on := 17, ground := .phase }, { on := 18, ground := .phase }, { on := 19, ground := .phase }, { on := 20, ground := .phase }, { on := 21, ground := .phase }, { on := 22, ground := .phase }, { on := 23, ground := .phase }, { on := 24, ground := .phase }, { on := 25, ground := .phase }, { on := 26, ground := .phase }, { on := 27, ground := .phase }, { on := 28, ground := .phase }, { on := 29, ground := .phase }, { on := 30, ground := .phase }, { on := 31, ground := .phase }, { on := 32, ground := .phase }, { on := 33, ground := .phase }, { on := 34, ground := .phase }, { on := 35, ground := .phase }, { on := 36, ground := .phase }, { on := 37, ground := .phase }], guard := none } : Oper)) (v := ?_) rfl (by kernel_rfl) (by kernel_rfl) (by kernel_rfl) (fun _ _ _ h => h) (Or.inl ⟨by rfl, ?_⟩) (by assumption) ?_
      rotate_left 1
      ·(intro u hSw; go_simp; try with_reducible rfl)
      try simp only [Act.put, List.setIfInBounds_toArray, List.set_cons_zero, List.set_cons_succ]
      refine wpAnyH_done (by kernel_rfl) ?_ _
      have HBE := Lib.hid (HB0.out.trans (hb35.mono HB0.out.size))
      go_wp2_with fail
      go_ret
      rw [HR.out]
      exact ⟨rfl, HBE.out⟩
     | false =>
      go_enter Tryd.func85, Tryd.ntmps85
      go_wp2_with fail
      generalize ((w.alloc (.cells #[.pointer (some ⟨bl, 0, none⟩), .pointer (some ⟨bh, 0, none⟩)] 142)).alloc (.cells #[.slice af fr.length cf, .slice at2 to.length ct, .bool e] 74)) = w0 at *
      have hb0 := (Below.refl w0.heap.size w0).drew
      refine wp_region_held_drew (S := fun u => Below w0.heap.size w0 u) (by kernel_rfl) (hb0) (fun hHeld => ?_)
      refine wpAnyH_take (i := 0) (oi := ({ dst := some 5, op := .load 74 (.tmp 3), type := 74, pos := "visit.go:27", after := #[], guard := none } : Oper)) (v := .agg #[.slice af fr.length cf, .slice at2 to.length ct, .bool e]) rfl (by kernel_rfl) (by kernel_rfl) (by kernel_rfl) (fun _ _ _ h => h) (Or.inl ⟨by rfl, ?_⟩) (by assumption) ?_
      ·intro u hSw
       exact exec_load_mid 74 (Operand.tmp 3) rfl (w.heap.size + 1) 0 rfl _ _ (HSP.out _ hSw) Tryd.underlying74 rfl (by kernel_rfl)
      try simp only [Act.put, List.setIfInBounds_toArray, List.set_cons_zero, List.set_cons_succ]
      refine wpAnyH_take (i := 1) (oi := ({ dst := some 6, op := .fieldAddr 74 (.tmp 3) 0, type := 0, pos := "visit.go:27", after := #[], guard := none } : Oper)) (v := ?_) rfl (by kernel_rfl) (by kernel_rfl) (by kernel_rfl) (fun _ _ _ h => h) (Or.inl ⟨by rfl, ?_⟩) (by assumption) ?_
      rotate_left 1
      ·(intro u hSw; go_simp; try with_reducible rfl)
      try simp only [Act.put, List.setIfInBounds_toArray, List.set_cons_zero, List.set_cons_succ]
      refine wpAnyH_take (i := 2) (oi := ({ dst := some 7, op := .load 31 (.tmp 6), type := 31, pos := "visit.go:27", after := #[{ on := 1, ground := .data }], guard := none } : Oper)) (v := ?_) rfl (by kernel_rfl) (by kernel_rfl) (by kernel_rfl) (fun _ _ _ h => h) (Or.inl ⟨by rfl, ?_⟩) (by assumption) ?_
      rotate_left 1
      ·(intro u hSw; have y0 := (HY.out _ hSw).1; have y1 := (HY.out _ hSw).2; have z0 := HZ.out _ hSw; have p1 := HPH.out _ hSw; have p0 := HPL.out _ hSw; go_simp; try with_reducible rfl)
      try simp only [Act.put, List.setIfInBounds_toArray, List.set_cons_zero, List.set_cons_succ]
      refine wpAnyH_ready (rs := [3]) (by kernel_rfl) (by simp) ?_
      refine (AllReadyH.cons (o := ({ dst := some 8, op := .call { callee := Callee.value (Operand.func 94), args := #[.tmp 5, .tmp 7], argTypes := #[74, 31] }, type := 4, pos := "visit.go:27", after := #[{ on := 0, ground := .data }, { on := 2, ground := .data }], guard := none } : Oper)) rfl (fun K hK => ?_) AllReadyH.nil)
      go_simp
      refine (HE0.out _ hb0).mono ?_
      rintro d w3 ⟨rfl, hw3⟩
      have hb3 : Below w0.heap.size w0 w3 := hb0.trans (hw3.mono hb0.size)
      clear hw3
      go_wp2_with fail
      refine hK.out _ _ hb3 (fun hHeld => ?_)
      clear hK K
      try simp only [Act.put, List.setIfInBounds_toArray, List.set_cons_zero, List.set_cons_succ]
      refine wpAnyH_take (i := 4) (oi := ({ dst := some 9, op := .move (.tmp 8), type := 4, pos := "visit.go:27", after := #[{ on := 3, ground := .data }, { on := 3, ground := .chain }], guard := none } : Oper)) (v := ?_) rfl (by kernel_rfl) (by kernel_rfl) (by kernel_rfl) (fun _ _ _ h => h) (Or.inl ⟨by rfl, ?_⟩) (by assumption) ?_
      rotate_left 1
      ·(intro u hSw; go_simp; try with_reducible rfl)
      try simp only [Act.put, List.setIfInBounds_toArray, List.set_cons_zero, List.set_cons_succ]
      refine wpAnyH_take (i := 5) (oi := ({ dst := some 10, op := .fieldAddr 142 (.tmp 2) 1, type := 0, pos := "visit.go:27", after := #[{ on := 4, ground := .guard }], guard := some (4, false) } : Oper)) (v := ?_) rfl (by kernel_rfl) (by kernel_rfl) (by kernel_rfl) (fun _ _ _ h => h) (Or.inl ⟨by rfl, ?_⟩) (by assumption) ?_
      rotate_left 1
      ·(intro u hSw; go_simp; try with_reducible rfl)
      try simp only [Act.put, List.setIfInBounds_toArray, List.set_cons_zero, List.set_cons_succ]
      refine wpAnyH_take (i := 6) (oi := ({ dst := some 11, op := .load 68 (.tmp 10), type := 68, pos := "visit.go:27", after := #[{ on := 5, ground := .data }, { on := 4, ground := .guard }], guard := some (4, false) } : Oper)) (v := ?_) rfl (by kernel_rfl) (by kernel_rfl) (by kernel_rfl) (fun _ _ _ h => h) (Or.inl ⟨by rfl, ?_⟩) (by assumption) ?_
      rotate_left 1
      ·(intro u hSw; have y0 := (HY.out _ hSw).1; have y1 := (HY.out _ hSw).2; have z0 := HZ.out _ hSw; have p1 := HPH.out _ hSw; have p0 := HPL.out _ hSw; go_simp; try with_reducible rfl)
      try simp only [Act.put, List.setIfInBounds_toArray, List.set_cons_zero, List.set_cons_succ]
      refine wpAnyH_take (i := 7) (oi := ({ dst := some 12, op := .binOp BinOp.neq 68 (.tmp 11) (.const (Value.pointer none)) 68, type := 4, pos := "visit.go:27", after := #[{ on := 6, ground := .data }, { on := 4, ground := .guard }], guard := some (4, false) } : Oper)) (v := ?_) rfl (by kernel_rfl) (by kernel_rfl) (by kernel_rfl) (fun _ _ _ h => h) (Or.inl ⟨by rfl, ?_⟩) (by assumption) ?_
      rotate_left 1
      ·(intro u hSw; go_simp; try with_reducible rfl)
      try simp only [Act.put, List.setIfInBounds_toArray, List.set_cons_zero, List.set_cons_succ]
      refine wpAnyH_take (i := 8) (oi := ({ dst := some 13, op := .move (.tmp 12), type := 4, pos := "visit.go:27", after := #[{ on := 7, ground := .data }, { on := 4, ground := .chain }, { on := 4, ground := .guard }], guard := some (4, false) } : Oper)) (v := ?_) rfl (by kernel_rfl) (by kernel_rfl) (by kernel_rfl) (fun _ _ _ h => h) (Or.inl ⟨by rfl, ?_⟩) (by assumption) ?_
      rotate_left 1
      ·(intro u hSw; go_simp; try with_reducible rfl)
      try simp only [Act.put, List.setIfInBounds_toArray, List.set_cons_zero, List.set_cons_succ]
      refine wpAnyH_take (i := 9) (oi := ({ dst := some 14, op := .fieldAddr 142 (.tmp 2) 1, type := 0, pos := "visit.go:27", after := #[{ on := 8, ground := .guard }], guard := some (8, true) } : Oper)) (v := ?_) rfl (by kernel_rfl) (by kernel_rfl) (by kernel_rfl) (fun _ _ _ h => h) (Or.inl ⟨by rfl, ?_⟩) (by assumption) ?_
      rotate_left 1
      ·(intro u hSw; go_simp; try with_reducible rfl)
      try simp only [Act.put, List.setIfInBounds_toArray, List.set_cons_zero, List.set_cons_succ]
      refine wpAnyH_take (i := 10) (oi := ({ dst := some 15, op := .load 68 (.tmp 14), type := 68, pos := "visit.go:27", after := #[{ on := 9, ground := .data }, { on := 8, ground := .guard }], guard := some (8, true) } : Oper)) (v := ?_) rfl (by kernel_rfl) (by kernel_rfl) (by kernel_rfl) (fun _ _ _ h => h) (Or.inl ⟨by rfl, ?_⟩) (by assumption) ?_
      rotate_left 1
      ·(intro u hSw; have y0 := (HY.out _ hSw).1; have y1 := (HY.out _ hSw).2; have z0 := HZ.out _ hSw; have p1 := HPH.out _ hSw; have p0 := HPL.out _ hSw; go_simp; try with_reducible rfl)
      try simp only [Act.put, List.setIfInBounds_toArray, List.set_cons_zero, List.set_cons_succ]
      refine wpAnyH_take (i := 11) (oi := ({ dst := some 16, op := .nilCheck (.tmp 15), type := 0, pos := "visit.go:27", after := #[{ on := 10, ground := .data }, { on := 8, ground := .guard }], guard := some (8, true) } : Oper)) (v := ?_) rfl (by kernel_rfl) (by kernel_rfl) (by kernel_rfl) (fun _ _ _ h => h) (Or.inl ⟨by rfl, ?_⟩) (by assumption) ?_
      rotate_left 1
      ·(intro u hSw; go_simp; try with_reducible rfl)
      try simp only [Act.put, List.setIfInBounds_toArray, List.set_cons_zero, List.set_cons_succ]
      refine wpAnyH_take (i := 12) (oi := ({ dst := some 17, op := .fieldAddr 115 (.tmp 16) 0, type := 0, pos := "visit.go:27", after := #[{ on := 11, ground := .data }, { on := 8, ground := .guard }], guard := some (8, true) } : Oper)) (v := ?_) rfl (by kernel_rfl) (by kernel_rfl) (by kernel_rfl) (fun _ _ _ h => h) (Or.inl ⟨by rfl, ?_⟩) (by assumption) ?_
      rotate_left 1
      ·(intro u hSw; go_simp; try with_reducible rfl)
      try simp only [Act.put, List.setIfInBounds_toArray, List.set_cons_zero, List.set_cons_succ]
      refine wpAnyH_take (i := 13) (oi := ({ dst := some 18, op := .fieldAddr 66 (.tmp 17) 0, type := 0, pos := "visit.go:27", after := #[{ on := 12, ground := .data }, { on := 8, ground := .guard }], guard := some (8, true) } : Oper)) (v := ?_) rfl (by kernel_rfl) (by kernel_rfl) (by kernel_rfl) (fun _ _ _ h => h) (Or.inl ⟨by rfl, ?_⟩) (by assumption) ?_
      rotate_left 1
      ·(intro u hSw; go_simp; try with_reducible rfl)
      try simp only [Act.put, List.setIfInBounds_toArray, List.set_cons_zero, List.set_cons_succ]
      refine wpAnyH_take (i := 14) (oi := ({ dst := some 19, op := .fieldAddr 33 (.tmp 18) 0, type := 0, pos := "visit.go:27", after := #[{ on := 13, ground := .data }, { on := 8, ground := .guard }], guard := some (8, true) } : Oper)) (v := ?_) rfl (by kernel_rfl) (by kernel_rfl) (by kernel_rfl) (fun _ _ _ h => h) (Or.inl ⟨by rfl, ?_⟩) (by assumption) ?_
      rotate_left 1
      ·(intro u hSw; go_simp; try with_reducible rfl)
      try simp only [Act.put, List.setIfInBounds_toArray, List.set_cons_zero, List.set_cons_succ]
      refine wpAnyH_take (i := 15) (oi := ({ dst := some 20, op := .load 31 (.tmp 19), type := 31, pos := "visit.go:27", after := #[{ on := 14, ground := .data }, { on := 8, ground := .guard }], guard := some (8, true) } : Oper)) (v := ?_) rfl (by kernel_rfl) (by kernel_rfl) (by kernel_rfl) (fun _ _ _ h => h) (Or.inl ⟨by rfl, ?_⟩) (by assumption) ?_
      rotate_left 1
      ·(intro u hSw; have y0 := (HY.out _ hSw).1; have y1 := (HY.out _ hSw).2; have z0 := HZ.out _ hSw; have p1 := HPH.out _ hSw; have p0 := HPL.out _ hSw; go_simp; try with_reducible rfl)
      try simp only [Act.put, List.setIfInBounds_toArray, List.set_cons_zero, List.set_cons_succ]
      refine wpAnyH_take (i := 16) (oi := ({ dst := some 21, op := .fieldAddr 74 (.tmp 3) 0, type := 0, pos := "visit.go:27", after := #[{ on := 8, ground := .guard }], guard := some (8, true) } : Oper)) (v := ?_) rfl (by kernel_rfl) (by kernel_rfl) (by kernel_rfl) (fun _ _ _ h => h) (Or.inl ⟨by rfl, ?_⟩) (by assumption) ?_
      rotate_left 1
      ·(intro u hSw; go_simp; try with_reducible rfl)
      try simp only [Act.put, List.setIfInBounds_toArray, List.set_cons_zero, List.set_cons_succ]
      refine wpAnyH_take (i := 17) (oi := ({ dst := some 22, op := .load 31 (.tmp 21), type := 31, pos := "visit.go:27", after := #[{ on := 16, ground := .data }, { on := 8, ground := .guard }], guard := some (8, true) } : Oper)) (v := ?_) rfl (by kernel_rfl) (by kernel_rfl) (by kernel_rfl) (fun _ _ _ h => h) (Or.inl ⟨by rfl, ?_⟩) (by assumption) ?_
      rotate_left 1
      ·(intro u hSw; have y0 := (HY.out _ hSw).1; have y1 := (HY.out _ hSw).2; have z0 := HZ.out _ hSw; have p1 := HPH.out _ hSw; have p0 := HPL.out _ hSw; go_simp; try with_reducible rfl)
      try simp only [Act.put, List.setIfInBounds_toArray, List.set_cons_zero, List.set_cons_succ]
      refine wpAnyH_ready (rs := [18]) (by kernel_rfl) (by simp) ?_
      refine (AllReadyH.cons (o := ({ dst := some 23, op := .call { callee := Callee.value (Operand.func 56), args := #[.tmp 20, .tmp 22], argTypes := #[31, 31] }, type := 3, pos := "visit.go:28", after := #[{ on := 15, ground := .data }, { on := 17, ground := .data }, { on := 8, ground := .chain }, { on := 8, ground := .guard }], guard := some (8, true) } : Oper)) rfl (fun K hK => ?_) AllReadyH.nil)
      go_simp
      refine (HC.out _ hb3).mono ?_
      rintro d w18 ⟨rfl, hw18⟩
      have hb18 : Below w0.heap.size w0 w18 := (by rw [hw18]; exact hb3)
      clear hw18
      go_wp2_with fail
      refine hK.out _ _ hb18 (fun hHeld => ?_)
      clear hK K
      try simp only [Act.put, List.setIfInBounds_toArray, List.set_cons_zero, List.set_cons_succ]
      refine wpAnyH_take (i := 19) (oi := ({ dst := some 24, op := .binOp BinOp.leq 3 (.tmp 23) (.const (Value.int IntKind.i64 0)) 3, type := 4, pos := "visit.go:27", after := #[{ on := 18, ground := .data }, { on := 8, ground := .guard }], guard := some (8, true) } : Oper)) (v := .bool false) rfl (by kernel_rfl) (by kernel_rfl) (by kernel_rfl) (fun _ _ _ h => h) (Or.inl ⟨by rfl, ?_⟩) (by assumption) ?_
      ·intro u hSw
       (go_simp; first | done | omega | (rw [decide_eq_false HCM.out]) | (have := HCM.out; simp_all))
      try simp only [Act.put, List.setIfInBounds_toArray, List.set_cons_zero, List.set_cons_succ]
      refine wpAnyH_take (i := 20) (oi := ({ dst := some 25, op := .pick (.tmp 13) (.tmp 24) (.const (Value.bool false)), type := 4, pos := "visit.go:27", after := #[{ on := 8, ground := .data }, { on := 19, ground := .data }, { on := 4, ground := .guard }], guard := some (4, false) } : Oper)) (v := ?_) rfl (by kernel_rfl) (by kernel_rfl) (by kernel_rfl) (fun _ _ _ h => h) (Or.inl ⟨by rfl, ?_⟩) (by assumption) ?_
      rotate_left 1
      ·(intro u hSw; go_simp; try with_reducible rfl)
      try simp only [Act.put, List.setIfInBounds_toArray, List.set_cons_zero, List.set_cons_succ]
      refine wpAnyH_take (i := 21) (oi := ({ dst := some 26, op := .pick (.tmp 9) (.const (Value.bool true)) (.tmp 25), type := 4, pos := "visit.go:27", after := #[{ on := 4, ground := .data }, { on := 20, ground := .data }], guard := none } : Oper)) (v := ?_) rfl (by kernel_rfl) (by kernel_rfl) (by kernel_rfl) (fun _ _ _ h => h) (Or.inl ⟨by rfl, ?_⟩) (by assumption) ?_
      rotate_left 1
      ·(intro u hSw; go_simp; try with_reducible rfl)
      try simp only [Act.put, List.setIfInBounds_toArray, List.set_cons_zero, List.set_cons_succ]
      refine wpAnyH_take (i := 22) (oi := ({ dst := some 27, op := .move (.tmp 26), type := 4, pos := "visit.go:27", after := #[{ on := 21, ground := .data }, { on := 18, ground := .chain }], guard := none } : Oper)) (v := ?_) rfl (by kernel_rfl) (by kernel_rfl) (by kernel_rfl) (fun _ _ _ h => h) (Or.inl ⟨by rfl, ?_⟩) (by assumption) ?_
      rotate_left 1
      ·(intro u hSw; go_simp; try with_reducible rfl)
      try simp only [Act.put, List.setIfInBounds_toArray, List.set_cons_zero, List.set_cons_succ]
      refine wpAnyH_take (i := 23) (oi := ({ dst := some 28, op := .fieldAddr 142 (.tmp 2) 0, type := 0, pos := "visit.go:27", after := #[{ on := 22, ground := .guard }], guard := some (22, false) } : Oper)) (v := ?_) rfl (by kernel_rfl) (by kernel_rfl) (by kernel_rfl) (fun _ _ _ h => h) (Or.inl ⟨by rfl, ?_⟩) (by assumption) ?_
      rotate_left 1
      ·(intro u hSw; go_simp; try with_reducible rfl)
      try simp only [Act.put, List.setIfInBounds_toArray, List.set_cons_zero, List.set_cons_succ]
      refine wpAnyH_take (i := 24) (oi := ({ dst := some 29, op := .load 68 (.tmp 28), type := 68, pos := "visit.go:27", after := #[{ on := 23, ground := .data }, { on := 22, ground := .guard }], guard := some (22, false) } : Oper)) (v := ?_) rfl (by kernel_rfl) (by kernel_rfl) (by kernel_rfl) (fun _ _ _ h => h) (Or.inl ⟨by rfl, ?_⟩) (by assumption) ?_
      rotate_left 1
      ·(intro u hSw; have y0 := (HY.out _ hSw).1; have y1 := (HY.out _ hSw).2; have z0 := HZ.out _ hSw; have p1 := HPH.out _ hSw; have p0 := HPL.out _ hSw; go_simp; try with_reducible rfl)
      try simp only [Act.put, List.setIfInBounds_toArray, List.set_cons_zero, List.set_cons_succ]
      refine wpAnyH_take (i := 25) (oi := ({ dst := some 30, op := .binOp BinOp.neq 68 (.tmp 29) (.const (Value.pointer none)) 68, type := 4, pos := "visit.go:27", after := #[{ on := 24, ground := .data }, { on := 22, ground := .guard }], guard := some (22, false) } : Oper)) (v := ?_) rfl (by kernel_rfl) (by kernel_rfl) (by kernel_rfl) (fun _ _ _ h => h) (Or.inl ⟨by rfl, ?_⟩) (by assumption) ?_
      rotate_left 1
      ·(intro u hSw; go_simp; try with_reducible rfl)
      try simp only [Act.put, List.setIfInBounds_toArray, List.set_cons_zero, List.set_cons_succ]
      refine wpAnyH_take (i := 26) (oi := ({ dst := some 31, op := .move (.tmp 30), type := 4, pos := "visit.go:27", after := #[{ on := 25, ground := .data }, { on := 22, ground := .chain }, { on := 22, ground := .guard }], guard := some (22, false) } : Oper)) (v := ?_) rfl (by kernel_rfl) (by kernel_rfl) (by kernel_rfl) (fun _ _ _ h => h) (Or.inl ⟨by rfl, ?_⟩) (by assumption) ?_
      rotate_left 1
      ·(intro u hSw; go_simp; try with_reducible rfl)
      try simp only [Act.put, List.setIfInBounds_toArray, List.set_cons_zero, List.set_cons_succ]
      refine wpAnyH_take (i := 27) (oi := ({ dst := some 32, op := .load 74 (.tmp 3), type := 74, pos := "visit.go:27", after := #[{ on := 26, ground := .guard }], guard := some (26, true) } : Oper)) (v := .agg #[.slice af fr.length cf, .slice at2 to.length ct, .bool e]) rfl (by kernel_rfl) (by kernel_rfl) (by kernel_rfl) (fun _ _ _ h => h) (Or.inl ⟨by rfl, ?_⟩) (by assumption) ?_
      ·intro u hSw
       exact exec_load_mid 74 (Operand.tmp 3) rfl (w.heap.size + 1) 0 rfl _ _ (HSP.out _ hSw) Tryd.underlying74 rfl (by kernel_rfl)
      try simp only [Act.put, List.setIfInBounds_toArray, List.set_cons_zero, List.set_cons_succ]
      refine wpAnyH_take (i := 28) (oi := ({ dst := some 33, op := .fieldAddr 142 (.tmp 2) 0, type := 0, pos := "visit.go:27", after := #[{ on := 26, ground := .guard }], guard := some (26, true) } : Oper)) (v := ?_) rfl (by kernel_rfl) (by kernel_rfl) (by kernel_rfl) (fun _ _ _ h => h) (Or.inl ⟨by rfl, ?_⟩) (by assumption) ?_
      rotate_left 1
      ·(intro u hSw; go_simp; try with_reducible rfl)
      try simp only [Act.put, List.setIfInBounds_toArray, List.set_cons_zero, List.set_cons_succ]
      refine wpAnyH_take (i := 29) (oi := ({ dst := some 34, op := .load 68 (.tmp 33), type := 68, pos := "visit.go:27", after := #[{ on := 28, ground := .data }, { on := 26, ground := .guard }], guard := some (26, true) } : Oper)) (v := ?_) rfl (by kernel_rfl) (by kernel_rfl) (by kernel_rfl) (fun _ _ _ h => h) (Or.inl ⟨by rfl, ?_⟩) (by assumption) ?_
      rotate_left 1
      ·(intro u hSw; have y0 := (HY.out _ hSw).1; have y1 := (HY.out _ hSw).2; have z0 := HZ.out _ hSw; have p1 := HPH.out _ hSw; have p0 := HPL.out _ hSw; go_simp; try with_reducible rfl)
      try simp only [Act.put, List.setIfInBounds_toArray, List.set_cons_zero, List.set_cons_succ]
      refine wpAnyH_take (i := 30) (oi := ({ dst := some 35, op := .nilCheck (.tmp 34), type := 0, pos := "visit.go:27", after := #[{ on := 29, ground := .data }, { on := 26, ground := .guard }], guard := some (26, true) } : Oper)) (v := ?_) rfl (by kernel_rfl) (by kernel_rfl) (by kernel_rfl) (fun _ _ _ h => h) (Or.inl ⟨by rfl, ?_⟩) (by assumption) ?_
      rotate_left 1
      ·(intro u hSw; go_simp; try with_reducible rfl)
      try simp only [Act.put, List.setIfInBounds_toArray, List.set_cons_zero, List.set_cons_succ]
      refine wpAnyH_take (i := 31) (oi := ({ dst := some 36, op := .fieldAddr 115 (.tmp 35) 0, type := 0, pos := "visit.go:27", after := #[{ on := 30, ground := .data }, { on := 26, ground := .guard }], guard := some (26, true) } : Oper)) (v := ?_) rfl (by kernel_rfl) (by kernel_rfl) (by kernel_rfl) (fun _ _ _ h => h) (Or.inl ⟨by rfl, ?_⟩) (by assumption) ?_
      rotate_left 1
      ·(intro u hSw; go_simp; try with_reducible rfl)
      try simp only [Act.put, List.setIfInBounds_toArray, List.set_cons_zero, List.set_cons_succ]
      refine wpAnyH_take (i := 32) (oi := ({ dst := some 37, op := .fieldAddr 66 (.tmp 36) 0, type := 0, pos := "visit.go:27", after := #[{ on := 31, ground := .data }, { on := 26, ground := .guard }], guard := some (26, true) } : Oper)) (v := ?_) rfl (by kernel_rfl) (by kernel_rfl) (by kernel_rfl) (fun _ _ _ h => h) (Or.inl ⟨by rfl, ?_⟩) (by assumption) ?_
      rotate_left 1
      ·(intro u hSw; go_simp; try with_reducible rfl)
      try simp only [Act.put, List.setIfInBounds_toArray, List.set_cons_zero, List.set_cons_succ]
      refine wpAnyH_take (i := 33) (oi := ({ dst := some 38, op := .fieldAddr 33 (.tmp 37) 0, type := 0, pos := "visit.go:27", after := #[{ on := 32, ground := .data }, { on := 26, ground := .guard }], guard := some (26, true) } : Oper)) (v := ?_) rfl (by kernel_rfl) (by kernel_rfl) (by kernel_rfl) (fun _ _ _ h => h) (Or.inl ⟨by rfl, ?_⟩) (by assumption) ?_
      rotate_left 1
      ·(intro u hSw; go_simp; try with_reducible rfl)
      try simp only [Act.put, List.setIfInBounds_toArray, List.set_cons_zero, List.set_cons_succ]
      refine wpAnyH_take (i := 34) (oi := ({ dst := some 39, op := .load 31 (.tmp 38), type := 31, pos := "visit.go:27", after := #[{ on := 33, ground := .data }, { on := 26, ground := .guard }], guard := some (26, true) } : Oper)) (v := ?_) rfl (by kernel_rfl) (by kernel_rfl) (by kernel_rfl) (fun _ _ _ h => h) (Or.inl ⟨by rfl, ?_⟩) (by assumption) ?_
      rotate_left 1
      ·(intro u hSw; have y0 := (HY.out _ hSw).1; have y1 := (HY.out _ hSw).2; have z0 := HZ.out _ hSw; have p1 := HPH.out _ hSw; have p0 := HPL.out _ hSw; go_simp; try with_reducible rfl)
      try simp only [Act.put, List.setIfInBounds_toArray, List.set_cons_zero, List.set_cons_succ]
      refine wpAnyH_ready (rs := [35]) (by kernel_rfl) (by simp) ?_
      refine (AllReadyH.cons (o := ({ dst := some 40, op := .call { callee := Callee.value (Operand.func 94), args := #[.tmp 32, .tmp 39], argTypes := #[74, 31] }, type := 4, pos := "visit.go:29", after := #[{ on := 27, ground := .data }, { on := 34, ground := .data }, { on := 26, ground := .chain }, { on := 26, ground := .guard }], guard := some (26, true) } : Oper)) rfl (fun K hK => ?_) AllReadyH.nil)
      go_simp
      refine (HE2.out _ hb18).mono ?_
      rintro d w35 ⟨rfl, hw35⟩
      have hb35 : Below w0.heap.size w0 w35 := hb18.trans (hw35.mono hb18.size)
      clear hw35
      go_wp2_with fail
      refine hK.out _ _ hb35 (fun hHeld => ?_)
      clear hK K
      try simp only [Act.put, List.setIfInBounds_toArray, List.set_cons_zero, List.set_cons_succ]
      refine wpAnyH_take (i := 36) (oi := ({ dst := some 41, op := .pick (.tmp 31) (.tmp 40) (.const (Value.bool false)), type := 4, pos := "visit.go:27", after := #[{ on := 26, ground := .data }, { on := 35, ground := .data }, { on := 22, ground := .guard }], guard := some (22, false) } : Oper)) (v := ?_) rfl (by kernel_rfl) (by kernel_rfl) (by kernel_rfl) (fun _ _ _ h => h) (Or.inl ⟨by rfl, ?_⟩) (by assumption) ?_
      rotate_left 1
      ·(intro u hSw; go_simp; try with_reducible rfl)
      try simp only [Act.put, List.setIfInBounds_toArray, List.set_cons_zero, List.set_cons_succ]
      refine wpAnyH_take (i := 37) (oi := ({ dst := some 42, op := .pick (.tmp 27) (.const (Value.bool true)) (.tmp 41), type := 4, pos := "visit.go:27", after := #[{ on := 22, ground := .data }, { on := 36, ground := .data }], guard := none } : Oper)) (v := ?_) rfl (by kernel_rfl) (by kernel_rfl) (by kernel_rfl) (fun _ _ _ h => h) (Or.inl ⟨by rfl, ?_⟩) (by assumption) ?_
      rotate_left 1
      ·(intro u hSw; go_simp; try with_reducible rfl)
      try simp only [Act.put, List.setIfInBounds_toArray, List.set_cons_zero, List.set_cons_succ]
      refine wpAnyH_take (i := 38) (oi := ({ dst := some 4, op := .assign (.tmp 42), type := 4, pos := "visit.go:27", after := #[{ on := 37, ground := .data }, { on := 35, ground := .chain }, { on := 0, ground := .phase }, { on := 1, ground := .phase }, { on := 2, ground := .phase }, { on := 3, ground := .phase }, { on := 4, ground := .phase }, { on := 5, ground := .phase }, { on := 6, ground := .phase }, { on := 7, ground := .phase }, { on := 8, ground := .phase }, { on := 9, ground := .phase }, { on := 10, ground := .phase }, { on := 11, ground := .phase }, { on := 12, ground := .phase }, { on := 13, ground := .phase }, { on := 14, ground := .phase }, { on := 15, ground := .phase }, { on := 16, ground := .phase }, { on := 17, ground := .phase }, { on := 18, ground := .phase }, { on := 19, ground := .phase }, { on := 20, ground := .phase }, { on := 21, ground := .phase }, { on := 22, ground := .phase }, { on := 23, ground := .phase }, { on := 24, ground := .phase }, { on := 25, ground := .phase }, { on := 26, ground := .phase }, { on := 27, ground := .phase }, { on := 28, ground := .phase }, { on := 29, ground := .phase }, { on := 30, ground := .phase }, { on := 31, ground := .phase }, { on := 32, ground := .phase }, { on := 33, ground := .phase }, { on := 34, ground := .phase }, { on := 35, ground := .phase }, { on := 36, ground := .phase }, { on := 37, ground := .phase }], guard := none } : Oper)) (v := ?_) rfl (by kernel_rfl) (by kernel_rfl) (by kernel_rfl) (fun _ _ _ h => h) (Or.inl ⟨by rfl, ?_⟩) (by assumption) ?_
      rotate_left 1
      ·(intro u hSw; go_simp; try with_reducible rfl)
      try simp only [Act.put, List.setIfInBounds_toArray, List.set_cons_zero, List.set_cons_succ]
      refine wpAnyH_done (by kernel_rfl) ?_ _
      have HBE := Lib.hid (HB0.out.trans (hb35.mono HB0.out.size))
      go_wp2_with fail
      go_ret
      rw [HR.out]
      exact ⟨rfl, HBE.out⟩
end Go.Proofs.YtmejjjkbbkgioaaDoor
