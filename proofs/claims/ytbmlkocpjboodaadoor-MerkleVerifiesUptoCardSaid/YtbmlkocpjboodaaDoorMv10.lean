/- stage 7: outside -/
import Derived.Test.YtbmlkocpjboodaaDoorMv09
namespace Go.Proofs.YtbmlkocpjboodaaDoor
open Go.RowKit
open Go.Lib (hid)
set_option maxRecDepth 100000 in
set_option maxHeartbeats 16000000 in
theorem outside_any {S : Nat → Prop} (fv tv plo phi : Value) (fr to : List Int) (e : Bool) (lo hi : Option (List Int)) (w : World) (hf : Bs w fv fr) (ht : Bs w tv to) (gf : Rng fr) (gt : Rng to) (hlo : BK w S plo lo) (hhi : BK w S phi hi) :
  Calls Tryd.prog 85 #[.agg #[plo, phi], .agg #[fv, tv, .bool e]] w fun d w' => d = .returned (.bool (outQ fr to e lo hi)) ∧ Below w.heap.size w w' := by
 obtain ⟨alo, rfl⟩ := hlo.form
 obtain ⟨ahi, rfl⟩ := hhi.form
 have hf0 := hf
 have ht0 := ht
 obtain ⟨af, cf, rfl, -, -⟩ := hf
 obtain ⟨at2, ct, rfl, -, -⟩ := ht
 have hbb : Below w.heap.size w ((w.alloc (.cells #[.pointer alo, .pointer ahi] 142)).alloc (.cells #[.slice af fr.length cf, .slice at2 to.length ct, .bool e] 74)) := ((Below.refl _ _).alloc (Nat.le_refl _) _).alloc (by simp) _
 have hx0 : ((w.alloc (.cells #[.pointer alo, .pointer ahi] 142)).alloc (.cells #[.slice af fr.length cf, .slice at2 to.length ct, .bool e] 74)).heap[w.heap.size]? = some (.cells #[.pointer alo, .pointer ahi] 142 (0, 0)) := (heap_alloc_old _ _ (by simp)).trans (heap_alloc_new _ _)
 have hx1 : ((w.alloc (.cells #[.pointer alo, .pointer ahi] 142)).alloc (.cells #[.slice af fr.length cf, .slice at2 to.length ct, .bool e] 74)).heap[w.heap.size + 1]? = some (.cells #[.slice af fr.length cf, .slice at2 to.length ct, .bool e] 74 (0, 0)) := by
  have q := heap_alloc_new (w.alloc (.cells #[.pointer alo, .pointer ahi] 142)) (.cells #[.slice af fr.length cf, .slice at2 to.length ct, .bool e] 74)
  rwa [World.size_alloc] at q
 have HY := hid (fun u (hu : Below ((w.alloc (.cells #[.pointer alo, .pointer ahi] 142)).alloc (.cells #[.slice af fr.length cf, .slice at2 to.length ct, .bool e] 74)).heap.size ((w.alloc (.cells #[.pointer alo, .pointer ahi] 142)).alloc (.cells #[.slice af fr.length cf, .slice at2 to.length ct, .bool e] 74)) u) => (show u.cell? ⟨w.heap.size, 0, none⟩ = some (.pointer alo) ∧ u.cell? ⟨w.heap.size, 1, none⟩ = some (.pointer ahi) from ⟨cell_of_row u w.heap.size 0 _ _ _ ((hu.block _ (blk_lt hx0)).trans hx0), cell_of_row u w.heap.size 1 _ _ _ ((hu.block _ (blk_lt hx0)).trans hx0)⟩))
 have HZ := hid (fun u (hu : Below ((w.alloc (.cells #[.pointer alo, .pointer ahi] 142)).alloc (.cells #[.slice af fr.length cf, .slice at2 to.length ct, .bool e] 74)).heap.size ((w.alloc (.cells #[.pointer alo, .pointer ahi] 142)).alloc (.cells #[.slice af fr.length cf, .slice at2 to.length ct, .bool e] 74)) u) => (show u.cell? ⟨w.heap.size + 1, 0, none⟩ = some (.slice af fr.length cf) from cell_of_row u (w.heap.size + 1) 0 _ _ _ ((hu.block _ (blk_lt hx1)).trans hx1)))
 have HSP := hid (fun u (hu : Below ((w.alloc (.cells #[.pointer alo, .pointer ahi] 142)).alloc (.cells #[.slice af fr.length cf, .slice at2 to.length ct, .bool e] 74)).heap.size ((w.alloc (.cells #[.pointer alo, .pointer ahi] 142)).alloc (.cells #[.slice af fr.length cf, .slice at2 to.length ct, .bool e] 74)) u) => (show u.rangeAt (w.heap.size + 1) 0 [.slice af fr.length cf, .slice at2 to.length ct, .bool e] from fun j x hj => by
  rw [cell_of_row u (w.heap.size + 1) (0 + j) _ _ _ ((hu.block _ (blk_lt hx1)).trans hx1), Nat.zero_add]
  simpa using hj))
 have HE0 := hid (fun u (hu : Below ((w.alloc (.cells #[.pointer alo, .pointer ahi] 142)).alloc (.cells #[.slice af fr.length cf, .slice at2 to.length ct, .bool e] 74)).heap.size ((w.alloc (.cells #[.pointer alo, .pointer ahi] 142)).alloc (.cells #[.slice af fr.length cf, .slice at2 to.length ct, .bool e] 74)) u) => endsBy_any (.slice af fr.length cf) (.slice at2 to.length ct) (.slice af fr.length cf) fr to fr e u ((hf0.below hbb).below hu) ((ht0.below hbb).below hu) ((hf0.below hbb).below hu) gt gf)
 have HB0 := hid hbb
 have HR := hid (show outQ fr to e lo hi = (endsQ to e fr || hi.elim false (fun h => decide (cmpI h fr ≤ 0)) || lo.elim false (fun l => endsQ to e l)) from rfl)
 generalize outQ fr to e lo hi = R at *
 clear hx0 hx1
 generalize hq0 : endsQ to e fr = q0 at *
 clear hq0
 have hlo2 := hlo.chg (Chg.fresh (F := fun _ => False) hbb) (fun _ _ h => h)
 have hhi2 := hhi.chg (Chg.fresh (F := fun _ => False) hbb) (fun _ _ h => h)
 clear hlo hhi
 cases q0 with
 | true =>
  replace HR : Hid (R = true) := hid (by rw [HR.out]; simp)
  clear hbb gf gt hlo2 hhi2 hf0 ht0
  go_enter Tryd.func85, Tryd.ntmps85
  go_wp2_with fail
  generalize ((w.alloc (.cells #[.pointer alo, .pointer ahi] 142)).alloc (.cells #[.slice af fr.length cf, .slice at2 to.length ct, .bool e] 74)) = w0 at *
  have hb0 := (Below.refl w0.heap.size w0).drew
  refine wp_region_held_drew (S := fun u => Below w0.heap.size w0 u) (by kernel_rfl) (hb0) (fun hHeld => ?_)
  refine tk (i := 0) (oi := ⟨some 5, .load 74 (.tmp 3), 74, "visit.go:27", #[], none⟩) (v := .agg #[.slice af fr.length cf, .slice at2 to.length ct, .bool e]) (Or.inl ⟨by rfl, ?_⟩) ?_
  ·intro u hSw
   exact exec_load_mid 74 (Operand.tmp 3) rfl (w.heap.size + 1) 0 rfl _ _ (HSP.out _ hSw) Tryd.underlying74 rfl (by kernel_rfl)
  try simp only [Act.put, sA, sB, sC]
  refine tk (i := 1) (oi := ⟨some 6, .fieldAddr 74 (.tmp 3) 0, 0, "visit.go:27", #[], none⟩) (v := ?_) (Or.inl ⟨by rfl, ?_⟩) ?_
  rotate_left 1
  ·(intro u hSw; go_simp; try with_reducible rfl)
  try simp only [Act.put, sA, sB, sC]
  refine tk (i := 2) (oi := ⟨some 7, .load 31 (.tmp 6), 31, "visit.go:27", #[⟨1, .data⟩], none⟩) (v := ?_) (Or.inl ⟨by rfl, ?_⟩) ?_
  rotate_left 1
  ·(intro u hSw; have y0 := (HY.out _ hSw).1; have y1 := (HY.out _ hSw).2; have z0 := HZ.out _ hSw; go_simp; try with_reducible rfl)
  try simp only [Act.put, sA, sB, sC]
  refine wpAnyH_ready (rs := [3]) (by kernel_rfl) (by simp) ?_
  refine (AllReadyH.cons (o := ⟨some 8, .call ⟨.value (.func 94), #[.tmp 5, .tmp 7], #[74, 31]⟩, 4, "visit.go:27", #[⟨0, .data⟩, ⟨2, .data⟩], none⟩) rfl (fun K hK => ?_) AllReadyH.nil)
  go_simp
  refine (HE0.out _ hb0).mono ?_
  rintro d w3 ⟨rfl, hw3⟩
  have hb3 : Below w0.heap.size w0 w3 := hb0.trans (hw3.mono hb0.size)
  clear hw3
  go_wp2_with fail
  refine hK.out _ _ hb3 (fun hHeld => ?_)
  clear hK K
  try simp only [Act.put, sA, sB, sC]
  refine tk (i := 4) (oi := ⟨some 9, .move (.tmp 8), 4, "visit.go:27", #[⟨3, .data⟩, ⟨3, .chain⟩], none⟩) (v := ?_) (Or.inl ⟨by rfl, ?_⟩) ?_
  rotate_left 1
  ·(intro u hSw; go_simp; try with_reducible rfl)
  try simp only [Act.put, sA, sB, sC]
  refine tk (i := 5) (oi := ⟨some 10, .fieldAddr 142 (.tmp 2) 1, 0, "visit.go:27", #[⟨4, .guard⟩], some (4, false)⟩) (v := undef) (by exact .inr ⟨by rfl, rfl⟩) ?_
  try simp only [Act.put, sA, sB, sC]
  refine tk (i := 6) (oi := ⟨some 11, .load 68 (.tmp 10), 68, "visit.go:27", #[⟨5, .data⟩, ⟨4, .guard⟩], some (4, false)⟩) (v := undef) (by exact .inr ⟨by rfl, rfl⟩) ?_
  try simp only [Act.put, sA, sB, sC]
  refine tk (i := 7) (oi := ⟨some 12, .binOp BinOp.neq 68 (.tmp 11) (.const (Value.pointer none)) 68, 4, "visit.go:27", #[⟨6, .data⟩, ⟨4, .guard⟩], some (4, false)⟩) (v := undef) (by exact .inr ⟨by rfl, rfl⟩) ?_
  try simp only [Act.put, sA, sB, sC]
  refine tk (i := 8) (oi := ⟨some 13, .move (.tmp 12), 4, "visit.go:27", #[⟨7, .data⟩, ⟨4, .chain⟩, ⟨4, .guard⟩], some (4, false)⟩) (v := undef) (by exact .inr ⟨by rfl, rfl⟩) ?_
  try simp only [Act.put, sA, sB, sC]
  refine tk (i := 9) (oi := ⟨some 14, .fieldAddr 142 (.tmp 2) 1, 0, "visit.go:27", #[⟨8, .guard⟩], some (8, true)⟩) (v := undef) (by exact .inr ⟨by rfl, rfl⟩) ?_
  try simp only [Act.put, sA, sB, sC]
  refine tk (i := 10) (oi := ⟨some 15, .load 68 (.tmp 14), 68, "visit.go:27", #[⟨9, .data⟩, ⟨8, .guard⟩], some (8, true)⟩) (v := undef) (by exact .inr ⟨by rfl, rfl⟩) ?_
  try simp only [Act.put, sA, sB, sC]
  refine tk (i := 11) (oi := ⟨some 16, .nilCheck (.tmp 15), 0, "visit.go:27", #[⟨10, .data⟩, ⟨8, .guard⟩], some (8, true)⟩) (v := undef) (by exact .inr ⟨by rfl, rfl⟩) ?_
  try simp only [Act.put, sA, sB, sC]
  refine tk (i := 12) (oi := ⟨some 17, .fieldAddr 115 (.tmp 16) 0, 0, "visit.go:27", #[⟨11, .data⟩, ⟨8, .guard⟩], some (8, true)⟩) (v := undef) (by exact .inr ⟨by rfl, rfl⟩) ?_
  try simp only [Act.put, sA, sB, sC]
  refine tk (i := 13) (oi := ⟨some 18, .fieldAddr 66 (.tmp 17) 0, 0, "visit.go:27", #[⟨12, .data⟩, ⟨8, .guard⟩], some (8, true)⟩) (v := undef) (by exact .inr ⟨by rfl, rfl⟩) ?_
  try simp only [Act.put, sA, sB, sC]
  refine tk (i := 14) (oi := ⟨some 19, .fieldAddr 33 (.tmp 18) 0, 0, "visit.go:27", #[⟨13, .data⟩, ⟨8, .guard⟩], some (8, true)⟩) (v := undef) (by exact .inr ⟨by rfl, rfl⟩) ?_
  try simp only [Act.put, sA, sB, sC]
  refine tk (i := 15) (oi := ⟨some 20, .load 31 (.tmp 19), 31, "visit.go:27", #[⟨14, .data⟩, ⟨8, .guard⟩], some (8, true)⟩) (v := undef) (by exact .inr ⟨by rfl, rfl⟩) ?_
  try simp only [Act.put, sA, sB, sC]
  refine tk (i := 16) (oi := ⟨some 21, .fieldAddr 74 (.tmp 3) 0, 0, "visit.go:27", #[⟨8, .guard⟩], some (8, true)⟩) (v := undef) (by exact .inr ⟨by rfl, rfl⟩) ?_
  try simp only [Act.put, sA, sB, sC]
  refine tk (i := 17) (oi := ⟨some 22, .load 31 (.tmp 21), 31, "visit.go:27", #[⟨16, .data⟩, ⟨8, .guard⟩], some (8, true)⟩) (v := undef) (by exact .inr ⟨by rfl, rfl⟩) ?_
  try simp only [Act.put, sA, sB, sC]
  refine tk (i := 18) (oi := ⟨some 23, .call ⟨.value (.func 56), #[.tmp 20, .tmp 22], #[31, 31]⟩, 3, "visit.go:28", #[⟨15, .data⟩, ⟨17, .data⟩, ⟨8, .chain⟩, ⟨8, .guard⟩], some (8, true)⟩) (v := undef) (by exact .inr ⟨by rfl, rfl⟩) ?_
  try simp only [Act.put, sA, sB, sC]
  refine tk (i := 19) (oi := ⟨some 24, .binOp BinOp.leq 3 (.tmp 23) (.const (Value.int IntKind.i64 0)) 3, 4, "visit.go:27", #[⟨18, .data⟩, ⟨8, .guard⟩], some (8, true)⟩) (v := undef) (by exact .inr ⟨by rfl, rfl⟩) ?_
  try simp only [Act.put, sA, sB, sC]
  refine tk (i := 20) (oi := ⟨some 25, .pick (.tmp 13) (.tmp 24) (.const (Value.bool false)), 4, "visit.go:27", #[⟨8, .data⟩, ⟨19, .data⟩, ⟨4, .guard⟩], some (4, false)⟩) (v := undef) (by exact .inr ⟨by rfl, rfl⟩) ?_
  try simp only [Act.put, sA, sB, sC]
  refine tk (i := 21) (oi := ⟨some 26, .pick (.tmp 9) (.const (Value.bool true)) (.tmp 25), 4, "visit.go:27", #[⟨4, .data⟩, ⟨20, .data⟩], none⟩) (v := ?_) (Or.inl ⟨by rfl, ?_⟩) ?_
  rotate_left 1
  ·(intro u hSw; go_simp; try with_reducible rfl)
  try simp only [Act.put, sA, sB, sC]
  refine tk (i := 22) (oi := ⟨some 27, .move (.tmp 26), 4, "visit.go:27", #[⟨21, .data⟩, ⟨18, .chain⟩], none⟩) (v := ?_) (Or.inl ⟨by rfl, ?_⟩) ?_
  rotate_left 1
  ·(intro u hSw; go_simp; try with_reducible rfl)
  try simp only [Act.put, sA, sB, sC]
  refine tk (i := 23) (oi := ⟨some 28, .fieldAddr 142 (.tmp 2) 0, 0, "visit.go:27", #[⟨22, .guard⟩], some (22, false)⟩) (v := undef) (by exact .inr ⟨by rfl, rfl⟩) ?_
  try simp only [Act.put, sA, sB, sC]
  refine tk (i := 24) (oi := ⟨some 29, .load 68 (.tmp 28), 68, "visit.go:27", #[⟨23, .data⟩, ⟨22, .guard⟩], some (22, false)⟩) (v := undef) (by exact .inr ⟨by rfl, rfl⟩) ?_
  try simp only [Act.put, sA, sB, sC]
  refine tk (i := 25) (oi := ⟨some 30, .binOp BinOp.neq 68 (.tmp 29) (.const (Value.pointer none)) 68, 4, "visit.go:27", #[⟨24, .data⟩, ⟨22, .guard⟩], some (22, false)⟩) (v := undef) (by exact .inr ⟨by rfl, rfl⟩) ?_
  try simp only [Act.put, sA, sB, sC]
  refine tk (i := 26) (oi := ⟨some 31, .move (.tmp 30), 4, "visit.go:27", #[⟨25, .data⟩, ⟨22, .chain⟩, ⟨22, .guard⟩], some (22, false)⟩) (v := undef) (by exact .inr ⟨by rfl, rfl⟩) ?_
  try simp only [Act.put, sA, sB, sC]
  refine tk (i := 27) (oi := ⟨some 32, .load 74 (.tmp 3), 74, "visit.go:27", #[⟨26, .guard⟩], some (26, true)⟩) (v := undef) (by exact .inr ⟨by rfl, rfl⟩) ?_
  try simp only [Act.put, sA, sB, sC]
  refine tk (i := 28) (oi := ⟨some 33, .fieldAddr 142 (.tmp 2) 0, 0, "visit.go:27", #[⟨26, .guard⟩], some (26, true)⟩) (v := undef) (by exact .inr ⟨by rfl, rfl⟩) ?_
  try simp only [Act.put, sA, sB, sC]
  refine tk (i := 29) (oi := ⟨some 34, .load 68 (.tmp 33), 68, "visit.go:27", #[⟨28, .data⟩, ⟨26, .guard⟩], some (26, true)⟩) (v := undef) (by exact .inr ⟨by rfl, rfl⟩) ?_
  try simp only [Act.put, sA, sB, sC]
  refine tk (i := 30) (oi := ⟨some 35, .nilCheck (.tmp 34), 0, "visit.go:27", #[⟨29, .data⟩, ⟨26, .guard⟩], some (26, true)⟩) (v := undef) (by exact .inr ⟨by rfl, rfl⟩) ?_
  try simp only [Act.put, sA, sB, sC]
  refine tk (i := 31) (oi := ⟨some 36, .fieldAddr 115 (.tmp 35) 0, 0, "visit.go:27", #[⟨30, .data⟩, ⟨26, .guard⟩], some (26, true)⟩) (v := undef) (by exact .inr ⟨by rfl, rfl⟩) ?_
  try simp only [Act.put, sA, sB, sC]
  refine tk (i := 32) (oi := ⟨some 37, .fieldAddr 66 (.tmp 36) 0, 0, "visit.go:27", #[⟨31, .data⟩, ⟨26, .guard⟩], some (26, true)⟩) (v := undef) (by exact .inr ⟨by rfl, rfl⟩) ?_
  try simp only [Act.put, sA, sB, sC]
  refine tk (i := 33) (oi := ⟨some 38, .fieldAddr 33 (.tmp 37) 0, 0, "visit.go:27", #[⟨32, .data⟩, ⟨26, .guard⟩], some (26, true)⟩) (v := undef) (by exact .inr ⟨by rfl, rfl⟩) ?_
  try simp only [Act.put, sA, sB, sC]
  refine tk (i := 34) (oi := ⟨some 39, .load 31 (.tmp 38), 31, "visit.go:27", #[⟨33, .data⟩, ⟨26, .guard⟩], some (26, true)⟩) (v := undef) (by exact .inr ⟨by rfl, rfl⟩) ?_
  try simp only [Act.put, sA, sB, sC]
  refine tk (i := 35) (oi := ⟨some 40, .call ⟨.value (.func 94), #[.tmp 32, .tmp 39], #[74, 31]⟩, 4, "visit.go:29", #[⟨27, .data⟩, ⟨34, .data⟩, ⟨26, .chain⟩, ⟨26, .guard⟩], some (26, true)⟩) (v := undef) (by exact .inr ⟨by rfl, rfl⟩) ?_
  try simp only [Act.put, sA, sB, sC]
  refine tk (i := 36) (oi := ⟨some 41, .pick (.tmp 31) (.tmp 40) (.const (Value.bool false)), 4, "visit.go:27", #[⟨26, .data⟩, ⟨35, .data⟩, ⟨22, .guard⟩], some (22, false)⟩) (v := undef) (by exact .inr ⟨by rfl, rfl⟩) ?_
  try simp only [Act.put, sA, sB, sC]
  refine tk (i := 37) (oi := ⟨some 42, .pick (.tmp 27) (.const (Value.bool true)) (.tmp 41), 4, "visit.go:27", #[⟨22, .data⟩, ⟨36, .data⟩], none⟩) (v := ?_) (Or.inl ⟨by rfl, ?_⟩) ?_
  rotate_left 1
  ·(intro u hSw; go_simp; try with_reducible rfl)
  try simp only [Act.put, sA, sB, sC]
  refine tk (i := 38) (oi := ⟨some 4, .assign (.tmp 42), 4, "visit.go:27", #[⟨37, .data⟩, ⟨35, .chain⟩, ⟨0, .phase⟩, ⟨1, .phase⟩, ⟨2, .phase⟩, ⟨3, .phase⟩, ⟨4, .phase⟩, ⟨5, .phase⟩, ⟨6, .phase⟩, ⟨7, .phase⟩, ⟨8, .phase⟩, ⟨9, .phase⟩, ⟨10, .phase⟩, ⟨11, .phase⟩, ⟨12, .phase⟩, ⟨13, .phase⟩, ⟨14, .phase⟩, ⟨15, .phase⟩, ⟨16, .phase⟩, ⟨17, .phase⟩, ⟨18, .phase⟩, ⟨19, .phase⟩, ⟨20, .phase⟩, ⟨21, .phase⟩, ⟨22, .phase⟩, ⟨23, .phase⟩, ⟨24, .phase⟩, ⟨25, .phase⟩, ⟨26, .phase⟩, ⟨27, .phase⟩, ⟨28, .phase⟩, ⟨29, .phase⟩, ⟨30, .phase⟩, ⟨31, .phase⟩, ⟨32, .phase⟩, ⟨33, .phase⟩, ⟨34, .phase⟩, ⟨35, .phase⟩, ⟨36, .phase⟩, ⟨37, .phase⟩], none⟩) (v := ?_) (Or.inl ⟨by rfl, ?_⟩) ?_
  rotate_left 1
  ·(intro u hSw; go_simp; try with_reducible rfl)
  try simp only [Act.put, sA, sB, sC]
  refine wpAnyH_done (by kernel_rfl) ?_ _
  have HBE := hid (HB0.out.trans (hb3.mono HB0.out.size))
  go_wp2_with fail
  go_ret
  rw [HR.out]
  exact ⟨rfl, HBE.out⟩
 | false =>
  rw [Bool.false_or] at HR
  have HLO : ∀ lk, lo = some lk → ∃ bl al cl, alo = some ⟨bl, 0, none⟩ ∧ (∀ u, Below ((w.alloc (.cells #[.pointer alo, .pointer ahi] 142)).alloc (.cells #[.slice af fr.length cf, .slice at2 to.length ct, .bool e] 74)).heap.size ((w.alloc (.cells #[.pointer alo, .pointer ahi] 142)).alloc (.cells #[.slice af fr.length cf, .slice at2 to.length ct, .bool e] 74)) u → u.cell? ⟨bl, 0, none⟩ = some (.slice al lk.length cl)) ∧ (∀ u, Below ((w.alloc (.cells #[.pointer alo, .pointer ahi] 142)).alloc (.cells #[.slice af fr.length cf, .slice at2 to.length ct, .bool e] 74)).heap.size ((w.alloc (.cells #[.pointer alo, .pointer ahi] 142)).alloc (.cells #[.slice af fr.length cf, .slice at2 to.length ct, .bool e] 74)) u → Calls Tryd.prog 94 #[.agg #[.slice af fr.length cf, .slice at2 to.length ct, .bool e], .slice al lk.length cl] u fun d w' => d = .returned (.bool (endsQ to e lk)) ∧ Below u.heap.size u w') := fun lk hlk => by
   subst hlk
   obtain ⟨bl, kv, e1, -, hl, hc, hk, grk⟩ := hlo2
   obtain ⟨al, cl, rfl⟩ := hk.form
   injection e1 with e1
   refine ⟨bl, al, cl, e1, fun u hu => (World.cell?_of_block (a := ⟨bl, 0, none⟩) (hu.block bl hl)).trans hc, fun u hu => endsBy_any _ _ _ fr to lk e u ((hf0.below hbb).below hu) ((ht0.below hbb).below hu) (hk.below hu).1 gt grk⟩
  have HHI : ∀ hk', hi = some hk' → ∃ bh ah ch, ahi = some ⟨bh, 0, none⟩ ∧ (∀ u, Below ((w.alloc (.cells #[.pointer alo, .pointer ahi] 142)).alloc (.cells #[.slice af fr.length cf, .slice at2 to.length ct, .bool e] 74)).heap.size ((w.alloc (.cells #[.pointer alo, .pointer ahi] 142)).alloc (.cells #[.slice af fr.length cf, .slice at2 to.length ct, .bool e] 74)) u → u.cell? ⟨bh, 0, none⟩ = some (.slice ah hk'.length ch)) ∧ (∀ u, Below ((w.alloc (.cells #[.pointer alo, .pointer ahi] 142)).alloc (.cells #[.slice af fr.length cf, .slice at2 to.length ct, .bool e] 74)).heap.size ((w.alloc (.cells #[.pointer alo, .pointer ahi] 142)).alloc (.cells #[.slice af fr.length cf, .slice at2 to.length ct, .bool e] 74)) u → Calls Tryd.prog 56 #[.slice ah hk'.length ch, .slice af fr.length cf] u fun d w' => d = .returned (.int .i64 (cmpI hk' fr)) ∧ w' = u) := fun lk hlk => by
   subst hlk
   obtain ⟨bl, kv, e1, -, hl, hc, hk, grk⟩ := hhi2
   obtain ⟨al, cl, rfl⟩ := hk.form
   injection e1 with e1
   refine ⟨bl, al, cl, e1, fun u hu => (World.cell?_of_block (a := ⟨bl, 0, none⟩) (hu.block bl hl)).trans hc, fun u hu => compare_any _ _ lk fr u (hk.below hu).1 ((hf0.below hbb).below hu) grk gf⟩
  cases hi with
  | none =>
   obtain rfl : ahi = none := by injection (show Value.pointer ahi = .pointer none from hhi2)
   cases lo with
   | none =>
    obtain rfl : alo = none := by injection (show Value.pointer alo = .pointer none from hlo2)
    replace HR : Hid (R = false) := HR
    clear hbb gf gt hlo2 hhi2 hf0 ht0 HLO HHI
    go_enter Tryd.func85, Tryd.ntmps85
    go_wp2_with fail
    generalize ((w.alloc (.cells #[.pointer none, .pointer none] 142)).alloc (.cells #[.slice af fr.length cf, .slice at2 to.length ct, .bool e] 74)) = w0 at *
    have hb0 := (Below.refl w0.heap.size w0).drew
    refine wp_region_held_drew (S := fun u => Below w0.heap.size w0 u) (by kernel_rfl) (hb0) (fun hHeld => ?_)
    refine tk (i := 0) (oi := ⟨some 5, .load 74 (.tmp 3), 74, "visit.go:27", #[], none⟩) (v := .agg #[.slice af fr.length cf, .slice at2 to.length ct, .bool e]) (Or.inl ⟨by rfl, ?_⟩) ?_
    ·intro u hSw
     exact exec_load_mid 74 (Operand.tmp 3) rfl (w.heap.size + 1) 0 rfl _ _ (HSP.out _ hSw) Tryd.underlying74 rfl (by kernel_rfl)
    try simp only [Act.put, sA, sB, sC]
    refine tk (i := 1) (oi := ⟨some 6, .fieldAddr 74 (.tmp 3) 0, 0, "visit.go:27", #[], none⟩) (v := ?_) (Or.inl ⟨by rfl, ?_⟩) ?_
    rotate_left 1
    ·(intro u hSw; go_simp; try with_reducible rfl)
    try simp only [Act.put, sA, sB, sC]
    refine tk (i := 2) (oi := ⟨some 7, .load 31 (.tmp 6), 31, "visit.go:27", #[⟨1, .data⟩], none⟩) (v := ?_) (Or.inl ⟨by rfl, ?_⟩) ?_
    rotate_left 1
    ·(intro u hSw; have y0 := (HY.out _ hSw).1; have y1 := (HY.out _ hSw).2; have z0 := HZ.out _ hSw; go_simp; try with_reducible rfl)
    try simp only [Act.put, sA, sB, sC]
    refine wpAnyH_ready (rs := [3]) (by kernel_rfl) (by simp) ?_
    refine (AllReadyH.cons (o := ⟨some 8, .call ⟨.value (.func 94), #[.tmp 5, .tmp 7], #[74, 31]⟩, 4, "visit.go:27", #[⟨0, .data⟩, ⟨2, .data⟩], none⟩) rfl (fun K hK => ?_) AllReadyH.nil)
    go_simp
    refine (HE0.out _ hb0).mono ?_
    rintro d w3 ⟨rfl, hw3⟩
    have hb3 : Below w0.heap.size w0 w3 := hb0.trans (hw3.mono hb0.size)
    clear hw3
    go_wp2_with fail
    refine hK.out _ _ hb3 (fun hHeld => ?_)
    clear hK K
    try simp only [Act.put, sA, sB, sC]
    refine tk (i := 4) (oi := ⟨some 9, .move (.tmp 8), 4, "visit.go:27", #[⟨3, .data⟩, ⟨3, .chain⟩], none⟩) (v := ?_) (Or.inl ⟨by rfl, ?_⟩) ?_
    rotate_left 1
    ·(intro u hSw; go_simp; try with_reducible rfl)
    try simp only [Act.put, sA, sB, sC]
    refine tk (i := 5) (oi := ⟨some 10, .fieldAddr 142 (.tmp 2) 1, 0, "visit.go:27", #[⟨4, .guard⟩], some (4, false)⟩) (v := ?_) (Or.inl ⟨by rfl, ?_⟩) ?_
    rotate_left 1
    ·(intro u hSw; go_simp; try with_reducible rfl)
    try simp only [Act.put, sA, sB, sC]
    refine tk (i := 6) (oi := ⟨some 11, .load 68 (.tmp 10), 68, "visit.go:27", #[⟨5, .data⟩, ⟨4, .guard⟩], some (4, false)⟩) (v := ?_) (Or.inl ⟨by rfl, ?_⟩) ?_
    rotate_left 1
    ·(intro u hSw; have y0 := (HY.out _ hSw).1; have y1 := (HY.out _ hSw).2; have z0 := HZ.out _ hSw; go_simp; try with_reducible rfl)
    try simp only [Act.put, sA, sB, sC]
    refine tk (i := 7) (oi := ⟨some 12, .binOp BinOp.neq 68 (.tmp 11) (.const (Value.pointer none)) 68, 4, "visit.go:27", #[⟨6, .data⟩, ⟨4, .guard⟩], some (4, false)⟩) (v := ?_) (Or.inl ⟨by rfl, ?_⟩) ?_
    rotate_left 1
    ·(intro u hSw; go_simp; try with_reducible rfl)
    try simp only [Act.put, sA, sB, sC]
    refine tk (i := 8) (oi := ⟨some 13, .move (.tmp 12), 4, "visit.go:27", #[⟨7, .data⟩, ⟨4, .chain⟩, ⟨4, .guard⟩], some (4, false)⟩) (v := ?_) (Or.inl ⟨by rfl, ?_⟩) ?_
    rotate_left 1
    ·(intro u hSw; go_simp; try with_reducible rfl)
    try simp only [Act.put, sA, sB, sC]
    refine tk (i := 9) (oi := ⟨some 14, .fieldAddr 142 (.tmp 2) 1, 0, "visit.go:27", #[⟨8, .guard⟩], some (8, true)⟩) (v := undef) (by exact .inr ⟨by rfl, rfl⟩) ?_
    try simp only [Act.put, sA, sB, sC]
    refine tk (i := 10) (oi := ⟨some 15, .load 68 (.tmp 14), 68, "visit.go:27", #[⟨9, .data⟩, ⟨8, .guard⟩], some (8, true)⟩) (v := undef) (by exact .inr ⟨by rfl, rfl⟩) ?_
    try simp only [Act.put, sA, sB, sC]
    refine tk (i := 11) (oi := ⟨some 16, .nilCheck (.tmp 15), 0, "visit.go:27", #[⟨10, .data⟩, ⟨8, .guard⟩], some (8, true)⟩) (v := undef) (by exact .inr ⟨by rfl, rfl⟩) ?_
    try simp only [Act.put, sA, sB, sC]
    refine tk (i := 12) (oi := ⟨some 17, .fieldAddr 115 (.tmp 16) 0, 0, "visit.go:27", #[⟨11, .data⟩, ⟨8, .guard⟩], some (8, true)⟩) (v := undef) (by exact .inr ⟨by rfl, rfl⟩) ?_
    try simp only [Act.put, sA, sB, sC]
    refine tk (i := 13) (oi := ⟨some 18, .fieldAddr 66 (.tmp 17) 0, 0, "visit.go:27", #[⟨12, .data⟩, ⟨8, .guard⟩], some (8, true)⟩) (v := undef) (by exact .inr ⟨by rfl, rfl⟩) ?_
    try simp only [Act.put, sA, sB, sC]
    refine tk (i := 14) (oi := ⟨some 19, .fieldAddr 33 (.tmp 18) 0, 0, "visit.go:27", #[⟨13, .data⟩, ⟨8, .guard⟩], some (8, true)⟩) (v := undef) (by exact .inr ⟨by rfl, rfl⟩) ?_
    try simp only [Act.put, sA, sB, sC]
    refine tk (i := 15) (oi := ⟨some 20, .load 31 (.tmp 19), 31, "visit.go:27", #[⟨14, .data⟩, ⟨8, .guard⟩], some (8, true)⟩) (v := undef) (by exact .inr ⟨by rfl, rfl⟩) ?_
    try simp only [Act.put, sA, sB, sC]
    refine tk (i := 16) (oi := ⟨some 21, .fieldAddr 74 (.tmp 3) 0, 0, "visit.go:27", #[⟨8, .guard⟩], some (8, true)⟩) (v := undef) (by exact .inr ⟨by rfl, rfl⟩) ?_
    try simp only [Act.put, sA, sB, sC]
    refine tk (i := 17) (oi := ⟨some 22, .load 31 (.tmp 21), 31, "visit.go:27", #[⟨16, .data⟩, ⟨8, .guard⟩], some (8, true)⟩) (v := undef) (by exact .inr ⟨by rfl, rfl⟩) ?_
    try simp only [Act.put, sA, sB, sC]
    refine tk (i := 18) (oi := ⟨some 23, .call ⟨.value (.func 56), #[.tmp 20, .tmp 22], #[31, 31]⟩, 3, "visit.go:28", #[⟨15, .data⟩, ⟨17, .data⟩, ⟨8, .chain⟩, ⟨8, .guard⟩], some (8, true)⟩) (v := undef) (by exact .inr ⟨by rfl, rfl⟩) ?_
    try simp only [Act.put, sA, sB, sC]
    refine tk (i := 19) (oi := ⟨some 24, .binOp BinOp.leq 3 (.tmp 23) (.const (Value.int IntKind.i64 0)) 3, 4, "visit.go:27", #[⟨18, .data⟩, ⟨8, .guard⟩], some (8, true)⟩) (v := undef) (by exact .inr ⟨by rfl, rfl⟩) ?_
    try simp only [Act.put, sA, sB, sC]
    refine tk (i := 20) (oi := ⟨some 25, .pick (.tmp 13) (.tmp 24) (.const (Value.bool false)), 4, "visit.go:27", #[⟨8, .data⟩, ⟨19, .data⟩, ⟨4, .guard⟩], some (4, false)⟩) (v := ?_) (Or.inl ⟨by rfl, ?_⟩) ?_
    rotate_left 1
    ·(intro u hSw; go_simp; try with_reducible rfl)
    try simp only [Act.put, sA, sB, sC]
    refine tk (i := 21) (oi := ⟨some 26, .pick (.tmp 9) (.const (Value.bool true)) (.tmp 25), 4, "visit.go:27", #[⟨4, .data⟩, ⟨20, .data⟩], none⟩) (v := ?_) (Or.inl ⟨by rfl, ?_⟩) ?_
    rotate_left 1
    ·(intro u hSw; go_simp; try with_reducible rfl)
    try simp only [Act.put, sA, sB, sC]
    refine tk (i := 22) (oi := ⟨some 27, .move (.tmp 26), 4, "visit.go:27", #[⟨21, .data⟩, ⟨18, .chain⟩], none⟩) (v := ?_) (Or.inl ⟨by rfl, ?_⟩) ?_
    rotate_left 1
    ·(intro u hSw; go_simp; try with_reducible rfl)
    try simp only [Act.put, sA, sB, sC]
    refine tk (i := 23) (oi := ⟨some 28, .fieldAddr 142 (.tmp 2) 0, 0, "visit.go:27", #[⟨22, .guard⟩], some (22, false)⟩) (v := ?_) (Or.inl ⟨by rfl, ?_⟩) ?_
    rotate_left 1
    ·(intro u hSw; go_simp; try with_reducible rfl)
    try simp only [Act.put, sA, sB, sC]
    refine tk (i := 24) (oi := ⟨some 29, .load 68 (.tmp 28), 68, "visit.go:27", #[⟨23, .data⟩, ⟨22, .guard⟩], some (22, false)⟩) (v := ?_) (Or.inl ⟨by rfl, ?_⟩) ?_
    rotate_left 1
    ·(intro u hSw; have y0 := (HY.out _ hSw).1; have y1 := (HY.out _ hSw).2; have z0 := HZ.out _ hSw; go_simp; try with_reducible rfl)
    try simp only [Act.put, sA, sB, sC]
    refine tk (i := 25) (oi := ⟨some 30, .binOp BinOp.neq 68 (.tmp 29) (.const (Value.pointer none)) 68, 4, "visit.go:27", #[⟨24, .data⟩, ⟨22, .guard⟩], some (22, false)⟩) (v := ?_) (Or.inl ⟨by rfl, ?_⟩) ?_
    rotate_left 1
    ·(intro u hSw; go_simp; try with_reducible rfl)
    try simp only [Act.put, sA, sB, sC]
    refine tk (i := 26) (oi := ⟨some 31, .move (.tmp 30), 4, "visit.go:27", #[⟨25, .data⟩, ⟨22, .chain⟩, ⟨22, .guard⟩], some (22, false)⟩) (v := ?_) (Or.inl ⟨by rfl, ?_⟩) ?_
    rotate_left 1
    ·(intro u hSw; go_simp; try with_reducible rfl)
    try simp only [Act.put, sA, sB, sC]
    refine tk (i := 27) (oi := ⟨some 32, .load 74 (.tmp 3), 74, "visit.go:27", #[⟨26, .guard⟩], some (26, true)⟩) (v := undef) (by exact .inr ⟨by rfl, rfl⟩) ?_
    try simp only [Act.put, sA, sB, sC]
    refine tk (i := 28) (oi := ⟨some 33, .fieldAddr 142 (.tmp 2) 0, 0, "visit.go:27", #[⟨26, .guard⟩], some (26, true)⟩) (v := undef) (by exact .inr ⟨by rfl, rfl⟩) ?_
    try simp only [Act.put, sA, sB, sC]
    refine tk (i := 29) (oi := ⟨some 34, .load 68 (.tmp 33), 68, "visit.go:27", #[⟨28, .data⟩, ⟨26, .guard⟩], some (26, true)⟩) (v := undef) (by exact .inr ⟨by rfl, rfl⟩) ?_
    try simp only [Act.put, sA, sB, sC]
    refine tk (i := 30) (oi := ⟨some 35, .nilCheck (.tmp 34), 0, "visit.go:27", #[⟨29, .data⟩, ⟨26, .guard⟩], some (26, true)⟩) (v := undef) (by exact .inr ⟨by rfl, rfl⟩) ?_
    try simp only [Act.put, sA, sB, sC]
    refine tk (i := 31) (oi := ⟨some 36, .fieldAddr 115 (.tmp 35) 0, 0, "visit.go:27", #[⟨30, .data⟩, ⟨26, .guard⟩], some (26, true)⟩) (v := undef) (by exact .inr ⟨by rfl, rfl⟩) ?_
    try simp only [Act.put, sA, sB, sC]
    refine tk (i := 32) (oi := ⟨some 37, .fieldAddr 66 (.tmp 36) 0, 0, "visit.go:27", #[⟨31, .data⟩, ⟨26, .guard⟩], some (26, true)⟩) (v := undef) (by exact .inr ⟨by rfl, rfl⟩) ?_
    try simp only [Act.put, sA, sB, sC]
    refine tk (i := 33) (oi := ⟨some 38, .fieldAddr 33 (.tmp 37) 0, 0, "visit.go:27", #[⟨32, .data⟩, ⟨26, .guard⟩], some (26, true)⟩) (v := undef) (by exact .inr ⟨by rfl, rfl⟩) ?_
    try simp only [Act.put, sA, sB, sC]
    refine tk (i := 34) (oi := ⟨some 39, .load 31 (.tmp 38), 31, "visit.go:27", #[⟨33, .data⟩, ⟨26, .guard⟩], some (26, true)⟩) (v := undef) (by exact .inr ⟨by rfl, rfl⟩) ?_
    try simp only [Act.put, sA, sB, sC]
    refine tk (i := 35) (oi := ⟨some 40, .call ⟨.value (.func 94), #[.tmp 32, .tmp 39], #[74, 31]⟩, 4, "visit.go:29", #[⟨27, .data⟩, ⟨34, .data⟩, ⟨26, .chain⟩, ⟨26, .guard⟩], some (26, true)⟩) (v := undef) (by exact .inr ⟨by rfl, rfl⟩) ?_
    try simp only [Act.put, sA, sB, sC]
    refine tk (i := 36) (oi := ⟨some 41, .pick (.tmp 31) (.tmp 40) (.const (Value.bool false)), 4, "visit.go:27", #[⟨26, .data⟩, ⟨35, .data⟩, ⟨22, .guard⟩], some (22, false)⟩) (v := ?_) (Or.inl ⟨by rfl, ?_⟩) ?_
    rotate_left 1
    ·(intro u hSw; go_simp; try with_reducible rfl)
    try simp only [Act.put, sA, sB, sC]
    refine tk (i := 37) (oi := ⟨some 42, .pick (.tmp 27) (.const (Value.bool true)) (.tmp 41), 4, "visit.go:27", #[⟨22, .data⟩, ⟨36, .data⟩], none⟩) (v := ?_) (Or.inl ⟨by rfl, ?_⟩) ?_
    rotate_left 1
    ·(intro u hSw; go_simp; try with_reducible rfl)
    try simp only [Act.put, sA, sB, sC]
    refine tk (i := 38) (oi := ⟨some 4, .assign (.tmp 42), 4, "visit.go:27", #[⟨37, .data⟩, ⟨35, .chain⟩, ⟨0, .phase⟩, ⟨1, .phase⟩, ⟨2, .phase⟩, ⟨3, .phase⟩, ⟨4, .phase⟩, ⟨5, .phase⟩, ⟨6, .phase⟩, ⟨7, .phase⟩, ⟨8, .phase⟩, ⟨9, .phase⟩, ⟨10, .phase⟩, ⟨11, .phase⟩, ⟨12, .phase⟩, ⟨13, .phase⟩, ⟨14, .phase⟩, ⟨15, .phase⟩, ⟨16, .phase⟩, ⟨17, .phase⟩, ⟨18, .phase⟩, ⟨19, .phase⟩, ⟨20, .phase⟩, ⟨21, .phase⟩, ⟨22, .phase⟩, ⟨23, .phase⟩, ⟨24, .phase⟩, ⟨25, .phase⟩, ⟨26, .phase⟩, ⟨27, .phase⟩, ⟨28, .phase⟩, ⟨29, .phase⟩, ⟨30, .phase⟩, ⟨31, .phase⟩, ⟨32, .phase⟩, ⟨33, .phase⟩, ⟨34, .phase⟩, ⟨35, .phase⟩, ⟨36, .phase⟩, ⟨37, .phase⟩], none⟩) (v := ?_) (Or.inl ⟨by rfl, ?_⟩) ?_
    rotate_left 1
    ·(intro u hSw; go_simp; try with_reducible rfl)
    try simp only [Act.put, sA, sB, sC]
    refine wpAnyH_done (by kernel_rfl) ?_ _
    have HBE := hid (HB0.out.trans (hb3.mono HB0.out.size))
    go_wp2_with fail
    go_ret
    rw [HR.out]
    exact ⟨rfl, HBE.out⟩
   | some lk =>
    obtain ⟨bl, al, cl, rfl, hpl, he2⟩ := HLO lk rfl
    replace HR : Hid (R = endsQ to e lk) := hid (HR.out.trans (Bool.false_or _))
    have HPL := hid hpl
    have HE2 := hid he2
    generalize hgen : endsQ to e lk = q2 at *
    clear hbb gf gt hlo2 hhi2 hf0 ht0 HLO HHI hpl he2 hgen
    cases q2 with
    | true =>
     go_enter Tryd.func85, Tryd.ntmps85
     go_wp2_with fail
     generalize ((w.alloc (.cells #[.pointer (some ⟨bl, 0, none⟩), .pointer none] 142)).alloc (.cells #[.slice af fr.length cf, .slice at2 to.length ct, .bool e] 74)) = w0 at *
     have hb0 := (Below.refl w0.heap.size w0).drew
     refine wp_region_held_drew (S := fun u => Below w0.heap.size w0 u) (by kernel_rfl) (hb0) (fun hHeld => ?_)
     refine tk (i := 0) (oi := ⟨some 5, .load 74 (.tmp 3), 74, "visit.go:27", #[], none⟩) (v := .agg #[.slice af fr.length cf, .slice at2 to.length ct, .bool e]) (Or.inl ⟨by rfl, ?_⟩) ?_
     ·intro u hSw
      exact exec_load_mid 74 (Operand.tmp 3) rfl (w.heap.size + 1) 0 rfl _ _ (HSP.out _ hSw) Tryd.underlying74 rfl (by kernel_rfl)
     try simp only [Act.put, sA, sB, sC]
     refine tk (i := 1) (oi := ⟨some 6, .fieldAddr 74 (.tmp 3) 0, 0, "visit.go:27", #[], none⟩) (v := ?_) (Or.inl ⟨by rfl, ?_⟩) ?_
     rotate_left 1
     ·(intro u hSw; go_simp; try with_reducible rfl)
     try simp only [Act.put, sA, sB, sC]
     refine tk (i := 2) (oi := ⟨some 7, .load 31 (.tmp 6), 31, "visit.go:27", #[⟨1, .data⟩], none⟩) (v := ?_) (Or.inl ⟨by rfl, ?_⟩) ?_
     rotate_left 1
     ·(intro u hSw; have y0 := (HY.out _ hSw).1; have y1 := (HY.out _ hSw).2; have z0 := HZ.out _ hSw; have p0 := HPL.out _ hSw; go_simp; try with_reducible rfl)
     try simp only [Act.put, sA, sB, sC]
     refine wpAnyH_ready (rs := [3]) (by kernel_rfl) (by simp) ?_
     refine (AllReadyH.cons (o := ⟨some 8, .call ⟨.value (.func 94), #[.tmp 5, .tmp 7], #[74, 31]⟩, 4, "visit.go:27", #[⟨0, .data⟩, ⟨2, .data⟩], none⟩) rfl (fun K hK => ?_) AllReadyH.nil)
     go_simp
     refine (HE0.out _ hb0).mono ?_
     rintro d w3 ⟨rfl, hw3⟩
     have hb3 : Below w0.heap.size w0 w3 := hb0.trans (hw3.mono hb0.size)
     clear hw3
     go_wp2_with fail
     refine hK.out _ _ hb3 (fun hHeld => ?_)
     clear hK K
     try simp only [Act.put, sA, sB, sC]
     refine tk (i := 4) (oi := ⟨some 9, .move (.tmp 8), 4, "visit.go:27", #[⟨3, .data⟩, ⟨3, .chain⟩], none⟩) (v := ?_) (Or.inl ⟨by rfl, ?_⟩) ?_
     rotate_left 1
     ·(intro u hSw; go_simp; try with_reducible rfl)
     try simp only [Act.put, sA, sB, sC]
     refine tk (i := 5) (oi := ⟨some 10, .fieldAddr 142 (.tmp 2) 1, 0, "visit.go:27", #[⟨4, .guard⟩], some (4, false)⟩) (v := ?_) (Or.inl ⟨by rfl, ?_⟩) ?_
     rotate_left 1
     ·(intro u hSw; go_simp; try with_reducible rfl)
     try simp only [Act.put, sA, sB, sC]
     refine tk (i := 6) (oi := ⟨some 11, .load 68 (.tmp 10), 68, "visit.go:27", #[⟨5, .data⟩, ⟨4, .guard⟩], some (4, false)⟩) (v := ?_) (Or.inl ⟨by rfl, ?_⟩) ?_
     rotate_left 1
     ·(intro u hSw; have y0 := (HY.out _ hSw).1; have y1 := (HY.out _ hSw).2; have z0 := HZ.out _ hSw; have p0 := HPL.out _ hSw; go_simp; try with_reducible rfl)
     try simp only [Act.put, sA, sB, sC]
     refine tk (i := 7) (oi := ⟨some 12, .binOp BinOp.neq 68 (.tmp 11) (.const (Value.pointer none)) 68, 4, "visit.go:27", #[⟨6, .data⟩, ⟨4, .guard⟩], some (4, false)⟩) (v := ?_) (Or.inl ⟨by rfl, ?_⟩) ?_
     rotate_left 1
     ·(intro u hSw; go_simp; try with_reducible rfl)
     try simp only [Act.put, sA, sB, sC]
     refine tk (i := 8) (oi := ⟨some 13, .move (.tmp 12), 4, "visit.go:27", #[⟨7, .data⟩, ⟨4, .chain⟩, ⟨4, .guard⟩], some (4, false)⟩) (v := ?_) (Or.inl ⟨by rfl, ?_⟩) ?_
     rotate_left 1
     ·(intro u hSw; go_simp; try with_reducible rfl)
     try simp only [Act.put, sA, sB, sC]
     refine tk (i := 9) (oi := ⟨some 14, .fieldAddr 142 (.tmp 2) 1, 0, "visit.go:27", #[⟨8, .guard⟩], some (8, true)⟩) (v := undef) (by exact .inr ⟨by rfl, rfl⟩) ?_
     try simp only [Act.put, sA, sB, sC]
     refine tk (i := 10) (oi := ⟨some 15, .load 68 (.tmp 14), 68, "visit.go:27", #[⟨9, .data⟩, ⟨8, .guard⟩], some (8, true)⟩) (v := undef) (by exact .inr ⟨by rfl, rfl⟩) ?_
     try simp only [Act.put, sA, sB, sC]
     refine tk (i := 11) (oi := ⟨some 16, .nilCheck (.tmp 15), 0, "visit.go:27", #[⟨10, .data⟩, ⟨8, .guard⟩], some (8, true)⟩) (v := undef) (by exact .inr ⟨by rfl, rfl⟩) ?_
     try simp only [Act.put, sA, sB, sC]
     refine tk (i := 12) (oi := ⟨some 17, .fieldAddr 115 (.tmp 16) 0, 0, "visit.go:27", #[⟨11, .data⟩, ⟨8, .guard⟩], some (8, true)⟩) (v := undef) (by exact .inr ⟨by rfl, rfl⟩) ?_
     try simp only [Act.put, sA, sB, sC]
     refine tk (i := 13) (oi := ⟨some 18, .fieldAddr 66 (.tmp 17) 0, 0, "visit.go:27", #[⟨12, .data⟩, ⟨8, .guard⟩], some (8, true)⟩) (v := undef) (by exact .inr ⟨by rfl, rfl⟩) ?_
     try simp only [Act.put, sA, sB, sC]
     refine tk (i := 14) (oi := ⟨some 19, .fieldAddr 33 (.tmp 18) 0, 0, "visit.go:27", #[⟨13, .data⟩, ⟨8, .guard⟩], some (8, true)⟩) (v := undef) (by exact .inr ⟨by rfl, rfl⟩) ?_
     try simp only [Act.put, sA, sB, sC]
     refine tk (i := 15) (oi := ⟨some 20, .load 31 (.tmp 19), 31, "visit.go:27", #[⟨14, .data⟩, ⟨8, .guard⟩], some (8, true)⟩) (v := undef) (by exact .inr ⟨by rfl, rfl⟩) ?_
     try simp only [Act.put, sA, sB, sC]
     refine tk (i := 16) (oi := ⟨some 21, .fieldAddr 74 (.tmp 3) 0, 0, "visit.go:27", #[⟨8, .guard⟩], some (8, true)⟩) (v := undef) (by exact .inr ⟨by rfl, rfl⟩) ?_
     try simp only [Act.put, sA, sB, sC]
     refine tk (i := 17) (oi := ⟨some 22, .load 31 (.tmp 21), 31, "visit.go:27", #[⟨16, .data⟩, ⟨8, .guard⟩], some (8, true)⟩) (v := undef) (by exact .inr ⟨by rfl, rfl⟩) ?_
     try simp only [Act.put, sA, sB, sC]
     refine tk (i := 18) (oi := ⟨some 23, .call ⟨.value (.func 56), #[.tmp 20, .tmp 22], #[31, 31]⟩, 3, "visit.go:28", #[⟨15, .data⟩, ⟨17, .data⟩, ⟨8, .chain⟩, ⟨8, .guard⟩], some (8, true)⟩) (v := undef) (by exact .inr ⟨by rfl, rfl⟩) ?_
     try simp only [Act.put, sA, sB, sC]
     refine tk (i := 19) (oi := ⟨some 24, .binOp BinOp.leq 3 (.tmp 23) (.const (Value.int IntKind.i64 0)) 3, 4, "visit.go:27", #[⟨18, .data⟩, ⟨8, .guard⟩], some (8, true)⟩) (v := undef) (by exact .inr ⟨by rfl, rfl⟩) ?_
     try simp only [Act.put, sA, sB, sC]
     refine tk (i := 20) (oi := ⟨some 25, .pick (.tmp 13) (.tmp 24) (.const (Value.bool false)), 4, "visit.go:27", #[⟨8, .data⟩, ⟨19, .data⟩, ⟨4, .guard⟩], some (4, false)⟩) (v := ?_) (Or.inl ⟨by rfl, ?_⟩) ?_
     rotate_left 1
     ·(intro u hSw; go_simp; try with_reducible rfl)
     try simp only [Act.put, sA, sB, sC]
     refine tk (i := 21) (oi := ⟨some 26, .pick (.tmp 9) (.const (Value.bool true)) (.tmp 25), 4, "visit.go:27", #[⟨4, .data⟩, ⟨20, .data⟩], none⟩) (v := ?_) (Or.inl ⟨by rfl, ?_⟩) ?_
     rotate_left 1
     ·(intro u hSw; go_simp; try with_reducible rfl)
     try simp only [Act.put, sA, sB, sC]
     refine tk (i := 22) (oi := ⟨some 27, .move (.tmp 26), 4, "visit.go:27", #[⟨21, .data⟩, ⟨18, .chain⟩], none⟩) (v := ?_) (Or.inl ⟨by rfl, ?_⟩) ?_
     rotate_left 1
     ·(intro u hSw; go_simp; try with_reducible rfl)
     try simp only [Act.put, sA, sB, sC]
     refine tk (i := 23) (oi := ⟨some 28, .fieldAddr 142 (.tmp 2) 0, 0, "visit.go:27", #[⟨22, .guard⟩], some (22, false)⟩) (v := ?_) (Or.inl ⟨by rfl, ?_⟩) ?_
     rotate_left 1
     ·(intro u hSw; go_simp; try with_reducible rfl)
     try simp only [Act.put, sA, sB, sC]
     refine tk (i := 24) (oi := ⟨some 29, .load 68 (.tmp 28), 68, "visit.go:27", #[⟨23, .data⟩, ⟨22, .guard⟩], some (22, false)⟩) (v := ?_) (Or.inl ⟨by rfl, ?_⟩) ?_
     rotate_left 1
     ·(intro u hSw; have y0 := (HY.out _ hSw).1; have y1 := (HY.out _ hSw).2; have z0 := HZ.out _ hSw; have p0 := HPL.out _ hSw; go_simp; try with_reducible rfl)
     try simp only [Act.put, sA, sB, sC]
     refine tk (i := 25) (oi := ⟨some 30, .binOp BinOp.neq 68 (.tmp 29) (.const (Value.pointer none)) 68, 4, "visit.go:27", #[⟨24, .data⟩, ⟨22, .guard⟩], some (22, false)⟩) (v := ?_) (Or.inl ⟨by rfl, ?_⟩) ?_
     rotate_left 1
     ·(intro u hSw; go_simp; try with_reducible rfl)
     try simp only [Act.put, sA, sB, sC]
     refine tk (i := 26) (oi := ⟨some 31, .move (.tmp 30), 4, "visit.go:27", #[⟨25, .data⟩, ⟨22, .chain⟩, ⟨22, .guard⟩], some (22, false)⟩) (v := ?_) (Or.inl ⟨by rfl, ?_⟩) ?_
     rotate_left 1
     ·(intro u hSw; go_simp; try with_reducible rfl)
     try simp only [Act.put, sA, sB, sC]
     refine tk (i := 27) (oi := ⟨some 32, .load 74 (.tmp 3), 74, "visit.go:27", #[⟨26, .guard⟩], some (26, true)⟩) (v := .agg #[.slice af fr.length cf, .slice at2 to.length ct, .bool e]) (Or.inl ⟨by rfl, ?_⟩) ?_
     ·intro u hSw
      exact exec_load_mid 74 (Operand.tmp 3) rfl (w.heap.size + 1) 0 rfl _ _ (HSP.out _ hSw) Tryd.underlying74 rfl (by kernel_rfl)
     try simp only [Act.put, sA, sB, sC]
     refine tk (i := 28) (oi := ⟨some 33, .fieldAddr 142 (.tmp 2) 0, 0, "visit.go:27", #[⟨26, .guard⟩], some (26, true)⟩) (v := ?_) (Or.inl ⟨by rfl, ?_⟩) ?_
     rotate_left 1
     ·(intro u hSw; go_simp; try with_reducible rfl)
     try simp only [Act.put, sA, sB, sC]
     refine tk (i := 29) (oi := ⟨some 34, .load 68 (.tmp 33), 68, "visit.go:27", #[⟨28, .data⟩, ⟨26, .guard⟩], some (26, true)⟩) (v := ?_) (Or.inl ⟨by rfl, ?_⟩) ?_
     rotate_left 1
     ·(intro u hSw; have y0 := (HY.out _ hSw).1; have y1 := (HY.out _ hSw).2; have z0 := HZ.out _ hSw; have p0 := HPL.out _ hSw; go_simp; try with_reducible rfl)
     try simp only [Act.put, sA, sB, sC]
     refine tk (i := 30) (oi := ⟨some 35, .nilCheck (.tmp 34), 0, "visit.go:27", #[⟨29, .data⟩, ⟨26, .guard⟩], some (26, true)⟩) (v := ?_) (Or.inl ⟨by rfl, ?_⟩) ?_
     rotate_left 1
     ·(intro u hSw; go_simp; try with_reducible rfl)
     try simp only [Act.put, sA, sB, sC]
     refine tk (i := 31) (oi := ⟨some 36, .fieldAddr 115 (.tmp 35) 0, 0, "visit.go:27", #[⟨30, .data⟩, ⟨26, .guard⟩], some (26, true)⟩) (v := ?_) (Or.inl ⟨by rfl, ?_⟩) ?_
     rotate_left 1
     ·(intro u hSw; go_simp; try with_reducible rfl)
     try simp only [Act.put, sA, sB, sC]
     refine tk (i := 32) (oi := ⟨some 37, .fieldAddr 66 (.tmp 36) 0, 0, "visit.go:27", #[⟨31, .data⟩, ⟨26, .guard⟩], some (26, true)⟩) (v := ?_) (Or.inl ⟨by rfl, ?_⟩) ?_
     rotate_left 1
     ·(intro u hSw; go_simp; try with_reducible rfl)
     try simp only [Act.put, sA, sB, sC]
     refine tk (i := 33) (oi := ⟨some 38, .fieldAddr 33 (.tmp 37) 0, 0, "visit.go:27", #[⟨32, .data⟩, ⟨26, .guard⟩], some (26, true)⟩) (v := ?_) (Or.inl ⟨by rfl, ?_⟩) ?_
     rotate_left 1
     ·(intro u hSw; go_simp; try with_reducible rfl)
     try simp only [Act.put, sA, sB, sC]
     refine tk (i := 34) (oi := ⟨some 39, .load 31 (.tmp 38), 31, "visit.go:27", #[⟨33, .data⟩, ⟨26, .guard⟩], some (26, true)⟩) (v := ?_) (Or.inl ⟨by rfl, ?_⟩) ?_
     rotate_left 1
     ·(intro u hSw; have y0 := (HY.out _ hSw).1; have y1 := (HY.out _ hSw).2; have z0 := HZ.out _ hSw; have p0 := HPL.out _ hSw; go_simp; try with_reducible rfl)
     try simp only [Act.put, sA, sB, sC]
     refine wpAnyH_ready (rs := [35]) (by kernel_rfl) (by simp) ?_
     refine (AllReadyH.cons (o := ⟨some 40, .call ⟨.value (.func 94), #[.tmp 32, .tmp 39], #[74, 31]⟩, 4, "visit.go:29", #[⟨27, .data⟩, ⟨34, .data⟩, ⟨26, .chain⟩, ⟨26, .guard⟩], some (26, true)⟩) rfl (fun K hK => ?_) AllReadyH.nil)
     go_simp
     refine (HE2.out _ hb3).mono ?_
     rintro d w35 ⟨rfl, hw35⟩
     have hb35 : Below w0.heap.size w0 w35 := hb3.trans (hw35.mono hb3.size)
     clear hw35
     go_wp2_with fail
     refine hK.out _ _ hb35 (fun hHeld => ?_)
     clear hK K
     try simp only [Act.put, sA, sB, sC]
     refine tk (i := 36) (oi := ⟨some 41, .pick (.tmp 31) (.tmp 40) (.const (Value.bool false)), 4, "visit.go:27", #[⟨26, .data⟩, ⟨35, .data⟩, ⟨22, .guard⟩], some (22, false)⟩) (v := ?_) (Or.inl ⟨by rfl, ?_⟩) ?_
     rotate_left 1
     ·(intro u hSw; go_simp; try with_reducible rfl)
     try simp only [Act.put, sA, sB, sC]
     refine tk (i := 37) (oi := ⟨some 42, .pick (.tmp 27) (.const (Value.bool true)) (.tmp 41), 4, "visit.go:27", #[⟨22, .data⟩, ⟨36, .data⟩], none⟩) (v := ?_) (Or.inl ⟨by rfl, ?_⟩) ?_
     rotate_left 1
     ·(intro u hSw; go_simp; try with_reducible rfl)
     try simp only [Act.put, sA, sB, sC]
     refine tk (i := 38) (oi := ⟨some 4, .assign (.tmp 42), 4, "visit.go:27", #[⟨37, .data⟩, ⟨35, .chain⟩, ⟨0, .phase⟩, ⟨1, .phase⟩, ⟨2, .phase⟩, ⟨3, .phase⟩, ⟨4, .phase⟩, ⟨5, .phase⟩, ⟨6, .phase⟩, ⟨7, .phase⟩, ⟨8, .phase⟩, ⟨9, .phase⟩, ⟨10, .phase⟩, ⟨11, .phase⟩, ⟨12, .phase⟩, ⟨13, .phase⟩, ⟨14, .phase⟩, ⟨15, .phase⟩, ⟨16, .phase⟩, ⟨17, .phase⟩, ⟨18, .phase⟩, ⟨19, .phase⟩, ⟨20, .phase⟩, ⟨21, .phase⟩, ⟨22, .phase⟩, ⟨23, .phase⟩, ⟨24, .phase⟩, ⟨25, .phase⟩, ⟨26, .phase⟩, ⟨27, .phase⟩, ⟨28, .phase⟩, ⟨29, .phase⟩, ⟨30, .phase⟩, ⟨31, .phase⟩, ⟨32, .phase⟩, ⟨33, .phase⟩, ⟨34, .phase⟩, ⟨35, .phase⟩, ⟨36, .phase⟩, ⟨37, .phase⟩], none⟩) (v := ?_) (Or.inl ⟨by rfl, ?_⟩) ?_
     rotate_left 1
     ·(intro u hSw; go_simp; try with_reducible rfl)
     try simp only [Act.put, sA, sB, sC]
     refine wpAnyH_done (by kernel_rfl) ?_ _
     have HBE := hid (HB0.out.trans (hb35.mono HB0.out.size))
     go_wp2_with fail
     go_ret
     rw [HR.out]
     exact ⟨rfl, HBE.out⟩
    | false =>
     go_enter Tryd.func85, Tryd.ntmps85
     go_wp2_with fail
     generalize ((w.alloc (.cells #[.pointer (some ⟨bl, 0, none⟩), .pointer none] 142)).alloc (.cells #[.slice af fr.length cf, .slice at2 to.length ct, .bool e] 74)) = w0 at *
     have hb0 := (Below.refl w0.heap.size w0).drew
     refine wp_region_held_drew (S := fun u => Below w0.heap.size w0 u) (by kernel_rfl) (hb0) (fun hHeld => ?_)
     refine tk (i := 0) (oi := ⟨some 5, .load 74 (.tmp 3), 74, "visit.go:27", #[], none⟩) (v := .agg #[.slice af fr.length cf, .slice at2 to.length ct, .bool e]) (Or.inl ⟨by rfl, ?_⟩) ?_
     ·intro u hSw
      exact exec_load_mid 74 (Operand.tmp 3) rfl (w.heap.size + 1) 0 rfl _ _ (HSP.out _ hSw) Tryd.underlying74 rfl (by kernel_rfl)
     try simp only [Act.put, sA, sB, sC]
     refine tk (i := 1) (oi := ⟨some 6, .fieldAddr 74 (.tmp 3) 0, 0, "visit.go:27", #[], none⟩) (v := ?_) (Or.inl ⟨by rfl, ?_⟩) ?_
     rotate_left 1
     ·(intro u hSw; go_simp; try with_reducible rfl)
     try simp only [Act.put, sA, sB, sC]
     refine tk (i := 2) (oi := ⟨some 7, .load 31 (.tmp 6), 31, "visit.go:27", #[⟨1, .data⟩], none⟩) (v := ?_) (Or.inl ⟨by rfl, ?_⟩) ?_
     rotate_left 1
     ·(intro u hSw; have y0 := (HY.out _ hSw).1; have y1 := (HY.out _ hSw).2; have z0 := HZ.out _ hSw; have p0 := HPL.out _ hSw; go_simp; try with_reducible rfl)
     try simp only [Act.put, sA, sB, sC]
     refine wpAnyH_ready (rs := [3]) (by kernel_rfl) (by simp) ?_
     refine (AllReadyH.cons (o := ⟨some 8, .call ⟨.value (.func 94), #[.tmp 5, .tmp 7], #[74, 31]⟩, 4, "visit.go:27", #[⟨0, .data⟩, ⟨2, .data⟩], none⟩) rfl (fun K hK => ?_) AllReadyH.nil)
     go_simp
     refine (HE0.out _ hb0).mono ?_
     rintro d w3 ⟨rfl, hw3⟩
     have hb3 : Below w0.heap.size w0 w3 := hb0.trans (hw3.mono hb0.size)
     clear hw3
     go_wp2_with fail
     refine hK.out _ _ hb3 (fun hHeld => ?_)
     clear hK K
     try simp only [Act.put, sA, sB, sC]
     refine tk (i := 4) (oi := ⟨some 9, .move (.tmp 8), 4, "visit.go:27", #[⟨3, .data⟩, ⟨3, .chain⟩], none⟩) (v := ?_) (Or.inl ⟨by rfl, ?_⟩) ?_
     rotate_left 1
     ·(intro u hSw; go_simp; try with_reducible rfl)
     try simp only [Act.put, sA, sB, sC]
     refine tk (i := 5) (oi := ⟨some 10, .fieldAddr 142 (.tmp 2) 1, 0, "visit.go:27", #[⟨4, .guard⟩], some (4, false)⟩) (v := ?_) (Or.inl ⟨by rfl, ?_⟩) ?_
     rotate_left 1
     ·(intro u hSw; go_simp; try with_reducible rfl)
     try simp only [Act.put, sA, sB, sC]
     refine tk (i := 6) (oi := ⟨some 11, .load 68 (.tmp 10), 68, "visit.go:27", #[⟨5, .data⟩, ⟨4, .guard⟩], some (4, false)⟩) (v := ?_) (Or.inl ⟨by rfl, ?_⟩) ?_
     rotate_left 1
     ·(intro u hSw; have y0 := (HY.out _ hSw).1; have y1 := (HY.out _ hSw).2; have z0 := HZ.out _ hSw; have p0 := HPL.out _ hSw; go_simp; try with_reducible rfl)
     try simp only [Act.put, sA, sB, sC]
     refine tk (i := 7) (oi := ⟨some 12, .binOp BinOp.neq 68 (.tmp 11) (.const (Value.pointer none)) 68, 4, "visit.go:27", #[⟨6, .data⟩, ⟨4, .guard⟩], some (4, false)⟩) (v := ?_) (Or.inl ⟨by rfl, ?_⟩) ?_
     rotate_left 1
     ·(intro u hSw; go_simp; try with_reducible rfl)
     try simp only [Act.put, sA, sB, sC]
     refine tk (i := 8) (oi := ⟨some 13, .move (.tmp 12), 4, "visit.go:27", #[⟨7, .data⟩, ⟨4, .chain⟩, ⟨4, .guard⟩], some (4, false)⟩) (v := ?_) (Or.inl ⟨by rfl, ?_⟩) ?_
     rotate_left 1
     ·(intro u hSw; go_simp; try with_reducible rfl)
     try simp only [Act.put, sA, sB, sC]
     refine tk (i := 9) (oi := ⟨some 14, .fieldAddr 142 (.tmp 2) 1, 0, "visit.go:27", #[⟨8, .guard⟩], some (8, true)⟩) (v := undef) (by exact .inr ⟨by rfl, rfl⟩) ?_
     try simp only [Act.put, sA, sB, sC]
     refine tk (i := 10) (oi := ⟨some 15, .load 68 (.tmp 14), 68, "visit.go:27", #[⟨9, .data⟩, ⟨8, .guard⟩], some (8, true)⟩) (v := undef) (by exact .inr ⟨by rfl, rfl⟩) ?_
     try simp only [Act.put, sA, sB, sC]
     refine tk (i := 11) (oi := ⟨some 16, .nilCheck (.tmp 15), 0, "visit.go:27", #[⟨10, .data⟩, ⟨8, .guard⟩], some (8, true)⟩) (v := undef) (by exact .inr ⟨by rfl, rfl⟩) ?_
     try simp only [Act.put, sA, sB, sC]
     refine tk (i := 12) (oi := ⟨some 17, .fieldAddr 115 (.tmp 16) 0, 0, "visit.go:27", #[⟨11, .data⟩, ⟨8, .guard⟩], some (8, true)⟩) (v := undef) (by exact .inr ⟨by rfl, rfl⟩) ?_
     try simp only [Act.put, sA, sB, sC]
     refine tk (i := 13) (oi := ⟨some 18, .fieldAddr 66 (.tmp 17) 0, 0, "visit.go:27", #[⟨12, .data⟩, ⟨8, .guard⟩], some (8, true)⟩) (v := undef) (by exact .inr ⟨by rfl, rfl⟩) ?_
     try simp only [Act.put, sA, sB, sC]
     refine tk (i := 14) (oi := ⟨some 19, .fieldAddr 33 (.tmp 18) 0, 0, "visit.go:27", #[⟨13, .data⟩, ⟨8, .guard⟩], some (8, true)⟩) (v := undef) (by exact .inr ⟨by rfl, rfl⟩) ?_
     try simp only [Act.put, sA, sB, sC]
     refine tk (i := 15) (oi := ⟨some 20, .load 31 (.tmp 19), 31, "visit.go:27", #[⟨14, .data⟩, ⟨8, .guard⟩], some (8, true)⟩) (v := undef) (by exact .inr ⟨by rfl, rfl⟩) ?_
     try simp only [Act.put, sA, sB, sC]
     refine tk (i := 16) (oi := ⟨some 21, .fieldAddr 74 (.tmp 3) 0, 0, "visit.go:27", #[⟨8, .guard⟩], some (8, true)⟩) (v := undef) (by exact .inr ⟨by rfl, rfl⟩) ?_
     try simp only [Act.put, sA, sB, sC]
     refine tk (i := 17) (oi := ⟨some 22, .load 31 (.tmp 21), 31, "visit.go:27", #[⟨16, .data⟩, ⟨8, .guard⟩], some (8, true)⟩) (v := undef) (by exact .inr ⟨by rfl, rfl⟩) ?_
     try simp only [Act.put, sA, sB, sC]
     refine tk (i := 18) (oi := ⟨some 23, .call ⟨.value (.func 56), #[.tmp 20, .tmp 22], #[31, 31]⟩, 3, "visit.go:28", #[⟨15, .data⟩, ⟨17, .data⟩, ⟨8, .chain⟩, ⟨8, .guard⟩], some (8, true)⟩) (v := undef) (by exact .inr ⟨by rfl, rfl⟩) ?_
     try simp only [Act.put, sA, sB, sC]
     refine tk (i := 19) (oi := ⟨some 24, .binOp BinOp.leq 3 (.tmp 23) (.const (Value.int IntKind.i64 0)) 3, 4, "visit.go:27", #[⟨18, .data⟩, ⟨8, .guard⟩], some (8, true)⟩) (v := undef) (by exact .inr ⟨by rfl, rfl⟩) ?_
     try simp only [Act.put, sA, sB, sC]
     refine tk (i := 20) (oi := ⟨some 25, .pick (.tmp 13) (.tmp 24) (.const (Value.bool false)), 4, "visit.go:27", #[⟨8, .data⟩, ⟨19, .data⟩, ⟨4, .guard⟩], some (4, false)⟩) (v := ?_) (Or.inl ⟨by rfl, ?_⟩) ?_
     rotate_left 1
     ·(intro u hSw; go_simp; try with_reducible rfl)
     try simp only [Act.put, sA, sB, sC]
     refine tk (i := 21) (oi := ⟨some 26, .pick (.tmp 9) (.const (Value.bool true)) (.tmp 25), 4, "visit.go:27", #[⟨4, .data⟩, ⟨20, .data⟩], none⟩) (v := ?_) (Or.inl ⟨by rfl, ?_⟩) ?_
     rotate_left 1
     ·(intro u hSw; go_simp; try with_reducible rfl)
     try simp only [Act.put, sA, sB, sC]
     refine tk (i := 22) (oi := ⟨some 27, .move (.tmp 26), 4, "visit.go:27", #[⟨21, .data⟩, ⟨18, .chain⟩], none⟩) (v := ?_) (Or.inl ⟨by rfl, ?_⟩) ?_
     rotate_left 1
     ·(intro u hSw; go_simp; try with_reducible rfl)
     try simp only [Act.put, sA, sB, sC]
     refine tk (i := 23) (oi := ⟨some 28, .fieldAddr 142 (.tmp 2) 0, 0, "visit.go:27", #[⟨22, .guard⟩], some (22, false)⟩) (v := ?_) (Or.inl ⟨by rfl, ?_⟩) ?_
     rotate_left 1
     ·(intro u hSw; go_simp; try with_reducible rfl)
     try simp only [Act.put, sA, sB, sC]
     refine tk (i := 24) (oi := ⟨some 29, .load 68 (.tmp 28), 68, "visit.go:27", #[⟨23, .data⟩, ⟨22, .guard⟩], some (22, false)⟩) (v := ?_) (Or.inl ⟨by rfl, ?_⟩) ?_
     rotate_left 1
     ·(intro u hSw; have y0 := (HY.out _ hSw).1; have y1 := (HY.out _ hSw).2; have z0 := HZ.out _ hSw; have p0 := HPL.out _ hSw; go_simp; try with_reducible rfl)
     try simp only [Act.put, sA, sB, sC]
     refine tk (i := 25) (oi := ⟨some 30, .binOp BinOp.neq 68 (.tmp 29) (.const (Value.pointer none)) 68, 4, "visit.go:27", #[⟨24, .data⟩, ⟨22, .guard⟩], some (22, false)⟩) (v := ?_) (Or.inl ⟨by rfl, ?_⟩) ?_
     rotate_left 1
     ·(intro u hSw; go_simp; try with_reducible rfl)
     try simp only [Act.put, sA, sB, sC]
     refine tk (i := 26) (oi := ⟨some 31, .move (.tmp 30), 4, "visit.go:27", #[⟨25, .data⟩, ⟨22, .chain⟩, ⟨22, .guard⟩], some (22, false)⟩) (v := ?_) (Or.inl ⟨by rfl, ?_⟩) ?_
     rotate_left 1
     ·(intro u hSw; go_simp; try with_reducible rfl)
     try simp only [Act.put, sA, sB, sC]
     refine tk (i := 27) (oi := ⟨some 32, .load 74 (.tmp 3), 74, "visit.go:27", #[⟨26, .guard⟩], some (26, true)⟩) (v := .agg #[.slice af fr.length cf, .slice at2 to.length ct, .bool e]) (Or.inl ⟨by rfl, ?_⟩) ?_
     ·intro u hSw
      exact exec_load_mid 74 (Operand.tmp 3) rfl (w.heap.size + 1) 0 rfl _ _ (HSP.out _ hSw) Tryd.underlying74 rfl (by kernel_rfl)
     try simp only [Act.put, sA, sB, sC]
     refine tk (i := 28) (oi := ⟨some 33, .fieldAddr 142 (.tmp 2) 0, 0, "visit.go:27", #[⟨26, .guard⟩], some (26, true)⟩) (v := ?_) (Or.inl ⟨by rfl, ?_⟩) ?_
     rotate_left 1
     ·(intro u hSw; go_simp; try with_reducible rfl)
     try simp only [Act.put, sA, sB, sC]
     refine tk (i := 29) (oi := ⟨some 34, .load 68 (.tmp 33), 68, "visit.go:27", #[⟨28, .data⟩, ⟨26, .guard⟩], some (26, true)⟩) (v := ?_) (Or.inl ⟨by rfl, ?_⟩) ?_
     rotate_left 1
     ·(intro u hSw; have y0 := (HY.out _ hSw).1; have y1 := (HY.out _ hSw).2; have z0 := HZ.out _ hSw; have p0 := HPL.out _ hSw; go_simp; try with_reducible rfl)
     try simp only [Act.put, sA, sB, sC]
     refine tk (i := 30) (oi := ⟨some 35, .nilCheck (.tmp 34), 0, "visit.go:27", #[⟨29, .data⟩, ⟨26, .guard⟩], some (26, true)⟩) (v := ?_) (Or.inl ⟨by rfl, ?_⟩) ?_
     rotate_left 1
     ·(intro u hSw; go_simp; try with_reducible rfl)
     try simp only [Act.put, sA, sB, sC]
     refine tk (i := 31) (oi := ⟨some 36, .fieldAddr 115 (.tmp 35) 0, 0, "visit.go:27", #[⟨30, .data⟩, ⟨26, .guard⟩], some (26, true)⟩) (v := ?_) (Or.inl ⟨by rfl, ?_⟩) ?_
     rotate_left 1
     ·(intro u hSw; go_simp; try with_reducible rfl)
     try simp only [Act.put, sA, sB, sC]
     refine tk (i := 32) (oi := ⟨some 37, .fieldAddr 66 (.tmp 36) 0, 0, "visit.go:27", #[⟨31, .data⟩, ⟨26, .guard⟩], some (26, true)⟩) (v := ?_) (Or.inl ⟨by rfl, ?_⟩) ?_
     rotate_left 1
     ·(intro u hSw; go_simp; try with_reducible rfl)
     try simp only [Act.put, sA, sB, sC]
     refine tk (i := 33) (oi := ⟨some 38, .fieldAddr 33 (.tmp 37) 0, 0, "visit.go:27", #[⟨32, .data⟩, ⟨26, .guard⟩], some (26, true)⟩) (v := ?_) (Or.inl ⟨by rfl, ?_⟩) ?_
     rotate_left 1
     ·(intro u hSw; go_simp; try with_reducible rfl)
     try simp only [Act.put, sA, sB, sC]
     refine tk (i := 34) (oi := ⟨some 39, .load 31 (.tmp 38), 31, "visit.go:27", #[⟨33, .data⟩, ⟨26, .guard⟩], some (26, true)⟩) (v := ?_) (Or.inl ⟨by rfl, ?_⟩) ?_
     rotate_left 1
     ·(intro u hSw; have y0 := (HY.out _ hSw).1; have y1 := (HY.out _ hSw).2; have z0 := HZ.out _ hSw; have p0 := HPL.out _ hSw; go_simp; try with_reducible rfl)
     try simp only [Act.put, sA, sB, sC]
     refine wpAnyH_ready (rs := [35]) (by kernel_rfl) (by simp) ?_
     refine (AllReadyH.cons (o := ⟨some 40, .call ⟨.value (.func 94), #[.tmp 32, .tmp 39], #[74, 31]⟩, 4, "visit.go:29", #[⟨27, .data⟩, ⟨34, .data⟩, ⟨26, .chain⟩, ⟨26, .guard⟩], some (26, true)⟩) rfl (fun K hK => ?_) AllReadyH.nil)
     go_simp
     refine (HE2.out _ hb3).mono ?_
     rintro d w35 ⟨rfl, hw35⟩
     have hb35 : Below w0.heap.size w0 w35 := hb3.trans (hw35.mono hb3.size)
     clear hw35
     go_wp2_with fail
     refine hK.out _ _ hb35 (fun hHeld => ?_)
     clear hK K
     try simp only [Act.put, sA, sB, sC]
     refine tk (i := 36) (oi := ⟨some 41, .pick (.tmp 31) (.tmp 40) (.const (Value.bool false)), 4, "visit.go:27", #[⟨26, .data⟩, ⟨35, .data⟩, ⟨22, .guard⟩], some (22, false)⟩) (v := ?_) (Or.inl ⟨by rfl, ?_⟩) ?_
     rotate_left 1
     ·(intro u hSw; go_simp; try with_reducible rfl)
     try simp only [Act.put, sA, sB, sC]
     refine tk (i := 37) (oi := ⟨some 42, .pick (.tmp 27) (.const (Value.bool true)) (.tmp 41), 4, "visit.go:27", #[⟨22, .data⟩, ⟨36, .data⟩], none⟩) (v := ?_) (Or.inl ⟨by rfl, ?_⟩) ?_
     rotate_left 1
     ·(intro u hSw; go_simp; try with_reducible rfl)
     try simp only [Act.put, sA, sB, sC]
     refine tk (i := 38) (oi := ⟨some 4, .assign (.tmp 42), 4, "visit.go:27", #[⟨37, .data⟩, ⟨35, .chain⟩, ⟨0, .phase⟩, ⟨1, .phase⟩, ⟨2, .phase⟩, ⟨3, .phase⟩, ⟨4, .phase⟩, ⟨5, .phase⟩, ⟨6, .phase⟩, ⟨7, .phase⟩, ⟨8, .phase⟩, ⟨9, .phase⟩, ⟨10, .phase⟩, ⟨11, .phase⟩, ⟨12, .phase⟩, ⟨13, .phase⟩, ⟨14, .phase⟩, ⟨15, .phase⟩, ⟨16, .phase⟩, ⟨17, .phase⟩, ⟨18, .phase⟩, ⟨19, .phase⟩, ⟨20, .phase⟩, ⟨21, .phase⟩, ⟨22, .phase⟩, ⟨23, .phase⟩, ⟨24, .phase⟩, ⟨25, .phase⟩, ⟨26, .phase⟩, ⟨27, .phase⟩, ⟨28, .phase⟩, ⟨29, .phase⟩, ⟨30, .phase⟩, ⟨31, .phase⟩, ⟨32, .phase⟩, ⟨33, .phase⟩, ⟨34, .phase⟩, ⟨35, .phase⟩, ⟨36, .phase⟩, ⟨37, .phase⟩], none⟩) (v := ?_) (Or.inl ⟨by rfl, ?_⟩) ?_
     rotate_left 1
     ·(intro u hSw; go_simp; try with_reducible rfl)
     try simp only [Act.put, sA, sB, sC]
     refine wpAnyH_done (by kernel_rfl) ?_ _
     have HBE := hid (HB0.out.trans (hb35.mono HB0.out.size))
     go_wp2_with fail
     go_ret
     rw [HR.out]
     exact ⟨rfl, HBE.out⟩
  | some hk' =>
   obtain ⟨bh, ah, ch, rfl, hph, hc⟩ := HHI hk' rfl
   have HPH := hid hph
   have HC := hid hc
   clear hph hc HHI
   replace HR : Hid (R = (decide (cmpI hk' fr ≤ 0) || lo.elim false (fun l => endsQ to e l))) := HR
   generalize cmpI hk' fr = cm at *
   by_cases hcm : cm ≤ 0
   ·replace HR : Hid (R = true) := hid (by rw [HR.out, decide_eq_true hcm]; rfl)
    clear hbb gf gt hlo2 hhi2 hf0 ht0 HLO
    go_enter Tryd.func85, Tryd.ntmps85
    go_wp2_with fail
    generalize ((w.alloc (.cells #[.pointer alo, .pointer (some ⟨bh, 0, none⟩)] 142)).alloc (.cells #[.slice af fr.length cf, .slice at2 to.length ct, .bool e] 74)) = w0 at *
    have hb0 := (Below.refl w0.heap.size w0).drew
    refine wp_region_held_drew (S := fun u => Below w0.heap.size w0 u) (by kernel_rfl) (hb0) (fun hHeld => ?_)
    refine tk (i := 0) (oi := ⟨some 5, .load 74 (.tmp 3), 74, "visit.go:27", #[], none⟩) (v := .agg #[.slice af fr.length cf, .slice at2 to.length ct, .bool e]) (Or.inl ⟨by rfl, ?_⟩) ?_
    ·intro u hSw
     exact exec_load_mid 74 (Operand.tmp 3) rfl (w.heap.size + 1) 0 rfl _ _ (HSP.out _ hSw) Tryd.underlying74 rfl (by kernel_rfl)
    try simp only [Act.put, sA, sB, sC]
    refine tk (i := 1) (oi := ⟨some 6, .fieldAddr 74 (.tmp 3) 0, 0, "visit.go:27", #[], none⟩) (v := ?_) (Or.inl ⟨by rfl, ?_⟩) ?_
    rotate_left 1
    ·(intro u hSw; go_simp; try with_reducible rfl)
    try simp only [Act.put, sA, sB, sC]
    refine tk (i := 2) (oi := ⟨some 7, .load 31 (.tmp 6), 31, "visit.go:27", #[⟨1, .data⟩], none⟩) (v := ?_) (Or.inl ⟨by rfl, ?_⟩) ?_
    rotate_left 1
    ·(intro u hSw; have y0 := (HY.out _ hSw).1; have y1 := (HY.out _ hSw).2; have z0 := HZ.out _ hSw; have p1 := HPH.out _ hSw; go_simp; try with_reducible rfl)
    try simp only [Act.put, sA, sB, sC]
    refine wpAnyH_ready (rs := [3]) (by kernel_rfl) (by simp) ?_
    refine (AllReadyH.cons (o := ⟨some 8, .call ⟨.value (.func 94), #[.tmp 5, .tmp 7], #[74, 31]⟩, 4, "visit.go:27", #[⟨0, .data⟩, ⟨2, .data⟩], none⟩) rfl (fun K hK => ?_) AllReadyH.nil)
    go_simp
    refine (HE0.out _ hb0).mono ?_
    rintro d w3 ⟨rfl, hw3⟩
    have hb3 : Below w0.heap.size w0 w3 := hb0.trans (hw3.mono hb0.size)
    clear hw3
    go_wp2_with fail
    refine hK.out _ _ hb3 (fun hHeld => ?_)
    clear hK K
    try simp only [Act.put, sA, sB, sC]
    refine tk (i := 4) (oi := ⟨some 9, .move (.tmp 8), 4, "visit.go:27", #[⟨3, .data⟩, ⟨3, .chain⟩], none⟩) (v := ?_) (Or.inl ⟨by rfl, ?_⟩) ?_
    rotate_left 1
    ·(intro u hSw; go_simp; try with_reducible rfl)
    try simp only [Act.put, sA, sB, sC]
    refine tk (i := 5) (oi := ⟨some 10, .fieldAddr 142 (.tmp 2) 1, 0, "visit.go:27", #[⟨4, .guard⟩], some (4, false)⟩) (v := ?_) (Or.inl ⟨by rfl, ?_⟩) ?_
    rotate_left 1
    ·(intro u hSw; go_simp; try with_reducible rfl)
    try simp only [Act.put, sA, sB, sC]
    refine tk (i := 6) (oi := ⟨some 11, .load 68 (.tmp 10), 68, "visit.go:27", #[⟨5, .data⟩, ⟨4, .guard⟩], some (4, false)⟩) (v := ?_) (Or.inl ⟨by rfl, ?_⟩) ?_
    rotate_left 1
    ·(intro u hSw; have y0 := (HY.out _ hSw).1; have y1 := (HY.out _ hSw).2; have z0 := HZ.out _ hSw; have p1 := HPH.out _ hSw; go_simp; try with_reducible rfl)
    try simp only [Act.put, sA, sB, sC]
    refine tk (i := 7) (oi := ⟨some 12, .binOp BinOp.neq 68 (.tmp 11) (.const (Value.pointer none)) 68, 4, "visit.go:27", #[⟨6, .data⟩, ⟨4, .guard⟩], some (4, false)⟩) (v := ?_) (Or.inl ⟨by rfl, ?_⟩) ?_
    rotate_left 1
    ·(intro u hSw; go_simp; try with_reducible rfl)
    try simp only [Act.put, sA, sB, sC]
    refine tk (i := 8) (oi := ⟨some 13, .move (.tmp 12), 4, "visit.go:27", #[⟨7, .data⟩, ⟨4, .chain⟩, ⟨4, .guard⟩], some (4, false)⟩) (v := ?_) (Or.inl ⟨by rfl, ?_⟩) ?_
    rotate_left 1
    ·(intro u hSw; go_simp; try with_reducible rfl)
    try simp only [Act.put, sA, sB, sC]
    refine tk (i := 9) (oi := ⟨some 14, .fieldAddr 142 (.tmp 2) 1, 0, "visit.go:27", #[⟨8, .guard⟩], some (8, true)⟩) (v := ?_) (Or.inl ⟨by rfl, ?_⟩) ?_
    rotate_left 1
    ·(intro u hSw; go_simp; try with_reducible rfl)
    try simp only [Act.put, sA, sB, sC]
    refine tk (i := 10) (oi := ⟨some 15, .load 68 (.tmp 14), 68, "visit.go:27", #[⟨9, .data⟩, ⟨8, .guard⟩], some (8, true)⟩) (v := ?_) (Or.inl ⟨by rfl, ?_⟩) ?_
    rotate_left 1
    ·(intro u hSw; have y0 := (HY.out _ hSw).1; have y1 := (HY.out _ hSw).2; have z0 := HZ.out _ hSw; have p1 := HPH.out _ hSw; go_simp; try with_reducible rfl)
    try simp only [Act.put, sA, sB, sC]
    refine tk (i := 11) (oi := ⟨some 16, .nilCheck (.tmp 15), 0, "visit.go:27", #[⟨10, .data⟩, ⟨8, .guard⟩], some (8, true)⟩) (v := ?_) (Or.inl ⟨by rfl, ?_⟩) ?_
    rotate_left 1
    ·(intro u hSw; go_simp; try with_reducible rfl)
    try simp only [Act.put, sA, sB, sC]
    refine tk (i := 12) (oi := ⟨some 17, .fieldAddr 115 (.tmp 16) 0, 0, "visit.go:27", #[⟨11, .data⟩, ⟨8, .guard⟩], some (8, true)⟩) (v := ?_) (Or.inl ⟨by rfl, ?_⟩) ?_
    rotate_left 1
    ·(intro u hSw; go_simp; try with_reducible rfl)
    try simp only [Act.put, sA, sB, sC]
    refine tk (i := 13) (oi := ⟨some 18, .fieldAddr 66 (.tmp 17) 0, 0, "visit.go:27", #[⟨12, .data⟩, ⟨8, .guard⟩], some (8, true)⟩) (v := ?_) (Or.inl ⟨by rfl, ?_⟩) ?_
    rotate_left 1
    ·(intro u hSw; go_simp; try with_reducible rfl)
    try simp only [Act.put, sA, sB, sC]
    refine tk (i := 14) (oi := ⟨some 19, .fieldAddr 33 (.tmp 18) 0, 0, "visit.go:27", #[⟨13, .data⟩, ⟨8, .guard⟩], some (8, true)⟩) (v := ?_) (Or.inl ⟨by rfl, ?_⟩) ?_
    rotate_left 1
    ·(intro u hSw; go_simp; try with_reducible rfl)
    try simp only [Act.put, sA, sB, sC]
    refine tk (i := 15) (oi := ⟨some 20, .load 31 (.tmp 19), 31, "visit.go:27", #[⟨14, .data⟩, ⟨8, .guard⟩], some (8, true)⟩) (v := ?_) (Or.inl ⟨by rfl, ?_⟩) ?_
    rotate_left 1
    ·(intro u hSw; have y0 := (HY.out _ hSw).1; have y1 := (HY.out _ hSw).2; have z0 := HZ.out _ hSw; have p1 := HPH.out _ hSw; go_simp; try with_reducible rfl)
    try simp only [Act.put, sA, sB, sC]
    refine tk (i := 16) (oi := ⟨some 21, .fieldAddr 74 (.tmp 3) 0, 0, "visit.go:27", #[⟨8, .guard⟩], some (8, true)⟩) (v := ?_) (Or.inl ⟨by rfl, ?_⟩) ?_
    rotate_left 1
    ·(intro u hSw; go_simp; try with_reducible rfl)
    try simp only [Act.put, sA, sB, sC]
    refine tk (i := 17) (oi := ⟨some 22, .load 31 (.tmp 21), 31, "visit.go:27", #[⟨16, .data⟩, ⟨8, .guard⟩], some (8, true)⟩) (v := ?_) (Or.inl ⟨by rfl, ?_⟩) ?_
    rotate_left 1
    ·(intro u hSw; have y0 := (HY.out _ hSw).1; have y1 := (HY.out _ hSw).2; have z0 := HZ.out _ hSw; have p1 := HPH.out _ hSw; go_simp; try with_reducible rfl)
    try simp only [Act.put, sA, sB, sC]
    refine wpAnyH_ready (rs := [18]) (by kernel_rfl) (by simp) ?_
    refine (AllReadyH.cons (o := ⟨some 23, .call ⟨.value (.func 56), #[.tmp 20, .tmp 22], #[31, 31]⟩, 3, "visit.go:28", #[⟨15, .data⟩, ⟨17, .data⟩, ⟨8, .chain⟩, ⟨8, .guard⟩], some (8, true)⟩) rfl (fun K hK => ?_) AllReadyH.nil)
    go_simp
    refine (HC.out _ hb3).mono ?_
    rintro d w18 ⟨rfl, hw18⟩
    have hb18 : Below w0.heap.size w0 w18 := (by rw [hw18]; exact hb3)
    clear hw18
    go_wp2_with fail
    refine hK.out _ _ hb18 (fun hHeld => ?_)
    clear hK K
    try simp only [Act.put, sA, sB, sC]
    refine tk (i := 19) (oi := ⟨some 24, .binOp BinOp.leq 3 (.tmp 23) (.const (Value.int IntKind.i64 0)) 3, 4, "visit.go:27", #[⟨18, .data⟩, ⟨8, .guard⟩], some (8, true)⟩) (v := ?_) (Or.inl ⟨by rfl, ?_⟩) ?_
    rotate_left 1
    ·(intro u hSw; go_simp; try with_reducible rfl)
    try simp only [Act.put, sA, sB, sC]
    refine tk (i := 20) (oi := ⟨some 25, .pick (.tmp 13) (.tmp 24) (.const (Value.bool false)), 4, "visit.go:27", #[⟨8, .data⟩, ⟨19, .data⟩, ⟨4, .guard⟩], some (4, false)⟩) (v := ?_) (Or.inl ⟨by rfl, ?_⟩) ?_
    rotate_left 1
    ·(intro u hSw; go_simp; try with_reducible rfl)
    try simp only [Act.put, sA, sB, sC]
    refine tk (i := 21) (oi := ⟨some 26, .pick (.tmp 9) (.const (Value.bool true)) (.tmp 25), 4, "visit.go:27", #[⟨4, .data⟩, ⟨20, .data⟩], none⟩) (v := ?_) (Or.inl ⟨by rfl, ?_⟩) ?_
    rotate_left 1
    ·(intro u hSw; go_simp; try with_reducible rfl)
    try simp only [Act.put, sA, sB, sC]
    refine tk (i := 22) (oi := ⟨some 27, .move (.tmp 26), 4, "visit.go:27", #[⟨21, .data⟩, ⟨18, .chain⟩], none⟩) (v := ?_) (Or.inl ⟨by rfl, ?_⟩) ?_
    rotate_left 1
    ·(intro u hSw; go_simp; try with_reducible rfl)
    try simp only [Act.put, sA, sB, sC]
    refine tk (i := 23) (oi := ⟨some 28, .fieldAddr 142 (.tmp 2) 0, 0, "visit.go:27", #[⟨22, .guard⟩], some (22, false)⟩) (v := undef) (by exact .inr ⟨by rfl, rfl⟩) ?_
    try simp only [Act.put, sA, sB, sC]
    refine tk (i := 24) (oi := ⟨some 29, .load 68 (.tmp 28), 68, "visit.go:27", #[⟨23, .data⟩, ⟨22, .guard⟩], some (22, false)⟩) (v := undef) (by exact .inr ⟨by rfl, rfl⟩) ?_
    try simp only [Act.put, sA, sB, sC]
    refine tk (i := 25) (oi := ⟨some 30, .binOp BinOp.neq 68 (.tmp 29) (.const (Value.pointer none)) 68, 4, "visit.go:27", #[⟨24, .data⟩, ⟨22, .guard⟩], some (22, false)⟩) (v := undef) (by exact .inr ⟨by rfl, rfl⟩) ?_
    try simp only [Act.put, sA, sB, sC]
    refine tk (i := 26) (oi := ⟨some 31, .move (.tmp 30), 4, "visit.go:27", #[⟨25, .data⟩, ⟨22, .chain⟩, ⟨22, .guard⟩], some (22, false)⟩) (v := undef) (by exact .inr ⟨by rfl, rfl⟩) ?_
    try simp only [Act.put, sA, sB, sC]
    refine tk (i := 27) (oi := ⟨some 32, .load 74 (.tmp 3), 74, "visit.go:27", #[⟨26, .guard⟩], some (26, true)⟩) (v := undef) (by exact .inr ⟨by rfl, rfl⟩) ?_
    try simp only [Act.put, sA, sB, sC]
    refine tk (i := 28) (oi := ⟨some 33, .fieldAddr 142 (.tmp 2) 0, 0, "visit.go:27", #[⟨26, .guard⟩], some (26, true)⟩) (v := undef) (by exact .inr ⟨by rfl, rfl⟩) ?_
    try simp only [Act.put, sA, sB, sC]
    refine tk (i := 29) (oi := ⟨some 34, .load 68 (.tmp 33), 68, "visit.go:27", #[⟨28, .data⟩, ⟨26, .guard⟩], some (26, true)⟩) (v := undef) (by exact .inr ⟨by rfl, rfl⟩) ?_
    try simp only [Act.put, sA, sB, sC]
    refine tk (i := 30) (oi := ⟨some 35, .nilCheck (.tmp 34), 0, "visit.go:27", #[⟨29, .data⟩, ⟨26, .guard⟩], some (26, true)⟩) (v := undef) (by exact .inr ⟨by rfl, rfl⟩) ?_
    try simp only [Act.put, sA, sB, sC]
    refine tk (i := 31) (oi := ⟨some 36, .fieldAddr 115 (.tmp 35) 0, 0, "visit.go:27", #[⟨30, .data⟩, ⟨26, .guard⟩], some (26, true)⟩) (v := undef) (by exact .inr ⟨by rfl, rfl⟩) ?_
    try simp only [Act.put, sA, sB, sC]
    refine tk (i := 32) (oi := ⟨some 37, .fieldAddr 66 (.tmp 36) 0, 0, "visit.go:27", #[⟨31, .data⟩, ⟨26, .guard⟩], some (26, true)⟩) (v := undef) (by exact .inr ⟨by rfl, rfl⟩) ?_
    try simp only [Act.put, sA, sB, sC]
    refine tk (i := 33) (oi := ⟨some 38, .fieldAddr 33 (.tmp 37) 0, 0, "visit.go:27", #[⟨32, .data⟩, ⟨26, .guard⟩], some (26, true)⟩) (v := undef) (by exact .inr ⟨by rfl, rfl⟩) ?_
    try simp only [Act.put, sA, sB, sC]
    refine tk (i := 34) (oi := ⟨some 39, .load 31 (.tmp 38), 31, "visit.go:27", #[⟨33, .data⟩, ⟨26, .guard⟩], some (26, true)⟩) (v := undef) (by exact .inr ⟨by rfl, rfl⟩) ?_
    try simp only [Act.put, sA, sB, sC]
    refine tk (i := 35) (oi := ⟨some 40, .call ⟨.value (.func 94), #[.tmp 32, .tmp 39], #[74, 31]⟩, 4, "visit.go:29", #[⟨27, .data⟩, ⟨34, .data⟩, ⟨26, .chain⟩, ⟨26, .guard⟩], some (26, true)⟩) (v := undef) (by exact .inr ⟨by rfl, rfl⟩) ?_
    try simp only [Act.put, sA, sB, sC]
    refine tk (i := 36) (oi := ⟨some 41, .pick (.tmp 31) (.tmp 40) (.const (Value.bool false)), 4, "visit.go:27", #[⟨26, .data⟩, ⟨35, .data⟩, ⟨22, .guard⟩], some (22, false)⟩) (v := undef) (by exact .inr ⟨by rfl, rfl⟩) ?_
    try simp only [Act.put, sA, sB, sC]
    refine tk (i := 37) (oi := ⟨some 42, .pick (.tmp 27) (.const (Value.bool true)) (.tmp 41), 4, "visit.go:27", #[⟨22, .data⟩, ⟨36, .data⟩], none⟩) (v := ?_) (Or.inl ⟨by rfl, ?_⟩) ?_
    rotate_left 1
    ·(intro u hSw; go_simp; try with_reducible rfl)
    try simp only [Act.put, sA, sB, sC]
    refine tk (i := 38) (oi := ⟨some 4, .assign (.tmp 42), 4, "visit.go:27", #[⟨37, .data⟩, ⟨35, .chain⟩, ⟨0, .phase⟩, ⟨1, .phase⟩, ⟨2, .phase⟩, ⟨3, .phase⟩, ⟨4, .phase⟩, ⟨5, .phase⟩, ⟨6, .phase⟩, ⟨7, .phase⟩, ⟨8, .phase⟩, ⟨9, .phase⟩, ⟨10, .phase⟩, ⟨11, .phase⟩, ⟨12, .phase⟩, ⟨13, .phase⟩, ⟨14, .phase⟩, ⟨15, .phase⟩, ⟨16, .phase⟩, ⟨17, .phase⟩, ⟨18, .phase⟩, ⟨19, .phase⟩, ⟨20, .phase⟩, ⟨21, .phase⟩, ⟨22, .phase⟩, ⟨23, .phase⟩, ⟨24, .phase⟩, ⟨25, .phase⟩, ⟨26, .phase⟩, ⟨27, .phase⟩, ⟨28, .phase⟩, ⟨29, .phase⟩, ⟨30, .phase⟩, ⟨31, .phase⟩, ⟨32, .phase⟩, ⟨33, .phase⟩, ⟨34, .phase⟩, ⟨35, .phase⟩, ⟨36, .phase⟩, ⟨37, .phase⟩], none⟩) (v := ?_) (Or.inl ⟨by rfl, ?_⟩) ?_
    rotate_left 1
    ·(intro u hSw; go_simp; try with_reducible rfl)
    try simp only [Act.put, sA, sB, sC]
    refine wpAnyH_done (by kernel_rfl) ?_ _
    have HBE := hid (HB0.out.trans (hb18.mono HB0.out.size))
    go_wp2_with fail
    go_ret
    rw [HR.out]
    exact ⟨rfl, HBE.out⟩
   ·have HCM := hid hcm
    replace HR : Hid (R = lo.elim false (fun l => endsQ to e l)) := hid (by rw [HR.out, decide_eq_false hcm]; rfl)
    cases lo with
    | none =>
     obtain rfl : alo = none := by injection (show Value.pointer alo = .pointer none from hlo2)
     replace HR : Hid (R = false) := HR
     clear hbb gf gt hlo2 hhi2 hf0 ht0 HLO
     go_enter Tryd.func85, Tryd.ntmps85
     go_wp2_with fail
     generalize ((w.alloc (.cells #[.pointer none, .pointer (some ⟨bh, 0, none⟩)] 142)).alloc (.cells #[.slice af fr.length cf, .slice at2 to.length ct, .bool e] 74)) = w0 at *
     have hb0 := (Below.refl w0.heap.size w0).drew
     refine wp_region_held_drew (S := fun u => Below w0.heap.size w0 u) (by kernel_rfl) (hb0) (fun hHeld => ?_)
     refine tk (i := 0) (oi := ⟨some 5, .load 74 (.tmp 3), 74, "visit.go:27", #[], none⟩) (v := .agg #[.slice af fr.length cf, .slice at2 to.length ct, .bool e]) (Or.inl ⟨by rfl, ?_⟩) ?_
     ·intro u hSw
      exact exec_load_mid 74 (Operand.tmp 3) rfl (w.heap.size + 1) 0 rfl _ _ (HSP.out _ hSw) Tryd.underlying74 rfl (by kernel_rfl)
     try simp only [Act.put, sA, sB, sC]
     refine tk (i := 1) (oi := ⟨some 6, .fieldAddr 74 (.tmp 3) 0, 0, "visit.go:27", #[], none⟩) (v := ?_) (Or.inl ⟨by rfl, ?_⟩) ?_
     rotate_left 1
     ·(intro u hSw; go_simp; try with_reducible rfl)
     try simp only [Act.put, sA, sB, sC]
     refine tk (i := 2) (oi := ⟨some 7, .load 31 (.tmp 6), 31, "visit.go:27", #[⟨1, .data⟩], none⟩) (v := ?_) (Or.inl ⟨by rfl, ?_⟩) ?_
     rotate_left 1
     ·(intro u hSw; have y0 := (HY.out _ hSw).1; have y1 := (HY.out _ hSw).2; have z0 := HZ.out _ hSw; have p1 := HPH.out _ hSw; go_simp; try with_reducible rfl)
     try simp only [Act.put, sA, sB, sC]
     refine wpAnyH_ready (rs := [3]) (by kernel_rfl) (by simp) ?_
     refine (AllReadyH.cons (o := ⟨some 8, .call ⟨.value (.func 94), #[.tmp 5, .tmp 7], #[74, 31]⟩, 4, "visit.go:27", #[⟨0, .data⟩, ⟨2, .data⟩], none⟩) rfl (fun K hK => ?_) AllReadyH.nil)
     go_simp
     refine (HE0.out _ hb0).mono ?_
     rintro d w3 ⟨rfl, hw3⟩
     have hb3 : Below w0.heap.size w0 w3 := hb0.trans (hw3.mono hb0.size)
     clear hw3
     go_wp2_with fail
     refine hK.out _ _ hb3 (fun hHeld => ?_)
     clear hK K
     try simp only [Act.put, sA, sB, sC]
     refine tk (i := 4) (oi := ⟨some 9, .move (.tmp 8), 4, "visit.go:27", #[⟨3, .data⟩, ⟨3, .chain⟩], none⟩) (v := ?_) (Or.inl ⟨by rfl, ?_⟩) ?_
     rotate_left 1
     ·(intro u hSw; go_simp; try with_reducible rfl)
     try simp only [Act.put, sA, sB, sC]
     refine tk (i := 5) (oi := ⟨some 10, .fieldAddr 142 (.tmp 2) 1, 0, "visit.go:27", #[⟨4, .guard⟩], some (4, false)⟩) (v := ?_) (Or.inl ⟨by rfl, ?_⟩) ?_
     rotate_left 1
     ·(intro u hSw; go_simp; try with_reducible rfl)
     try simp only [Act.put, sA, sB, sC]
     refine tk (i := 6) (oi := ⟨some 11, .load 68 (.tmp 10), 68, "visit.go:27", #[⟨5, .data⟩, ⟨4, .guard⟩], some (4, false)⟩) (v := ?_) (Or.inl ⟨by rfl, ?_⟩) ?_
     rotate_left 1
     ·(intro u hSw; have y0 := (HY.out _ hSw).1; have y1 := (HY.out _ hSw).2; have z0 := HZ.out _ hSw; have p1 := HPH.out _ hSw; go_simp; try with_reducible rfl)
     try simp only [Act.put, sA, sB, sC]
     refine tk (i := 7) (oi := ⟨some 12, .binOp BinOp.neq 68 (.tmp 11) (.const (Value.pointer none)) 68, 4, "visit.go:27", #[⟨6, .data⟩, ⟨4, .guard⟩], some (4, false)⟩) (v := ?_) (Or.inl ⟨by rfl, ?_⟩) ?_
     rotate_left 1
     ·(intro u hSw; go_simp; try with_reducible rfl)
     try simp only [Act.put, sA, sB, sC]
     refine tk (i := 8) (oi := ⟨some 13, .move (.tmp 12), 4, "visit.go:27", #[⟨7, .data⟩, ⟨4, .chain⟩, ⟨4, .guard⟩], some (4, false)⟩) (v := ?_) (Or.inl ⟨by rfl, ?_⟩) ?_
     rotate_left 1
     ·(intro u hSw; go_simp; try with_reducible rfl)
     try simp only [Act.put, sA, sB, sC]
     refine tk (i := 9) (oi := ⟨some 14, .fieldAddr 142 (.tmp 2) 1, 0, "visit.go:27", #[⟨8, .guard⟩], some (8, true)⟩) (v := ?_) (Or.inl ⟨by rfl, ?_⟩) ?_
     rotate_left 1
     ·(intro u hSw; go_simp; try with_reducible rfl)
     try simp only [Act.put, sA, sB, sC]
     refine tk (i := 10) (oi := ⟨some 15, .load 68 (.tmp 14), 68, "visit.go:27", #[⟨9, .data⟩, ⟨8, .guard⟩], some (8, true)⟩) (v := ?_) (Or.inl ⟨by rfl, ?_⟩) ?_
     rotate_left 1
     ·(intro u hSw; have y0 := (HY.out _ hSw).1; have y1 := (HY.out _ hSw).2; have z0 := HZ.out _ hSw; have p1 := HPH.out _ hSw; go_simp; try with_reducible rfl)
     try simp only [Act.put, sA, sB, sC]
     refine tk (i := 11) (oi := ⟨some 16, .nilCheck (.tmp 15), 0, "visit.go:27", #[⟨10, .data⟩, ⟨8, .guard⟩], some (8, true)⟩) (v := ?_) (Or.inl ⟨by rfl, ?_⟩) ?_
     rotate_left 1
     ·(intro u hSw; go_simp; try with_reducible rfl)
     try simp only [Act.put, sA, sB, sC]
     refine tk (i := 12) (oi := ⟨some 17, .fieldAddr 115 (.tmp 16) 0, 0, "visit.go:27", #[⟨11, .data⟩, ⟨8, .guard⟩], some (8, true)⟩) (v := ?_) (Or.inl ⟨by rfl, ?_⟩) ?_
     rotate_left 1
     ·(intro u hSw; go_simp; try with_reducible rfl)
     try simp only [Act.put, sA, sB, sC]
     refine tk (i := 13) (oi := ⟨some 18, .fieldAddr 66 (.tmp 17) 0, 0, "visit.go:27", #[⟨12, .data⟩, ⟨8, .guard⟩], some (8, true)⟩) (v := ?_) (Or.inl ⟨by rfl, ?_⟩) ?_
     rotate_left 1
     ·(intro u hSw; go_simp; try with_reducible rfl)
     try simp only [Act.put, sA, sB, sC]
     refine tk (i := 14) (oi := ⟨some 19, .fieldAddr 33 (.tmp 18) 0, 0, "visit.go:27", #[⟨13, .data⟩, ⟨8, .guard⟩], some (8, true)⟩) (v := ?_) (Or.inl ⟨by rfl, ?_⟩) ?_
     rotate_left 1
     ·(intro u hSw; go_simp; try with_reducible rfl)
     try simp only [Act.put, sA, sB, sC]
     refine tk (i := 15) (oi := ⟨some 20, .load 31 (.tmp 19), 31, "visit.go:27", #[⟨14, .data⟩, ⟨8, .guard⟩], some (8, true)⟩) (v := ?_) (Or.inl ⟨by rfl, ?_⟩) ?_
     rotate_left 1
     ·(intro u hSw; have y0 := (HY.out _ hSw).1; have y1 := (HY.out _ hSw).2; have z0 := HZ.out _ hSw; have p1 := HPH.out _ hSw; go_simp; try with_reducible rfl)
     try simp only [Act.put, sA, sB, sC]
     refine tk (i := 16) (oi := ⟨some 21, .fieldAddr 74 (.tmp 3) 0, 0, "visit.go:27", #[⟨8, .guard⟩], some (8, true)⟩) (v := ?_) (Or.inl ⟨by rfl, ?_⟩) ?_
     rotate_left 1
     ·(intro u hSw; go_simp; try with_reducible rfl)
     try simp only [Act.put, sA, sB, sC]
     refine tk (i := 17) (oi := ⟨some 22, .load 31 (.tmp 21), 31, "visit.go:27", #[⟨16, .data⟩, ⟨8, .guard⟩], some (8, true)⟩) (v := ?_) (Or.inl ⟨by rfl, ?_⟩) ?_
     rotate_left 1
     ·(intro u hSw; have y0 := (HY.out _ hSw).1; have y1 := (HY.out _ hSw).2; have z0 := HZ.out _ hSw; have p1 := HPH.out _ hSw; go_simp; try with_reducible rfl)
     try simp only [Act.put, sA, sB, sC]
     refine wpAnyH_ready (rs := [18]) (by kernel_rfl) (by simp) ?_
     refine (AllReadyH.cons (o := ⟨some 23, .call ⟨.value (.func 56), #[.tmp 20, .tmp 22], #[31, 31]⟩, 3, "visit.go:28", #[⟨15, .data⟩, ⟨17, .data⟩, ⟨8, .chain⟩, ⟨8, .guard⟩], some (8, true)⟩) rfl (fun K hK => ?_) AllReadyH.nil)
     go_simp
     refine (HC.out _ hb3).mono ?_
     rintro d w18 ⟨rfl, hw18⟩
     have hb18 : Below w0.heap.size w0 w18 := (by rw [hw18]; exact hb3)
     clear hw18
     go_wp2_with fail
     refine hK.out _ _ hb18 (fun hHeld => ?_)
     clear hK K
     try simp only [Act.put, sA, sB, sC]
     refine tk (i := 19) (oi := ⟨some 24, .binOp BinOp.leq 3 (.tmp 23) (.const (Value.int IntKind.i64 0)) 3, 4, "visit.go:27", #[⟨18, .data⟩, ⟨8, .guard⟩], some (8, true)⟩) (v := .bool false) (Or.inl ⟨by rfl, ?_⟩) ?_
     ·intro u hSw
      (go_simp; first | done | omega | (rw [decide_eq_false HCM.out]) | (have := HCM.out; simp_all))
     try simp only [Act.put, sA, sB, sC]
     refine tk (i := 20) (oi := ⟨some 25, .pick (.tmp 13) (.tmp 24) (.const (Value.bool false)), 4, "visit.go:27", #[⟨8, .data⟩, ⟨19, .data⟩, ⟨4, .guard⟩], some (4, false)⟩) (v := ?_) (Or.inl ⟨by rfl, ?_⟩) ?_
     rotate_left 1
     ·(intro u hSw; go_simp; try with_reducible rfl)
     try simp only [Act.put, sA, sB, sC]
     refine tk (i := 21) (oi := ⟨some 26, .pick (.tmp 9) (.const (Value.bool true)) (.tmp 25), 4, "visit.go:27", #[⟨4, .data⟩, ⟨20, .data⟩], none⟩) (v := ?_) (Or.inl ⟨by rfl, ?_⟩) ?_
     rotate_left 1
     ·(intro u hSw; go_simp; try with_reducible rfl)
     try simp only [Act.put, sA, sB, sC]
     refine tk (i := 22) (oi := ⟨some 27, .move (.tmp 26), 4, "visit.go:27", #[⟨21, .data⟩, ⟨18, .chain⟩], none⟩) (v := ?_) (Or.inl ⟨by rfl, ?_⟩) ?_
     rotate_left 1
     ·(intro u hSw; go_simp; try with_reducible rfl)
     try simp only [Act.put, sA, sB, sC]
     refine tk (i := 23) (oi := ⟨some 28, .fieldAddr 142 (.tmp 2) 0, 0, "visit.go:27", #[⟨22, .guard⟩], some (22, false)⟩) (v := ?_) (Or.inl ⟨by rfl, ?_⟩) ?_
     rotate_left 1
     ·(intro u hSw; go_simp; try with_reducible rfl)
     try simp only [Act.put, sA, sB, sC]
     refine tk (i := 24) (oi := ⟨some 29, .load 68 (.tmp 28), 68, "visit.go:27", #[⟨23, .data⟩, ⟨22, .guard⟩], some (22, false)⟩) (v := ?_) (Or.inl ⟨by rfl, ?_⟩) ?_
     rotate_left 1
     ·(intro u hSw; have y0 := (HY.out _ hSw).1; have y1 := (HY.out _ hSw).2; have z0 := HZ.out _ hSw; have p1 := HPH.out _ hSw; go_simp; try with_reducible rfl)
     try simp only [Act.put, sA, sB, sC]
     refine tk (i := 25) (oi := ⟨some 30, .binOp BinOp.neq 68 (.tmp 29) (.const (Value.pointer none)) 68, 4, "visit.go:27", #[⟨24, .data⟩, ⟨22, .guard⟩], some (22, false)⟩) (v := ?_) (Or.inl ⟨by rfl, ?_⟩) ?_
     rotate_left 1
     ·(intro u hSw; go_simp; try with_reducible rfl)
     try simp only [Act.put, sA, sB, sC]
     refine tk (i := 26) (oi := ⟨some 31, .move (.tmp 30), 4, "visit.go:27", #[⟨25, .data⟩, ⟨22, .chain⟩, ⟨22, .guard⟩], some (22, false)⟩) (v := ?_) (Or.inl ⟨by rfl, ?_⟩) ?_
     rotate_left 1
     ·(intro u hSw; go_simp; try with_reducible rfl)
     try simp only [Act.put, sA, sB, sC]
     refine tk (i := 27) (oi := ⟨some 32, .load 74 (.tmp 3), 74, "visit.go:27", #[⟨26, .guard⟩], some (26, true)⟩) (v := undef) (by exact .inr ⟨by rfl, rfl⟩) ?_
     try simp only [Act.put, sA, sB, sC]
     refine tk (i := 28) (oi := ⟨some 33, .fieldAddr 142 (.tmp 2) 0, 0, "visit.go:27", #[⟨26, .guard⟩], some (26, true)⟩) (v := undef) (by exact .inr ⟨by rfl, rfl⟩) ?_
     try simp only [Act.put, sA, sB, sC]
     refine tk (i := 29) (oi := ⟨some 34, .load 68 (.tmp 33), 68, "visit.go:27", #[⟨28, .data⟩, ⟨26, .guard⟩], some (26, true)⟩) (v := undef) (by exact .inr ⟨by rfl, rfl⟩) ?_
     try simp only [Act.put, sA, sB, sC]
     refine tk (i := 30) (oi := ⟨some 35, .nilCheck (.tmp 34), 0, "visit.go:27", #[⟨29, .data⟩, ⟨26, .guard⟩], some (26, true)⟩) (v := undef) (by exact .inr ⟨by rfl, rfl⟩) ?_
     try simp only [Act.put, sA, sB, sC]
     refine tk (i := 31) (oi := ⟨some 36, .fieldAddr 115 (.tmp 35) 0, 0, "visit.go:27", #[⟨30, .data⟩, ⟨26, .guard⟩], some (26, true)⟩) (v := undef) (by exact .inr ⟨by rfl, rfl⟩) ?_
     try simp only [Act.put, sA, sB, sC]
     refine tk (i := 32) (oi := ⟨some 37, .fieldAddr 66 (.tmp 36) 0, 0, "visit.go:27", #[⟨31, .data⟩, ⟨26, .guard⟩], some (26, true)⟩) (v := undef) (by exact .inr ⟨by rfl, rfl⟩) ?_
     try simp only [Act.put, sA, sB, sC]
     refine tk (i := 33) (oi := ⟨some 38, .fieldAddr 33 (.tmp 37) 0, 0, "visit.go:27", #[⟨32, .data⟩, ⟨26, .guard⟩], some (26, true)⟩) (v := undef) (by exact .inr ⟨by rfl, rfl⟩) ?_
     try simp only [Act.put, sA, sB, sC]
     refine tk (i := 34) (oi := ⟨some 39, .load 31 (.tmp 38), 31, "visit.go:27", #[⟨33, .data⟩, ⟨26, .guard⟩], some (26, true)⟩) (v := undef) (by exact .inr ⟨by rfl, rfl⟩) ?_
     try simp only [Act.put, sA, sB, sC]
     refine tk (i := 35) (oi := ⟨some 40, .call ⟨.value (.func 94), #[.tmp 32, .tmp 39], #[74, 31]⟩, 4, "visit.go:29", #[⟨27, .data⟩, ⟨34, .data⟩, ⟨26, .chain⟩, ⟨26, .guard⟩], some (26, true)⟩) (v := undef) (by exact .inr ⟨by rfl, rfl⟩) ?_
     try simp only [Act.put, sA, sB, sC]
     refine tk (i := 36) (oi := ⟨some 41, .pick (.tmp 31) (.tmp 40) (.const (Value.bool false)), 4, "visit.go:27", #[⟨26, .data⟩, ⟨35, .data⟩, ⟨22, .guard⟩], some (22, false)⟩) (v := ?_) (Or.inl ⟨by rfl, ?_⟩) ?_
     rotate_left 1
     ·(intro u hSw; go_simp; try with_reducible rfl)
     try simp only [Act.put, sA, sB, sC]
     refine tk (i := 37) (oi := ⟨some 42, .pick (.tmp 27) (.const (Value.bool true)) (.tmp 41), 4, "visit.go:27", #[⟨22, .data⟩, ⟨36, .data⟩], none⟩) (v := ?_) (Or.inl ⟨by rfl, ?_⟩) ?_
     rotate_left 1
     ·(intro u hSw; go_simp; try with_reducible rfl)
     try simp only [Act.put, sA, sB, sC]
     refine tk (i := 38) (oi := ⟨some 4, .assign (.tmp 42), 4, "visit.go:27", #[⟨37, .data⟩, ⟨35, .chain⟩, ⟨0, .phase⟩, ⟨1, .phase⟩, ⟨2, .phase⟩, ⟨3, .phase⟩, ⟨4, .phase⟩, ⟨5, .phase⟩, ⟨6, .phase⟩, ⟨7, .phase⟩, ⟨8, .phase⟩, ⟨9, .phase⟩, ⟨10, .phase⟩, ⟨11, .phase⟩, ⟨12, .phase⟩, ⟨13, .phase⟩, ⟨14, .phase⟩, ⟨15, .phase⟩, ⟨16, .phase⟩, ⟨17, .phase⟩, ⟨18, .phase⟩, ⟨19, .phase⟩, ⟨20, .phase⟩, ⟨21, .phase⟩, ⟨22, .phase⟩, ⟨23, .phase⟩, ⟨24, .phase⟩, ⟨25, .phase⟩, ⟨26, .phase⟩, ⟨27, .phase⟩, ⟨28, .phase⟩, ⟨29, .phase⟩, ⟨30, .phase⟩, ⟨31, .phase⟩, ⟨32, .phase⟩, ⟨33, .phase⟩, ⟨34, .phase⟩, ⟨35, .phase⟩, ⟨36, .phase⟩, ⟨37, .phase⟩], none⟩) (v := ?_) (Or.inl ⟨by rfl, ?_⟩) ?_
     rotate_left 1
     ·(intro u hSw; go_simp; try with_reducible rfl)
     try simp only [Act.put, sA, sB, sC]
     refine wpAnyH_done (by kernel_rfl) ?_ _
     have HBE := hid (HB0.out.trans (hb18.mono HB0.out.size))
     go_wp2_with fail
     go_ret
     rw [HR.out]
     exact ⟨rfl, HBE.out⟩
    | some lk =>
     obtain ⟨bl, al, cl, rfl, hpl, he2⟩ := HLO lk rfl
     replace HR : Hid (R = endsQ to e lk) := HR
     have HPL := hid hpl
     have HE2 := hid he2
     generalize hgen : endsQ to e lk = q2 at *
     clear hbb gf gt hlo2 hhi2 hf0 ht0 HLO hpl he2 hgen
     cases q2 with
     | true =>
      go_enter Tryd.func85, Tryd.ntmps85
      go_wp2_with fail
      generalize ((w.alloc (.cells #[.pointer (some ⟨bl, 0, none⟩), .pointer (some ⟨bh, 0, none⟩)] 142)).alloc (.cells #[.slice af fr.length cf, .slice at2 to.length ct, .bool e] 74)) = w0 at *
      have hb0 := (Below.refl w0.heap.size w0).drew
      refine wp_region_held_drew (S := fun u => Below w0.heap.size w0 u) (by kernel_rfl) (hb0) (fun hHeld => ?_)
      refine tk (i := 0) (oi := ⟨some 5, .load 74 (.tmp 3), 74, "visit.go:27", #[], none⟩) (v := .agg #[.slice af fr.length cf, .slice at2 to.length ct, .bool e]) (Or.inl ⟨by rfl, ?_⟩) ?_
      ·intro u hSw
       exact exec_load_mid 74 (Operand.tmp 3) rfl (w.heap.size + 1) 0 rfl _ _ (HSP.out _ hSw) Tryd.underlying74 rfl (by kernel_rfl)
      try simp only [Act.put, sA, sB, sC]
      refine tk (i := 1) (oi := ⟨some 6, .fieldAddr 74 (.tmp 3) 0, 0, "visit.go:27", #[], none⟩) (v := ?_) (Or.inl ⟨by rfl, ?_⟩) ?_
      rotate_left 1
      ·(intro u hSw; go_simp; try with_reducible rfl)
      try simp only [Act.put, sA, sB, sC]
      refine tk (i := 2) (oi := ⟨some 7, .load 31 (.tmp 6), 31, "visit.go:27", #[⟨1, .data⟩], none⟩) (v := ?_) (Or.inl ⟨by rfl, ?_⟩) ?_
      rotate_left 1
      ·(intro u hSw; have y0 := (HY.out _ hSw).1; have y1 := (HY.out _ hSw).2; have z0 := HZ.out _ hSw; have p1 := HPH.out _ hSw; have p0 := HPL.out _ hSw; go_simp; try with_reducible rfl)
      try simp only [Act.put, sA, sB, sC]
      refine wpAnyH_ready (rs := [3]) (by kernel_rfl) (by simp) ?_
      refine (AllReadyH.cons (o := ⟨some 8, .call ⟨.value (.func 94), #[.tmp 5, .tmp 7], #[74, 31]⟩, 4, "visit.go:27", #[⟨0, .data⟩, ⟨2, .data⟩], none⟩) rfl (fun K hK => ?_) AllReadyH.nil)
      go_simp
      refine (HE0.out _ hb0).mono ?_
      rintro d w3 ⟨rfl, hw3⟩
      have hb3 : Below w0.heap.size w0 w3 := hb0.trans (hw3.mono hb0.size)
      clear hw3
      go_wp2_with fail
      refine hK.out _ _ hb3 (fun hHeld => ?_)
      clear hK K
      try simp only [Act.put, sA, sB, sC]
      refine tk (i := 4) (oi := ⟨some 9, .move (.tmp 8), 4, "visit.go:27", #[⟨3, .data⟩, ⟨3, .chain⟩], none⟩) (v := ?_) (Or.inl ⟨by rfl, ?_⟩) ?_
      rotate_left 1
      ·(intro u hSw; go_simp; try with_reducible rfl)
      try simp only [Act.put, sA, sB, sC]
      refine tk (i := 5) (oi := ⟨some 10, .fieldAddr 142 (.tmp 2) 1, 0, "visit.go:27", #[⟨4, .guard⟩], some (4, false)⟩) (v := ?_) (Or.inl ⟨by rfl, ?_⟩) ?_
      rotate_left 1
      ·(intro u hSw; go_simp; try with_reducible rfl)
      try simp only [Act.put, sA, sB, sC]
      refine tk (i := 6) (oi := ⟨some 11, .load 68 (.tmp 10), 68, "visit.go:27", #[⟨5, .data⟩, ⟨4, .guard⟩], some (4, false)⟩) (v := ?_) (Or.inl ⟨by rfl, ?_⟩) ?_
      rotate_left 1
      ·(intro u hSw; have y0 := (HY.out _ hSw).1; have y1 := (HY.out _ hSw).2; have z0 := HZ.out _ hSw; have p1 := HPH.out _ hSw; have p0 := HPL.out _ hSw; go_simp; try with_reducible rfl)
      try simp only [Act.put, sA, sB, sC]
      refine tk (i := 7) (oi := ⟨some 12, .binOp BinOp.neq 68 (.tmp 11) (.const (Value.pointer none)) 68, 4, "visit.go:27", #[⟨6, .data⟩, ⟨4, .guard⟩], some (4, false)⟩) (v := ?_) (Or.inl ⟨by rfl, ?_⟩) ?_
      rotate_left 1
      ·(intro u hSw; go_simp; try with_reducible rfl)
      try simp only [Act.put, sA, sB, sC]
      refine tk (i := 8) (oi := ⟨some 13, .move (.tmp 12), 4, "visit.go:27", #[⟨7, .data⟩, ⟨4, .chain⟩, ⟨4, .guard⟩], some (4, false)⟩) (v := ?_) (Or.inl ⟨by rfl, ?_⟩) ?_
      rotate_left 1
      ·(intro u hSw; go_simp; try with_reducible rfl)
      try simp only [Act.put, sA, sB, sC]
      refine tk (i := 9) (oi := ⟨some 14, .fieldAddr 142 (.tmp 2) 1, 0, "visit.go:27", #[⟨8, .guard⟩], some (8, true)⟩) (v := ?_) (Or.inl ⟨by rfl, ?_⟩) ?_
      rotate_left 1
      ·(intro u hSw; go_simp; try with_reducible rfl)
      try simp only [Act.put, sA, sB, sC]
      refine tk (i := 10) (oi := ⟨some 15, .load 68 (.tmp 14), 68, "visit.go:27", #[⟨9, .data⟩, ⟨8, .guard⟩], some (8, true)⟩) (v := ?_) (Or.inl ⟨by rfl, ?_⟩) ?_
      rotate_left 1
      ·(intro u hSw; have y0 := (HY.out _ hSw).1; have y1 := (HY.out _ hSw).2; have z0 := HZ.out _ hSw; have p1 := HPH.out _ hSw; have p0 := HPL.out _ hSw; go_simp; try with_reducible rfl)
      try simp only [Act.put, sA, sB, sC]
      refine tk (i := 11) (oi := ⟨some 16, .nilCheck (.tmp 15), 0, "visit.go:27", #[⟨10, .data⟩, ⟨8, .guard⟩], some (8, true)⟩) (v := ?_) (Or.inl ⟨by rfl, ?_⟩) ?_
      rotate_left 1
      ·(intro u hSw; go_simp; try with_reducible rfl)
      try simp only [Act.put, sA, sB, sC]
      refine tk (i := 12) (oi := ⟨some 17, .fieldAddr 115 (.tmp 16) 0, 0, "visit.go:27", #[⟨11, .data⟩, ⟨8, .guard⟩], some (8, true)⟩) (v := ?_) (Or.inl ⟨by rfl, ?_⟩) ?_
      rotate_left 1
      ·(intro u hSw; go_simp; try with_reducible rfl)
      try simp only [Act.put, sA, sB, sC]
      refine tk (i := 13) (oi := ⟨some 18, .fieldAddr 66 (.tmp 17) 0, 0, "visit.go:27", #[⟨12, .data⟩, ⟨8, .guard⟩], some (8, true)⟩) (v := ?_) (Or.inl ⟨by rfl, ?_⟩) ?_
      rotate_left 1
      ·(intro u hSw; go_simp; try with_reducible rfl)
      try simp only [Act.put, sA, sB, sC]
      refine tk (i := 14) (oi := ⟨some 19, .fieldAddr 33 (.tmp 18) 0, 0, "visit.go:27", #[⟨13, .data⟩, ⟨8, .guard⟩], some (8, true)⟩) (v := ?_) (Or.inl ⟨by rfl, ?_⟩) ?_
      rotate_left 1
      ·(intro u hSw; go_simp; try with_reducible rfl)
      try simp only [Act.put, sA, sB, sC]
      refine tk (i := 15) (oi := ⟨some 20, .load 31 (.tmp 19), 31, "visit.go:27", #[⟨14, .data⟩, ⟨8, .guard⟩], some (8, true)⟩) (v := ?_) (Or.inl ⟨by rfl, ?_⟩) ?_
      rotate_left 1
      ·(intro u hSw; have y0 := (HY.out _ hSw).1; have y1 := (HY.out _ hSw).2; have z0 := HZ.out _ hSw; have p1 := HPH.out _ hSw; have p0 := HPL.out _ hSw; go_simp; try with_reducible rfl)
      try simp only [Act.put, sA, sB, sC]
      refine tk (i := 16) (oi := ⟨some 21, .fieldAddr 74 (.tmp 3) 0, 0, "visit.go:27", #[⟨8, .guard⟩], some (8, true)⟩) (v := ?_) (Or.inl ⟨by rfl, ?_⟩) ?_
      rotate_left 1
      ·(intro u hSw; go_simp; try with_reducible rfl)
      try simp only [Act.put, sA, sB, sC]
      refine tk (i := 17) (oi := ⟨some 22, .load 31 (.tmp 21), 31, "visit.go:27", #[⟨16, .data⟩, ⟨8, .guard⟩], some (8, true)⟩) (v := ?_) (Or.inl ⟨by rfl, ?_⟩) ?_
      rotate_left 1
      ·(intro u hSw; have y0 := (HY.out _ hSw).1; have y1 := (HY.out _ hSw).2; have z0 := HZ.out _ hSw; have p1 := HPH.out _ hSw; have p0 := HPL.out _ hSw; go_simp; try with_reducible rfl)
      try simp only [Act.put, sA, sB, sC]
      refine wpAnyH_ready (rs := [18]) (by kernel_rfl) (by simp) ?_
      refine (AllReadyH.cons (o := ⟨some 23, .call ⟨.value (.func 56), #[.tmp 20, .tmp 22], #[31, 31]⟩, 3, "visit.go:28", #[⟨15, .data⟩, ⟨17, .data⟩, ⟨8, .chain⟩, ⟨8, .guard⟩], some (8, true)⟩) rfl (fun K hK => ?_) AllReadyH.nil)
      go_simp
      refine (HC.out _ hb3).mono ?_
      rintro d w18 ⟨rfl, hw18⟩
      have hb18 : Below w0.heap.size w0 w18 := (by rw [hw18]; exact hb3)
      clear hw18
      go_wp2_with fail
      refine hK.out _ _ hb18 (fun hHeld => ?_)
      clear hK K
      try simp only [Act.put, sA, sB, sC]
      refine tk (i := 19) (oi := ⟨some 24, .binOp BinOp.leq 3 (.tmp 23) (.const (Value.int IntKind.i64 0)) 3, 4, "visit.go:27", #[⟨18, .data⟩, ⟨8, .guard⟩], some (8, true)⟩) (v := .bool false) (Or.inl ⟨by rfl, ?_⟩) ?_
      ·intro u hSw
       (go_simp; first | done | omega | (rw [decide_eq_false HCM.out]) | (have := HCM.out; simp_all))
      try simp only [Act.put, sA, sB, sC]
      refine tk (i := 20) (oi := ⟨some 25, .pick (.tmp 13) (.tmp 24) (.const (Value.bool false)), 4, "visit.go:27", #[⟨8, .data⟩, ⟨19, .data⟩, ⟨4, .guard⟩], some (4, false)⟩) (v := ?_) (Or.inl ⟨by rfl, ?_⟩) ?_
      rotate_left 1
      ·(intro u hSw; go_simp; try with_reducible rfl)
      try simp only [Act.put, sA, sB, sC]
      refine tk (i := 21) (oi := ⟨some 26, .pick (.tmp 9) (.const (Value.bool true)) (.tmp 25), 4, "visit.go:27", #[⟨4, .data⟩, ⟨20, .data⟩], none⟩) (v := ?_) (Or.inl ⟨by rfl, ?_⟩) ?_
      rotate_left 1
      ·(intro u hSw; go_simp; try with_reducible rfl)
      try simp only [Act.put, sA, sB, sC]
      refine tk (i := 22) (oi := ⟨some 27, .move (.tmp 26), 4, "visit.go:27", #[⟨21, .data⟩, ⟨18, .chain⟩], none⟩) (v := ?_) (Or.inl ⟨by rfl, ?_⟩) ?_
      rotate_left 1
      ·(intro u hSw; go_simp; try with_reducible rfl)
      try simp only [Act.put, sA, sB, sC]
      refine tk (i := 23) (oi := ⟨some 28, .fieldAddr 142 (.tmp 2) 0, 0, "visit.go:27", #[⟨22, .guard⟩], some (22, false)⟩) (v := ?_) (Or.inl ⟨by rfl, ?_⟩) ?_
      rotate_left 1
      ·(intro u hSw; go_simp; try with_reducible rfl)
      try simp only [Act.put, sA, sB, sC]
      refine tk (i := 24) (oi := ⟨some 29, .load 68 (.tmp 28), 68, "visit.go:27", #[⟨23, .data⟩, ⟨22, .guard⟩], some (22, false)⟩) (v := ?_) (Or.inl ⟨by rfl, ?_⟩) ?_
      rotate_left 1
      ·(intro u hSw; have y0 := (HY.out _ hSw).1; have y1 := (HY.out _ hSw).2; have z0 := HZ.out _ hSw; have p1 := HPH.out _ hSw; have p0 := HPL.out _ hSw; go_simp; try with_reducible rfl)
      try simp only [Act.put, sA, sB, sC]
      refine tk (i := 25) (oi := ⟨some 30, .binOp BinOp.neq 68 (.tmp 29) (.const (Value.pointer none)) 68, 4, "visit.go:27", #[⟨24, .data⟩, ⟨22, .guard⟩], some (22, false)⟩) (v := ?_) (Or.inl ⟨by rfl, ?_⟩) ?_
      rotate_left 1
      ·(intro u hSw; go_simp; try with_reducible rfl)
      try simp only [Act.put, sA, sB, sC]
      refine tk (i := 26) (oi := ⟨some 31, .move (.tmp 30), 4, "visit.go:27", #[⟨25, .data⟩, ⟨22, .chain⟩, ⟨22, .guard⟩], some (22, false)⟩) (v := ?_) (Or.inl ⟨by rfl, ?_⟩) ?_
      rotate_left 1
      ·(intro u hSw; go_simp; try with_reducible rfl)
      try simp only [Act.put, sA, sB, sC]
      refine tk (i := 27) (oi := ⟨some 32, .load 74 (.tmp 3), 74, "visit.go:27", #[⟨26, .guard⟩], some (26, true)⟩) (v := .agg #[.slice af fr.length cf, .slice at2 to.length ct, .bool e]) (Or.inl ⟨by rfl, ?_⟩) ?_
      ·intro u hSw
       exact exec_load_mid 74 (Operand.tmp 3) rfl (w.heap.size + 1) 0 rfl _ _ (HSP.out _ hSw) Tryd.underlying74 rfl (by kernel_rfl)
      try simp only [Act.put, sA, sB, sC]
      refine tk (i := 28) (oi := ⟨some 33, .fieldAddr 142 (.tmp 2) 0, 0, "visit.go:27", #[⟨26, .guard⟩], some (26, true)⟩) (v := ?_) (Or.inl ⟨by rfl, ?_⟩) ?_
      rotate_left 1
      ·(intro u hSw; go_simp; try with_reducible rfl)
      try simp only [Act.put, sA, sB, sC]
      refine tk (i := 29) (oi := ⟨some 34, .load 68 (.tmp 33), 68, "visit.go:27", #[⟨28, .data⟩, ⟨26, .guard⟩], some (26, true)⟩) (v := ?_) (Or.inl ⟨by rfl, ?_⟩) ?_
      rotate_left 1
      ·(intro u hSw; have y0 := (HY.out _ hSw).1; have y1 := (HY.out _ hSw).2; have z0 := HZ.out _ hSw; have p1 := HPH.out _ hSw; have p0 := HPL.out _ hSw; go_simp; try with_reducible rfl)
      try simp only [Act.put, sA, sB, sC]
      refine tk (i := 30) (oi := ⟨some 35, .nilCheck (.tmp 34), 0, "visit.go:27", #[⟨29, .data⟩, ⟨26, .guard⟩], some (26, true)⟩) (v := ?_) (Or.inl ⟨by rfl, ?_⟩) ?_
      rotate_left 1
      ·(intro u hSw; go_simp; try with_reducible rfl)
      try simp only [Act.put, sA, sB, sC]
      refine tk (i := 31) (oi := ⟨some 36, .fieldAddr 115 (.tmp 35) 0, 0, "visit.go:27", #[⟨30, .data⟩, ⟨26, .guard⟩], some (26, true)⟩) (v := ?_) (Or.inl ⟨by rfl, ?_⟩) ?_
      rotate_left 1
      ·(intro u hSw; go_simp; try with_reducible rfl)
      try simp only [Act.put, sA, sB, sC]
      refine tk (i := 32) (oi := ⟨some 37, .fieldAddr 66 (.tmp 36) 0, 0, "visit.go:27", #[⟨31, .data⟩, ⟨26, .guard⟩], some (26, true)⟩) (v := ?_) (Or.inl ⟨by rfl, ?_⟩) ?_
      rotate_left 1
      ·(intro u hSw; go_simp; try with_reducible rfl)
      try simp only [Act.put, sA, sB, sC]
      refine tk (i := 33) (oi := ⟨some 38, .fieldAddr 33 (.tmp 37) 0, 0, "visit.go:27", #[⟨32, .data⟩, ⟨26, .guard⟩], some (26, true)⟩) (v := ?_) (Or.inl ⟨by rfl, ?_⟩) ?_
      rotate_left 1
      ·(intro u hSw; go_simp; try with_reducible rfl)
      try simp only [Act.put, sA, sB, sC]
      refine tk (i := 34) (oi := ⟨some 39, .load 31 (.tmp 38), 31, "visit.go:27", #[⟨33, .data⟩, ⟨26, .guard⟩], some (26, true)⟩) (v := ?_) (Or.inl ⟨by rfl, ?_⟩) ?_
      rotate_left 1
      ·(intro u hSw; have y0 := (HY.out _ hSw).1; have y1 := (HY.out _ hSw).2; have z0 := HZ.out _ hSw; have p1 := HPH.out _ hSw; have p0 := HPL.out _ hSw; go_simp; try with_reducible rfl)
      try simp only [Act.put, sA, sB, sC]
      refine wpAnyH_ready (rs := [35]) (by kernel_rfl) (by simp) ?_
      refine (AllReadyH.cons (o := ⟨some 40, .call ⟨.value (.func 94), #[.tmp 32, .tmp 39], #[74, 31]⟩, 4, "visit.go:29", #[⟨27, .data⟩, ⟨34, .data⟩, ⟨26, .chain⟩, ⟨26, .guard⟩], some (26, true)⟩) rfl (fun K hK => ?_) AllReadyH.nil)
      go_simp
      refine (HE2.out _ hb18).mono ?_
      rintro d w35 ⟨rfl, hw35⟩
      have hb35 : Below w0.heap.size w0 w35 := hb18.trans (hw35.mono hb18.size)
      clear hw35
      go_wp2_with fail
      refine hK.out _ _ hb35 (fun hHeld => ?_)
      clear hK K
      try simp only [Act.put, sA, sB, sC]
      refine tk (i := 36) (oi := ⟨some 41, .pick (.tmp 31) (.tmp 40) (.const (Value.bool false)), 4, "visit.go:27", #[⟨26, .data⟩, ⟨35, .data⟩, ⟨22, .guard⟩], some (22, false)⟩) (v := ?_) (Or.inl ⟨by rfl, ?_⟩) ?_
      rotate_left 1
      ·(intro u hSw; go_simp; try with_reducible rfl)
      try simp only [Act.put, sA, sB, sC]
      refine tk (i := 37) (oi := ⟨some 42, .pick (.tmp 27) (.const (Value.bool true)) (.tmp 41), 4, "visit.go:27", #[⟨22, .data⟩, ⟨36, .data⟩], none⟩) (v := ?_) (Or.inl ⟨by rfl, ?_⟩) ?_
      rotate_left 1
      ·(intro u hSw; go_simp; try with_reducible rfl)
      try simp only [Act.put, sA, sB, sC]
      refine tk (i := 38) (oi := ⟨some 4, .assign (.tmp 42), 4, "visit.go:27", #[⟨37, .data⟩, ⟨35, .chain⟩, ⟨0, .phase⟩, ⟨1, .phase⟩, ⟨2, .phase⟩, ⟨3, .phase⟩, ⟨4, .phase⟩, ⟨5, .phase⟩, ⟨6, .phase⟩, ⟨7, .phase⟩, ⟨8, .phase⟩, ⟨9, .phase⟩, ⟨10, .phase⟩, ⟨11, .phase⟩, ⟨12, .phase⟩, ⟨13, .phase⟩, ⟨14, .phase⟩, ⟨15, .phase⟩, ⟨16, .phase⟩, ⟨17, .phase⟩, ⟨18, .phase⟩, ⟨19, .phase⟩, ⟨20, .phase⟩, ⟨21, .phase⟩, ⟨22, .phase⟩, ⟨23, .phase⟩, ⟨24, .phase⟩, ⟨25, .phase⟩, ⟨26, .phase⟩, ⟨27, .phase⟩, ⟨28, .phase⟩, ⟨29, .phase⟩, ⟨30, .phase⟩, ⟨31, .phase⟩, ⟨32, .phase⟩, ⟨33, .phase⟩, ⟨34, .phase⟩, ⟨35, .phase⟩, ⟨36, .phase⟩, ⟨37, .phase⟩], none⟩) (v := ?_) (Or.inl ⟨by rfl, ?_⟩) ?_
      rotate_left 1
      ·(intro u hSw; go_simp; try with_reducible rfl)
      try simp only [Act.put, sA, sB, sC]
      refine wpAnyH_done (by kernel_rfl) ?_ _
      have HBE := hid (HB0.out.trans (hb35.mono HB0.out.size))
      go_wp2_with fail
      go_ret
      rw [HR.out]
      exact ⟨rfl, HBE.out⟩
     | false =>
      go_enter Tryd.func85, Tryd.ntmps85
      go_wp2_with fail
      generalize ((w.alloc (.cells #[.pointer (some ⟨bl, 0, none⟩), .pointer (some ⟨bh, 0, none⟩)] 142)).alloc (.cells #[.slice af fr.length cf, .slice at2 to.length ct, .bool e] 74)) = w0 at *
      have hb0 := (Below.refl w0.heap.size w0).drew
      refine wp_region_held_drew (S := fun u => Below w0.heap.size w0 u) (by kernel_rfl) (hb0) (fun hHeld => ?_)
      refine tk (i := 0) (oi := ⟨some 5, .load 74 (.tmp 3), 74, "visit.go:27", #[], none⟩) (v := .agg #[.slice af fr.length cf, .slice at2 to.length ct, .bool e]) (Or.inl ⟨by rfl, ?_⟩) ?_
      ·intro u hSw
       exact exec_load_mid 74 (Operand.tmp 3) rfl (w.heap.size + 1) 0 rfl _ _ (HSP.out _ hSw) Tryd.underlying74 rfl (by kernel_rfl)
      try simp only [Act.put, sA, sB, sC]
      refine tk (i := 1) (oi := ⟨some 6, .fieldAddr 74 (.tmp 3) 0, 0, "visit.go:27", #[], none⟩) (v := ?_) (Or.inl ⟨by rfl, ?_⟩) ?_
      rotate_left 1
      ·(intro u hSw; go_simp; try with_reducible rfl)
      try simp only [Act.put, sA, sB, sC]
      refine tk (i := 2) (oi := ⟨some 7, .load 31 (.tmp 6), 31, "visit.go:27", #[⟨1, .data⟩], none⟩) (v := ?_) (Or.inl ⟨by rfl, ?_⟩) ?_
      rotate_left 1
      ·(intro u hSw; have y0 := (HY.out _ hSw).1; have y1 := (HY.out _ hSw).2; have z0 := HZ.out _ hSw; have p1 := HPH.out _ hSw; have p0 := HPL.out _ hSw; go_simp; try with_reducible rfl)
      try simp only [Act.put, sA, sB, sC]
      refine wpAnyH_ready (rs := [3]) (by kernel_rfl) (by simp) ?_
      refine (AllReadyH.cons (o := ⟨some 8, .call ⟨.value (.func 94), #[.tmp 5, .tmp 7], #[74, 31]⟩, 4, "visit.go:27", #[⟨0, .data⟩, ⟨2, .data⟩], none⟩) rfl (fun K hK => ?_) AllReadyH.nil)
      go_simp
      refine (HE0.out _ hb0).mono ?_
      rintro d w3 ⟨rfl, hw3⟩
      have hb3 : Below w0.heap.size w0 w3 := hb0.trans (hw3.mono hb0.size)
      clear hw3
      go_wp2_with fail
      refine hK.out _ _ hb3 (fun hHeld => ?_)
      clear hK K
      try simp only [Act.put, sA, sB, sC]
      refine tk (i := 4) (oi := ⟨some 9, .move (.tmp 8), 4, "visit.go:27", #[⟨3, .data⟩, ⟨3, .chain⟩], none⟩) (v := ?_) (Or.inl ⟨by rfl, ?_⟩) ?_
      rotate_left 1
      ·(intro u hSw; go_simp; try with_reducible rfl)
      try simp only [Act.put, sA, sB, sC]
      refine tk (i := 5) (oi := ⟨some 10, .fieldAddr 142 (.tmp 2) 1, 0, "visit.go:27", #[⟨4, .guard⟩], some (4, false)⟩) (v := ?_) (Or.inl ⟨by rfl, ?_⟩) ?_
      rotate_left 1
      ·(intro u hSw; go_simp; try with_reducible rfl)
      try simp only [Act.put, sA, sB, sC]
      refine tk (i := 6) (oi := ⟨some 11, .load 68 (.tmp 10), 68, "visit.go:27", #[⟨5, .data⟩, ⟨4, .guard⟩], some (4, false)⟩) (v := ?_) (Or.inl ⟨by rfl, ?_⟩) ?_
      rotate_left 1
      ·(intro u hSw; have y0 := (HY.out _ hSw).1; have y1 := (HY.out _ hSw).2; have z0 := HZ.out _ hSw; have p1 := HPH.out _ hSw; have p0 := HPL.out _ hSw; go_simp; try with_reducible rfl)
      try simp only [Act.put, sA, sB, sC]
      refine tk (i := 7) (oi := ⟨some 12, .binOp BinOp.neq 68 (.tmp 11) (.const (Value.pointer none)) 68, 4, "visit.go:27", #[⟨6, .data⟩, ⟨4, .guard⟩], some (4, false)⟩) (v := ?_) (Or.inl ⟨by rfl, ?_⟩) ?_
      rotate_left 1
      ·(intro u hSw; go_simp; try with_reducible rfl)
      try simp only [Act.put, sA, sB, sC]
      refine tk (i := 8) (oi := ⟨some 13, .move (.tmp 12), 4, "visit.go:27", #[⟨7, .data⟩, ⟨4, .chain⟩, ⟨4, .guard⟩], some (4, false)⟩) (v := ?_) (Or.inl ⟨by rfl, ?_⟩) ?_
      rotate_left 1
      ·(intro u hSw; go_simp; try with_reducible rfl)
      try simp only [Act.put, sA, sB, sC]
      refine tk (i := 9) (oi := ⟨some 14, .fieldAddr 142 (.tmp 2) 1, 0, "visit.go:27", #[⟨8, .guard⟩], some (8, true)⟩) (v := ?_) (Or.inl ⟨by rfl, ?_⟩) ?_
      rotate_left 1
      ·(intro u hSw; go_simp; try with_reducible rfl)
      try simp only [Act.put, sA, sB, sC]
      refine tk (i := 10) (oi := ⟨some 15, .load 68 (.tmp 14), 68, "visit.go:27", #[⟨9, .data⟩, ⟨8, .guard⟩], some (8, true)⟩) (v := ?_) (Or.inl ⟨by rfl, ?_⟩) ?_
      rotate_left 1
      ·(intro u hSw; have y0 := (HY.out _ hSw).1; have y1 := (HY.out _ hSw).2; have z0 := HZ.out _ hSw; have p1 := HPH.out _ hSw; have p0 := HPL.out _ hSw; go_simp; try with_reducible rfl)
      try simp only [Act.put, sA, sB, sC]
      refine tk (i := 11) (oi := ⟨some 16, .nilCheck (.tmp 15), 0, "visit.go:27", #[⟨10, .data⟩, ⟨8, .guard⟩], some (8, true)⟩) (v := ?_) (Or.inl ⟨by rfl, ?_⟩) ?_
      rotate_left 1
      ·(intro u hSw; go_simp; try with_reducible rfl)
      try simp only [Act.put, sA, sB, sC]
      refine tk (i := 12) (oi := ⟨some 17, .fieldAddr 115 (.tmp 16) 0, 0, "visit.go:27", #[⟨11, .data⟩, ⟨8, .guard⟩], some (8, true)⟩) (v := ?_) (Or.inl ⟨by rfl, ?_⟩) ?_
      rotate_left 1
      ·(intro u hSw; go_simp; try with_reducible rfl)
      try simp only [Act.put, sA, sB, sC]
      refine tk (i := 13) (oi := ⟨some 18, .fieldAddr 66 (.tmp 17) 0, 0, "visit.go:27", #[⟨12, .data⟩, ⟨8, .guard⟩], some (8, true)⟩) (v := ?_) (Or.inl ⟨by rfl, ?_⟩) ?_
      rotate_left 1
      ·(intro u hSw; go_simp; try with_reducible rfl)
      try simp only [Act.put, sA, sB, sC]
      refine tk (i := 14) (oi := ⟨some 19, .fieldAddr 33 (.tmp 18) 0, 0, "visit.go:27", #[⟨13, .data⟩, ⟨8, .guard⟩], some (8, true)⟩) (v := ?_) (Or.inl ⟨by rfl, ?_⟩) ?_
      rotate_left 1
      ·(intro u hSw; go_simp; try with_reducible rfl)
      try simp only [Act.put, sA, sB, sC]
      refine tk (i := 15) (oi := ⟨some 20, .load 31 (.tmp 19), 31, "visit.go:27", #[⟨14, .data⟩, ⟨8, .guard⟩], some (8, true)⟩) (v := ?_) (Or.inl ⟨by rfl, ?_⟩) ?_
      rotate_left 1
      ·(intro u hSw; have y0 := (HY.out _ hSw).1; have y1 := (HY.out _ hSw).2; have z0 := HZ.out _ hSw; have p1 := HPH.out _ hSw; have p0 := HPL.out _ hSw; go_simp; try with_reducible rfl)
      try simp only [Act.put, sA, sB, sC]
      refine tk (i := 16) (oi := ⟨some 21, .fieldAddr 74 (.tmp 3) 0, 0, "visit.go:27", #[⟨8, .guard⟩], some (8, true)⟩) (v := ?_) (Or.inl ⟨by rfl, ?_⟩) ?_
      rotate_left 1
      ·(intro u hSw; go_simp; try with_reducible rfl)
      try simp only [Act.put, sA, sB, sC]
      refine tk (i := 17) (oi := ⟨some 22, .load 31 (.tmp 21), 31, "visit.go:27", #[⟨16, .data⟩, ⟨8, .guard⟩], some (8, true)⟩) (v := ?_) (Or.inl ⟨by rfl, ?_⟩) ?_
      rotate_left 1
      ·(intro u hSw; have y0 := (HY.out _ hSw).1; have y1 := (HY.out _ hSw).2; have z0 := HZ.out _ hSw; have p1 := HPH.out _ hSw; have p0 := HPL.out _ hSw; go_simp; try with_reducible rfl)
      try simp only [Act.put, sA, sB, sC]
      refine wpAnyH_ready (rs := [18]) (by kernel_rfl) (by simp) ?_
      refine (AllReadyH.cons (o := ⟨some 23, .call ⟨.value (.func 56), #[.tmp 20, .tmp 22], #[31, 31]⟩, 3, "visit.go:28", #[⟨15, .data⟩, ⟨17, .data⟩, ⟨8, .chain⟩, ⟨8, .guard⟩], some (8, true)⟩) rfl (fun K hK => ?_) AllReadyH.nil)
      go_simp
      refine (HC.out _ hb3).mono ?_
      rintro d w18 ⟨rfl, hw18⟩
      have hb18 : Below w0.heap.size w0 w18 := (by rw [hw18]; exact hb3)
      clear hw18
      go_wp2_with fail
      refine hK.out _ _ hb18 (fun hHeld => ?_)
      clear hK K
      try simp only [Act.put, sA, sB, sC]
      refine tk (i := 19) (oi := ⟨some 24, .binOp BinOp.leq 3 (.tmp 23) (.const (Value.int IntKind.i64 0)) 3, 4, "visit.go:27", #[⟨18, .data⟩, ⟨8, .guard⟩], some (8, true)⟩) (v := .bool false) (Or.inl ⟨by rfl, ?_⟩) ?_
      ·intro u hSw
       (go_simp; first | done | omega | (rw [decide_eq_false HCM.out]) | (have := HCM.out; simp_all))
      try simp only [Act.put, sA, sB, sC]
      refine tk (i := 20) (oi := ⟨some 25, .pick (.tmp 13) (.tmp 24) (.const (Value.bool false)), 4, "visit.go:27", #[⟨8, .data⟩, ⟨19, .data⟩, ⟨4, .guard⟩], some (4, false)⟩) (v := ?_) (Or.inl ⟨by rfl, ?_⟩) ?_
      rotate_left 1
      ·(intro u hSw; go_simp; try with_reducible rfl)
      try simp only [Act.put, sA, sB, sC]
      refine tk (i := 21) (oi := ⟨some 26, .pick (.tmp 9) (.const (Value.bool true)) (.tmp 25), 4, "visit.go:27", #[⟨4, .data⟩, ⟨20, .data⟩], none⟩) (v := ?_) (Or.inl ⟨by rfl, ?_⟩) ?_
      rotate_left 1
      ·(intro u hSw; go_simp; try with_reducible rfl)
      try simp only [Act.put, sA, sB, sC]
      refine tk (i := 22) (oi := ⟨some 27, .move (.tmp 26), 4, "visit.go:27", #[⟨21, .data⟩, ⟨18, .chain⟩], none⟩) (v := ?_) (Or.inl ⟨by rfl, ?_⟩) ?_
      rotate_left 1
      ·(intro u hSw; go_simp; try with_reducible rfl)
      try simp only [Act.put, sA, sB, sC]
      refine tk (i := 23) (oi := ⟨some 28, .fieldAddr 142 (.tmp 2) 0, 0, "visit.go:27", #[⟨22, .guard⟩], some (22, false)⟩) (v := ?_) (Or.inl ⟨by rfl, ?_⟩) ?_
      rotate_left 1
      ·(intro u hSw; go_simp; try with_reducible rfl)
      try simp only [Act.put, sA, sB, sC]
      refine tk (i := 24) (oi := ⟨some 29, .load 68 (.tmp 28), 68, "visit.go:27", #[⟨23, .data⟩, ⟨22, .guard⟩], some (22, false)⟩) (v := ?_) (Or.inl ⟨by rfl, ?_⟩) ?_
      rotate_left 1
      ·(intro u hSw; have y0 := (HY.out _ hSw).1; have y1 := (HY.out _ hSw).2; have z0 := HZ.out _ hSw; have p1 := HPH.out _ hSw; have p0 := HPL.out _ hSw; go_simp; try with_reducible rfl)
      try simp only [Act.put, sA, sB, sC]
      refine tk (i := 25) (oi := ⟨some 30, .binOp BinOp.neq 68 (.tmp 29) (.const (Value.pointer none)) 68, 4, "visit.go:27", #[⟨24, .data⟩, ⟨22, .guard⟩], some (22, false)⟩) (v := ?_) (Or.inl ⟨by rfl, ?_⟩) ?_
      rotate_left 1
      ·(intro u hSw; go_simp; try with_reducible rfl)
      try simp only [Act.put, sA, sB, sC]
      refine tk (i := 26) (oi := ⟨some 31, .move (.tmp 30), 4, "visit.go:27", #[⟨25, .data⟩, ⟨22, .chain⟩, ⟨22, .guard⟩], some (22, false)⟩) (v := ?_) (Or.inl ⟨by rfl, ?_⟩) ?_
      rotate_left 1
      ·(intro u hSw; go_simp; try with_reducible rfl)
      try simp only [Act.put, sA, sB, sC]
      refine tk (i := 27) (oi := ⟨some 32, .load 74 (.tmp 3), 74, "visit.go:27", #[⟨26, .guard⟩], some (26, true)⟩) (v := .agg #[.slice af fr.length cf, .slice at2 to.length ct, .bool e]) (Or.inl ⟨by rfl, ?_⟩) ?_
      ·intro u hSw
       exact exec_load_mid 74 (Operand.tmp 3) rfl (w.heap.size + 1) 0 rfl _ _ (HSP.out _ hSw) Tryd.underlying74 rfl (by kernel_rfl)
      try simp only [Act.put, sA, sB, sC]
      refine tk (i := 28) (oi := ⟨some 33, .fieldAddr 142 (.tmp 2) 0, 0, "visit.go:27", #[⟨26, .guard⟩], some (26, true)⟩) (v := ?_) (Or.inl ⟨by rfl, ?_⟩) ?_
      rotate_left 1
      ·(intro u hSw; go_simp; try with_reducible rfl)
      try simp only [Act.put, sA, sB, sC]
      refine tk (i := 29) (oi := ⟨some 34, .load 68 (.tmp 33), 68, "visit.go:27", #[⟨28, .data⟩, ⟨26, .guard⟩], some (26, true)⟩) (v := ?_) (Or.inl ⟨by rfl, ?_⟩) ?_
      rotate_left 1
      ·(intro u hSw; have y0 := (HY.out _ hSw).1; have y1 := (HY.out _ hSw).2; have z0 := HZ.out _ hSw; have p1 := HPH.out _ hSw; have p0 := HPL.out _ hSw; go_simp; try with_reducible rfl)
      try simp only [Act.put, sA, sB, sC]
      refine tk (i := 30) (oi := ⟨some 35, .nilCheck (.tmp 34), 0, "visit.go:27", #[⟨29, .data⟩, ⟨26, .guard⟩], some (26, true)⟩) (v := ?_) (Or.inl ⟨by rfl, ?_⟩) ?_
      rotate_left 1
      ·(intro u hSw; go_simp; try with_reducible rfl)
      try simp only [Act.put, sA, sB, sC]
      refine tk (i := 31) (oi := ⟨some 36, .fieldAddr 115 (.tmp 35) 0, 0, "visit.go:27", #[⟨30, .data⟩, ⟨26, .guard⟩], some (26, true)⟩) (v := ?_) (Or.inl ⟨by rfl, ?_⟩) ?_
      rotate_left 1
      ·(intro u hSw; go_simp; try with_reducible rfl)
      try simp only [Act.put, sA, sB, sC]
      refine tk (i := 32) (oi := ⟨some 37, .fieldAddr 66 (.tmp 36) 0, 0, "visit.go:27", #[⟨31, .data⟩, ⟨26, .guard⟩], some (26, true)⟩) (v := ?_) (Or.inl ⟨by rfl, ?_⟩) ?_
      rotate_left 1
      ·(intro u hSw; go_simp; try with_reducible rfl)
      try simp only [Act.put, sA, sB, sC]
      refine tk (i := 33) (oi := ⟨some 38, .fieldAddr 33 (.tmp 37) 0, 0, "visit.go:27", #[⟨32, .data⟩, ⟨26, .guard⟩], some (26, true)⟩) (v := ?_) (Or.inl ⟨by rfl, ?_⟩) ?_
      rotate_left 1
      ·(intro u hSw; go_simp; try with_reducible rfl)
      try simp only [Act.put, sA, sB, sC]
      refine tk (i := 34) (oi := ⟨some 39, .load 31 (.tmp 38), 31, "visit.go:27", #[⟨33, .data⟩, ⟨26, .guard⟩], some (26, true)⟩) (v := ?_) (Or.inl ⟨by rfl, ?_⟩) ?_
      rotate_left 1
      ·(intro u hSw; have y0 := (HY.out _ hSw).1; have y1 := (HY.out _ hSw).2; have z0 := HZ.out _ hSw; have p1 := HPH.out _ hSw; have p0 := HPL.out _ hSw; go_simp; try with_reducible rfl)
      try simp only [Act.put, sA, sB, sC]
      refine wpAnyH_ready (rs := [35]) (by kernel_rfl) (by simp) ?_
      refine (AllReadyH.cons (o := ⟨some 40, .call ⟨.value (.func 94), #[.tmp 32, .tmp 39], #[74, 31]⟩, 4, "visit.go:29", #[⟨27, .data⟩, ⟨34, .data⟩, ⟨26, .chain⟩, ⟨26, .guard⟩], some (26, true)⟩) rfl (fun K hK => ?_) AllReadyH.nil)
      go_simp
      refine (HE2.out _ hb18).mono ?_
      rintro d w35 ⟨rfl, hw35⟩
      have hb35 : Below w0.heap.size w0 w35 := hb18.trans (hw35.mono hb18.size)
      clear hw35
      go_wp2_with fail
      refine hK.out _ _ hb35 (fun hHeld => ?_)
      clear hK K
      try simp only [Act.put, sA, sB, sC]
      refine tk (i := 36) (oi := ⟨some 41, .pick (.tmp 31) (.tmp 40) (.const (Value.bool false)), 4, "visit.go:27", #[⟨26, .data⟩, ⟨35, .data⟩, ⟨22, .guard⟩], some (22, false)⟩) (v := ?_) (Or.inl ⟨by rfl, ?_⟩) ?_
      rotate_left 1
      ·(intro u hSw; go_simp; try with_reducible rfl)
      try simp only [Act.put, sA, sB, sC]
      refine tk (i := 37) (oi := ⟨some 42, .pick (.tmp 27) (.const (Value.bool true)) (.tmp 41), 4, "visit.go:27", #[⟨22, .data⟩, ⟨36, .data⟩], none⟩) (v := ?_) (Or.inl ⟨by rfl, ?_⟩) ?_
      rotate_left 1
      ·(intro u hSw; go_simp; try with_reducible rfl)
      try simp only [Act.put, sA, sB, sC]
      refine tk (i := 38) (oi := ⟨some 4, .assign (.tmp 42), 4, "visit.go:27", #[⟨37, .data⟩, ⟨35, .chain⟩, ⟨0, .phase⟩, ⟨1, .phase⟩, ⟨2, .phase⟩, ⟨3, .phase⟩, ⟨4, .phase⟩, ⟨5, .phase⟩, ⟨6, .phase⟩, ⟨7, .phase⟩, ⟨8, .phase⟩, ⟨9, .phase⟩, ⟨10, .phase⟩, ⟨11, .phase⟩, ⟨12, .phase⟩, ⟨13, .phase⟩, ⟨14, .phase⟩, ⟨15, .phase⟩, ⟨16, .phase⟩, ⟨17, .phase⟩, ⟨18, .phase⟩, ⟨19, .phase⟩, ⟨20, .phase⟩, ⟨21, .phase⟩, ⟨22, .phase⟩, ⟨23, .phase⟩, ⟨24, .phase⟩, ⟨25, .phase⟩, ⟨26, .phase⟩, ⟨27, .phase⟩, ⟨28, .phase⟩, ⟨29, .phase⟩, ⟨30, .phase⟩, ⟨31, .phase⟩, ⟨32, .phase⟩, ⟨33, .phase⟩, ⟨34, .phase⟩, ⟨35, .phase⟩, ⟨36, .phase⟩, ⟨37, .phase⟩], none⟩) (v := ?_) (Or.inl ⟨by rfl, ?_⟩) ?_
      rotate_left 1
      ·(intro u hSw; go_simp; try with_reducible rfl)
      try simp only [Act.put, sA, sB, sC]
      refine wpAnyH_done (by kernel_rfl) ?_ _
      have HBE := hid (HB0.out.trans (hb35.mono HB0.out.size))
      go_wp2_with fail
      go_ret
      rw [HR.out]
      exact ⟨rfl, HBE.out⟩
end Go.Proofs.YtbmlkocpjboodaaDoor
