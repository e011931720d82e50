/-
  ValueLogic: for any two numbers (that choose two of the three truth values) not of and is or of nots, and NULL lies between false and true. Condition: the second form's bound, which two integers always meet.
-/
import Derived.Test.YtbhilmgpmebaiaaLg00
import Derived.Test.YtbhilmgpmebaiaaLg09
import Derived.WalkKit
import Derived.ProofKit
import Derived.OpenShut
namespace Go.Proofs.Ytbhilmgpmebaiaa
open Go.RowKit
attribute [local go_sem ↓] eql32_eq neq32_eq
theorem LG.nth {w u : World} {g H : Nat} {l : List (Nat × Val)} (h : LG w u g H l) {i a : Nat} {x : Val} (hi : l[i]? = some (a, x)) : u.heap[a]? = some (BX x.k x.n (str x.s)) := h.2.2.1 (a, x) (List.mem_of_getElem? hi)
theorem lg_start (w w2 : World) (hb : Below w.heap.size w w2) (o1 o2 : Obj) : LG w ((((w2.alloc o1).alloc o2).alloc (.cells #[.int .i64 3, .int .i64 0, .string ⟨#[]⟩, .int .i64 0, .int .i64 0, .string ⟨#[]⟩, .int .i64 3, .int .i64 1, .string ⟨#[]⟩] 23)).alloc (.cells #[.slice (some ⟨w2.heap.size + 1 + 1, 0, none⟩) 3 3] 29)) (w2.heap.size + 1 + 1 + 1) (w2.heap.size + 1 + 1) [] := by
  have h1 := Rw.lit (w := (w2.alloc o1).alloc o2) (T := 23) (fr := (0, 0)) L3 (cs := #[.int .i64 3, .int .i64 0, .string ⟨#[]⟩, .int .i64 0, .int .i64 0, .string ⟨#[]⟩, .int .i64 3, .int .i64 1, .string ⟨#[]⟩]) rfl (n := 3) (c := 3) rfl (Nat.le_refl _) (H := w2.heap.size + 1 + 1) (by simp)
  refine ⟨?_, h1.below ((Below.refl _ _).alloc (Nat.le_refl _) _), fun q hq => by simp at hq, bl_al (bl_al (bl_al (bl_al hb _) _) _) _⟩
  have h := heap_alloc_new (((w2.alloc o1).alloc o2).alloc (.cells #[.int .i64 3, .int .i64 0, .string ⟨#[]⟩, .int .i64 0, .int .i64 0, .string ⟨#[]⟩, .int .i64 3, .int .i64 1, .string ⟨#[]⟩] 23)) (.cells #[.slice (some ⟨w2.heap.size + 1 + 1, 0, none⟩) 3 3] 29)
  rw [show (((w2.alloc o1).alloc o2).alloc (.cells #[.int .i64 3, .int .i64 0, .string ⟨#[]⟩, .int .i64 0, .int .i64 0, .string ⟨#[]⟩, .int .i64 3, .int .i64 1, .string ⟨#[]⟩] 23)).heap.size = w2.heap.size + 1 + 1 + 1 by simp] at h
  exact h
set_option maxRecDepth 100000 in
set_option maxHeartbeats 12800000 in
theorem logic_walk (x y : Int) (w : World) : Calls Try.prog 9 #[.int .i64 x, .int .i64 y] w fun e w' => e = .returned (.bool true) ∧ Below w.heap.size w w' := by
  go_enter Try.func9, Try.ntmps9
  go_wp2_with (first
    | (go_at_call 12; refine (awake_any _).mono ?_; rintro e w2 ⟨rfl, hb2⟩; have HB2 := Lib.hid hb2; clear hb2)
    | (go_at_call 27; refine (rtruth_any _ _).mono ?_; rintro e w' ⟨rfl, rfl⟩))
  obtain ⟨hp, ex⟩ := ix_lt x
  obtain ⟨hq, ey⟩ := ix_lt y
  have hl0 := lg_start w w2 HB2.out (BX 3 0 ⟨#[]⟩) (BX 3 1 ⟨#[]⟩)
  refine logic_reg x y (ix x) (ix y) w _ _ _ hp hq ex ey hl0 (fun _ a o v _ h => by have h' : (a.put o v).defers = [] ∧ _ := h; rw [show (a.put o v).defers = a.defers by cases o <;> rfl] at h'; exact h') ?_
  generalize ix x = p at *
  generalize ix y = q at *
  generalize w2.heap.size + 1 + 1 + 1 = g at *
  generalize w2.heap.size + 1 + 1 = H at *
  clear hl0 HB2 ex ey
  intro u h6 h7 hL0
  have h1 := andT_any p q hp hq
  have h2 := orT_any p q hp hq
  have h3 := not_tv p hp
  have h4 := not_tv q hq
  have h5 := orT_any (2 - p) (2 - q) (by omega) (by omega)
  have h6' := not_tv (max (2 - p) (2 - q)) (by omega)
  rw [show 2 - max (2 - p) (2 - q) = min p q by omega] at h6'
  have hmm : ((min p q : Nat) : Int) = min (p : Int) (q : Int) := by omega
  have hMM : ((max p q : Nat) : Int) = max (p : Int) (q : Int) := by omega
  have hpp : ((2 - p : Nat) : Int) = 2 - (p : Int) := by omega
  have hm : min p q < 3 := by omega
  have hM : max p q < 3 := by omega
  have hp_ : 2 - p < 3 := by omega
  generalize max (2 - p) (2 - q) = n at *
  generalize min p q = m at *
  generalize max p q = M at *
  generalize 2 - p = p' at *
  generalize 2 - q = q' at *
  have he := fun (v : World) => run_eql32 v (tv m) (tv m) (by rw [tv_s]; exact fun x hx => by simp at hx) (by rw [tv_s]; exact fun x hx => by simp at hx)
  simp only [decide_true] at he
  have H1 := Lib.hid h1
  have H2 := Lib.hid h2
  have H3 := Lib.hid h3
  have H4 := Lib.hid h4
  have H5 := Lib.hid h5
  have H6 := Lib.hid h6'
  obtain ⟨c00, c01, c02⟩ := bx_cells (hL0.nth (i := 0) rfl)
  obtain ⟨d00, d01, d02⟩ := bx_cells (hL0.nth (i := 1) rfl)
  have HL0 := Lib.hid hL0
  have HMM := Lib.hid (And.intro hmm hMM)
  have HPP := Lib.hid hpp
  clear hL0 h1 h2 h3 h4 h5 h6' hmm hMM hpp
  go_wp2_with (first
    | (go_at_call 13; (with_reducible refine (H1.out _).mono ?_); rintro e u1 ⟨rfl, hb⟩; have hL1 := (HL0.out.below hb).new (tv m); obtain ⟨c110, c111, c112⟩ := bx_cells (hL1.nth (i := 1) rfl); obtain ⟨c120, c121, c122⟩ := bx_cells (hL1.nth (i := 2) rfl); have HL1 := Lib.hid hL1; clear hb hL1 H1 HL0)
    | (go_at_call 13; (with_reducible refine (H2.out _).mono ?_); rintro e u2 ⟨rfl, hb⟩; have hL2 := (HL1.out.below hb).new (tv M); obtain ⟨c220, c221, c222⟩ := bx_cells (hL2.nth (i := 2) rfl); have HL2 := Lib.hid hL2; clear hb hL2 H2 HL1)
    | (go_at_call 13; (with_reducible refine (H3.out _).mono ?_); rintro e u3 ⟨rfl, hb⟩; have hL3 := (HL2.out.below hb).new (tv p'); obtain ⟨c340, c341, c342⟩ := bx_cells (hL3.nth (i := 4) rfl); have HL3 := Lib.hid hL3; clear hb hL3 H3 HL2)
    | (go_at_call 13; (with_reducible refine (H4.out _).mono ?_); rintro e u4 ⟨rfl, hb⟩; have hL4 := (HL3.out.below hb).new (tv q'); obtain ⟨c400, c401, c402⟩ := bx_cells (hL4.nth (i := 0) rfl); obtain ⟨c410, c411, c412⟩ := bx_cells (hL4.nth (i := 1) rfl); have HL4 := Lib.hid hL4; clear hb hL4 H4 HL3)
    | (go_at_call 13; (with_reducible refine (H5.out _).mono ?_); rintro e u5 ⟨rfl, hb⟩; have hL5 := (HL4.out.below hb).new (tv n); obtain ⟨c500, c501, c502⟩ := bx_cells (hL5.nth (i := 0) rfl); have HL5 := Lib.hid hL5; clear hb hL5 H5 HL4)
    | (go_at_call 13; (with_reducible refine (H6.out _).mono ?_); rintro e u6 ⟨rfl, hb⟩; have hL6 := (HL5.out.below hb).new (tv m); have HL6 := Lib.hid hL6; clear hb hL6 H6 HL5))
  have hS := HL6.out.drew
  clear HL6
  refine wp_region_held_drew (S := fun u => LG w u g H [(u6.heap.size, tv m), (u5.heap.size, tv n), (u4.heap.size, tv q'), (u3.heap.size, tv p'), (u2.heap.size, tv M), (u1.heap.size, tv m), (h6, tv p), (h7, tv q)]) (by kernel_rfl) (hS) (fun hHeld => ?_)
  refine wpAnyH_take (i := 0) (oi := ({ dst := some 76, op := Op.load 23 (Operand.tmp 8), type := 23, pos := "law.go:111", after := #[], guard := none } : Oper)) (v := ?_) rfl (by kernel_rfl) (by kernel_rfl) (by kernel_rfl) (fun _ _ _ h => h) (Or.inl ⟨by rfl, ?_⟩) (by assumption) ?_
  rotate_left 1
  · (intro u hSw; have c00 := (bx_cells (hSw.nth (i := 0) rfl)).1; have c01 := (bx_cells (hSw.nth (i := 0) rfl)).2.1; have c02 := (bx_cells (hSw.nth (i := 0) rfl)).2.2; have c30 := (bx_cells (hSw.nth (i := 3) rfl)).1; have c31 := (bx_cells (hSw.nth (i := 3) rfl)).2.1; have c32 := (bx_cells (hSw.nth (i := 3) rfl)).2.2; have c40 := (bx_cells (hSw.nth (i := 4) rfl)).1; have c41 := (bx_cells (hSw.nth (i := 4) rfl)).2.1; have c42 := (bx_cells (hSw.nth (i := 4) rfl)).2.2; have c50 := (bx_cells (hSw.nth (i := 5) rfl)).1; have c51 := (bx_cells (hSw.nth (i := 5) rfl)).2.1; have c52 := (bx_cells (hSw.nth (i := 5) rfl)).2.2; have c60 := (bx_cells (hSw.nth (i := 6) rfl)).1; have c61 := (bx_cells (hSw.nth (i := 6) rfl)).2.1; have c62 := (bx_cells (hSw.nth (i := 6) rfl)).2.2; have c70 := (bx_cells (hSw.nth (i := 7) rfl)).1; have c71 := (bx_cells (hSw.nth (i := 7) rfl)).2.1; have c72 := (bx_cells (hSw.nth (i := 7) rfl)).2.2; go_simp; try with_reducible rfl)
  try simp only [Act.put, List.setIfInBounds_toArray, List.set_cons_zero, List.set_cons_succ]
  refine wpAnyH_take (i := 1) (oi := ({ dst := some 77, op := Op.load 23 (Operand.tmp 18), type := 23, pos := "law.go:111", after := #[], guard := none } : Oper)) (v := ?_) rfl (by kernel_rfl) (by kernel_rfl) (by kernel_rfl) (fun _ _ _ h => h) (Or.inl ⟨by rfl, ?_⟩) (by assumption) ?_
  rotate_left 1
  · (intro u hSw; have c00 := (bx_cells (hSw.nth (i := 0) rfl)).1; have c01 := (bx_cells (hSw.nth (i := 0) rfl)).2.1; have c02 := (bx_cells (hSw.nth (i := 0) rfl)).2.2; have c30 := (bx_cells (hSw.nth (i := 3) rfl)).1; have c31 := (bx_cells (hSw.nth (i := 3) rfl)).2.1; have c32 := (bx_cells (hSw.nth (i := 3) rfl)).2.2; have c40 := (bx_cells (hSw.nth (i := 4) rfl)).1; have c41 := (bx_cells (hSw.nth (i := 4) rfl)).2.1; have c42 := (bx_cells (hSw.nth (i := 4) rfl)).2.2; have c50 := (bx_cells (hSw.nth (i := 5) rfl)).1; have c51 := (bx_cells (hSw.nth (i := 5) rfl)).2.1; have c52 := (bx_cells (hSw.nth (i := 5) rfl)).2.2; have c60 := (bx_cells (hSw.nth (i := 6) rfl)).1; have c61 := (bx_cells (hSw.nth (i := 6) rfl)).2.1; have c62 := (bx_cells (hSw.nth (i := 6) rfl)).2.2; have c70 := (bx_cells (hSw.nth (i := 7) rfl)).1; have c71 := (bx_cells (hSw.nth (i := 7) rfl)).2.1; have c72 := (bx_cells (hSw.nth (i := 7) rfl)).2.2; go_simp; try with_reducible rfl)
  try simp only [Act.put, List.setIfInBounds_toArray, List.set_cons_zero, List.set_cons_succ]
  refine wpAnyH_take (i := 2) (oi := ({ dst := some 78, op := Op.binOp BinOp.eql 23 (Operand.tmp 76) (Operand.tmp 77) 23, type := 4, pos := "law.go:111", after := #[{ on := 0, ground := Ground.data }, { on := 1, ground := Ground.data }], guard := none } : Oper)) (v := ?_) rfl (by kernel_rfl) (by kernel_rfl) (by kernel_rfl) (fun _ _ _ h => h) (Or.inl ⟨by rfl, ?_⟩) (by assumption) ?_
  rotate_left 1
  · (intro u hSw; go_simp; try with_reducible rfl)
  try simp only [Act.put, List.setIfInBounds_toArray, List.set_cons_zero, List.set_cons_succ]
  refine wpAnyH_take (i := 3) (oi := ({ dst := some 79, op := Op.move (Operand.tmp 78), type := 4, pos := "law.go:111", after := #[{ on := 2, ground := Ground.data }], guard := none } : Oper)) (v := ?_) rfl (by kernel_rfl) (by kernel_rfl) (by kernel_rfl) (fun _ _ _ h => h) (Or.inl ⟨by rfl, ?_⟩) (by assumption) ?_
  rotate_left 1
  · (intro u hSw; go_simp; try with_reducible rfl)
  try simp only [Act.put, List.setIfInBounds_toArray, List.set_cons_zero, List.set_cons_succ]
  refine wpAnyH_take (i := 4) (oi := ({ dst := some 80, op := Op.move (Operand.tmp 20), type := 46, pos := "law.go:111", after := #[{ on := 3, ground := Ground.guard }], guard := some (3, true) } : Oper)) (v := ?_) rfl (by kernel_rfl) (by kernel_rfl) (by kernel_rfl) (fun _ _ _ h => h) (Or.inl ⟨by rfl, ?_⟩) (by assumption) ?_
  rotate_left 1
  · (intro u hSw; go_simp; try with_reducible rfl)
  try simp only [Act.put, List.setIfInBounds_toArray, List.set_cons_zero, List.set_cons_succ]
  refine wpAnyH_take (i := 5) (oi := ({ dst := some 81, op := Op.load 23 (Operand.tmp 8), type := 23, pos := "law.go:111", after := #[{ on := 3, ground := Ground.guard }], guard := some (3, true) } : Oper)) (v := ?_) rfl (by kernel_rfl) (by kernel_rfl) (by kernel_rfl) (fun _ _ _ h => h) (Or.inl ⟨by rfl, ?_⟩) (by assumption) ?_
  rotate_left 1
  · (intro u hSw; have c00 := (bx_cells (hSw.nth (i := 0) rfl)).1; have c01 := (bx_cells (hSw.nth (i := 0) rfl)).2.1; have c02 := (bx_cells (hSw.nth (i := 0) rfl)).2.2; have c30 := (bx_cells (hSw.nth (i := 3) rfl)).1; have c31 := (bx_cells (hSw.nth (i := 3) rfl)).2.1; have c32 := (bx_cells (hSw.nth (i := 3) rfl)).2.2; have c40 := (bx_cells (hSw.nth (i := 4) rfl)).1; have c41 := (bx_cells (hSw.nth (i := 4) rfl)).2.1; have c42 := (bx_cells (hSw.nth (i := 4) rfl)).2.2; have c50 := (bx_cells (hSw.nth (i := 5) rfl)).1; have c51 := (bx_cells (hSw.nth (i := 5) rfl)).2.1; have c52 := (bx_cells (hSw.nth (i := 5) rfl)).2.2; have c60 := (bx_cells (hSw.nth (i := 6) rfl)).1; have c61 := (bx_cells (hSw.nth (i := 6) rfl)).2.1; have c62 := (bx_cells (hSw.nth (i := 6) rfl)).2.2; have c70 := (bx_cells (hSw.nth (i := 7) rfl)).1; have c71 := (bx_cells (hSw.nth (i := 7) rfl)).2.1; have c72 := (bx_cells (hSw.nth (i := 7) rfl)).2.2; go_simp; try with_reducible rfl)
  try simp only [Act.put, List.setIfInBounds_toArray, List.set_cons_zero, List.set_cons_succ]
  refine wpAnyH_take (i := 7) (oi := ({ dst := some 83, op := Op.move (Operand.tmp 20), type := 46, pos := "law.go:111", after := #[{ on := 3, ground := Ground.guard }], guard := some (3, true) } : Oper)) (v := ?_) rfl (by kernel_rfl) (by kernel_rfl) (by kernel_rfl) (fun _ _ _ h => h) (Or.inl ⟨by rfl, ?_⟩) (by assumption) ?_
  rotate_left 1
  · (intro u hSw; go_simp; try with_reducible rfl)
  try simp only [Act.put, List.setIfInBounds_toArray, List.set_cons_zero, List.set_cons_succ]
  refine wpAnyH_take (i := 8) (oi := ({ dst := some 84, op := Op.load 23 (Operand.tmp 6), type := 23, pos := "law.go:111", after := #[{ on := 3, ground := Ground.guard }], guard := some (3, true) } : Oper)) (v := ?_) rfl (by kernel_rfl) (by kernel_rfl) (by kernel_rfl) (fun _ _ _ h => h) (Or.inl ⟨by rfl, ?_⟩) (by assumption) ?_
  rotate_left 1
  · (intro u hSw; have c00 := (bx_cells (hSw.nth (i := 0) rfl)).1; have c01 := (bx_cells (hSw.nth (i := 0) rfl)).2.1; have c02 := (bx_cells (hSw.nth (i := 0) rfl)).2.2; have c30 := (bx_cells (hSw.nth (i := 3) rfl)).1; have c31 := (bx_cells (hSw.nth (i := 3) rfl)).2.1; have c32 := (bx_cells (hSw.nth (i := 3) rfl)).2.2; have c40 := (bx_cells (hSw.nth (i := 4) rfl)).1; have c41 := (bx_cells (hSw.nth (i := 4) rfl)).2.1; have c42 := (bx_cells (hSw.nth (i := 4) rfl)).2.2; have c50 := (bx_cells (hSw.nth (i := 5) rfl)).1; have c51 := (bx_cells (hSw.nth (i := 5) rfl)).2.1; have c52 := (bx_cells (hSw.nth (i := 5) rfl)).2.2; have c60 := (bx_cells (hSw.nth (i := 6) rfl)).1; have c61 := (bx_cells (hSw.nth (i := 6) rfl)).2.1; have c62 := (bx_cells (hSw.nth (i := 6) rfl)).2.2; have c70 := (bx_cells (hSw.nth (i := 7) rfl)).1; have c71 := (bx_cells (hSw.nth (i := 7) rfl)).2.1; have c72 := (bx_cells (hSw.nth (i := 7) rfl)).2.2; go_simp; try with_reducible rfl)
  try simp only [Act.put, List.setIfInBounds_toArray, List.set_cons_zero, List.set_cons_succ]
  refine wpAnyH_take (i := 10) (oi := ({ dst := some 86, op := Op.move (Operand.tmp 20), type := 46, pos := "law.go:111", after := #[{ on := 3, ground := Ground.guard }], guard := some (3, true) } : Oper)) (v := ?_) rfl (by kernel_rfl) (by kernel_rfl) (by kernel_rfl) (fun _ _ _ h => h) (Or.inl ⟨by rfl, ?_⟩) (by assumption) ?_
  rotate_left 1
  · (intro u hSw; go_simp; try with_reducible rfl)
  try simp only [Act.put, List.setIfInBounds_toArray, List.set_cons_zero, List.set_cons_succ]
  refine wpAnyH_take (i := 11) (oi := ({ dst := some 87, op := Op.load 23 (Operand.tmp 7), type := 23, pos := "law.go:111", after := #[{ on := 3, ground := Ground.guard }], guard := some (3, true) } : Oper)) (v := ?_) rfl (by kernel_rfl) (by kernel_rfl) (by kernel_rfl) (fun _ _ _ h => h) (Or.inl ⟨by rfl, ?_⟩) (by assumption) ?_
  rotate_left 1
  · (intro u hSw; have c00 := (bx_cells (hSw.nth (i := 0) rfl)).1; have c01 := (bx_cells (hSw.nth (i := 0) rfl)).2.1; have c02 := (bx_cells (hSw.nth (i := 0) rfl)).2.2; have c30 := (bx_cells (hSw.nth (i := 3) rfl)).1; have c31 := (bx_cells (hSw.nth (i := 3) rfl)).2.1; have c32 := (bx_cells (hSw.nth (i := 3) rfl)).2.2; have c40 := (bx_cells (hSw.nth (i := 4) rfl)).1; have c41 := (bx_cells (hSw.nth (i := 4) rfl)).2.1; have c42 := (bx_cells (hSw.nth (i := 4) rfl)).2.2; have c50 := (bx_cells (hSw.nth (i := 5) rfl)).1; have c51 := (bx_cells (hSw.nth (i := 5) rfl)).2.1; have c52 := (bx_cells (hSw.nth (i := 5) rfl)).2.2; have c60 := (bx_cells (hSw.nth (i := 6) rfl)).1; have c61 := (bx_cells (hSw.nth (i := 6) rfl)).2.1; have c62 := (bx_cells (hSw.nth (i := 6) rfl)).2.2; have c70 := (bx_cells (hSw.nth (i := 7) rfl)).1; have c71 := (bx_cells (hSw.nth (i := 7) rfl)).2.1; have c72 := (bx_cells (hSw.nth (i := 7) rfl)).2.2; go_simp; try with_reducible rfl)
  try simp only [Act.put, List.setIfInBounds_toArray, List.set_cons_zero, List.set_cons_succ]
  refine wpAnyH_ready (rs := [6]) (by kernel_rfl) (by simp) ?_
  refine AllReadyH.cons (o := ({ dst := some 82, op := Op.call { callee := Callee.value (Operand.tmp 80), args := #[Operand.tmp 81], argTypes := #[23] }, type := 3, pos := "law.go:111", after := #[{ on := 4, ground := Ground.data }, { on := 5, ground := Ground.data }, { on := 3, ground := Ground.chain }, { on := 3, ground := Ground.guard }], guard := some (3, true) } : Oper)) rfl (fun K hK => ?_) AllReadyH.nil
  go_simp
  go_at_call 28
  refine (rank_any m hm _ g _ _ hHeld.1 hHeld.2.1).mono ?_
  rintro e w' ⟨rfl, hb⟩
  go_wp2_with fail
  refine hK.out _ _ (hHeld.below hb) (fun hHeld => ?_)
  clear hK K
  try simp only [Act.put, List.setIfInBounds_toArray, List.set_cons_zero, List.set_cons_succ]
  refine wpAnyH_ready (rs := [9]) (by kernel_rfl) (by simp) ?_
  refine AllReadyH.cons (o := ({ dst := some 85, op := Op.call { callee := Callee.value (Operand.tmp 83), args := #[Operand.tmp 84], argTypes := #[23] }, type := 3, pos := "law.go:111", after := #[{ on := 7, ground := Ground.data }, { on := 8, ground := Ground.data }, { on := 6, ground := Ground.chain }, { on := 3, ground := Ground.guard }], guard := some (3, true) } : Oper)) rfl (fun K hK => ?_) AllReadyH.nil
  go_simp
  go_at_call 28
  refine (rank_any p hp _ g _ _ hHeld.1 hHeld.2.1).mono ?_
  rintro e w' ⟨rfl, hb⟩
  go_wp2_with fail
  refine hK.out _ _ (hHeld.below hb) (fun hHeld => ?_)
  clear hK K
  try simp only [Act.put, List.setIfInBounds_toArray, List.set_cons_zero, List.set_cons_succ]
  refine wpAnyH_ready (rs := [12]) (by kernel_rfl) (by simp) ?_
  refine AllReadyH.cons (o := ({ dst := some 88, op := Op.call { callee := Callee.value (Operand.tmp 86), args := #[Operand.tmp 87], argTypes := #[23] }, type := 3, pos := "law.go:111", after := #[{ on := 10, ground := Ground.data }, { on := 11, ground := Ground.data }, { on := 9, ground := Ground.chain }, { on := 3, ground := Ground.guard }], guard := some (3, true) } : Oper)) rfl (fun K hK => ?_) AllReadyH.nil
  go_simp
  go_at_call 28
  refine (rank_any q hq _ g _ _ hHeld.1 hHeld.2.1).mono ?_
  rintro e w' ⟨rfl, hb⟩
  go_wp2_with fail
  refine hK.out _ _ (hHeld.below hb) (fun hHeld => ?_)
  clear hK K
  try simp only [Act.put, List.setIfInBounds_toArray, List.set_cons_zero, List.set_cons_succ]
  refine wpAnyH_take (i := 13) (oi := ({ dst := some 89, op := Op.call { callee := Callee.builtin Builtin.min, args := #[Operand.tmp 85, Operand.tmp 88], argTypes := #[3, 3] }, type := 3, pos := "law.go:111", after := #[{ on := 9, ground := Ground.data }, { on := 12, ground := Ground.data }, { on := 3, ground := Ground.guard }], guard := some (3, true) } : Oper)) (v := .int .i64 m) rfl (by kernel_rfl) (by kernel_rfl) (by kernel_rfl) (fun _ _ _ h => h) (Or.inl ⟨by rfl, ?_⟩) (by assumption) ?_
  · intro u hSw
    go_simp
    have h1 := HMM.out.1
    have h2 := HMM.out.2
    have h3 := HPP.out
    (first | omega | (split <;> omega) | (rw [IntWalk.i64_in _ ⟨by omega, by omega⟩]; omega))
  try simp only [Act.put, List.setIfInBounds_toArray, List.set_cons_zero, List.set_cons_succ]
  refine wpAnyH_take (i := 14) (oi := ({ dst := some 90, op := Op.binOp BinOp.eql 3 (Operand.tmp 82) (Operand.tmp 89) 3, type := 4, pos := "law.go:111", after := #[{ on := 6, ground := Ground.data }, { on := 13, ground := Ground.data }, { on := 3, ground := Ground.guard }], guard := some (3, true) } : Oper)) (v := ?_) rfl (by kernel_rfl) (by kernel_rfl) (by kernel_rfl) (fun _ _ _ h => h) (Or.inl ⟨by rfl, ?_⟩) (by assumption) ?_
  rotate_left 1
  · (intro u hSw; go_simp; try with_reducible rfl)
  try simp only [Act.put, List.setIfInBounds_toArray, List.set_cons_zero, List.set_cons_succ]
  refine wpAnyH_take (i := 15) (oi := ({ dst := some 91, op := Op.pick (Operand.tmp 79) (Operand.tmp 90) (Operand.const (Value.bool false)), type := 4, pos := "law.go:111", after := #[{ on := 3, ground := Ground.data }, { on := 14, ground := Ground.data }], guard := none } : Oper)) (v := ?_) rfl (by kernel_rfl) (by kernel_rfl) (by kernel_rfl) (fun _ _ _ h => h) (Or.inl ⟨by rfl, ?_⟩) (by assumption) ?_
  rotate_left 1
  · (intro u hSw; go_simp; try with_reducible rfl)
  try simp only [Act.put, List.setIfInBounds_toArray, List.set_cons_zero, List.set_cons_succ]
  refine wpAnyH_take (i := 16) (oi := ({ dst := some 92, op := Op.move (Operand.tmp 91), type := 4, pos := "law.go:111", after := #[{ on := 15, ground := Ground.data }, { on := 12, ground := Ground.chain }], guard := none } : Oper)) (v := ?_) rfl (by kernel_rfl) (by kernel_rfl) (by kernel_rfl) (fun _ _ _ h => h) (Or.inl ⟨by rfl, ?_⟩) (by assumption) ?_
  rotate_left 1
  · (intro u hSw; go_simp; try with_reducible rfl)
  try simp only [Act.put, List.setIfInBounds_toArray, List.set_cons_zero, List.set_cons_succ]
  refine wpAnyH_take (i := 17) (oi := ({ dst := some 93, op := Op.move (Operand.tmp 20), type := 46, pos := "law.go:111", after := #[{ on := 16, ground := Ground.guard }], guard := some (16, true) } : Oper)) (v := ?_) rfl (by kernel_rfl) (by kernel_rfl) (by kernel_rfl) (fun _ _ _ h => h) (Or.inl ⟨by rfl, ?_⟩) (by assumption) ?_
  rotate_left 1
  · (intro u hSw; go_simp; try with_reducible rfl)
  try simp only [Act.put, List.setIfInBounds_toArray, List.set_cons_zero, List.set_cons_succ]
  refine wpAnyH_take (i := 18) (oi := ({ dst := some 94, op := Op.load 23 (Operand.tmp 10), type := 23, pos := "law.go:111", after := #[{ on := 16, ground := Ground.guard }], guard := some (16, true) } : Oper)) (v := ?_) rfl (by kernel_rfl) (by kernel_rfl) (by kernel_rfl) (fun _ _ _ h => h) (Or.inl ⟨by rfl, ?_⟩) (by assumption) ?_
  rotate_left 1
  · (intro u hSw; have c00 := (bx_cells (hSw.nth (i := 0) rfl)).1; have c01 := (bx_cells (hSw.nth (i := 0) rfl)).2.1; have c02 := (bx_cells (hSw.nth (i := 0) rfl)).2.2; have c30 := (bx_cells (hSw.nth (i := 3) rfl)).1; have c31 := (bx_cells (hSw.nth (i := 3) rfl)).2.1; have c32 := (bx_cells (hSw.nth (i := 3) rfl)).2.2; have c40 := (bx_cells (hSw.nth (i := 4) rfl)).1; have c41 := (bx_cells (hSw.nth (i := 4) rfl)).2.1; have c42 := (bx_cells (hSw.nth (i := 4) rfl)).2.2; have c50 := (bx_cells (hSw.nth (i := 5) rfl)).1; have c51 := (bx_cells (hSw.nth (i := 5) rfl)).2.1; have c52 := (bx_cells (hSw.nth (i := 5) rfl)).2.2; have c60 := (bx_cells (hSw.nth (i := 6) rfl)).1; have c61 := (bx_cells (hSw.nth (i := 6) rfl)).2.1; have c62 := (bx_cells (hSw.nth (i := 6) rfl)).2.2; have c70 := (bx_cells (hSw.nth (i := 7) rfl)).1; have c71 := (bx_cells (hSw.nth (i := 7) rfl)).2.1; have c72 := (bx_cells (hSw.nth (i := 7) rfl)).2.2; go_simp; try with_reducible rfl)
  try simp only [Act.put, List.setIfInBounds_toArray, List.set_cons_zero, List.set_cons_succ]
  refine wpAnyH_take (i := 20) (oi := ({ dst := some 96, op := Op.move (Operand.tmp 20), type := 46, pos := "law.go:111", after := #[{ on := 16, ground := Ground.guard }], guard := some (16, true) } : Oper)) (v := ?_) rfl (by kernel_rfl) (by kernel_rfl) (by kernel_rfl) (fun _ _ _ h => h) (Or.inl ⟨by rfl, ?_⟩) (by assumption) ?_
  rotate_left 1
  · (intro u hSw; go_simp; try with_reducible rfl)
  try simp only [Act.put, List.setIfInBounds_toArray, List.set_cons_zero, List.set_cons_succ]
  refine wpAnyH_take (i := 21) (oi := ({ dst := some 97, op := Op.load 23 (Operand.tmp 6), type := 23, pos := "law.go:111", after := #[{ on := 16, ground := Ground.guard }], guard := some (16, true) } : Oper)) (v := ?_) rfl (by kernel_rfl) (by kernel_rfl) (by kernel_rfl) (fun _ _ _ h => h) (Or.inl ⟨by rfl, ?_⟩) (by assumption) ?_
  rotate_left 1
  · (intro u hSw; have c00 := (bx_cells (hSw.nth (i := 0) rfl)).1; have c01 := (bx_cells (hSw.nth (i := 0) rfl)).2.1; have c02 := (bx_cells (hSw.nth (i := 0) rfl)).2.2; have c30 := (bx_cells (hSw.nth (i := 3) rfl)).1; have c31 := (bx_cells (hSw.nth (i := 3) rfl)).2.1; have c32 := (bx_cells (hSw.nth (i := 3) rfl)).2.2; have c40 := (bx_cells (hSw.nth (i := 4) rfl)).1; have c41 := (bx_cells (hSw.nth (i := 4) rfl)).2.1; have c42 := (bx_cells (hSw.nth (i := 4) rfl)).2.2; have c50 := (bx_cells (hSw.nth (i := 5) rfl)).1; have c51 := (bx_cells (hSw.nth (i := 5) rfl)).2.1; have c52 := (bx_cells (hSw.nth (i := 5) rfl)).2.2; have c60 := (bx_cells (hSw.nth (i := 6) rfl)).1; have c61 := (bx_cells (hSw.nth (i := 6) rfl)).2.1; have c62 := (bx_cells (hSw.nth (i := 6) rfl)).2.2; have c70 := (bx_cells (hSw.nth (i := 7) rfl)).1; have c71 := (bx_cells (hSw.nth (i := 7) rfl)).2.1; have c72 := (bx_cells (hSw.nth (i := 7) rfl)).2.2; go_simp; try with_reducible rfl)
  try simp only [Act.put, List.setIfInBounds_toArray, List.set_cons_zero, List.set_cons_succ]
  refine wpAnyH_take (i := 23) (oi := ({ dst := some 99, op := Op.move (Operand.tmp 20), type := 46, pos := "law.go:111", after := #[{ on := 16, ground := Ground.guard }], guard := some (16, true) } : Oper)) (v := ?_) rfl (by kernel_rfl) (by kernel_rfl) (by kernel_rfl) (fun _ _ _ h => h) (Or.inl ⟨by rfl, ?_⟩) (by assumption) ?_
  rotate_left 1
  · (intro u hSw; go_simp; try with_reducible rfl)
  try simp only [Act.put, List.setIfInBounds_toArray, List.set_cons_zero, List.set_cons_succ]
  refine wpAnyH_take (i := 24) (oi := ({ dst := some 100, op := Op.load 23 (Operand.tmp 7), type := 23, pos := "law.go:111", after := #[{ on := 16, ground := Ground.guard }], guard := some (16, true) } : Oper)) (v := ?_) rfl (by kernel_rfl) (by kernel_rfl) (by kernel_rfl) (fun _ _ _ h => h) (Or.inl ⟨by rfl, ?_⟩) (by assumption) ?_
  rotate_left 1
  · (intro u hSw; have c00 := (bx_cells (hSw.nth (i := 0) rfl)).1; have c01 := (bx_cells (hSw.nth (i := 0) rfl)).2.1; have c02 := (bx_cells (hSw.nth (i := 0) rfl)).2.2; have c30 := (bx_cells (hSw.nth (i := 3) rfl)).1; have c31 := (bx_cells (hSw.nth (i := 3) rfl)).2.1; have c32 := (bx_cells (hSw.nth (i := 3) rfl)).2.2; have c40 := (bx_cells (hSw.nth (i := 4) rfl)).1; have c41 := (bx_cells (hSw.nth (i := 4) rfl)).2.1; have c42 := (bx_cells (hSw.nth (i := 4) rfl)).2.2; have c50 := (bx_cells (hSw.nth (i := 5) rfl)).1; have c51 := (bx_cells (hSw.nth (i := 5) rfl)).2.1; have c52 := (bx_cells (hSw.nth (i := 5) rfl)).2.2; have c60 := (bx_cells (hSw.nth (i := 6) rfl)).1; have c61 := (bx_cells (hSw.nth (i := 6) rfl)).2.1; have c62 := (bx_cells (hSw.nth (i := 6) rfl)).2.2; have c70 := (bx_cells (hSw.nth (i := 7) rfl)).1; have c71 := (bx_cells (hSw.nth (i := 7) rfl)).2.1; have c72 := (bx_cells (hSw.nth (i := 7) rfl)).2.2; go_simp; try with_reducible rfl)
  try simp only [Act.put, List.setIfInBounds_toArray, List.set_cons_zero, List.set_cons_succ]
  refine wpAnyH_ready (rs := [19]) (by kernel_rfl) (by simp) ?_
  refine AllReadyH.cons (o := ({ dst := some 95, op := Op.call { callee := Callee.value (Operand.tmp 93), args := #[Operand.tmp 94], argTypes := #[23] }, type := 3, pos := "law.go:111", after := #[{ on := 17, ground := Ground.data }, { on := 18, ground := Ground.data }, { on := 16, ground := Ground.chain }, { on := 16, ground := Ground.guard }], guard := some (16, true) } : Oper)) rfl (fun K hK => ?_) AllReadyH.nil
  go_simp
  go_at_call 28
  refine (rank_any M hM _ g _ _ hHeld.1 hHeld.2.1).mono ?_
  rintro e w' ⟨rfl, hb⟩
  go_wp2_with fail
  refine hK.out _ _ (hHeld.below hb) (fun hHeld => ?_)
  clear hK K
  try simp only [Act.put, List.setIfInBounds_toArray, List.set_cons_zero, List.set_cons_succ]
  refine wpAnyH_ready (rs := [22]) (by kernel_rfl) (by simp) ?_
  refine AllReadyH.cons (o := ({ dst := some 98, op := Op.call { callee := Callee.value (Operand.tmp 96), args := #[Operand.tmp 97], argTypes := #[23] }, type := 3, pos := "law.go:111", after := #[{ on := 20, ground := Ground.data }, { on := 21, ground := Ground.data }, { on := 19, ground := Ground.chain }, { on := 16, ground := Ground.guard }], guard := some (16, true) } : Oper)) rfl (fun K hK => ?_) AllReadyH.nil
  go_simp
  go_at_call 28
  refine (rank_any p hp _ g _ _ hHeld.1 hHeld.2.1).mono ?_
  rintro e w' ⟨rfl, hb⟩
  go_wp2_with fail
  refine hK.out _ _ (hHeld.below hb) (fun hHeld => ?_)
  clear hK K
  try simp only [Act.put, List.setIfInBounds_toArray, List.set_cons_zero, List.set_cons_succ]
  refine wpAnyH_ready (rs := [25]) (by kernel_rfl) (by simp) ?_
  refine AllReadyH.cons (o := ({ dst := some 101, op := Op.call { callee := Callee.value (Operand.tmp 99), args := #[Operand.tmp 100], argTypes := #[23] }, type := 3, pos := "law.go:111", after := #[{ on := 23, ground := Ground.data }, { on := 24, ground := Ground.data }, { on := 22, ground := Ground.chain }, { on := 16, ground := Ground.guard }], guard := some (16, true) } : Oper)) rfl (fun K hK => ?_) AllReadyH.nil
  go_simp
  go_at_call 28
  refine (rank_any q hq _ g _ _ hHeld.1 hHeld.2.1).mono ?_
  rintro e w' ⟨rfl, hb⟩
  go_wp2_with fail
  refine hK.out _ _ (hHeld.below hb) (fun hHeld => ?_)
  clear hK K
  try simp only [Act.put, List.setIfInBounds_toArray, List.set_cons_zero, List.set_cons_succ]
  refine wpAnyH_take (i := 26) (oi := ({ dst := some 102, op := Op.call { callee := Callee.builtin Builtin.max, args := #[Operand.tmp 98, Operand.tmp 101], argTypes := #[3, 3] }, type := 3, pos := "law.go:111", after := #[{ on := 22, ground := Ground.data }, { on := 25, ground := Ground.data }, { on := 16, ground := Ground.guard }], guard := some (16, true) } : Oper)) (v := .int .i64 M) rfl (by kernel_rfl) (by kernel_rfl) (by kernel_rfl) (fun _ _ _ h => h) (Or.inl ⟨by rfl, ?_⟩) (by assumption) ?_
  · intro u hSw
    go_simp
    have h1 := HMM.out.1
    have h2 := HMM.out.2
    have h3 := HPP.out
    (first | omega | (split <;> omega) | (rw [IntWalk.i64_in _ ⟨by omega, by omega⟩]; omega))
  try simp only [Act.put, List.setIfInBounds_toArray, List.set_cons_zero, List.set_cons_succ]
  refine wpAnyH_take (i := 27) (oi := ({ dst := some 103, op := Op.binOp BinOp.eql 3 (Operand.tmp 95) (Operand.tmp 102) 3, type := 4, pos := "law.go:111", after := #[{ on := 19, ground := Ground.data }, { on := 26, ground := Ground.data }, { on := 16, ground := Ground.guard }], guard := some (16, true) } : Oper)) (v := ?_) rfl (by kernel_rfl) (by kernel_rfl) (by kernel_rfl) (fun _ _ _ h => h) (Or.inl ⟨by rfl, ?_⟩) (by assumption) ?_
  rotate_left 1
  · (intro u hSw; go_simp; try with_reducible rfl)
  try simp only [Act.put, List.setIfInBounds_toArray, List.set_cons_zero, List.set_cons_succ]
  refine wpAnyH_take (i := 28) (oi := ({ dst := some 104, op := Op.pick (Operand.tmp 92) (Operand.tmp 103) (Operand.const (Value.bool false)), type := 4, pos := "law.go:111", after := #[{ on := 16, ground := Ground.data }, { on := 27, ground := Ground.data }], guard := none } : Oper)) (v := ?_) rfl (by kernel_rfl) (by kernel_rfl) (by kernel_rfl) (fun _ _ _ h => h) (Or.inl ⟨by rfl, ?_⟩) (by assumption) ?_
  rotate_left 1
  · (intro u hSw; go_simp; try with_reducible rfl)
  try simp only [Act.put, List.setIfInBounds_toArray, List.set_cons_zero, List.set_cons_succ]
  refine wpAnyH_take (i := 29) (oi := ({ dst := some 105, op := Op.move (Operand.tmp 104), type := 4, pos := "law.go:111", after := #[{ on := 28, ground := Ground.data }, { on := 25, ground := Ground.chain }], guard := none } : Oper)) (v := ?_) rfl (by kernel_rfl) (by kernel_rfl) (by kernel_rfl) (fun _ _ _ h => h) (Or.inl ⟨by rfl, ?_⟩) (by assumption) ?_
  rotate_left 1
  · (intro u hSw; go_simp; try with_reducible rfl)
  try simp only [Act.put, List.setIfInBounds_toArray, List.set_cons_zero, List.set_cons_succ]
  refine wpAnyH_take (i := 30) (oi := ({ dst := some 106, op := Op.move (Operand.tmp 20), type := 46, pos := "law.go:111", after := #[{ on := 29, ground := Ground.guard }], guard := some (29, true) } : Oper)) (v := ?_) rfl (by kernel_rfl) (by kernel_rfl) (by kernel_rfl) (fun _ _ _ h => h) (Or.inl ⟨by rfl, ?_⟩) (by assumption) ?_
  rotate_left 1
  · (intro u hSw; go_simp; try with_reducible rfl)
  try simp only [Act.put, List.setIfInBounds_toArray, List.set_cons_zero, List.set_cons_succ]
  refine wpAnyH_take (i := 31) (oi := ({ dst := some 107, op := Op.load 23 (Operand.tmp 12), type := 23, pos := "law.go:111", after := #[{ on := 29, ground := Ground.guard }], guard := some (29, true) } : Oper)) (v := ?_) rfl (by kernel_rfl) (by kernel_rfl) (by kernel_rfl) (fun _ _ _ h => h) (Or.inl ⟨by rfl, ?_⟩) (by assumption) ?_
  rotate_left 1
  · (intro u hSw; have c00 := (bx_cells (hSw.nth (i := 0) rfl)).1; have c01 := (bx_cells (hSw.nth (i := 0) rfl)).2.1; have c02 := (bx_cells (hSw.nth (i := 0) rfl)).2.2; have c30 := (bx_cells (hSw.nth (i := 3) rfl)).1; have c31 := (bx_cells (hSw.nth (i := 3) rfl)).2.1; have c32 := (bx_cells (hSw.nth (i := 3) rfl)).2.2; have c40 := (bx_cells (hSw.nth (i := 4) rfl)).1; have c41 := (bx_cells (hSw.nth (i := 4) rfl)).2.1; have c42 := (bx_cells (hSw.nth (i := 4) rfl)).2.2; have c50 := (bx_cells (hSw.nth (i := 5) rfl)).1; have c51 := (bx_cells (hSw.nth (i := 5) rfl)).2.1; have c52 := (bx_cells (hSw.nth (i := 5) rfl)).2.2; have c60 := (bx_cells (hSw.nth (i := 6) rfl)).1; have c61 := (bx_cells (hSw.nth (i := 6) rfl)).2.1; have c62 := (bx_cells (hSw.nth (i := 6) rfl)).2.2; have c70 := (bx_cells (hSw.nth (i := 7) rfl)).1; have c71 := (bx_cells (hSw.nth (i := 7) rfl)).2.1; have c72 := (bx_cells (hSw.nth (i := 7) rfl)).2.2; go_simp; try with_reducible rfl)
  try simp only [Act.put, List.setIfInBounds_toArray, List.set_cons_zero, List.set_cons_succ]
  refine wpAnyH_take (i := 33) (oi := ({ dst := some 109, op := Op.move (Operand.tmp 20), type := 46, pos := "law.go:111", after := #[{ on := 29, ground := Ground.guard }], guard := some (29, true) } : Oper)) (v := ?_) rfl (by kernel_rfl) (by kernel_rfl) (by kernel_rfl) (fun _ _ _ h => h) (Or.inl ⟨by rfl, ?_⟩) (by assumption) ?_
  rotate_left 1
  · (intro u hSw; go_simp; try with_reducible rfl)
  try simp only [Act.put, List.setIfInBounds_toArray, List.set_cons_zero, List.set_cons_succ]
  refine wpAnyH_take (i := 34) (oi := ({ dst := some 110, op := Op.load 23 (Operand.tmp 6), type := 23, pos := "law.go:111", after := #[{ on := 29, ground := Ground.guard }], guard := some (29, true) } : Oper)) (v := ?_) rfl (by kernel_rfl) (by kernel_rfl) (by kernel_rfl) (fun _ _ _ h => h) (Or.inl ⟨by rfl, ?_⟩) (by assumption) ?_
  rotate_left 1
  · (intro u hSw; have c00 := (bx_cells (hSw.nth (i := 0) rfl)).1; have c01 := (bx_cells (hSw.nth (i := 0) rfl)).2.1; have c02 := (bx_cells (hSw.nth (i := 0) rfl)).2.2; have c30 := (bx_cells (hSw.nth (i := 3) rfl)).1; have c31 := (bx_cells (hSw.nth (i := 3) rfl)).2.1; have c32 := (bx_cells (hSw.nth (i := 3) rfl)).2.2; have c40 := (bx_cells (hSw.nth (i := 4) rfl)).1; have c41 := (bx_cells (hSw.nth (i := 4) rfl)).2.1; have c42 := (bx_cells (hSw.nth (i := 4) rfl)).2.2; have c50 := (bx_cells (hSw.nth (i := 5) rfl)).1; have c51 := (bx_cells (hSw.nth (i := 5) rfl)).2.1; have c52 := (bx_cells (hSw.nth (i := 5) rfl)).2.2; have c60 := (bx_cells (hSw.nth (i := 6) rfl)).1; have c61 := (bx_cells (hSw.nth (i := 6) rfl)).2.1; have c62 := (bx_cells (hSw.nth (i := 6) rfl)).2.2; have c70 := (bx_cells (hSw.nth (i := 7) rfl)).1; have c71 := (bx_cells (hSw.nth (i := 7) rfl)).2.1; have c72 := (bx_cells (hSw.nth (i := 7) rfl)).2.2; go_simp; try with_reducible rfl)
  try simp only [Act.put, List.setIfInBounds_toArray, List.set_cons_zero, List.set_cons_succ]
  refine wpAnyH_ready (rs := [32]) (by kernel_rfl) (by simp) ?_
  refine AllReadyH.cons (o := ({ dst := some 108, op := Op.call { callee := Callee.value (Operand.tmp 106), args := #[Operand.tmp 107], argTypes := #[23] }, type := 3, pos := "law.go:111", after := #[{ on := 30, ground := Ground.data }, { on := 31, ground := Ground.data }, { on := 29, ground := Ground.chain }, { on := 29, ground := Ground.guard }], guard := some (29, true) } : Oper)) rfl (fun K hK => ?_) AllReadyH.nil
  go_simp
  go_at_call 28
  refine (rank_any p' hp_ _ g _ _ hHeld.1 hHeld.2.1).mono ?_
  rintro e w' ⟨rfl, hb⟩
  go_wp2_with fail
  refine hK.out _ _ (hHeld.below hb) (fun hHeld => ?_)
  clear hK K
  try simp only [Act.put, List.setIfInBounds_toArray, List.set_cons_zero, List.set_cons_succ]
  refine wpAnyH_ready (rs := [35]) (by kernel_rfl) (by simp) ?_
  refine AllReadyH.cons (o := ({ dst := some 111, op := Op.call { callee := Callee.value (Operand.tmp 109), args := #[Operand.tmp 110], argTypes := #[23] }, type := 3, pos := "law.go:111", after := #[{ on := 33, ground := Ground.data }, { on := 34, ground := Ground.data }, { on := 32, ground := Ground.chain }, { on := 29, ground := Ground.guard }], guard := some (29, true) } : Oper)) rfl (fun K hK => ?_) AllReadyH.nil
  go_simp
  go_at_call 28
  refine (rank_any p hp _ g _ _ hHeld.1 hHeld.2.1).mono ?_
  rintro e w' ⟨rfl, hb⟩
  go_wp2_with fail
  refine hK.out _ _ (hHeld.below hb) (fun hHeld => ?_)
  clear hK K
  try simp only [Act.put, List.setIfInBounds_toArray, List.set_cons_zero, List.set_cons_succ]
  refine wpAnyH_take (i := 36) (oi := ({ dst := some 112, op := Op.binOp BinOp.sub 3 (Operand.const (Value.int IntKind.i64 2)) (Operand.tmp 111) 3, type := 3, pos := "law.go:111", after := #[{ on := 35, ground := Ground.data }, { on := 29, ground := Ground.guard }], guard := some (29, true) } : Oper)) (v := .int .i64 p') rfl (by kernel_rfl) (by kernel_rfl) (by kernel_rfl) (fun _ _ _ h => h) (Or.inl ⟨by rfl, ?_⟩) (by assumption) ?_
  · intro u hSw
    go_simp
    have h1 := HMM.out.1
    have h2 := HMM.out.2
    have h3 := HPP.out
    (first | omega | (split <;> omega) | (rw [IntWalk.i64_in _ ⟨by omega, by omega⟩]; omega))
  try simp only [Act.put, List.setIfInBounds_toArray, List.set_cons_zero, List.set_cons_succ]
  refine wpAnyH_take (i := 37) (oi := ({ dst := some 113, op := Op.binOp BinOp.eql 3 (Operand.tmp 108) (Operand.tmp 112) 3, type := 4, pos := "law.go:111", after := #[{ on := 32, ground := Ground.data }, { on := 36, ground := Ground.data }, { on := 29, ground := Ground.guard }], guard := some (29, true) } : Oper)) (v := ?_) rfl (by kernel_rfl) (by kernel_rfl) (by kernel_rfl) (fun _ _ _ h => h) (Or.inl ⟨by rfl, ?_⟩) (by assumption) ?_
  rotate_left 1
  · (intro u hSw; go_simp; try with_reducible rfl)
  try simp only [Act.put, List.setIfInBounds_toArray, List.set_cons_zero, List.set_cons_succ]
  refine wpAnyH_take (i := 38) (oi := ({ dst := some 114, op := Op.pick (Operand.tmp 105) (Operand.tmp 113) (Operand.const (Value.bool false)), type := 4, pos := "law.go:111", after := #[{ on := 29, ground := Ground.data }, { on := 37, ground := Ground.data }], guard := none } : Oper)) (v := ?_) rfl (by kernel_rfl) (by kernel_rfl) (by kernel_rfl) (fun _ _ _ h => h) (Or.inl ⟨by rfl, ?_⟩) (by assumption) ?_
  rotate_left 1
  · (intro u hSw; go_simp; try with_reducible rfl)
  try simp only [Act.put, List.setIfInBounds_toArray, List.set_cons_zero, List.set_cons_succ]
  refine wpAnyH_take (i := 39) (oi := ({ dst := some 4, op := Op.assign (Operand.tmp 114), type := 4, pos := "law.go:111", after := #[{ on := 38, ground := Ground.data }, { on := 35, ground := Ground.chain }, { on := 0, ground := Ground.phase }, { on := 1, ground := Ground.phase }, { on := 2, ground := Ground.phase }, { on := 3, ground := Ground.phase }, { on := 4, ground := Ground.phase }, { on := 5, ground := Ground.phase }, { on := 6, ground := Ground.phase }, { on := 7, ground := Ground.phase }, { on := 8, ground := Ground.phase }, { on := 9, ground := Ground.phase }, { on := 10, ground := Ground.phase }, { on := 11, ground := Ground.phase }, { on := 12, ground := Ground.phase }, { on := 13, ground := Ground.phase }, { on := 14, ground := Ground.phase }, { on := 15, ground := Ground.phase }, { on := 16, ground := Ground.phase }, { on := 17, ground := Ground.phase }, { on := 18, ground := Ground.phase }, { on := 19, ground := Ground.phase }, { on := 20, ground := Ground.phase }, { on := 21, ground := Ground.phase }, { on := 22, ground := Ground.phase }, { on := 23, ground := Ground.phase }, { on := 24, ground := Ground.phase }, { on := 25, ground := Ground.phase }, { on := 26, ground := Ground.phase }, { on := 27, ground := Ground.phase }, { on := 28, ground := Ground.phase }, { on := 29, ground := Ground.phase }, { on := 30, ground := Ground.phase }, { on := 31, ground := Ground.phase }, { on := 32, ground := Ground.phase }, { on := 33, ground := Ground.phase }, { on := 34, ground := Ground.phase }, { on := 35, ground := Ground.phase }, { on := 36, ground := Ground.phase }, { on := 37, ground := Ground.phase }, { on := 38, ground := Ground.phase }], guard := none } : Oper)) (v := ?_) rfl (by kernel_rfl) (by kernel_rfl) (by kernel_rfl) (fun _ _ _ h => h) (Or.inl ⟨by rfl, ?_⟩) (by assumption) ?_
  rotate_left 1
  · (intro u hSw; go_simp; try with_reducible rfl)
  try simp only [Act.put, List.setIfInBounds_toArray, List.set_cons_zero, List.set_cons_succ]
  refine wpAnyH_done (by kernel_rfl) ?_ _
  go_wp2_with fail
  go_ret
  exact ⟨rfl, hHeld.2.2.2⟩
end Go.Proofs.Ytbhilmgpmebaiaa
namespace Go.Proofs.Ytbhilmgpmebaiaa
open Go.ChangeShapes Go.WideShapes Go.ChangeAt Go.RowKit Go.Deep
namespace plainValueLogic
set_option maxRecDepth 100000 in
theorem contract (H : Type) (enc : TypeId × Value → H) (W : World) (base : Nat) (args : Array Value) (ds gs : List (DataW H)) (before : List MemPlace)
    (hval : ∀ (j : Nat) t v, Try.f9.params[j]? = some t → args[j]? = some v → Value.okWide Try.prog W .any base t v)
    (hW : DataW.Whole enc Try.prog Try.f9.params.toList Rows.valueLogicSpec.vars false W args.toList ds gs before) (hk : Rows.uptoSmall H (ds ++ gs) = true) :
    Calls Try.prog 9 args W fun e W' => ∃ v, e = .returned v ∧ Rows.valueLogicSpec.post enc Try.prog Try.f9 false true false false W args v W' := by
  have hW' := hW
  obtain ⟨p, q, hA0, hV, rfl, hfz, hnd⟩ := hW
  have hA : DataW.TrodAll enc Try.prog W 0 (fun _ => true) true Try.f9.params.toList args.toList ds p := hA0
  rw [Try.params9] at hA hval
  obtain ⟨v0, vs0, d0, ds0, p0, q0, hargs, rfl, rfl, h0, r0⟩ := trodAll_cons hA
  obtain ⟨v1, vs1, d1, ds1, p1, q1, rfl, rfl, rfl, h1, r1⟩ := trodAll_cons r0
  obtain ⟨rfl, rfl, rfl⟩ := trodAll_nil r1
  obtain rfl : args = #[v0, v1] := by cases args; simp_all
  obtain ⟨rfl, rfl⟩ := trodVars_none hV
  have hbulk : Rows.uptoBulkAll ([d0, d1] ++ []) ≤ 1048576 := of_decide_eq_true hk
  simp only [List.append_nil, Rows.uptoBulkAll] at hbulk
  obtain ⟨a0, rfl, rfl, rfl, g0⟩ := open_int Try.underlying3 (hval 0 3 v0 rfl rfl) h0
  replace g0 := i64_of_wf g0
  obtain ⟨a1, rfl, rfl, rfl, g1⟩ := open_int Try.underlying3 (hval 1 3 v1 rfl rfl) h1
  replace g1 := i64_of_wf g1
  refine (logic_walk a0 a1 W).mono fun e W' ⟨he, hb⟩ => ⟨_, he, ?_⟩
  exact law_post (T := 4) laidOut (by rw [Try.params9]; decide +kernel) rfl rfl Try.underlying4 (fun gs h => by subst h; rfl) hW' hb
set_option maxRecDepth 100000 in
theorem lifted (os : Os) (started : os.Started) (H : Type) (enc : TypeId × Value → H) (F : Stop.Interp) :
    ReturnsInHanded {} Try.checked os 9 .any ((Rows.OpenSpec.upto Rows.valueLogicSpec).pre6 enc Try.prog Try.f9 Rows.valueLogicUptoRow.domain false) (((Rows.OpenSpec.upto Rows.valueLogicSpec).at F).post enc Try.prog Try.f9 false true false false) := by
  refine returnsInHanded_of_cond (C := Try.checked) (s := Rows.OpenSpec.upto Rows.valueLogicSpec) (k := Rows.uptoSmall) rfl own started (by kernel_rfl) Try.func9
    (OpenSpec.witness (enc := enc) (C := Try.checked) (s := Rows.OpenSpec.upto Rows.valueLogicSpec) (k := Rows.uptoSmall) rfl false ⟨#[], #[.int .i64 0, .int .i64 0], []⟩ 8 (by kernel_rfl) (by kernel_rfl) (by kernel_rfl)
      (x := ([.lit (.int .i64 0), .lit (.int .i64 0)], [], [])) (by kernel_rfl) rfl (by kernel_rfl)) ?_
  intro W base args ds gs before hval hW _ hk _
  exact contract H enc W base args ds gs before hval hW hk
theorem over : Rows.valueLogicUptoRow.holds Try.pinned (Rows.OpenSpec.upto Rows.valueLogicSpec) :=
  OpenClaim.holds_of_cond 9 Try.f9 rfl rfl rfl rfl rfl rfl rfl ⟨rfl, rfl, rfl, rfl, rfl⟩ rfl rfl rfl rfl rfl (by kernel_rfl) Try.func9 (by kernel_rfl)
    (of_decide_eq_true (by kernel_rfl)) (by unfold Func.isWrapper; first | (rw [if_pos (by decide +kernel)]; kernel_rfl) | (rw [if_neg (by decide +kernel)]; exact ⟨rfl, rfl⟩))
    (fun os started H enc _ F => lifted os started H enc F)
/-- the statement, its second form -/
theorem proved : Rows.ValueLogicUptoSaid := over
end plainValueLogic
theorem valueLogicUpto : Rows.ValueLogicUptoSaid := plainValueLogic.proved
end Go.Proofs.Ytbhilmgpmebaiaa
