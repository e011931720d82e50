import Derived.Test.YtbhilmgpmebaiaaSh00
namespace Go.Proofs.Ytbhilmgpmebaiaa
open Go.RowKit
theorem hp_al {w : World} {H : Nat} {x : Obj} (h : w.heap[H]? = some x) (o : Obj) : (w.alloc o).heap[H]? = some x := by
  have hl : H < w.heap.size := by rcases Nat.lt_or_ge H w.heap.size with h' | h'; exact h'; rw [Array.getElem?_eq_none h'] at h; cases h
  show (w.heap.push o)[H]? = _
  rw [Array.getElem?_push_lt hl, ← Array.getElem?_eq_getElem hl]; exact h
theorem hp_three (w : World) (a b c : Obj) : (((w.alloc a).alloc b).alloc c).drew.heap[w.heap.size + 1 + 1]? = some c := by
  show (((w.alloc a).alloc b).alloc c).heap[w.heap.size + 1 + 1]? = some c
  have := heap_alloc_new ((w.alloc a).alloc b) c
  simpa using this
def ordV (x y : Val) : Int := orI (sgI x.k y.k) (sgI x.n y.n) (cmpI x.s y.s)
/-- both operands' boxes -/
def Two (w u : World) (x y : Val) : Prop := u.heap[w.heap.size]? = some (BX x.k x.n (str x.s)) ∧ u.heap[w.heap.size + 1]? = some (BX y.k y.n (str y.s)) ∧ Below w.heap.size w u
theorem Two.al {w u : World} {x y : Val} (h : Two w u x y) (o : Obj) : Two w (u.alloc o) x y := ⟨hp_al h.1 o, hp_al h.2.1 o, bl_al h.2.2 o⟩
theorem Two.drew {w u : World} {x y : Val} (h : Two w u x y) : Two w u.drew x y := ⟨h.1, h.2.1, h.2.2.drew⟩
theorem Two.below {w u v : World} {x y : Val} (h : Two w u x y) (hb : Below u.heap.size u v) : Two w v x y :=
  ⟨(hb.block _ (by rcases Nat.lt_or_ge w.heap.size u.heap.size with h' | h'; exact h'; have := h.1; rw [Array.getElem?_eq_none h'] at this; cases this)).trans h.1,
    (hb.block _ (by rcases Nat.lt_or_ge (w.heap.size + 1) u.heap.size with h' | h'; exact h'; have := h.2.1; rw [Array.getElem?_eq_none h'] at this; cases this)).trans h.2.1, bl_tr h.2.2 hb⟩
theorem two_new (w : World) (x y : Val) : Two w ((w.alloc (BX x.k x.n (str x.s))).alloc (BX y.k y.n (str y.s))) x y :=
  ⟨hp_al (heap_alloc_new _ _) _, by have := heap_alloc_new (w.alloc (BX x.k x.n (str x.s))) (BX y.k y.n (str y.s)); simpa using this, bl_al (bl_al (Below.refl _ _) _) _⟩
set_option maxRecDepth 100000 in
set_option maxHeartbeats 1600000 in
theorem order_any (x y : Val) (w : World) (hx : Rng x.s) (hy : Rng y.s) : Calls Try.prog 50 #[.agg #[.int .i64 x.k, .int .i64 x.n, .string (str x.s)], .agg #[.int .i64 y.k, .int .i64 y.n, .string (str y.s)]] w fun e w' => e = .returned (.int .i64 (ordV x y)) ∧ Below w.heap.size w w' := by
  have HT := Lib.hid (two_new w x y).drew
  go_enter Try.func50, Try.ntmps50
  go_wp2_with fail
  refine wp_region_held_drew (S := fun u => Two w u x y) (by kernel_rfl) (HT.out) (fun hHeld => ?_)
  refine wpAnyH_take (i := 0) (oi := ({ dst := some 5, op := Op.fieldAddr 23 (Operand.tmp 2) 0, type := 0, pos := "value.go:42", after := #[], guard := none } : Oper)) (v := ?_) rfl (by kernel_rfl) (by kernel_rfl) (by kernel_rfl) (fun _ _ _ h => h) (Or.inl ⟨by rfl, ?_⟩) (by assumption) ?_
  rotate_left 1
  · (intro u hSw; go_simp; try with_reducible rfl)
  try simp only [Act.put, List.setIfInBounds_toArray, List.set_cons_zero, List.set_cons_succ]
  refine wpAnyH_take (i := 1) (oi := ({ dst := some 6, op := Op.load 3 (Operand.tmp 5), type := 3, pos := "value.go:42", after := #[{ on := 0, ground := Ground.data }], guard := none } : Oper)) (v := ?_) rfl (by kernel_rfl) (by kernel_rfl) (by kernel_rfl) (fun _ _ _ h => h) (Or.inl ⟨by rfl, ?_⟩) (by assumption) ?_
  rotate_left 1
  · (intro u hSw; have p0 := (cell_of_row u (w.heap.size) 0 _ _ _ hSw.1).trans (show (#[Value.int .i64 x.k, .int .i64 x.n, .string (str x.s)] : Array Value)[0]? = some (.int .i64 x.k) from rfl); have p1 := (cell_of_row u (w.heap.size) 1 _ _ _ hSw.1).trans (show (#[Value.int .i64 x.k, .int .i64 x.n, .string (str x.s)] : Array Value)[1]? = some (.int .i64 x.n) from rfl); have p2 := (cell_of_row u (w.heap.size) 2 _ _ _ hSw.1).trans (show (#[Value.int .i64 x.k, .int .i64 x.n, .string (str x.s)] : Array Value)[2]? = some (.string (str x.s)) from rfl); have q0 := (cell_of_row u (w.heap.size + 1) 0 _ _ _ hSw.2.1).trans (show (#[Value.int .i64 y.k, .int .i64 y.n, .string (str y.s)] : Array Value)[0]? = some (.int .i64 y.k) from rfl); have q1 := (cell_of_row u (w.heap.size + 1) 1 _ _ _ hSw.2.1).trans (show (#[Value.int .i64 y.k, .int .i64 y.n, .string (str y.s)] : Array Value)[1]? = some (.int .i64 y.n) from rfl); have q2 := (cell_of_row u (w.heap.size + 1) 2 _ _ _ hSw.2.1).trans (show (#[Value.int .i64 y.k, .int .i64 y.n, .string (str y.s)] : Array Value)[2]? = some (.string (str y.s)) from rfl); go_simp; try with_reducible rfl)
  try simp only [Act.put, List.setIfInBounds_toArray, List.set_cons_zero, List.set_cons_succ]
  refine wpAnyH_take (i := 2) (oi := ({ dst := some 7, op := Op.fieldAddr 23 (Operand.tmp 3) 0, type := 0, pos := "value.go:42", after := #[], guard := none } : Oper)) (v := ?_) rfl (by kernel_rfl) (by kernel_rfl) (by kernel_rfl) (fun _ _ _ h => h) (Or.inl ⟨by rfl, ?_⟩) (by assumption) ?_
  rotate_left 1
  · (intro u hSw; go_simp; try with_reducible rfl)
  try simp only [Act.put, List.setIfInBounds_toArray, List.set_cons_zero, List.set_cons_succ]
  refine wpAnyH_take (i := 3) (oi := ({ dst := some 8, op := Op.load 3 (Operand.tmp 7), type := 3, pos := "value.go:42", after := #[{ on := 2, ground := Ground.data }], guard := none } : Oper)) (v := ?_) rfl (by kernel_rfl) (by kernel_rfl) (by kernel_rfl) (fun _ _ _ h => h) (Or.inl ⟨by rfl, ?_⟩) (by assumption) ?_
  rotate_left 1
  · (intro u hSw; have p0 := (cell_of_row u (w.heap.size) 0 _ _ _ hSw.1).trans (show (#[Value.int .i64 x.k, .int .i64 x.n, .string (str x.s)] : Array Value)[0]? = some (.int .i64 x.k) from rfl); have p1 := (cell_of_row u (w.heap.size) 1 _ _ _ hSw.1).trans (show (#[Value.int .i64 x.k, .int .i64 x.n, .string (str x.s)] : Array Value)[1]? = some (.int .i64 x.n) from rfl); have p2 := (cell_of_row u (w.heap.size) 2 _ _ _ hSw.1).trans (show (#[Value.int .i64 x.k, .int .i64 x.n, .string (str x.s)] : Array Value)[2]? = some (.string (str x.s)) from rfl); have q0 := (cell_of_row u (w.heap.size + 1) 0 _ _ _ hSw.2.1).trans (show (#[Value.int .i64 y.k, .int .i64 y.n, .string (str y.s)] : Array Value)[0]? = some (.int .i64 y.k) from rfl); have q1 := (cell_of_row u (w.heap.size + 1) 1 _ _ _ hSw.2.1).trans (show (#[Value.int .i64 y.k, .int .i64 y.n, .string (str y.s)] : Array Value)[1]? = some (.int .i64 y.n) from rfl); have q2 := (cell_of_row u (w.heap.size + 1) 2 _ _ _ hSw.2.1).trans (show (#[Value.int .i64 y.k, .int .i64 y.n, .string (str y.s)] : Array Value)[2]? = some (.string (str y.s)) from rfl); go_simp; try with_reducible rfl)
  try simp only [Act.put, List.setIfInBounds_toArray, List.set_cons_zero, List.set_cons_succ]
  refine wpAnyH_take (i := 5) (oi := ({ dst := some 10, op := Op.fieldAddr 23 (Operand.tmp 2) 1, type := 0, pos := "value.go:42", after := #[], guard := none } : Oper)) (v := ?_) rfl (by kernel_rfl) (by kernel_rfl) (by kernel_rfl) (fun _ _ _ h => h) (Or.inl ⟨by rfl, ?_⟩) (by assumption) ?_
  rotate_left 1
  · (intro u hSw; go_simp; try with_reducible rfl)
  try simp only [Act.put, List.setIfInBounds_toArray, List.set_cons_zero, List.set_cons_succ]
  refine wpAnyH_take (i := 6) (oi := ({ dst := some 11, op := Op.load 2 (Operand.tmp 10), type := 2, pos := "value.go:42", after := #[{ on := 5, ground := Ground.data }], guard := none } : Oper)) (v := ?_) rfl (by kernel_rfl) (by kernel_rfl) (by kernel_rfl) (fun _ _ _ h => h) (Or.inl ⟨by rfl, ?_⟩) (by assumption) ?_
  rotate_left 1
  · (intro u hSw; have p0 := (cell_of_row u (w.heap.size) 0 _ _ _ hSw.1).trans (show (#[Value.int .i64 x.k, .int .i64 x.n, .string (str x.s)] : Array Value)[0]? = some (.int .i64 x.k) from rfl); have p1 := (cell_of_row u (w.heap.size) 1 _ _ _ hSw.1).trans (show (#[Value.int .i64 x.k, .int .i64 x.n, .string (str x.s)] : Array Value)[1]? = some (.int .i64 x.n) from rfl); have p2 := (cell_of_row u (w.heap.size) 2 _ _ _ hSw.1).trans (show (#[Value.int .i64 x.k, .int .i64 x.n, .string (str x.s)] : Array Value)[2]? = some (.string (str x.s)) from rfl); have q0 := (cell_of_row u (w.heap.size + 1) 0 _ _ _ hSw.2.1).trans (show (#[Value.int .i64 y.k, .int .i64 y.n, .string (str y.s)] : Array Value)[0]? = some (.int .i64 y.k) from rfl); have q1 := (cell_of_row u (w.heap.size + 1) 1 _ _ _ hSw.2.1).trans (show (#[Value.int .i64 y.k, .int .i64 y.n, .string (str y.s)] : Array Value)[1]? = some (.int .i64 y.n) from rfl); have q2 := (cell_of_row u (w.heap.size + 1) 2 _ _ _ hSw.2.1).trans (show (#[Value.int .i64 y.k, .int .i64 y.n, .string (str y.s)] : Array Value)[2]? = some (.string (str y.s)) from rfl); go_simp; try with_reducible rfl)
  try simp only [Act.put, List.setIfInBounds_toArray, List.set_cons_zero, List.set_cons_succ]
  refine wpAnyH_take (i := 7) (oi := ({ dst := some 12, op := Op.fieldAddr 23 (Operand.tmp 3) 1, type := 0, pos := "value.go:42", after := #[], guard := none } : Oper)) (v := ?_) rfl (by kernel_rfl) (by kernel_rfl) (by kernel_rfl) (fun _ _ _ h => h) (Or.inl ⟨by rfl, ?_⟩) (by assumption) ?_
  rotate_left 1
  · (intro u hSw; go_simp; try with_reducible rfl)
  try simp only [Act.put, List.setIfInBounds_toArray, List.set_cons_zero, List.set_cons_succ]
  refine wpAnyH_take (i := 8) (oi := ({ dst := some 13, op := Op.load 2 (Operand.tmp 12), type := 2, pos := "value.go:42", after := #[{ on := 7, ground := Ground.data }], guard := none } : Oper)) (v := ?_) rfl (by kernel_rfl) (by kernel_rfl) (by kernel_rfl) (fun _ _ _ h => h) (Or.inl ⟨by rfl, ?_⟩) (by assumption) ?_
  rotate_left 1
  · (intro u hSw; have p0 := (cell_of_row u (w.heap.size) 0 _ _ _ hSw.1).trans (show (#[Value.int .i64 x.k, .int .i64 x.n, .string (str x.s)] : Array Value)[0]? = some (.int .i64 x.k) from rfl); have p1 := (cell_of_row u (w.heap.size) 1 _ _ _ hSw.1).trans (show (#[Value.int .i64 x.k, .int .i64 x.n, .string (str x.s)] : Array Value)[1]? = some (.int .i64 x.n) from rfl); have p2 := (cell_of_row u (w.heap.size) 2 _ _ _ hSw.1).trans (show (#[Value.int .i64 x.k, .int .i64 x.n, .string (str x.s)] : Array Value)[2]? = some (.string (str x.s)) from rfl); have q0 := (cell_of_row u (w.heap.size + 1) 0 _ _ _ hSw.2.1).trans (show (#[Value.int .i64 y.k, .int .i64 y.n, .string (str y.s)] : Array Value)[0]? = some (.int .i64 y.k) from rfl); have q1 := (cell_of_row u (w.heap.size + 1) 1 _ _ _ hSw.2.1).trans (show (#[Value.int .i64 y.k, .int .i64 y.n, .string (str y.s)] : Array Value)[1]? = some (.int .i64 y.n) from rfl); have q2 := (cell_of_row u (w.heap.size + 1) 2 _ _ _ hSw.2.1).trans (show (#[Value.int .i64 y.k, .int .i64 y.n, .string (str y.s)] : Array Value)[2]? = some (.string (str y.s)) from rfl); go_simp; try with_reducible rfl)
  try simp only [Act.put, List.setIfInBounds_toArray, List.set_cons_zero, List.set_cons_succ]
  refine wpAnyH_take (i := 10) (oi := ({ dst := some 15, op := Op.fieldAddr 23 (Operand.tmp 2) 2, type := 0, pos := "value.go:42", after := #[], guard := none } : Oper)) (v := ?_) rfl (by kernel_rfl) (by kernel_rfl) (by kernel_rfl) (fun _ _ _ h => h) (Or.inl ⟨by rfl, ?_⟩) (by assumption) ?_
  rotate_left 1
  · (intro u hSw; go_simp; try with_reducible rfl)
  try simp only [Act.put, List.setIfInBounds_toArray, List.set_cons_zero, List.set_cons_succ]
  refine wpAnyH_take (i := 11) (oi := ({ dst := some 16, op := Op.load 9 (Operand.tmp 15), type := 9, pos := "value.go:42", after := #[{ on := 10, ground := Ground.data }], guard := none } : Oper)) (v := ?_) rfl (by kernel_rfl) (by kernel_rfl) (by kernel_rfl) (fun _ _ _ h => h) (Or.inl ⟨by rfl, ?_⟩) (by assumption) ?_
  rotate_left 1
  · (intro u hSw; have p0 := (cell_of_row u (w.heap.size) 0 _ _ _ hSw.1).trans (show (#[Value.int .i64 x.k, .int .i64 x.n, .string (str x.s)] : Array Value)[0]? = some (.int .i64 x.k) from rfl); have p1 := (cell_of_row u (w.heap.size) 1 _ _ _ hSw.1).trans (show (#[Value.int .i64 x.k, .int .i64 x.n, .string (str x.s)] : Array Value)[1]? = some (.int .i64 x.n) from rfl); have p2 := (cell_of_row u (w.heap.size) 2 _ _ _ hSw.1).trans (show (#[Value.int .i64 x.k, .int .i64 x.n, .string (str x.s)] : Array Value)[2]? = some (.string (str x.s)) from rfl); have q0 := (cell_of_row u (w.heap.size + 1) 0 _ _ _ hSw.2.1).trans (show (#[Value.int .i64 y.k, .int .i64 y.n, .string (str y.s)] : Array Value)[0]? = some (.int .i64 y.k) from rfl); have q1 := (cell_of_row u (w.heap.size + 1) 1 _ _ _ hSw.2.1).trans (show (#[Value.int .i64 y.k, .int .i64 y.n, .string (str y.s)] : Array Value)[1]? = some (.int .i64 y.n) from rfl); have q2 := (cell_of_row u (w.heap.size + 1) 2 _ _ _ hSw.2.1).trans (show (#[Value.int .i64 y.k, .int .i64 y.n, .string (str y.s)] : Array Value)[2]? = some (.string (str y.s)) from rfl); go_simp; try with_reducible rfl)
  try simp only [Act.put, List.setIfInBounds_toArray, List.set_cons_zero, List.set_cons_succ]
  refine wpAnyH_take (i := 12) (oi := ({ dst := some 17, op := Op.fieldAddr 23 (Operand.tmp 3) 2, type := 0, pos := "value.go:42", after := #[], guard := none } : Oper)) (v := ?_) rfl (by kernel_rfl) (by kernel_rfl) (by kernel_rfl) (fun _ _ _ h => h) (Or.inl ⟨by rfl, ?_⟩) (by assumption) ?_
  rotate_left 1
  · (intro u hSw; go_simp; try with_reducible rfl)
  try simp only [Act.put, List.setIfInBounds_toArray, List.set_cons_zero, List.set_cons_succ]
  refine wpAnyH_take (i := 13) (oi := ({ dst := some 18, op := Op.load 9 (Operand.tmp 17), type := 9, pos := "value.go:42", after := #[{ on := 12, ground := Ground.data }], guard := none } : Oper)) (v := ?_) rfl (by kernel_rfl) (by kernel_rfl) (by kernel_rfl) (fun _ _ _ h => h) (Or.inl ⟨by rfl, ?_⟩) (by assumption) ?_
  rotate_left 1
  · (intro u hSw; have p0 := (cell_of_row u (w.heap.size) 0 _ _ _ hSw.1).trans (show (#[Value.int .i64 x.k, .int .i64 x.n, .string (str x.s)] : Array Value)[0]? = some (.int .i64 x.k) from rfl); have p1 := (cell_of_row u (w.heap.size) 1 _ _ _ hSw.1).trans (show (#[Value.int .i64 x.k, .int .i64 x.n, .string (str x.s)] : Array Value)[1]? = some (.int .i64 x.n) from rfl); have p2 := (cell_of_row u (w.heap.size) 2 _ _ _ hSw.1).trans (show (#[Value.int .i64 x.k, .int .i64 x.n, .string (str x.s)] : Array Value)[2]? = some (.string (str x.s)) from rfl); have q0 := (cell_of_row u (w.heap.size + 1) 0 _ _ _ hSw.2.1).trans (show (#[Value.int .i64 y.k, .int .i64 y.n, .string (str y.s)] : Array Value)[0]? = some (.int .i64 y.k) from rfl); have q1 := (cell_of_row u (w.heap.size + 1) 1 _ _ _ hSw.2.1).trans (show (#[Value.int .i64 y.k, .int .i64 y.n, .string (str y.s)] : Array Value)[1]? = some (.int .i64 y.n) from rfl); have q2 := (cell_of_row u (w.heap.size + 1) 2 _ _ _ hSw.2.1).trans (show (#[Value.int .i64 y.k, .int .i64 y.n, .string (str y.s)] : Array Value)[2]? = some (.string (str y.s)) from rfl); go_simp; try with_reducible rfl)
  try simp only [Act.put, List.setIfInBounds_toArray, List.set_cons_zero, List.set_cons_succ]
  refine wpAnyH_ready (rs := [4]) (by kernel_rfl) (by simp) ?_
  refine AllReadyH.cons (o := ({ dst := some 9, op := Op.call { callee := Callee.value (Operand.func 82), args := #[Operand.tmp 6, Operand.tmp 8], argTypes := #[3, 3] }, type := 3, pos := "value.go:42", after := #[{ on := 1, ground := Ground.data }, { on := 3, ground := Ground.data }], guard := none } : Oper)) rfl (fun K hK => ?_) AllReadyH.nil
  go_simp
  go_at_call 82
  refine (cmpInt_any _ _ _).mono ?_
  rintro e w' ⟨rfl, rfl⟩
  go_wp2_with fail
  refine hK.out _ _ hHeld (fun hHeld => ?_)
  clear hK K
  try simp only [Act.put, List.setIfInBounds_toArray, List.set_cons_zero, List.set_cons_succ]
  refine wpAnyH_ready (rs := [9]) (by kernel_rfl) (by simp) ?_
  refine AllReadyH.cons (o := ({ dst := some 14, op := Op.call { callee := Callee.value (Operand.func 83), args := #[Operand.tmp 11, Operand.tmp 13], argTypes := #[2, 2] }, type := 3, pos := "value.go:42", after := #[{ on := 6, ground := Ground.data }, { on := 8, ground := Ground.data }, { on := 4, ground := Ground.chain }], guard := none } : Oper)) rfl (fun K hK => ?_) AllReadyH.nil
  go_simp
  go_at_call 83
  refine (cmpI64_any _ _ _).mono ?_
  rintro e w' ⟨rfl, rfl⟩
  go_wp2_with fail
  refine hK.out _ _ hHeld (fun hHeld => ?_)
  clear hK K
  try simp only [Act.put, List.setIfInBounds_toArray, List.set_cons_zero, List.set_cons_succ]
  refine wpAnyH_ready (rs := [14]) (by kernel_rfl) (by simp) ?_
  refine AllReadyH.cons (o := ({ dst := some 19, op := Op.call { callee := Callee.value (Operand.func 84), args := #[Operand.tmp 16, Operand.tmp 18], argTypes := #[9, 9] }, type := 3, pos := "value.go:42", after := #[{ on := 11, ground := Ground.data }, { on := 13, ground := Ground.data }, { on := 9, ground := Ground.chain }], guard := none } : Oper)) rfl (fun K hK => ?_) AllReadyH.nil
  go_simp
  go_at_call 84
  refine (cmpStr_any _ _ _ hx hy).mono ?_
  rintro e w' ⟨rfl, rfl⟩
  go_wp2_with fail
  refine hK.out _ _ hHeld (fun hHeld => ?_)
  clear hK K
  try simp only [Act.put, List.setIfInBounds_toArray, List.set_cons_zero, List.set_cons_succ]
  refine wpAnyH_ready (rs := [15]) (by kernel_rfl) (by simp) ?_
  refine AllReadyH.cons (o := ({ dst := some 20, op := Op.buildSlice 84 3 #[(0, Operand.tmp 9), (1, Operand.tmp 14), (2, Operand.tmp 19)], type := 84, pos := "value.go:42", after := #[{ on := 4, ground := Ground.data }, { on := 9, ground := Ground.data }, { on := 14, ground := Ground.data }], guard := none } : Oper)) rfl (fun K hK => ?_) AllReadyH.nil
  go_simp
  refine hK.out _ _ (hHeld.al _) (fun hHeld => ?_)
  clear hK K
  try simp only [Act.put, List.setIfInBounds_toArray, List.set_cons_zero, List.set_cons_succ]
  refine wpAnyH_ready (rs := [16]) (by kernel_rfl) (by simp) ?_
  refine AllReadyH.cons (o := ({ dst := some 21, op := Op.call { callee := Callee.value (Operand.func 81), args := #[Operand.tmp 20], argTypes := #[84] }, type := 3, pos := "value.go:42", after := #[{ on := 15, ground := Ground.data }, { on := 14, ground := Ground.chain }], guard := none } : Oper)) rfl (fun K hK => ?_) AllReadyH.nil
  go_simp
  go_at_call 81
  refine (or_any _ _ _ _ _ _ (hp_three w _ _ _)).mono ?_
  rintro e w' ⟨rfl, rfl⟩
  go_wp2_with fail
  refine hK.out _ _ hHeld (fun hHeld => ?_)
  clear hK K
  try simp only [Act.put, List.setIfInBounds_toArray, List.set_cons_zero, List.set_cons_succ]
  refine wpAnyH_take (i := 17) (oi := ({ dst := some 4, op := Op.assign (Operand.tmp 21), type := 3, pos := "value.go:42", after := #[{ on := 16, ground := Ground.data }, { on := 16, ground := Ground.chain }, { on := 0, ground := Ground.phase }, { on := 1, ground := Ground.phase }, { on := 2, ground := Ground.phase }, { on := 3, ground := Ground.phase }, { on := 4, ground := Ground.phase }, { on := 5, ground := Ground.phase }, { on := 6, ground := Ground.phase }, { on := 7, ground := Ground.phase }, { on := 8, ground := Ground.phase }, { on := 9, ground := Ground.phase }, { on := 10, ground := Ground.phase }, { on := 11, ground := Ground.phase }, { on := 12, ground := Ground.phase }, { on := 13, ground := Ground.phase }, { on := 14, ground := Ground.phase }, { on := 15, ground := Ground.phase }, { on := 16, ground := Ground.phase }], guard := none } : Oper)) (v := ?_) rfl (by kernel_rfl) (by kernel_rfl) (by kernel_rfl) (fun _ _ _ h => h) (Or.inl ⟨by rfl, ?_⟩) (by assumption) ?_
  rotate_left 1
  · (intro u hSw; go_simp; try with_reducible rfl)
  try simp only [Act.put, List.setIfInBounds_toArray, List.set_cons_zero, List.set_cons_succ]
  refine wpAnyH_done (by kernel_rfl) ?_ _
  go_wp2_with fail
  go_ret
  exact ⟨rfl, hHeld.2.2⟩
end Go.Proofs.Ytbhilmgpmebaiaa
namespace Go.Proofs.Ytbhilmgpmebaiaa
open Go.RowKit
attribute [local go_sem ↓] eql32_eq neq32_eq
def cmpV (x y : Val) : Int := ordV (normV x) (normV y)
theorem norm_rng {x : Val} (h : Rng x.s) : Rng (normV x).s := by
  unfold normV; split
  · exact fun x hx => by simp at hx
  split
  · exact h
  split <;> exact fun x hx => by simp at hx
set_option maxRecDepth 100000 in
set_option maxHeartbeats 1600000 in
theorem compare_any (x y : Val) (w : World) (hx : Rng x.s) (hy : Rng y.s) : Calls Try.prog 18 #[.agg #[.int .i64 x.k, .int .i64 x.n, .string (str x.s)], .agg #[.int .i64 y.k, .int .i64 y.n, .string (str y.s)]] w fun e w' => e = .returned (.int .i64 (cmpV x y)) ∧ Below w.heap.size w w' := by
  have HT := Lib.hid (two_new w x y).drew
  go_enter Try.func18, Try.ntmps18
  go_wp2_with fail
  refine wp_region_held_drew (S := fun u => Two w u x y) (by kernel_rfl) (HT.out) (fun hHeld => ?_)
  refine wpAnyH_take (i := 0) (oi := ({ dst := some 5, op := Op.load 23 (Operand.tmp 2), type := 23, pos := "value.go:19", after := #[], guard := none } : Oper)) (v := ?_) rfl (by kernel_rfl) (by kernel_rfl) (by kernel_rfl) (fun _ _ _ h => h) (Or.inl ⟨by rfl, ?_⟩) (by assumption) ?_
  rotate_left 1
  · (intro u hSw; have p0 := (cell_of_row u (w.heap.size) 0 _ _ _ hSw.1).trans (show (#[Value.int .i64 x.k, .int .i64 x.n, .string (str x.s)] : Array Value)[0]? = some (.int .i64 x.k) from rfl); have p1 := (cell_of_row u (w.heap.size) 1 _ _ _ hSw.1).trans (show (#[Value.int .i64 x.k, .int .i64 x.n, .string (str x.s)] : Array Value)[1]? = some (.int .i64 x.n) from rfl); have p2 := (cell_of_row u (w.heap.size) 2 _ _ _ hSw.1).trans (show (#[Value.int .i64 x.k, .int .i64 x.n, .string (str x.s)] : Array Value)[2]? = some (.string (str x.s)) from rfl); have q0 := (cell_of_row u (w.heap.size + 1) 0 _ _ _ hSw.2.1).trans (show (#[Value.int .i64 y.k, .int .i64 y.n, .string (str y.s)] : Array Value)[0]? = some (.int .i64 y.k) from rfl); have q1 := (cell_of_row u (w.heap.size + 1) 1 _ _ _ hSw.2.1).trans (show (#[Value.int .i64 y.k, .int .i64 y.n, .string (str y.s)] : Array Value)[1]? = some (.int .i64 y.n) from rfl); have q2 := (cell_of_row u (w.heap.size + 1) 2 _ _ _ hSw.2.1).trans (show (#[Value.int .i64 y.k, .int .i64 y.n, .string (str y.s)] : Array Value)[2]? = some (.string (str y.s)) from rfl); go_simp; try with_reducible rfl)
  try simp only [Act.put, List.setIfInBounds_toArray, List.set_cons_zero, List.set_cons_succ]
  refine wpAnyH_take (i := 2) (oi := ({ dst := some 7, op := Op.load 23 (Operand.tmp 3), type := 23, pos := "value.go:19", after := #[], guard := none } : Oper)) (v := ?_) rfl (by kernel_rfl) (by kernel_rfl) (by kernel_rfl) (fun _ _ _ h => h) (Or.inl ⟨by rfl, ?_⟩) (by assumption) ?_
  rotate_left 1
  · (intro u hSw; have p0 := (cell_of_row u (w.heap.size) 0 _ _ _ hSw.1).trans (show (#[Value.int .i64 x.k, .int .i64 x.n, .string (str x.s)] : Array Value)[0]? = some (.int .i64 x.k) from rfl); have p1 := (cell_of_row u (w.heap.size) 1 _ _ _ hSw.1).trans (show (#[Value.int .i64 x.k, .int .i64 x.n, .string (str x.s)] : Array Value)[1]? = some (.int .i64 x.n) from rfl); have p2 := (cell_of_row u (w.heap.size) 2 _ _ _ hSw.1).trans (show (#[Value.int .i64 x.k, .int .i64 x.n, .string (str x.s)] : Array Value)[2]? = some (.string (str x.s)) from rfl); have q0 := (cell_of_row u (w.heap.size + 1) 0 _ _ _ hSw.2.1).trans (show (#[Value.int .i64 y.k, .int .i64 y.n, .string (str y.s)] : Array Value)[0]? = some (.int .i64 y.k) from rfl); have q1 := (cell_of_row u (w.heap.size + 1) 1 _ _ _ hSw.2.1).trans (show (#[Value.int .i64 y.k, .int .i64 y.n, .string (str y.s)] : Array Value)[1]? = some (.int .i64 y.n) from rfl); have q2 := (cell_of_row u (w.heap.size + 1) 2 _ _ _ hSw.2.1).trans (show (#[Value.int .i64 y.k, .int .i64 y.n, .string (str y.s)] : Array Value)[2]? = some (.string (str y.s)) from rfl); go_simp; try with_reducible rfl)
  try simp only [Act.put, List.setIfInBounds_toArray, List.set_cons_zero, List.set_cons_succ]
  refine wpAnyH_ready (rs := [1]) (by kernel_rfl) (by simp) ?_
  refine AllReadyH.cons (o := ({ dst := some 6, op := Op.call { callee := Callee.value (Operand.func 30), args := #[Operand.tmp 5], argTypes := #[23] }, type := 23, pos := "value.go:19", after := #[{ on := 0, ground := Ground.data }], guard := none } : Oper)) rfl (fun K hK => ?_) AllReadyH.nil
  go_simp
  go_at_call 30
  refine (plain_any x _).mono ?_
  rintro e w' ⟨rfl, hb⟩
  go_wp2_with fail
  refine hK.out _ _ (hHeld.below hb) (fun hHeld => ?_)
  clear hK K
  try simp only [Act.put, List.setIfInBounds_toArray, List.set_cons_zero, List.set_cons_succ]
  refine wpAnyH_ready (rs := [3]) (by kernel_rfl) (by simp) ?_
  refine AllReadyH.cons (o := ({ dst := some 8, op := Op.call { callee := Callee.value (Operand.func 30), args := #[Operand.tmp 7], argTypes := #[23] }, type := 23, pos := "value.go:19", after := #[{ on := 2, ground := Ground.data }, { on := 1, ground := Ground.chain }], guard := none } : Oper)) rfl (fun K hK => ?_) AllReadyH.nil
  go_simp
  go_at_call 30
  refine (plain_any y _).mono ?_
  rintro e w' ⟨rfl, hb⟩
  go_wp2_with fail
  refine hK.out _ _ (hHeld.below hb) (fun hHeld => ?_)
  clear hK K
  try simp only [Act.put, List.setIfInBounds_toArray, List.set_cons_zero, List.set_cons_succ]
  refine wpAnyH_ready (rs := [4]) (by kernel_rfl) (by simp) ?_
  refine AllReadyH.cons (o := ({ dst := some 9, op := Op.call { callee := Callee.value (Operand.func 50), args := #[Operand.tmp 6, Operand.tmp 8], argTypes := #[23, 23] }, type := 3, pos := "value.go:19", after := #[{ on := 1, ground := Ground.data }, { on := 3, ground := Ground.data }, { on := 3, ground := Ground.chain }], guard := none } : Oper)) rfl (fun K hK => ?_) AllReadyH.nil
  go_simp
  go_at_call 50
  refine (order_any (normV x) (normV y) _ (norm_rng hx) (norm_rng hy)).mono ?_
  rintro e w' ⟨rfl, hb⟩
  go_wp2_with fail
  refine hK.out _ _ (hHeld.below hb) (fun hHeld => ?_)
  clear hK K
  try simp only [Act.put, List.setIfInBounds_toArray, List.set_cons_zero, List.set_cons_succ]
  refine wpAnyH_take (i := 5) (oi := ({ dst := some 4, op := Op.assign (Operand.tmp 9), type := 3, pos := "value.go:19", after := #[{ on := 4, ground := Ground.data }, { on := 4, ground := Ground.chain }, { on := 0, ground := Ground.phase }, { on := 1, ground := Ground.phase }, { on := 2, ground := Ground.phase }, { on := 3, ground := Ground.phase }, { on := 4, ground := Ground.phase }], guard := none } : Oper)) (v := ?_) rfl (by kernel_rfl) (by kernel_rfl) (by kernel_rfl) (fun _ _ _ h => h) (Or.inl ⟨by rfl, ?_⟩) (by assumption) ?_
  rotate_left 1
  · (intro u hSw; go_simp; try with_reducible rfl)
  try simp only [Act.put, List.setIfInBounds_toArray, List.set_cons_zero, List.set_cons_succ]
  refine wpAnyH_done (by kernel_rfl) ?_ _
  go_wp2_with fail
  go_ret
  exact ⟨rfl, hHeld.2.2⟩
def One (w u : World) (x : Val) : Prop := u.heap[w.heap.size]? = some (BX x.k x.n (str x.s)) ∧ Below w.heap.size w u
theorem One.al {w u : World} {x : Val} (h : One w u x) (o : Obj) : One w (u.alloc o) x := ⟨hp_al h.1 o, bl_al h.2 o⟩
theorem One.drew {w u : World} {x : Val} (h : One w u x) : One w u.drew x := ⟨h.1, h.2.drew⟩
theorem One.below {w u v : World} {x : Val} (h : One w u x) (hb : Below u.heap.size u v) : One w v x :=
  ⟨(hb.block _ (by rcases Nat.lt_or_ge w.heap.size u.heap.size with h' | h'; exact h'; have := h.1; rw [Array.getElem?_eq_none h'] at this; cases this)).trans h.1, bl_tr h.2 hb⟩
theorem one_new (w : World) (x : Val) : One w (w.alloc (BX x.k x.n (str x.s))) x := ⟨heap_alloc_new _ _, bl_al (Below.refl _ _) _⟩
def mayV (x : Val) : Bool := decide (normV x = x) && decide (x.s.length ≤ 64)
set_option maxRecDepth 100000 in
set_option maxHeartbeats 1600000 in
theorem may_any (x : Val) (w : World) (hx : Rng x.s) : Calls Try.prog 20 #[.agg #[.int .i64 x.k, .int .i64 x.n, .string (str x.s)]] w fun e w' => e = .returned (.bool (mayV x)) ∧ Below w.heap.size w w' := by
  have HT := Lib.hid (one_new w x).drew
  have hl := str_len x.s
  by_cases hn : normV x = x
  · have he := fun (u : World) => run_eql32 u x (normV x) hx (norm_rng hx)
    simp only [show decide (x = normV x) = true from decide_eq_true hn.symm] at he
    rw [show mayV x = decide (x.s.length ≤ 64) by rw [mayV, decide_eq_true hn, Bool.true_and]]
    clear hn
    go_enter Try.func20, Try.ntmps20
    go_wp2_with fail
    refine wp_region_held_drew (S := fun u => One w u x) (by kernel_rfl) (HT.out) (fun hHeld => ?_)
    refine wpAnyH_take (i := 0) (oi := ({ dst := some 3, op := Op.load 23 (Operand.tmp 1), type := 23, pos := "value.go:14", after := #[], guard := none } : Oper)) (v := ?_) rfl (by kernel_rfl) (by kernel_rfl) (by kernel_rfl) (fun _ _ _ h => h) (Or.inl ⟨by rfl, ?_⟩) (by assumption) ?_
    rotate_left 1
    · (intro u hSw; have p0 := (cell_of_row u (w.heap.size) 0 _ _ _ hSw.1).trans (show (#[Value.int .i64 x.k, .int .i64 x.n, .string (str x.s)] : Array Value)[0]? = some (.int .i64 x.k) from rfl); have p1 := (cell_of_row u (w.heap.size) 1 _ _ _ hSw.1).trans (show (#[Value.int .i64 x.k, .int .i64 x.n, .string (str x.s)] : Array Value)[1]? = some (.int .i64 x.n) from rfl); have p2 := (cell_of_row u (w.heap.size) 2 _ _ _ hSw.1).trans (show (#[Value.int .i64 x.k, .int .i64 x.n, .string (str x.s)] : Array Value)[2]? = some (.string (str x.s)) from rfl); go_simp; try with_reducible rfl)
    try simp only [Act.put, List.setIfInBounds_toArray, List.set_cons_zero, List.set_cons_succ]
    refine wpAnyH_take (i := 1) (oi := ({ dst := some 4, op := Op.load 23 (Operand.tmp 1), type := 23, pos := "value.go:14", after := #[], guard := none } : Oper)) (v := ?_) rfl (by kernel_rfl) (by kernel_rfl) (by kernel_rfl) (fun _ _ _ h => h) (Or.inl ⟨by rfl, ?_⟩) (by assumption) ?_
    rotate_left 1
    · (intro u hSw; have p0 := (cell_of_row u (w.heap.size) 0 _ _ _ hSw.1).trans (show (#[Value.int .i64 x.k, .int .i64 x.n, .string (str x.s)] : Array Value)[0]? = some (.int .i64 x.k) from rfl); have p1 := (cell_of_row u (w.heap.size) 1 _ _ _ hSw.1).trans (show (#[Value.int .i64 x.k, .int .i64 x.n, .string (str x.s)] : Array Value)[1]? = some (.int .i64 x.n) from rfl); have p2 := (cell_of_row u (w.heap.size) 2 _ _ _ hSw.1).trans (show (#[Value.int .i64 x.k, .int .i64 x.n, .string (str x.s)] : Array Value)[2]? = some (.string (str x.s)) from rfl); go_simp; try with_reducible rfl)
    try simp only [Act.put, List.setIfInBounds_toArray, List.set_cons_zero, List.set_cons_succ]
    refine wpAnyH_ready (rs := [2]) (by kernel_rfl) (by simp) ?_
    refine AllReadyH.cons (o := ({ dst := some 5, op := Op.call { callee := Callee.value (Operand.func 30), args := #[Operand.tmp 4], argTypes := #[23] }, type := 23, pos := "value.go:14", after := #[{ on := 1, ground := Ground.data }], guard := none } : Oper)) rfl (fun K hK => ?_) AllReadyH.nil
    go_simp
    go_at_call 30
    refine (plain_any x _).mono ?_
    rintro e w' ⟨rfl, hb⟩
    go_wp2_with fail
    refine hK.out _ _ (hHeld.below hb) (fun hHeld => ?_)
    clear hK K
    try simp only [Act.put, List.setIfInBounds_toArray, List.set_cons_zero, List.set_cons_succ]
    refine wpAnyH_take (i := 3) (oi := ({ dst := some 6, op := Op.binOp BinOp.eql 23 (Operand.tmp 3) (Operand.tmp 5) 23, type := 4, pos := "value.go:14", after := #[{ on := 0, ground := Ground.data }, { on := 2, ground := Ground.data }], guard := none } : Oper)) (v := ?_) rfl (by kernel_rfl) (by kernel_rfl) (by kernel_rfl) (fun _ _ _ h => h) (Or.inl ⟨by rfl, ?_⟩) (by assumption) ?_
    rotate_left 1
    · (intro u hSw; go_simp; try with_reducible rfl)
    try simp only [Act.put, List.setIfInBounds_toArray, List.set_cons_zero, List.set_cons_succ]
    refine wpAnyH_take (i := 4) (oi := ({ dst := some 7, op := Op.move (Operand.tmp 6), type := 4, pos := "value.go:14", after := #[{ on := 3, ground := Ground.data }, { on := 2, ground := Ground.chain }], guard := none } : Oper)) (v := ?_) rfl (by kernel_rfl) (by kernel_rfl) (by kernel_rfl) (fun _ _ _ h => h) (Or.inl ⟨by rfl, ?_⟩) (by assumption) ?_
    rotate_left 1
    · (intro u hSw; go_simp; try with_reducible rfl)
    try simp only [Act.put, List.setIfInBounds_toArray, List.set_cons_zero, List.set_cons_succ]
    refine wpAnyH_take (i := 5) (oi := ({ dst := some 8, op := Op.fieldAddr 23 (Operand.tmp 1) 2, type := 0, pos := "value.go:14", after := #[{ on := 4, ground := Ground.guard }], guard := some (4, true) } : Oper)) (v := ?_) rfl (by kernel_rfl) (by kernel_rfl) (by kernel_rfl) (fun _ _ _ h => h) (Or.inl ⟨by rfl, ?_⟩) (by assumption) ?_
    rotate_left 1
    · (intro u hSw; go_simp; try with_reducible rfl)
    try simp only [Act.put, List.setIfInBounds_toArray, List.set_cons_zero, List.set_cons_succ]
    refine wpAnyH_take (i := 6) (oi := ({ dst := some 9, op := Op.load 9 (Operand.tmp 8), type := 9, pos := "value.go:14", after := #[{ on := 5, ground := Ground.data }, { on := 4, ground := Ground.guard }], guard := some (4, true) } : Oper)) (v := ?_) rfl (by kernel_rfl) (by kernel_rfl) (by kernel_rfl) (fun _ _ _ h => h) (Or.inl ⟨by rfl, ?_⟩) (by assumption) ?_
    rotate_left 1
    · (intro u hSw; have p0 := (cell_of_row u (w.heap.size) 0 _ _ _ hSw.1).trans (show (#[Value.int .i64 x.k, .int .i64 x.n, .string (str x.s)] : Array Value)[0]? = some (.int .i64 x.k) from rfl); have p1 := (cell_of_row u (w.heap.size) 1 _ _ _ hSw.1).trans (show (#[Value.int .i64 x.k, .int .i64 x.n, .string (str x.s)] : Array Value)[1]? = some (.int .i64 x.n) from rfl); have p2 := (cell_of_row u (w.heap.size) 2 _ _ _ hSw.1).trans (show (#[Value.int .i64 x.k, .int .i64 x.n, .string (str x.s)] : Array Value)[2]? = some (.string (str x.s)) from rfl); go_simp; try with_reducible rfl)
    try simp only [Act.put, List.setIfInBounds_toArray, List.set_cons_zero, List.set_cons_succ]
    refine wpAnyH_take (i := 7) (oi := ({ dst := some 10, op := Op.call { callee := Callee.builtin Builtin.len, args := #[Operand.tmp 9], argTypes := #[9] }, type := 3, pos := "value.go:14", after := #[{ on := 6, ground := Ground.data }, { on := 4, ground := Ground.guard }], guard := some (4, true) } : Oper)) (v := ?_) rfl (by kernel_rfl) (by kernel_rfl) (by kernel_rfl) (fun _ _ _ h => h) (Or.inl ⟨by rfl, ?_⟩) (by assumption) ?_
    rotate_left 1
    · (intro u hSw; go_simp; try with_reducible rfl)
    try simp only [Act.put, List.setIfInBounds_toArray, List.set_cons_zero, List.set_cons_succ]
    refine wpAnyH_take (i := 8) (oi := ({ dst := some 11, op := Op.binOp BinOp.leq 3 (Operand.tmp 10) (Operand.const (Value.int IntKind.i64 64)) 3, type := 4, pos := "value.go:14", after := #[{ on := 7, ground := Ground.data }, { on := 4, ground := Ground.guard }], guard := some (4, true) } : Oper)) (v := ?_) rfl (by kernel_rfl) (by kernel_rfl) (by kernel_rfl) (fun _ _ _ h => h) (Or.inl ⟨by rfl, ?_⟩) (by assumption) ?_
    rotate_left 1
    · (intro u hSw; go_simp; try with_reducible rfl)
    try simp only [Act.put, List.setIfInBounds_toArray, List.set_cons_zero, List.set_cons_succ]
    refine wpAnyH_take (i := 9) (oi := ({ dst := some 12, op := Op.pick (Operand.tmp 7) (Operand.tmp 11) (Operand.const (Value.bool false)), type := 4, pos := "value.go:14", after := #[{ on := 4, ground := Ground.data }, { on := 8, ground := Ground.data }], guard := none } : Oper)) (v := ?_) rfl (by kernel_rfl) (by kernel_rfl) (by kernel_rfl) (fun _ _ _ h => h) (Or.inl ⟨by rfl, ?_⟩) (by assumption) ?_
    rotate_left 1
    · (intro u hSw; go_simp; try with_reducible rfl)
    try simp only [Act.put, List.setIfInBounds_toArray, List.set_cons_zero, List.set_cons_succ]
    refine wpAnyH_take (i := 10) (oi := ({ dst := some 2, op := Op.assign (Operand.tmp 12), type := 4, pos := "value.go:14", after := #[{ on := 9, ground := Ground.data }, { on := 4, ground := Ground.chain }, { on := 0, ground := Ground.phase }, { on := 1, ground := Ground.phase }, { on := 2, ground := Ground.phase }, { on := 3, ground := Ground.phase }, { on := 4, ground := Ground.phase }, { on := 5, ground := Ground.phase }, { on := 6, ground := Ground.phase }, { on := 7, ground := Ground.phase }, { on := 8, ground := Ground.phase }, { on := 9, ground := Ground.phase }], guard := none } : Oper)) (v := ?_) rfl (by kernel_rfl) (by kernel_rfl) (by kernel_rfl) (fun _ _ _ h => h) (Or.inl ⟨by rfl, ?_⟩) (by assumption) ?_
    rotate_left 1
    · (intro u hSw; go_simp; try with_reducible rfl)
    try simp only [Act.put, List.setIfInBounds_toArray, List.set_cons_zero, List.set_cons_succ]
    refine wpAnyH_done (by kernel_rfl) ?_ _
    go_wp2_with fail
    go_ret
    exact ⟨by simp; omega, hHeld.2⟩
  · have he := fun (u : World) => run_eql32 u x (normV x) hx (norm_rng hx)
    simp only [show decide (x = normV x) = false from decide_eq_false (fun e => hn e.symm)] at he
    rw [show mayV x = false by rw [mayV, decide_eq_false hn, Bool.false_and]]
    clear hn
    go_enter Try.func20, Try.ntmps20
    go_wp2_with fail
    refine wp_region_held_drew (S := fun u => One w u x) (by kernel_rfl) (HT.out) (fun hHeld => ?_)
    refine wpAnyH_take (i := 0) (oi := ({ dst := some 3, op := Op.load 23 (Operand.tmp 1), type := 23, pos := "value.go:14", after := #[], guard := none } : Oper)) (v := ?_) rfl (by kernel_rfl) (by kernel_rfl) (by kernel_rfl) (fun _ _ _ h => h) (Or.inl ⟨by rfl, ?_⟩) (by assumption) ?_
    rotate_left 1
    · (intro u hSw; have p0 := (cell_of_row u (w.heap.size) 0 _ _ _ hSw.1).trans (show (#[Value.int .i64 x.k, .int .i64 x.n, .string (str x.s)] : Array Value)[0]? = some (.int .i64 x.k) from rfl); have p1 := (cell_of_row u (w.heap.size) 1 _ _ _ hSw.1).trans (show (#[Value.int .i64 x.k, .int .i64 x.n, .string (str x.s)] : Array Value)[1]? = some (.int .i64 x.n) from rfl); have p2 := (cell_of_row u (w.heap.size) 2 _ _ _ hSw.1).trans (show (#[Value.int .i64 x.k, .int .i64 x.n, .string (str x.s)] : Array Value)[2]? = some (.string (str x.s)) from rfl); go_simp; try with_reducible rfl)
    try simp only [Act.put, List.setIfInBounds_toArray, List.set_cons_zero, List.set_cons_succ]
    refine wpAnyH_take (i := 1) (oi := ({ dst := some 4, op := Op.load 23 (Operand.tmp 1), type := 23, pos := "value.go:14", after := #[], guard := none } : Oper)) (v := ?_) rfl (by kernel_rfl) (by kernel_rfl) (by kernel_rfl) (fun _ _ _ h => h) (Or.inl ⟨by rfl, ?_⟩) (by assumption) ?_
    rotate_left 1
    · (intro u hSw; have p0 := (cell_of_row u (w.heap.size) 0 _ _ _ hSw.1).trans (show (#[Value.int .i64 x.k, .int .i64 x.n, .string (str x.s)] : Array Value)[0]? = some (.int .i64 x.k) from rfl); have p1 := (cell_of_row u (w.heap.size) 1 _ _ _ hSw.1).trans (show (#[Value.int .i64 x.k, .int .i64 x.n, .string (str x.s)] : Array Value)[1]? = some (.int .i64 x.n) from rfl); have p2 := (cell_of_row u (w.heap.size) 2 _ _ _ hSw.1).trans (show (#[Value.int .i64 x.k, .int .i64 x.n, .string (str x.s)] : Array Value)[2]? = some (.string (str x.s)) from rfl); go_simp; try with_reducible rfl)
    try simp only [Act.put, List.setIfInBounds_toArray, List.set_cons_zero, List.set_cons_succ]
    refine wpAnyH_ready (rs := [2]) (by kernel_rfl) (by simp) ?_
    refine AllReadyH.cons (o := ({ dst := some 5, op := Op.call { callee := Callee.value (Operand.func 30), args := #[Operand.tmp 4], argTypes := #[23] }, type := 23, pos := "value.go:14", after := #[{ on := 1, ground := Ground.data }], guard := none } : Oper)) rfl (fun K hK => ?_) AllReadyH.nil
    go_simp
    go_at_call 30
    refine (plain_any x _).mono ?_
    rintro e w' ⟨rfl, hb⟩
    go_wp2_with fail
    refine hK.out _ _ (hHeld.below hb) (fun hHeld => ?_)
    clear hK K
    try simp only [Act.put, List.setIfInBounds_toArray, List.set_cons_zero, List.set_cons_succ]
    refine wpAnyH_take (i := 3) (oi := ({ dst := some 6, op := Op.binOp BinOp.eql 23 (Operand.tmp 3) (Operand.tmp 5) 23, type := 4, pos := "value.go:14", after := #[{ on := 0, ground := Ground.data }, { on := 2, ground := Ground.data }], guard := none } : Oper)) (v := ?_) rfl (by kernel_rfl) (by kernel_rfl) (by kernel_rfl) (fun _ _ _ h => h) (Or.inl ⟨by rfl, ?_⟩) (by assumption) ?_
    rotate_left 1
    · (intro u hSw; go_simp; try with_reducible rfl)
    try simp only [Act.put, List.setIfInBounds_toArray, List.set_cons_zero, List.set_cons_succ]
    refine wpAnyH_take (i := 4) (oi := ({ dst := some 7, op := Op.move (Operand.tmp 6), type := 4, pos := "value.go:14", after := #[{ on := 3, ground := Ground.data }, { on := 2, ground := Ground.chain }], guard := none } : Oper)) (v := ?_) rfl (by kernel_rfl) (by kernel_rfl) (by kernel_rfl) (fun _ _ _ h => h) (Or.inl ⟨by rfl, ?_⟩) (by assumption) ?_
    rotate_left 1
    · (intro u hSw; go_simp; try with_reducible rfl)
    try simp only [Act.put, List.setIfInBounds_toArray, List.set_cons_zero, List.set_cons_succ]
    refine wpAnyH_take (i := 5) (oi := ({ dst := some 8, op := Op.fieldAddr 23 (Operand.tmp 1) 2, type := 0, pos := "value.go:14", after := #[{ on := 4, ground := Ground.guard }], guard := some (4, true) } : Oper)) (v := undef) rfl (by kernel_rfl) (by kernel_rfl) (by kernel_rfl) (fun _ _ _ h => h) (by exact Or.inr ⟨by rfl, rfl⟩) (by assumption) ?_
    try simp only [Act.put, List.setIfInBounds_toArray, List.set_cons_zero, List.set_cons_succ]
    refine wpAnyH_take (i := 6) (oi := ({ dst := some 9, op := Op.load 9 (Operand.tmp 8), type := 9, pos := "value.go:14", after := #[{ on := 5, ground := Ground.data }, { on := 4, ground := Ground.guard }], guard := some (4, true) } : Oper)) (v := undef) rfl (by kernel_rfl) (by kernel_rfl) (by kernel_rfl) (fun _ _ _ h => h) (by exact Or.inr ⟨by rfl, rfl⟩) (by assumption) ?_
    try simp only [Act.put, List.setIfInBounds_toArray, List.set_cons_zero, List.set_cons_succ]
    refine wpAnyH_take (i := 7) (oi := ({ dst := some 10, op := Op.call { callee := Callee.builtin Builtin.len, args := #[Operand.tmp 9], argTypes := #[9] }, type := 3, pos := "value.go:14", after := #[{ on := 6, ground := Ground.data }, { on := 4, ground := Ground.guard }], guard := some (4, true) } : Oper)) (v := undef) rfl (by kernel_rfl) (by kernel_rfl) (by kernel_rfl) (fun _ _ _ h => h) (by exact Or.inr ⟨by rfl, rfl⟩) (by assumption) ?_
    try simp only [Act.put, List.setIfInBounds_toArray, List.set_cons_zero, List.set_cons_succ]
    refine wpAnyH_take (i := 8) (oi := ({ dst := some 11, op := Op.binOp BinOp.leq 3 (Operand.tmp 10) (Operand.const (Value.int IntKind.i64 64)) 3, type := 4, pos := "value.go:14", after := #[{ on := 7, ground := Ground.data }, { on := 4, ground := Ground.guard }], guard := some (4, true) } : Oper)) (v := undef) rfl (by kernel_rfl) (by kernel_rfl) (by kernel_rfl) (fun _ _ _ h => h) (by exact Or.inr ⟨by rfl, rfl⟩) (by assumption) ?_
    try simp only [Act.put, List.setIfInBounds_toArray, List.set_cons_zero, List.set_cons_succ]
    refine wpAnyH_take (i := 9) (oi := ({ dst := some 12, op := Op.pick (Operand.tmp 7) (Operand.tmp 11) (Operand.const (Value.bool false)), type := 4, pos := "value.go:14", after := #[{ on := 4, ground := Ground.data }, { on := 8, ground := Ground.data }], guard := none } : Oper)) (v := ?_) rfl (by kernel_rfl) (by kernel_rfl) (by kernel_rfl) (fun _ _ _ h => h) (Or.inl ⟨by rfl, ?_⟩) (by assumption) ?_
    rotate_left 1
    · (intro u hSw; go_simp; try with_reducible rfl)
    try simp only [Act.put, List.setIfInBounds_toArray, List.set_cons_zero, List.set_cons_succ]
    refine wpAnyH_take (i := 10) (oi := ({ dst := some 2, op := Op.assign (Operand.tmp 12), type := 4, pos := "value.go:14", after := #[{ on := 9, ground := Ground.data }, { on := 4, ground := Ground.chain }, { on := 0, ground := Ground.phase }, { on := 1, ground := Ground.phase }, { on := 2, ground := Ground.phase }, { on := 3, ground := Ground.phase }, { on := 4, ground := Ground.phase }, { on := 5, ground := Ground.phase }, { on := 6, ground := Ground.phase }, { on := 7, ground := Ground.phase }, { on := 8, ground := Ground.phase }, { on := 9, ground := Ground.phase }], guard := none } : Oper)) (v := ?_) rfl (by kernel_rfl) (by kernel_rfl) (by kernel_rfl) (fun _ _ _ h => h) (Or.inl ⟨by rfl, ?_⟩) (by assumption) ?_
    rotate_left 1
    · (intro u hSw; go_simp; try with_reducible rfl)
    try simp only [Act.put, List.setIfInBounds_toArray, List.set_cons_zero, List.set_cons_succ]
    refine wpAnyH_done (by kernel_rfl) ?_ _
    go_wp2_with fail
    go_ret
    exact ⟨rfl, hHeld.2⟩
end Go.Proofs.Ytbhilmgpmebaiaa
namespace Go.Proofs.Ytbhilmgpmebaiaa
open Go.RowKit
def cmpR : List Val → List Val → Int
  | [], [] => 0
  | [], _ :: _ => -1
  | _ :: _, [] => 1
  | x :: r, y :: s => if cmpV x y = 0 then cmpR r s else cmpV x y
theorem cmpR_at {r s : List Val} {k : Nat} {x y : Val} (h1 : r[k]? = some x) (h2 : s[k]? = some y) : cmpR (r.drop k) (s.drop k) = if cmpV x y = 0 then cmpR (r.drop (k + 1)) (s.drop (k + 1)) else cmpV x y := by
  obtain ⟨a1, b1⟩ := List.getElem?_eq_some_iff.1 h1
  obtain ⟨a2, b2⟩ := List.getElem?_eq_some_iff.1 h2
  rw [List.drop_eq_getElem_cons a1, List.drop_eq_getElem_cons a2, b1, b2, cmpR]
theorem cmpR_end1 {r s : List Val} {k : Nat} (h1 : k = r.length) (h2 : k < s.length) : cmpR (r.drop k) (s.drop k) = -1 := by
  rw [List.drop_of_length_le (by omega), List.drop_eq_getElem_cons h2]; rfl
theorem cmpR_end2 {r s : List Val} {k : Nat} (h1 : k < r.length) (h2 : k = s.length) : cmpR (r.drop k) (s.drop k) = 1 := by
  rw [List.drop_of_length_le (l := s) (by omega), List.drop_eq_getElem_cons h1]; rfl
theorem cmpR_end3 {r s : List Val} {k : Nat} (h1 : k = r.length) (h2 : k = s.length) : cmpR (r.drop k) (s.drop k) = 0 := by
  rw [List.drop_of_length_le (l := s) (by omega), List.drop_of_length_le (by omega)]; rfl
set_option maxHeartbeats 3200000 in
theorem compareFunc_any (v1 v2 : Value) (r s : List Val) (w : World) (h1 : Rw w v1 r) (h2 : Rw w v2 s) (ho1 : ∀ x ∈ r, x.OK) (ho2 : ∀ x ∈ s, x.OK) (hl : r.length ≤ 1073741824) (hm : s.length ≤ 1073741824) :
    Calls Try.prog 52 #[v1, v2, .func (.func 18) #[] #[]] w fun e w' => e = .returned (.int .i64 (cmpR r s)) ∧ Below w.heap.size w w' := by
  obtain ⟨a1, c1, rfl, hc1, hcell1⟩ := h1
  obtain ⟨a2, c2, rfl, hc2, hcell2⟩ := h2
  have HC1 := Lib.hid hcell1
  have HC2 := Lib.hid hcell2
  have HO1 := Lib.hid ho1
  have HO2 := Lib.hid ho2
  have hz := zero32
  generalize hn : r.length = n at *
  generalize ho : s.length = o at *
  have HN := Lib.hid hn
  have HO := Lib.hid ho
  clear hcell1 hcell2 hn ho ho1 ho2
  go_enter Try.func52, Try.ntmps52
  go_wp2_with fail
  go_loopw [13] (fun i wr => ∃ k : Nat, k ≤ n ∧ k ≤ o ∧ i = .int .i64 k ∧ Below w.heap.size w wr ∧ Hid (cmpR r s = cmpR (r.drop k) (s.drop k))) (fun i _ => n - (intOf i).toNat)
  case atStart => exact ⟨0, Nat.zero_le _, Nat.zero_le _, rfl, Below.refl _ _, Lib.hid rfl⟩
  case round =>
    obtain ⟨k, hk1, hk2, rfl, hbw, heq⟩ := hrel
    have hsz := hbw.size
    have HBW := Lib.hid hbw
    clear hbw
    by_cases hlt1 : k < n
    · by_cases hlt2 : k < o
      · obtain ⟨b1, o1, rfl, hb1, hd1⟩ := HC1.out (by omega)
        obtain ⟨b2, o2, rfl, hb2, hd2⟩ := HC2.out (by omega)
        obtain ⟨x, hx⟩ : ∃ x, r[k]? = some x := ⟨_, List.getElem?_eq_getElem (by rw [HN.out]; exact hlt1)⟩
        obtain ⟨y, hy⟩ : ∃ y, s[k]? = some y := ⟨_, List.getElem?_eq_getElem (by rw [HO.out]; exact hlt2)⟩
        obtain ⟨p0, p1, p2⟩ := hd1 k x hx
        obtain ⟨q0, q1, q2⟩ := hd2 k y hy
        replace p0 := (HBW.out.cell (p := ⟨b1, o1 + k * 3, none⟩) hb1).trans p0
        replace p1 := (HBW.out.cell (p := ⟨b1, o1 + k * 3 + 1, none⟩) hb1).trans p1
        replace p2 := (HBW.out.cell (p := ⟨b1, o1 + k * 3 + 2, none⟩) hb1).trans p2
        replace q0 := (HBW.out.cell (p := ⟨b2, o2 + k * 3, none⟩) hb2).trans q0
        replace q1 := (HBW.out.cell (p := ⟨b2, o2 + k * 3 + 1, none⟩) hb2).trans q1
        replace q2 := (HBW.out.cell (p := ⟨b2, o2 + k * 3 + 2, none⟩) hb2).trans q2
        have HRX := Lib.hid (HO1.out x (List.mem_of_getElem? hx)).1
        have HRY := Lib.hid (HO2.out y (List.mem_of_getElem? hy)).1
        have HAT := Lib.hid (heq.out.trans (cmpR_at hx hy))
        have hb1r : b1 < wr.heap.size := by omega
        have hb2r : b2 < wr.heap.size := by omega
        clear hd1 hd2 hx hy heq
        have HCMP := Lib.hid (fun u => compare_any x y u HRX.out HRY.out)
        generalize hcv : cmpV x y = c at *
        have HB2 := Lib.hid (fun (o1 o2 : Obj) => (HBW.out.alloc (by omega) o1).alloc (by simp; omega) o2)
        by_cases hxy : c = 0
        · rw [if_pos hxy] at HAT
          subst hxy
          clear hcv
          go_wp2_with (go_at_call 18; refine (HCMP.out _).mono ?_; rintro e w' ⟨rfl, hb⟩; have HB3 := Lib.hid hb; clear hb)
          go_roundw
          case rel => exact ⟨k + 1, by omega, by omega, by go_num, (HB2.out _ _).trans (HB3.out.mono (by simp; omega)), HAT⟩
          case measure => simp [intOf]; omega
        · rw [if_neg hxy] at HAT
          have g : (c != 0) = true := bne_iff_ne.2 hxy
          clear hcv
          go_wp2_with (go_at_call 18; refine (HCMP.out _).mono ?_; rintro e w' ⟨rfl, hb⟩; have HB3 := Lib.hid hb; clear hb)
          go_ret
          exact ⟨ret_int HAT.out.symm, (HB2.out _ _).trans (HB3.out.mono (by simp; omega))⟩
      · have hko : k = o := by omega
        obtain ⟨b1, o1, rfl, hb1, hd1⟩ := HC1.out (by omega)
        obtain ⟨x, hx⟩ : ∃ x, r[k]? = some x := ⟨_, List.getElem?_eq_getElem (by rw [HN.out]; exact hlt1)⟩
        obtain ⟨p0, p1, p2⟩ := hd1 k x hx
        replace p0 := (HBW.out.cell (p := ⟨b1, o1 + k * 3, none⟩) hb1).trans p0
        replace p1 := (HBW.out.cell (p := ⟨b1, o1 + k * 3 + 1, none⟩) hb1).trans p1
        replace p2 := (HBW.out.cell (p := ⟨b1, o1 + k * 3 + 2, none⟩) hb1).trans p2
        have HF := Lib.hid (heq.out.trans (cmpR_end2 (by rw [HN.out]; exact hlt1) (by rw [HO.out]; exact hko)))
        have hb1r : b1 < wr.heap.size := by omega
        clear heq hd1 hx
        subst hko
        go_wp2_with fail
        go_ret
        exact ⟨ret_int HF.out.symm, HBW.out.alloc (by omega) _⟩
    · have hkn : k = n := by omega
      subst hkn
      by_cases hlt2 : k < o
      · have HF := Lib.hid (heq.out.trans (cmpR_end1 (by rw [HN.out]) (by rw [HO.out]; exact hlt2)))
        clear heq
        go_wp2_with fail
        go_ret
        exact ⟨ret_int HF.out.symm, HBW.out⟩
      · have hko : k = o := by omega
        have HF := Lib.hid (heq.out.trans (cmpR_end3 (by rw [HN.out]) (by rw [HO.out]; exact hko)))
        clear heq
        subst hko
        go_wp2_with fail
        go_ret
        exact ⟨ret_int HF.out.symm, HBW.out⟩
theorem compareRows_any (v1 v2 : Value) (r s : List Val) (w : World) (h1 : Rw w v1 r) (h2 : Rw w v2 s) (ho1 : ∀ x ∈ r, x.OK) (ho2 : ∀ x ∈ s, x.OK) (hl : r.length ≤ 1073741824) (hm : s.length ≤ 1073741824) :
    Calls Try.prog 22 #[v1, v2] w fun e w' => e = .returned (.int .i64 (cmpR r s)) ∧ Below w.heap.size w w' := by
  go_enter Try.func22, Try.ntmps22
  go_wp2_with (go_at_call 52; refine (compareFunc_any v1 v2 r s w h1 h2 ho1 ho2 hl hm).mono ?_; rintro e w' ⟨rfl, hb⟩)
  go_ret
  exact ⟨rfl, hb⟩
end Go.Proofs.Ytbhilmgpmebaiaa
namespace Go.Proofs.Ytbhilmgpmebaiaa
open Go.RowKit
attribute [local go_sem ↓] eql32_eq neq32_eq
theorem rtruth_any (b : Bool) (w : World) : Calls Try.prog 27 #[.bool b] w fun e w' => e = .returned (.agg #[.int .i64 3, .int .i64 (if b = true then 1 else 0), .string ⟨#[]⟩]) ∧ w' = w.alloc (BX 3 (if b = true then 1 else 0) ⟨#[]⟩) := by
  cases b
  · go_enter Try.func27, Try.ntmps27
    go_wp2_with fail
    refine bodyPost_ret (v := .agg #[.int .i64 3, .int .i64 0, .string ⟨#[]⟩]) (by simp [results, Try.results27, go_sem]) rfl ⟨?_, ?_⟩
    · rfl
    · rfl
  · go_enter Try.func27, Try.ntmps27
    go_wp2_with fail
    refine bodyPost_ret (v := .agg #[.int .i64 3, .int .i64 1, .string ⟨#[]⟩]) (by simp [results, Try.results27, go_sem]) rfl ⟨?_, ?_⟩
    · rfl
    · rfl
end Go.Proofs.Ytbhilmgpmebaiaa
namespace Go.Proofs.Ytbhilmgpmebaiaa
open Go.RowKit
attribute [local go_sem ↓] eql32_eq neq32_eq
theorem set3 {u : World} {H : Nat} {k n : Int} {s : ByteArray} (h : u.heap[H]? = some (BX k n s)) (a : Val) :
    (((u.setCell ⟨H, 0, none⟩ (.int .i64 a.k)).setCell ⟨H, 1, none⟩ (.int .i64 a.n)).setCell ⟨H, 2, none⟩ (.string (str a.s))).heap[H]? = some (BX a.k a.n (str a.s)) := by
  have h1 := heap_setCell_same u H 0 _ _ (.int .i64 a.k) h
  have h2 := heap_setCell_same _ H 1 _ _ (.int .i64 a.n) h1
  have h3 := heap_setCell_same _ H 2 _ _ (.string (str a.s)) h2
  exact h3
theorem set3_other {u : World} {H g : Nat} (a : Val) (hg : g ≠ H) :
    (((u.setCell ⟨H, 0, none⟩ (.int .i64 a.k)).setCell ⟨H, 1, none⟩ (.int .i64 a.n)).setCell ⟨H, 2, none⟩ (.string (str a.s))).heap[g]? = u.heap[g]? := by
  rw [heap_setCell_other _ _ _ _ hg, heap_setCell_other _ _ _ _ hg, heap_setCell_other _ _ _ _ hg]
theorem set3_below {w u : World} {H B : Nat} (a : Val) (h : Below B w u) (hB : B ≤ H) :
    Below B w (((u.setCell ⟨H, 0, none⟩ (.int .i64 a.k)).setCell ⟨H, 1, none⟩ (.int .i64 a.n)).setCell ⟨H, 2, none⟩ (.string (str a.s))) :=
  ((h.setCell hB _).setCell hB _).setCell hB _
theorem Two.set1 {w u : World} {x y : Val} (h : Two w u x y) (a : Val) : Two w (((u.setCell ⟨w.heap.size, 0, none⟩ (.int .i64 a.k)).setCell ⟨w.heap.size, 1, none⟩ (.int .i64 a.n)).setCell ⟨w.heap.size, 2, none⟩ (.string (str a.s))) a y :=
  ⟨set3 h.1 a, (set3_other a (by omega)).trans h.2.1, set3_below a h.2.2 (Nat.le_refl _)⟩
theorem Two.set2 {w u : World} {x y : Val} (h : Two w u x y) (a : Val) : Two w (((u.setCell ⟨w.heap.size + 1, 0, none⟩ (.int .i64 a.k)).setCell ⟨w.heap.size + 1, 1, none⟩ (.int .i64 a.n)).setCell ⟨w.heap.size + 1, 2, none⟩ (.string (str a.s))) x a :=
  ⟨(set3_other a (by omega)).trans h.1, set3 h.2.1 a, set3_below a h.2.2 (by omega)⟩
theorem bx_cells {u : World} {H : Nat} {k n : Int} {s : ByteArray} (h : u.heap[H]? = some (BX k n s)) :
    u.cell? ⟨H, 0, none⟩ = some (.int .i64 k) ∧ u.cell? ⟨H, 1, none⟩ = some (.int .i64 n) ∧ u.cell? ⟨H, 2, none⟩ = some (.string s) :=
  ⟨cell_of_row _ _ 0 _ _ _ h, cell_of_row _ _ 1 _ _ _ h, cell_of_row _ _ 2 _ _ _ h⟩
theorem bx_free {u : World} {H : Nat} {k n : Int} {s : ByteArray} (h : u.heap[H]? = some (BX k n s)) :
    u.frozen? ⟨H, 0, none⟩ = false ∧ u.frozen? ⟨H, 1, none⟩ = false ∧ u.frozen? ⟨H, 2, none⟩ = false :=
  ⟨frozen_of_row _ _ 0 _ _ h, frozen_of_row _ _ 1 _ _ h, frozen_of_row _ _ 2 _ _ h⟩
end Go.Proofs.Ytbhilmgpmebaiaa
namespace Go.Proofs.Ytbhilmgpmebaiaa
open Go.RowKit
attribute [local go_sem ↓] eql32_eq neq32_eq
end Go.Proofs.Ytbhilmgpmebaiaa
