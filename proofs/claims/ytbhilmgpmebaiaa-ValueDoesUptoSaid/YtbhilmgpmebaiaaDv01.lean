import Derived.Test.YtbhilmgpmebaiaaDv00
import Derived.LoopN
namespace Go.Proofs.Ytbhilmgpmebaiaa
open Go.RowKit
def okK (k a : Int) : Bool := decide (a = k ∨ a = 0)
theorem okK_t1 (k : Int) : okK k k = true := by simp [okK]
theorem okK_t2 (k : Int) : okK k 0 = true := by simp [okK]
theorem okK_f {k a : Int} (h1 : a ≠ k) (h2 : a ≠ 0) : okK k a = false := by simp [okK, h1, h2]
theorem allOf1_any (k a : Int) (H : Nat) (T : TypeId) (w : World) (h : w.heap[H]? = some (.cells #[.int .i64 a] T (0, 0))) :
    Calls Try.prog 55 #[.int .i64 k, .slice (some ⟨H, 0, none⟩) 1 1] w fun e w' => e = .returned (.bool (okK k a)) ∧ w' = w := by
  have c0 := (cell_of_row _ H 0 _ _ _ h).trans (show (#[Value.int .i64 a] : Array Value)[0]? = some (.int .i64 a) from rfl)
  clear h
  by_cases h1 : a = k
  · subst h1
    rw [okK_t1]
    go_enter Try.func55, Try.ntmps55
    go_wp2_with fail
    refine wp_loop_rounds 2 ?_
    rw [rounds_succ]; go_wp2_with fail
    rw [rounds_succ]; go_wp2_with fail
    go_ret
    exact ⟨rfl, rfl⟩
  by_cases h2 : a = 0
  · subst h2
    rw [okK_t2]
    have g1 : (0 == k) = false := beq_false_of_ne h1
    go_enter Try.func55, Try.ntmps55
    go_wp2_with fail
    refine wp_loop_rounds 2 ?_
    rw [rounds_succ]; go_wp2_with fail
    rw [rounds_succ]; go_wp2_with fail
    go_ret
    exact ⟨rfl, rfl⟩
  · rw [okK_f h1 h2]
    have g1 : (a != k) = true := bne_iff_ne.2 h1
    have g2 : (a != 0) = true := bne_iff_ne.2 h2
    go_enter Try.func55, Try.ntmps55
    go_wp2_with fail
    refine wp_loop_rounds 2 ?_
    rw [rounds_succ]; go_wp2_with fail
    go_ret
    exact ⟨rfl, rfl⟩

theorem allOf2_any (k a b : Int) (H : Nat) (T : TypeId) (w : World) (h : w.heap[H]? = some (.cells #[.int .i64 a, .int .i64 b] T (0, 0))) :
    Calls Try.prog 55 #[.int .i64 k, .slice (some ⟨H, 0, none⟩) 2 2] w fun e w' => e = .returned (.bool (okK k a && okK k b)) ∧ w' = w := by
  have c0 := (cell_of_row _ H 0 _ _ _ h).trans (show (#[Value.int .i64 a, .int .i64 b] : Array Value)[0]? = some (.int .i64 a) from rfl)
  have c1 := (cell_of_row _ H 1 _ _ _ h).trans (show (#[Value.int .i64 a, .int .i64 b] : Array Value)[1]? = some (.int .i64 b) from rfl)
  clear h
  by_cases hA1 : a = k
  · subst hA1
    rw [okK_t1, Bool.true_and]
    by_cases h1 : b = a
    · subst h1
      rw [okK_t1]
      go_enter Try.func55, Try.ntmps55
      go_wp2_with fail
      refine wp_loop_rounds 3 ?_
      rw [rounds_succ]; go_wp2_with fail
      rw [rounds_succ]; go_wp2_with fail
      rw [rounds_succ]; go_wp2_with fail
      go_ret
      exact ⟨rfl, rfl⟩
    by_cases h2 : b = 0
    · subst h2
      rw [okK_t2]
      have g1 : (0 == a) = false := beq_false_of_ne h1
      go_enter Try.func55, Try.ntmps55
      go_wp2_with fail
      refine wp_loop_rounds 3 ?_
      rw [rounds_succ]; go_wp2_with fail
      rw [rounds_succ]; go_wp2_with fail
      rw [rounds_succ]; go_wp2_with fail
      go_ret
      exact ⟨rfl, rfl⟩
    · rw [okK_f h1 h2]
      have g1 : (b != a) = true := bne_iff_ne.2 h1
      have g2 : (b != 0) = true := bne_iff_ne.2 h2
      go_enter Try.func55, Try.ntmps55
      go_wp2_with fail
      refine wp_loop_rounds 3 ?_
      rw [rounds_succ]; go_wp2_with fail
      rw [rounds_succ]; go_wp2_with fail
      go_ret
      exact ⟨rfl, rfl⟩
  by_cases hA2 : a = 0
  · subst hA2
    have g0 : (0 == k) = false := beq_false_of_ne hA1
    rw [okK_t2, Bool.true_and]
    by_cases h1 : b = k
    · subst h1
      rw [okK_t1]
      go_enter Try.func55, Try.ntmps55
      go_wp2_with fail
      refine wp_loop_rounds 3 ?_
      rw [rounds_succ]; go_wp2_with fail
      rw [rounds_succ]; go_wp2_with fail
      rw [rounds_succ]; go_wp2_with fail
      go_ret
      exact ⟨rfl, rfl⟩
    by_cases h2 : b = 0
    · subst h2
      rw [okK_t2]
      go_enter Try.func55, Try.ntmps55
      go_wp2_with fail
      refine wp_loop_rounds 3 ?_
      rw [rounds_succ]; go_wp2_with fail
      rw [rounds_succ]; go_wp2_with fail
      rw [rounds_succ]; go_wp2_with fail
      go_ret
      exact ⟨rfl, rfl⟩
    · rw [okK_f h1 h2]
      have g1 : (b != k) = true := bne_iff_ne.2 h1
      have g2 : (b != 0) = true := bne_iff_ne.2 h2
      go_enter Try.func55, Try.ntmps55
      go_wp2_with fail
      refine wp_loop_rounds 3 ?_
      rw [rounds_succ]; go_wp2_with fail
      rw [rounds_succ]; go_wp2_with fail
      go_ret
      exact ⟨rfl, rfl⟩
  · rw [okK_f hA1 hA2, Bool.false_and]
    have g1 : (a != k) = true := bne_iff_ne.2 hA1
    have g2 : (a != 0) = true := bne_iff_ne.2 hA2
    go_enter Try.func55, Try.ntmps55
    go_wp2_with fail
    refine wp_loop_rounds 3 ?_
    rw [rounds_succ]; go_wp2_with fail
    go_ret
    exact ⟨rfl, rfl⟩

def orI (a b c : Int) : Int := if a ≠ 0 then a else if b ≠ 0 then b else c
theorem or_any (a b c : Int) (H : Nat) (T : TypeId) (w : World) (h : w.heap[H]? = some (.cells #[.int .i64 a, .int .i64 b, .int .i64 c] T (0, 0))) :
    Calls Try.prog 81 #[.slice (some ⟨H, 0, none⟩) 3 3] w fun e w' => e = .returned (.int .i64 (orI a b c)) ∧ w' = w := by
  have c0 := (cell_of_row _ H 0 _ _ _ h).trans (show (#[Value.int .i64 a, .int .i64 b, .int .i64 c] : Array Value)[0]? = some (.int .i64 a) from rfl)
  have c1 := (cell_of_row _ H 1 _ _ _ h).trans (show (#[Value.int .i64 a, .int .i64 b, .int .i64 c] : Array Value)[1]? = some (.int .i64 b) from rfl)
  have c2 := (cell_of_row _ H 2 _ _ _ h).trans (show (#[Value.int .i64 a, .int .i64 b, .int .i64 c] : Array Value)[2]? = some (.int .i64 c) from rfl)
  clear h
  by_cases h1 : a = 0
  · subst h1
    by_cases h2 : b = 0
    · subst h2
      rw [show orI 0 0 c = c by simp [orI]]
      by_cases h3 : c = 0
      · subst h3
        go_enter Try.func81, Try.ntmps81
        go_wp2_with fail
        refine wp_loop_rounds 4 ?_
        rw [rounds_succ]; go_wp2_with fail
        rw [rounds_succ]; go_wp2_with fail
        rw [rounds_succ]; go_wp2_with fail
        rw [rounds_succ]; go_wp2_with fail
        go_ret
        exact ⟨rfl, rfl⟩
      · have g1 : (c != 0) = true := bne_iff_ne.2 h3
        go_enter Try.func81, Try.ntmps81
        go_wp2_with fail
        refine wp_loop_rounds 4 ?_
        rw [rounds_succ]; go_wp2_with fail
        rw [rounds_succ]; go_wp2_with fail
        rw [rounds_succ]; go_wp2_with fail
        go_ret
        exact ⟨rfl, rfl⟩
    · rw [show orI 0 b c = b by simp [orI, h2]]
      have g1 : (b != 0) = true := bne_iff_ne.2 h2
      go_enter Try.func81, Try.ntmps81
      go_wp2_with fail
      refine wp_loop_rounds 4 ?_
      rw [rounds_succ]; go_wp2_with fail
      rw [rounds_succ]; go_wp2_with fail
      go_ret
      exact ⟨rfl, rfl⟩
  · rw [show orI a b c = a by simp [orI, h1]]
    have g1 : (a != 0) = true := bne_iff_ne.2 h1
    go_enter Try.func81, Try.ntmps81
    go_wp2_with fail
    refine wp_loop_rounds 4 ?_
    rw [rounds_succ]; go_wp2_with fail
    go_ret
    exact ⟨rfl, rfl⟩

end Go.Proofs.Ytbhilmgpmebaiaa
namespace Go.Proofs.Ytbhilmgpmebaiaa
open Go.RowKit
theorem hp_al {w : World} {H : Nat} {x : Obj} (h : w.heap[H]? = some x) (o : Obj) : (w.alloc o).heap[H]? = some x := by
  have hl : H < w.heap.size := by rcases Nat.lt_or_ge H w.heap.size with h' | h'; exact h'; rw [Array.getElem?_eq_none h'] at h; cases h
  show (w.heap.push o)[H]? = _
  rw [Array.getElem?_push_lt hl, ← Array.getElem?_eq_getElem hl]; exact h
theorem hp_three (w : World) (a b c : Obj) : (((w.alloc a).alloc b).alloc c).drew.heap[w.heap.size + 1 + 1]? = some c := by
  show (((w.alloc a).alloc b).alloc c).heap[w.heap.size + 1 + 1]? = some c
  have := heap_alloc_new ((w.alloc a).alloc b) c
  simpa using this
def ordV (x y : Val) : Int := orI (sgI x.k y.k) (sgI x.n y.n) (cmpI x.s y.s)
/-- both operands' boxes -/
def Two (w u : World) (x y : Val) : Prop := u.heap[w.heap.size]? = some (BX x.k x.n (str x.s)) ∧ u.heap[w.heap.size + 1]? = some (BX y.k y.n (str y.s)) ∧ Below w.heap.size w u
theorem Two.al {w u : World} {x y : Val} (h : Two w u x y) (o : Obj) : Two w (u.alloc o) x y := ⟨hp_al h.1 o, hp_al h.2.1 o, bl_al h.2.2 o⟩
theorem Two.drew {w u : World} {x y : Val} (h : Two w u x y) : Two w u.drew x y := ⟨h.1, h.2.1, h.2.2.drew⟩
theorem Two.below {w u v : World} {x y : Val} (h : Two w u x y) (hb : Below u.heap.size u v) : Two w v x y :=
  ⟨(hb.block _ (by rcases Nat.lt_or_ge w.heap.size u.heap.size with h' | h'; exact h'; have := h.1; rw [Array.getElem?_eq_none h'] at this; cases this)).trans h.1,
    (hb.block _ (by rcases Nat.lt_or_ge (w.heap.size + 1) u.heap.size with h' | h'; exact h'; have := h.2.1; rw [Array.getElem?_eq_none h'] at this; cases this)).trans h.2.1, bl_tr h.2.2 hb⟩
theorem two_new (w : World) (x y : Val) : Two w ((w.alloc (BX x.k x.n (str x.s))).alloc (BX y.k y.n (str y.s))) x y :=
  ⟨hp_al (heap_alloc_new _ _) _, by have := heap_alloc_new (w.alloc (BX x.k x.n (str x.s))) (BX y.k y.n (str y.s)); simpa using this, bl_al (bl_al (Below.refl _ _) _) _⟩
set_option maxRecDepth 100000 in
set_option maxHeartbeats 1600000 in
theorem order_any (x y : Val) (w : World) (hx : Rng x.s) (hy : Rng y.s) : Calls Try.prog 50 #[.agg #[.int .i64 x.k, .int .i64 x.n, .string (str x.s)], .agg #[.int .i64 y.k, .int .i64 y.n, .string (str y.s)]] w fun e w' => e = .returned (.int .i64 (ordV x y)) ∧ Below w.heap.size w w' := by
  have HT := Lib.hid (two_new w x y).drew
  go_enter Try.func50, Try.ntmps50
  go_wp2_with fail
  refine wp_region_held_drew (S := fun u => Two w u x y) (by kernel_rfl) (HT.out) (fun hHeld => ?_)
  refine wpAnyH_take (i := 0) (oi := ({ dst := some 5, op := Op.fieldAddr 23 (Operand.tmp 2) 0, type := 0, pos := "value.go:42", after := #[], guard := none } : Oper)) (v := ?_) rfl (by kernel_rfl) (by kernel_rfl) (by kernel_rfl) (fun _ _ _ h => h) (Or.inl ⟨by rfl, ?_⟩) (by assumption) ?_
  rotate_left 1
  · (intro u hSw; go_simp; try with_reducible rfl)
  try simp only [Act.put, List.setIfInBounds_toArray, List.set_cons_zero, List.set_cons_succ]
  refine wpAnyH_take (i := 1) (oi := ({ dst := some 6, op := Op.load 3 (Operand.tmp 5), type := 3, pos := "value.go:42", after := #[{ on := 0, ground := Ground.data }], guard := none } : Oper)) (v := ?_) rfl (by kernel_rfl) (by kernel_rfl) (by kernel_rfl) (fun _ _ _ h => h) (Or.inl ⟨by rfl, ?_⟩) (by assumption) ?_
  rotate_left 1
  · (intro u hSw; have p0 := (cell_of_row u (w.heap.size) 0 _ _ _ hSw.1).trans (show (#[Value.int .i64 x.k, .int .i64 x.n, .string (str x.s)] : Array Value)[0]? = some (.int .i64 x.k) from rfl); have p1 := (cell_of_row u (w.heap.size) 1 _ _ _ hSw.1).trans (show (#[Value.int .i64 x.k, .int .i64 x.n, .string (str x.s)] : Array Value)[1]? = some (.int .i64 x.n) from rfl); have p2 := (cell_of_row u (w.heap.size) 2 _ _ _ hSw.1).trans (show (#[Value.int .i64 x.k, .int .i64 x.n, .string (str x.s)] : Array Value)[2]? = some (.string (str x.s)) from rfl); have q0 := (cell_of_row u (w.heap.size + 1) 0 _ _ _ hSw.2.1).trans (show (#[Value.int .i64 y.k, .int .i64 y.n, .string (str y.s)] : Array Value)[0]? = some (.int .i64 y.k) from rfl); have q1 := (cell_of_row u (w.heap.size + 1) 1 _ _ _ hSw.2.1).trans (show (#[Value.int .i64 y.k, .int .i64 y.n, .string (str y.s)] : Array Value)[1]? = some (.int .i64 y.n) from rfl); have q2 := (cell_of_row u (w.heap.size + 1) 2 _ _ _ hSw.2.1).trans (show (#[Value.int .i64 y.k, .int .i64 y.n, .string (str y.s)] : Array Value)[2]? = some (.string (str y.s)) from rfl); go_simp; try with_reducible rfl)
  try simp only [Act.put, List.setIfInBounds_toArray, List.set_cons_zero, List.set_cons_succ]
  refine wpAnyH_take (i := 2) (oi := ({ dst := some 7, op := Op.fieldAddr 23 (Operand.tmp 3) 0, type := 0, pos := "value.go:42", after := #[], guard := none } : Oper)) (v := ?_) rfl (by kernel_rfl) (by kernel_rfl) (by kernel_rfl) (fun _ _ _ h => h) (Or.inl ⟨by rfl, ?_⟩) (by assumption) ?_
  rotate_left 1
  · (intro u hSw; go_simp; try with_reducible rfl)
  try simp only [Act.put, List.setIfInBounds_toArray, List.set_cons_zero, List.set_cons_succ]
  refine wpAnyH_take (i := 3) (oi := ({ dst := some 8, op := Op.load 3 (Operand.tmp 7), type := 3, pos := "value.go:42", after := #[{ on := 2, ground := Ground.data }], guard := none } : Oper)) (v := ?_) rfl (by kernel_rfl) (by kernel_rfl) (by kernel_rfl) (fun _ _ _ h => h) (Or.inl ⟨by rfl, ?_⟩) (by assumption) ?_
  rotate_left 1
  · (intro u hSw; have p0 := (cell_of_row u (w.heap.size) 0 _ _ _ hSw.1).trans (show (#[Value.int .i64 x.k, .int .i64 x.n, .string (str x.s)] : Array Value)[0]? = some (.int .i64 x.k) from rfl); have p1 := (cell_of_row u (w.heap.size) 1 _ _ _ hSw.1).trans (show (#[Value.int .i64 x.k, .int .i64 x.n, .string (str x.s)] : Array Value)[1]? = some (.int .i64 x.n) from rfl); have p2 := (cell_of_row u (w.heap.size) 2 _ _ _ hSw.1).trans (show (#[Value.int .i64 x.k, .int .i64 x.n, .string (str x.s)] : Array Value)[2]? = some (.string (str x.s)) from rfl); have q0 := (cell_of_row u (w.heap.size + 1) 0 _ _ _ hSw.2.1).trans (show (#[Value.int .i64 y.k, .int .i64 y.n, .string (str y.s)] : Array Value)[0]? = some (.int .i64 y.k) from rfl); have q1 := (cell_of_row u (w.heap.size + 1) 1 _ _ _ hSw.2.1).trans (show (#[Value.int .i64 y.k, .int .i64 y.n, .string (str y.s)] : Array Value)[1]? = some (.int .i64 y.n) from rfl); have q2 := (cell_of_row u (w.heap.size + 1) 2 _ _ _ hSw.2.1).trans (show (#[Value.int .i64 y.k, .int .i64 y.n, .string (str y.s)] : Array Value)[2]? = some (.string (str y.s)) from rfl); go_simp; try with_reducible rfl)
  try simp only [Act.put, List.setIfInBounds_toArray, List.set_cons_zero, List.set_cons_succ]
  refine wpAnyH_take (i := 5) (oi := ({ dst := some 10, op := Op.fieldAddr 23 (Operand.tmp 2) 1, type := 0, pos := "value.go:42", after := #[], guard := none } : Oper)) (v := ?_) rfl (by kernel_rfl) (by kernel_rfl) (by kernel_rfl) (fun _ _ _ h => h) (Or.inl ⟨by rfl, ?_⟩) (by assumption) ?_
  rotate_left 1
  · (intro u hSw; go_simp; try with_reducible rfl)
  try simp only [Act.put, List.setIfInBounds_toArray, List.set_cons_zero, List.set_cons_succ]
  refine wpAnyH_take (i := 6) (oi := ({ dst := some 11, op := Op.load 2 (Operand.tmp 10), type := 2, pos := "value.go:42", after := #[{ on := 5, ground := Ground.data }], guard := none } : Oper)) (v := ?_) rfl (by kernel_rfl) (by kernel_rfl) (by kernel_rfl) (fun _ _ _ h => h) (Or.inl ⟨by rfl, ?_⟩) (by assumption) ?_
  rotate_left 1
  · (intro u hSw; have p0 := (cell_of_row u (w.heap.size) 0 _ _ _ hSw.1).trans (show (#[Value.int .i64 x.k, .int .i64 x.n, .string (str x.s)] : Array Value)[0]? = some (.int .i64 x.k) from rfl); have p1 := (cell_of_row u (w.heap.size) 1 _ _ _ hSw.1).trans (show (#[Value.int .i64 x.k, .int .i64 x.n, .string (str x.s)] : Array Value)[1]? = some (.int .i64 x.n) from rfl); have p2 := (cell_of_row u (w.heap.size) 2 _ _ _ hSw.1).trans (show (#[Value.int .i64 x.k, .int .i64 x.n, .string (str x.s)] : Array Value)[2]? = some (.string (str x.s)) from rfl); have q0 := (cell_of_row u (w.heap.size + 1) 0 _ _ _ hSw.2.1).trans (show (#[Value.int .i64 y.k, .int .i64 y.n, .string (str y.s)] : Array Value)[0]? = some (.int .i64 y.k) from rfl); have q1 := (cell_of_row u (w.heap.size + 1) 1 _ _ _ hSw.2.1).trans (show (#[Value.int .i64 y.k, .int .i64 y.n, .string (str y.s)] : Array Value)[1]? = some (.int .i64 y.n) from rfl); have q2 := (cell_of_row u (w.heap.size + 1) 2 _ _ _ hSw.2.1).trans (show (#[Value.int .i64 y.k, .int .i64 y.n, .string (str y.s)] : Array Value)[2]? = some (.string (str y.s)) from rfl); go_simp; try with_reducible rfl)
  try simp only [Act.put, List.setIfInBounds_toArray, List.set_cons_zero, List.set_cons_succ]
  refine wpAnyH_take (i := 7) (oi := ({ dst := some 12, op := Op.fieldAddr 23 (Operand.tmp 3) 1, type := 0, pos := "value.go:42", after := #[], guard := none } : Oper)) (v := ?_) rfl (by kernel_rfl) (by kernel_rfl) (by kernel_rfl) (fun _ _ _ h => h) (Or.inl ⟨by rfl, ?_⟩) (by assumption) ?_
  rotate_left 1
  · (intro u hSw; go_simp; try with_reducible rfl)
  try simp only [Act.put, List.setIfInBounds_toArray, List.set_cons_zero, List.set_cons_succ]
  refine wpAnyH_take (i := 8) (oi := ({ dst := some 13, op := Op.load 2 (Operand.tmp 12), type := 2, pos := "value.go:42", after := #[{ on := 7, ground := Ground.data }], guard := none } : Oper)) (v := ?_) rfl (by kernel_rfl) (by kernel_rfl) (by kernel_rfl) (fun _ _ _ h => h) (Or.inl ⟨by rfl, ?_⟩) (by assumption) ?_
  rotate_left 1
  · (intro u hSw; have p0 := (cell_of_row u (w.heap.size) 0 _ _ _ hSw.1).trans (show (#[Value.int .i64 x.k, .int .i64 x.n, .string (str x.s)] : Array Value)[0]? = some (.int .i64 x.k) from rfl); have p1 := (cell_of_row u (w.heap.size) 1 _ _ _ hSw.1).trans (show (#[Value.int .i64 x.k, .int .i64 x.n, .string (str x.s)] : Array Value)[1]? = some (.int .i64 x.n) from rfl); have p2 := (cell_of_row u (w.heap.size) 2 _ _ _ hSw.1).trans (show (#[Value.int .i64 x.k, .int .i64 x.n, .string (str x.s)] : Array Value)[2]? = some (.string (str x.s)) from rfl); have q0 := (cell_of_row u (w.heap.size + 1) 0 _ _ _ hSw.2.1).trans (show (#[Value.int .i64 y.k, .int .i64 y.n, .string (str y.s)] : Array Value)[0]? = some (.int .i64 y.k) from rfl); have q1 := (cell_of_row u (w.heap.size + 1) 1 _ _ _ hSw.2.1).trans (show (#[Value.int .i64 y.k, .int .i64 y.n, .string (str y.s)] : Array Value)[1]? = some (.int .i64 y.n) from rfl); have q2 := (cell_of_row u (w.heap.size + 1) 2 _ _ _ hSw.2.1).trans (show (#[Value.int .i64 y.k, .int .i64 y.n, .string (str y.s)] : Array Value)[2]? = some (.string (str y.s)) from rfl); go_simp; try with_reducible rfl)
  try simp only [Act.put, List.setIfInBounds_toArray, List.set_cons_zero, List.set_cons_succ]
  refine wpAnyH_take (i := 10) (oi := ({ dst := some 15, op := Op.fieldAddr 23 (Operand.tmp 2) 2, type := 0, pos := "value.go:42", after := #[], guard := none } : Oper)) (v := ?_) rfl (by kernel_rfl) (by kernel_rfl) (by kernel_rfl) (fun _ _ _ h => h) (Or.inl ⟨by rfl, ?_⟩) (by assumption) ?_
  rotate_left 1
  · (intro u hSw; go_simp; try with_reducible rfl)
  try simp only [Act.put, List.setIfInBounds_toArray, List.set_cons_zero, List.set_cons_succ]
  refine wpAnyH_take (i := 11) (oi := ({ dst := some 16, op := Op.load 9 (Operand.tmp 15), type := 9, pos := "value.go:42", after := #[{ on := 10, ground := Ground.data }], guard := none } : Oper)) (v := ?_) rfl (by kernel_rfl) (by kernel_rfl) (by kernel_rfl) (fun _ _ _ h => h) (Or.inl ⟨by rfl, ?_⟩) (by assumption) ?_
  rotate_left 1
  · (intro u hSw; have p0 := (cell_of_row u (w.heap.size) 0 _ _ _ hSw.1).trans (show (#[Value.int .i64 x.k, .int .i64 x.n, .string (str x.s)] : Array Value)[0]? = some (.int .i64 x.k) from rfl); have p1 := (cell_of_row u (w.heap.size) 1 _ _ _ hSw.1).trans (show (#[Value.int .i64 x.k, .int .i64 x.n, .string (str x.s)] : Array Value)[1]? = some (.int .i64 x.n) from rfl); have p2 := (cell_of_row u (w.heap.size) 2 _ _ _ hSw.1).trans (show (#[Value.int .i64 x.k, .int .i64 x.n, .string (str x.s)] : Array Value)[2]? = some (.string (str x.s)) from rfl); have q0 := (cell_of_row u (w.heap.size + 1) 0 _ _ _ hSw.2.1).trans (show (#[Value.int .i64 y.k, .int .i64 y.n, .string (str y.s)] : Array Value)[0]? = some (.int .i64 y.k) from rfl); have q1 := (cell_of_row u (w.heap.size + 1) 1 _ _ _ hSw.2.1).trans (show (#[Value.int .i64 y.k, .int .i64 y.n, .string (str y.s)] : Array Value)[1]? = some (.int .i64 y.n) from rfl); have q2 := (cell_of_row u (w.heap.size + 1) 2 _ _ _ hSw.2.1).trans (show (#[Value.int .i64 y.k, .int .i64 y.n, .string (str y.s)] : Array Value)[2]? = some (.string (str y.s)) from rfl); go_simp; try with_reducible rfl)
  try simp only [Act.put, List.setIfInBounds_toArray, List.set_cons_zero, List.set_cons_succ]
  refine wpAnyH_take (i := 12) (oi := ({ dst := some 17, op := Op.fieldAddr 23 (Operand.tmp 3) 2, type := 0, pos := "value.go:42", after := #[], guard := none } : Oper)) (v := ?_) rfl (by kernel_rfl) (by kernel_rfl) (by kernel_rfl) (fun _ _ _ h => h) (Or.inl ⟨by rfl, ?_⟩) (by assumption) ?_
  rotate_left 1
  · (intro u hSw; go_simp; try with_reducible rfl)
  try simp only [Act.put, List.setIfInBounds_toArray, List.set_cons_zero, List.set_cons_succ]
  refine wpAnyH_take (i := 13) (oi := ({ dst := some 18, op := Op.load 9 (Operand.tmp 17), type := 9, pos := "value.go:42", after := #[{ on := 12, ground := Ground.data }], guard := none } : Oper)) (v := ?_) rfl (by kernel_rfl) (by kernel_rfl) (by kernel_rfl) (fun _ _ _ h => h) (Or.inl ⟨by rfl, ?_⟩) (by assumption) ?_
  rotate_left 1
  · (intro u hSw; have p0 := (cell_of_row u (w.heap.size) 0 _ _ _ hSw.1).trans (show (#[Value.int .i64 x.k, .int .i64 x.n, .string (str x.s)] : Array Value)[0]? = some (.int .i64 x.k) from rfl); have p1 := (cell_of_row u (w.heap.size) 1 _ _ _ hSw.1).trans (show (#[Value.int .i64 x.k, .int .i64 x.n, .string (str x.s)] : Array Value)[1]? = some (.int .i64 x.n) from rfl); have p2 := (cell_of_row u (w.heap.size) 2 _ _ _ hSw.1).trans (show (#[Value.int .i64 x.k, .int .i64 x.n, .string (str x.s)] : Array Value)[2]? = some (.string (str x.s)) from rfl); have q0 := (cell_of_row u (w.heap.size + 1) 0 _ _ _ hSw.2.1).trans (show (#[Value.int .i64 y.k, .int .i64 y.n, .string (str y.s)] : Array Value)[0]? = some (.int .i64 y.k) from rfl); have q1 := (cell_of_row u (w.heap.size + 1) 1 _ _ _ hSw.2.1).trans (show (#[Value.int .i64 y.k, .int .i64 y.n, .string (str y.s)] : Array Value)[1]? = some (.int .i64 y.n) from rfl); have q2 := (cell_of_row u (w.heap.size + 1) 2 _ _ _ hSw.2.1).trans (show (#[Value.int .i64 y.k, .int .i64 y.n, .string (str y.s)] : Array Value)[2]? = some (.string (str y.s)) from rfl); go_simp; try with_reducible rfl)
  try simp only [Act.put, List.setIfInBounds_toArray, List.set_cons_zero, List.set_cons_succ]
  refine wpAnyH_ready (rs := [4]) (by kernel_rfl) (by simp) ?_
  refine AllReadyH.cons (o := ({ dst := some 9, op := Op.call { callee := Callee.value (Operand.func 82), args := #[Operand.tmp 6, Operand.tmp 8], argTypes := #[3, 3] }, type := 3, pos := "value.go:42", after := #[{ on := 1, ground := Ground.data }, { on := 3, ground := Ground.data }], guard := none } : Oper)) rfl (fun K hK => ?_) AllReadyH.nil
  go_simp
  go_at_call 82
  refine (cmpInt_any _ _ _).mono ?_
  rintro e w' ⟨rfl, rfl⟩
  go_wp2_with fail
  refine hK.out _ _ hHeld (fun hHeld => ?_)
  clear hK K
  try simp only [Act.put, List.setIfInBounds_toArray, List.set_cons_zero, List.set_cons_succ]
  refine wpAnyH_ready (rs := [9]) (by kernel_rfl) (by simp) ?_
  refine AllReadyH.cons (o := ({ dst := some 14, op := Op.call { callee := Callee.value (Operand.func 83), args := #[Operand.tmp 11, Operand.tmp 13], argTypes := #[2, 2] }, type := 3, pos := "value.go:42", after := #[{ on := 6, ground := Ground.data }, { on := 8, ground := Ground.data }, { on := 4, ground := Ground.chain }], guard := none } : Oper)) rfl (fun K hK => ?_) AllReadyH.nil
  go_simp
  go_at_call 83
  refine (cmpI64_any _ _ _).mono ?_
  rintro e w' ⟨rfl, rfl⟩
  go_wp2_with fail
  refine hK.out _ _ hHeld (fun hHeld => ?_)
  clear hK K
  try simp only [Act.put, List.setIfInBounds_toArray, List.set_cons_zero, List.set_cons_succ]
  refine wpAnyH_ready (rs := [14]) (by kernel_rfl) (by simp) ?_
  refine AllReadyH.cons (o := ({ dst := some 19, op := Op.call { callee := Callee.value (Operand.func 84), args := #[Operand.tmp 16, Operand.tmp 18], argTypes := #[9, 9] }, type := 3, pos := "value.go:42", after := #[{ on := 11, ground := Ground.data }, { on := 13, ground := Ground.data }, { on := 9, ground := Ground.chain }], guard := none } : Oper)) rfl (fun K hK => ?_) AllReadyH.nil
  go_simp
  go_at_call 84
  refine (cmpStr_any _ _ _ hx hy).mono ?_
  rintro e w' ⟨rfl, rfl⟩
  go_wp2_with fail
  refine hK.out _ _ hHeld (fun hHeld => ?_)
  clear hK K
  try simp only [Act.put, List.setIfInBounds_toArray, List.set_cons_zero, List.set_cons_succ]
  refine wpAnyH_ready (rs := [15]) (by kernel_rfl) (by simp) ?_
  refine AllReadyH.cons (o := ({ dst := some 20, op := Op.buildSlice 84 3 #[(0, Operand.tmp 9), (1, Operand.tmp 14), (2, Operand.tmp 19)], type := 84, pos := "value.go:42", after := #[{ on := 4, ground := Ground.data }, { on := 9, ground := Ground.data }, { on := 14, ground := Ground.data }], guard := none } : Oper)) rfl (fun K hK => ?_) AllReadyH.nil
  go_simp
  refine hK.out _ _ (hHeld.al _) (fun hHeld => ?_)
  clear hK K
  try simp only [Act.put, List.setIfInBounds_toArray, List.set_cons_zero, List.set_cons_succ]
  refine wpAnyH_ready (rs := [16]) (by kernel_rfl) (by simp) ?_
  refine AllReadyH.cons (o := ({ dst := some 21, op := Op.call { callee := Callee.value (Operand.func 81), args := #[Operand.tmp 20], argTypes := #[84] }, type := 3, pos := "value.go:42", after := #[{ on := 15, ground := Ground.data }, { on := 14, ground := Ground.chain }], guard := none } : Oper)) rfl (fun K hK => ?_) AllReadyH.nil
  go_simp
  go_at_call 81
  refine (or_any _ _ _ _ _ _ (hp_three w _ _ _)).mono ?_
  rintro e w' ⟨rfl, rfl⟩
  go_wp2_with fail
  refine hK.out _ _ hHeld (fun hHeld => ?_)
  clear hK K
  try simp only [Act.put, List.setIfInBounds_toArray, List.set_cons_zero, List.set_cons_succ]
  refine wpAnyH_take (i := 17) (oi := ({ dst := some 4, op := Op.assign (Operand.tmp 21), type := 3, pos := "value.go:42", after := #[{ on := 16, ground := Ground.data }, { on := 16, ground := Ground.chain }, { on := 0, ground := Ground.phase }, { on := 1, ground := Ground.phase }, { on := 2, ground := Ground.phase }, { on := 3, ground := Ground.phase }, { on := 4, ground := Ground.phase }, { on := 5, ground := Ground.phase }, { on := 6, ground := Ground.phase }, { on := 7, ground := Ground.phase }, { on := 8, ground := Ground.phase }, { on := 9, ground := Ground.phase }, { on := 10, ground := Ground.phase }, { on := 11, ground := Ground.phase }, { on := 12, ground := Ground.phase }, { on := 13, ground := Ground.phase }, { on := 14, ground := Ground.phase }, { on := 15, ground := Ground.phase }, { on := 16, ground := Ground.phase }], guard := none } : Oper)) (v := ?_) rfl (by kernel_rfl) (by kernel_rfl) (by kernel_rfl) (fun _ _ _ h => h) (Or.inl ⟨by rfl, ?_⟩) (by assumption) ?_
  rotate_left 1
  · (intro u hSw; go_simp; try with_reducible rfl)
  try simp only [Act.put, List.setIfInBounds_toArray, List.set_cons_zero, List.set_cons_succ]
  refine wpAnyH_done (by kernel_rfl) ?_ _
  go_wp2_with fail
  go_ret
  exact ⟨rfl, hHeld.2.2⟩
end Go.Proofs.Ytbhilmgpmebaiaa
namespace Go.Proofs.Ytbhilmgpmebaiaa
open Go.RowKit
attribute [local go_sem ↓] eql32_eq neq32_eq
def cmpV (x y : Val) : Int := ordV (normV x) (normV y)
theorem norm_rng {x : Val} (h : Rng x.s) : Rng (normV x).s := by
  unfold normV; split
  · exact fun x hx => by simp at hx
  split
  · exact h
  split <;> exact fun x hx => by simp at hx
set_option maxRecDepth 100000 in
set_option maxHeartbeats 1600000 in
theorem compare_any (x y : Val) (w : World) (hx : Rng x.s) (hy : Rng y.s) : Calls Try.prog 18 #[.agg #[.int .i64 x.k, .int .i64 x.n, .string (str x.s)], .agg #[.int .i64 y.k, .int .i64 y.n, .string (str y.s)]] w fun e w' => e = .returned (.int .i64 (cmpV x y)) ∧ Below w.heap.size w w' := by
  have HT := Lib.hid (two_new w x y).drew
  go_enter Try.func18, Try.ntmps18
  go_wp2_with fail
  refine wp_region_held_drew (S := fun u => Two w u x y) (by kernel_rfl) (HT.out) (fun hHeld => ?_)
  refine wpAnyH_take (i := 0) (oi := ({ dst := some 5, op := Op.load 23 (Operand.tmp 2), type := 23, pos := "value.go:19", after := #[], guard := none } : Oper)) (v := ?_) rfl (by kernel_rfl) (by kernel_rfl) (by kernel_rfl) (fun _ _ _ h => h) (Or.inl ⟨by rfl, ?_⟩) (by assumption) ?_
  rotate_left 1
  · (intro u hSw; have p0 := (cell_of_row u (w.heap.size) 0 _ _ _ hSw.1).trans (show (#[Value.int .i64 x.k, .int .i64 x.n, .string (str x.s)] : Array Value)[0]? = some (.int .i64 x.k) from rfl); have p1 := (cell_of_row u (w.heap.size) 1 _ _ _ hSw.1).trans (show (#[Value.int .i64 x.k, .int .i64 x.n, .string (str x.s)] : Array Value)[1]? = some (.int .i64 x.n) from rfl); have p2 := (cell_of_row u (w.heap.size) 2 _ _ _ hSw.1).trans (show (#[Value.int .i64 x.k, .int .i64 x.n, .string (str x.s)] : Array Value)[2]? = some (.string (str x.s)) from rfl); have q0 := (cell_of_row u (w.heap.size + 1) 0 _ _ _ hSw.2.1).trans (show (#[Value.int .i64 y.k, .int .i64 y.n, .string (str y.s)] : Array Value)[0]? = some (.int .i64 y.k) from rfl); have q1 := (cell_of_row u (w.heap.size + 1) 1 _ _ _ hSw.2.1).trans (show (#[Value.int .i64 y.k, .int .i64 y.n, .string (str y.s)] : Array Value)[1]? = some (.int .i64 y.n) from rfl); have q2 := (cell_of_row u (w.heap.size + 1) 2 _ _ _ hSw.2.1).trans (show (#[Value.int .i64 y.k, .int .i64 y.n, .string (str y.s)] : Array Value)[2]? = some (.string (str y.s)) from rfl); go_simp; try with_reducible rfl)
  try simp only [Act.put, List.setIfInBounds_toArray, List.set_cons_zero, List.set_cons_succ]
  refine wpAnyH_take (i := 2) (oi := ({ dst := some 7, op := Op.load 23 (Operand.tmp 3), type := 23, pos := "value.go:19", after := #[], guard := none } : Oper)) (v := ?_) rfl (by kernel_rfl) (by kernel_rfl) (by kernel_rfl) (fun _ _ _ h => h) (Or.inl ⟨by rfl, ?_⟩) (by assumption) ?_
  rotate_left 1
  · (intro u hSw; have p0 := (cell_of_row u (w.heap.size) 0 _ _ _ hSw.1).trans (show (#[Value.int .i64 x.k, .int .i64 x.n, .string (str x.s)] : Array Value)[0]? = some (.int .i64 x.k) from rfl); have p1 := (cell_of_row u (w.heap.size) 1 _ _ _ hSw.1).trans (show (#[Value.int .i64 x.k, .int .i64 x.n, .string (str x.s)] : Array Value)[1]? = some (.int .i64 x.n) from rfl); have p2 := (cell_of_row u (w.heap.size) 2 _ _ _ hSw.1).trans (show (#[Value.int .i64 x.k, .int .i64 x.n, .string (str x.s)] : Array Value)[2]? = some (.string (str x.s)) from rfl); have q0 := (cell_of_row u (w.heap.size + 1) 0 _ _ _ hSw.2.1).trans (show (#[Value.int .i64 y.k, .int .i64 y.n, .string (str y.s)] : Array Value)[0]? = some (.int .i64 y.k) from rfl); have q1 := (cell_of_row u (w.heap.size + 1) 1 _ _ _ hSw.2.1).trans (show (#[Value.int .i64 y.k, .int .i64 y.n, .string (str y.s)] : Array Value)[1]? = some (.int .i64 y.n) from rfl); have q2 := (cell_of_row u (w.heap.size + 1) 2 _ _ _ hSw.2.1).trans (show (#[Value.int .i64 y.k, .int .i64 y.n, .string (str y.s)] : Array Value)[2]? = some (.string (str y.s)) from rfl); go_simp; try with_reducible rfl)
  try simp only [Act.put, List.setIfInBounds_toArray, List.set_cons_zero, List.set_cons_succ]
  refine wpAnyH_ready (rs := [1]) (by kernel_rfl) (by simp) ?_
  refine AllReadyH.cons (o := ({ dst := some 6, op := Op.call { callee := Callee.value (Operand.func 30), args := #[Operand.tmp 5], argTypes := #[23] }, type := 23, pos := "value.go:19", after := #[{ on := 0, ground := Ground.data }], guard := none } : Oper)) rfl (fun K hK => ?_) AllReadyH.nil
  go_simp
  go_at_call 30
  refine (plain_any x _).mono ?_
  rintro e w' ⟨rfl, hb⟩
  go_wp2_with fail
  refine hK.out _ _ (hHeld.below hb) (fun hHeld => ?_)
  clear hK K
  try simp only [Act.put, List.setIfInBounds_toArray, List.set_cons_zero, List.set_cons_succ]
  refine wpAnyH_ready (rs := [3]) (by kernel_rfl) (by simp) ?_
  refine AllReadyH.cons (o := ({ dst := some 8, op := Op.call { callee := Callee.value (Operand.func 30), args := #[Operand.tmp 7], argTypes := #[23] }, type := 23, pos := "value.go:19", after := #[{ on := 2, ground := Ground.data }, { on := 1, ground := Ground.chain }], guard := none } : Oper)) rfl (fun K hK => ?_) AllReadyH.nil
  go_simp
  go_at_call 30
  refine (plain_any y _).mono ?_
  rintro e w' ⟨rfl, hb⟩
  go_wp2_with fail
  refine hK.out _ _ (hHeld.below hb) (fun hHeld => ?_)
  clear hK K
  try simp only [Act.put, List.setIfInBounds_toArray, List.set_cons_zero, List.set_cons_succ]
  refine wpAnyH_ready (rs := [4]) (by kernel_rfl) (by simp) ?_
  refine AllReadyH.cons (o := ({ dst := some 9, op := Op.call { callee := Callee.value (Operand.func 50), args := #[Operand.tmp 6, Operand.tmp 8], argTypes := #[23, 23] }, type := 3, pos := "value.go:19", after := #[{ on := 1, ground := Ground.data }, { on := 3, ground := Ground.data }, { on := 3, ground := Ground.chain }], guard := none } : Oper)) rfl (fun K hK => ?_) AllReadyH.nil
  go_simp
  go_at_call 50
  refine (order_any (normV x) (normV y) _ (norm_rng hx) (norm_rng hy)).mono ?_
  rintro e w' ⟨rfl, hb⟩
  go_wp2_with fail
  refine hK.out _ _ (hHeld.below hb) (fun hHeld => ?_)
  clear hK K
  try simp only [Act.put, List.setIfInBounds_toArray, List.set_cons_zero, List.set_cons_succ]
  refine wpAnyH_take (i := 5) (oi := ({ dst := some 4, op := Op.assign (Operand.tmp 9), type := 3, pos := "value.go:19", after := #[{ on := 4, ground := Ground.data }, { on := 4, ground := Ground.chain }, { on := 0, ground := Ground.phase }, { on := 1, ground := Ground.phase }, { on := 2, ground := Ground.phase }, { on := 3, ground := Ground.phase }, { on := 4, ground := Ground.phase }], guard := none } : Oper)) (v := ?_) rfl (by kernel_rfl) (by kernel_rfl) (by kernel_rfl) (fun _ _ _ h => h) (Or.inl ⟨by rfl, ?_⟩) (by assumption) ?_
  rotate_left 1
  · (intro u hSw; go_simp; try with_reducible rfl)
  try simp only [Act.put, List.setIfInBounds_toArray, List.set_cons_zero, List.set_cons_succ]
  refine wpAnyH_done (by kernel_rfl) ?_ _
  go_wp2_with fail
  go_ret
  exact ⟨rfl, hHeld.2.2⟩
def One (w u : World) (x : Val) : Prop := u.heap[w.heap.size]? = some (BX x.k x.n (str x.s)) ∧ Below w.heap.size w u
theorem One.al {w u : World} {x : Val} (h : One w u x) (o : Obj) : One w (u.alloc o) x := ⟨hp_al h.1 o, bl_al h.2 o⟩
theorem One.drew {w u : World} {x : Val} (h : One w u x) : One w u.drew x := ⟨h.1, h.2.drew⟩
theorem One.below {w u v : World} {x : Val} (h : One w u x) (hb : Below u.heap.size u v) : One w v x :=
  ⟨(hb.block _ (by rcases Nat.lt_or_ge w.heap.size u.heap.size with h' | h'; exact h'; have := h.1; rw [Array.getElem?_eq_none h'] at this; cases this)).trans h.1, bl_tr h.2 hb⟩
theorem one_new (w : World) (x : Val) : One w (w.alloc (BX x.k x.n (str x.s))) x := ⟨heap_alloc_new _ _, bl_al (Below.refl _ _) _⟩
def mayV (x : Val) : Bool := decide (normV x = x) && decide (x.s.length ≤ 64)
set_option maxRecDepth 100000 in
set_option maxHeartbeats 1600000 in
theorem may_any (x : Val) (w : World) (hx : Rng x.s) : Calls Try.prog 20 #[.agg #[.int .i64 x.k, .int .i64 x.n, .string (str x.s)]] w fun e w' => e = .returned (.bool (mayV x)) ∧ Below w.heap.size w w' := by
  have HT := Lib.hid (one_new w x).drew
  have hl := str_len x.s
  by_cases hn : normV x = x
  · have he := fun (u : World) => run_eql32 u x (normV x) hx (norm_rng hx)
    simp only [show decide (x = normV x) = true from decide_eq_true hn.symm] at he
    rw [show mayV x = decide (x.s.length ≤ 64) by rw [mayV, decide_eq_true hn, Bool.true_and]]
    clear hn
    go_enter Try.func20, Try.ntmps20
    go_wp2_with fail
    refine wp_region_held_drew (S := fun u => One w u x) (by kernel_rfl) (HT.out) (fun hHeld => ?_)
    refine wpAnyH_take (i := 0) (oi := ({ dst := some 3, op := Op.load 23 (Operand.tmp 1), type := 23, pos := "value.go:14", after := #[], guard := none } : Oper)) (v := ?_) rfl (by kernel_rfl) (by kernel_rfl) (by kernel_rfl) (fun _ _ _ h => h) (Or.inl ⟨by rfl, ?_⟩) (by assumption) ?_
    rotate_left 1
    · (intro u hSw; have p0 := (cell_of_row u (w.heap.size) 0 _ _ _ hSw.1).trans (show (#[Value.int .i64 x.k, .int .i64 x.n, .string (str x.s)] : Array Value)[0]? = some (.int .i64 x.k) from rfl); have p1 := (cell_of_row u (w.heap.size) 1 _ _ _ hSw.1).trans (show (#[Value.int .i64 x.k, .int .i64 x.n, .string (str x.s)] : Array Value)[1]? = some (.int .i64 x.n) from rfl); have p2 := (cell_of_row u (w.heap.size) 2 _ _ _ hSw.1).trans (show (#[Value.int .i64 x.k, .int .i64 x.n, .string (str x.s)] : Array Value)[2]? = some (.string (str x.s)) from rfl); go_simp; try with_reducible rfl)
    try simp only [Act.put, List.setIfInBounds_toArray, List.set_cons_zero, List.set_cons_succ]
    refine wpAnyH_take (i := 1) (oi := ({ dst := some 4, op := Op.load 23 (Operand.tmp 1), type := 23, pos := "value.go:14", after := #[], guard := none } : Oper)) (v := ?_) rfl (by kernel_rfl) (by kernel_rfl) (by kernel_rfl) (fun _ _ _ h => h) (Or.inl ⟨by rfl, ?_⟩) (by assumption) ?_
    rotate_left 1
    · (intro u hSw; have p0 := (cell_of_row u (w.heap.size) 0 _ _ _ hSw.1).trans (show (#[Value.int .i64 x.k, .int .i64 x.n, .string (str x.s)] : Array Value)[0]? = some (.int .i64 x.k) from rfl); have p1 := (cell_of_row u (w.heap.size) 1 _ _ _ hSw.1).trans (show (#[Value.int .i64 x.k, .int .i64 x.n, .string (str x.s)] : Array Value)[1]? = some (.int .i64 x.n) from rfl); have p2 := (cell_of_row u (w.heap.size) 2 _ _ _ hSw.1).trans (show (#[Value.int .i64 x.k, .int .i64 x.n, .string (str x.s)] : Array Value)[2]? = some (.string (str x.s)) from rfl); go_simp; try with_reducible rfl)
    try simp only [Act.put, List.setIfInBounds_toArray, List.set_cons_zero, List.set_cons_succ]
    refine wpAnyH_ready (rs := [2]) (by kernel_rfl) (by simp) ?_
    refine AllReadyH.cons (o := ({ dst := some 5, op := Op.call { callee := Callee.value (Operand.func 30), args := #[Operand.tmp 4], argTypes := #[23] }, type := 23, pos := "value.go:14", after := #[{ on := 1, ground := Ground.data }], guard := none } : Oper)) rfl (fun K hK => ?_) AllReadyH.nil
    go_simp
    go_at_call 30
    refine (plain_any x _).mono ?_
    rintro e w' ⟨rfl, hb⟩
    go_wp2_with fail
    refine hK.out _ _ (hHeld.below hb) (fun hHeld => ?_)
    clear hK K
    try simp only [Act.put, List.setIfInBounds_toArray, List.set_cons_zero, List.set_cons_succ]
    refine wpAnyH_take (i := 3) (oi := ({ dst := some 6, op := Op.binOp BinOp.eql 23 (Operand.tmp 3) (Operand.tmp 5) 23, type := 4, pos := "value.go:14", after := #[{ on := 0, ground := Ground.data }, { on := 2, ground := Ground.data }], guard := none } : Oper)) (v := ?_) rfl (by kernel_rfl) (by kernel_rfl) (by kernel_rfl) (fun _ _ _ h => h) (Or.inl ⟨by rfl, ?_⟩) (by assumption) ?_
    rotate_left 1
    · (intro u hSw; go_simp; try with_reducible rfl)
    try simp only [Act.put, List.setIfInBounds_toArray, List.set_cons_zero, List.set_cons_succ]
    refine wpAnyH_take (i := 4) (oi := ({ dst := some 7, op := Op.move (Operand.tmp 6), type := 4, pos := "value.go:14", after := #[{ on := 3, ground := Ground.data }, { on := 2, ground := Ground.chain }], guard := none } : Oper)) (v := ?_) rfl (by kernel_rfl) (by kernel_rfl) (by kernel_rfl) (fun _ _ _ h => h) (Or.inl ⟨by rfl, ?_⟩) (by assumption) ?_
    rotate_left 1
    · (intro u hSw; go_simp; try with_reducible rfl)
    try simp only [Act.put, List.setIfInBounds_toArray, List.set_cons_zero, List.set_cons_succ]
    refine wpAnyH_take (i := 5) (oi := ({ dst := some 8, op := Op.fieldAddr 23 (Operand.tmp 1) 2, type := 0, pos := "value.go:14", after := #[{ on := 4, ground := Ground.guard }], guard := some (4, true) } : Oper)) (v := ?_) rfl (by kernel_rfl) (by kernel_rfl) (by kernel_rfl) (fun _ _ _ h => h) (Or.inl ⟨by rfl, ?_⟩) (by assumption) ?_
    rotate_left 1
    · (intro u hSw; go_simp; try with_reducible rfl)
    try simp only [Act.put, List.setIfInBounds_toArray, List.set_cons_zero, List.set_cons_succ]
    refine wpAnyH_take (i := 6) (oi := ({ dst := some 9, op := Op.load 9 (Operand.tmp 8), type := 9, pos := "value.go:14", after := #[{ on := 5, ground := Ground.data }, { on := 4, ground := Ground.guard }], guard := some (4, true) } : Oper)) (v := ?_) rfl (by kernel_rfl) (by kernel_rfl) (by kernel_rfl) (fun _ _ _ h => h) (Or.inl ⟨by rfl, ?_⟩) (by assumption) ?_
    rotate_left 1
    · (intro u hSw; have p0 := (cell_of_row u (w.heap.size) 0 _ _ _ hSw.1).trans (show (#[Value.int .i64 x.k, .int .i64 x.n, .string (str x.s)] : Array Value)[0]? = some (.int .i64 x.k) from rfl); have p1 := (cell_of_row u (w.heap.size) 1 _ _ _ hSw.1).trans (show (#[Value.int .i64 x.k, .int .i64 x.n, .string (str x.s)] : Array Value)[1]? = some (.int .i64 x.n) from rfl); have p2 := (cell_of_row u (w.heap.size) 2 _ _ _ hSw.1).trans (show (#[Value.int .i64 x.k, .int .i64 x.n, .string (str x.s)] : Array Value)[2]? = some (.string (str x.s)) from rfl); go_simp; try with_reducible rfl)
    try simp only [Act.put, List.setIfInBounds_toArray, List.set_cons_zero, List.set_cons_succ]
    refine wpAnyH_take (i := 7) (oi := ({ dst := some 10, op := Op.call { callee := Callee.builtin Builtin.len, args := #[Operand.tmp 9], argTypes := #[9] }, type := 3, pos := "value.go:14", after := #[{ on := 6, ground := Ground.data }, { on := 4, ground := Ground.guard }], guard := some (4, true) } : Oper)) (v := ?_) rfl (by kernel_rfl) (by kernel_rfl) (by kernel_rfl) (fun _ _ _ h => h) (Or.inl ⟨by rfl, ?_⟩) (by assumption) ?_
    rotate_left 1
    · (intro u hSw; go_simp; try with_reducible rfl)
    try simp only [Act.put, List.setIfInBounds_toArray, List.set_cons_zero, List.set_cons_succ]
    refine wpAnyH_take (i := 8) (oi := ({ dst := some 11, op := Op.binOp BinOp.leq 3 (Operand.tmp 10) (Operand.const (Value.int IntKind.i64 64)) 3, type := 4, pos := "value.go:14", after := #[{ on := 7, ground := Ground.data }, { on := 4, ground := Ground.guard }], guard := some (4, true) } : Oper)) (v := ?_) rfl (by kernel_rfl) (by kernel_rfl) (by kernel_rfl) (fun _ _ _ h => h) (Or.inl ⟨by rfl, ?_⟩) (by assumption) ?_
    rotate_left 1
    · (intro u hSw; go_simp; try with_reducible rfl)
    try simp only [Act.put, List.setIfInBounds_toArray, List.set_cons_zero, List.set_cons_succ]
    refine wpAnyH_take (i := 9) (oi := ({ dst := some 12, op := Op.pick (Operand.tmp 7) (Operand.tmp 11) (Operand.const (Value.bool false)), type := 4, pos := "value.go:14", after := #[{ on := 4, ground := Ground.data }, { on := 8, ground := Ground.data }], guard := none } : Oper)) (v := ?_) rfl (by kernel_rfl) (by kernel_rfl) (by kernel_rfl) (fun _ _ _ h => h) (Or.inl ⟨by rfl, ?_⟩) (by assumption) ?_
    rotate_left 1
    · (intro u hSw; go_simp; try with_reducible rfl)
    try simp only [Act.put, List.setIfInBounds_toArray, List.set_cons_zero, List.set_cons_succ]
    refine wpAnyH_take (i := 10) (oi := ({ dst := some 2, op := Op.assign (Operand.tmp 12), type := 4, pos := "value.go:14", after := #[{ on := 9, ground := Ground.data }, { on := 4, ground := Ground.chain }, { on := 0, ground := Ground.phase }, { on := 1, ground := Ground.phase }, { on := 2, ground := Ground.phase }, { on := 3, ground := Ground.phase }, { on := 4, ground := Ground.phase }, { on := 5, ground := Ground.phase }, { on := 6, ground := Ground.phase }, { on := 7, ground := Ground.phase }, { on := 8, ground := Ground.phase }, { on := 9, ground := Ground.phase }], guard := none } : Oper)) (v := ?_) rfl (by kernel_rfl) (by kernel_rfl) (by kernel_rfl) (fun _ _ _ h => h) (Or.inl ⟨by rfl, ?_⟩) (by assumption) ?_
    rotate_left 1
    · (intro u hSw; go_simp; try with_reducible rfl)
    try simp only [Act.put, List.setIfInBounds_toArray, List.set_cons_zero, List.set_cons_succ]
    refine wpAnyH_done (by kernel_rfl) ?_ _
    go_wp2_with fail
    go_ret
    exact ⟨by simp; omega, hHeld.2⟩
  · have he := fun (u : World) => run_eql32 u x (normV x) hx (norm_rng hx)
    simp only [show decide (x = normV x) = false from decide_eq_false (fun e => hn e.symm)] at he
    rw [show mayV x = false by rw [mayV, decide_eq_false hn, Bool.false_and]]
    clear hn
    go_enter Try.func20, Try.ntmps20
    go_wp2_with fail
    refine wp_region_held_drew (S := fun u => One w u x) (by kernel_rfl) (HT.out) (fun hHeld => ?_)
    refine wpAnyH_take (i := 0) (oi := ({ dst := some 3, op := Op.load 23 (Operand.tmp 1), type := 23, pos := "value.go:14", after := #[], guard := none } : Oper)) (v := ?_) rfl (by kernel_rfl) (by kernel_rfl) (by kernel_rfl) (fun _ _ _ h => h) (Or.inl ⟨by rfl, ?_⟩) (by assumption) ?_
    rotate_left 1
    · (intro u hSw; have p0 := (cell_of_row u (w.heap.size) 0 _ _ _ hSw.1).trans (show (#[Value.int .i64 x.k, .int .i64 x.n, .string (str x.s)] : Array Value)[0]? = some (.int .i64 x.k) from rfl); have p1 := (cell_of_row u (w.heap.size) 1 _ _ _ hSw.1).trans (show (#[Value.int .i64 x.k, .int .i64 x.n, .string (str x.s)] : Array Value)[1]? = some (.int .i64 x.n) from rfl); have p2 := (cell_of_row u (w.heap.size) 2 _ _ _ hSw.1).trans (show (#[Value.int .i64 x.k, .int .i64 x.n, .string (str x.s)] : Array Value)[2]? = some (.string (str x.s)) from rfl); go_simp; try with_reducible rfl)
    try simp only [Act.put, List.setIfInBounds_toArray, List.set_cons_zero, List.set_cons_succ]
    refine wpAnyH_take (i := 1) (oi := ({ dst := some 4, op := Op.load 23 (Operand.tmp 1), type := 23, pos := "value.go:14", after := #[], guard := none } : Oper)) (v := ?_) rfl (by kernel_rfl) (by kernel_rfl) (by kernel_rfl) (fun _ _ _ h => h) (Or.inl ⟨by rfl, ?_⟩) (by assumption) ?_
    rotate_left 1
    · (intro u hSw; have p0 := (cell_of_row u (w.heap.size) 0 _ _ _ hSw.1).trans (show (#[Value.int .i64 x.k, .int .i64 x.n, .string (str x.s)] : Array Value)[0]? = some (.int .i64 x.k) from rfl); have p1 := (cell_of_row u (w.heap.size) 1 _ _ _ hSw.1).trans (show (#[Value.int .i64 x.k, .int .i64 x.n, .string (str x.s)] : Array Value)[1]? = some (.int .i64 x.n) from rfl); have p2 := (cell_of_row u (w.heap.size) 2 _ _ _ hSw.1).trans (show (#[Value.int .i64 x.k, .int .i64 x.n, .string (str x.s)] : Array Value)[2]? = some (.string (str x.s)) from rfl); go_simp; try with_reducible rfl)
    try simp only [Act.put, List.setIfInBounds_toArray, List.set_cons_zero, List.set_cons_succ]
    refine wpAnyH_ready (rs := [2]) (by kernel_rfl) (by simp) ?_
    refine AllReadyH.cons (o := ({ dst := some 5, op := Op.call { callee := Callee.value (Operand.func 30), args := #[Operand.tmp 4], argTypes := #[23] }, type := 23, pos := "value.go:14", after := #[{ on := 1, ground := Ground.data }], guard := none } : Oper)) rfl (fun K hK => ?_) AllReadyH.nil
    go_simp
    go_at_call 30
    refine (plain_any x _).mono ?_
    rintro e w' ⟨rfl, hb⟩
    go_wp2_with fail
    refine hK.out _ _ (hHeld.below hb) (fun hHeld => ?_)
    clear hK K
    try simp only [Act.put, List.setIfInBounds_toArray, List.set_cons_zero, List.set_cons_succ]
    refine wpAnyH_take (i := 3) (oi := ({ dst := some 6, op := Op.binOp BinOp.eql 23 (Operand.tmp 3) (Operand.tmp 5) 23, type := 4, pos := "value.go:14", after := #[{ on := 0, ground := Ground.data }, { on := 2, ground := Ground.data }], guard := none } : Oper)) (v := ?_) rfl (by kernel_rfl) (by kernel_rfl) (by kernel_rfl) (fun _ _ _ h => h) (Or.inl ⟨by rfl, ?_⟩) (by assumption) ?_
    rotate_left 1
    · (intro u hSw; go_simp; try with_reducible rfl)
    try simp only [Act.put, List.setIfInBounds_toArray, List.set_cons_zero, List.set_cons_succ]
    refine wpAnyH_take (i := 4) (oi := ({ dst := some 7, op := Op.move (Operand.tmp 6), type := 4, pos := "value.go:14", after := #[{ on := 3, ground := Ground.data }, { on := 2, ground := Ground.chain }], guard := none } : Oper)) (v := ?_) rfl (by kernel_rfl) (by kernel_rfl) (by kernel_rfl) (fun _ _ _ h => h) (Or.inl ⟨by rfl, ?_⟩) (by assumption) ?_
    rotate_left 1
    · (intro u hSw; go_simp; try with_reducible rfl)
    try simp only [Act.put, List.setIfInBounds_toArray, List.set_cons_zero, List.set_cons_succ]
    refine wpAnyH_take (i := 5) (oi := ({ dst := some 8, op := Op.fieldAddr 23 (Operand.tmp 1) 2, type := 0, pos := "value.go:14", after := #[{ on := 4, ground := Ground.guard }], guard := some (4, true) } : Oper)) (v := undef) rfl (by kernel_rfl) (by kernel_rfl) (by kernel_rfl) (fun _ _ _ h => h) (by exact Or.inr ⟨by rfl, rfl⟩) (by assumption) ?_
    try simp only [Act.put, List.setIfInBounds_toArray, List.set_cons_zero, List.set_cons_succ]
    refine wpAnyH_take (i := 6) (oi := ({ dst := some 9, op := Op.load 9 (Operand.tmp 8), type := 9, pos := "value.go:14", after := #[{ on := 5, ground := Ground.data }, { on := 4, ground := Ground.guard }], guard := some (4, true) } : Oper)) (v := undef) rfl (by kernel_rfl) (by kernel_rfl) (by kernel_rfl) (fun _ _ _ h => h) (by exact Or.inr ⟨by rfl, rfl⟩) (by assumption) ?_
    try simp only [Act.put, List.setIfInBounds_toArray, List.set_cons_zero, List.set_cons_succ]
    refine wpAnyH_take (i := 7) (oi := ({ dst := some 10, op := Op.call { callee := Callee.builtin Builtin.len, args := #[Operand.tmp 9], argTypes := #[9] }, type := 3, pos := "value.go:14", after := #[{ on := 6, ground := Ground.data }, { on := 4, ground := Ground.guard }], guard := some (4, true) } : Oper)) (v := undef) rfl (by kernel_rfl) (by kernel_rfl) (by kernel_rfl) (fun _ _ _ h => h) (by exact Or.inr ⟨by rfl, rfl⟩) (by assumption) ?_
    try simp only [Act.put, List.setIfInBounds_toArray, List.set_cons_zero, List.set_cons_succ]
    refine wpAnyH_take (i := 8) (oi := ({ dst := some 11, op := Op.binOp BinOp.leq 3 (Operand.tmp 10) (Operand.const (Value.int IntKind.i64 64)) 3, type := 4, pos := "value.go:14", after := #[{ on := 7, ground := Ground.data }, { on := 4, ground := Ground.guard }], guard := some (4, true) } : Oper)) (v := undef) rfl (by kernel_rfl) (by kernel_rfl) (by kernel_rfl) (fun _ _ _ h => h) (by exact Or.inr ⟨by rfl, rfl⟩) (by assumption) ?_
    try simp only [Act.put, List.setIfInBounds_toArray, List.set_cons_zero, List.set_cons_succ]
    refine wpAnyH_take (i := 9) (oi := ({ dst := some 12, op := Op.pick (Operand.tmp 7) (Operand.tmp 11) (Operand.const (Value.bool false)), type := 4, pos := "value.go:14", after := #[{ on := 4, ground := Ground.data }, { on := 8, ground := Ground.data }], guard := none } : Oper)) (v := ?_) rfl (by kernel_rfl) (by kernel_rfl) (by kernel_rfl) (fun _ _ _ h => h) (Or.inl ⟨by rfl, ?_⟩) (by assumption) ?_
    rotate_left 1
    · (intro u hSw; go_simp; try with_reducible rfl)
    try simp only [Act.put, List.setIfInBounds_toArray, List.set_cons_zero, List.set_cons_succ]
    refine wpAnyH_take (i := 10) (oi := ({ dst := some 2, op := Op.assign (Operand.tmp 12), type := 4, pos := "value.go:14", after := #[{ on := 9, ground := Ground.data }, { on := 4, ground := Ground.chain }, { on := 0, ground := Ground.phase }, { on := 1, ground := Ground.phase }, { on := 2, ground := Ground.phase }, { on := 3, ground := Ground.phase }, { on := 4, ground := Ground.phase }, { on := 5, ground := Ground.phase }, { on := 6, ground := Ground.phase }, { on := 7, ground := Ground.phase }, { on := 8, ground := Ground.phase }, { on := 9, ground := Ground.phase }], guard := none } : Oper)) (v := ?_) rfl (by kernel_rfl) (by kernel_rfl) (by kernel_rfl) (fun _ _ _ h => h) (Or.inl ⟨by rfl, ?_⟩) (by assumption) ?_
    rotate_left 1
    · (intro u hSw; go_simp; try with_reducible rfl)
    try simp only [Act.put, List.setIfInBounds_toArray, List.set_cons_zero, List.set_cons_succ]
    refine wpAnyH_done (by kernel_rfl) ?_ _
    go_wp2_with fail
    go_ret
    exact ⟨rfl, hHeld.2⟩
end Go.Proofs.Ytbhilmgpmebaiaa
