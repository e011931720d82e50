import Derived.Test.YtbhilmgpmebaiaaSh02
namespace Go.Proofs.Ytbhilmgpmebaiaa
open Go.RowKit
attribute [local go_sem ↓] eql32_eq neq32_eq
def decV (by' : Bool) (a b : Val) : Val × Int := if (okK 3 a.k && okK 3 b.k) = false then (nulV, 22) else if a = truV by' ∨ b = truV by' then (truV by', 0) else if a = nulV ∨ b = nulV then (nulV, 0) else (truV (!by'), 0)
set_option maxRecDepth 100000 in
set_option maxHeartbeats 6400000 in
theorem decided_false (a b : Val) (g : Nat) (w : World) (ha : Rng a.s) (hb : Rng b.s) (hg : w.heap[g]? = some (.cells #[.bool false] 4 (0, 0))) :
    Calls Try.prog 86 #[.agg #[.int .i64 a.k, .int .i64 a.n, .string (str a.s)], .agg #[.int .i64 b.k, .int .i64 b.n, .string (str b.s)], .pointer (some ⟨g, 0, none⟩)] w fun e w' => e = .returned (.tuple #[.agg #[.int .i64 ((decV false a b).1).k, .int .i64 ((decV false a b).1).n, .string (str ((decV false a b).1).s)], .int .i64 (decV false a b).2]) ∧ Below w.heap.size w w' := by
  have hlt := bx_lt hg
  have HG := Lib.hid hg
  have hl1 : g < w.heap.size + 1 := by omega
  have hl2 : g < w.heap.size + 1 + 1 := by omega
  have hl3 : g < w.heap.size + 1 + 1 + 1 := by omega
  have hl4 : g < w.heap.size + 1 + 1 + 1 + 1 := by omega
  have hl5 : g < w.heap.size + 1 + 1 + 1 + 1 + 1 := by omega
  have hl6 : g < w.heap.size + 1 + 1 + 1 + 1 + 1 + 1 := by omega
  have hl7 : g < w.heap.size + 1 + 1 + 1 + 1 + 1 + 1 + 1 := by omega
  have hl8 : g < w.heap.size + 1 + 1 + 1 + 1 + 1 + 1 + 1 + 1 := by omega
  have cg := cell_of_row w g 0 _ _ _ hg
  have cg := cg.trans (show (#[Value.bool false] : Array Value)[0]? = some (.bool false) from rfl)
  have hB1 := fun (o1 o2 : Obj) => show ((w.alloc o1).alloc o2).heap[w.heap.size + 1]? = some o2 by have := heap_alloc_new (w.alloc o1) o2; simpa using this
  have HB1 := Lib.hid hB1
  have HA := fun H T w h => allOf2_any 3 a.k b.k H T w h
  have HNA := fun w => isNull_any a w ha
  have HNB := fun w => isNull_any b w hb
  have he := fun u => run_eqT u a false ha
  have hf := fun u => run_eqT u b false hb
  simp only [if_neg (show ¬ false = true by decide)] at he hf
  clear hg hB1
  cases hok : (okK 3 a.k && okK 3 b.k) with
  | false =>
    simp only [hok] at HA
    replace HA := Lib.hid HA
    rw [show decV false a b = (nulV, 22) by rw [decV, if_pos hok]]
    clear hok HNA HNB he hf
    go_enter Try.func86, Try.ntmps86
    go_wp2_with (first
      | (go_at_call 55; refine (HA.out _ _ _ (hp4 _ _ _ _ _)).mono ?_; rintro e w' ⟨rfl, rfl⟩))
    refine bodyPost_ret (v := .tuple #[.agg #[.int .i64 0, .int .i64 0, .string ⟨#[]⟩], .int .i64 22]) (by simp [results, Try.results86, go_sem]) rfl ⟨?_, ?_⟩
    · rfl
    · (repeat (first | exact Below.refl _ _ | exact HBW.out | refine bl_al ?_ _ | refine Below.setCell ?_ (by first | omega | (simp; done) | (simp; omega)) _ | refine Below.drew ?_))
  | true =>
    simp only [hok] at HA
    replace HA := Lib.hid HA
    by_cases e1 : a = truV false
    · rw [show decV false a b = (truV false, 0) by rw [decV, hok, if_neg (by decide), if_pos (.inl e1)]]
      simp only [decide_eq_true e1] at he
      clear hok HNA HNB e1 hf
      go_enter Try.func86, Try.ntmps86
      go_wp2_with (first
        | (go_at_call 55; refine (HA.out _ _ _ (hp4 _ _ _ _ _)).mono ?_; rintro e w' ⟨rfl, rfl⟩))
      refine wp_region_held_drew (S := fun u => u.heap[w.heap.size]? = some (BX a.k a.n (str a.s)) ∧ u.heap[w.heap.size + 1]? = some (BX b.k b.n (str b.s)) ∧ u.heap[g]? = some (.cells #[.bool false] 4 (0, 0))) (by kernel_rfl) ((⟨by (repeat (first | with_reducible exact HG.out | with_reducible exact HB1.out _ _ | with_reducible exact heap_alloc_new _ _ | refine hp_drew ?_ | refine hp_al ?_ _ | refine (heap_setCell_other _ _ _ _ (by first | omega | (simp; omega))).trans ?_)), by (repeat (first | with_reducible exact HG.out | with_reducible exact HB1.out _ _ | with_reducible exact heap_alloc_new _ _ | refine hp_drew ?_ | refine hp_al ?_ _ | refine (heap_setCell_other _ _ _ _ (by first | omega | (simp; omega))).trans ?_)), by (repeat (first | with_reducible exact HG.out | with_reducible exact HB1.out _ _ | with_reducible exact heap_alloc_new _ _ | refine hp_drew ?_ | refine hp_al ?_ _ | refine (heap_setCell_other _ _ _ _ (by first | omega | (simp; omega))).trans ?_))⟩)) (fun hHeld => ?_)
      refine wpAnyH_take (i := 0) (oi := ({ dst := some 17, op := Op.load 23 (Operand.tmp 3), type := 23, pos := "operators.go:127", after := #[], guard := none } : Oper)) (v := ?_) rfl (by kernel_rfl) (by kernel_rfl) (by kernel_rfl) (fun _ _ _ h => h) (Or.inl ⟨by rfl, ?_⟩) (by assumption) ?_
      rotate_left 1
      · (intro u hSw; have p0 := (cell_of_row u (w.heap.size) 0 _ _ _ hSw.1).trans (show (#[Value.int .i64 a.k, .int .i64 a.n, .string (str a.s)] : Array Value)[0]? = some (.int .i64 a.k) from rfl); have p1 := (cell_of_row u (w.heap.size) 1 _ _ _ hSw.1).trans (show (#[Value.int .i64 a.k, .int .i64 a.n, .string (str a.s)] : Array Value)[1]? = some (.int .i64 a.n) from rfl); have p2 := (cell_of_row u (w.heap.size) 2 _ _ _ hSw.1).trans (show (#[Value.int .i64 a.k, .int .i64 a.n, .string (str a.s)] : Array Value)[2]? = some (.string (str a.s)) from rfl); have q0 := (cell_of_row u (w.heap.size + 1) 0 _ _ _ hSw.2.1).trans (show (#[Value.int .i64 b.k, .int .i64 b.n, .string (str b.s)] : Array Value)[0]? = some (.int .i64 b.k) from rfl); have q1 := (cell_of_row u (w.heap.size + 1) 1 _ _ _ hSw.2.1).trans (show (#[Value.int .i64 b.k, .int .i64 b.n, .string (str b.s)] : Array Value)[1]? = some (.int .i64 b.n) from rfl); have q2 := (cell_of_row u (w.heap.size + 1) 2 _ _ _ hSw.2.1).trans (show (#[Value.int .i64 b.k, .int .i64 b.n, .string (str b.s)] : Array Value)[2]? = some (.string (str b.s)) from rfl); have g0 := cell_of_row u g 0 _ _ _ hSw.2.2; go_simp; try with_reducible rfl)
      try simp only [Act.put, List.setIfInBounds_toArray, List.set_cons_zero, List.set_cons_succ]
      refine wpAnyH_take (i := 1) (oi := ({ dst := some 18, op := Op.load 4 (Operand.tmp 2), type := 4, pos := "operators.go:127", after := #[], guard := none } : Oper)) (v := ?_) rfl (by kernel_rfl) (by kernel_rfl) (by kernel_rfl) (fun _ _ _ h => h) (Or.inl ⟨by rfl, ?_⟩) (by assumption) ?_
      rotate_left 1
      · (intro u hSw; have p0 := (cell_of_row u (w.heap.size) 0 _ _ _ hSw.1).trans (show (#[Value.int .i64 a.k, .int .i64 a.n, .string (str a.s)] : Array Value)[0]? = some (.int .i64 a.k) from rfl); have p1 := (cell_of_row u (w.heap.size) 1 _ _ _ hSw.1).trans (show (#[Value.int .i64 a.k, .int .i64 a.n, .string (str a.s)] : Array Value)[1]? = some (.int .i64 a.n) from rfl); have p2 := (cell_of_row u (w.heap.size) 2 _ _ _ hSw.1).trans (show (#[Value.int .i64 a.k, .int .i64 a.n, .string (str a.s)] : Array Value)[2]? = some (.string (str a.s)) from rfl); have q0 := (cell_of_row u (w.heap.size + 1) 0 _ _ _ hSw.2.1).trans (show (#[Value.int .i64 b.k, .int .i64 b.n, .string (str b.s)] : Array Value)[0]? = some (.int .i64 b.k) from rfl); have q1 := (cell_of_row u (w.heap.size + 1) 1 _ _ _ hSw.2.1).trans (show (#[Value.int .i64 b.k, .int .i64 b.n, .string (str b.s)] : Array Value)[1]? = some (.int .i64 b.n) from rfl); have q2 := (cell_of_row u (w.heap.size + 1) 2 _ _ _ hSw.2.1).trans (show (#[Value.int .i64 b.k, .int .i64 b.n, .string (str b.s)] : Array Value)[2]? = some (.string (str b.s)) from rfl); have g0 := cell_of_row u g 0 _ _ _ hSw.2.2; go_simp; try with_reducible rfl)
      try simp only [Act.put, List.setIfInBounds_toArray, List.set_cons_zero, List.set_cons_succ]
      refine wpAnyH_ready (rs := [2]) (by kernel_rfl) (by simp) ?_
      refine AllReadyH.cons (o := ({ dst := some 19, op := Op.call { callee := Callee.value (Operand.func 58), args := #[Operand.tmp 18], argTypes := #[4] }, type := 23, pos := "operators.go:127", after := #[{ on := 1, ground := Ground.data }], guard := none } : Oper)) rfl (fun K hK => ?_) AllReadyH.nil
      go_simp
      go_at_call 58
      refine (boolean_any _ _).mono ?_
      rintro e w' ⟨rfl, rfl⟩
      go_wp2_with fail
      refine hK.out _ _ ⟨hp_al hHeld.1 _, hp_al hHeld.2.1 _, hp_al hHeld.2.2 _⟩ (fun hHeld => ?_)
      clear hK K
      try simp only [Act.put, List.setIfInBounds_toArray, List.set_cons_zero, List.set_cons_succ]
      refine wpAnyH_take (i := 3) (oi := ({ dst := some 20, op := Op.binOp BinOp.eql 23 (Operand.tmp 17) (Operand.tmp 19) 23, type := 4, pos := "operators.go:127", after := #[{ on := 0, ground := Ground.data }, { on := 2, ground := Ground.data }], guard := none } : Oper)) (v := ?_) rfl (by kernel_rfl) (by kernel_rfl) (by kernel_rfl) (fun _ _ _ h => h) (Or.inl ⟨by rfl, ?_⟩) (by assumption) ?_
      rotate_left 1
      · (intro u hSw; go_simp; try with_reducible rfl)
      try simp only [Act.put, List.setIfInBounds_toArray, List.set_cons_zero, List.set_cons_succ]
      refine wpAnyH_take (i := 4) (oi := ({ dst := some 21, op := Op.move (Operand.tmp 20), type := 4, pos := "operators.go:127", after := #[{ on := 3, ground := Ground.data }, { on := 2, ground := Ground.chain }], guard := none } : Oper)) (v := ?_) rfl (by kernel_rfl) (by kernel_rfl) (by kernel_rfl) (fun _ _ _ h => h) (Or.inl ⟨by rfl, ?_⟩) (by assumption) ?_
      rotate_left 1
      · (intro u hSw; go_simp; try with_reducible rfl)
      try simp only [Act.put, List.setIfInBounds_toArray, List.set_cons_zero, List.set_cons_succ]
      refine wpAnyH_take (i := 5) (oi := ({ dst := some 22, op := Op.load 23 (Operand.tmp 4), type := 23, pos := "operators.go:127", after := #[{ on := 4, ground := Ground.guard }], guard := some (4, false) } : Oper)) (v := undef) rfl (by kernel_rfl) (by kernel_rfl) (by kernel_rfl) (fun _ _ _ h => h) (by exact Or.inr ⟨by rfl, rfl⟩) (by assumption) ?_
      try simp only [Act.put, List.setIfInBounds_toArray, List.set_cons_zero, List.set_cons_succ]
      refine wpAnyH_take (i := 6) (oi := ({ dst := some 23, op := Op.load 4 (Operand.tmp 2), type := 4, pos := "operators.go:127", after := #[{ on := 4, ground := Ground.guard }], guard := some (4, false) } : Oper)) (v := undef) rfl (by kernel_rfl) (by kernel_rfl) (by kernel_rfl) (fun _ _ _ h => h) (by exact Or.inr ⟨by rfl, rfl⟩) (by assumption) ?_
      try simp only [Act.put, List.setIfInBounds_toArray, List.set_cons_zero, List.set_cons_succ]
      refine wpAnyH_take (i := 7) (oi := ({ dst := some 24, op := Op.call { callee := Callee.value (Operand.func 58), args := #[Operand.tmp 23], argTypes := #[4] }, type := 23, pos := "operators.go:127", after := #[{ on := 6, ground := Ground.data }, { on := 4, ground := Ground.chain }, { on := 4, ground := Ground.guard }], guard := some (4, false) } : Oper)) (v := undef) rfl (by kernel_rfl) (by kernel_rfl) (by kernel_rfl) (fun _ _ _ h => h) (by exact Or.inr ⟨by rfl, rfl⟩) (by assumption) ?_
      try simp only [Act.put, List.setIfInBounds_toArray, List.set_cons_zero, List.set_cons_succ]
      refine wpAnyH_take (i := 8) (oi := ({ dst := some 25, op := Op.binOp BinOp.eql 23 (Operand.tmp 22) (Operand.tmp 24) 23, type := 4, pos := "operators.go:127", after := #[{ on := 5, ground := Ground.data }, { on := 7, ground := Ground.data }, { on := 4, ground := Ground.guard }], guard := some (4, false) } : Oper)) (v := undef) rfl (by kernel_rfl) (by kernel_rfl) (by kernel_rfl) (fun _ _ _ h => h) (by exact Or.inr ⟨by rfl, rfl⟩) (by assumption) ?_
      try simp only [Act.put, List.setIfInBounds_toArray, List.set_cons_zero, List.set_cons_succ]
      refine wpAnyH_take (i := 9) (oi := ({ dst := some 26, op := Op.pick (Operand.tmp 21) (Operand.const (Value.bool true)) (Operand.tmp 25), type := 4, pos := "operators.go:127", after := #[{ on := 4, ground := Ground.data }, { on := 8, ground := Ground.data }], guard := none } : Oper)) (v := ?_) rfl (by kernel_rfl) (by kernel_rfl) (by kernel_rfl) (fun _ _ _ h => h) (Or.inl ⟨by rfl, ?_⟩) (by assumption) ?_
      rotate_left 1
      · (intro u hSw; go_simp; try with_reducible rfl)
      try simp only [Act.put, List.setIfInBounds_toArray, List.set_cons_zero, List.set_cons_succ]
      refine wpAnyH_take (i := 10) (oi := ({ dst := some 16, op := Op.assign (Operand.tmp 26), type := 4, pos := "operators.go:127", after := #[{ on := 9, ground := Ground.data }, { on := 7, ground := Ground.chain }], guard := none } : Oper)) (v := ?_) rfl (by kernel_rfl) (by kernel_rfl) (by kernel_rfl) (fun _ _ _ h => h) (Or.inl ⟨by rfl, ?_⟩) (by assumption) ?_
      rotate_left 1
      · (intro u hSw; go_simp; try with_reducible rfl)
      try simp only [Act.put, List.setIfInBounds_toArray, List.set_cons_zero, List.set_cons_succ]
      refine wpAnyH_done (by kernel_rfl) ?_ _
      go_wp2_with (first
        | (go_at_call 58; refine (boolean_any _ _).mono ?_; rintro e w' ⟨rfl, rfl⟩))
      refine bodyPost_ret (v := .tuple #[.agg #[.int .i64 3, .int .i64 0, .string ⟨#[]⟩], .int .i64 0]) (by simp [results, Try.results86, go_sem]) rfl ⟨?_, ?_⟩
      · rfl
      · (repeat (first | exact Below.refl _ _ | exact HBW.out | refine bl_al ?_ _ | refine Below.setCell ?_ (by first | omega | (simp; done) | (simp; omega)) _ | refine Below.drew ?_))
    simp only [decide_eq_false e1] at he
    by_cases e2 : b = truV false
    · rw [show decV false a b = (truV false, 0) by rw [decV, hok, if_neg (by decide), if_pos (.inr e2)]]
      simp only [decide_eq_true e2] at hf
      clear hok HNA HNB e1 e2
      go_enter Try.func86, Try.ntmps86
      go_wp2_with (first
        | (go_at_call 55; refine (HA.out _ _ _ (hp4 _ _ _ _ _)).mono ?_; rintro e w' ⟨rfl, rfl⟩))
      refine wp_region_held_drew (S := fun u => u.heap[w.heap.size]? = some (BX a.k a.n (str a.s)) ∧ u.heap[w.heap.size + 1]? = some (BX b.k b.n (str b.s)) ∧ u.heap[g]? = some (.cells #[.bool false] 4 (0, 0))) (by kernel_rfl) ((⟨by (repeat (first | with_reducible exact HG.out | with_reducible exact HB1.out _ _ | with_reducible exact heap_alloc_new _ _ | refine hp_drew ?_ | refine hp_al ?_ _ | refine (heap_setCell_other _ _ _ _ (by first | omega | (simp; omega))).trans ?_)), by (repeat (first | with_reducible exact HG.out | with_reducible exact HB1.out _ _ | with_reducible exact heap_alloc_new _ _ | refine hp_drew ?_ | refine hp_al ?_ _ | refine (heap_setCell_other _ _ _ _ (by first | omega | (simp; omega))).trans ?_)), by (repeat (first | with_reducible exact HG.out | with_reducible exact HB1.out _ _ | with_reducible exact heap_alloc_new _ _ | refine hp_drew ?_ | refine hp_al ?_ _ | refine (heap_setCell_other _ _ _ _ (by first | omega | (simp; omega))).trans ?_))⟩)) (fun hHeld => ?_)
      refine wpAnyH_take (i := 0) (oi := ({ dst := some 17, op := Op.load 23 (Operand.tmp 3), type := 23, pos := "operators.go:127", after := #[], guard := none } : Oper)) (v := ?_) rfl (by kernel_rfl) (by kernel_rfl) (by kernel_rfl) (fun _ _ _ h => h) (Or.inl ⟨by rfl, ?_⟩) (by assumption) ?_
      rotate_left 1
      · (intro u hSw; have p0 := (cell_of_row u (w.heap.size) 0 _ _ _ hSw.1).trans (show (#[Value.int .i64 a.k, .int .i64 a.n, .string (str a.s)] : Array Value)[0]? = some (.int .i64 a.k) from rfl); have p1 := (cell_of_row u (w.heap.size) 1 _ _ _ hSw.1).trans (show (#[Value.int .i64 a.k, .int .i64 a.n, .string (str a.s)] : Array Value)[1]? = some (.int .i64 a.n) from rfl); have p2 := (cell_of_row u (w.heap.size) 2 _ _ _ hSw.1).trans (show (#[Value.int .i64 a.k, .int .i64 a.n, .string (str a.s)] : Array Value)[2]? = some (.string (str a.s)) from rfl); have q0 := (cell_of_row u (w.heap.size + 1) 0 _ _ _ hSw.2.1).trans (show (#[Value.int .i64 b.k, .int .i64 b.n, .string (str b.s)] : Array Value)[0]? = some (.int .i64 b.k) from rfl); have q1 := (cell_of_row u (w.heap.size + 1) 1 _ _ _ hSw.2.1).trans (show (#[Value.int .i64 b.k, .int .i64 b.n, .string (str b.s)] : Array Value)[1]? = some (.int .i64 b.n) from rfl); have q2 := (cell_of_row u (w.heap.size + 1) 2 _ _ _ hSw.2.1).trans (show (#[Value.int .i64 b.k, .int .i64 b.n, .string (str b.s)] : Array Value)[2]? = some (.string (str b.s)) from rfl); have g0 := cell_of_row u g 0 _ _ _ hSw.2.2; go_simp; try with_reducible rfl)
      try simp only [Act.put, List.setIfInBounds_toArray, List.set_cons_zero, List.set_cons_succ]
      refine wpAnyH_take (i := 1) (oi := ({ dst := some 18, op := Op.load 4 (Operand.tmp 2), type := 4, pos := "operators.go:127", after := #[], guard := none } : Oper)) (v := ?_) rfl (by kernel_rfl) (by kernel_rfl) (by kernel_rfl) (fun _ _ _ h => h) (Or.inl ⟨by rfl, ?_⟩) (by assumption) ?_
      rotate_left 1
      · (intro u hSw; have p0 := (cell_of_row u (w.heap.size) 0 _ _ _ hSw.1).trans (show (#[Value.int .i64 a.k, .int .i64 a.n, .string (str a.s)] : Array Value)[0]? = some (.int .i64 a.k) from rfl); have p1 := (cell_of_row u (w.heap.size) 1 _ _ _ hSw.1).trans (show (#[Value.int .i64 a.k, .int .i64 a.n, .string (str a.s)] : Array Value)[1]? = some (.int .i64 a.n) from rfl); have p2 := (cell_of_row u (w.heap.size) 2 _ _ _ hSw.1).trans (show (#[Value.int .i64 a.k, .int .i64 a.n, .string (str a.s)] : Array Value)[2]? = some (.string (str a.s)) from rfl); have q0 := (cell_of_row u (w.heap.size + 1) 0 _ _ _ hSw.2.1).trans (show (#[Value.int .i64 b.k, .int .i64 b.n, .string (str b.s)] : Array Value)[0]? = some (.int .i64 b.k) from rfl); have q1 := (cell_of_row u (w.heap.size + 1) 1 _ _ _ hSw.2.1).trans (show (#[Value.int .i64 b.k, .int .i64 b.n, .string (str b.s)] : Array Value)[1]? = some (.int .i64 b.n) from rfl); have q2 := (cell_of_row u (w.heap.size + 1) 2 _ _ _ hSw.2.1).trans (show (#[Value.int .i64 b.k, .int .i64 b.n, .string (str b.s)] : Array Value)[2]? = some (.string (str b.s)) from rfl); have g0 := cell_of_row u g 0 _ _ _ hSw.2.2; go_simp; try with_reducible rfl)
      try simp only [Act.put, List.setIfInBounds_toArray, List.set_cons_zero, List.set_cons_succ]
      refine wpAnyH_ready (rs := [2]) (by kernel_rfl) (by simp) ?_
      refine AllReadyH.cons (o := ({ dst := some 19, op := Op.call { callee := Callee.value (Operand.func 58), args := #[Operand.tmp 18], argTypes := #[4] }, type := 23, pos := "operators.go:127", after := #[{ on := 1, ground := Ground.data }], guard := none } : Oper)) rfl (fun K hK => ?_) AllReadyH.nil
      go_simp
      go_at_call 58
      refine (boolean_any _ _).mono ?_
      rintro e w' ⟨rfl, rfl⟩
      go_wp2_with fail
      refine hK.out _ _ ⟨hp_al hHeld.1 _, hp_al hHeld.2.1 _, hp_al hHeld.2.2 _⟩ (fun hHeld => ?_)
      clear hK K
      try simp only [Act.put, List.setIfInBounds_toArray, List.set_cons_zero, List.set_cons_succ]
      refine wpAnyH_take (i := 3) (oi := ({ dst := some 20, op := Op.binOp BinOp.eql 23 (Operand.tmp 17) (Operand.tmp 19) 23, type := 4, pos := "operators.go:127", after := #[{ on := 0, ground := Ground.data }, { on := 2, ground := Ground.data }], guard := none } : Oper)) (v := ?_) rfl (by kernel_rfl) (by kernel_rfl) (by kernel_rfl) (fun _ _ _ h => h) (Or.inl ⟨by rfl, ?_⟩) (by assumption) ?_
      rotate_left 1
      · (intro u hSw; go_simp; try with_reducible rfl)
      try simp only [Act.put, List.setIfInBounds_toArray, List.set_cons_zero, List.set_cons_succ]
      refine wpAnyH_take (i := 4) (oi := ({ dst := some 21, op := Op.move (Operand.tmp 20), type := 4, pos := "operators.go:127", after := #[{ on := 3, ground := Ground.data }, { on := 2, ground := Ground.chain }], guard := none } : Oper)) (v := ?_) rfl (by kernel_rfl) (by kernel_rfl) (by kernel_rfl) (fun _ _ _ h => h) (Or.inl ⟨by rfl, ?_⟩) (by assumption) ?_
      rotate_left 1
      · (intro u hSw; go_simp; try with_reducible rfl)
      try simp only [Act.put, List.setIfInBounds_toArray, List.set_cons_zero, List.set_cons_succ]
      refine wpAnyH_take (i := 5) (oi := ({ dst := some 22, op := Op.load 23 (Operand.tmp 4), type := 23, pos := "operators.go:127", after := #[{ on := 4, ground := Ground.guard }], guard := some (4, false) } : Oper)) (v := ?_) rfl (by kernel_rfl) (by kernel_rfl) (by kernel_rfl) (fun _ _ _ h => h) (Or.inl ⟨by rfl, ?_⟩) (by assumption) ?_
      rotate_left 1
      · (intro u hSw; have p0 := (cell_of_row u (w.heap.size) 0 _ _ _ hSw.1).trans (show (#[Value.int .i64 a.k, .int .i64 a.n, .string (str a.s)] : Array Value)[0]? = some (.int .i64 a.k) from rfl); have p1 := (cell_of_row u (w.heap.size) 1 _ _ _ hSw.1).trans (show (#[Value.int .i64 a.k, .int .i64 a.n, .string (str a.s)] : Array Value)[1]? = some (.int .i64 a.n) from rfl); have p2 := (cell_of_row u (w.heap.size) 2 _ _ _ hSw.1).trans (show (#[Value.int .i64 a.k, .int .i64 a.n, .string (str a.s)] : Array Value)[2]? = some (.string (str a.s)) from rfl); have q0 := (cell_of_row u (w.heap.size + 1) 0 _ _ _ hSw.2.1).trans (show (#[Value.int .i64 b.k, .int .i64 b.n, .string (str b.s)] : Array Value)[0]? = some (.int .i64 b.k) from rfl); have q1 := (cell_of_row u (w.heap.size + 1) 1 _ _ _ hSw.2.1).trans (show (#[Value.int .i64 b.k, .int .i64 b.n, .string (str b.s)] : Array Value)[1]? = some (.int .i64 b.n) from rfl); have q2 := (cell_of_row u (w.heap.size + 1) 2 _ _ _ hSw.2.1).trans (show (#[Value.int .i64 b.k, .int .i64 b.n, .string (str b.s)] : Array Value)[2]? = some (.string (str b.s)) from rfl); have g0 := cell_of_row u g 0 _ _ _ hSw.2.2; go_simp; try with_reducible rfl)
      try simp only [Act.put, List.setIfInBounds_toArray, List.set_cons_zero, List.set_cons_succ]
      refine wpAnyH_take (i := 6) (oi := ({ dst := some 23, op := Op.load 4 (Operand.tmp 2), type := 4, pos := "operators.go:127", after := #[{ on := 4, ground := Ground.guard }], guard := some (4, false) } : Oper)) (v := ?_) rfl (by kernel_rfl) (by kernel_rfl) (by kernel_rfl) (fun _ _ _ h => h) (Or.inl ⟨by rfl, ?_⟩) (by assumption) ?_
      rotate_left 1
      · (intro u hSw; have p0 := (cell_of_row u (w.heap.size) 0 _ _ _ hSw.1).trans (show (#[Value.int .i64 a.k, .int .i64 a.n, .string (str a.s)] : Array Value)[0]? = some (.int .i64 a.k) from rfl); have p1 := (cell_of_row u (w.heap.size) 1 _ _ _ hSw.1).trans (show (#[Value.int .i64 a.k, .int .i64 a.n, .string (str a.s)] : Array Value)[1]? = some (.int .i64 a.n) from rfl); have p2 := (cell_of_row u (w.heap.size) 2 _ _ _ hSw.1).trans (show (#[Value.int .i64 a.k, .int .i64 a.n, .string (str a.s)] : Array Value)[2]? = some (.string (str a.s)) from rfl); have q0 := (cell_of_row u (w.heap.size + 1) 0 _ _ _ hSw.2.1).trans (show (#[Value.int .i64 b.k, .int .i64 b.n, .string (str b.s)] : Array Value)[0]? = some (.int .i64 b.k) from rfl); have q1 := (cell_of_row u (w.heap.size + 1) 1 _ _ _ hSw.2.1).trans (show (#[Value.int .i64 b.k, .int .i64 b.n, .string (str b.s)] : Array Value)[1]? = some (.int .i64 b.n) from rfl); have q2 := (cell_of_row u (w.heap.size + 1) 2 _ _ _ hSw.2.1).trans (show (#[Value.int .i64 b.k, .int .i64 b.n, .string (str b.s)] : Array Value)[2]? = some (.string (str b.s)) from rfl); have g0 := cell_of_row u g 0 _ _ _ hSw.2.2; go_simp; try with_reducible rfl)
      try simp only [Act.put, List.setIfInBounds_toArray, List.set_cons_zero, List.set_cons_succ]
      refine wpAnyH_ready (rs := [7]) (by kernel_rfl) (by simp) ?_
      refine AllReadyH.cons (o := ({ dst := some 24, op := Op.call { callee := Callee.value (Operand.func 58), args := #[Operand.tmp 23], argTypes := #[4] }, type := 23, pos := "operators.go:127", after := #[{ on := 6, ground := Ground.data }, { on := 4, ground := Ground.chain }, { on := 4, ground := Ground.guard }], guard := some (4, false) } : Oper)) rfl (fun K hK => ?_) AllReadyH.nil
      go_simp
      go_at_call 58
      refine (boolean_any _ _).mono ?_
      rintro e w' ⟨rfl, rfl⟩
      go_wp2_with fail
      refine hK.out _ _ ⟨hp_al hHeld.1 _, hp_al hHeld.2.1 _, hp_al hHeld.2.2 _⟩ (fun hHeld => ?_)
      clear hK K
      try simp only [Act.put, List.setIfInBounds_toArray, List.set_cons_zero, List.set_cons_succ]
      refine wpAnyH_take (i := 8) (oi := ({ dst := some 25, op := Op.binOp BinOp.eql 23 (Operand.tmp 22) (Operand.tmp 24) 23, type := 4, pos := "operators.go:127", after := #[{ on := 5, ground := Ground.data }, { on := 7, ground := Ground.data }, { on := 4, ground := Ground.guard }], guard := some (4, false) } : Oper)) (v := ?_) rfl (by kernel_rfl) (by kernel_rfl) (by kernel_rfl) (fun _ _ _ h => h) (Or.inl ⟨by rfl, ?_⟩) (by assumption) ?_
      rotate_left 1
      · (intro u hSw; go_simp; try with_reducible rfl)
      try simp only [Act.put, List.setIfInBounds_toArray, List.set_cons_zero, List.set_cons_succ]
      refine wpAnyH_take (i := 9) (oi := ({ dst := some 26, op := Op.pick (Operand.tmp 21) (Operand.const (Value.bool true)) (Operand.tmp 25), type := 4, pos := "operators.go:127", after := #[{ on := 4, ground := Ground.data }, { on := 8, ground := Ground.data }], guard := none } : Oper)) (v := ?_) rfl (by kernel_rfl) (by kernel_rfl) (by kernel_rfl) (fun _ _ _ h => h) (Or.inl ⟨by rfl, ?_⟩) (by assumption) ?_
      rotate_left 1
      · (intro u hSw; go_simp; try with_reducible rfl)
      try simp only [Act.put, List.setIfInBounds_toArray, List.set_cons_zero, List.set_cons_succ]
      refine wpAnyH_take (i := 10) (oi := ({ dst := some 16, op := Op.assign (Operand.tmp 26), type := 4, pos := "operators.go:127", after := #[{ on := 9, ground := Ground.data }, { on := 7, ground := Ground.chain }], guard := none } : Oper)) (v := ?_) rfl (by kernel_rfl) (by kernel_rfl) (by kernel_rfl) (fun _ _ _ h => h) (Or.inl ⟨by rfl, ?_⟩) (by assumption) ?_
      rotate_left 1
      · (intro u hSw; go_simp; try with_reducible rfl)
      try simp only [Act.put, List.setIfInBounds_toArray, List.set_cons_zero, List.set_cons_succ]
      refine wpAnyH_done (by kernel_rfl) ?_ _
      go_wp2_with (first
        | (go_at_call 58; refine (boolean_any _ _).mono ?_; rintro e w' ⟨rfl, rfl⟩))
      refine bodyPost_ret (v := .tuple #[.agg #[.int .i64 3, .int .i64 0, .string ⟨#[]⟩], .int .i64 0]) (by simp [results, Try.results86, go_sem]) rfl ⟨?_, ?_⟩
      · rfl
      · (repeat (first | exact Below.refl _ _ | exact HBW.out | refine bl_al ?_ _ | refine Below.setCell ?_ (by first | omega | (simp; done) | (simp; omega)) _ | refine Below.drew ?_))
    simp only [decide_eq_false e2] at hf
    by_cases na : a = nulV
    · rw [show decV false a b = (nulV, 0) by rw [decV, hok, if_neg (by decide), if_neg (by simp [e1, e2]), if_pos (.inl na)]]
      simp only [decide_eq_true na] at HNA
      replace HNA := Lib.hid HNA
      clear hok HNB na e1 e2
      go_enter Try.func86, Try.ntmps86
      go_wp2_with (first
        | (go_at_call 55; refine (HA.out _ _ _ (hp4 _ _ _ _ _)).mono ?_; rintro e w' ⟨rfl, rfl⟩))
      refine wp_region_held_drew (S := fun u => u.heap[w.heap.size]? = some (BX a.k a.n (str a.s)) ∧ u.heap[w.heap.size + 1]? = some (BX b.k b.n (str b.s)) ∧ u.heap[g]? = some (.cells #[.bool false] 4 (0, 0))) (by kernel_rfl) ((⟨by (repeat (first | with_reducible exact HG.out | with_reducible exact HB1.out _ _ | with_reducible exact heap_alloc_new _ _ | refine hp_drew ?_ | refine hp_al ?_ _ | refine (heap_setCell_other _ _ _ _ (by first | omega | (simp; omega))).trans ?_)), by (repeat (first | with_reducible exact HG.out | with_reducible exact HB1.out _ _ | with_reducible exact heap_alloc_new _ _ | refine hp_drew ?_ | refine hp_al ?_ _ | refine (heap_setCell_other _ _ _ _ (by first | omega | (simp; omega))).trans ?_)), by (repeat (first | with_reducible exact HG.out | with_reducible exact HB1.out _ _ | with_reducible exact heap_alloc_new _ _ | refine hp_drew ?_ | refine hp_al ?_ _ | refine (heap_setCell_other _ _ _ _ (by first | omega | (simp; omega))).trans ?_))⟩)) (fun hHeld => ?_)
      refine wpAnyH_take (i := 0) (oi := ({ dst := some 17, op := Op.load 23 (Operand.tmp 3), type := 23, pos := "operators.go:127", after := #[], guard := none } : Oper)) (v := ?_) rfl (by kernel_rfl) (by kernel_rfl) (by kernel_rfl) (fun _ _ _ h => h) (Or.inl ⟨by rfl, ?_⟩) (by assumption) ?_
      rotate_left 1
      · (intro u hSw; have p0 := (cell_of_row u (w.heap.size) 0 _ _ _ hSw.1).trans (show (#[Value.int .i64 a.k, .int .i64 a.n, .string (str a.s)] : Array Value)[0]? = some (.int .i64 a.k) from rfl); have p1 := (cell_of_row u (w.heap.size) 1 _ _ _ hSw.1).trans (show (#[Value.int .i64 a.k, .int .i64 a.n, .string (str a.s)] : Array Value)[1]? = some (.int .i64 a.n) from rfl); have p2 := (cell_of_row u (w.heap.size) 2 _ _ _ hSw.1).trans (show (#[Value.int .i64 a.k, .int .i64 a.n, .string (str a.s)] : Array Value)[2]? = some (.string (str a.s)) from rfl); have q0 := (cell_of_row u (w.heap.size + 1) 0 _ _ _ hSw.2.1).trans (show (#[Value.int .i64 b.k, .int .i64 b.n, .string (str b.s)] : Array Value)[0]? = some (.int .i64 b.k) from rfl); have q1 := (cell_of_row u (w.heap.size + 1) 1 _ _ _ hSw.2.1).trans (show (#[Value.int .i64 b.k, .int .i64 b.n, .string (str b.s)] : Array Value)[1]? = some (.int .i64 b.n) from rfl); have q2 := (cell_of_row u (w.heap.size + 1) 2 _ _ _ hSw.2.1).trans (show (#[Value.int .i64 b.k, .int .i64 b.n, .string (str b.s)] : Array Value)[2]? = some (.string (str b.s)) from rfl); have g0 := cell_of_row u g 0 _ _ _ hSw.2.2; go_simp; try with_reducible rfl)
      try simp only [Act.put, List.setIfInBounds_toArray, List.set_cons_zero, List.set_cons_succ]
      refine wpAnyH_take (i := 1) (oi := ({ dst := some 18, op := Op.load 4 (Operand.tmp 2), type := 4, pos := "operators.go:127", after := #[], guard := none } : Oper)) (v := ?_) rfl (by kernel_rfl) (by kernel_rfl) (by kernel_rfl) (fun _ _ _ h => h) (Or.inl ⟨by rfl, ?_⟩) (by assumption) ?_
      rotate_left 1
      · (intro u hSw; have p0 := (cell_of_row u (w.heap.size) 0 _ _ _ hSw.1).trans (show (#[Value.int .i64 a.k, .int .i64 a.n, .string (str a.s)] : Array Value)[0]? = some (.int .i64 a.k) from rfl); have p1 := (cell_of_row u (w.heap.size) 1 _ _ _ hSw.1).trans (show (#[Value.int .i64 a.k, .int .i64 a.n, .string (str a.s)] : Array Value)[1]? = some (.int .i64 a.n) from rfl); have p2 := (cell_of_row u (w.heap.size) 2 _ _ _ hSw.1).trans (show (#[Value.int .i64 a.k, .int .i64 a.n, .string (str a.s)] : Array Value)[2]? = some (.string (str a.s)) from rfl); have q0 := (cell_of_row u (w.heap.size + 1) 0 _ _ _ hSw.2.1).trans (show (#[Value.int .i64 b.k, .int .i64 b.n, .string (str b.s)] : Array Value)[0]? = some (.int .i64 b.k) from rfl); have q1 := (cell_of_row u (w.heap.size + 1) 1 _ _ _ hSw.2.1).trans (show (#[Value.int .i64 b.k, .int .i64 b.n, .string (str b.s)] : Array Value)[1]? = some (.int .i64 b.n) from rfl); have q2 := (cell_of_row u (w.heap.size + 1) 2 _ _ _ hSw.2.1).trans (show (#[Value.int .i64 b.k, .int .i64 b.n, .string (str b.s)] : Array Value)[2]? = some (.string (str b.s)) from rfl); have g0 := cell_of_row u g 0 _ _ _ hSw.2.2; go_simp; try with_reducible rfl)
      try simp only [Act.put, List.setIfInBounds_toArray, List.set_cons_zero, List.set_cons_succ]
      refine wpAnyH_ready (rs := [2]) (by kernel_rfl) (by simp) ?_
      refine AllReadyH.cons (o := ({ dst := some 19, op := Op.call { callee := Callee.value (Operand.func 58), args := #[Operand.tmp 18], argTypes := #[4] }, type := 23, pos := "operators.go:127", after := #[{ on := 1, ground := Ground.data }], guard := none } : Oper)) rfl (fun K hK => ?_) AllReadyH.nil
      go_simp
      go_at_call 58
      refine (boolean_any _ _).mono ?_
      rintro e w' ⟨rfl, rfl⟩
      go_wp2_with fail
      refine hK.out _ _ ⟨hp_al hHeld.1 _, hp_al hHeld.2.1 _, hp_al hHeld.2.2 _⟩ (fun hHeld => ?_)
      clear hK K
      try simp only [Act.put, List.setIfInBounds_toArray, List.set_cons_zero, List.set_cons_succ]
      refine wpAnyH_take (i := 3) (oi := ({ dst := some 20, op := Op.binOp BinOp.eql 23 (Operand.tmp 17) (Operand.tmp 19) 23, type := 4, pos := "operators.go:127", after := #[{ on := 0, ground := Ground.data }, { on := 2, ground := Ground.data }], guard := none } : Oper)) (v := ?_) rfl (by kernel_rfl) (by kernel_rfl) (by kernel_rfl) (fun _ _ _ h => h) (Or.inl ⟨by rfl, ?_⟩) (by assumption) ?_
      rotate_left 1
      · (intro u hSw; go_simp; try with_reducible rfl)
      try simp only [Act.put, List.setIfInBounds_toArray, List.set_cons_zero, List.set_cons_succ]
      refine wpAnyH_take (i := 4) (oi := ({ dst := some 21, op := Op.move (Operand.tmp 20), type := 4, pos := "operators.go:127", after := #[{ on := 3, ground := Ground.data }, { on := 2, ground := Ground.chain }], guard := none } : Oper)) (v := ?_) rfl (by kernel_rfl) (by kernel_rfl) (by kernel_rfl) (fun _ _ _ h => h) (Or.inl ⟨by rfl, ?_⟩) (by assumption) ?_
      rotate_left 1
      · (intro u hSw; go_simp; try with_reducible rfl)
      try simp only [Act.put, List.setIfInBounds_toArray, List.set_cons_zero, List.set_cons_succ]
      refine wpAnyH_take (i := 5) (oi := ({ dst := some 22, op := Op.load 23 (Operand.tmp 4), type := 23, pos := "operators.go:127", after := #[{ on := 4, ground := Ground.guard }], guard := some (4, false) } : Oper)) (v := ?_) rfl (by kernel_rfl) (by kernel_rfl) (by kernel_rfl) (fun _ _ _ h => h) (Or.inl ⟨by rfl, ?_⟩) (by assumption) ?_
      rotate_left 1
      · (intro u hSw; have p0 := (cell_of_row u (w.heap.size) 0 _ _ _ hSw.1).trans (show (#[Value.int .i64 a.k, .int .i64 a.n, .string (str a.s)] : Array Value)[0]? = some (.int .i64 a.k) from rfl); have p1 := (cell_of_row u (w.heap.size) 1 _ _ _ hSw.1).trans (show (#[Value.int .i64 a.k, .int .i64 a.n, .string (str a.s)] : Array Value)[1]? = some (.int .i64 a.n) from rfl); have p2 := (cell_of_row u (w.heap.size) 2 _ _ _ hSw.1).trans (show (#[Value.int .i64 a.k, .int .i64 a.n, .string (str a.s)] : Array Value)[2]? = some (.string (str a.s)) from rfl); have q0 := (cell_of_row u (w.heap.size + 1) 0 _ _ _ hSw.2.1).trans (show (#[Value.int .i64 b.k, .int .i64 b.n, .string (str b.s)] : Array Value)[0]? = some (.int .i64 b.k) from rfl); have q1 := (cell_of_row u (w.heap.size + 1) 1 _ _ _ hSw.2.1).trans (show (#[Value.int .i64 b.k, .int .i64 b.n, .string (str b.s)] : Array Value)[1]? = some (.int .i64 b.n) from rfl); have q2 := (cell_of_row u (w.heap.size + 1) 2 _ _ _ hSw.2.1).trans (show (#[Value.int .i64 b.k, .int .i64 b.n, .string (str b.s)] : Array Value)[2]? = some (.string (str b.s)) from rfl); have g0 := cell_of_row u g 0 _ _ _ hSw.2.2; go_simp; try with_reducible rfl)
      try simp only [Act.put, List.setIfInBounds_toArray, List.set_cons_zero, List.set_cons_succ]
      refine wpAnyH_take (i := 6) (oi := ({ dst := some 23, op := Op.load 4 (Operand.tmp 2), type := 4, pos := "operators.go:127", after := #[{ on := 4, ground := Ground.guard }], guard := some (4, false) } : Oper)) (v := ?_) rfl (by kernel_rfl) (by kernel_rfl) (by kernel_rfl) (fun _ _ _ h => h) (Or.inl ⟨by rfl, ?_⟩) (by assumption) ?_
      rotate_left 1
      · (intro u hSw; have p0 := (cell_of_row u (w.heap.size) 0 _ _ _ hSw.1).trans (show (#[Value.int .i64 a.k, .int .i64 a.n, .string (str a.s)] : Array Value)[0]? = some (.int .i64 a.k) from rfl); have p1 := (cell_of_row u (w.heap.size) 1 _ _ _ hSw.1).trans (show (#[Value.int .i64 a.k, .int .i64 a.n, .string (str a.s)] : Array Value)[1]? = some (.int .i64 a.n) from rfl); have p2 := (cell_of_row u (w.heap.size) 2 _ _ _ hSw.1).trans (show (#[Value.int .i64 a.k, .int .i64 a.n, .string (str a.s)] : Array Value)[2]? = some (.string (str a.s)) from rfl); have q0 := (cell_of_row u (w.heap.size + 1) 0 _ _ _ hSw.2.1).trans (show (#[Value.int .i64 b.k, .int .i64 b.n, .string (str b.s)] : Array Value)[0]? = some (.int .i64 b.k) from rfl); have q1 := (cell_of_row u (w.heap.size + 1) 1 _ _ _ hSw.2.1).trans (show (#[Value.int .i64 b.k, .int .i64 b.n, .string (str b.s)] : Array Value)[1]? = some (.int .i64 b.n) from rfl); have q2 := (cell_of_row u (w.heap.size + 1) 2 _ _ _ hSw.2.1).trans (show (#[Value.int .i64 b.k, .int .i64 b.n, .string (str b.s)] : Array Value)[2]? = some (.string (str b.s)) from rfl); have g0 := cell_of_row u g 0 _ _ _ hSw.2.2; go_simp; try with_reducible rfl)
      try simp only [Act.put, List.setIfInBounds_toArray, List.set_cons_zero, List.set_cons_succ]
      refine wpAnyH_ready (rs := [7]) (by kernel_rfl) (by simp) ?_
      refine AllReadyH.cons (o := ({ dst := some 24, op := Op.call { callee := Callee.value (Operand.func 58), args := #[Operand.tmp 23], argTypes := #[4] }, type := 23, pos := "operators.go:127", after := #[{ on := 6, ground := Ground.data }, { on := 4, ground := Ground.chain }, { on := 4, ground := Ground.guard }], guard := some (4, false) } : Oper)) rfl (fun K hK => ?_) AllReadyH.nil
      go_simp
      go_at_call 58
      refine (boolean_any _ _).mono ?_
      rintro e w' ⟨rfl, rfl⟩
      go_wp2_with fail
      refine hK.out _ _ ⟨hp_al hHeld.1 _, hp_al hHeld.2.1 _, hp_al hHeld.2.2 _⟩ (fun hHeld => ?_)
      clear hK K
      try simp only [Act.put, List.setIfInBounds_toArray, List.set_cons_zero, List.set_cons_succ]
      refine wpAnyH_take (i := 8) (oi := ({ dst := some 25, op := Op.binOp BinOp.eql 23 (Operand.tmp 22) (Operand.tmp 24) 23, type := 4, pos := "operators.go:127", after := #[{ on := 5, ground := Ground.data }, { on := 7, ground := Ground.data }, { on := 4, ground := Ground.guard }], guard := some (4, false) } : Oper)) (v := ?_) rfl (by kernel_rfl) (by kernel_rfl) (by kernel_rfl) (fun _ _ _ h => h) (Or.inl ⟨by rfl, ?_⟩) (by assumption) ?_
      rotate_left 1
      · (intro u hSw; go_simp; try with_reducible rfl)
      try simp only [Act.put, List.setIfInBounds_toArray, List.set_cons_zero, List.set_cons_succ]
      refine wpAnyH_take (i := 9) (oi := ({ dst := some 26, op := Op.pick (Operand.tmp 21) (Operand.const (Value.bool true)) (Operand.tmp 25), type := 4, pos := "operators.go:127", after := #[{ on := 4, ground := Ground.data }, { on := 8, ground := Ground.data }], guard := none } : Oper)) (v := ?_) rfl (by kernel_rfl) (by kernel_rfl) (by kernel_rfl) (fun _ _ _ h => h) (Or.inl ⟨by rfl, ?_⟩) (by assumption) ?_
      rotate_left 1
      · (intro u hSw; go_simp; try with_reducible rfl)
      try simp only [Act.put, List.setIfInBounds_toArray, List.set_cons_zero, List.set_cons_succ]
      refine wpAnyH_take (i := 10) (oi := ({ dst := some 16, op := Op.assign (Operand.tmp 26), type := 4, pos := "operators.go:127", after := #[{ on := 9, ground := Ground.data }, { on := 7, ground := Ground.chain }], guard := none } : Oper)) (v := ?_) rfl (by kernel_rfl) (by kernel_rfl) (by kernel_rfl) (fun _ _ _ h => h) (Or.inl ⟨by rfl, ?_⟩) (by assumption) ?_
      rotate_left 1
      · (intro u hSw; go_simp; try with_reducible rfl)
      try simp only [Act.put, List.setIfInBounds_toArray, List.set_cons_zero, List.set_cons_succ]
      refine wpAnyH_done (by kernel_rfl) ?_ _
      go_wp2_with (first
        | (go_at_call 65; refine (HNA.out _).mono ?_; rintro e w' ⟨rfl, rfl⟩; clear HNA))
      refine bodyPost_ret (v := .tuple #[.agg #[.int .i64 0, .int .i64 0, .string ⟨#[]⟩], .int .i64 0]) (by simp [results, Try.results86, go_sem]) rfl ⟨?_, ?_⟩
      · rfl
      · (repeat (first | exact Below.refl _ _ | exact HBW.out | refine bl_al ?_ _ | refine Below.setCell ?_ (by first | omega | (simp; done) | (simp; omega)) _ | refine Below.drew ?_))
    simp only [decide_eq_false na] at HNA
    replace HNA := Lib.hid HNA
    by_cases nb : b = nulV
    · rw [show decV false a b = (nulV, 0) by rw [decV, hok, if_neg (by decide), if_neg (by simp [e1, e2]), if_pos (.inr nb)]]
      simp only [decide_eq_true nb] at HNB
      replace HNB := Lib.hid HNB
      clear hok na nb e1 e2
      go_enter Try.func86, Try.ntmps86
      go_wp2_with (first
        | (go_at_call 55; refine (HA.out _ _ _ (hp4 _ _ _ _ _)).mono ?_; rintro e w' ⟨rfl, rfl⟩))
      refine wp_region_held_drew (S := fun u => u.heap[w.heap.size]? = some (BX a.k a.n (str a.s)) ∧ u.heap[w.heap.size + 1]? = some (BX b.k b.n (str b.s)) ∧ u.heap[g]? = some (.cells #[.bool false] 4 (0, 0))) (by kernel_rfl) ((⟨by (repeat (first | with_reducible exact HG.out | with_reducible exact HB1.out _ _ | with_reducible exact heap_alloc_new _ _ | refine hp_drew ?_ | refine hp_al ?_ _ | refine (heap_setCell_other _ _ _ _ (by first | omega | (simp; omega))).trans ?_)), by (repeat (first | with_reducible exact HG.out | with_reducible exact HB1.out _ _ | with_reducible exact heap_alloc_new _ _ | refine hp_drew ?_ | refine hp_al ?_ _ | refine (heap_setCell_other _ _ _ _ (by first | omega | (simp; omega))).trans ?_)), by (repeat (first | with_reducible exact HG.out | with_reducible exact HB1.out _ _ | with_reducible exact heap_alloc_new _ _ | refine hp_drew ?_ | refine hp_al ?_ _ | refine (heap_setCell_other _ _ _ _ (by first | omega | (simp; omega))).trans ?_))⟩)) (fun hHeld => ?_)
      refine wpAnyH_take (i := 0) (oi := ({ dst := some 17, op := Op.load 23 (Operand.tmp 3), type := 23, pos := "operators.go:127", after := #[], guard := none } : Oper)) (v := ?_) rfl (by kernel_rfl) (by kernel_rfl) (by kernel_rfl) (fun _ _ _ h => h) (Or.inl ⟨by rfl, ?_⟩) (by assumption) ?_
      rotate_left 1
      · (intro u hSw; have p0 := (cell_of_row u (w.heap.size) 0 _ _ _ hSw.1).trans (show (#[Value.int .i64 a.k, .int .i64 a.n, .string (str a.s)] : Array Value)[0]? = some (.int .i64 a.k) from rfl); have p1 := (cell_of_row u (w.heap.size) 1 _ _ _ hSw.1).trans (show (#[Value.int .i64 a.k, .int .i64 a.n, .string (str a.s)] : Array Value)[1]? = some (.int .i64 a.n) from rfl); have p2 := (cell_of_row u (w.heap.size) 2 _ _ _ hSw.1).trans (show (#[Value.int .i64 a.k, .int .i64 a.n, .string (str a.s)] : Array Value)[2]? = some (.string (str a.s)) from rfl); have q0 := (cell_of_row u (w.heap.size + 1) 0 _ _ _ hSw.2.1).trans (show (#[Value.int .i64 b.k, .int .i64 b.n, .string (str b.s)] : Array Value)[0]? = some (.int .i64 b.k) from rfl); have q1 := (cell_of_row u (w.heap.size + 1) 1 _ _ _ hSw.2.1).trans (show (#[Value.int .i64 b.k, .int .i64 b.n, .string (str b.s)] : Array Value)[1]? = some (.int .i64 b.n) from rfl); have q2 := (cell_of_row u (w.heap.size + 1) 2 _ _ _ hSw.2.1).trans (show (#[Value.int .i64 b.k, .int .i64 b.n, .string (str b.s)] : Array Value)[2]? = some (.string (str b.s)) from rfl); have g0 := cell_of_row u g 0 _ _ _ hSw.2.2; go_simp; try with_reducible rfl)
      try simp only [Act.put, List.setIfInBounds_toArray, List.set_cons_zero, List.set_cons_succ]
      refine wpAnyH_take (i := 1) (oi := ({ dst := some 18, op := Op.load 4 (Operand.tmp 2), type := 4, pos := "operators.go:127", after := #[], guard := none } : Oper)) (v := ?_) rfl (by kernel_rfl) (by kernel_rfl) (by kernel_rfl) (fun _ _ _ h => h) (Or.inl ⟨by rfl, ?_⟩) (by assumption) ?_
      rotate_left 1
      · (intro u hSw; have p0 := (cell_of_row u (w.heap.size) 0 _ _ _ hSw.1).trans (show (#[Value.int .i64 a.k, .int .i64 a.n, .string (str a.s)] : Array Value)[0]? = some (.int .i64 a.k) from rfl); have p1 := (cell_of_row u (w.heap.size) 1 _ _ _ hSw.1).trans (show (#[Value.int .i64 a.k, .int .i64 a.n, .string (str a.s)] : Array Value)[1]? = some (.int .i64 a.n) from rfl); have p2 := (cell_of_row u (w.heap.size) 2 _ _ _ hSw.1).trans (show (#[Value.int .i64 a.k, .int .i64 a.n, .string (str a.s)] : Array Value)[2]? = some (.string (str a.s)) from rfl); have q0 := (cell_of_row u (w.heap.size + 1) 0 _ _ _ hSw.2.1).trans (show (#[Value.int .i64 b.k, .int .i64 b.n, .string (str b.s)] : Array Value)[0]? = some (.int .i64 b.k) from rfl); have q1 := (cell_of_row u (w.heap.size + 1) 1 _ _ _ hSw.2.1).trans (show (#[Value.int .i64 b.k, .int .i64 b.n, .string (str b.s)] : Array Value)[1]? = some (.int .i64 b.n) from rfl); have q2 := (cell_of_row u (w.heap.size + 1) 2 _ _ _ hSw.2.1).trans (show (#[Value.int .i64 b.k, .int .i64 b.n, .string (str b.s)] : Array Value)[2]? = some (.string (str b.s)) from rfl); have g0 := cell_of_row u g 0 _ _ _ hSw.2.2; go_simp; try with_reducible rfl)
      try simp only [Act.put, List.setIfInBounds_toArray, List.set_cons_zero, List.set_cons_succ]
      refine wpAnyH_ready (rs := [2]) (by kernel_rfl) (by simp) ?_
      refine AllReadyH.cons (o := ({ dst := some 19, op := Op.call { callee := Callee.value (Operand.func 58), args := #[Operand.tmp 18], argTypes := #[4] }, type := 23, pos := "operators.go:127", after := #[{ on := 1, ground := Ground.data }], guard := none } : Oper)) rfl (fun K hK => ?_) AllReadyH.nil
      go_simp
      go_at_call 58
      refine (boolean_any _ _).mono ?_
      rintro e w' ⟨rfl, rfl⟩
      go_wp2_with fail
      refine hK.out _ _ ⟨hp_al hHeld.1 _, hp_al hHeld.2.1 _, hp_al hHeld.2.2 _⟩ (fun hHeld => ?_)
      clear hK K
      try simp only [Act.put, List.setIfInBounds_toArray, List.set_cons_zero, List.set_cons_succ]
      refine wpAnyH_take (i := 3) (oi := ({ dst := some 20, op := Op.binOp BinOp.eql 23 (Operand.tmp 17) (Operand.tmp 19) 23, type := 4, pos := "operators.go:127", after := #[{ on := 0, ground := Ground.data }, { on := 2, ground := Ground.data }], guard := none } : Oper)) (v := ?_) rfl (by kernel_rfl) (by kernel_rfl) (by kernel_rfl) (fun _ _ _ h => h) (Or.inl ⟨by rfl, ?_⟩) (by assumption) ?_
      rotate_left 1
      · (intro u hSw; go_simp; try with_reducible rfl)
      try simp only [Act.put, List.setIfInBounds_toArray, List.set_cons_zero, List.set_cons_succ]
      refine wpAnyH_take (i := 4) (oi := ({ dst := some 21, op := Op.move (Operand.tmp 20), type := 4, pos := "operators.go:127", after := #[{ on := 3, ground := Ground.data }, { on := 2, ground := Ground.chain }], guard := none } : Oper)) (v := ?_) rfl (by kernel_rfl) (by kernel_rfl) (by kernel_rfl) (fun _ _ _ h => h) (Or.inl ⟨by rfl, ?_⟩) (by assumption) ?_
      rotate_left 1
      · (intro u hSw; go_simp; try with_reducible rfl)
      try simp only [Act.put, List.setIfInBounds_toArray, List.set_cons_zero, List.set_cons_succ]
      refine wpAnyH_take (i := 5) (oi := ({ dst := some 22, op := Op.load 23 (Operand.tmp 4), type := 23, pos := "operators.go:127", after := #[{ on := 4, ground := Ground.guard }], guard := some (4, false) } : Oper)) (v := ?_) rfl (by kernel_rfl) (by kernel_rfl) (by kernel_rfl) (fun _ _ _ h => h) (Or.inl ⟨by rfl, ?_⟩) (by assumption) ?_
      rotate_left 1
      · (intro u hSw; have p0 := (cell_of_row u (w.heap.size) 0 _ _ _ hSw.1).trans (show (#[Value.int .i64 a.k, .int .i64 a.n, .string (str a.s)] : Array Value)[0]? = some (.int .i64 a.k) from rfl); have p1 := (cell_of_row u (w.heap.size) 1 _ _ _ hSw.1).trans (show (#[Value.int .i64 a.k, .int .i64 a.n, .string (str a.s)] : Array Value)[1]? = some (.int .i64 a.n) from rfl); have p2 := (cell_of_row u (w.heap.size) 2 _ _ _ hSw.1).trans (show (#[Value.int .i64 a.k, .int .i64 a.n, .string (str a.s)] : Array Value)[2]? = some (.string (str a.s)) from rfl); have q0 := (cell_of_row u (w.heap.size + 1) 0 _ _ _ hSw.2.1).trans (show (#[Value.int .i64 b.k, .int .i64 b.n, .string (str b.s)] : Array Value)[0]? = some (.int .i64 b.k) from rfl); have q1 := (cell_of_row u (w.heap.size + 1) 1 _ _ _ hSw.2.1).trans (show (#[Value.int .i64 b.k, .int .i64 b.n, .string (str b.s)] : Array Value)[1]? = some (.int .i64 b.n) from rfl); have q2 := (cell_of_row u (w.heap.size + 1) 2 _ _ _ hSw.2.1).trans (show (#[Value.int .i64 b.k, .int .i64 b.n, .string (str b.s)] : Array Value)[2]? = some (.string (str b.s)) from rfl); have g0 := cell_of_row u g 0 _ _ _ hSw.2.2; go_simp; try with_reducible rfl)
      try simp only [Act.put, List.setIfInBounds_toArray, List.set_cons_zero, List.set_cons_succ]
      refine wpAnyH_take (i := 6) (oi := ({ dst := some 23, op := Op.load 4 (Operand.tmp 2), type := 4, pos := "operators.go:127", after := #[{ on := 4, ground := Ground.guard }], guard := some (4, false) } : Oper)) (v := ?_) rfl (by kernel_rfl) (by kernel_rfl) (by kernel_rfl) (fun _ _ _ h => h) (Or.inl ⟨by rfl, ?_⟩) (by assumption) ?_
      rotate_left 1
      · (intro u hSw; have p0 := (cell_of_row u (w.heap.size) 0 _ _ _ hSw.1).trans (show (#[Value.int .i64 a.k, .int .i64 a.n, .string (str a.s)] : Array Value)[0]? = some (.int .i64 a.k) from rfl); have p1 := (cell_of_row u (w.heap.size) 1 _ _ _ hSw.1).trans (show (#[Value.int .i64 a.k, .int .i64 a.n, .string (str a.s)] : Array Value)[1]? = some (.int .i64 a.n) from rfl); have p2 := (cell_of_row u (w.heap.size) 2 _ _ _ hSw.1).trans (show (#[Value.int .i64 a.k, .int .i64 a.n, .string (str a.s)] : Array Value)[2]? = some (.string (str a.s)) from rfl); have q0 := (cell_of_row u (w.heap.size + 1) 0 _ _ _ hSw.2.1).trans (show (#[Value.int .i64 b.k, .int .i64 b.n, .string (str b.s)] : Array Value)[0]? = some (.int .i64 b.k) from rfl); have q1 := (cell_of_row u (w.heap.size + 1) 1 _ _ _ hSw.2.1).trans (show (#[Value.int .i64 b.k, .int .i64 b.n, .string (str b.s)] : Array Value)[1]? = some (.int .i64 b.n) from rfl); have q2 := (cell_of_row u (w.heap.size + 1) 2 _ _ _ hSw.2.1).trans (show (#[Value.int .i64 b.k, .int .i64 b.n, .string (str b.s)] : Array Value)[2]? = some (.string (str b.s)) from rfl); have g0 := cell_of_row u g 0 _ _ _ hSw.2.2; go_simp; try with_reducible rfl)
      try simp only [Act.put, List.setIfInBounds_toArray, List.set_cons_zero, List.set_cons_succ]
      refine wpAnyH_ready (rs := [7]) (by kernel_rfl) (by simp) ?_
      refine AllReadyH.cons (o := ({ dst := some 24, op := Op.call { callee := Callee.value (Operand.func 58), args := #[Operand.tmp 23], argTypes := #[4] }, type := 23, pos := "operators.go:127", after := #[{ on := 6, ground := Ground.data }, { on := 4, ground := Ground.chain }, { on := 4, ground := Ground.guard }], guard := some (4, false) } : Oper)) rfl (fun K hK => ?_) AllReadyH.nil
      go_simp
      go_at_call 58
      refine (boolean_any _ _).mono ?_
      rintro e w' ⟨rfl, rfl⟩
      go_wp2_with fail
      refine hK.out _ _ ⟨hp_al hHeld.1 _, hp_al hHeld.2.1 _, hp_al hHeld.2.2 _⟩ (fun hHeld => ?_)
      clear hK K
      try simp only [Act.put, List.setIfInBounds_toArray, List.set_cons_zero, List.set_cons_succ]
      refine wpAnyH_take (i := 8) (oi := ({ dst := some 25, op := Op.binOp BinOp.eql 23 (Operand.tmp 22) (Operand.tmp 24) 23, type := 4, pos := "operators.go:127", after := #[{ on := 5, ground := Ground.data }, { on := 7, ground := Ground.data }, { on := 4, ground := Ground.guard }], guard := some (4, false) } : Oper)) (v := ?_) rfl (by kernel_rfl) (by kernel_rfl) (by kernel_rfl) (fun _ _ _ h => h) (Or.inl ⟨by rfl, ?_⟩) (by assumption) ?_
      rotate_left 1
      · (intro u hSw; go_simp; try with_reducible rfl)
      try simp only [Act.put, List.setIfInBounds_toArray, List.set_cons_zero, List.set_cons_succ]
      refine wpAnyH_take (i := 9) (oi := ({ dst := some 26, op := Op.pick (Operand.tmp 21) (Operand.const (Value.bool true)) (Operand.tmp 25), type := 4, pos := "operators.go:127", after := #[{ on := 4, ground := Ground.data }, { on := 8, ground := Ground.data }], guard := none } : Oper)) (v := ?_) rfl (by kernel_rfl) (by kernel_rfl) (by kernel_rfl) (fun _ _ _ h => h) (Or.inl ⟨by rfl, ?_⟩) (by assumption) ?_
      rotate_left 1
      · (intro u hSw; go_simp; try with_reducible rfl)
      try simp only [Act.put, List.setIfInBounds_toArray, List.set_cons_zero, List.set_cons_succ]
      refine wpAnyH_take (i := 10) (oi := ({ dst := some 16, op := Op.assign (Operand.tmp 26), type := 4, pos := "operators.go:127", after := #[{ on := 9, ground := Ground.data }, { on := 7, ground := Ground.chain }], guard := none } : Oper)) (v := ?_) rfl (by kernel_rfl) (by kernel_rfl) (by kernel_rfl) (fun _ _ _ h => h) (Or.inl ⟨by rfl, ?_⟩) (by assumption) ?_
      rotate_left 1
      · (intro u hSw; go_simp; try with_reducible rfl)
      try simp only [Act.put, List.setIfInBounds_toArray, List.set_cons_zero, List.set_cons_succ]
      refine wpAnyH_done (by kernel_rfl) ?_ _
      go_wp2_with (first
        | (go_at_call 65; refine (HNA.out _).mono ?_; rintro e w' ⟨rfl, rfl⟩; clear HNA)
        | (go_at_call 65; refine (HNB.out _).mono ?_; rintro e w' ⟨rfl, rfl⟩))
      refine bodyPost_ret (v := .tuple #[.agg #[.int .i64 0, .int .i64 0, .string ⟨#[]⟩], .int .i64 0]) (by simp [results, Try.results86, go_sem]) rfl ⟨?_, ?_⟩
      · rfl
      · (repeat (first | exact Below.refl _ _ | exact HBW.out | refine bl_al ?_ _ | refine Below.setCell ?_ (by first | omega | (simp; done) | (simp; omega)) _ | refine Below.drew ?_))
    · rw [show decV false a b = (truV (!false), 0) by rw [decV, hok, if_neg (by decide), if_neg (by simp [e1, e2]), if_neg (by simp [na, nb])]]
      simp only [decide_eq_false nb] at HNB
      replace HNB := Lib.hid HNB
      clear hok na nb e1 e2
      go_enter Try.func86, Try.ntmps86
      go_wp2_with (first
        | (go_at_call 55; refine (HA.out _ _ _ (hp4 _ _ _ _ _)).mono ?_; rintro e w' ⟨rfl, rfl⟩))
      refine wp_region_held_drew (S := fun u => u.heap[w.heap.size]? = some (BX a.k a.n (str a.s)) ∧ u.heap[w.heap.size + 1]? = some (BX b.k b.n (str b.s)) ∧ u.heap[g]? = some (.cells #[.bool false] 4 (0, 0))) (by kernel_rfl) ((⟨by (repeat (first | with_reducible exact HG.out | with_reducible exact HB1.out _ _ | with_reducible exact heap_alloc_new _ _ | refine hp_drew ?_ | refine hp_al ?_ _ | refine (heap_setCell_other _ _ _ _ (by first | omega | (simp; omega))).trans ?_)), by (repeat (first | with_reducible exact HG.out | with_reducible exact HB1.out _ _ | with_reducible exact heap_alloc_new _ _ | refine hp_drew ?_ | refine hp_al ?_ _ | refine (heap_setCell_other _ _ _ _ (by first | omega | (simp; omega))).trans ?_)), by (repeat (first | with_reducible exact HG.out | with_reducible exact HB1.out _ _ | with_reducible exact heap_alloc_new _ _ | refine hp_drew ?_ | refine hp_al ?_ _ | refine (heap_setCell_other _ _ _ _ (by first | omega | (simp; omega))).trans ?_))⟩)) (fun hHeld => ?_)
      refine wpAnyH_take (i := 0) (oi := ({ dst := some 17, op := Op.load 23 (Operand.tmp 3), type := 23, pos := "operators.go:127", after := #[], guard := none } : Oper)) (v := ?_) rfl (by kernel_rfl) (by kernel_rfl) (by kernel_rfl) (fun _ _ _ h => h) (Or.inl ⟨by rfl, ?_⟩) (by assumption) ?_
      rotate_left 1
      · (intro u hSw; have p0 := (cell_of_row u (w.heap.size) 0 _ _ _ hSw.1).trans (show (#[Value.int .i64 a.k, .int .i64 a.n, .string (str a.s)] : Array Value)[0]? = some (.int .i64 a.k) from rfl); have p1 := (cell_of_row u (w.heap.size) 1 _ _ _ hSw.1).trans (show (#[Value.int .i64 a.k, .int .i64 a.n, .string (str a.s)] : Array Value)[1]? = some (.int .i64 a.n) from rfl); have p2 := (cell_of_row u (w.heap.size) 2 _ _ _ hSw.1).trans (show (#[Value.int .i64 a.k, .int .i64 a.n, .string (str a.s)] : Array Value)[2]? = some (.string (str a.s)) from rfl); have q0 := (cell_of_row u (w.heap.size + 1) 0 _ _ _ hSw.2.1).trans (show (#[Value.int .i64 b.k, .int .i64 b.n, .string (str b.s)] : Array Value)[0]? = some (.int .i64 b.k) from rfl); have q1 := (cell_of_row u (w.heap.size + 1) 1 _ _ _ hSw.2.1).trans (show (#[Value.int .i64 b.k, .int .i64 b.n, .string (str b.s)] : Array Value)[1]? = some (.int .i64 b.n) from rfl); have q2 := (cell_of_row u (w.heap.size + 1) 2 _ _ _ hSw.2.1).trans (show (#[Value.int .i64 b.k, .int .i64 b.n, .string (str b.s)] : Array Value)[2]? = some (.string (str b.s)) from rfl); have g0 := cell_of_row u g 0 _ _ _ hSw.2.2; go_simp; try with_reducible rfl)
      try simp only [Act.put, List.setIfInBounds_toArray, List.set_cons_zero, List.set_cons_succ]
      refine wpAnyH_take (i := 1) (oi := ({ dst := some 18, op := Op.load 4 (Operand.tmp 2), type := 4, pos := "operators.go:127", after := #[], guard := none } : Oper)) (v := ?_) rfl (by kernel_rfl) (by kernel_rfl) (by kernel_rfl) (fun _ _ _ h => h) (Or.inl ⟨by rfl, ?_⟩) (by assumption) ?_
      rotate_left 1
      · (intro u hSw; have p0 := (cell_of_row u (w.heap.size) 0 _ _ _ hSw.1).trans (show (#[Value.int .i64 a.k, .int .i64 a.n, .string (str a.s)] : Array Value)[0]? = some (.int .i64 a.k) from rfl); have p1 := (cell_of_row u (w.heap.size) 1 _ _ _ hSw.1).trans (show (#[Value.int .i64 a.k, .int .i64 a.n, .string (str a.s)] : Array Value)[1]? = some (.int .i64 a.n) from rfl); have p2 := (cell_of_row u (w.heap.size) 2 _ _ _ hSw.1).trans (show (#[Value.int .i64 a.k, .int .i64 a.n, .string (str a.s)] : Array Value)[2]? = some (.string (str a.s)) from rfl); have q0 := (cell_of_row u (w.heap.size + 1) 0 _ _ _ hSw.2.1).trans (show (#[Value.int .i64 b.k, .int .i64 b.n, .string (str b.s)] : Array Value)[0]? = some (.int .i64 b.k) from rfl); have q1 := (cell_of_row u (w.heap.size + 1) 1 _ _ _ hSw.2.1).trans (show (#[Value.int .i64 b.k, .int .i64 b.n, .string (str b.s)] : Array Value)[1]? = some (.int .i64 b.n) from rfl); have q2 := (cell_of_row u (w.heap.size + 1) 2 _ _ _ hSw.2.1).trans (show (#[Value.int .i64 b.k, .int .i64 b.n, .string (str b.s)] : Array Value)[2]? = some (.string (str b.s)) from rfl); have g0 := cell_of_row u g 0 _ _ _ hSw.2.2; go_simp; try with_reducible rfl)
      try simp only [Act.put, List.setIfInBounds_toArray, List.set_cons_zero, List.set_cons_succ]
      refine wpAnyH_ready (rs := [2]) (by kernel_rfl) (by simp) ?_
      refine AllReadyH.cons (o := ({ dst := some 19, op := Op.call { callee := Callee.value (Operand.func 58), args := #[Operand.tmp 18], argTypes := #[4] }, type := 23, pos := "operators.go:127", after := #[{ on := 1, ground := Ground.data }], guard := none } : Oper)) rfl (fun K hK => ?_) AllReadyH.nil
      go_simp
      go_at_call 58
      refine (boolean_any _ _).mono ?_
      rintro e w' ⟨rfl, rfl⟩
      go_wp2_with fail
      refine hK.out _ _ ⟨hp_al hHeld.1 _, hp_al hHeld.2.1 _, hp_al hHeld.2.2 _⟩ (fun hHeld => ?_)
      clear hK K
      try simp only [Act.put, List.setIfInBounds_toArray, List.set_cons_zero, List.set_cons_succ]
      refine wpAnyH_take (i := 3) (oi := ({ dst := some 20, op := Op.binOp BinOp.eql 23 (Operand.tmp 17) (Operand.tmp 19) 23, type := 4, pos := "operators.go:127", after := #[{ on := 0, ground := Ground.data }, { on := 2, ground := Ground.data }], guard := none } : Oper)) (v := ?_) rfl (by kernel_rfl) (by kernel_rfl) (by kernel_rfl) (fun _ _ _ h => h) (Or.inl ⟨by rfl, ?_⟩) (by assumption) ?_
      rotate_left 1
      · (intro u hSw; go_simp; try with_reducible rfl)
      try simp only [Act.put, List.setIfInBounds_toArray, List.set_cons_zero, List.set_cons_succ]
      refine wpAnyH_take (i := 4) (oi := ({ dst := some 21, op := Op.move (Operand.tmp 20), type := 4, pos := "operators.go:127", after := #[{ on := 3, ground := Ground.data }, { on := 2, ground := Ground.chain }], guard := none } : Oper)) (v := ?_) rfl (by kernel_rfl) (by kernel_rfl) (by kernel_rfl) (fun _ _ _ h => h) (Or.inl ⟨by rfl, ?_⟩) (by assumption) ?_
      rotate_left 1
      · (intro u hSw; go_simp; try with_reducible rfl)
      try simp only [Act.put, List.setIfInBounds_toArray, List.set_cons_zero, List.set_cons_succ]
      refine wpAnyH_take (i := 5) (oi := ({ dst := some 22, op := Op.load 23 (Operand.tmp 4), type := 23, pos := "operators.go:127", after := #[{ on := 4, ground := Ground.guard }], guard := some (4, false) } : Oper)) (v := ?_) rfl (by kernel_rfl) (by kernel_rfl) (by kernel_rfl) (fun _ _ _ h => h) (Or.inl ⟨by rfl, ?_⟩) (by assumption) ?_
      rotate_left 1
      · (intro u hSw; have p0 := (cell_of_row u (w.heap.size) 0 _ _ _ hSw.1).trans (show (#[Value.int .i64 a.k, .int .i64 a.n, .string (str a.s)] : Array Value)[0]? = some (.int .i64 a.k) from rfl); have p1 := (cell_of_row u (w.heap.size) 1 _ _ _ hSw.1).trans (show (#[Value.int .i64 a.k, .int .i64 a.n, .string (str a.s)] : Array Value)[1]? = some (.int .i64 a.n) from rfl); have p2 := (cell_of_row u (w.heap.size) 2 _ _ _ hSw.1).trans (show (#[Value.int .i64 a.k, .int .i64 a.n, .string (str a.s)] : Array Value)[2]? = some (.string (str a.s)) from rfl); have q0 := (cell_of_row u (w.heap.size + 1) 0 _ _ _ hSw.2.1).trans (show (#[Value.int .i64 b.k, .int .i64 b.n, .string (str b.s)] : Array Value)[0]? = some (.int .i64 b.k) from rfl); have q1 := (cell_of_row u (w.heap.size + 1) 1 _ _ _ hSw.2.1).trans (show (#[Value.int .i64 b.k, .int .i64 b.n, .string (str b.s)] : Array Value)[1]? = some (.int .i64 b.n) from rfl); have q2 := (cell_of_row u (w.heap.size + 1) 2 _ _ _ hSw.2.1).trans (show (#[Value.int .i64 b.k, .int .i64 b.n, .string (str b.s)] : Array Value)[2]? = some (.string (str b.s)) from rfl); have g0 := cell_of_row u g 0 _ _ _ hSw.2.2; go_simp; try with_reducible rfl)
      try simp only [Act.put, List.setIfInBounds_toArray, List.set_cons_zero, List.set_cons_succ]
      refine wpAnyH_take (i := 6) (oi := ({ dst := some 23, op := Op.load 4 (Operand.tmp 2), type := 4, pos := "operators.go:127", after := #[{ on := 4, ground := Ground.guard }], guard := some (4, false) } : Oper)) (v := ?_) rfl (by kernel_rfl) (by kernel_rfl) (by kernel_rfl) (fun _ _ _ h => h) (Or.inl ⟨by rfl, ?_⟩) (by assumption) ?_
      rotate_left 1
      · (intro u hSw; have p0 := (cell_of_row u (w.heap.size) 0 _ _ _ hSw.1).trans (show (#[Value.int .i64 a.k, .int .i64 a.n, .string (str a.s)] : Array Value)[0]? = some (.int .i64 a.k) from rfl); have p1 := (cell_of_row u (w.heap.size) 1 _ _ _ hSw.1).trans (show (#[Value.int .i64 a.k, .int .i64 a.n, .string (str a.s)] : Array Value)[1]? = some (.int .i64 a.n) from rfl); have p2 := (cell_of_row u (w.heap.size) 2 _ _ _ hSw.1).trans (show (#[Value.int .i64 a.k, .int .i64 a.n, .string (str a.s)] : Array Value)[2]? = some (.string (str a.s)) from rfl); have q0 := (cell_of_row u (w.heap.size + 1) 0 _ _ _ hSw.2.1).trans (show (#[Value.int .i64 b.k, .int .i64 b.n, .string (str b.s)] : Array Value)[0]? = some (.int .i64 b.k) from rfl); have q1 := (cell_of_row u (w.heap.size + 1) 1 _ _ _ hSw.2.1).trans (show (#[Value.int .i64 b.k, .int .i64 b.n, .string (str b.s)] : Array Value)[1]? = some (.int .i64 b.n) from rfl); have q2 := (cell_of_row u (w.heap.size + 1) 2 _ _ _ hSw.2.1).trans (show (#[Value.int .i64 b.k, .int .i64 b.n, .string (str b.s)] : Array Value)[2]? = some (.string (str b.s)) from rfl); have g0 := cell_of_row u g 0 _ _ _ hSw.2.2; go_simp; try with_reducible rfl)
      try simp only [Act.put, List.setIfInBounds_toArray, List.set_cons_zero, List.set_cons_succ]
      refine wpAnyH_ready (rs := [7]) (by kernel_rfl) (by simp) ?_
      refine AllReadyH.cons (o := ({ dst := some 24, op := Op.call { callee := Callee.value (Operand.func 58), args := #[Operand.tmp 23], argTypes := #[4] }, type := 23, pos := "operators.go:127", after := #[{ on := 6, ground := Ground.data }, { on := 4, ground := Ground.chain }, { on := 4, ground := Ground.guard }], guard := some (4, false) } : Oper)) rfl (fun K hK => ?_) AllReadyH.nil
      go_simp
      go_at_call 58
      refine (boolean_any _ _).mono ?_
      rintro e w' ⟨rfl, rfl⟩
      go_wp2_with fail
      refine hK.out _ _ ⟨hp_al hHeld.1 _, hp_al hHeld.2.1 _, hp_al hHeld.2.2 _⟩ (fun hHeld => ?_)
      clear hK K
      try simp only [Act.put, List.setIfInBounds_toArray, List.set_cons_zero, List.set_cons_succ]
      refine wpAnyH_take (i := 8) (oi := ({ dst := some 25, op := Op.binOp BinOp.eql 23 (Operand.tmp 22) (Operand.tmp 24) 23, type := 4, pos := "operators.go:127", after := #[{ on := 5, ground := Ground.data }, { on := 7, ground := Ground.data }, { on := 4, ground := Ground.guard }], guard := some (4, false) } : Oper)) (v := ?_) rfl (by kernel_rfl) (by kernel_rfl) (by kernel_rfl) (fun _ _ _ h => h) (Or.inl ⟨by rfl, ?_⟩) (by assumption) ?_
      rotate_left 1
      · (intro u hSw; go_simp; try with_reducible rfl)
      try simp only [Act.put, List.setIfInBounds_toArray, List.set_cons_zero, List.set_cons_succ]
      refine wpAnyH_take (i := 9) (oi := ({ dst := some 26, op := Op.pick (Operand.tmp 21) (Operand.const (Value.bool true)) (Operand.tmp 25), type := 4, pos := "operators.go:127", after := #[{ on := 4, ground := Ground.data }, { on := 8, ground := Ground.data }], guard := none } : Oper)) (v := ?_) rfl (by kernel_rfl) (by kernel_rfl) (by kernel_rfl) (fun _ _ _ h => h) (Or.inl ⟨by rfl, ?_⟩) (by assumption) ?_
      rotate_left 1
      · (intro u hSw; go_simp; try with_reducible rfl)
      try simp only [Act.put, List.setIfInBounds_toArray, List.set_cons_zero, List.set_cons_succ]
      refine wpAnyH_take (i := 10) (oi := ({ dst := some 16, op := Op.assign (Operand.tmp 26), type := 4, pos := "operators.go:127", after := #[{ on := 9, ground := Ground.data }, { on := 7, ground := Ground.chain }], guard := none } : Oper)) (v := ?_) rfl (by kernel_rfl) (by kernel_rfl) (by kernel_rfl) (fun _ _ _ h => h) (Or.inl ⟨by rfl, ?_⟩) (by assumption) ?_
      rotate_left 1
      · (intro u hSw; go_simp; try with_reducible rfl)
      try simp only [Act.put, List.setIfInBounds_toArray, List.set_cons_zero, List.set_cons_succ]
      refine wpAnyH_done (by kernel_rfl) ?_ _
      go_wp2_with (first
        | (go_at_call 65; refine (HNA.out _).mono ?_; rintro e w' ⟨rfl, rfl⟩; clear HNA)
        | (go_at_call 65; refine (HNB.out _).mono ?_; rintro e w' ⟨rfl, rfl⟩)
        | (go_at_call 58; refine (boolean_any _ _).mono ?_; rintro e w' ⟨rfl, rfl⟩))
      refine bodyPost_ret (v := .tuple #[.agg #[.int .i64 3, .int .i64 1, .string ⟨#[]⟩], .int .i64 0]) (by simp [results, Try.results86, go_sem]) rfl ⟨?_, ?_⟩
      · rfl
      · (repeat (first | exact Below.refl _ _ | exact HBW.out | refine bl_al ?_ _ | refine Below.setCell ?_ (by first | omega | (simp; done) | (simp; omega)) _ | refine Below.drew ?_))
end Go.Proofs.Ytbhilmgpmebaiaa
