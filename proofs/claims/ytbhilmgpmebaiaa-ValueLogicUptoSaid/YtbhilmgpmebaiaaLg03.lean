import Derived.Test.YtbhilmgpmebaiaaLg02
namespace Go.Proofs.Ytbhilmgpmebaiaa
open Go.RowKit
attribute [local go_sem ↓] eql32_eq neq32_eq
theorem hp4 (w : World) (a b c d : Obj) : ((((w.alloc a).alloc b).alloc c).alloc d).heap[w.heap.size + 1 + 1 + 1]? = some d := by
  have := heap_alloc_new (((w.alloc a).alloc b).alloc c) d
  simpa using this
theorem run_eqT (u : World) (a : Val) (b : Bool) (ha : Rng a.s) : (eql32 (.agg #[.int .i64 a.k, .int .i64 a.n, .string (str a.s)]) (.agg #[.int .i64 3, .int .i64 (if b = true then 1 else 0), .string ⟨#[]⟩])).run Try.prog u = .ok (.bool (decide (a = truV b))) u := run_eql32 u a (truV b) ha (fun x hx => by simp [truV] at hx)
def notV (a : Val) : Val × Int := if okK 3 a.k = false then (nulV, 22) else if a = nulV then (nulV, 0) else (truV (decide (a = truV false)), 0)
set_option maxRecDepth 100000 in
set_option maxHeartbeats 1600000 in
theorem not_any (a c : Val) (w : World) (ha : Rng a.s) : Calls Try.prog 73 #[.agg #[.int .i64 a.k, .int .i64 a.n, .string (str a.s)], .agg #[.int .i64 c.k, .int .i64 c.n, .string (str c.s)]] w fun e w' => e = .returned (.tuple #[.agg #[.int .i64 ((notV a).1).k, .int .i64 ((notV a).1).n, .string (str ((notV a).1).s)], .int .i64 (notV a).2]) ∧ Below w.heap.size w w' := by
  have HA := fun H T w h => allOf1_any 3 a.k H T w h
  have HNA := fun w => isNull_any a w ha
  have he := fun u => run_eqT u a false ha
  simp only [if_neg (show ¬ false = true by decide)] at he
  cases hok : okK 3 a.k with
  | false =>
    simp only [hok] at HA
    replace HA := Lib.hid HA
    rw [show notV a = (nulV, 22) by rw [notV, if_pos hok]]
    clear hok HNA he
    go_enter Try.func73, Try.ntmps73
    go_wp2_with (go_at_call 55; refine (HA.out _ _ _ (hp4 _ _ _ _ _)).mono ?_; rintro e w' ⟨rfl, rfl⟩)
    refine bodyPost_ret (v := .tuple #[.agg #[.int .i64 0, .int .i64 0, .string ⟨#[]⟩], .int .i64 22]) (by simp [results, Try.results73, go_sem]) rfl ⟨?_, ?_⟩
    · rfl
    · (repeat (first | exact Below.refl _ _ | exact HBW.out | refine bl_al ?_ _ | refine Below.setCell ?_ (by first | omega | (simp; done) | (simp; omega)) _ | refine Below.drew ?_))
  | true =>
    simp only [hok] at HA
    replace HA := Lib.hid HA
    by_cases na : a = nulV
    · rw [show notV a = (nulV, 0) by rw [notV, hok, if_neg (by decide), if_pos na]]
      simp only [decide_eq_true na] at HNA
      replace HNA := Lib.hid HNA
      clear hok na he
      go_enter Try.func73, Try.ntmps73
      go_wp2_with (first
        | (go_at_call 55; refine (HA.out _ _ _ (hp4 _ _ _ _ _)).mono ?_; rintro e w' ⟨rfl, rfl⟩)
        | (go_at_call 65; refine (HNA.out _).mono ?_; rintro e w' ⟨rfl, rfl⟩))
      refine bodyPost_ret (v := .tuple #[.agg #[.int .i64 0, .int .i64 0, .string ⟨#[]⟩], .int .i64 0]) (by simp [results, Try.results73, go_sem]) rfl ⟨?_, ?_⟩
      · rfl
      · (repeat (first | exact Below.refl _ _ | exact HBW.out | refine bl_al ?_ _ | refine Below.setCell ?_ (by first | omega | (simp; done) | (simp; omega)) _ | refine Below.drew ?_))
    · rw [show notV a = (truV (decide (a = truV false)), 0) by rw [notV, hok, if_neg (by decide), if_neg na]]
      simp only [decide_eq_false na] at HNA
      replace HNA := Lib.hid HNA
      clear hok na
      generalize decide (a = truV false) = t at *
      go_enter Try.func73, Try.ntmps73
      go_wp2_with (first
        | (go_at_call 55; refine (HA.out _ _ _ (hp4 _ _ _ _ _)).mono ?_; rintro e w' ⟨rfl, rfl⟩)
        | (go_at_call 65; refine (HNA.out _).mono ?_; rintro e w' ⟨rfl, rfl⟩))
      cases t
      · skip
        refine wp_region_held_drew (S := fun u => u.heap[w.heap.size]? = some (BX a.k a.n (str a.s))) (by kernel_rfl) ((by (repeat (first | with_reducible exact HG.out | with_reducible exact heap_alloc_new _ _ | refine hp_drew ?_ | refine hp_al ?_ _ | refine (heap_setCell_other _ _ _ _ (by first | omega | (simp; omega))).trans ?_)))) (fun hHeld => ?_)
        refine wpAnyH_take (i := 0) (oi := ({ dst := some 15, op := Op.load 23 (Operand.tmp 2), type := 23, pos := "operators.go:118", after := #[], guard := none } : Oper)) (v := ?_) rfl (by kernel_rfl) (by kernel_rfl) (by kernel_rfl) (fun _ _ _ h => h) (Or.inl ⟨by rfl, ?_⟩) (by assumption) ?_
        rotate_left 1
        · (intro u hSw; have p0 := (cell_of_row u (w.heap.size) 0 _ _ _ hSw).trans (show (#[Value.int .i64 a.k, .int .i64 a.n, .string (str a.s)] : Array Value)[0]? = some (.int .i64 a.k) from rfl); have p1 := (cell_of_row u (w.heap.size) 1 _ _ _ hSw).trans (show (#[Value.int .i64 a.k, .int .i64 a.n, .string (str a.s)] : Array Value)[1]? = some (.int .i64 a.n) from rfl); have p2 := (cell_of_row u (w.heap.size) 2 _ _ _ hSw).trans (show (#[Value.int .i64 a.k, .int .i64 a.n, .string (str a.s)] : Array Value)[2]? = some (.string (str a.s)) from rfl); go_simp; try with_reducible rfl)
        try simp only [Act.put, List.setIfInBounds_toArray, List.set_cons_zero, List.set_cons_succ]
        refine wpAnyH_ready (rs := [1]) (by kernel_rfl) (by simp) ?_
        refine AllReadyH.cons (o := ({ dst := some 16, op := Op.call { callee := Callee.value (Operand.func 58), args := #[Operand.const (Value.bool false)], argTypes := #[4] }, type := 23, pos := "operators.go:118", after := #[], guard := none } : Oper)) rfl (fun K hK => ?_) AllReadyH.nil
        go_simp
        go_at_call 58
        refine (boolean_any _ _).mono ?_
        rintro e w' ⟨rfl, rfl⟩
        go_wp2_with fail
        refine hK.out _ _ (hp_al hHeld _) (fun hHeld => ?_)
        clear hK K
        try simp only [Act.put, List.setIfInBounds_toArray, List.set_cons_zero, List.set_cons_succ]
        refine wpAnyH_take (i := 2) (oi := ({ dst := some 17, op := Op.binOp BinOp.eql 23 (Operand.tmp 15) (Operand.tmp 16) 23, type := 4, pos := "operators.go:118", after := #[{ on := 0, ground := Ground.data }, { on := 1, ground := Ground.data }], guard := none } : Oper)) (v := ?_) rfl (by kernel_rfl) (by kernel_rfl) (by kernel_rfl) (fun _ _ _ h => h) (Or.inl ⟨by rfl, ?_⟩) (by assumption) ?_
        rotate_left 1
        · (intro u hSw; go_simp; try with_reducible rfl)
        try simp only [Act.put, List.setIfInBounds_toArray, List.set_cons_zero, List.set_cons_succ]
        refine wpAnyH_ready (rs := [3]) (by kernel_rfl) (by simp) ?_
        refine AllReadyH.cons (o := ({ dst := some 18, op := Op.call { callee := Callee.value (Operand.func 58), args := #[Operand.tmp 17], argTypes := #[4] }, type := 23, pos := "operators.go:118", after := #[{ on := 2, ground := Ground.data }, { on := 1, ground := Ground.chain }], guard := none } : Oper)) rfl (fun K hK => ?_) AllReadyH.nil
        go_simp
        go_at_call 58
        refine (boolean_any _ _).mono ?_
        rintro e w' ⟨rfl, rfl⟩
        go_wp2_with fail
        refine hK.out _ _ (hp_al hHeld _) (fun hHeld => ?_)
        clear hK K
        try simp only [Act.put, List.setIfInBounds_toArray, List.set_cons_zero, List.set_cons_succ]
        refine wpAnyH_ready (rs := [4]) (by kernel_rfl) (by simp) ?_
        refine AllReadyH.cons (o := ({ dst := none, op := Op.store 23 (Operand.tmp 4) (Operand.tmp 18), type := 0, pos := "operators.go:118", after := #[{ on := 3, ground := Ground.data }, { on := 3, ground := Ground.chain }, { on := 0, ground := Ground.phase }, { on := 1, ground := Ground.phase }, { on := 2, ground := Ground.phase }, { on := 3, ground := Ground.phase }], guard := none } : Oper)) rfl (fun K hK => ?_) AllReadyH.nil
        go_simp
        refine hK.out _ _ (by (repeat (first | with_reducible exact HG.out | with_reducible exact heap_alloc_new _ _ | refine hp_drew ?_ | refine hp_al ?_ _ | refine (heap_setCell_other _ _ _ _ (by first | omega | (simp; omega))).trans ?_))) (fun hHeld => ?_)
        clear hK K
        try simp only [Act.put]
        refine wpAnyH_take (i := 5) (oi := ({ dst := some 5, op := Op.assign (Operand.const (Value.int IntKind.i64 0)), type := 25, pos := "operators.go:118", after := #[{ on := 4, ground := Ground.chain }, { on := 0, ground := Ground.phase }, { on := 1, ground := Ground.phase }, { on := 2, ground := Ground.phase }, { on := 3, ground := Ground.phase }, { on := 4, ground := Ground.phase }], guard := none } : Oper)) (v := ?_) rfl (by kernel_rfl) (by kernel_rfl) (by kernel_rfl) (fun _ _ _ h => h) (Or.inl ⟨by rfl, ?_⟩) (by assumption) ?_
        rotate_left 1
        · (intro u hSw; go_simp; try with_reducible rfl)
        try simp only [Act.put, List.setIfInBounds_toArray, List.set_cons_zero, List.set_cons_succ]
        refine wpAnyH_done (by kernel_rfl) ?_ _
        go_wp2_with fail
        refine bodyPost_ret (v := .tuple #[.agg #[.int .i64 3, .int .i64 0, .string ⟨#[]⟩], .int .i64 0]) (by simp [results, Try.results73, go_sem]) rfl ⟨?_, ?_⟩
        · rfl
        · (repeat (first | exact Below.refl _ _ | exact HBW.out | refine bl_al ?_ _ | refine Below.setCell ?_ (by first | omega | (simp; done) | (simp; omega)) _ | refine Below.drew ?_))
      · skip
        refine wp_region_held_drew (S := fun u => u.heap[w.heap.size]? = some (BX a.k a.n (str a.s))) (by kernel_rfl) ((by (repeat (first | with_reducible exact HG.out | with_reducible exact heap_alloc_new _ _ | refine hp_drew ?_ | refine hp_al ?_ _ | refine (heap_setCell_other _ _ _ _ (by first | omega | (simp; omega))).trans ?_)))) (fun hHeld => ?_)
        refine wpAnyH_take (i := 0) (oi := ({ dst := some 15, op := Op.load 23 (Operand.tmp 2), type := 23, pos := "operators.go:118", after := #[], guard := none } : Oper)) (v := ?_) rfl (by kernel_rfl) (by kernel_rfl) (by kernel_rfl) (fun _ _ _ h => h) (Or.inl ⟨by rfl, ?_⟩) (by assumption) ?_
        rotate_left 1
        · (intro u hSw; have p0 := (cell_of_row u (w.heap.size) 0 _ _ _ hSw).trans (show (#[Value.int .i64 a.k, .int .i64 a.n, .string (str a.s)] : Array Value)[0]? = some (.int .i64 a.k) from rfl); have p1 := (cell_of_row u (w.heap.size) 1 _ _ _ hSw).trans (show (#[Value.int .i64 a.k, .int .i64 a.n, .string (str a.s)] : Array Value)[1]? = some (.int .i64 a.n) from rfl); have p2 := (cell_of_row u (w.heap.size) 2 _ _ _ hSw).trans (show (#[Value.int .i64 a.k, .int .i64 a.n, .string (str a.s)] : Array Value)[2]? = some (.string (str a.s)) from rfl); go_simp; try with_reducible rfl)
        try simp only [Act.put, List.setIfInBounds_toArray, List.set_cons_zero, List.set_cons_succ]
        refine wpAnyH_ready (rs := [1]) (by kernel_rfl) (by simp) ?_
        refine AllReadyH.cons (o := ({ dst := some 16, op := Op.call { callee := Callee.value (Operand.func 58), args := #[Operand.const (Value.bool false)], argTypes := #[4] }, type := 23, pos := "operators.go:118", after := #[], guard := none } : Oper)) rfl (fun K hK => ?_) AllReadyH.nil
        go_simp
        go_at_call 58
        refine (boolean_any _ _).mono ?_
        rintro e w' ⟨rfl, rfl⟩
        go_wp2_with fail
        refine hK.out _ _ (hp_al hHeld _) (fun hHeld => ?_)
        clear hK K
        try simp only [Act.put, List.setIfInBounds_toArray, List.set_cons_zero, List.set_cons_succ]
        refine wpAnyH_take (i := 2) (oi := ({ dst := some 17, op := Op.binOp BinOp.eql 23 (Operand.tmp 15) (Operand.tmp 16) 23, type := 4, pos := "operators.go:118", after := #[{ on := 0, ground := Ground.data }, { on := 1, ground := Ground.data }], guard := none } : Oper)) (v := ?_) rfl (by kernel_rfl) (by kernel_rfl) (by kernel_rfl) (fun _ _ _ h => h) (Or.inl ⟨by rfl, ?_⟩) (by assumption) ?_
        rotate_left 1
        · (intro u hSw; go_simp; try with_reducible rfl)
        try simp only [Act.put, List.setIfInBounds_toArray, List.set_cons_zero, List.set_cons_succ]
        refine wpAnyH_ready (rs := [3]) (by kernel_rfl) (by simp) ?_
        refine AllReadyH.cons (o := ({ dst := some 18, op := Op.call { callee := Callee.value (Operand.func 58), args := #[Operand.tmp 17], argTypes := #[4] }, type := 23, pos := "operators.go:118", after := #[{ on := 2, ground := Ground.data }, { on := 1, ground := Ground.chain }], guard := none } : Oper)) rfl (fun K hK => ?_) AllReadyH.nil
        go_simp
        go_at_call 58
        refine (boolean_any _ _).mono ?_
        rintro e w' ⟨rfl, rfl⟩
        go_wp2_with fail
        refine hK.out _ _ (hp_al hHeld _) (fun hHeld => ?_)
        clear hK K
        try simp only [Act.put, List.setIfInBounds_toArray, List.set_cons_zero, List.set_cons_succ]
        refine wpAnyH_ready (rs := [4]) (by kernel_rfl) (by simp) ?_
        refine AllReadyH.cons (o := ({ dst := none, op := Op.store 23 (Operand.tmp 4) (Operand.tmp 18), type := 0, pos := "operators.go:118", after := #[{ on := 3, ground := Ground.data }, { on := 3, ground := Ground.chain }, { on := 0, ground := Ground.phase }, { on := 1, ground := Ground.phase }, { on := 2, ground := Ground.phase }, { on := 3, ground := Ground.phase }], guard := none } : Oper)) rfl (fun K hK => ?_) AllReadyH.nil
        go_simp
        refine hK.out _ _ (by (repeat (first | with_reducible exact HG.out | with_reducible exact heap_alloc_new _ _ | refine hp_drew ?_ | refine hp_al ?_ _ | refine (heap_setCell_other _ _ _ _ (by first | omega | (simp; omega))).trans ?_))) (fun hHeld => ?_)
        clear hK K
        try simp only [Act.put]
        refine wpAnyH_take (i := 5) (oi := ({ dst := some 5, op := Op.assign (Operand.const (Value.int IntKind.i64 0)), type := 25, pos := "operators.go:118", after := #[{ on := 4, ground := Ground.chain }, { on := 0, ground := Ground.phase }, { on := 1, ground := Ground.phase }, { on := 2, ground := Ground.phase }, { on := 3, ground := Ground.phase }, { on := 4, ground := Ground.phase }], guard := none } : Oper)) (v := ?_) rfl (by kernel_rfl) (by kernel_rfl) (by kernel_rfl) (fun _ _ _ h => h) (Or.inl ⟨by rfl, ?_⟩) (by assumption) ?_
        rotate_left 1
        · (intro u hSw; go_simp; try with_reducible rfl)
        try simp only [Act.put, List.setIfInBounds_toArray, List.set_cons_zero, List.set_cons_succ]
        refine wpAnyH_done (by kernel_rfl) ?_ _
        go_wp2_with fail
        refine bodyPost_ret (v := .tuple #[.agg #[.int .i64 3, .int .i64 1, .string ⟨#[]⟩], .int .i64 0]) (by simp [results, Try.results73, go_sem]) rfl ⟨?_, ?_⟩
        · rfl
        · (repeat (first | exact Below.refl _ _ | exact HBW.out | refine bl_al ?_ _ | refine Below.setCell ?_ (by first | omega | (simp; done) | (simp; omega)) _ | refine Below.drew ?_))
end Go.Proofs.Ytbhilmgpmebaiaa
