/-
  ValueOrders: of any two values and any two rows of values (of bulk at most 1048576 together, such as may not be, too) Compare, May and CompareRows answer as the document's own answer has it; the arguments stay. Condition: the second form's bound.
-/
import Derived.Test.YtkcjegdmcboohaaVp00
import Derived.Test.YtkcjegdmcboohaaVp07
import Derived.WalkKit
import Derived.ProofKit
import Derived.OpenShut
namespace Go.Proofs.Ytkcjegdmcboohaa
open Go.RowKit
set_option maxRecDepth 100000 in
set_option maxHeartbeats 12800000 in
theorem orders_walk (a b : Val) (v1 v2 : Value) (r s : List Val) (w : World) (ha : a.OK) (hb0 : b.OK) (hal : a.s.length ≤ 1099511627776) (h1 : Rw w v1 r) (h2 : Rw w v2 s) (ho1 : ∀ x ∈ r, x.OK ∧ x.s.length ≤ 1099511627776) (ho2 : ∀ x ∈ s, x.OK) (hl : r.length ≤ 1073741824) (hm : s.length ≤ 1073741824) :
    Calls Try.prog 5 #[.agg #[.int .i64 a.k, .int .i64 a.n, .string (str a.s)], .agg #[.int .i64 b.k, .int .i64 b.n, .string (str b.s)], v1, v2] w fun e w' => e = .returned (.bool true) ∧ Below w.heap.size w w' := by
  have hT := (two_new w a b).drew
  have HT := Lib.hid hT
  have HC := Lib.hid (fun u => compare_any a b u ha.1 hb0.1)
  have HRC := Lib.hid (fun u => rcompare_any a b u ha hb0 hal)
  have HM := Lib.hid (fun u => may_any a u ha.1)
  have HRM := Lib.hid (fun u => rmay_any a u ha.1)
  have HCR := Lib.hid (fun u (hu : Below w.heap.size w u) => compareRows_any v1 v2 r s u (h1.below hu) (h2.below hu) (fun x hx => (ho1 x hx).1) ho2 hl hm)
  have HRR := Lib.hid (fun u (hu : Below w.heap.size w u) => rcompareRows_any v1 v2 r s u (h1.below hu) (h2.below hu) ho1 ho2 hl hm)
  generalize cmpV a b = c1 at *
  generalize mayV a = c2 at *
  generalize cmpR r s = c3 at *
  clear hT ha hb0 hal h1 h2 ho1 ho2 hl hm
  go_enter Try.func5, Try.ntmps5
  go_wp2_with fail
  refine wp_region_held_drew (S := fun u => Two w u a b) (by kernel_rfl) (HT.out) (fun hHeld => ?_)
  refine wpAnyH_ready (rs := [0]) (by kernel_rfl) (by simp) ?_
  refine AllReadyH.cons (o := ({ dst := some 9, op := Op.call { callee := Callee.value (Operand.func 12), args := #[], argTypes := #[] }, type := 4, pos := "law.go:45", after := #[], guard := none } : Oper)) rfl (fun K hK => ?_) AllReadyH.nil
  go_simp
  go_at_call 12
  refine (awake_any _).mono ?_
  rintro e w' ⟨rfl, hb⟩
  go_wp2_with fail
  refine hK.out _ _ (hHeld.below hb) (fun hHeld => ?_)
  clear hK K
  try simp only [Act.put, List.setIfInBounds_toArray, List.set_cons_zero, List.set_cons_succ]
  refine wpAnyH_take (i := 1) (oi := ({ dst := some 10, op := Op.move (Operand.tmp 9), type := 4, pos := "law.go:45", after := #[{ on := 0, ground := Ground.data }, { on := 0, ground := Ground.chain }], guard := none } : Oper)) (v := ?_) rfl (by kernel_rfl) (by kernel_rfl) (by kernel_rfl) (fun _ _ _ h => h) (Or.inl ⟨by rfl, ?_⟩) (by assumption) ?_
  rotate_left 1
  · (intro u hSw; go_simp; try with_reducible rfl)
  try simp only [Act.put, List.setIfInBounds_toArray, List.set_cons_zero, List.set_cons_succ]
  refine wpAnyH_take (i := 2) (oi := ({ dst := some 11, op := Op.load 23 (Operand.tmp 4), type := 23, pos := "law.go:45", after := #[{ on := 1, ground := Ground.guard }], guard := some (1, true) } : Oper)) (v := ?_) rfl (by kernel_rfl) (by kernel_rfl) (by kernel_rfl) (fun _ _ _ h => h) (Or.inl ⟨by rfl, ?_⟩) (by assumption) ?_
  rotate_left 1
  · (intro u hSw; have p0 := (cell_of_row u (w.heap.size) 0 _ _ _ hSw.1).trans (show (#[Value.int .i64 a.k, .int .i64 a.n, .string (str a.s)] : Array Value)[0]? = some (.int .i64 a.k) from rfl); have p1 := (cell_of_row u (w.heap.size) 1 _ _ _ hSw.1).trans (show (#[Value.int .i64 a.k, .int .i64 a.n, .string (str a.s)] : Array Value)[1]? = some (.int .i64 a.n) from rfl); have p2 := (cell_of_row u (w.heap.size) 2 _ _ _ hSw.1).trans (show (#[Value.int .i64 a.k, .int .i64 a.n, .string (str a.s)] : Array Value)[2]? = some (.string (str a.s)) from rfl); have q0 := (cell_of_row u (w.heap.size + 1) 0 _ _ _ hSw.2.1).trans (show (#[Value.int .i64 b.k, .int .i64 b.n, .string (str b.s)] : Array Value)[0]? = some (.int .i64 b.k) from rfl); have q1 := (cell_of_row u (w.heap.size + 1) 1 _ _ _ hSw.2.1).trans (show (#[Value.int .i64 b.k, .int .i64 b.n, .string (str b.s)] : Array Value)[1]? = some (.int .i64 b.n) from rfl); have q2 := (cell_of_row u (w.heap.size + 1) 2 _ _ _ hSw.2.1).trans (show (#[Value.int .i64 b.k, .int .i64 b.n, .string (str b.s)] : Array Value)[2]? = some (.string (str b.s)) from rfl); go_simp; try with_reducible rfl)
  try simp only [Act.put, List.setIfInBounds_toArray, List.set_cons_zero, List.set_cons_succ]
  refine wpAnyH_take (i := 3) (oi := ({ dst := some 12, op := Op.load 23 (Operand.tmp 5), type := 23, pos := "law.go:45", after := #[{ on := 1, ground := Ground.guard }], guard := some (1, true) } : Oper)) (v := ?_) rfl (by kernel_rfl) (by kernel_rfl) (by kernel_rfl) (fun _ _ _ h => h) (Or.inl ⟨by rfl, ?_⟩) (by assumption) ?_
  rotate_left 1
  · (intro u hSw; have p0 := (cell_of_row u (w.heap.size) 0 _ _ _ hSw.1).trans (show (#[Value.int .i64 a.k, .int .i64 a.n, .string (str a.s)] : Array Value)[0]? = some (.int .i64 a.k) from rfl); have p1 := (cell_of_row u (w.heap.size) 1 _ _ _ hSw.1).trans (show (#[Value.int .i64 a.k, .int .i64 a.n, .string (str a.s)] : Array Value)[1]? = some (.int .i64 a.n) from rfl); have p2 := (cell_of_row u (w.heap.size) 2 _ _ _ hSw.1).trans (show (#[Value.int .i64 a.k, .int .i64 a.n, .string (str a.s)] : Array Value)[2]? = some (.string (str a.s)) from rfl); have q0 := (cell_of_row u (w.heap.size + 1) 0 _ _ _ hSw.2.1).trans (show (#[Value.int .i64 b.k, .int .i64 b.n, .string (str b.s)] : Array Value)[0]? = some (.int .i64 b.k) from rfl); have q1 := (cell_of_row u (w.heap.size + 1) 1 _ _ _ hSw.2.1).trans (show (#[Value.int .i64 b.k, .int .i64 b.n, .string (str b.s)] : Array Value)[1]? = some (.int .i64 b.n) from rfl); have q2 := (cell_of_row u (w.heap.size + 1) 2 _ _ _ hSw.2.1).trans (show (#[Value.int .i64 b.k, .int .i64 b.n, .string (str b.s)] : Array Value)[2]? = some (.string (str b.s)) from rfl); go_simp; try with_reducible rfl)
  try simp only [Act.put, List.setIfInBounds_toArray, List.set_cons_zero, List.set_cons_succ]
  refine wpAnyH_take (i := 5) (oi := ({ dst := some 14, op := Op.load 23 (Operand.tmp 4), type := 23, pos := "law.go:45", after := #[{ on := 1, ground := Ground.guard }], guard := some (1, true) } : Oper)) (v := ?_) rfl (by kernel_rfl) (by kernel_rfl) (by kernel_rfl) (fun _ _ _ h => h) (Or.inl ⟨by rfl, ?_⟩) (by assumption) ?_
  rotate_left 1
  · (intro u hSw; have p0 := (cell_of_row u (w.heap.size) 0 _ _ _ hSw.1).trans (show (#[Value.int .i64 a.k, .int .i64 a.n, .string (str a.s)] : Array Value)[0]? = some (.int .i64 a.k) from rfl); have p1 := (cell_of_row u (w.heap.size) 1 _ _ _ hSw.1).trans (show (#[Value.int .i64 a.k, .int .i64 a.n, .string (str a.s)] : Array Value)[1]? = some (.int .i64 a.n) from rfl); have p2 := (cell_of_row u (w.heap.size) 2 _ _ _ hSw.1).trans (show (#[Value.int .i64 a.k, .int .i64 a.n, .string (str a.s)] : Array Value)[2]? = some (.string (str a.s)) from rfl); have q0 := (cell_of_row u (w.heap.size + 1) 0 _ _ _ hSw.2.1).trans (show (#[Value.int .i64 b.k, .int .i64 b.n, .string (str b.s)] : Array Value)[0]? = some (.int .i64 b.k) from rfl); have q1 := (cell_of_row u (w.heap.size + 1) 1 _ _ _ hSw.2.1).trans (show (#[Value.int .i64 b.k, .int .i64 b.n, .string (str b.s)] : Array Value)[1]? = some (.int .i64 b.n) from rfl); have q2 := (cell_of_row u (w.heap.size + 1) 2 _ _ _ hSw.2.1).trans (show (#[Value.int .i64 b.k, .int .i64 b.n, .string (str b.s)] : Array Value)[2]? = some (.string (str b.s)) from rfl); go_simp; try with_reducible rfl)
  try simp only [Act.put, List.setIfInBounds_toArray, List.set_cons_zero, List.set_cons_succ]
  refine wpAnyH_take (i := 6) (oi := ({ dst := some 15, op := Op.load 23 (Operand.tmp 5), type := 23, pos := "law.go:45", after := #[{ on := 1, ground := Ground.guard }], guard := some (1, true) } : Oper)) (v := ?_) rfl (by kernel_rfl) (by kernel_rfl) (by kernel_rfl) (fun _ _ _ h => h) (Or.inl ⟨by rfl, ?_⟩) (by assumption) ?_
  rotate_left 1
  · (intro u hSw; have p0 := (cell_of_row u (w.heap.size) 0 _ _ _ hSw.1).trans (show (#[Value.int .i64 a.k, .int .i64 a.n, .string (str a.s)] : Array Value)[0]? = some (.int .i64 a.k) from rfl); have p1 := (cell_of_row u (w.heap.size) 1 _ _ _ hSw.1).trans (show (#[Value.int .i64 a.k, .int .i64 a.n, .string (str a.s)] : Array Value)[1]? = some (.int .i64 a.n) from rfl); have p2 := (cell_of_row u (w.heap.size) 2 _ _ _ hSw.1).trans (show (#[Value.int .i64 a.k, .int .i64 a.n, .string (str a.s)] : Array Value)[2]? = some (.string (str a.s)) from rfl); have q0 := (cell_of_row u (w.heap.size + 1) 0 _ _ _ hSw.2.1).trans (show (#[Value.int .i64 b.k, .int .i64 b.n, .string (str b.s)] : Array Value)[0]? = some (.int .i64 b.k) from rfl); have q1 := (cell_of_row u (w.heap.size + 1) 1 _ _ _ hSw.2.1).trans (show (#[Value.int .i64 b.k, .int .i64 b.n, .string (str b.s)] : Array Value)[1]? = some (.int .i64 b.n) from rfl); have q2 := (cell_of_row u (w.heap.size + 1) 2 _ _ _ hSw.2.1).trans (show (#[Value.int .i64 b.k, .int .i64 b.n, .string (str b.s)] : Array Value)[2]? = some (.string (str b.s)) from rfl); go_simp; try with_reducible rfl)
  try simp only [Act.put, List.setIfInBounds_toArray, List.set_cons_zero, List.set_cons_succ]
  refine wpAnyH_ready (rs := [4]) (by kernel_rfl) (by simp) ?_
  refine AllReadyH.cons (o := ({ dst := some 13, op := Op.call { callee := Callee.value (Operand.func 18), args := #[Operand.tmp 11, Operand.tmp 12], argTypes := #[23, 23] }, type := 3, pos := "law.go:45", after := #[{ on := 2, ground := Ground.data }, { on := 3, ground := Ground.data }, { on := 1, ground := Ground.chain }, { on := 1, ground := Ground.guard }], guard := some (1, true) } : Oper)) rfl (fun K hK => ?_) AllReadyH.nil
  go_simp
  go_at_call 18
  refine (HC.out _).mono ?_
  rintro e w' ⟨rfl, hb⟩
  go_wp2_with fail
  refine hK.out _ _ (hHeld.below hb) (fun hHeld => ?_)
  clear hK K
  try simp only [Act.put, List.setIfInBounds_toArray, List.set_cons_zero, List.set_cons_succ]
  refine wpAnyH_ready (rs := [7]) (by kernel_rfl) (by simp) ?_
  refine AllReadyH.cons (o := ({ dst := some 16, op := Op.call { callee := Callee.value (Operand.func 19), args := #[Operand.tmp 14, Operand.tmp 15], argTypes := #[23, 23] }, type := 3, pos := "law.go:45", after := #[{ on := 5, ground := Ground.data }, { on := 6, ground := Ground.data }, { on := 4, ground := Ground.chain }, { on := 1, ground := Ground.guard }], guard := some (1, true) } : Oper)) rfl (fun K hK => ?_) AllReadyH.nil
  go_simp
  go_at_call 19
  refine (HRC.out _).mono ?_
  rintro e w' ⟨rfl, hb⟩
  go_wp2_with fail
  refine hK.out _ _ (hHeld.below hb) (fun hHeld => ?_)
  clear hK K
  try simp only [Act.put, List.setIfInBounds_toArray, List.set_cons_zero, List.set_cons_succ]
  refine wpAnyH_take (i := 8) (oi := ({ dst := some 17, op := Op.binOp BinOp.eql 3 (Operand.tmp 13) (Operand.tmp 16) 3, type := 4, pos := "law.go:45", after := #[{ on := 4, ground := Ground.data }, { on := 7, ground := Ground.data }, { on := 1, ground := Ground.guard }], guard := some (1, true) } : Oper)) (v := ?_) rfl (by kernel_rfl) (by kernel_rfl) (by kernel_rfl) (fun _ _ _ h => h) (Or.inl ⟨by rfl, ?_⟩) (by assumption) ?_
  rotate_left 1
  · (intro u hSw; go_simp; try with_reducible rfl)
  try simp only [Act.put, List.setIfInBounds_toArray, List.set_cons_zero, List.set_cons_succ]
  refine wpAnyH_take (i := 9) (oi := ({ dst := some 18, op := Op.pick (Operand.tmp 10) (Operand.tmp 17) (Operand.const (Value.bool false)), type := 4, pos := "law.go:45", after := #[{ on := 1, ground := Ground.data }, { on := 8, ground := Ground.data }], guard := none } : Oper)) (v := ?_) rfl (by kernel_rfl) (by kernel_rfl) (by kernel_rfl) (fun _ _ _ h => h) (Or.inl ⟨by rfl, ?_⟩) (by assumption) ?_
  rotate_left 1
  · (intro u hSw; go_simp; try with_reducible rfl)
  try simp only [Act.put, List.setIfInBounds_toArray, List.set_cons_zero, List.set_cons_succ]
  refine wpAnyH_take (i := 10) (oi := ({ dst := some 19, op := Op.move (Operand.tmp 18), type := 4, pos := "law.go:45", after := #[{ on := 9, ground := Ground.data }, { on := 7, ground := Ground.chain }], guard := none } : Oper)) (v := ?_) rfl (by kernel_rfl) (by kernel_rfl) (by kernel_rfl) (fun _ _ _ h => h) (Or.inl ⟨by rfl, ?_⟩) (by assumption) ?_
  rotate_left 1
  · (intro u hSw; go_simp; try with_reducible rfl)
  try simp only [Act.put, List.setIfInBounds_toArray, List.set_cons_zero, List.set_cons_succ]
  refine wpAnyH_take (i := 11) (oi := ({ dst := some 20, op := Op.load 23 (Operand.tmp 4), type := 23, pos := "law.go:45", after := #[{ on := 10, ground := Ground.guard }], guard := some (10, true) } : Oper)) (v := ?_) rfl (by kernel_rfl) (by kernel_rfl) (by kernel_rfl) (fun _ _ _ h => h) (Or.inl ⟨by rfl, ?_⟩) (by assumption) ?_
  rotate_left 1
  · (intro u hSw; have p0 := (cell_of_row u (w.heap.size) 0 _ _ _ hSw.1).trans (show (#[Value.int .i64 a.k, .int .i64 a.n, .string (str a.s)] : Array Value)[0]? = some (.int .i64 a.k) from rfl); have p1 := (cell_of_row u (w.heap.size) 1 _ _ _ hSw.1).trans (show (#[Value.int .i64 a.k, .int .i64 a.n, .string (str a.s)] : Array Value)[1]? = some (.int .i64 a.n) from rfl); have p2 := (cell_of_row u (w.heap.size) 2 _ _ _ hSw.1).trans (show (#[Value.int .i64 a.k, .int .i64 a.n, .string (str a.s)] : Array Value)[2]? = some (.string (str a.s)) from rfl); have q0 := (cell_of_row u (w.heap.size + 1) 0 _ _ _ hSw.2.1).trans (show (#[Value.int .i64 b.k, .int .i64 b.n, .string (str b.s)] : Array Value)[0]? = some (.int .i64 b.k) from rfl); have q1 := (cell_of_row u (w.heap.size + 1) 1 _ _ _ hSw.2.1).trans (show (#[Value.int .i64 b.k, .int .i64 b.n, .string (str b.s)] : Array Value)[1]? = some (.int .i64 b.n) from rfl); have q2 := (cell_of_row u (w.heap.size + 1) 2 _ _ _ hSw.2.1).trans (show (#[Value.int .i64 b.k, .int .i64 b.n, .string (str b.s)] : Array Value)[2]? = some (.string (str b.s)) from rfl); go_simp; try with_reducible rfl)
  try simp only [Act.put, List.setIfInBounds_toArray, List.set_cons_zero, List.set_cons_succ]
  refine wpAnyH_take (i := 13) (oi := ({ dst := some 22, op := Op.load 23 (Operand.tmp 4), type := 23, pos := "law.go:45", after := #[{ on := 10, ground := Ground.guard }], guard := some (10, true) } : Oper)) (v := ?_) rfl (by kernel_rfl) (by kernel_rfl) (by kernel_rfl) (fun _ _ _ h => h) (Or.inl ⟨by rfl, ?_⟩) (by assumption) ?_
  rotate_left 1
  · (intro u hSw; have p0 := (cell_of_row u (w.heap.size) 0 _ _ _ hSw.1).trans (show (#[Value.int .i64 a.k, .int .i64 a.n, .string (str a.s)] : Array Value)[0]? = some (.int .i64 a.k) from rfl); have p1 := (cell_of_row u (w.heap.size) 1 _ _ _ hSw.1).trans (show (#[Value.int .i64 a.k, .int .i64 a.n, .string (str a.s)] : Array Value)[1]? = some (.int .i64 a.n) from rfl); have p2 := (cell_of_row u (w.heap.size) 2 _ _ _ hSw.1).trans (show (#[Value.int .i64 a.k, .int .i64 a.n, .string (str a.s)] : Array Value)[2]? = some (.string (str a.s)) from rfl); have q0 := (cell_of_row u (w.heap.size + 1) 0 _ _ _ hSw.2.1).trans (show (#[Value.int .i64 b.k, .int .i64 b.n, .string (str b.s)] : Array Value)[0]? = some (.int .i64 b.k) from rfl); have q1 := (cell_of_row u (w.heap.size + 1) 1 _ _ _ hSw.2.1).trans (show (#[Value.int .i64 b.k, .int .i64 b.n, .string (str b.s)] : Array Value)[1]? = some (.int .i64 b.n) from rfl); have q2 := (cell_of_row u (w.heap.size + 1) 2 _ _ _ hSw.2.1).trans (show (#[Value.int .i64 b.k, .int .i64 b.n, .string (str b.s)] : Array Value)[2]? = some (.string (str b.s)) from rfl); go_simp; try with_reducible rfl)
  try simp only [Act.put, List.setIfInBounds_toArray, List.set_cons_zero, List.set_cons_succ]
  refine wpAnyH_ready (rs := [12]) (by kernel_rfl) (by simp) ?_
  refine AllReadyH.cons (o := ({ dst := some 21, op := Op.call { callee := Callee.value (Operand.func 20), args := #[Operand.tmp 20], argTypes := #[23] }, type := 4, pos := "law.go:45", after := #[{ on := 11, ground := Ground.data }, { on := 10, ground := Ground.chain }, { on := 10, ground := Ground.guard }], guard := some (10, true) } : Oper)) rfl (fun K hK => ?_) AllReadyH.nil
  go_simp
  go_at_call 20
  refine (HM.out _).mono ?_
  rintro e w' ⟨rfl, hb⟩
  go_wp2_with fail
  refine hK.out _ _ (hHeld.below hb) (fun hHeld => ?_)
  clear hK K
  try simp only [Act.put, List.setIfInBounds_toArray, List.set_cons_zero, List.set_cons_succ]
  refine wpAnyH_ready (rs := [14]) (by kernel_rfl) (by simp) ?_
  refine AllReadyH.cons (o := ({ dst := some 23, op := Op.call { callee := Callee.value (Operand.func 21), args := #[Operand.tmp 22], argTypes := #[23] }, type := 4, pos := "law.go:45", after := #[{ on := 13, ground := Ground.data }, { on := 12, ground := Ground.chain }, { on := 10, ground := Ground.guard }], guard := some (10, true) } : Oper)) rfl (fun K hK => ?_) AllReadyH.nil
  go_simp
  go_at_call 21
  refine (HRM.out _).mono ?_
  rintro e w' ⟨rfl, hb⟩
  go_wp2_with fail
  refine hK.out _ _ (hHeld.below hb) (fun hHeld => ?_)
  clear hK K
  try simp only [Act.put, List.setIfInBounds_toArray, List.set_cons_zero, List.set_cons_succ]
  refine wpAnyH_take (i := 15) (oi := ({ dst := some 24, op := Op.binOp BinOp.eql 4 (Operand.tmp 21) (Operand.tmp 23) 4, type := 4, pos := "law.go:45", after := #[{ on := 12, ground := Ground.data }, { on := 14, ground := Ground.data }, { on := 10, ground := Ground.guard }], guard := some (10, true) } : Oper)) (v := ?_) rfl (by kernel_rfl) (by kernel_rfl) (by kernel_rfl) (fun _ _ _ h => h) (Or.inl ⟨by rfl, ?_⟩) (by assumption) ?_
  rotate_left 1
  · (intro u hSw; go_simp; try with_reducible rfl)
  try simp only [Act.put, List.setIfInBounds_toArray, List.set_cons_zero, List.set_cons_succ]
  refine wpAnyH_take (i := 16) (oi := ({ dst := some 25, op := Op.pick (Operand.tmp 19) (Operand.tmp 24) (Operand.const (Value.bool false)), type := 4, pos := "law.go:45", after := #[{ on := 10, ground := Ground.data }, { on := 15, ground := Ground.data }], guard := none } : Oper)) (v := ?_) rfl (by kernel_rfl) (by kernel_rfl) (by kernel_rfl) (fun _ _ _ h => h) (Or.inl ⟨by rfl, ?_⟩) (by assumption) ?_
  rotate_left 1
  · (intro u hSw; go_simp; try with_reducible rfl)
  try simp only [Act.put, List.setIfInBounds_toArray, List.set_cons_zero, List.set_cons_succ]
  refine wpAnyH_take (i := 17) (oi := ({ dst := some 26, op := Op.move (Operand.tmp 25), type := 4, pos := "law.go:45", after := #[{ on := 16, ground := Ground.data }, { on := 14, ground := Ground.chain }], guard := none } : Oper)) (v := ?_) rfl (by kernel_rfl) (by kernel_rfl) (by kernel_rfl) (fun _ _ _ h => h) (Or.inl ⟨by rfl, ?_⟩) (by assumption) ?_
  rotate_left 1
  · (intro u hSw; go_simp; try with_reducible rfl)
  try simp only [Act.put, List.setIfInBounds_toArray, List.set_cons_zero, List.set_cons_succ]
  refine wpAnyH_take (i := 18) (oi := ({ dst := some 27, op := Op.move (Operand.tmp 2), type := 34, pos := "law.go:45", after := #[{ on := 17, ground := Ground.guard }], guard := some (17, true) } : Oper)) (v := ?_) rfl (by kernel_rfl) (by kernel_rfl) (by kernel_rfl) (fun _ _ _ h => h) (Or.inl ⟨by rfl, ?_⟩) (by assumption) ?_
  rotate_left 1
  · (intro u hSw; go_simp; try with_reducible rfl)
  try simp only [Act.put, List.setIfInBounds_toArray, List.set_cons_zero, List.set_cons_succ]
  refine wpAnyH_take (i := 19) (oi := ({ dst := some 28, op := Op.move (Operand.tmp 3), type := 34, pos := "law.go:45", after := #[{ on := 17, ground := Ground.guard }], guard := some (17, true) } : Oper)) (v := ?_) rfl (by kernel_rfl) (by kernel_rfl) (by kernel_rfl) (fun _ _ _ h => h) (Or.inl ⟨by rfl, ?_⟩) (by assumption) ?_
  rotate_left 1
  · (intro u hSw; go_simp; try with_reducible rfl)
  try simp only [Act.put, List.setIfInBounds_toArray, List.set_cons_zero, List.set_cons_succ]
  refine wpAnyH_take (i := 21) (oi := ({ dst := some 30, op := Op.move (Operand.tmp 2), type := 34, pos := "law.go:45", after := #[{ on := 17, ground := Ground.guard }], guard := some (17, true) } : Oper)) (v := ?_) rfl (by kernel_rfl) (by kernel_rfl) (by kernel_rfl) (fun _ _ _ h => h) (Or.inl ⟨by rfl, ?_⟩) (by assumption) ?_
  rotate_left 1
  · (intro u hSw; go_simp; try with_reducible rfl)
  try simp only [Act.put, List.setIfInBounds_toArray, List.set_cons_zero, List.set_cons_succ]
  refine wpAnyH_take (i := 22) (oi := ({ dst := some 31, op := Op.move (Operand.tmp 3), type := 34, pos := "law.go:45", after := #[{ on := 17, ground := Ground.guard }], guard := some (17, true) } : Oper)) (v := ?_) rfl (by kernel_rfl) (by kernel_rfl) (by kernel_rfl) (fun _ _ _ h => h) (Or.inl ⟨by rfl, ?_⟩) (by assumption) ?_
  rotate_left 1
  · (intro u hSw; go_simp; try with_reducible rfl)
  try simp only [Act.put, List.setIfInBounds_toArray, List.set_cons_zero, List.set_cons_succ]
  refine wpAnyH_ready (rs := [20]) (by kernel_rfl) (by simp) ?_
  refine AllReadyH.cons (o := ({ dst := some 29, op := Op.call { callee := Callee.value (Operand.func 22), args := #[Operand.tmp 27, Operand.tmp 28], argTypes := #[34, 34] }, type := 3, pos := "law.go:45", after := #[{ on := 18, ground := Ground.data }, { on := 19, ground := Ground.data }, { on := 17, ground := Ground.chain }, { on := 17, ground := Ground.guard }], guard := some (17, true) } : Oper)) rfl (fun K hK => ?_) AllReadyH.nil
  go_simp
  go_at_call 22
  refine (HCR.out _ hHeld.2.2).mono ?_
  rintro e w' ⟨rfl, hb⟩
  go_wp2_with fail
  refine hK.out _ _ (hHeld.below hb) (fun hHeld => ?_)
  clear hK K
  try simp only [Act.put, List.setIfInBounds_toArray, List.set_cons_zero, List.set_cons_succ]
  refine wpAnyH_ready (rs := [23]) (by kernel_rfl) (by simp) ?_
  refine AllReadyH.cons (o := ({ dst := some 32, op := Op.call { callee := Callee.value (Operand.func 23), args := #[Operand.tmp 30, Operand.tmp 31], argTypes := #[34, 34] }, type := 3, pos := "law.go:45", after := #[{ on := 21, ground := Ground.data }, { on := 22, ground := Ground.data }, { on := 20, ground := Ground.chain }, { on := 17, ground := Ground.guard }], guard := some (17, true) } : Oper)) rfl (fun K hK => ?_) AllReadyH.nil
  go_simp
  go_at_call 23
  refine (HRR.out _ hHeld.2.2).mono ?_
  rintro e w' ⟨rfl, hb⟩
  go_wp2_with fail
  refine hK.out _ _ (hHeld.below hb) (fun hHeld => ?_)
  clear hK K
  try simp only [Act.put, List.setIfInBounds_toArray, List.set_cons_zero, List.set_cons_succ]
  refine wpAnyH_take (i := 24) (oi := ({ dst := some 33, op := Op.binOp BinOp.eql 3 (Operand.tmp 29) (Operand.tmp 32) 3, type := 4, pos := "law.go:45", after := #[{ on := 20, ground := Ground.data }, { on := 23, ground := Ground.data }, { on := 17, ground := Ground.guard }], guard := some (17, true) } : Oper)) (v := ?_) rfl (by kernel_rfl) (by kernel_rfl) (by kernel_rfl) (fun _ _ _ h => h) (Or.inl ⟨by rfl, ?_⟩) (by assumption) ?_
  rotate_left 1
  · (intro u hSw; go_simp; try with_reducible rfl)
  try simp only [Act.put, List.setIfInBounds_toArray, List.set_cons_zero, List.set_cons_succ]
  refine wpAnyH_take (i := 25) (oi := ({ dst := some 34, op := Op.pick (Operand.tmp 26) (Operand.tmp 33) (Operand.const (Value.bool false)), type := 4, pos := "law.go:45", after := #[{ on := 17, ground := Ground.data }, { on := 24, ground := Ground.data }], guard := none } : Oper)) (v := ?_) rfl (by kernel_rfl) (by kernel_rfl) (by kernel_rfl) (fun _ _ _ h => h) (Or.inl ⟨by rfl, ?_⟩) (by assumption) ?_
  rotate_left 1
  · (intro u hSw; go_simp; try with_reducible rfl)
  try simp only [Act.put, List.setIfInBounds_toArray, List.set_cons_zero, List.set_cons_succ]
  refine wpAnyH_take (i := 26) (oi := ({ dst := some 8, op := Op.assign (Operand.tmp 34), type := 4, pos := "law.go:45", after := #[{ on := 25, ground := Ground.data }, { on := 23, ground := Ground.chain }, { on := 0, ground := Ground.phase }, { on := 1, ground := Ground.phase }, { on := 2, ground := Ground.phase }, { on := 3, ground := Ground.phase }, { on := 4, ground := Ground.phase }, { on := 5, ground := Ground.phase }, { on := 6, ground := Ground.phase }, { on := 7, ground := Ground.phase }, { on := 8, ground := Ground.phase }, { on := 9, ground := Ground.phase }, { on := 10, ground := Ground.phase }, { on := 11, ground := Ground.phase }, { on := 12, ground := Ground.phase }, { on := 13, ground := Ground.phase }, { on := 14, ground := Ground.phase }, { on := 15, ground := Ground.phase }, { on := 16, ground := Ground.phase }, { on := 17, ground := Ground.phase }, { on := 18, ground := Ground.phase }, { on := 19, ground := Ground.phase }, { on := 20, ground := Ground.phase }, { on := 21, ground := Ground.phase }, { on := 22, ground := Ground.phase }, { on := 23, ground := Ground.phase }, { on := 24, ground := Ground.phase }, { on := 25, ground := Ground.phase }], guard := none } : Oper)) (v := ?_) rfl (by kernel_rfl) (by kernel_rfl) (by kernel_rfl) (fun _ _ _ h => h) (Or.inl ⟨by rfl, ?_⟩) (by assumption) ?_
  rotate_left 1
  · (intro u hSw; go_simp; try with_reducible rfl)
  try simp only [Act.put, List.setIfInBounds_toArray, List.set_cons_zero, List.set_cons_succ]
  refine wpAnyH_done (by kernel_rfl) ?_ _
  go_wp2_with fail
  go_ret
  exact ⟨rfl, hHeld.2.2⟩
end Go.Proofs.Ytkcjegdmcboohaa
namespace Go.Proofs.Ytkcjegdmcboohaa
open Go.ChangeShapes Go.WideShapes Go.ChangeAt Go.RowKit Go.Deep
namespace plainValueOrders
set_option maxRecDepth 100000 in
theorem contract (H : Type) (enc : TypeId × Value → H) (W : World) (base : Nat) (args : Array Value) (ds gs : List (DataW H)) (before : List MemPlace)
    (hval : ∀ (j : Nat) t v, Try.f5.params[j]? = some t → args[j]? = some v → Value.okWide Try.prog W .any base t v)
    (hW : DataW.Whole enc Try.prog Try.f5.params.toList Rows.valueOrdersSpec.vars false W args.toList ds gs before) (hk : Rows.uptoSmall H (ds ++ gs) = true) :
    Calls Try.prog 5 args W fun e W' => ∃ v, e = .returned v ∧ Rows.valueOrdersSpec.post enc Try.prog Try.f5 false true false false W args v W' := by
  have hW' := hW
  obtain ⟨p, q, hA0, hV, rfl, hfz, hnd⟩ := hW
  have hA : DataW.TrodAll enc Try.prog W 0 (fun _ => true) true Try.f5.params.toList args.toList ds p := hA0
  rw [Try.params5] at hA hval
  obtain ⟨v0, vs0, d0, ds0, p0, q0, hargs, rfl, rfl, h0, r0⟩ := trodAll_cons hA
  obtain ⟨v1, vs1, d1, ds1, p1, q1, rfl, rfl, rfl, h1, r1⟩ := trodAll_cons r0
  obtain ⟨v2, vs2, d2, ds2, p2, q2, rfl, rfl, rfl, h2, r2⟩ := trodAll_cons r1
  obtain ⟨v3, vs3, d3, ds3, p3, q3, rfl, rfl, rfl, h3, r3⟩ := trodAll_cons r2
  obtain ⟨rfl, rfl, rfl⟩ := trodAll_nil r3
  obtain rfl : args = #[v0, v1, v2, v3] := by cases args; simp_all
  obtain ⟨rfl, rfl⟩ := trodVars_none hV
  have hbulk : Rows.uptoBulkAll ([d0, d1, d2, d3] ++ []) ≤ 1048576 := of_decide_eq_true hk
  simp only [List.append_nil, Rows.uptoBulkAll] at hbulk
  obtain ⟨a0, rfl, b0, g0⟩ := val_of_trod (hval 0 23 v0 rfl rfl) h0
  obtain ⟨a1, rfl, b1, g1⟩ := val_of_trod (hval 1 23 v1 rfl rfl) h1
  obtain ⟨a2, b2, g2, c2⟩ := rw_of_trod (hval 2 34 v2 rfl rfl) h2
  obtain ⟨a3, b3, g3, c3⟩ := rw_of_trod (hval 3 34 v3 rfl rfl) h3
  refine (orders_walk a0 a1 v2 v3 a2 a3 W b0 b1 (by omega) b2 b3 (fun x hx => ⟨(g2 x hx).1, by have := (g2 x hx).2; omega⟩) (fun x hx => (g3 x hx).1) (by omega) (by omega)).mono fun e W' ⟨he, hb⟩ => ⟨_, he, ?_⟩
  exact law_post (T := 4) laidOut (by rw [Try.params5]; decide +kernel) rfl rfl Try.underlying4 (fun gs h => by subst h; rfl) hW' hb
set_option maxRecDepth 100000 in
theorem lifted (os : Os) (started : os.Started) (H : Type) (enc : TypeId × Value → H) (F : Stop.Interp) :
    ReturnsInHanded {} Try.checked os 5 .any ((Rows.OpenSpec.upto Rows.valueOrdersSpec).pre6 enc Try.prog Try.f5 Rows.valueOrdersUptoRow.domain false) (((Rows.OpenSpec.upto Rows.valueOrdersSpec).at F).post enc Try.prog Try.f5 false true false false) := by
  refine returnsInHanded_of_cond (C := Try.checked) (s := Rows.OpenSpec.upto Rows.valueOrdersSpec) (k := Rows.uptoSmall) rfl own started (by kernel_rfl) Try.func5
    (OpenSpec.witness (enc := enc) (C := Try.checked) (s := Rows.OpenSpec.upto Rows.valueOrdersSpec) (k := Rows.uptoSmall) rfl false ⟨#[], #[.agg #[.int .i64 0, .int .i64 0, .string ⟨#[]⟩], .agg #[.int .i64 0, .int .i64 0, .string ⟨#[]⟩], .slice none 0 0, .slice none 0 0], []⟩ 8 (by kernel_rfl) (by kernel_rfl) (by kernel_rfl)
      (x := ([.agg [.lit (.int .i64 0), .lit (.int .i64 0), .lit (.string [])], .agg [.lit (.int .i64 0), .lit (.int .i64 0), .lit (.string [])], .nil, .nil], [], [])) (by kernel_rfl) rfl (by kernel_rfl)) ?_
  intro W base args ds gs before hval hW _ hk _
  exact contract H enc W base args ds gs before hval hW hk
theorem over : Rows.valueOrdersUptoRow.holds Try.pinned (Rows.OpenSpec.upto Rows.valueOrdersSpec) :=
  OpenClaim.holds_of_cond 5 Try.f5 rfl rfl rfl rfl rfl rfl rfl ⟨rfl, rfl, rfl, rfl, rfl⟩ rfl rfl rfl rfl rfl (by kernel_rfl) Try.func5 (by kernel_rfl)
    (of_decide_eq_true (by kernel_rfl)) (by unfold Func.isWrapper; first | (rw [if_pos (by decide +kernel)]; kernel_rfl) | (rw [if_neg (by decide +kernel)]; exact ⟨rfl, rfl⟩))
    (fun os started H enc _ F => lifted os started H enc F)
/-- the statement, its second form -/
theorem proved : Rows.ValueOrdersUptoSaid := over
end plainValueOrders
theorem valueOrdersUpto : Rows.ValueOrdersUptoSaid := plainValueOrders.proved
end Go.Proofs.Ytkcjegdmcboohaa
