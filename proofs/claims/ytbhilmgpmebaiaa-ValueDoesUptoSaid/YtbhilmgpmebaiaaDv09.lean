import Derived.Test.YtbhilmgpmebaiaaDv07
import Derived.Test.YtbhilmgpmebaiaaDv08
namespace Go.Proofs.Ytbhilmgpmebaiaa
open Go.RowKit
attribute [local go_sem ↓] eql32_eq neq32_eq
set_option maxRecDepth 100000 in
set_option maxHeartbeats 6400000 in
theorem do_10 (a b : Val) (w : World) (ha : a.OK) (hb : b.OK) : Calls Try.prog 13 #[.int .i64 10, .agg #[.int .i64 a.k, .int .i64 a.n, .string (str a.s)], .agg #[.int .i64 b.k, .int .i64 b.n, .string (str b.s)]] w fun e w' => e = .returned (.tuple #[.agg #[.int .i64 ((doR 10 (normV a) (normV b)).1).k, .int .i64 ((doR 10 (normV a) (normV b)).1).n, .string (str ((doR 10 (normV a) (normV b)).1).s)], .int .i64 (doR 10 (normV a) (normV b)).2]) ∧ Below w.heap.size w w' := by
  have hA := norm_i64 ha
  have hB := norm_i64 hb
  have hra := norm_rng ha.1
  have hrb := norm_rng hb.1
  have HT := Lib.hid (tri_new w a b)
  have ht1 := fun w => takesOne_any 10 w
  have ht2 := fun w => calculates_any 10 w
  simp only [show oneOf 10 = false from rfl, show decide (4 ≤ (10 : Int) ∧ (10 : Int) ≤ 9) = false from rfl] at ht1 ht2
  have HT1 := Lib.hid ht1
  have HT2 := Lib.hid ht2
  have ht3 := fun w => compares_any 10 w
  simp only [show decide (10 ≤ (10 : Int) ∧ (10 : Int) ≤ 15) = true from rfl] at ht3
  have HT3 := Lib.hid ht3
  clear ht3
  clear ht1 ht2 ha hb hA hB
  rw [show doR 10 (normV a) (normV b) = ofK (normV a) (normV b) (holdK 10 (ordV (normV a) (normV b))) from rfl]
  have HO := Lib.hid (fun u => cmpOf1 (normV a) (normV b) u (holdK 10 (ordV (normV a) (normV b))) hra hrb (fun w => cmp1_any _ _))
  generalize ofK (normV a) (normV b) (holdK 10 (ordV (normV a) (normV b))) = R at *
  clear hra hrb
  go_enter Try.func13, Try.ntmps13
  go_wp2_with fail
  refine do_reg1 _ _ _ w _ HT.out ?_
  intro u hT
  clear HT
  obtain ⟨p0, p1, p2⟩ := bx_cells hT.1.1; obtain ⟨q0, q1, q2⟩ := bx_cells hT.1.2.1; obtain ⟨g0, g1, g2⟩ := bx_free hT.1.2.1; have hT0 := hT; obtain ⟨_, zk, zn, zs, hz⟩ := hT; obtain ⟨z0, z1, z2⟩ := bx_cells hz; obtain ⟨f0, f1, f2⟩ := bx_free hz
  have hS0 := hT0
  clear hz hT0
  have HS0 := Lib.hid hS0
  go_wp2_with (first
    | (go_at_call 31; refine (HT1.out _).mono ?_; rintro e w' ⟨rfl, rfl⟩)
    | (go_at_call 32; refine (HT2.out _).mono ?_; rintro e w' ⟨rfl, rfl⟩)
    | (go_at_call 35; refine (HT3.out _).mono ?_; rintro e w' ⟨rfl, rfl⟩))
  refine wp_region_held_drew (S := fun u => Tri w u (normV a) (normV b)) (by kernel_rfl) (HS0.out.drew) (fun hHeld => ?_)
  refine wpAnyH_take (i := 1) (oi := ({ dst := some 30, op := Op.move (Operand.tmp 0), type := 3, pos := "operators.go:22", after := #[], guard := none } : Oper)) (v := ?_) rfl (by kernel_rfl) (by kernel_rfl) (by kernel_rfl) (fun _ _ _ h => h) (Or.inl ⟨by rfl, ?_⟩) (by assumption) ?_
  rotate_left 1
  · (intro u hSw; go_simp; try with_reducible rfl)
  try simp only [Act.put, List.setIfInBounds_toArray, List.set_cons_zero, List.set_cons_succ]
  refine wpAnyH_take (i := 3) (oi := ({ dst := some 32, op := Op.load 23 (Operand.tmp 4), type := 23, pos := "operators.go:22", after := #[], guard := none } : Oper)) (v := ?_) rfl (by kernel_rfl) (by kernel_rfl) (by kernel_rfl) (fun _ _ _ h => h) (Or.inl ⟨by rfl, ?_⟩) (by assumption) ?_
  rotate_left 1
  · (intro u hSw; have p0 := (cell_of_row u (w.heap.size) 0 _ _ _ hSw.1.1).trans (show (#[Value.int .i64 (normV a).k, .int .i64 (normV a).n, .string (str (normV a).s)] : Array Value)[0]? = some (.int .i64 (normV a).k) from rfl); have p1 := (cell_of_row u (w.heap.size) 1 _ _ _ hSw.1.1).trans (show (#[Value.int .i64 (normV a).k, .int .i64 (normV a).n, .string (str (normV a).s)] : Array Value)[1]? = some (.int .i64 (normV a).n) from rfl); have p2 := (cell_of_row u (w.heap.size) 2 _ _ _ hSw.1.1).trans (show (#[Value.int .i64 (normV a).k, .int .i64 (normV a).n, .string (str (normV a).s)] : Array Value)[2]? = some (.string (str (normV a).s)) from rfl); have q0 := (cell_of_row u (w.heap.size + 1) 0 _ _ _ hSw.1.2.1).trans (show (#[Value.int .i64 (normV b).k, .int .i64 (normV b).n, .string (str (normV b).s)] : Array Value)[0]? = some (.int .i64 (normV b).k) from rfl); have q1 := (cell_of_row u (w.heap.size + 1) 1 _ _ _ hSw.1.2.1).trans (show (#[Value.int .i64 (normV b).k, .int .i64 (normV b).n, .string (str (normV b).s)] : Array Value)[1]? = some (.int .i64 (normV b).n) from rfl); have q2 := (cell_of_row u (w.heap.size + 1) 2 _ _ _ hSw.1.2.1).trans (show (#[Value.int .i64 (normV b).k, .int .i64 (normV b).n, .string (str (normV b).s)] : Array Value)[2]? = some (.string (str (normV b).s)) from rfl); go_simp; try with_reducible rfl)
  try simp only [Act.put, List.setIfInBounds_toArray, List.set_cons_zero, List.set_cons_succ]
  refine wpAnyH_take (i := 4) (oi := ({ dst := some 33, op := Op.load 23 (Operand.tmp 5), type := 23, pos := "operators.go:22", after := #[], guard := none } : Oper)) (v := ?_) rfl (by kernel_rfl) (by kernel_rfl) (by kernel_rfl) (fun _ _ _ h => h) (Or.inl ⟨by rfl, ?_⟩) (by assumption) ?_
  rotate_left 1
  · (intro u hSw; have p0 := (cell_of_row u (w.heap.size) 0 _ _ _ hSw.1.1).trans (show (#[Value.int .i64 (normV a).k, .int .i64 (normV a).n, .string (str (normV a).s)] : Array Value)[0]? = some (.int .i64 (normV a).k) from rfl); have p1 := (cell_of_row u (w.heap.size) 1 _ _ _ hSw.1.1).trans (show (#[Value.int .i64 (normV a).k, .int .i64 (normV a).n, .string (str (normV a).s)] : Array Value)[1]? = some (.int .i64 (normV a).n) from rfl); have p2 := (cell_of_row u (w.heap.size) 2 _ _ _ hSw.1.1).trans (show (#[Value.int .i64 (normV a).k, .int .i64 (normV a).n, .string (str (normV a).s)] : Array Value)[2]? = some (.string (str (normV a).s)) from rfl); have q0 := (cell_of_row u (w.heap.size + 1) 0 _ _ _ hSw.1.2.1).trans (show (#[Value.int .i64 (normV b).k, .int .i64 (normV b).n, .string (str (normV b).s)] : Array Value)[0]? = some (.int .i64 (normV b).k) from rfl); have q1 := (cell_of_row u (w.heap.size + 1) 1 _ _ _ hSw.1.2.1).trans (show (#[Value.int .i64 (normV b).k, .int .i64 (normV b).n, .string (str (normV b).s)] : Array Value)[1]? = some (.int .i64 (normV b).n) from rfl); have q2 := (cell_of_row u (w.heap.size + 1) 2 _ _ _ hSw.1.2.1).trans (show (#[Value.int .i64 (normV b).k, .int .i64 (normV b).n, .string (str (normV b).s)] : Array Value)[2]? = some (.string (str (normV b).s)) from rfl); go_simp; try with_reducible rfl)
  try simp only [Act.put, List.setIfInBounds_toArray, List.set_cons_zero, List.set_cons_succ]
  refine wpAnyH_ready (rs := [0]) (by kernel_rfl) (by simp) ?_
  refine AllReadyH.cons (o := ({ dst := some 29, op := Op.call { callee := Callee.value (Operand.func 36), args := #[], argTypes := #[] }, type := 58, pos := "operators.go:22", after := #[], guard := none } : Oper)) rfl (fun K hK => ?_) AllReadyH.nil
  go_simp
  go_at_call 36
  refine (comparisons_any _).mono ?_
  rintro e w1 ⟨M, rfl, hF, hb⟩
  replace hS1 := hS0.drew.below hb
  clear hS0
  go_wp2_with fail
  refine hK.out _ _ hS1 (fun hHeld => ?_)
  clear hK K
  try simp only [Act.put, List.setIfInBounds_toArray, List.set_cons_zero, List.set_cons_succ]
  refine wpAnyH_ready (rs := [2]) (by kernel_rfl) (by simp) ?_
  refine AllReadyH.cons (o := ({ dst := some 31, op := Op.lookup 58 (Operand.tmp 29) (Operand.tmp 30) false, type := 57, pos := "operators.go:22", after := #[{ on := 0, ground := Ground.data }, { on := 1, ground := Ground.data }], guard := none } : Oper)) rfl (fun K hK => ?_) AllReadyH.nil
  have hl := run_lookF Try.underlying58 w1 M 10 _ hF (0, FF 66) rfl false
  simp only [Bool.false_eq_true, if_false] at hl
  go_simp
  refine hK.out _ _ hHeld (fun hHeld => ?_)
  clear hK K
  try simp only [Act.put, List.setIfInBounds_toArray, List.set_cons_zero, List.set_cons_succ]
  refine wpAnyH_ready (rs := [5]) (by kernel_rfl) (by simp) ?_
  refine AllReadyH.cons (o := ({ dst := some 34, op := Op.call { callee := Callee.value (Operand.func 37), args := #[Operand.tmp 31, Operand.tmp 32, Operand.tmp 33], argTypes := #[57, 23, 23] }, type := 26, pos := "operators.go:22", after := #[{ on := 2, ground := Ground.data }, { on := 3, ground := Ground.data }, { on := 4, ground := Ground.data }, { on := 0, ground := Ground.chain }], guard := none } : Oper)) rfl (fun K hK => ?_) AllReadyH.nil
  clear hF hS1
  go_simp
  go_at_call 37
  refine (HO.out _).mono ?_
  rintro e w2 ⟨rfl, hb⟩
  have hS2 := hHeld.below hb
  obtain ⟨_, zk, zn, zs, hz⟩ := hS2
  obtain ⟨z0, z1, z2⟩ := bx_cells hz
  obtain ⟨f0, f1, f2⟩ := bx_free hz
  go_wp2_with fail
  refine hK.out _ _ (hHeld.below hb) (fun hHeld => ?_)
  clear hK K
  try simp only [Act.put, List.setIfInBounds_toArray, List.set_cons_zero, List.set_cons_succ]
  refine wpAnyH_take (i := 6) (oi := ({ dst := some 35, op := Op.extract (Operand.tmp 34) 0, type := 23, pos := "operators.go:22", after := #[{ on := 5, ground := Ground.data }], guard := none } : Oper)) (v := ?_) rfl (by kernel_rfl) (by kernel_rfl) (by kernel_rfl) (fun _ _ _ h => h) (Or.inl ⟨by rfl, ?_⟩) (by assumption) ?_
  rotate_left 1
  · (intro u hSw; go_simp; try with_reducible rfl)
  try simp only [Act.put, List.setIfInBounds_toArray, List.set_cons_zero, List.set_cons_succ]
  refine wpAnyH_take (i := 7) (oi := ({ dst := some 36, op := Op.extract (Operand.tmp 34) 1, type := 25, pos := "operators.go:22", after := #[{ on := 5, ground := Ground.data }], guard := none } : Oper)) (v := ?_) rfl (by kernel_rfl) (by kernel_rfl) (by kernel_rfl) (fun _ _ _ h => h) (Or.inl ⟨by rfl, ?_⟩) (by assumption) ?_
  rotate_left 1
  · (intro u hSw; go_simp; try with_reducible rfl)
  try simp only [Act.put, List.setIfInBounds_toArray, List.set_cons_zero, List.set_cons_succ]
  refine wpAnyH_ready (rs := [8]) (by kernel_rfl) (by simp) ?_
  refine AllReadyH.cons (o := ({ dst := none, op := Op.store 23 (Operand.tmp 6) (Operand.tmp 35), type := 0, pos := "operators.go:22", after := #[{ on := 6, ground := Ground.data }, { on := 5, ground := Ground.chain }, { on := 0, ground := Ground.phase }, { on := 1, ground := Ground.phase }, { on := 2, ground := Ground.phase }, { on := 3, ground := Ground.phase }, { on := 4, ground := Ground.phase }, { on := 5, ground := Ground.phase }, { on := 6, ground := Ground.phase }, { on := 7, ground := Ground.phase }], guard := none } : Oper)) rfl (fun K hK => ?_) AllReadyH.nil
  have hS3 := hHeld.setR R.1
  go_simp
  refine hK.out _ _ hS3 (fun hHeld => ?_)
  clear hK K
  try simp only [Act.put]
  refine wpAnyH_take (i := 9) (oi := ({ dst := some 7, op := Op.assign (Operand.tmp 36), type := 25, pos := "operators.go:22", after := #[{ on := 7, ground := Ground.data }, { on := 8, ground := Ground.chain }, { on := 0, ground := Ground.phase }, { on := 1, ground := Ground.phase }, { on := 2, ground := Ground.phase }, { on := 3, ground := Ground.phase }, { on := 4, ground := Ground.phase }, { on := 5, ground := Ground.phase }, { on := 6, ground := Ground.phase }, { on := 7, ground := Ground.phase }, { on := 8, ground := Ground.phase }], guard := none } : Oper)) (v := ?_) rfl (by kernel_rfl) (by kernel_rfl) (by kernel_rfl) (fun _ _ _ h => h) (Or.inl ⟨by rfl, ?_⟩) (by assumption) ?_
  rotate_left 1
  · (intro u hSw; go_simp; try with_reducible rfl)
  try simp only [Act.put, List.setIfInBounds_toArray, List.set_cons_zero, List.set_cons_succ]
  refine wpAnyH_done (by kernel_rfl) ?_ _
  go_wp2_with fail
  refine bodyPost_ret (v := .tuple #[.agg #[.int .i64 R.1.k, .int .i64 R.1.n, .string (str R.1.s)], .int .i64 R.2]) (by simp [results, Try.results13, go_sem, z0, z1, z2]) rfl ⟨rfl, hHeld.1.2.2⟩
set_option maxRecDepth 100000 in
set_option maxHeartbeats 6400000 in
theorem do_11 (a b : Val) (w : World) (ha : a.OK) (hb : b.OK) : Calls Try.prog 13 #[.int .i64 11, .agg #[.int .i64 a.k, .int .i64 a.n, .string (str a.s)], .agg #[.int .i64 b.k, .int .i64 b.n, .string (str b.s)]] w fun e w' => e = .returned (.tuple #[.agg #[.int .i64 ((doR 11 (normV a) (normV b)).1).k, .int .i64 ((doR 11 (normV a) (normV b)).1).n, .string (str ((doR 11 (normV a) (normV b)).1).s)], .int .i64 (doR 11 (normV a) (normV b)).2]) ∧ Below w.heap.size w w' := by
  have hA := norm_i64 ha
  have hB := norm_i64 hb
  have hra := norm_rng ha.1
  have hrb := norm_rng hb.1
  have HT := Lib.hid (tri_new w a b)
  have ht1 := fun w => takesOne_any 11 w
  have ht2 := fun w => calculates_any 11 w
  simp only [show oneOf 11 = false from rfl, show decide (4 ≤ (11 : Int) ∧ (11 : Int) ≤ 9) = false from rfl] at ht1 ht2
  have HT1 := Lib.hid ht1
  have HT2 := Lib.hid ht2
  have ht3 := fun w => compares_any 11 w
  simp only [show decide (10 ≤ (11 : Int) ∧ (11 : Int) ≤ 15) = true from rfl] at ht3
  have HT3 := Lib.hid ht3
  clear ht3
  clear ht1 ht2 ha hb hA hB
  rw [show doR 11 (normV a) (normV b) = ofK (normV a) (normV b) (holdK 11 (ordV (normV a) (normV b))) from rfl]
  have HO := Lib.hid (fun u => cmpOf2 (normV a) (normV b) u (holdK 11 (ordV (normV a) (normV b))) hra hrb (fun w => cmp2_any _ _))
  generalize ofK (normV a) (normV b) (holdK 11 (ordV (normV a) (normV b))) = R at *
  clear hra hrb
  go_enter Try.func13, Try.ntmps13
  go_wp2_with fail
  refine do_reg1 _ _ _ w _ HT.out ?_
  intro u hT
  clear HT
  obtain ⟨p0, p1, p2⟩ := bx_cells hT.1.1; obtain ⟨q0, q1, q2⟩ := bx_cells hT.1.2.1; obtain ⟨g0, g1, g2⟩ := bx_free hT.1.2.1; have hT0 := hT; obtain ⟨_, zk, zn, zs, hz⟩ := hT; obtain ⟨z0, z1, z2⟩ := bx_cells hz; obtain ⟨f0, f1, f2⟩ := bx_free hz
  have hS0 := hT0
  clear hz hT0
  have HS0 := Lib.hid hS0
  go_wp2_with (first
    | (go_at_call 31; refine (HT1.out _).mono ?_; rintro e w' ⟨rfl, rfl⟩)
    | (go_at_call 32; refine (HT2.out _).mono ?_; rintro e w' ⟨rfl, rfl⟩)
    | (go_at_call 35; refine (HT3.out _).mono ?_; rintro e w' ⟨rfl, rfl⟩))
  refine wp_region_held_drew (S := fun u => Tri w u (normV a) (normV b)) (by kernel_rfl) (HS0.out.drew) (fun hHeld => ?_)
  refine wpAnyH_take (i := 1) (oi := ({ dst := some 30, op := Op.move (Operand.tmp 0), type := 3, pos := "operators.go:22", after := #[], guard := none } : Oper)) (v := ?_) rfl (by kernel_rfl) (by kernel_rfl) (by kernel_rfl) (fun _ _ _ h => h) (Or.inl ⟨by rfl, ?_⟩) (by assumption) ?_
  rotate_left 1
  · (intro u hSw; go_simp; try with_reducible rfl)
  try simp only [Act.put, List.setIfInBounds_toArray, List.set_cons_zero, List.set_cons_succ]
  refine wpAnyH_take (i := 3) (oi := ({ dst := some 32, op := Op.load 23 (Operand.tmp 4), type := 23, pos := "operators.go:22", after := #[], guard := none } : Oper)) (v := ?_) rfl (by kernel_rfl) (by kernel_rfl) (by kernel_rfl) (fun _ _ _ h => h) (Or.inl ⟨by rfl, ?_⟩) (by assumption) ?_
  rotate_left 1
  · (intro u hSw; have p0 := (cell_of_row u (w.heap.size) 0 _ _ _ hSw.1.1).trans (show (#[Value.int .i64 (normV a).k, .int .i64 (normV a).n, .string (str (normV a).s)] : Array Value)[0]? = some (.int .i64 (normV a).k) from rfl); have p1 := (cell_of_row u (w.heap.size) 1 _ _ _ hSw.1.1).trans (show (#[Value.int .i64 (normV a).k, .int .i64 (normV a).n, .string (str (normV a).s)] : Array Value)[1]? = some (.int .i64 (normV a).n) from rfl); have p2 := (cell_of_row u (w.heap.size) 2 _ _ _ hSw.1.1).trans (show (#[Value.int .i64 (normV a).k, .int .i64 (normV a).n, .string (str (normV a).s)] : Array Value)[2]? = some (.string (str (normV a).s)) from rfl); have q0 := (cell_of_row u (w.heap.size + 1) 0 _ _ _ hSw.1.2.1).trans (show (#[Value.int .i64 (normV b).k, .int .i64 (normV b).n, .string (str (normV b).s)] : Array Value)[0]? = some (.int .i64 (normV b).k) from rfl); have q1 := (cell_of_row u (w.heap.size + 1) 1 _ _ _ hSw.1.2.1).trans (show (#[Value.int .i64 (normV b).k, .int .i64 (normV b).n, .string (str (normV b).s)] : Array Value)[1]? = some (.int .i64 (normV b).n) from rfl); have q2 := (cell_of_row u (w.heap.size + 1) 2 _ _ _ hSw.1.2.1).trans (show (#[Value.int .i64 (normV b).k, .int .i64 (normV b).n, .string (str (normV b).s)] : Array Value)[2]? = some (.string (str (normV b).s)) from rfl); go_simp; try with_reducible rfl)
  try simp only [Act.put, List.setIfInBounds_toArray, List.set_cons_zero, List.set_cons_succ]
  refine wpAnyH_take (i := 4) (oi := ({ dst := some 33, op := Op.load 23 (Operand.tmp 5), type := 23, pos := "operators.go:22", after := #[], guard := none } : Oper)) (v := ?_) rfl (by kernel_rfl) (by kernel_rfl) (by kernel_rfl) (fun _ _ _ h => h) (Or.inl ⟨by rfl, ?_⟩) (by assumption) ?_
  rotate_left 1
  · (intro u hSw; have p0 := (cell_of_row u (w.heap.size) 0 _ _ _ hSw.1.1).trans (show (#[Value.int .i64 (normV a).k, .int .i64 (normV a).n, .string (str (normV a).s)] : Array Value)[0]? = some (.int .i64 (normV a).k) from rfl); have p1 := (cell_of_row u (w.heap.size) 1 _ _ _ hSw.1.1).trans (show (#[Value.int .i64 (normV a).k, .int .i64 (normV a).n, .string (str (normV a).s)] : Array Value)[1]? = some (.int .i64 (normV a).n) from rfl); have p2 := (cell_of_row u (w.heap.size) 2 _ _ _ hSw.1.1).trans (show (#[Value.int .i64 (normV a).k, .int .i64 (normV a).n, .string (str (normV a).s)] : Array Value)[2]? = some (.string (str (normV a).s)) from rfl); have q0 := (cell_of_row u (w.heap.size + 1) 0 _ _ _ hSw.1.2.1).trans (show (#[Value.int .i64 (normV b).k, .int .i64 (normV b).n, .string (str (normV b).s)] : Array Value)[0]? = some (.int .i64 (normV b).k) from rfl); have q1 := (cell_of_row u (w.heap.size + 1) 1 _ _ _ hSw.1.2.1).trans (show (#[Value.int .i64 (normV b).k, .int .i64 (normV b).n, .string (str (normV b).s)] : Array Value)[1]? = some (.int .i64 (normV b).n) from rfl); have q2 := (cell_of_row u (w.heap.size + 1) 2 _ _ _ hSw.1.2.1).trans (show (#[Value.int .i64 (normV b).k, .int .i64 (normV b).n, .string (str (normV b).s)] : Array Value)[2]? = some (.string (str (normV b).s)) from rfl); go_simp; try with_reducible rfl)
  try simp only [Act.put, List.setIfInBounds_toArray, List.set_cons_zero, List.set_cons_succ]
  refine wpAnyH_ready (rs := [0]) (by kernel_rfl) (by simp) ?_
  refine AllReadyH.cons (o := ({ dst := some 29, op := Op.call { callee := Callee.value (Operand.func 36), args := #[], argTypes := #[] }, type := 58, pos := "operators.go:22", after := #[], guard := none } : Oper)) rfl (fun K hK => ?_) AllReadyH.nil
  go_simp
  go_at_call 36
  refine (comparisons_any _).mono ?_
  rintro e w1 ⟨M, rfl, hF, hb⟩
  replace hS1 := hS0.drew.below hb
  clear hS0
  go_wp2_with fail
  refine hK.out _ _ hS1 (fun hHeld => ?_)
  clear hK K
  try simp only [Act.put, List.setIfInBounds_toArray, List.set_cons_zero, List.set_cons_succ]
  refine wpAnyH_ready (rs := [2]) (by kernel_rfl) (by simp) ?_
  refine AllReadyH.cons (o := ({ dst := some 31, op := Op.lookup 58 (Operand.tmp 29) (Operand.tmp 30) false, type := 57, pos := "operators.go:22", after := #[{ on := 0, ground := Ground.data }, { on := 1, ground := Ground.data }], guard := none } : Oper)) rfl (fun K hK => ?_) AllReadyH.nil
  have hl := run_lookF Try.underlying58 w1 M 11 _ hF (1, FF 67) rfl false
  simp only [Bool.false_eq_true, if_false] at hl
  go_simp
  refine hK.out _ _ hHeld (fun hHeld => ?_)
  clear hK K
  try simp only [Act.put, List.setIfInBounds_toArray, List.set_cons_zero, List.set_cons_succ]
  refine wpAnyH_ready (rs := [5]) (by kernel_rfl) (by simp) ?_
  refine AllReadyH.cons (o := ({ dst := some 34, op := Op.call { callee := Callee.value (Operand.func 37), args := #[Operand.tmp 31, Operand.tmp 32, Operand.tmp 33], argTypes := #[57, 23, 23] }, type := 26, pos := "operators.go:22", after := #[{ on := 2, ground := Ground.data }, { on := 3, ground := Ground.data }, { on := 4, ground := Ground.data }, { on := 0, ground := Ground.chain }], guard := none } : Oper)) rfl (fun K hK => ?_) AllReadyH.nil
  clear hF hS1
  go_simp
  go_at_call 37
  refine (HO.out _).mono ?_
  rintro e w2 ⟨rfl, hb⟩
  have hS2 := hHeld.below hb
  obtain ⟨_, zk, zn, zs, hz⟩ := hS2
  obtain ⟨z0, z1, z2⟩ := bx_cells hz
  obtain ⟨f0, f1, f2⟩ := bx_free hz
  go_wp2_with fail
  refine hK.out _ _ (hHeld.below hb) (fun hHeld => ?_)
  clear hK K
  try simp only [Act.put, List.setIfInBounds_toArray, List.set_cons_zero, List.set_cons_succ]
  refine wpAnyH_take (i := 6) (oi := ({ dst := some 35, op := Op.extract (Operand.tmp 34) 0, type := 23, pos := "operators.go:22", after := #[{ on := 5, ground := Ground.data }], guard := none } : Oper)) (v := ?_) rfl (by kernel_rfl) (by kernel_rfl) (by kernel_rfl) (fun _ _ _ h => h) (Or.inl ⟨by rfl, ?_⟩) (by assumption) ?_
  rotate_left 1
  · (intro u hSw; go_simp; try with_reducible rfl)
  try simp only [Act.put, List.setIfInBounds_toArray, List.set_cons_zero, List.set_cons_succ]
  refine wpAnyH_take (i := 7) (oi := ({ dst := some 36, op := Op.extract (Operand.tmp 34) 1, type := 25, pos := "operators.go:22", after := #[{ on := 5, ground := Ground.data }], guard := none } : Oper)) (v := ?_) rfl (by kernel_rfl) (by kernel_rfl) (by kernel_rfl) (fun _ _ _ h => h) (Or.inl ⟨by rfl, ?_⟩) (by assumption) ?_
  rotate_left 1
  · (intro u hSw; go_simp; try with_reducible rfl)
  try simp only [Act.put, List.setIfInBounds_toArray, List.set_cons_zero, List.set_cons_succ]
  refine wpAnyH_ready (rs := [8]) (by kernel_rfl) (by simp) ?_
  refine AllReadyH.cons (o := ({ dst := none, op := Op.store 23 (Operand.tmp 6) (Operand.tmp 35), type := 0, pos := "operators.go:22", after := #[{ on := 6, ground := Ground.data }, { on := 5, ground := Ground.chain }, { on := 0, ground := Ground.phase }, { on := 1, ground := Ground.phase }, { on := 2, ground := Ground.phase }, { on := 3, ground := Ground.phase }, { on := 4, ground := Ground.phase }, { on := 5, ground := Ground.phase }, { on := 6, ground := Ground.phase }, { on := 7, ground := Ground.phase }], guard := none } : Oper)) rfl (fun K hK => ?_) AllReadyH.nil
  have hS3 := hHeld.setR R.1
  go_simp
  refine hK.out _ _ hS3 (fun hHeld => ?_)
  clear hK K
  try simp only [Act.put]
  refine wpAnyH_take (i := 9) (oi := ({ dst := some 7, op := Op.assign (Operand.tmp 36), type := 25, pos := "operators.go:22", after := #[{ on := 7, ground := Ground.data }, { on := 8, ground := Ground.chain }, { on := 0, ground := Ground.phase }, { on := 1, ground := Ground.phase }, { on := 2, ground := Ground.phase }, { on := 3, ground := Ground.phase }, { on := 4, ground := Ground.phase }, { on := 5, ground := Ground.phase }, { on := 6, ground := Ground.phase }, { on := 7, ground := Ground.phase }, { on := 8, ground := Ground.phase }], guard := none } : Oper)) (v := ?_) rfl (by kernel_rfl) (by kernel_rfl) (by kernel_rfl) (fun _ _ _ h => h) (Or.inl ⟨by rfl, ?_⟩) (by assumption) ?_
  rotate_left 1
  · (intro u hSw; go_simp; try with_reducible rfl)
  try simp only [Act.put, List.setIfInBounds_toArray, List.set_cons_zero, List.set_cons_succ]
  refine wpAnyH_done (by kernel_rfl) ?_ _
  go_wp2_with fail
  refine bodyPost_ret (v := .tuple #[.agg #[.int .i64 R.1.k, .int .i64 R.1.n, .string (str R.1.s)], .int .i64 R.2]) (by simp [results, Try.results13, go_sem, z0, z1, z2]) rfl ⟨rfl, hHeld.1.2.2⟩
set_option maxRecDepth 100000 in
set_option maxHeartbeats 6400000 in
theorem do_12 (a b : Val) (w : World) (ha : a.OK) (hb : b.OK) : Calls Try.prog 13 #[.int .i64 12, .agg #[.int .i64 a.k, .int .i64 a.n, .string (str a.s)], .agg #[.int .i64 b.k, .int .i64 b.n, .string (str b.s)]] w fun e w' => e = .returned (.tuple #[.agg #[.int .i64 ((doR 12 (normV a) (normV b)).1).k, .int .i64 ((doR 12 (normV a) (normV b)).1).n, .string (str ((doR 12 (normV a) (normV b)).1).s)], .int .i64 (doR 12 (normV a) (normV b)).2]) ∧ Below w.heap.size w w' := by
  have hA := norm_i64 ha
  have hB := norm_i64 hb
  have hra := norm_rng ha.1
  have hrb := norm_rng hb.1
  have HT := Lib.hid (tri_new w a b)
  have ht1 := fun w => takesOne_any 12 w
  have ht2 := fun w => calculates_any 12 w
  simp only [show oneOf 12 = false from rfl, show decide (4 ≤ (12 : Int) ∧ (12 : Int) ≤ 9) = false from rfl] at ht1 ht2
  have HT1 := Lib.hid ht1
  have HT2 := Lib.hid ht2
  have ht3 := fun w => compares_any 12 w
  simp only [show decide (10 ≤ (12 : Int) ∧ (12 : Int) ≤ 15) = true from rfl] at ht3
  have HT3 := Lib.hid ht3
  clear ht3
  clear ht1 ht2 ha hb hA hB
  rw [show doR 12 (normV a) (normV b) = ofK (normV a) (normV b) (holdK 12 (ordV (normV a) (normV b))) from rfl]
  have HO := Lib.hid (fun u => cmpOf3 (normV a) (normV b) u (holdK 12 (ordV (normV a) (normV b))) hra hrb (fun w => cmp3_any _ _))
  generalize ofK (normV a) (normV b) (holdK 12 (ordV (normV a) (normV b))) = R at *
  clear hra hrb
  go_enter Try.func13, Try.ntmps13
  go_wp2_with fail
  refine do_reg1 _ _ _ w _ HT.out ?_
  intro u hT
  clear HT
  obtain ⟨p0, p1, p2⟩ := bx_cells hT.1.1; obtain ⟨q0, q1, q2⟩ := bx_cells hT.1.2.1; obtain ⟨g0, g1, g2⟩ := bx_free hT.1.2.1; have hT0 := hT; obtain ⟨_, zk, zn, zs, hz⟩ := hT; obtain ⟨z0, z1, z2⟩ := bx_cells hz; obtain ⟨f0, f1, f2⟩ := bx_free hz
  have hS0 := hT0
  clear hz hT0
  have HS0 := Lib.hid hS0
  go_wp2_with (first
    | (go_at_call 31; refine (HT1.out _).mono ?_; rintro e w' ⟨rfl, rfl⟩)
    | (go_at_call 32; refine (HT2.out _).mono ?_; rintro e w' ⟨rfl, rfl⟩)
    | (go_at_call 35; refine (HT3.out _).mono ?_; rintro e w' ⟨rfl, rfl⟩))
  refine wp_region_held_drew (S := fun u => Tri w u (normV a) (normV b)) (by kernel_rfl) (HS0.out.drew) (fun hHeld => ?_)
  refine wpAnyH_take (i := 1) (oi := ({ dst := some 30, op := Op.move (Operand.tmp 0), type := 3, pos := "operators.go:22", after := #[], guard := none } : Oper)) (v := ?_) rfl (by kernel_rfl) (by kernel_rfl) (by kernel_rfl) (fun _ _ _ h => h) (Or.inl ⟨by rfl, ?_⟩) (by assumption) ?_
  rotate_left 1
  · (intro u hSw; go_simp; try with_reducible rfl)
  try simp only [Act.put, List.setIfInBounds_toArray, List.set_cons_zero, List.set_cons_succ]
  refine wpAnyH_take (i := 3) (oi := ({ dst := some 32, op := Op.load 23 (Operand.tmp 4), type := 23, pos := "operators.go:22", after := #[], guard := none } : Oper)) (v := ?_) rfl (by kernel_rfl) (by kernel_rfl) (by kernel_rfl) (fun _ _ _ h => h) (Or.inl ⟨by rfl, ?_⟩) (by assumption) ?_
  rotate_left 1
  · (intro u hSw; have p0 := (cell_of_row u (w.heap.size) 0 _ _ _ hSw.1.1).trans (show (#[Value.int .i64 (normV a).k, .int .i64 (normV a).n, .string (str (normV a).s)] : Array Value)[0]? = some (.int .i64 (normV a).k) from rfl); have p1 := (cell_of_row u (w.heap.size) 1 _ _ _ hSw.1.1).trans (show (#[Value.int .i64 (normV a).k, .int .i64 (normV a).n, .string (str (normV a).s)] : Array Value)[1]? = some (.int .i64 (normV a).n) from rfl); have p2 := (cell_of_row u (w.heap.size) 2 _ _ _ hSw.1.1).trans (show (#[Value.int .i64 (normV a).k, .int .i64 (normV a).n, .string (str (normV a).s)] : Array Value)[2]? = some (.string (str (normV a).s)) from rfl); have q0 := (cell_of_row u (w.heap.size + 1) 0 _ _ _ hSw.1.2.1).trans (show (#[Value.int .i64 (normV b).k, .int .i64 (normV b).n, .string (str (normV b).s)] : Array Value)[0]? = some (.int .i64 (normV b).k) from rfl); have q1 := (cell_of_row u (w.heap.size + 1) 1 _ _ _ hSw.1.2.1).trans (show (#[Value.int .i64 (normV b).k, .int .i64 (normV b).n, .string (str (normV b).s)] : Array Value)[1]? = some (.int .i64 (normV b).n) from rfl); have q2 := (cell_of_row u (w.heap.size + 1) 2 _ _ _ hSw.1.2.1).trans (show (#[Value.int .i64 (normV b).k, .int .i64 (normV b).n, .string (str (normV b).s)] : Array Value)[2]? = some (.string (str (normV b).s)) from rfl); go_simp; try with_reducible rfl)
  try simp only [Act.put, List.setIfInBounds_toArray, List.set_cons_zero, List.set_cons_succ]
  refine wpAnyH_take (i := 4) (oi := ({ dst := some 33, op := Op.load 23 (Operand.tmp 5), type := 23, pos := "operators.go:22", after := #[], guard := none } : Oper)) (v := ?_) rfl (by kernel_rfl) (by kernel_rfl) (by kernel_rfl) (fun _ _ _ h => h) (Or.inl ⟨by rfl, ?_⟩) (by assumption) ?_
  rotate_left 1
  · (intro u hSw; have p0 := (cell_of_row u (w.heap.size) 0 _ _ _ hSw.1.1).trans (show (#[Value.int .i64 (normV a).k, .int .i64 (normV a).n, .string (str (normV a).s)] : Array Value)[0]? = some (.int .i64 (normV a).k) from rfl); have p1 := (cell_of_row u (w.heap.size) 1 _ _ _ hSw.1.1).trans (show (#[Value.int .i64 (normV a).k, .int .i64 (normV a).n, .string (str (normV a).s)] : Array Value)[1]? = some (.int .i64 (normV a).n) from rfl); have p2 := (cell_of_row u (w.heap.size) 2 _ _ _ hSw.1.1).trans (show (#[Value.int .i64 (normV a).k, .int .i64 (normV a).n, .string (str (normV a).s)] : Array Value)[2]? = some (.string (str (normV a).s)) from rfl); have q0 := (cell_of_row u (w.heap.size + 1) 0 _ _ _ hSw.1.2.1).trans (show (#[Value.int .i64 (normV b).k, .int .i64 (normV b).n, .string (str (normV b).s)] : Array Value)[0]? = some (.int .i64 (normV b).k) from rfl); have q1 := (cell_of_row u (w.heap.size + 1) 1 _ _ _ hSw.1.2.1).trans (show (#[Value.int .i64 (normV b).k, .int .i64 (normV b).n, .string (str (normV b).s)] : Array Value)[1]? = some (.int .i64 (normV b).n) from rfl); have q2 := (cell_of_row u (w.heap.size + 1) 2 _ _ _ hSw.1.2.1).trans (show (#[Value.int .i64 (normV b).k, .int .i64 (normV b).n, .string (str (normV b).s)] : Array Value)[2]? = some (.string (str (normV b).s)) from rfl); go_simp; try with_reducible rfl)
  try simp only [Act.put, List.setIfInBounds_toArray, List.set_cons_zero, List.set_cons_succ]
  refine wpAnyH_ready (rs := [0]) (by kernel_rfl) (by simp) ?_
  refine AllReadyH.cons (o := ({ dst := some 29, op := Op.call { callee := Callee.value (Operand.func 36), args := #[], argTypes := #[] }, type := 58, pos := "operators.go:22", after := #[], guard := none } : Oper)) rfl (fun K hK => ?_) AllReadyH.nil
  go_simp
  go_at_call 36
  refine (comparisons_any _).mono ?_
  rintro e w1 ⟨M, rfl, hF, hb⟩
  replace hS1 := hS0.drew.below hb
  clear hS0
  go_wp2_with fail
  refine hK.out _ _ hS1 (fun hHeld => ?_)
  clear hK K
  try simp only [Act.put, List.setIfInBounds_toArray, List.set_cons_zero, List.set_cons_succ]
  refine wpAnyH_ready (rs := [2]) (by kernel_rfl) (by simp) ?_
  refine AllReadyH.cons (o := ({ dst := some 31, op := Op.lookup 58 (Operand.tmp 29) (Operand.tmp 30) false, type := 57, pos := "operators.go:22", after := #[{ on := 0, ground := Ground.data }, { on := 1, ground := Ground.data }], guard := none } : Oper)) rfl (fun K hK => ?_) AllReadyH.nil
  have hl := run_lookF Try.underlying58 w1 M 12 _ hF (2, FF 68) rfl false
  simp only [Bool.false_eq_true, if_false] at hl
  go_simp
  refine hK.out _ _ hHeld (fun hHeld => ?_)
  clear hK K
  try simp only [Act.put, List.setIfInBounds_toArray, List.set_cons_zero, List.set_cons_succ]
  refine wpAnyH_ready (rs := [5]) (by kernel_rfl) (by simp) ?_
  refine AllReadyH.cons (o := ({ dst := some 34, op := Op.call { callee := Callee.value (Operand.func 37), args := #[Operand.tmp 31, Operand.tmp 32, Operand.tmp 33], argTypes := #[57, 23, 23] }, type := 26, pos := "operators.go:22", after := #[{ on := 2, ground := Ground.data }, { on := 3, ground := Ground.data }, { on := 4, ground := Ground.data }, { on := 0, ground := Ground.chain }], guard := none } : Oper)) rfl (fun K hK => ?_) AllReadyH.nil
  clear hF hS1
  go_simp
  go_at_call 37
  refine (HO.out _).mono ?_
  rintro e w2 ⟨rfl, hb⟩
  have hS2 := hHeld.below hb
  obtain ⟨_, zk, zn, zs, hz⟩ := hS2
  obtain ⟨z0, z1, z2⟩ := bx_cells hz
  obtain ⟨f0, f1, f2⟩ := bx_free hz
  go_wp2_with fail
  refine hK.out _ _ (hHeld.below hb) (fun hHeld => ?_)
  clear hK K
  try simp only [Act.put, List.setIfInBounds_toArray, List.set_cons_zero, List.set_cons_succ]
  refine wpAnyH_take (i := 6) (oi := ({ dst := some 35, op := Op.extract (Operand.tmp 34) 0, type := 23, pos := "operators.go:22", after := #[{ on := 5, ground := Ground.data }], guard := none } : Oper)) (v := ?_) rfl (by kernel_rfl) (by kernel_rfl) (by kernel_rfl) (fun _ _ _ h => h) (Or.inl ⟨by rfl, ?_⟩) (by assumption) ?_
  rotate_left 1
  · (intro u hSw; go_simp; try with_reducible rfl)
  try simp only [Act.put, List.setIfInBounds_toArray, List.set_cons_zero, List.set_cons_succ]
  refine wpAnyH_take (i := 7) (oi := ({ dst := some 36, op := Op.extract (Operand.tmp 34) 1, type := 25, pos := "operators.go:22", after := #[{ on := 5, ground := Ground.data }], guard := none } : Oper)) (v := ?_) rfl (by kernel_rfl) (by kernel_rfl) (by kernel_rfl) (fun _ _ _ h => h) (Or.inl ⟨by rfl, ?_⟩) (by assumption) ?_
  rotate_left 1
  · (intro u hSw; go_simp; try with_reducible rfl)
  try simp only [Act.put, List.setIfInBounds_toArray, List.set_cons_zero, List.set_cons_succ]
  refine wpAnyH_ready (rs := [8]) (by kernel_rfl) (by simp) ?_
  refine AllReadyH.cons (o := ({ dst := none, op := Op.store 23 (Operand.tmp 6) (Operand.tmp 35), type := 0, pos := "operators.go:22", after := #[{ on := 6, ground := Ground.data }, { on := 5, ground := Ground.chain }, { on := 0, ground := Ground.phase }, { on := 1, ground := Ground.phase }, { on := 2, ground := Ground.phase }, { on := 3, ground := Ground.phase }, { on := 4, ground := Ground.phase }, { on := 5, ground := Ground.phase }, { on := 6, ground := Ground.phase }, { on := 7, ground := Ground.phase }], guard := none } : Oper)) rfl (fun K hK => ?_) AllReadyH.nil
  have hS3 := hHeld.setR R.1
  go_simp
  refine hK.out _ _ hS3 (fun hHeld => ?_)
  clear hK K
  try simp only [Act.put]
  refine wpAnyH_take (i := 9) (oi := ({ dst := some 7, op := Op.assign (Operand.tmp 36), type := 25, pos := "operators.go:22", after := #[{ on := 7, ground := Ground.data }, { on := 8, ground := Ground.chain }, { on := 0, ground := Ground.phase }, { on := 1, ground := Ground.phase }, { on := 2, ground := Ground.phase }, { on := 3, ground := Ground.phase }, { on := 4, ground := Ground.phase }, { on := 5, ground := Ground.phase }, { on := 6, ground := Ground.phase }, { on := 7, ground := Ground.phase }, { on := 8, ground := Ground.phase }], guard := none } : Oper)) (v := ?_) rfl (by kernel_rfl) (by kernel_rfl) (by kernel_rfl) (fun _ _ _ h => h) (Or.inl ⟨by rfl, ?_⟩) (by assumption) ?_
  rotate_left 1
  · (intro u hSw; go_simp; try with_reducible rfl)
  try simp only [Act.put, List.setIfInBounds_toArray, List.set_cons_zero, List.set_cons_succ]
  refine wpAnyH_done (by kernel_rfl) ?_ _
  go_wp2_with fail
  refine bodyPost_ret (v := .tuple #[.agg #[.int .i64 R.1.k, .int .i64 R.1.n, .string (str R.1.s)], .int .i64 R.2]) (by simp [results, Try.results13, go_sem, z0, z1, z2]) rfl ⟨rfl, hHeld.1.2.2⟩
set_option maxRecDepth 100000 in
set_option maxHeartbeats 6400000 in
theorem do_13 (a b : Val) (w : World) (ha : a.OK) (hb : b.OK) : Calls Try.prog 13 #[.int .i64 13, .agg #[.int .i64 a.k, .int .i64 a.n, .string (str a.s)], .agg #[.int .i64 b.k, .int .i64 b.n, .string (str b.s)]] w fun e w' => e = .returned (.tuple #[.agg #[.int .i64 ((doR 13 (normV a) (normV b)).1).k, .int .i64 ((doR 13 (normV a) (normV b)).1).n, .string (str ((doR 13 (normV a) (normV b)).1).s)], .int .i64 (doR 13 (normV a) (normV b)).2]) ∧ Below w.heap.size w w' := by
  have hA := norm_i64 ha
  have hB := norm_i64 hb
  have hra := norm_rng ha.1
  have hrb := norm_rng hb.1
  have HT := Lib.hid (tri_new w a b)
  have ht1 := fun w => takesOne_any 13 w
  have ht2 := fun w => calculates_any 13 w
  simp only [show oneOf 13 = false from rfl, show decide (4 ≤ (13 : Int) ∧ (13 : Int) ≤ 9) = false from rfl] at ht1 ht2
  have HT1 := Lib.hid ht1
  have HT2 := Lib.hid ht2
  have ht3 := fun w => compares_any 13 w
  simp only [show decide (10 ≤ (13 : Int) ∧ (13 : Int) ≤ 15) = true from rfl] at ht3
  have HT3 := Lib.hid ht3
  clear ht3
  clear ht1 ht2 ha hb hA hB
  rw [show doR 13 (normV a) (normV b) = ofK (normV a) (normV b) (holdK 13 (ordV (normV a) (normV b))) from rfl]
  have HO := Lib.hid (fun u => cmpOf4 (normV a) (normV b) u (holdK 13 (ordV (normV a) (normV b))) hra hrb (fun w => cmp4_any _ _))
  generalize ofK (normV a) (normV b) (holdK 13 (ordV (normV a) (normV b))) = R at *
  clear hra hrb
  go_enter Try.func13, Try.ntmps13
  go_wp2_with fail
  refine do_reg1 _ _ _ w _ HT.out ?_
  intro u hT
  clear HT
  obtain ⟨p0, p1, p2⟩ := bx_cells hT.1.1; obtain ⟨q0, q1, q2⟩ := bx_cells hT.1.2.1; obtain ⟨g0, g1, g2⟩ := bx_free hT.1.2.1; have hT0 := hT; obtain ⟨_, zk, zn, zs, hz⟩ := hT; obtain ⟨z0, z1, z2⟩ := bx_cells hz; obtain ⟨f0, f1, f2⟩ := bx_free hz
  have hS0 := hT0
  clear hz hT0
  have HS0 := Lib.hid hS0
  go_wp2_with (first
    | (go_at_call 31; refine (HT1.out _).mono ?_; rintro e w' ⟨rfl, rfl⟩)
    | (go_at_call 32; refine (HT2.out _).mono ?_; rintro e w' ⟨rfl, rfl⟩)
    | (go_at_call 35; refine (HT3.out _).mono ?_; rintro e w' ⟨rfl, rfl⟩))
  refine wp_region_held_drew (S := fun u => Tri w u (normV a) (normV b)) (by kernel_rfl) (HS0.out.drew) (fun hHeld => ?_)
  refine wpAnyH_take (i := 1) (oi := ({ dst := some 30, op := Op.move (Operand.tmp 0), type := 3, pos := "operators.go:22", after := #[], guard := none } : Oper)) (v := ?_) rfl (by kernel_rfl) (by kernel_rfl) (by kernel_rfl) (fun _ _ _ h => h) (Or.inl ⟨by rfl, ?_⟩) (by assumption) ?_
  rotate_left 1
  · (intro u hSw; go_simp; try with_reducible rfl)
  try simp only [Act.put, List.setIfInBounds_toArray, List.set_cons_zero, List.set_cons_succ]
  refine wpAnyH_take (i := 3) (oi := ({ dst := some 32, op := Op.load 23 (Operand.tmp 4), type := 23, pos := "operators.go:22", after := #[], guard := none } : Oper)) (v := ?_) rfl (by kernel_rfl) (by kernel_rfl) (by kernel_rfl) (fun _ _ _ h => h) (Or.inl ⟨by rfl, ?_⟩) (by assumption) ?_
  rotate_left 1
  · (intro u hSw; have p0 := (cell_of_row u (w.heap.size) 0 _ _ _ hSw.1.1).trans (show (#[Value.int .i64 (normV a).k, .int .i64 (normV a).n, .string (str (normV a).s)] : Array Value)[0]? = some (.int .i64 (normV a).k) from rfl); have p1 := (cell_of_row u (w.heap.size) 1 _ _ _ hSw.1.1).trans (show (#[Value.int .i64 (normV a).k, .int .i64 (normV a).n, .string (str (normV a).s)] : Array Value)[1]? = some (.int .i64 (normV a).n) from rfl); have p2 := (cell_of_row u (w.heap.size) 2 _ _ _ hSw.1.1).trans (show (#[Value.int .i64 (normV a).k, .int .i64 (normV a).n, .string (str (normV a).s)] : Array Value)[2]? = some (.string (str (normV a).s)) from rfl); have q0 := (cell_of_row u (w.heap.size + 1) 0 _ _ _ hSw.1.2.1).trans (show (#[Value.int .i64 (normV b).k, .int .i64 (normV b).n, .string (str (normV b).s)] : Array Value)[0]? = some (.int .i64 (normV b).k) from rfl); have q1 := (cell_of_row u (w.heap.size + 1) 1 _ _ _ hSw.1.2.1).trans (show (#[Value.int .i64 (normV b).k, .int .i64 (normV b).n, .string (str (normV b).s)] : Array Value)[1]? = some (.int .i64 (normV b).n) from rfl); have q2 := (cell_of_row u (w.heap.size + 1) 2 _ _ _ hSw.1.2.1).trans (show (#[Value.int .i64 (normV b).k, .int .i64 (normV b).n, .string (str (normV b).s)] : Array Value)[2]? = some (.string (str (normV b).s)) from rfl); go_simp; try with_reducible rfl)
  try simp only [Act.put, List.setIfInBounds_toArray, List.set_cons_zero, List.set_cons_succ]
  refine wpAnyH_take (i := 4) (oi := ({ dst := some 33, op := Op.load 23 (Operand.tmp 5), type := 23, pos := "operators.go:22", after := #[], guard := none } : Oper)) (v := ?_) rfl (by kernel_rfl) (by kernel_rfl) (by kernel_rfl) (fun _ _ _ h => h) (Or.inl ⟨by rfl, ?_⟩) (by assumption) ?_
  rotate_left 1
  · (intro u hSw; have p0 := (cell_of_row u (w.heap.size) 0 _ _ _ hSw.1.1).trans (show (#[Value.int .i64 (normV a).k, .int .i64 (normV a).n, .string (str (normV a).s)] : Array Value)[0]? = some (.int .i64 (normV a).k) from rfl); have p1 := (cell_of_row u (w.heap.size) 1 _ _ _ hSw.1.1).trans (show (#[Value.int .i64 (normV a).k, .int .i64 (normV a).n, .string (str (normV a).s)] : Array Value)[1]? = some (.int .i64 (normV a).n) from rfl); have p2 := (cell_of_row u (w.heap.size) 2 _ _ _ hSw.1.1).trans (show (#[Value.int .i64 (normV a).k, .int .i64 (normV a).n, .string (str (normV a).s)] : Array Value)[2]? = some (.string (str (normV a).s)) from rfl); have q0 := (cell_of_row u (w.heap.size + 1) 0 _ _ _ hSw.1.2.1).trans (show (#[Value.int .i64 (normV b).k, .int .i64 (normV b).n, .string (str (normV b).s)] : Array Value)[0]? = some (.int .i64 (normV b).k) from rfl); have q1 := (cell_of_row u (w.heap.size + 1) 1 _ _ _ hSw.1.2.1).trans (show (#[Value.int .i64 (normV b).k, .int .i64 (normV b).n, .string (str (normV b).s)] : Array Value)[1]? = some (.int .i64 (normV b).n) from rfl); have q2 := (cell_of_row u (w.heap.size + 1) 2 _ _ _ hSw.1.2.1).trans (show (#[Value.int .i64 (normV b).k, .int .i64 (normV b).n, .string (str (normV b).s)] : Array Value)[2]? = some (.string (str (normV b).s)) from rfl); go_simp; try with_reducible rfl)
  try simp only [Act.put, List.setIfInBounds_toArray, List.set_cons_zero, List.set_cons_succ]
  refine wpAnyH_ready (rs := [0]) (by kernel_rfl) (by simp) ?_
  refine AllReadyH.cons (o := ({ dst := some 29, op := Op.call { callee := Callee.value (Operand.func 36), args := #[], argTypes := #[] }, type := 58, pos := "operators.go:22", after := #[], guard := none } : Oper)) rfl (fun K hK => ?_) AllReadyH.nil
  go_simp
  go_at_call 36
  refine (comparisons_any _).mono ?_
  rintro e w1 ⟨M, rfl, hF, hb⟩
  replace hS1 := hS0.drew.below hb
  clear hS0
  go_wp2_with fail
  refine hK.out _ _ hS1 (fun hHeld => ?_)
  clear hK K
  try simp only [Act.put, List.setIfInBounds_toArray, List.set_cons_zero, List.set_cons_succ]
  refine wpAnyH_ready (rs := [2]) (by kernel_rfl) (by simp) ?_
  refine AllReadyH.cons (o := ({ dst := some 31, op := Op.lookup 58 (Operand.tmp 29) (Operand.tmp 30) false, type := 57, pos := "operators.go:22", after := #[{ on := 0, ground := Ground.data }, { on := 1, ground := Ground.data }], guard := none } : Oper)) rfl (fun K hK => ?_) AllReadyH.nil
  have hl := run_lookF Try.underlying58 w1 M 13 _ hF (3, FF 69) rfl false
  simp only [Bool.false_eq_true, if_false] at hl
  go_simp
  refine hK.out _ _ hHeld (fun hHeld => ?_)
  clear hK K
  try simp only [Act.put, List.setIfInBounds_toArray, List.set_cons_zero, List.set_cons_succ]
  refine wpAnyH_ready (rs := [5]) (by kernel_rfl) (by simp) ?_
  refine AllReadyH.cons (o := ({ dst := some 34, op := Op.call { callee := Callee.value (Operand.func 37), args := #[Operand.tmp 31, Operand.tmp 32, Operand.tmp 33], argTypes := #[57, 23, 23] }, type := 26, pos := "operators.go:22", after := #[{ on := 2, ground := Ground.data }, { on := 3, ground := Ground.data }, { on := 4, ground := Ground.data }, { on := 0, ground := Ground.chain }], guard := none } : Oper)) rfl (fun K hK => ?_) AllReadyH.nil
  clear hF hS1
  go_simp
  go_at_call 37
  refine (HO.out _).mono ?_
  rintro e w2 ⟨rfl, hb⟩
  have hS2 := hHeld.below hb
  obtain ⟨_, zk, zn, zs, hz⟩ := hS2
  obtain ⟨z0, z1, z2⟩ := bx_cells hz
  obtain ⟨f0, f1, f2⟩ := bx_free hz
  go_wp2_with fail
  refine hK.out _ _ (hHeld.below hb) (fun hHeld => ?_)
  clear hK K
  try simp only [Act.put, List.setIfInBounds_toArray, List.set_cons_zero, List.set_cons_succ]
  refine wpAnyH_take (i := 6) (oi := ({ dst := some 35, op := Op.extract (Operand.tmp 34) 0, type := 23, pos := "operators.go:22", after := #[{ on := 5, ground := Ground.data }], guard := none } : Oper)) (v := ?_) rfl (by kernel_rfl) (by kernel_rfl) (by kernel_rfl) (fun _ _ _ h => h) (Or.inl ⟨by rfl, ?_⟩) (by assumption) ?_
  rotate_left 1
  · (intro u hSw; go_simp; try with_reducible rfl)
  try simp only [Act.put, List.setIfInBounds_toArray, List.set_cons_zero, List.set_cons_succ]
  refine wpAnyH_take (i := 7) (oi := ({ dst := some 36, op := Op.extract (Operand.tmp 34) 1, type := 25, pos := "operators.go:22", after := #[{ on := 5, ground := Ground.data }], guard := none } : Oper)) (v := ?_) rfl (by kernel_rfl) (by kernel_rfl) (by kernel_rfl) (fun _ _ _ h => h) (Or.inl ⟨by rfl, ?_⟩) (by assumption) ?_
  rotate_left 1
  · (intro u hSw; go_simp; try with_reducible rfl)
  try simp only [Act.put, List.setIfInBounds_toArray, List.set_cons_zero, List.set_cons_succ]
  refine wpAnyH_ready (rs := [8]) (by kernel_rfl) (by simp) ?_
  refine AllReadyH.cons (o := ({ dst := none, op := Op.store 23 (Operand.tmp 6) (Operand.tmp 35), type := 0, pos := "operators.go:22", after := #[{ on := 6, ground := Ground.data }, { on := 5, ground := Ground.chain }, { on := 0, ground := Ground.phase }, { on := 1, ground := Ground.phase }, { on := 2, ground := Ground.phase }, { on := 3, ground := Ground.phase }, { on := 4, ground := Ground.phase }, { on := 5, ground := Ground.phase }, { on := 6, ground := Ground.phase }, { on := 7, ground := Ground.phase }], guard := none } : Oper)) rfl (fun K hK => ?_) AllReadyH.nil
  have hS3 := hHeld.setR R.1
  go_simp
  refine hK.out _ _ hS3 (fun hHeld => ?_)
  clear hK K
  try simp only [Act.put]
  refine wpAnyH_take (i := 9) (oi := ({ dst := some 7, op := Op.assign (Operand.tmp 36), type := 25, pos := "operators.go:22", after := #[{ on := 7, ground := Ground.data }, { on := 8, ground := Ground.chain }, { on := 0, ground := Ground.phase }, { on := 1, ground := Ground.phase }, { on := 2, ground := Ground.phase }, { on := 3, ground := Ground.phase }, { on := 4, ground := Ground.phase }, { on := 5, ground := Ground.phase }, { on := 6, ground := Ground.phase }, { on := 7, ground := Ground.phase }, { on := 8, ground := Ground.phase }], guard := none } : Oper)) (v := ?_) rfl (by kernel_rfl) (by kernel_rfl) (by kernel_rfl) (fun _ _ _ h => h) (Or.inl ⟨by rfl, ?_⟩) (by assumption) ?_
  rotate_left 1
  · (intro u hSw; go_simp; try with_reducible rfl)
  try simp only [Act.put, List.setIfInBounds_toArray, List.set_cons_zero, List.set_cons_succ]
  refine wpAnyH_done (by kernel_rfl) ?_ _
  go_wp2_with fail
  refine bodyPost_ret (v := .tuple #[.agg #[.int .i64 R.1.k, .int .i64 R.1.n, .string (str R.1.s)], .int .i64 R.2]) (by simp [results, Try.results13, go_sem, z0, z1, z2]) rfl ⟨rfl, hHeld.1.2.2⟩
set_option maxRecDepth 100000 in
set_option maxHeartbeats 6400000 in
theorem do_14 (a b : Val) (w : World) (ha : a.OK) (hb : b.OK) : Calls Try.prog 13 #[.int .i64 14, .agg #[.int .i64 a.k, .int .i64 a.n, .string (str a.s)], .agg #[.int .i64 b.k, .int .i64 b.n, .string (str b.s)]] w fun e w' => e = .returned (.tuple #[.agg #[.int .i64 ((doR 14 (normV a) (normV b)).1).k, .int .i64 ((doR 14 (normV a) (normV b)).1).n, .string (str ((doR 14 (normV a) (normV b)).1).s)], .int .i64 (doR 14 (normV a) (normV b)).2]) ∧ Below w.heap.size w w' := by
  have hA := norm_i64 ha
  have hB := norm_i64 hb
  have hra := norm_rng ha.1
  have hrb := norm_rng hb.1
  have HT := Lib.hid (tri_new w a b)
  have ht1 := fun w => takesOne_any 14 w
  have ht2 := fun w => calculates_any 14 w
  simp only [show oneOf 14 = false from rfl, show decide (4 ≤ (14 : Int) ∧ (14 : Int) ≤ 9) = false from rfl] at ht1 ht2
  have HT1 := Lib.hid ht1
  have HT2 := Lib.hid ht2
  have ht3 := fun w => compares_any 14 w
  simp only [show decide (10 ≤ (14 : Int) ∧ (14 : Int) ≤ 15) = true from rfl] at ht3
  have HT3 := Lib.hid ht3
  clear ht3
  clear ht1 ht2 ha hb hA hB
  rw [show doR 14 (normV a) (normV b) = ofK (normV a) (normV b) (holdK 14 (ordV (normV a) (normV b))) from rfl]
  have HO := Lib.hid (fun u => cmpOf5 (normV a) (normV b) u (holdK 14 (ordV (normV a) (normV b))) hra hrb (fun w => cmp5_any _ _))
  generalize ofK (normV a) (normV b) (holdK 14 (ordV (normV a) (normV b))) = R at *
  clear hra hrb
  go_enter Try.func13, Try.ntmps13
  go_wp2_with fail
  refine do_reg1 _ _ _ w _ HT.out ?_
  intro u hT
  clear HT
  obtain ⟨p0, p1, p2⟩ := bx_cells hT.1.1; obtain ⟨q0, q1, q2⟩ := bx_cells hT.1.2.1; obtain ⟨g0, g1, g2⟩ := bx_free hT.1.2.1; have hT0 := hT; obtain ⟨_, zk, zn, zs, hz⟩ := hT; obtain ⟨z0, z1, z2⟩ := bx_cells hz; obtain ⟨f0, f1, f2⟩ := bx_free hz
  have hS0 := hT0
  clear hz hT0
  have HS0 := Lib.hid hS0
  go_wp2_with (first
    | (go_at_call 31; refine (HT1.out _).mono ?_; rintro e w' ⟨rfl, rfl⟩)
    | (go_at_call 32; refine (HT2.out _).mono ?_; rintro e w' ⟨rfl, rfl⟩)
    | (go_at_call 35; refine (HT3.out _).mono ?_; rintro e w' ⟨rfl, rfl⟩))
  refine wp_region_held_drew (S := fun u => Tri w u (normV a) (normV b)) (by kernel_rfl) (HS0.out.drew) (fun hHeld => ?_)
  refine wpAnyH_take (i := 1) (oi := ({ dst := some 30, op := Op.move (Operand.tmp 0), type := 3, pos := "operators.go:22", after := #[], guard := none } : Oper)) (v := ?_) rfl (by kernel_rfl) (by kernel_rfl) (by kernel_rfl) (fun _ _ _ h => h) (Or.inl ⟨by rfl, ?_⟩) (by assumption) ?_
  rotate_left 1
  · (intro u hSw; go_simp; try with_reducible rfl)
  try simp only [Act.put, List.setIfInBounds_toArray, List.set_cons_zero, List.set_cons_succ]
  refine wpAnyH_take (i := 3) (oi := ({ dst := some 32, op := Op.load 23 (Operand.tmp 4), type := 23, pos := "operators.go:22", after := #[], guard := none } : Oper)) (v := ?_) rfl (by kernel_rfl) (by kernel_rfl) (by kernel_rfl) (fun _ _ _ h => h) (Or.inl ⟨by rfl, ?_⟩) (by assumption) ?_
  rotate_left 1
  · (intro u hSw; have p0 := (cell_of_row u (w.heap.size) 0 _ _ _ hSw.1.1).trans (show (#[Value.int .i64 (normV a).k, .int .i64 (normV a).n, .string (str (normV a).s)] : Array Value)[0]? = some (.int .i64 (normV a).k) from rfl); have p1 := (cell_of_row u (w.heap.size) 1 _ _ _ hSw.1.1).trans (show (#[Value.int .i64 (normV a).k, .int .i64 (normV a).n, .string (str (normV a).s)] : Array Value)[1]? = some (.int .i64 (normV a).n) from rfl); have p2 := (cell_of_row u (w.heap.size) 2 _ _ _ hSw.1.1).trans (show (#[Value.int .i64 (normV a).k, .int .i64 (normV a).n, .string (str (normV a).s)] : Array Value)[2]? = some (.string (str (normV a).s)) from rfl); have q0 := (cell_of_row u (w.heap.size + 1) 0 _ _ _ hSw.1.2.1).trans (show (#[Value.int .i64 (normV b).k, .int .i64 (normV b).n, .string (str (normV b).s)] : Array Value)[0]? = some (.int .i64 (normV b).k) from rfl); have q1 := (cell_of_row u (w.heap.size + 1) 1 _ _ _ hSw.1.2.1).trans (show (#[Value.int .i64 (normV b).k, .int .i64 (normV b).n, .string (str (normV b).s)] : Array Value)[1]? = some (.int .i64 (normV b).n) from rfl); have q2 := (cell_of_row u (w.heap.size + 1) 2 _ _ _ hSw.1.2.1).trans (show (#[Value.int .i64 (normV b).k, .int .i64 (normV b).n, .string (str (normV b).s)] : Array Value)[2]? = some (.string (str (normV b).s)) from rfl); go_simp; try with_reducible rfl)
  try simp only [Act.put, List.setIfInBounds_toArray, List.set_cons_zero, List.set_cons_succ]
  refine wpAnyH_take (i := 4) (oi := ({ dst := some 33, op := Op.load 23 (Operand.tmp 5), type := 23, pos := "operators.go:22", after := #[], guard := none } : Oper)) (v := ?_) rfl (by kernel_rfl) (by kernel_rfl) (by kernel_rfl) (fun _ _ _ h => h) (Or.inl ⟨by rfl, ?_⟩) (by assumption) ?_
  rotate_left 1
  · (intro u hSw; have p0 := (cell_of_row u (w.heap.size) 0 _ _ _ hSw.1.1).trans (show (#[Value.int .i64 (normV a).k, .int .i64 (normV a).n, .string (str (normV a).s)] : Array Value)[0]? = some (.int .i64 (normV a).k) from rfl); have p1 := (cell_of_row u (w.heap.size) 1 _ _ _ hSw.1.1).trans (show (#[Value.int .i64 (normV a).k, .int .i64 (normV a).n, .string (str (normV a).s)] : Array Value)[1]? = some (.int .i64 (normV a).n) from rfl); have p2 := (cell_of_row u (w.heap.size) 2 _ _ _ hSw.1.1).trans (show (#[Value.int .i64 (normV a).k, .int .i64 (normV a).n, .string (str (normV a).s)] : Array Value)[2]? = some (.string (str (normV a).s)) from rfl); have q0 := (cell_of_row u (w.heap.size + 1) 0 _ _ _ hSw.1.2.1).trans (show (#[Value.int .i64 (normV b).k, .int .i64 (normV b).n, .string (str (normV b).s)] : Array Value)[0]? = some (.int .i64 (normV b).k) from rfl); have q1 := (cell_of_row u (w.heap.size + 1) 1 _ _ _ hSw.1.2.1).trans (show (#[Value.int .i64 (normV b).k, .int .i64 (normV b).n, .string (str (normV b).s)] : Array Value)[1]? = some (.int .i64 (normV b).n) from rfl); have q2 := (cell_of_row u (w.heap.size + 1) 2 _ _ _ hSw.1.2.1).trans (show (#[Value.int .i64 (normV b).k, .int .i64 (normV b).n, .string (str (normV b).s)] : Array Value)[2]? = some (.string (str (normV b).s)) from rfl); go_simp; try with_reducible rfl)
  try simp only [Act.put, List.setIfInBounds_toArray, List.set_cons_zero, List.set_cons_succ]
  refine wpAnyH_ready (rs := [0]) (by kernel_rfl) (by simp) ?_
  refine AllReadyH.cons (o := ({ dst := some 29, op := Op.call { callee := Callee.value (Operand.func 36), args := #[], argTypes := #[] }, type := 58, pos := "operators.go:22", after := #[], guard := none } : Oper)) rfl (fun K hK => ?_) AllReadyH.nil
  go_simp
  go_at_call 36
  refine (comparisons_any _).mono ?_
  rintro e w1 ⟨M, rfl, hF, hb⟩
  replace hS1 := hS0.drew.below hb
  clear hS0
  go_wp2_with fail
  refine hK.out _ _ hS1 (fun hHeld => ?_)
  clear hK K
  try simp only [Act.put, List.setIfInBounds_toArray, List.set_cons_zero, List.set_cons_succ]
  refine wpAnyH_ready (rs := [2]) (by kernel_rfl) (by simp) ?_
  refine AllReadyH.cons (o := ({ dst := some 31, op := Op.lookup 58 (Operand.tmp 29) (Operand.tmp 30) false, type := 57, pos := "operators.go:22", after := #[{ on := 0, ground := Ground.data }, { on := 1, ground := Ground.data }], guard := none } : Oper)) rfl (fun K hK => ?_) AllReadyH.nil
  have hl := run_lookF Try.underlying58 w1 M 14 _ hF (4, FF 70) rfl false
  simp only [Bool.false_eq_true, if_false] at hl
  go_simp
  refine hK.out _ _ hHeld (fun hHeld => ?_)
  clear hK K
  try simp only [Act.put, List.setIfInBounds_toArray, List.set_cons_zero, List.set_cons_succ]
  refine wpAnyH_ready (rs := [5]) (by kernel_rfl) (by simp) ?_
  refine AllReadyH.cons (o := ({ dst := some 34, op := Op.call { callee := Callee.value (Operand.func 37), args := #[Operand.tmp 31, Operand.tmp 32, Operand.tmp 33], argTypes := #[57, 23, 23] }, type := 26, pos := "operators.go:22", after := #[{ on := 2, ground := Ground.data }, { on := 3, ground := Ground.data }, { on := 4, ground := Ground.data }, { on := 0, ground := Ground.chain }], guard := none } : Oper)) rfl (fun K hK => ?_) AllReadyH.nil
  clear hF hS1
  go_simp
  go_at_call 37
  refine (HO.out _).mono ?_
  rintro e w2 ⟨rfl, hb⟩
  have hS2 := hHeld.below hb
  obtain ⟨_, zk, zn, zs, hz⟩ := hS2
  obtain ⟨z0, z1, z2⟩ := bx_cells hz
  obtain ⟨f0, f1, f2⟩ := bx_free hz
  go_wp2_with fail
  refine hK.out _ _ (hHeld.below hb) (fun hHeld => ?_)
  clear hK K
  try simp only [Act.put, List.setIfInBounds_toArray, List.set_cons_zero, List.set_cons_succ]
  refine wpAnyH_take (i := 6) (oi := ({ dst := some 35, op := Op.extract (Operand.tmp 34) 0, type := 23, pos := "operators.go:22", after := #[{ on := 5, ground := Ground.data }], guard := none } : Oper)) (v := ?_) rfl (by kernel_rfl) (by kernel_rfl) (by kernel_rfl) (fun _ _ _ h => h) (Or.inl ⟨by rfl, ?_⟩) (by assumption) ?_
  rotate_left 1
  · (intro u hSw; go_simp; try with_reducible rfl)
  try simp only [Act.put, List.setIfInBounds_toArray, List.set_cons_zero, List.set_cons_succ]
  refine wpAnyH_take (i := 7) (oi := ({ dst := some 36, op := Op.extract (Operand.tmp 34) 1, type := 25, pos := "operators.go:22", after := #[{ on := 5, ground := Ground.data }], guard := none } : Oper)) (v := ?_) rfl (by kernel_rfl) (by kernel_rfl) (by kernel_rfl) (fun _ _ _ h => h) (Or.inl ⟨by rfl, ?_⟩) (by assumption) ?_
  rotate_left 1
  · (intro u hSw; go_simp; try with_reducible rfl)
  try simp only [Act.put, List.setIfInBounds_toArray, List.set_cons_zero, List.set_cons_succ]
  refine wpAnyH_ready (rs := [8]) (by kernel_rfl) (by simp) ?_
  refine AllReadyH.cons (o := ({ dst := none, op := Op.store 23 (Operand.tmp 6) (Operand.tmp 35), type := 0, pos := "operators.go:22", after := #[{ on := 6, ground := Ground.data }, { on := 5, ground := Ground.chain }, { on := 0, ground := Ground.phase }, { on := 1, ground := Ground.phase }, { on := 2, ground := Ground.phase }, { on := 3, ground := Ground.phase }, { on := 4, ground := Ground.phase }, { on := 5, ground := Ground.phase }, { on := 6, ground := Ground.phase }, { on := 7, ground := Ground.phase }], guard := none } : Oper)) rfl (fun K hK => ?_) AllReadyH.nil
  have hS3 := hHeld.setR R.1
  go_simp
  refine hK.out _ _ hS3 (fun hHeld => ?_)
  clear hK K
  try simp only [Act.put]
  refine wpAnyH_take (i := 9) (oi := ({ dst := some 7, op := Op.assign (Operand.tmp 36), type := 25, pos := "operators.go:22", after := #[{ on := 7, ground := Ground.data }, { on := 8, ground := Ground.chain }, { on := 0, ground := Ground.phase }, { on := 1, ground := Ground.phase }, { on := 2, ground := Ground.phase }, { on := 3, ground := Ground.phase }, { on := 4, ground := Ground.phase }, { on := 5, ground := Ground.phase }, { on := 6, ground := Ground.phase }, { on := 7, ground := Ground.phase }, { on := 8, ground := Ground.phase }], guard := none } : Oper)) (v := ?_) rfl (by kernel_rfl) (by kernel_rfl) (by kernel_rfl) (fun _ _ _ h => h) (Or.inl ⟨by rfl, ?_⟩) (by assumption) ?_
  rotate_left 1
  · (intro u hSw; go_simp; try with_reducible rfl)
  try simp only [Act.put, List.setIfInBounds_toArray, List.set_cons_zero, List.set_cons_succ]
  refine wpAnyH_done (by kernel_rfl) ?_ _
  go_wp2_with fail
  refine bodyPost_ret (v := .tuple #[.agg #[.int .i64 R.1.k, .int .i64 R.1.n, .string (str R.1.s)], .int .i64 R.2]) (by simp [results, Try.results13, go_sem, z0, z1, z2]) rfl ⟨rfl, hHeld.1.2.2⟩
set_option maxRecDepth 100000 in
set_option maxHeartbeats 6400000 in
theorem do_15 (a b : Val) (w : World) (ha : a.OK) (hb : b.OK) : Calls Try.prog 13 #[.int .i64 15, .agg #[.int .i64 a.k, .int .i64 a.n, .string (str a.s)], .agg #[.int .i64 b.k, .int .i64 b.n, .string (str b.s)]] w fun e w' => e = .returned (.tuple #[.agg #[.int .i64 ((doR 15 (normV a) (normV b)).1).k, .int .i64 ((doR 15 (normV a) (normV b)).1).n, .string (str ((doR 15 (normV a) (normV b)).1).s)], .int .i64 (doR 15 (normV a) (normV b)).2]) ∧ Below w.heap.size w w' := by
  have hA := norm_i64 ha
  have hB := norm_i64 hb
  have hra := norm_rng ha.1
  have hrb := norm_rng hb.1
  have HT := Lib.hid (tri_new w a b)
  have ht1 := fun w => takesOne_any 15 w
  have ht2 := fun w => calculates_any 15 w
  simp only [show oneOf 15 = false from rfl, show decide (4 ≤ (15 : Int) ∧ (15 : Int) ≤ 9) = false from rfl] at ht1 ht2
  have HT1 := Lib.hid ht1
  have HT2 := Lib.hid ht2
  have ht3 := fun w => compares_any 15 w
  simp only [show decide (10 ≤ (15 : Int) ∧ (15 : Int) ≤ 15) = true from rfl] at ht3
  have HT3 := Lib.hid ht3
  clear ht3
  clear ht1 ht2 ha hb hA hB
  rw [show doR 15 (normV a) (normV b) = ofK (normV a) (normV b) (holdK 15 (ordV (normV a) (normV b))) from rfl]
  have HO := Lib.hid (fun u => cmpOf6 (normV a) (normV b) u (holdK 15 (ordV (normV a) (normV b))) hra hrb (fun w => cmp6_any _ _))
  generalize ofK (normV a) (normV b) (holdK 15 (ordV (normV a) (normV b))) = R at *
  clear hra hrb
  go_enter Try.func13, Try.ntmps13
  go_wp2_with fail
  refine do_reg1 _ _ _ w _ HT.out ?_
  intro u hT
  clear HT
  obtain ⟨p0, p1, p2⟩ := bx_cells hT.1.1; obtain ⟨q0, q1, q2⟩ := bx_cells hT.1.2.1; obtain ⟨g0, g1, g2⟩ := bx_free hT.1.2.1; have hT0 := hT; obtain ⟨_, zk, zn, zs, hz⟩ := hT; obtain ⟨z0, z1, z2⟩ := bx_cells hz; obtain ⟨f0, f1, f2⟩ := bx_free hz
  have hS0 := hT0
  clear hz hT0
  have HS0 := Lib.hid hS0
  go_wp2_with (first
    | (go_at_call 31; refine (HT1.out _).mono ?_; rintro e w' ⟨rfl, rfl⟩)
    | (go_at_call 32; refine (HT2.out _).mono ?_; rintro e w' ⟨rfl, rfl⟩)
    | (go_at_call 35; refine (HT3.out _).mono ?_; rintro e w' ⟨rfl, rfl⟩))
  refine wp_region_held_drew (S := fun u => Tri w u (normV a) (normV b)) (by kernel_rfl) (HS0.out.drew) (fun hHeld => ?_)
  refine wpAnyH_take (i := 1) (oi := ({ dst := some 30, op := Op.move (Operand.tmp 0), type := 3, pos := "operators.go:22", after := #[], guard := none } : Oper)) (v := ?_) rfl (by kernel_rfl) (by kernel_rfl) (by kernel_rfl) (fun _ _ _ h => h) (Or.inl ⟨by rfl, ?_⟩) (by assumption) ?_
  rotate_left 1
  · (intro u hSw; go_simp; try with_reducible rfl)
  try simp only [Act.put, List.setIfInBounds_toArray, List.set_cons_zero, List.set_cons_succ]
  refine wpAnyH_take (i := 3) (oi := ({ dst := some 32, op := Op.load 23 (Operand.tmp 4), type := 23, pos := "operators.go:22", after := #[], guard := none } : Oper)) (v := ?_) rfl (by kernel_rfl) (by kernel_rfl) (by kernel_rfl) (fun _ _ _ h => h) (Or.inl ⟨by rfl, ?_⟩) (by assumption) ?_
  rotate_left 1
  · (intro u hSw; have p0 := (cell_of_row u (w.heap.size) 0 _ _ _ hSw.1.1).trans (show (#[Value.int .i64 (normV a).k, .int .i64 (normV a).n, .string (str (normV a).s)] : Array Value)[0]? = some (.int .i64 (normV a).k) from rfl); have p1 := (cell_of_row u (w.heap.size) 1 _ _ _ hSw.1.1).trans (show (#[Value.int .i64 (normV a).k, .int .i64 (normV a).n, .string (str (normV a).s)] : Array Value)[1]? = some (.int .i64 (normV a).n) from rfl); have p2 := (cell_of_row u (w.heap.size) 2 _ _ _ hSw.1.1).trans (show (#[Value.int .i64 (normV a).k, .int .i64 (normV a).n, .string (str (normV a).s)] : Array Value)[2]? = some (.string (str (normV a).s)) from rfl); have q0 := (cell_of_row u (w.heap.size + 1) 0 _ _ _ hSw.1.2.1).trans (show (#[Value.int .i64 (normV b).k, .int .i64 (normV b).n, .string (str (normV b).s)] : Array Value)[0]? = some (.int .i64 (normV b).k) from rfl); have q1 := (cell_of_row u (w.heap.size + 1) 1 _ _ _ hSw.1.2.1).trans (show (#[Value.int .i64 (normV b).k, .int .i64 (normV b).n, .string (str (normV b).s)] : Array Value)[1]? = some (.int .i64 (normV b).n) from rfl); have q2 := (cell_of_row u (w.heap.size + 1) 2 _ _ _ hSw.1.2.1).trans (show (#[Value.int .i64 (normV b).k, .int .i64 (normV b).n, .string (str (normV b).s)] : Array Value)[2]? = some (.string (str (normV b).s)) from rfl); go_simp; try with_reducible rfl)
  try simp only [Act.put, List.setIfInBounds_toArray, List.set_cons_zero, List.set_cons_succ]
  refine wpAnyH_take (i := 4) (oi := ({ dst := some 33, op := Op.load 23 (Operand.tmp 5), type := 23, pos := "operators.go:22", after := #[], guard := none } : Oper)) (v := ?_) rfl (by kernel_rfl) (by kernel_rfl) (by kernel_rfl) (fun _ _ _ h => h) (Or.inl ⟨by rfl, ?_⟩) (by assumption) ?_
  rotate_left 1
  · (intro u hSw; have p0 := (cell_of_row u (w.heap.size) 0 _ _ _ hSw.1.1).trans (show (#[Value.int .i64 (normV a).k, .int .i64 (normV a).n, .string (str (normV a).s)] : Array Value)[0]? = some (.int .i64 (normV a).k) from rfl); have p1 := (cell_of_row u (w.heap.size) 1 _ _ _ hSw.1.1).trans (show (#[Value.int .i64 (normV a).k, .int .i64 (normV a).n, .string (str (normV a).s)] : Array Value)[1]? = some (.int .i64 (normV a).n) from rfl); have p2 := (cell_of_row u (w.heap.size) 2 _ _ _ hSw.1.1).trans (show (#[Value.int .i64 (normV a).k, .int .i64 (normV a).n, .string (str (normV a).s)] : Array Value)[2]? = some (.string (str (normV a).s)) from rfl); have q0 := (cell_of_row u (w.heap.size + 1) 0 _ _ _ hSw.1.2.1).trans (show (#[Value.int .i64 (normV b).k, .int .i64 (normV b).n, .string (str (normV b).s)] : Array Value)[0]? = some (.int .i64 (normV b).k) from rfl); have q1 := (cell_of_row u (w.heap.size + 1) 1 _ _ _ hSw.1.2.1).trans (show (#[Value.int .i64 (normV b).k, .int .i64 (normV b).n, .string (str (normV b).s)] : Array Value)[1]? = some (.int .i64 (normV b).n) from rfl); have q2 := (cell_of_row u (w.heap.size + 1) 2 _ _ _ hSw.1.2.1).trans (show (#[Value.int .i64 (normV b).k, .int .i64 (normV b).n, .string (str (normV b).s)] : Array Value)[2]? = some (.string (str (normV b).s)) from rfl); go_simp; try with_reducible rfl)
  try simp only [Act.put, List.setIfInBounds_toArray, List.set_cons_zero, List.set_cons_succ]
  refine wpAnyH_ready (rs := [0]) (by kernel_rfl) (by simp) ?_
  refine AllReadyH.cons (o := ({ dst := some 29, op := Op.call { callee := Callee.value (Operand.func 36), args := #[], argTypes := #[] }, type := 58, pos := "operators.go:22", after := #[], guard := none } : Oper)) rfl (fun K hK => ?_) AllReadyH.nil
  go_simp
  go_at_call 36
  refine (comparisons_any _).mono ?_
  rintro e w1 ⟨M, rfl, hF, hb⟩
  replace hS1 := hS0.drew.below hb
  clear hS0
  go_wp2_with fail
  refine hK.out _ _ hS1 (fun hHeld => ?_)
  clear hK K
  try simp only [Act.put, List.setIfInBounds_toArray, List.set_cons_zero, List.set_cons_succ]
  refine wpAnyH_ready (rs := [2]) (by kernel_rfl) (by simp) ?_
  refine AllReadyH.cons (o := ({ dst := some 31, op := Op.lookup 58 (Operand.tmp 29) (Operand.tmp 30) false, type := 57, pos := "operators.go:22", after := #[{ on := 0, ground := Ground.data }, { on := 1, ground := Ground.data }], guard := none } : Oper)) rfl (fun K hK => ?_) AllReadyH.nil
  have hl := run_lookF Try.underlying58 w1 M 15 _ hF (5, FF 71) rfl false
  simp only [Bool.false_eq_true, if_false] at hl
  go_simp
  refine hK.out _ _ hHeld (fun hHeld => ?_)
  clear hK K
  try simp only [Act.put, List.setIfInBounds_toArray, List.set_cons_zero, List.set_cons_succ]
  refine wpAnyH_ready (rs := [5]) (by kernel_rfl) (by simp) ?_
  refine AllReadyH.cons (o := ({ dst := some 34, op := Op.call { callee := Callee.value (Operand.func 37), args := #[Operand.tmp 31, Operand.tmp 32, Operand.tmp 33], argTypes := #[57, 23, 23] }, type := 26, pos := "operators.go:22", after := #[{ on := 2, ground := Ground.data }, { on := 3, ground := Ground.data }, { on := 4, ground := Ground.data }, { on := 0, ground := Ground.chain }], guard := none } : Oper)) rfl (fun K hK => ?_) AllReadyH.nil
  clear hF hS1
  go_simp
  go_at_call 37
  refine (HO.out _).mono ?_
  rintro e w2 ⟨rfl, hb⟩
  have hS2 := hHeld.below hb
  obtain ⟨_, zk, zn, zs, hz⟩ := hS2
  obtain ⟨z0, z1, z2⟩ := bx_cells hz
  obtain ⟨f0, f1, f2⟩ := bx_free hz
  go_wp2_with fail
  refine hK.out _ _ (hHeld.below hb) (fun hHeld => ?_)
  clear hK K
  try simp only [Act.put, List.setIfInBounds_toArray, List.set_cons_zero, List.set_cons_succ]
  refine wpAnyH_take (i := 6) (oi := ({ dst := some 35, op := Op.extract (Operand.tmp 34) 0, type := 23, pos := "operators.go:22", after := #[{ on := 5, ground := Ground.data }], guard := none } : Oper)) (v := ?_) rfl (by kernel_rfl) (by kernel_rfl) (by kernel_rfl) (fun _ _ _ h => h) (Or.inl ⟨by rfl, ?_⟩) (by assumption) ?_
  rotate_left 1
  · (intro u hSw; go_simp; try with_reducible rfl)
  try simp only [Act.put, List.setIfInBounds_toArray, List.set_cons_zero, List.set_cons_succ]
  refine wpAnyH_take (i := 7) (oi := ({ dst := some 36, op := Op.extract (Operand.tmp 34) 1, type := 25, pos := "operators.go:22", after := #[{ on := 5, ground := Ground.data }], guard := none } : Oper)) (v := ?_) rfl (by kernel_rfl) (by kernel_rfl) (by kernel_rfl) (fun _ _ _ h => h) (Or.inl ⟨by rfl, ?_⟩) (by assumption) ?_
  rotate_left 1
  · (intro u hSw; go_simp; try with_reducible rfl)
  try simp only [Act.put, List.setIfInBounds_toArray, List.set_cons_zero, List.set_cons_succ]
  refine wpAnyH_ready (rs := [8]) (by kernel_rfl) (by simp) ?_
  refine AllReadyH.cons (o := ({ dst := none, op := Op.store 23 (Operand.tmp 6) (Operand.tmp 35), type := 0, pos := "operators.go:22", after := #[{ on := 6, ground := Ground.data }, { on := 5, ground := Ground.chain }, { on := 0, ground := Ground.phase }, { on := 1, ground := Ground.phase }, { on := 2, ground := Ground.phase }, { on := 3, ground := Ground.phase }, { on := 4, ground := Ground.phase }, { on := 5, ground := Ground.phase }, { on := 6, ground := Ground.phase }, { on := 7, ground := Ground.phase }], guard := none } : Oper)) rfl (fun K hK => ?_) AllReadyH.nil
  have hS3 := hHeld.setR R.1
  go_simp
  refine hK.out _ _ hS3 (fun hHeld => ?_)
  clear hK K
  try simp only [Act.put]
  refine wpAnyH_take (i := 9) (oi := ({ dst := some 7, op := Op.assign (Operand.tmp 36), type := 25, pos := "operators.go:22", after := #[{ on := 7, ground := Ground.data }, { on := 8, ground := Ground.chain }, { on := 0, ground := Ground.phase }, { on := 1, ground := Ground.phase }, { on := 2, ground := Ground.phase }, { on := 3, ground := Ground.phase }, { on := 4, ground := Ground.phase }, { on := 5, ground := Ground.phase }, { on := 6, ground := Ground.phase }, { on := 7, ground := Ground.phase }, { on := 8, ground := Ground.phase }], guard := none } : Oper)) (v := ?_) rfl (by kernel_rfl) (by kernel_rfl) (by kernel_rfl) (fun _ _ _ h => h) (Or.inl ⟨by rfl, ?_⟩) (by assumption) ?_
  rotate_left 1
  · (intro u hSw; go_simp; try with_reducible rfl)
  try simp only [Act.put, List.setIfInBounds_toArray, List.set_cons_zero, List.set_cons_succ]
  refine wpAnyH_done (by kernel_rfl) ?_ _
  go_wp2_with fail
  refine bodyPost_ret (v := .tuple #[.agg #[.int .i64 R.1.k, .int .i64 R.1.n, .string (str R.1.s)], .int .i64 R.2]) (by simp [results, Try.results13, go_sem, z0, z1, z2]) rfl ⟨rfl, hHeld.1.2.2⟩
end Go.Proofs.Ytbhilmgpmebaiaa
