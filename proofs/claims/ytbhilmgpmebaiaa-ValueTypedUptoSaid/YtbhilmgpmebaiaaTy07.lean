import Derived.Test.YtbhilmgpmebaiaaTy02
import Derived.Test.YtbhilmgpmebaiaaTy03
import Derived.Test.YtbhilmgpmebaiaaTy04
import Derived.Test.YtbhilmgpmebaiaaTy06
namespace Go.Proofs.Ytbhilmgpmebaiaa
open Go.RowKit
attribute [local go_sem ↓] eql32_eq neq32_eq
def holdK (op c : Int) : Bool := if op = 10 then decide (c = 0) else if op = 11 then decide (c ≠ 0) else if op = 12 then decide (c < 0) else if op = 13 then decide (c ≤ 0) else if op = 14 then decide (0 < c) else decide (0 ≤ c)
def calK (op x y : Int) : Int × Int := if op = 4 then fit (0 - x) else if op = 5 then fit (x + y) else if op = 6 then fit (x - y) else if op = 7 then fit (x * y) else if op = 8 then dvd x y else rmd x y
/-- what Do answers, of plain values -/
def doR (op : Int) (A B : Val) : Val × Int := if 4 ≤ op ∧ op ≤ 9 then ofR A B (calK op A.n B.n) else if 10 ≤ op ∧ op ≤ 15 then ofK A B (holdK op (ordV A B)) else if op = 16 then notV A else if op = 17 then decV false A B else if op = 18 then decV true A B else if op = 19 then testV A true else if op = 20 then testV A false else (nulV, 1)
theorem norm_i64 {x : Val} (h : x.OK) : I64 (normV x).n := ⟨(nrm_norm h).1.2.2.2.1, (nrm_norm h).1.2.2.2.2⟩
set_option maxRecDepth 100000 in
set_option maxHeartbeats 6400000 in
theorem do_4 (a b : Val) (w : World) (ha : a.OK) (hb : b.OK) : Calls Try.prog 13 #[.int .i64 4, .agg #[.int .i64 a.k, .int .i64 a.n, .string (str a.s)], .agg #[.int .i64 b.k, .int .i64 b.n, .string (str b.s)]] w fun e w' => e = .returned (.tuple #[.agg #[.int .i64 ((doR 4 (normV a) (normV a)).1).k, .int .i64 ((doR 4 (normV a) (normV a)).1).n, .string (str ((doR 4 (normV a) (normV a)).1).s)], .int .i64 (doR 4 (normV a) (normV a)).2]) ∧ Below w.heap.size w w' := by
  have hA := norm_i64 ha
  have hB := norm_i64 hb
  have hra := norm_rng ha.1
  have hrb := norm_rng hb.1
  have HT := Lib.hid (tri_new w a b)
  have ht1 := fun w => takesOne_any 4 w
  have ht2 := fun w => calculates_any 4 w
  simp only [show oneOf 4 = true from rfl, show decide (4 ≤ (4 : Int) ∧ (4 : Int) ≤ 9) = true from rfl] at ht1 ht2
  have HT1 := Lib.hid ht1
  have HT2 := Lib.hid ht2
  clear ht1 ht2 ha hb
  rw [show doR 4 (normV a) (normV a) = ofR (normV a) (normV a) (fit (0 - (normV a).n)) from rfl]
  have HO := Lib.hid (fun u => calcOf_neg (normV a) (normV a) u (fit (0 - (normV a).n)) hra hra (fun w => neg_any _ _ _ hA))
  generalize ofR (normV a) (normV a) (fit (0 - (normV a).n)) = R at *
  clear hA hB hra hrb
  go_enter Try.func13, Try.ntmps13
  go_wp2_with fail
  refine do_reg1 _ _ _ w _ HT.out ?_
  intro u hT
  clear HT
  obtain ⟨p0, p1, p2⟩ := bx_cells hT.1.1; obtain ⟨q0, q1, q2⟩ := bx_cells hT.1.2.1; obtain ⟨g0, g1, g2⟩ := bx_free hT.1.2.1; have hT0 := hT; obtain ⟨_, zk, zn, zs, hz⟩ := hT; obtain ⟨z0, z1, z2⟩ := bx_cells hz; obtain ⟨f0, f1, f2⟩ := bx_free hz
  have hS0 := hT0.set2 (normV a)
  clear hz hT0
  have HS0 := Lib.hid hS0
  go_wp2_with (first
    | (go_at_call 31; refine (HT1.out _).mono ?_; rintro e w' ⟨rfl, rfl⟩)
    | (go_at_call 32; refine (HT2.out _).mono ?_; rintro e w' ⟨rfl, rfl⟩))
  refine wp_region_held_drew (S := fun u => Tri w u (normV a) (normV a)) (by kernel_rfl) (HS0.out.drew) (fun hHeld => ?_)
  refine wpAnyH_take (i := 1) (oi := ({ dst := some 20, op := Op.move (Operand.tmp 0), type := 3, pos := "operators.go:19", after := #[], guard := none } : Oper)) (v := ?_) rfl (by kernel_rfl) (by kernel_rfl) (by kernel_rfl) (fun _ _ _ h => h) (Or.inl ⟨by rfl, ?_⟩) (by assumption) ?_
  rotate_left 1
  · (intro u hSw; go_simp; try with_reducible rfl)
  try simp only [Act.put, List.setIfInBounds_toArray, List.set_cons_zero, List.set_cons_succ]
  refine wpAnyH_take (i := 3) (oi := ({ dst := some 22, op := Op.load 23 (Operand.tmp 4), type := 23, pos := "operators.go:19", after := #[], guard := none } : Oper)) (v := ?_) rfl (by kernel_rfl) (by kernel_rfl) (by kernel_rfl) (fun _ _ _ h => h) (Or.inl ⟨by rfl, ?_⟩) (by assumption) ?_
  rotate_left 1
  · (intro u hSw; have p0 := (cell_of_row u (w.heap.size) 0 _ _ _ hSw.1.1).trans (show (#[Value.int .i64 (normV a).k, .int .i64 (normV a).n, .string (str (normV a).s)] : Array Value)[0]? = some (.int .i64 (normV a).k) from rfl); have p1 := (cell_of_row u (w.heap.size) 1 _ _ _ hSw.1.1).trans (show (#[Value.int .i64 (normV a).k, .int .i64 (normV a).n, .string (str (normV a).s)] : Array Value)[1]? = some (.int .i64 (normV a).n) from rfl); have p2 := (cell_of_row u (w.heap.size) 2 _ _ _ hSw.1.1).trans (show (#[Value.int .i64 (normV a).k, .int .i64 (normV a).n, .string (str (normV a).s)] : Array Value)[2]? = some (.string (str (normV a).s)) from rfl); have q0 := (cell_of_row u (w.heap.size + 1) 0 _ _ _ hSw.1.2.1).trans (show (#[Value.int .i64 (normV a).k, .int .i64 (normV a).n, .string (str (normV a).s)] : Array Value)[0]? = some (.int .i64 (normV a).k) from rfl); have q1 := (cell_of_row u (w.heap.size + 1) 1 _ _ _ hSw.1.2.1).trans (show (#[Value.int .i64 (normV a).k, .int .i64 (normV a).n, .string (str (normV a).s)] : Array Value)[1]? = some (.int .i64 (normV a).n) from rfl); have q2 := (cell_of_row u (w.heap.size + 1) 2 _ _ _ hSw.1.2.1).trans (show (#[Value.int .i64 (normV a).k, .int .i64 (normV a).n, .string (str (normV a).s)] : Array Value)[2]? = some (.string (str (normV a).s)) from rfl); go_simp; try with_reducible rfl)
  try simp only [Act.put, List.setIfInBounds_toArray, List.set_cons_zero, List.set_cons_succ]
  refine wpAnyH_take (i := 4) (oi := ({ dst := some 23, op := Op.load 23 (Operand.tmp 5), type := 23, pos := "operators.go:19", after := #[], guard := none } : Oper)) (v := ?_) rfl (by kernel_rfl) (by kernel_rfl) (by kernel_rfl) (fun _ _ _ h => h) (Or.inl ⟨by rfl, ?_⟩) (by assumption) ?_
  rotate_left 1
  · (intro u hSw; have p0 := (cell_of_row u (w.heap.size) 0 _ _ _ hSw.1.1).trans (show (#[Value.int .i64 (normV a).k, .int .i64 (normV a).n, .string (str (normV a).s)] : Array Value)[0]? = some (.int .i64 (normV a).k) from rfl); have p1 := (cell_of_row u (w.heap.size) 1 _ _ _ hSw.1.1).trans (show (#[Value.int .i64 (normV a).k, .int .i64 (normV a).n, .string (str (normV a).s)] : Array Value)[1]? = some (.int .i64 (normV a).n) from rfl); have p2 := (cell_of_row u (w.heap.size) 2 _ _ _ hSw.1.1).trans (show (#[Value.int .i64 (normV a).k, .int .i64 (normV a).n, .string (str (normV a).s)] : Array Value)[2]? = some (.string (str (normV a).s)) from rfl); have q0 := (cell_of_row u (w.heap.size + 1) 0 _ _ _ hSw.1.2.1).trans (show (#[Value.int .i64 (normV a).k, .int .i64 (normV a).n, .string (str (normV a).s)] : Array Value)[0]? = some (.int .i64 (normV a).k) from rfl); have q1 := (cell_of_row u (w.heap.size + 1) 1 _ _ _ hSw.1.2.1).trans (show (#[Value.int .i64 (normV a).k, .int .i64 (normV a).n, .string (str (normV a).s)] : Array Value)[1]? = some (.int .i64 (normV a).n) from rfl); have q2 := (cell_of_row u (w.heap.size + 1) 2 _ _ _ hSw.1.2.1).trans (show (#[Value.int .i64 (normV a).k, .int .i64 (normV a).n, .string (str (normV a).s)] : Array Value)[2]? = some (.string (str (normV a).s)) from rfl); go_simp; try with_reducible rfl)
  try simp only [Act.put, List.setIfInBounds_toArray, List.set_cons_zero, List.set_cons_succ]
  refine wpAnyH_ready (rs := [0]) (by kernel_rfl) (by simp) ?_
  refine AllReadyH.cons (o := ({ dst := some 19, op := Op.call { callee := Callee.value (Operand.func 33), args := #[], argTypes := #[] }, type := 54, pos := "operators.go:19", after := #[], guard := none } : Oper)) rfl (fun K hK => ?_) AllReadyH.nil
  go_simp
  go_at_call 33
  refine (calculations_any _).mono ?_
  rintro e w1 ⟨M, rfl, hF, hb⟩
  replace hS1 := hS0.drew.below hb
  clear hS0
  go_wp2_with fail
  refine hK.out _ _ hS1 (fun hHeld => ?_)
  clear hK K
  try simp only [Act.put, List.setIfInBounds_toArray, List.set_cons_zero, List.set_cons_succ]
  refine wpAnyH_ready (rs := [2]) (by kernel_rfl) (by simp) ?_
  refine AllReadyH.cons (o := ({ dst := some 21, op := Op.lookup 54 (Operand.tmp 19) (Operand.tmp 20) false, type := 53, pos := "operators.go:19", after := #[{ on := 0, ground := Ground.data }, { on := 1, ground := Ground.data }], guard := none } : Oper)) rfl (fun K hK => ?_) AllReadyH.nil
  have hl := run_lookF Try.underlying54 w1 M 4 _ hF (0, FF 59) rfl false
  simp only [Bool.false_eq_true, if_false] at hl
  go_simp
  refine hK.out _ _ hHeld (fun hHeld => ?_)
  clear hK K
  try simp only [Act.put, List.setIfInBounds_toArray, List.set_cons_zero, List.set_cons_succ]
  refine wpAnyH_ready (rs := [5]) (by kernel_rfl) (by simp) ?_
  refine AllReadyH.cons (o := ({ dst := some 24, op := Op.call { callee := Callee.value (Operand.func 34), args := #[Operand.tmp 21, Operand.tmp 22, Operand.tmp 23], argTypes := #[53, 23, 23] }, type := 26, pos := "operators.go:19", after := #[{ on := 2, ground := Ground.data }, { on := 3, ground := Ground.data }, { on := 4, ground := Ground.data }, { on := 0, ground := Ground.chain }], guard := none } : Oper)) rfl (fun K hK => ?_) AllReadyH.nil
  clear hF hS1
  go_simp
  go_at_call 34
  refine (HO.out _).mono ?_
  rintro e w2 ⟨rfl, hb⟩
  have hS2 := hHeld.below hb
  obtain ⟨_, zk, zn, zs, hz⟩ := hS2
  obtain ⟨z0, z1, z2⟩ := bx_cells hz
  obtain ⟨f0, f1, f2⟩ := bx_free hz
  go_wp2_with fail
  refine hK.out _ _ (hHeld.below hb) (fun hHeld => ?_)
  clear hK K
  try simp only [Act.put, List.setIfInBounds_toArray, List.set_cons_zero, List.set_cons_succ]
  refine wpAnyH_take (i := 6) (oi := ({ dst := some 25, op := Op.extract (Operand.tmp 24) 0, type := 23, pos := "operators.go:19", after := #[{ on := 5, ground := Ground.data }], guard := none } : Oper)) (v := ?_) rfl (by kernel_rfl) (by kernel_rfl) (by kernel_rfl) (fun _ _ _ h => h) (Or.inl ⟨by rfl, ?_⟩) (by assumption) ?_
  rotate_left 1
  · (intro u hSw; go_simp; try with_reducible rfl)
  try simp only [Act.put, List.setIfInBounds_toArray, List.set_cons_zero, List.set_cons_succ]
  refine wpAnyH_take (i := 7) (oi := ({ dst := some 26, op := Op.extract (Operand.tmp 24) 1, type := 25, pos := "operators.go:19", after := #[{ on := 5, ground := Ground.data }], guard := none } : Oper)) (v := ?_) rfl (by kernel_rfl) (by kernel_rfl) (by kernel_rfl) (fun _ _ _ h => h) (Or.inl ⟨by rfl, ?_⟩) (by assumption) ?_
  rotate_left 1
  · (intro u hSw; go_simp; try with_reducible rfl)
  try simp only [Act.put, List.setIfInBounds_toArray, List.set_cons_zero, List.set_cons_succ]
  refine wpAnyH_ready (rs := [8]) (by kernel_rfl) (by simp) ?_
  refine AllReadyH.cons (o := ({ dst := none, op := Op.store 23 (Operand.tmp 6) (Operand.tmp 25), type := 0, pos := "operators.go:19", after := #[{ on := 6, ground := Ground.data }, { on := 5, ground := Ground.chain }, { on := 0, ground := Ground.phase }, { on := 1, ground := Ground.phase }, { on := 2, ground := Ground.phase }, { on := 3, ground := Ground.phase }, { on := 4, ground := Ground.phase }, { on := 5, ground := Ground.phase }, { on := 6, ground := Ground.phase }, { on := 7, ground := Ground.phase }], guard := none } : Oper)) rfl (fun K hK => ?_) AllReadyH.nil
  have hS3 := hHeld.setR R.1
  go_simp
  refine hK.out _ _ hS3 (fun hHeld => ?_)
  clear hK K
  try simp only [Act.put]
  refine wpAnyH_take (i := 9) (oi := ({ dst := some 7, op := Op.assign (Operand.tmp 26), type := 25, pos := "operators.go:19", after := #[{ on := 7, ground := Ground.data }, { on := 8, ground := Ground.chain }, { on := 0, ground := Ground.phase }, { on := 1, ground := Ground.phase }, { on := 2, ground := Ground.phase }, { on := 3, ground := Ground.phase }, { on := 4, ground := Ground.phase }, { on := 5, ground := Ground.phase }, { on := 6, ground := Ground.phase }, { on := 7, ground := Ground.phase }, { on := 8, ground := Ground.phase }], guard := none } : Oper)) (v := ?_) rfl (by kernel_rfl) (by kernel_rfl) (by kernel_rfl) (fun _ _ _ h => h) (Or.inl ⟨by rfl, ?_⟩) (by assumption) ?_
  rotate_left 1
  · (intro u hSw; go_simp; try with_reducible rfl)
  try simp only [Act.put, List.setIfInBounds_toArray, List.set_cons_zero, List.set_cons_succ]
  refine wpAnyH_done (by kernel_rfl) ?_ _
  go_wp2_with fail
  refine bodyPost_ret (v := .tuple #[.agg #[.int .i64 R.1.k, .int .i64 R.1.n, .string (str R.1.s)], .int .i64 R.2]) (by simp [results, Try.results13, go_sem, z0, z1, z2]) rfl ⟨rfl, hHeld.1.2.2⟩
set_option maxRecDepth 100000 in
set_option maxHeartbeats 6400000 in
theorem do_5 (a b : Val) (w : World) (ha : a.OK) (hb : b.OK) : Calls Try.prog 13 #[.int .i64 5, .agg #[.int .i64 a.k, .int .i64 a.n, .string (str a.s)], .agg #[.int .i64 b.k, .int .i64 b.n, .string (str b.s)]] w fun e w' => e = .returned (.tuple #[.agg #[.int .i64 ((doR 5 (normV a) (normV b)).1).k, .int .i64 ((doR 5 (normV a) (normV b)).1).n, .string (str ((doR 5 (normV a) (normV b)).1).s)], .int .i64 (doR 5 (normV a) (normV b)).2]) ∧ Below w.heap.size w w' := by
  have hA := norm_i64 ha
  have hB := norm_i64 hb
  have hra := norm_rng ha.1
  have hrb := norm_rng hb.1
  have HT := Lib.hid (tri_new w a b)
  have ht1 := fun w => takesOne_any 5 w
  have ht2 := fun w => calculates_any 5 w
  simp only [show oneOf 5 = false from rfl, show decide (4 ≤ (5 : Int) ∧ (5 : Int) ≤ 9) = true from rfl] at ht1 ht2
  have HT1 := Lib.hid ht1
  have HT2 := Lib.hid ht2
  clear ht1 ht2 ha hb
  rw [show doR 5 (normV a) (normV b) = ofR (normV a) (normV b) (fit ((normV a).n + (normV b).n)) from rfl]
  have HO := Lib.hid (fun u => calcOf_add (normV a) (normV b) u (fit ((normV a).n + (normV b).n)) hra hrb (fun w => add_any _ _ _ hA hB))
  generalize ofR (normV a) (normV b) (fit ((normV a).n + (normV b).n)) = R at *
  clear hA hB hra hrb
  go_enter Try.func13, Try.ntmps13
  go_wp2_with fail
  refine do_reg1 _ _ _ w _ HT.out ?_
  intro u hT
  clear HT
  obtain ⟨p0, p1, p2⟩ := bx_cells hT.1.1; obtain ⟨q0, q1, q2⟩ := bx_cells hT.1.2.1; obtain ⟨g0, g1, g2⟩ := bx_free hT.1.2.1; have hT0 := hT; obtain ⟨_, zk, zn, zs, hz⟩ := hT; obtain ⟨z0, z1, z2⟩ := bx_cells hz; obtain ⟨f0, f1, f2⟩ := bx_free hz
  have hS0 := hT0
  clear hz hT0
  have HS0 := Lib.hid hS0
  go_wp2_with (first
    | (go_at_call 31; refine (HT1.out _).mono ?_; rintro e w' ⟨rfl, rfl⟩)
    | (go_at_call 32; refine (HT2.out _).mono ?_; rintro e w' ⟨rfl, rfl⟩))
  refine wp_region_held_drew (S := fun u => Tri w u (normV a) (normV b)) (by kernel_rfl) (HS0.out.drew) (fun hHeld => ?_)
  refine wpAnyH_take (i := 1) (oi := ({ dst := some 20, op := Op.move (Operand.tmp 0), type := 3, pos := "operators.go:19", after := #[], guard := none } : Oper)) (v := ?_) rfl (by kernel_rfl) (by kernel_rfl) (by kernel_rfl) (fun _ _ _ h => h) (Or.inl ⟨by rfl, ?_⟩) (by assumption) ?_
  rotate_left 1
  · (intro u hSw; go_simp; try with_reducible rfl)
  try simp only [Act.put, List.setIfInBounds_toArray, List.set_cons_zero, List.set_cons_succ]
  refine wpAnyH_take (i := 3) (oi := ({ dst := some 22, op := Op.load 23 (Operand.tmp 4), type := 23, pos := "operators.go:19", after := #[], guard := none } : Oper)) (v := ?_) rfl (by kernel_rfl) (by kernel_rfl) (by kernel_rfl) (fun _ _ _ h => h) (Or.inl ⟨by rfl, ?_⟩) (by assumption) ?_
  rotate_left 1
  · (intro u hSw; have p0 := (cell_of_row u (w.heap.size) 0 _ _ _ hSw.1.1).trans (show (#[Value.int .i64 (normV a).k, .int .i64 (normV a).n, .string (str (normV a).s)] : Array Value)[0]? = some (.int .i64 (normV a).k) from rfl); have p1 := (cell_of_row u (w.heap.size) 1 _ _ _ hSw.1.1).trans (show (#[Value.int .i64 (normV a).k, .int .i64 (normV a).n, .string (str (normV a).s)] : Array Value)[1]? = some (.int .i64 (normV a).n) from rfl); have p2 := (cell_of_row u (w.heap.size) 2 _ _ _ hSw.1.1).trans (show (#[Value.int .i64 (normV a).k, .int .i64 (normV a).n, .string (str (normV a).s)] : Array Value)[2]? = some (.string (str (normV a).s)) from rfl); have q0 := (cell_of_row u (w.heap.size + 1) 0 _ _ _ hSw.1.2.1).trans (show (#[Value.int .i64 (normV b).k, .int .i64 (normV b).n, .string (str (normV b).s)] : Array Value)[0]? = some (.int .i64 (normV b).k) from rfl); have q1 := (cell_of_row u (w.heap.size + 1) 1 _ _ _ hSw.1.2.1).trans (show (#[Value.int .i64 (normV b).k, .int .i64 (normV b).n, .string (str (normV b).s)] : Array Value)[1]? = some (.int .i64 (normV b).n) from rfl); have q2 := (cell_of_row u (w.heap.size + 1) 2 _ _ _ hSw.1.2.1).trans (show (#[Value.int .i64 (normV b).k, .int .i64 (normV b).n, .string (str (normV b).s)] : Array Value)[2]? = some (.string (str (normV b).s)) from rfl); go_simp; try with_reducible rfl)
  try simp only [Act.put, List.setIfInBounds_toArray, List.set_cons_zero, List.set_cons_succ]
  refine wpAnyH_take (i := 4) (oi := ({ dst := some 23, op := Op.load 23 (Operand.tmp 5), type := 23, pos := "operators.go:19", after := #[], guard := none } : Oper)) (v := ?_) rfl (by kernel_rfl) (by kernel_rfl) (by kernel_rfl) (fun _ _ _ h => h) (Or.inl ⟨by rfl, ?_⟩) (by assumption) ?_
  rotate_left 1
  · (intro u hSw; have p0 := (cell_of_row u (w.heap.size) 0 _ _ _ hSw.1.1).trans (show (#[Value.int .i64 (normV a).k, .int .i64 (normV a).n, .string (str (normV a).s)] : Array Value)[0]? = some (.int .i64 (normV a).k) from rfl); have p1 := (cell_of_row u (w.heap.size) 1 _ _ _ hSw.1.1).trans (show (#[Value.int .i64 (normV a).k, .int .i64 (normV a).n, .string (str (normV a).s)] : Array Value)[1]? = some (.int .i64 (normV a).n) from rfl); have p2 := (cell_of_row u (w.heap.size) 2 _ _ _ hSw.1.1).trans (show (#[Value.int .i64 (normV a).k, .int .i64 (normV a).n, .string (str (normV a).s)] : Array Value)[2]? = some (.string (str (normV a).s)) from rfl); have q0 := (cell_of_row u (w.heap.size + 1) 0 _ _ _ hSw.1.2.1).trans (show (#[Value.int .i64 (normV b).k, .int .i64 (normV b).n, .string (str (normV b).s)] : Array Value)[0]? = some (.int .i64 (normV b).k) from rfl); have q1 := (cell_of_row u (w.heap.size + 1) 1 _ _ _ hSw.1.2.1).trans (show (#[Value.int .i64 (normV b).k, .int .i64 (normV b).n, .string (str (normV b).s)] : Array Value)[1]? = some (.int .i64 (normV b).n) from rfl); have q2 := (cell_of_row u (w.heap.size + 1) 2 _ _ _ hSw.1.2.1).trans (show (#[Value.int .i64 (normV b).k, .int .i64 (normV b).n, .string (str (normV b).s)] : Array Value)[2]? = some (.string (str (normV b).s)) from rfl); go_simp; try with_reducible rfl)
  try simp only [Act.put, List.setIfInBounds_toArray, List.set_cons_zero, List.set_cons_succ]
  refine wpAnyH_ready (rs := [0]) (by kernel_rfl) (by simp) ?_
  refine AllReadyH.cons (o := ({ dst := some 19, op := Op.call { callee := Callee.value (Operand.func 33), args := #[], argTypes := #[] }, type := 54, pos := "operators.go:19", after := #[], guard := none } : Oper)) rfl (fun K hK => ?_) AllReadyH.nil
  go_simp
  go_at_call 33
  refine (calculations_any _).mono ?_
  rintro e w1 ⟨M, rfl, hF, hb⟩
  replace hS1 := hS0.drew.below hb
  clear hS0
  go_wp2_with fail
  refine hK.out _ _ hS1 (fun hHeld => ?_)
  clear hK K
  try simp only [Act.put, List.setIfInBounds_toArray, List.set_cons_zero, List.set_cons_succ]
  refine wpAnyH_ready (rs := [2]) (by kernel_rfl) (by simp) ?_
  refine AllReadyH.cons (o := ({ dst := some 21, op := Op.lookup 54 (Operand.tmp 19) (Operand.tmp 20) false, type := 53, pos := "operators.go:19", after := #[{ on := 0, ground := Ground.data }, { on := 1, ground := Ground.data }], guard := none } : Oper)) rfl (fun K hK => ?_) AllReadyH.nil
  have hl := run_lookF Try.underlying54 w1 M 5 _ hF (1, FF 61) rfl false
  simp only [Bool.false_eq_true, if_false] at hl
  go_simp
  refine hK.out _ _ hHeld (fun hHeld => ?_)
  clear hK K
  try simp only [Act.put, List.setIfInBounds_toArray, List.set_cons_zero, List.set_cons_succ]
  refine wpAnyH_ready (rs := [5]) (by kernel_rfl) (by simp) ?_
  refine AllReadyH.cons (o := ({ dst := some 24, op := Op.call { callee := Callee.value (Operand.func 34), args := #[Operand.tmp 21, Operand.tmp 22, Operand.tmp 23], argTypes := #[53, 23, 23] }, type := 26, pos := "operators.go:19", after := #[{ on := 2, ground := Ground.data }, { on := 3, ground := Ground.data }, { on := 4, ground := Ground.data }, { on := 0, ground := Ground.chain }], guard := none } : Oper)) rfl (fun K hK => ?_) AllReadyH.nil
  clear hF hS1
  go_simp
  go_at_call 34
  refine (HO.out _).mono ?_
  rintro e w2 ⟨rfl, hb⟩
  have hS2 := hHeld.below hb
  obtain ⟨_, zk, zn, zs, hz⟩ := hS2
  obtain ⟨z0, z1, z2⟩ := bx_cells hz
  obtain ⟨f0, f1, f2⟩ := bx_free hz
  go_wp2_with fail
  refine hK.out _ _ (hHeld.below hb) (fun hHeld => ?_)
  clear hK K
  try simp only [Act.put, List.setIfInBounds_toArray, List.set_cons_zero, List.set_cons_succ]
  refine wpAnyH_take (i := 6) (oi := ({ dst := some 25, op := Op.extract (Operand.tmp 24) 0, type := 23, pos := "operators.go:19", after := #[{ on := 5, ground := Ground.data }], guard := none } : Oper)) (v := ?_) rfl (by kernel_rfl) (by kernel_rfl) (by kernel_rfl) (fun _ _ _ h => h) (Or.inl ⟨by rfl, ?_⟩) (by assumption) ?_
  rotate_left 1
  · (intro u hSw; go_simp; try with_reducible rfl)
  try simp only [Act.put, List.setIfInBounds_toArray, List.set_cons_zero, List.set_cons_succ]
  refine wpAnyH_take (i := 7) (oi := ({ dst := some 26, op := Op.extract (Operand.tmp 24) 1, type := 25, pos := "operators.go:19", after := #[{ on := 5, ground := Ground.data }], guard := none } : Oper)) (v := ?_) rfl (by kernel_rfl) (by kernel_rfl) (by kernel_rfl) (fun _ _ _ h => h) (Or.inl ⟨by rfl, ?_⟩) (by assumption) ?_
  rotate_left 1
  · (intro u hSw; go_simp; try with_reducible rfl)
  try simp only [Act.put, List.setIfInBounds_toArray, List.set_cons_zero, List.set_cons_succ]
  refine wpAnyH_ready (rs := [8]) (by kernel_rfl) (by simp) ?_
  refine AllReadyH.cons (o := ({ dst := none, op := Op.store 23 (Operand.tmp 6) (Operand.tmp 25), type := 0, pos := "operators.go:19", after := #[{ on := 6, ground := Ground.data }, { on := 5, ground := Ground.chain }, { on := 0, ground := Ground.phase }, { on := 1, ground := Ground.phase }, { on := 2, ground := Ground.phase }, { on := 3, ground := Ground.phase }, { on := 4, ground := Ground.phase }, { on := 5, ground := Ground.phase }, { on := 6, ground := Ground.phase }, { on := 7, ground := Ground.phase }], guard := none } : Oper)) rfl (fun K hK => ?_) AllReadyH.nil
  have hS3 := hHeld.setR R.1
  go_simp
  refine hK.out _ _ hS3 (fun hHeld => ?_)
  clear hK K
  try simp only [Act.put]
  refine wpAnyH_take (i := 9) (oi := ({ dst := some 7, op := Op.assign (Operand.tmp 26), type := 25, pos := "operators.go:19", after := #[{ on := 7, ground := Ground.data }, { on := 8, ground := Ground.chain }, { on := 0, ground := Ground.phase }, { on := 1, ground := Ground.phase }, { on := 2, ground := Ground.phase }, { on := 3, ground := Ground.phase }, { on := 4, ground := Ground.phase }, { on := 5, ground := Ground.phase }, { on := 6, ground := Ground.phase }, { on := 7, ground := Ground.phase }, { on := 8, ground := Ground.phase }], guard := none } : Oper)) (v := ?_) rfl (by kernel_rfl) (by kernel_rfl) (by kernel_rfl) (fun _ _ _ h => h) (Or.inl ⟨by rfl, ?_⟩) (by assumption) ?_
  rotate_left 1
  · (intro u hSw; go_simp; try with_reducible rfl)
  try simp only [Act.put, List.setIfInBounds_toArray, List.set_cons_zero, List.set_cons_succ]
  refine wpAnyH_done (by kernel_rfl) ?_ _
  go_wp2_with fail
  refine bodyPost_ret (v := .tuple #[.agg #[.int .i64 R.1.k, .int .i64 R.1.n, .string (str R.1.s)], .int .i64 R.2]) (by simp [results, Try.results13, go_sem, z0, z1, z2]) rfl ⟨rfl, hHeld.1.2.2⟩
set_option maxRecDepth 100000 in
set_option maxHeartbeats 6400000 in
theorem do_6 (a b : Val) (w : World) (ha : a.OK) (hb : b.OK) : Calls Try.prog 13 #[.int .i64 6, .agg #[.int .i64 a.k, .int .i64 a.n, .string (str a.s)], .agg #[.int .i64 b.k, .int .i64 b.n, .string (str b.s)]] w fun e w' => e = .returned (.tuple #[.agg #[.int .i64 ((doR 6 (normV a) (normV b)).1).k, .int .i64 ((doR 6 (normV a) (normV b)).1).n, .string (str ((doR 6 (normV a) (normV b)).1).s)], .int .i64 (doR 6 (normV a) (normV b)).2]) ∧ Below w.heap.size w w' := by
  have hA := norm_i64 ha
  have hB := norm_i64 hb
  have hra := norm_rng ha.1
  have hrb := norm_rng hb.1
  have HT := Lib.hid (tri_new w a b)
  have ht1 := fun w => takesOne_any 6 w
  have ht2 := fun w => calculates_any 6 w
  simp only [show oneOf 6 = false from rfl, show decide (4 ≤ (6 : Int) ∧ (6 : Int) ≤ 9) = true from rfl] at ht1 ht2
  have HT1 := Lib.hid ht1
  have HT2 := Lib.hid ht2
  clear ht1 ht2 ha hb
  rw [show doR 6 (normV a) (normV b) = ofR (normV a) (normV b) (fit ((normV a).n - (normV b).n)) from rfl]
  have HO := Lib.hid (fun u => calcOf_subtract (normV a) (normV b) u (fit ((normV a).n - (normV b).n)) hra hrb (fun w => subtract_any _ _ _ hA hB))
  generalize ofR (normV a) (normV b) (fit ((normV a).n - (normV b).n)) = R at *
  clear hA hB hra hrb
  go_enter Try.func13, Try.ntmps13
  go_wp2_with fail
  refine do_reg1 _ _ _ w _ HT.out ?_
  intro u hT
  clear HT
  obtain ⟨p0, p1, p2⟩ := bx_cells hT.1.1; obtain ⟨q0, q1, q2⟩ := bx_cells hT.1.2.1; obtain ⟨g0, g1, g2⟩ := bx_free hT.1.2.1; have hT0 := hT; obtain ⟨_, zk, zn, zs, hz⟩ := hT; obtain ⟨z0, z1, z2⟩ := bx_cells hz; obtain ⟨f0, f1, f2⟩ := bx_free hz
  have hS0 := hT0
  clear hz hT0
  have HS0 := Lib.hid hS0
  go_wp2_with (first
    | (go_at_call 31; refine (HT1.out _).mono ?_; rintro e w' ⟨rfl, rfl⟩)
    | (go_at_call 32; refine (HT2.out _).mono ?_; rintro e w' ⟨rfl, rfl⟩))
  refine wp_region_held_drew (S := fun u => Tri w u (normV a) (normV b)) (by kernel_rfl) (HS0.out.drew) (fun hHeld => ?_)
  refine wpAnyH_take (i := 1) (oi := ({ dst := some 20, op := Op.move (Operand.tmp 0), type := 3, pos := "operators.go:19", after := #[], guard := none } : Oper)) (v := ?_) rfl (by kernel_rfl) (by kernel_rfl) (by kernel_rfl) (fun _ _ _ h => h) (Or.inl ⟨by rfl, ?_⟩) (by assumption) ?_
  rotate_left 1
  · (intro u hSw; go_simp; try with_reducible rfl)
  try simp only [Act.put, List.setIfInBounds_toArray, List.set_cons_zero, List.set_cons_succ]
  refine wpAnyH_take (i := 3) (oi := ({ dst := some 22, op := Op.load 23 (Operand.tmp 4), type := 23, pos := "operators.go:19", after := #[], guard := none } : Oper)) (v := ?_) rfl (by kernel_rfl) (by kernel_rfl) (by kernel_rfl) (fun _ _ _ h => h) (Or.inl ⟨by rfl, ?_⟩) (by assumption) ?_
  rotate_left 1
  · (intro u hSw; have p0 := (cell_of_row u (w.heap.size) 0 _ _ _ hSw.1.1).trans (show (#[Value.int .i64 (normV a).k, .int .i64 (normV a).n, .string (str (normV a).s)] : Array Value)[0]? = some (.int .i64 (normV a).k) from rfl); have p1 := (cell_of_row u (w.heap.size) 1 _ _ _ hSw.1.1).trans (show (#[Value.int .i64 (normV a).k, .int .i64 (normV a).n, .string (str (normV a).s)] : Array Value)[1]? = some (.int .i64 (normV a).n) from rfl); have p2 := (cell_of_row u (w.heap.size) 2 _ _ _ hSw.1.1).trans (show (#[Value.int .i64 (normV a).k, .int .i64 (normV a).n, .string (str (normV a).s)] : Array Value)[2]? = some (.string (str (normV a).s)) from rfl); have q0 := (cell_of_row u (w.heap.size + 1) 0 _ _ _ hSw.1.2.1).trans (show (#[Value.int .i64 (normV b).k, .int .i64 (normV b).n, .string (str (normV b).s)] : Array Value)[0]? = some (.int .i64 (normV b).k) from rfl); have q1 := (cell_of_row u (w.heap.size + 1) 1 _ _ _ hSw.1.2.1).trans (show (#[Value.int .i64 (normV b).k, .int .i64 (normV b).n, .string (str (normV b).s)] : Array Value)[1]? = some (.int .i64 (normV b).n) from rfl); have q2 := (cell_of_row u (w.heap.size + 1) 2 _ _ _ hSw.1.2.1).trans (show (#[Value.int .i64 (normV b).k, .int .i64 (normV b).n, .string (str (normV b).s)] : Array Value)[2]? = some (.string (str (normV b).s)) from rfl); go_simp; try with_reducible rfl)
  try simp only [Act.put, List.setIfInBounds_toArray, List.set_cons_zero, List.set_cons_succ]
  refine wpAnyH_take (i := 4) (oi := ({ dst := some 23, op := Op.load 23 (Operand.tmp 5), type := 23, pos := "operators.go:19", after := #[], guard := none } : Oper)) (v := ?_) rfl (by kernel_rfl) (by kernel_rfl) (by kernel_rfl) (fun _ _ _ h => h) (Or.inl ⟨by rfl, ?_⟩) (by assumption) ?_
  rotate_left 1
  · (intro u hSw; have p0 := (cell_of_row u (w.heap.size) 0 _ _ _ hSw.1.1).trans (show (#[Value.int .i64 (normV a).k, .int .i64 (normV a).n, .string (str (normV a).s)] : Array Value)[0]? = some (.int .i64 (normV a).k) from rfl); have p1 := (cell_of_row u (w.heap.size) 1 _ _ _ hSw.1.1).trans (show (#[Value.int .i64 (normV a).k, .int .i64 (normV a).n, .string (str (normV a).s)] : Array Value)[1]? = some (.int .i64 (normV a).n) from rfl); have p2 := (cell_of_row u (w.heap.size) 2 _ _ _ hSw.1.1).trans (show (#[Value.int .i64 (normV a).k, .int .i64 (normV a).n, .string (str (normV a).s)] : Array Value)[2]? = some (.string (str (normV a).s)) from rfl); have q0 := (cell_of_row u (w.heap.size + 1) 0 _ _ _ hSw.1.2.1).trans (show (#[Value.int .i64 (normV b).k, .int .i64 (normV b).n, .string (str (normV b).s)] : Array Value)[0]? = some (.int .i64 (normV b).k) from rfl); have q1 := (cell_of_row u (w.heap.size + 1) 1 _ _ _ hSw.1.2.1).trans (show (#[Value.int .i64 (normV b).k, .int .i64 (normV b).n, .string (str (normV b).s)] : Array Value)[1]? = some (.int .i64 (normV b).n) from rfl); have q2 := (cell_of_row u (w.heap.size + 1) 2 _ _ _ hSw.1.2.1).trans (show (#[Value.int .i64 (normV b).k, .int .i64 (normV b).n, .string (str (normV b).s)] : Array Value)[2]? = some (.string (str (normV b).s)) from rfl); go_simp; try with_reducible rfl)
  try simp only [Act.put, List.setIfInBounds_toArray, List.set_cons_zero, List.set_cons_succ]
  refine wpAnyH_ready (rs := [0]) (by kernel_rfl) (by simp) ?_
  refine AllReadyH.cons (o := ({ dst := some 19, op := Op.call { callee := Callee.value (Operand.func 33), args := #[], argTypes := #[] }, type := 54, pos := "operators.go:19", after := #[], guard := none } : Oper)) rfl (fun K hK => ?_) AllReadyH.nil
  go_simp
  go_at_call 33
  refine (calculations_any _).mono ?_
  rintro e w1 ⟨M, rfl, hF, hb⟩
  replace hS1 := hS0.drew.below hb
  clear hS0
  go_wp2_with fail
  refine hK.out _ _ hS1 (fun hHeld => ?_)
  clear hK K
  try simp only [Act.put, List.setIfInBounds_toArray, List.set_cons_zero, List.set_cons_succ]
  refine wpAnyH_ready (rs := [2]) (by kernel_rfl) (by simp) ?_
  refine AllReadyH.cons (o := ({ dst := some 21, op := Op.lookup 54 (Operand.tmp 19) (Operand.tmp 20) false, type := 53, pos := "operators.go:19", after := #[{ on := 0, ground := Ground.data }, { on := 1, ground := Ground.data }], guard := none } : Oper)) rfl (fun K hK => ?_) AllReadyH.nil
  have hl := run_lookF Try.underlying54 w1 M 6 _ hF (2, FF 60) rfl false
  simp only [Bool.false_eq_true, if_false] at hl
  go_simp
  refine hK.out _ _ hHeld (fun hHeld => ?_)
  clear hK K
  try simp only [Act.put, List.setIfInBounds_toArray, List.set_cons_zero, List.set_cons_succ]
  refine wpAnyH_ready (rs := [5]) (by kernel_rfl) (by simp) ?_
  refine AllReadyH.cons (o := ({ dst := some 24, op := Op.call { callee := Callee.value (Operand.func 34), args := #[Operand.tmp 21, Operand.tmp 22, Operand.tmp 23], argTypes := #[53, 23, 23] }, type := 26, pos := "operators.go:19", after := #[{ on := 2, ground := Ground.data }, { on := 3, ground := Ground.data }, { on := 4, ground := Ground.data }, { on := 0, ground := Ground.chain }], guard := none } : Oper)) rfl (fun K hK => ?_) AllReadyH.nil
  clear hF hS1
  go_simp
  go_at_call 34
  refine (HO.out _).mono ?_
  rintro e w2 ⟨rfl, hb⟩
  have hS2 := hHeld.below hb
  obtain ⟨_, zk, zn, zs, hz⟩ := hS2
  obtain ⟨z0, z1, z2⟩ := bx_cells hz
  obtain ⟨f0, f1, f2⟩ := bx_free hz
  go_wp2_with fail
  refine hK.out _ _ (hHeld.below hb) (fun hHeld => ?_)
  clear hK K
  try simp only [Act.put, List.setIfInBounds_toArray, List.set_cons_zero, List.set_cons_succ]
  refine wpAnyH_take (i := 6) (oi := ({ dst := some 25, op := Op.extract (Operand.tmp 24) 0, type := 23, pos := "operators.go:19", after := #[{ on := 5, ground := Ground.data }], guard := none } : Oper)) (v := ?_) rfl (by kernel_rfl) (by kernel_rfl) (by kernel_rfl) (fun _ _ _ h => h) (Or.inl ⟨by rfl, ?_⟩) (by assumption) ?_
  rotate_left 1
  · (intro u hSw; go_simp; try with_reducible rfl)
  try simp only [Act.put, List.setIfInBounds_toArray, List.set_cons_zero, List.set_cons_succ]
  refine wpAnyH_take (i := 7) (oi := ({ dst := some 26, op := Op.extract (Operand.tmp 24) 1, type := 25, pos := "operators.go:19", after := #[{ on := 5, ground := Ground.data }], guard := none } : Oper)) (v := ?_) rfl (by kernel_rfl) (by kernel_rfl) (by kernel_rfl) (fun _ _ _ h => h) (Or.inl ⟨by rfl, ?_⟩) (by assumption) ?_
  rotate_left 1
  · (intro u hSw; go_simp; try with_reducible rfl)
  try simp only [Act.put, List.setIfInBounds_toArray, List.set_cons_zero, List.set_cons_succ]
  refine wpAnyH_ready (rs := [8]) (by kernel_rfl) (by simp) ?_
  refine AllReadyH.cons (o := ({ dst := none, op := Op.store 23 (Operand.tmp 6) (Operand.tmp 25), type := 0, pos := "operators.go:19", after := #[{ on := 6, ground := Ground.data }, { on := 5, ground := Ground.chain }, { on := 0, ground := Ground.phase }, { on := 1, ground := Ground.phase }, { on := 2, ground := Ground.phase }, { on := 3, ground := Ground.phase }, { on := 4, ground := Ground.phase }, { on := 5, ground := Ground.phase }, { on := 6, ground := Ground.phase }, { on := 7, ground := Ground.phase }], guard := none } : Oper)) rfl (fun K hK => ?_) AllReadyH.nil
  have hS3 := hHeld.setR R.1
  go_simp
  refine hK.out _ _ hS3 (fun hHeld => ?_)
  clear hK K
  try simp only [Act.put]
  refine wpAnyH_take (i := 9) (oi := ({ dst := some 7, op := Op.assign (Operand.tmp 26), type := 25, pos := "operators.go:19", after := #[{ on := 7, ground := Ground.data }, { on := 8, ground := Ground.chain }, { on := 0, ground := Ground.phase }, { on := 1, ground := Ground.phase }, { on := 2, ground := Ground.phase }, { on := 3, ground := Ground.phase }, { on := 4, ground := Ground.phase }, { on := 5, ground := Ground.phase }, { on := 6, ground := Ground.phase }, { on := 7, ground := Ground.phase }, { on := 8, ground := Ground.phase }], guard := none } : Oper)) (v := ?_) rfl (by kernel_rfl) (by kernel_rfl) (by kernel_rfl) (fun _ _ _ h => h) (Or.inl ⟨by rfl, ?_⟩) (by assumption) ?_
  rotate_left 1
  · (intro u hSw; go_simp; try with_reducible rfl)
  try simp only [Act.put, List.setIfInBounds_toArray, List.set_cons_zero, List.set_cons_succ]
  refine wpAnyH_done (by kernel_rfl) ?_ _
  go_wp2_with fail
  refine bodyPost_ret (v := .tuple #[.agg #[.int .i64 R.1.k, .int .i64 R.1.n, .string (str R.1.s)], .int .i64 R.2]) (by simp [results, Try.results13, go_sem, z0, z1, z2]) rfl ⟨rfl, hHeld.1.2.2⟩
set_option maxRecDepth 100000 in
set_option maxHeartbeats 6400000 in
theorem do_7 (a b : Val) (w : World) (ha : a.OK) (hb : b.OK) : Calls Try.prog 13 #[.int .i64 7, .agg #[.int .i64 a.k, .int .i64 a.n, .string (str a.s)], .agg #[.int .i64 b.k, .int .i64 b.n, .string (str b.s)]] w fun e w' => e = .returned (.tuple #[.agg #[.int .i64 ((doR 7 (normV a) (normV b)).1).k, .int .i64 ((doR 7 (normV a) (normV b)).1).n, .string (str ((doR 7 (normV a) (normV b)).1).s)], .int .i64 (doR 7 (normV a) (normV b)).2]) ∧ Below w.heap.size w w' := by
  have hA := norm_i64 ha
  have hB := norm_i64 hb
  have hra := norm_rng ha.1
  have hrb := norm_rng hb.1
  have HT := Lib.hid (tri_new w a b)
  have ht1 := fun w => takesOne_any 7 w
  have ht2 := fun w => calculates_any 7 w
  simp only [show oneOf 7 = false from rfl, show decide (4 ≤ (7 : Int) ∧ (7 : Int) ≤ 9) = true from rfl] at ht1 ht2
  have HT1 := Lib.hid ht1
  have HT2 := Lib.hid ht2
  clear ht1 ht2 ha hb
  rw [show doR 7 (normV a) (normV b) = ofR (normV a) (normV b) (fit ((normV a).n * (normV b).n)) from rfl]
  have HO := Lib.hid (fun u => calcOf_multiply (normV a) (normV b) u (fit ((normV a).n * (normV b).n)) hra hrb (fun w => multiply_any _ _ _ hA hB))
  generalize ofR (normV a) (normV b) (fit ((normV a).n * (normV b).n)) = R at *
  clear hA hB hra hrb
  go_enter Try.func13, Try.ntmps13
  go_wp2_with fail
  refine do_reg1 _ _ _ w _ HT.out ?_
  intro u hT
  clear HT
  obtain ⟨p0, p1, p2⟩ := bx_cells hT.1.1; obtain ⟨q0, q1, q2⟩ := bx_cells hT.1.2.1; obtain ⟨g0, g1, g2⟩ := bx_free hT.1.2.1; have hT0 := hT; obtain ⟨_, zk, zn, zs, hz⟩ := hT; obtain ⟨z0, z1, z2⟩ := bx_cells hz; obtain ⟨f0, f1, f2⟩ := bx_free hz
  have hS0 := hT0
  clear hz hT0
  have HS0 := Lib.hid hS0
  go_wp2_with (first
    | (go_at_call 31; refine (HT1.out _).mono ?_; rintro e w' ⟨rfl, rfl⟩)
    | (go_at_call 32; refine (HT2.out _).mono ?_; rintro e w' ⟨rfl, rfl⟩))
  refine wp_region_held_drew (S := fun u => Tri w u (normV a) (normV b)) (by kernel_rfl) (HS0.out.drew) (fun hHeld => ?_)
  refine wpAnyH_take (i := 1) (oi := ({ dst := some 20, op := Op.move (Operand.tmp 0), type := 3, pos := "operators.go:19", after := #[], guard := none } : Oper)) (v := ?_) rfl (by kernel_rfl) (by kernel_rfl) (by kernel_rfl) (fun _ _ _ h => h) (Or.inl ⟨by rfl, ?_⟩) (by assumption) ?_
  rotate_left 1
  · (intro u hSw; go_simp; try with_reducible rfl)
  try simp only [Act.put, List.setIfInBounds_toArray, List.set_cons_zero, List.set_cons_succ]
  refine wpAnyH_take (i := 3) (oi := ({ dst := some 22, op := Op.load 23 (Operand.tmp 4), type := 23, pos := "operators.go:19", after := #[], guard := none } : Oper)) (v := ?_) rfl (by kernel_rfl) (by kernel_rfl) (by kernel_rfl) (fun _ _ _ h => h) (Or.inl ⟨by rfl, ?_⟩) (by assumption) ?_
  rotate_left 1
  · (intro u hSw; have p0 := (cell_of_row u (w.heap.size) 0 _ _ _ hSw.1.1).trans (show (#[Value.int .i64 (normV a).k, .int .i64 (normV a).n, .string (str (normV a).s)] : Array Value)[0]? = some (.int .i64 (normV a).k) from rfl); have p1 := (cell_of_row u (w.heap.size) 1 _ _ _ hSw.1.1).trans (show (#[Value.int .i64 (normV a).k, .int .i64 (normV a).n, .string (str (normV a).s)] : Array Value)[1]? = some (.int .i64 (normV a).n) from rfl); have p2 := (cell_of_row u (w.heap.size) 2 _ _ _ hSw.1.1).trans (show (#[Value.int .i64 (normV a).k, .int .i64 (normV a).n, .string (str (normV a).s)] : Array Value)[2]? = some (.string (str (normV a).s)) from rfl); have q0 := (cell_of_row u (w.heap.size + 1) 0 _ _ _ hSw.1.2.1).trans (show (#[Value.int .i64 (normV b).k, .int .i64 (normV b).n, .string (str (normV b).s)] : Array Value)[0]? = some (.int .i64 (normV b).k) from rfl); have q1 := (cell_of_row u (w.heap.size + 1) 1 _ _ _ hSw.1.2.1).trans (show (#[Value.int .i64 (normV b).k, .int .i64 (normV b).n, .string (str (normV b).s)] : Array Value)[1]? = some (.int .i64 (normV b).n) from rfl); have q2 := (cell_of_row u (w.heap.size + 1) 2 _ _ _ hSw.1.2.1).trans (show (#[Value.int .i64 (normV b).k, .int .i64 (normV b).n, .string (str (normV b).s)] : Array Value)[2]? = some (.string (str (normV b).s)) from rfl); go_simp; try with_reducible rfl)
  try simp only [Act.put, List.setIfInBounds_toArray, List.set_cons_zero, List.set_cons_succ]
  refine wpAnyH_take (i := 4) (oi := ({ dst := some 23, op := Op.load 23 (Operand.tmp 5), type := 23, pos := "operators.go:19", after := #[], guard := none } : Oper)) (v := ?_) rfl (by kernel_rfl) (by kernel_rfl) (by kernel_rfl) (fun _ _ _ h => h) (Or.inl ⟨by rfl, ?_⟩) (by assumption) ?_
  rotate_left 1
  · (intro u hSw; have p0 := (cell_of_row u (w.heap.size) 0 _ _ _ hSw.1.1).trans (show (#[Value.int .i64 (normV a).k, .int .i64 (normV a).n, .string (str (normV a).s)] : Array Value)[0]? = some (.int .i64 (normV a).k) from rfl); have p1 := (cell_of_row u (w.heap.size) 1 _ _ _ hSw.1.1).trans (show (#[Value.int .i64 (normV a).k, .int .i64 (normV a).n, .string (str (normV a).s)] : Array Value)[1]? = some (.int .i64 (normV a).n) from rfl); have p2 := (cell_of_row u (w.heap.size) 2 _ _ _ hSw.1.1).trans (show (#[Value.int .i64 (normV a).k, .int .i64 (normV a).n, .string (str (normV a).s)] : Array Value)[2]? = some (.string (str (normV a).s)) from rfl); have q0 := (cell_of_row u (w.heap.size + 1) 0 _ _ _ hSw.1.2.1).trans (show (#[Value.int .i64 (normV b).k, .int .i64 (normV b).n, .string (str (normV b).s)] : Array Value)[0]? = some (.int .i64 (normV b).k) from rfl); have q1 := (cell_of_row u (w.heap.size + 1) 1 _ _ _ hSw.1.2.1).trans (show (#[Value.int .i64 (normV b).k, .int .i64 (normV b).n, .string (str (normV b).s)] : Array Value)[1]? = some (.int .i64 (normV b).n) from rfl); have q2 := (cell_of_row u (w.heap.size + 1) 2 _ _ _ hSw.1.2.1).trans (show (#[Value.int .i64 (normV b).k, .int .i64 (normV b).n, .string (str (normV b).s)] : Array Value)[2]? = some (.string (str (normV b).s)) from rfl); go_simp; try with_reducible rfl)
  try simp only [Act.put, List.setIfInBounds_toArray, List.set_cons_zero, List.set_cons_succ]
  refine wpAnyH_ready (rs := [0]) (by kernel_rfl) (by simp) ?_
  refine AllReadyH.cons (o := ({ dst := some 19, op := Op.call { callee := Callee.value (Operand.func 33), args := #[], argTypes := #[] }, type := 54, pos := "operators.go:19", after := #[], guard := none } : Oper)) rfl (fun K hK => ?_) AllReadyH.nil
  go_simp
  go_at_call 33
  refine (calculations_any _).mono ?_
  rintro e w1 ⟨M, rfl, hF, hb⟩
  replace hS1 := hS0.drew.below hb
  clear hS0
  go_wp2_with fail
  refine hK.out _ _ hS1 (fun hHeld => ?_)
  clear hK K
  try simp only [Act.put, List.setIfInBounds_toArray, List.set_cons_zero, List.set_cons_succ]
  refine wpAnyH_ready (rs := [2]) (by kernel_rfl) (by simp) ?_
  refine AllReadyH.cons (o := ({ dst := some 21, op := Op.lookup 54 (Operand.tmp 19) (Operand.tmp 20) false, type := 53, pos := "operators.go:19", after := #[{ on := 0, ground := Ground.data }, { on := 1, ground := Ground.data }], guard := none } : Oper)) rfl (fun K hK => ?_) AllReadyH.nil
  have hl := run_lookF Try.underlying54 w1 M 7 _ hF (3, FF 62) rfl false
  simp only [Bool.false_eq_true, if_false] at hl
  go_simp
  refine hK.out _ _ hHeld (fun hHeld => ?_)
  clear hK K
  try simp only [Act.put, List.setIfInBounds_toArray, List.set_cons_zero, List.set_cons_succ]
  refine wpAnyH_ready (rs := [5]) (by kernel_rfl) (by simp) ?_
  refine AllReadyH.cons (o := ({ dst := some 24, op := Op.call { callee := Callee.value (Operand.func 34), args := #[Operand.tmp 21, Operand.tmp 22, Operand.tmp 23], argTypes := #[53, 23, 23] }, type := 26, pos := "operators.go:19", after := #[{ on := 2, ground := Ground.data }, { on := 3, ground := Ground.data }, { on := 4, ground := Ground.data }, { on := 0, ground := Ground.chain }], guard := none } : Oper)) rfl (fun K hK => ?_) AllReadyH.nil
  clear hF hS1
  go_simp
  go_at_call 34
  refine (HO.out _).mono ?_
  rintro e w2 ⟨rfl, hb⟩
  have hS2 := hHeld.below hb
  obtain ⟨_, zk, zn, zs, hz⟩ := hS2
  obtain ⟨z0, z1, z2⟩ := bx_cells hz
  obtain ⟨f0, f1, f2⟩ := bx_free hz
  go_wp2_with fail
  refine hK.out _ _ (hHeld.below hb) (fun hHeld => ?_)
  clear hK K
  try simp only [Act.put, List.setIfInBounds_toArray, List.set_cons_zero, List.set_cons_succ]
  refine wpAnyH_take (i := 6) (oi := ({ dst := some 25, op := Op.extract (Operand.tmp 24) 0, type := 23, pos := "operators.go:19", after := #[{ on := 5, ground := Ground.data }], guard := none } : Oper)) (v := ?_) rfl (by kernel_rfl) (by kernel_rfl) (by kernel_rfl) (fun _ _ _ h => h) (Or.inl ⟨by rfl, ?_⟩) (by assumption) ?_
  rotate_left 1
  · (intro u hSw; go_simp; try with_reducible rfl)
  try simp only [Act.put, List.setIfInBounds_toArray, List.set_cons_zero, List.set_cons_succ]
  refine wpAnyH_take (i := 7) (oi := ({ dst := some 26, op := Op.extract (Operand.tmp 24) 1, type := 25, pos := "operators.go:19", after := #[{ on := 5, ground := Ground.data }], guard := none } : Oper)) (v := ?_) rfl (by kernel_rfl) (by kernel_rfl) (by kernel_rfl) (fun _ _ _ h => h) (Or.inl ⟨by rfl, ?_⟩) (by assumption) ?_
  rotate_left 1
  · (intro u hSw; go_simp; try with_reducible rfl)
  try simp only [Act.put, List.setIfInBounds_toArray, List.set_cons_zero, List.set_cons_succ]
  refine wpAnyH_ready (rs := [8]) (by kernel_rfl) (by simp) ?_
  refine AllReadyH.cons (o := ({ dst := none, op := Op.store 23 (Operand.tmp 6) (Operand.tmp 25), type := 0, pos := "operators.go:19", after := #[{ on := 6, ground := Ground.data }, { on := 5, ground := Ground.chain }, { on := 0, ground := Ground.phase }, { on := 1, ground := Ground.phase }, { on := 2, ground := Ground.phase }, { on := 3, ground := Ground.phase }, { on := 4, ground := Ground.phase }, { on := 5, ground := Ground.phase }, { on := 6, ground := Ground.phase }, { on := 7, ground := Ground.phase }], guard := none } : Oper)) rfl (fun K hK => ?_) AllReadyH.nil
  have hS3 := hHeld.setR R.1
  go_simp
  refine hK.out _ _ hS3 (fun hHeld => ?_)
  clear hK K
  try simp only [Act.put]
  refine wpAnyH_take (i := 9) (oi := ({ dst := some 7, op := Op.assign (Operand.tmp 26), type := 25, pos := "operators.go:19", after := #[{ on := 7, ground := Ground.data }, { on := 8, ground := Ground.chain }, { on := 0, ground := Ground.phase }, { on := 1, ground := Ground.phase }, { on := 2, ground := Ground.phase }, { on := 3, ground := Ground.phase }, { on := 4, ground := Ground.phase }, { on := 5, ground := Ground.phase }, { on := 6, ground := Ground.phase }, { on := 7, ground := Ground.phase }, { on := 8, ground := Ground.phase }], guard := none } : Oper)) (v := ?_) rfl (by kernel_rfl) (by kernel_rfl) (by kernel_rfl) (fun _ _ _ h => h) (Or.inl ⟨by rfl, ?_⟩) (by assumption) ?_
  rotate_left 1
  · (intro u hSw; go_simp; try with_reducible rfl)
  try simp only [Act.put, List.setIfInBounds_toArray, List.set_cons_zero, List.set_cons_succ]
  refine wpAnyH_done (by kernel_rfl) ?_ _
  go_wp2_with fail
  refine bodyPost_ret (v := .tuple #[.agg #[.int .i64 R.1.k, .int .i64 R.1.n, .string (str R.1.s)], .int .i64 R.2]) (by simp [results, Try.results13, go_sem, z0, z1, z2]) rfl ⟨rfl, hHeld.1.2.2⟩
set_option maxRecDepth 100000 in
set_option maxHeartbeats 6400000 in
theorem do_8 (a b : Val) (w : World) (ha : a.OK) (hb : b.OK) : Calls Try.prog 13 #[.int .i64 8, .agg #[.int .i64 a.k, .int .i64 a.n, .string (str a.s)], .agg #[.int .i64 b.k, .int .i64 b.n, .string (str b.s)]] w fun e w' => e = .returned (.tuple #[.agg #[.int .i64 ((doR 8 (normV a) (normV b)).1).k, .int .i64 ((doR 8 (normV a) (normV b)).1).n, .string (str ((doR 8 (normV a) (normV b)).1).s)], .int .i64 (doR 8 (normV a) (normV b)).2]) ∧ Below w.heap.size w w' := by
  have hA := norm_i64 ha
  have hB := norm_i64 hb
  have hra := norm_rng ha.1
  have hrb := norm_rng hb.1
  have HT := Lib.hid (tri_new w a b)
  have ht1 := fun w => takesOne_any 8 w
  have ht2 := fun w => calculates_any 8 w
  simp only [show oneOf 8 = false from rfl, show decide (4 ≤ (8 : Int) ∧ (8 : Int) ≤ 9) = true from rfl] at ht1 ht2
  have HT1 := Lib.hid ht1
  have HT2 := Lib.hid ht2
  clear ht1 ht2 ha hb
  rw [show doR 8 (normV a) (normV b) = ofR (normV a) (normV b) (dvd (normV a).n (normV b).n) from rfl]
  have HO := Lib.hid (fun u => calcOf_divide (normV a) (normV b) u (dvd (normV a).n (normV b).n) hra hrb (fun w => divide_any _ _ _ hA hB))
  generalize ofR (normV a) (normV b) (dvd (normV a).n (normV b).n) = R at *
  clear hA hB hra hrb
  go_enter Try.func13, Try.ntmps13
  go_wp2_with fail
  refine do_reg1 _ _ _ w _ HT.out ?_
  intro u hT
  clear HT
  obtain ⟨p0, p1, p2⟩ := bx_cells hT.1.1; obtain ⟨q0, q1, q2⟩ := bx_cells hT.1.2.1; obtain ⟨g0, g1, g2⟩ := bx_free hT.1.2.1; have hT0 := hT; obtain ⟨_, zk, zn, zs, hz⟩ := hT; obtain ⟨z0, z1, z2⟩ := bx_cells hz; obtain ⟨f0, f1, f2⟩ := bx_free hz
  have hS0 := hT0
  clear hz hT0
  have HS0 := Lib.hid hS0
  go_wp2_with (first
    | (go_at_call 31; refine (HT1.out _).mono ?_; rintro e w' ⟨rfl, rfl⟩)
    | (go_at_call 32; refine (HT2.out _).mono ?_; rintro e w' ⟨rfl, rfl⟩))
  refine wp_region_held_drew (S := fun u => Tri w u (normV a) (normV b)) (by kernel_rfl) (HS0.out.drew) (fun hHeld => ?_)
  refine wpAnyH_take (i := 1) (oi := ({ dst := some 20, op := Op.move (Operand.tmp 0), type := 3, pos := "operators.go:19", after := #[], guard := none } : Oper)) (v := ?_) rfl (by kernel_rfl) (by kernel_rfl) (by kernel_rfl) (fun _ _ _ h => h) (Or.inl ⟨by rfl, ?_⟩) (by assumption) ?_
  rotate_left 1
  · (intro u hSw; go_simp; try with_reducible rfl)
  try simp only [Act.put, List.setIfInBounds_toArray, List.set_cons_zero, List.set_cons_succ]
  refine wpAnyH_take (i := 3) (oi := ({ dst := some 22, op := Op.load 23 (Operand.tmp 4), type := 23, pos := "operators.go:19", after := #[], guard := none } : Oper)) (v := ?_) rfl (by kernel_rfl) (by kernel_rfl) (by kernel_rfl) (fun _ _ _ h => h) (Or.inl ⟨by rfl, ?_⟩) (by assumption) ?_
  rotate_left 1
  · (intro u hSw; have p0 := (cell_of_row u (w.heap.size) 0 _ _ _ hSw.1.1).trans (show (#[Value.int .i64 (normV a).k, .int .i64 (normV a).n, .string (str (normV a).s)] : Array Value)[0]? = some (.int .i64 (normV a).k) from rfl); have p1 := (cell_of_row u (w.heap.size) 1 _ _ _ hSw.1.1).trans (show (#[Value.int .i64 (normV a).k, .int .i64 (normV a).n, .string (str (normV a).s)] : Array Value)[1]? = some (.int .i64 (normV a).n) from rfl); have p2 := (cell_of_row u (w.heap.size) 2 _ _ _ hSw.1.1).trans (show (#[Value.int .i64 (normV a).k, .int .i64 (normV a).n, .string (str (normV a).s)] : Array Value)[2]? = some (.string (str (normV a).s)) from rfl); have q0 := (cell_of_row u (w.heap.size + 1) 0 _ _ _ hSw.1.2.1).trans (show (#[Value.int .i64 (normV b).k, .int .i64 (normV b).n, .string (str (normV b).s)] : Array Value)[0]? = some (.int .i64 (normV b).k) from rfl); have q1 := (cell_of_row u (w.heap.size + 1) 1 _ _ _ hSw.1.2.1).trans (show (#[Value.int .i64 (normV b).k, .int .i64 (normV b).n, .string (str (normV b).s)] : Array Value)[1]? = some (.int .i64 (normV b).n) from rfl); have q2 := (cell_of_row u (w.heap.size + 1) 2 _ _ _ hSw.1.2.1).trans (show (#[Value.int .i64 (normV b).k, .int .i64 (normV b).n, .string (str (normV b).s)] : Array Value)[2]? = some (.string (str (normV b).s)) from rfl); go_simp; try with_reducible rfl)
  try simp only [Act.put, List.setIfInBounds_toArray, List.set_cons_zero, List.set_cons_succ]
  refine wpAnyH_take (i := 4) (oi := ({ dst := some 23, op := Op.load 23 (Operand.tmp 5), type := 23, pos := "operators.go:19", after := #[], guard := none } : Oper)) (v := ?_) rfl (by kernel_rfl) (by kernel_rfl) (by kernel_rfl) (fun _ _ _ h => h) (Or.inl ⟨by rfl, ?_⟩) (by assumption) ?_
  rotate_left 1
  · (intro u hSw; have p0 := (cell_of_row u (w.heap.size) 0 _ _ _ hSw.1.1).trans (show (#[Value.int .i64 (normV a).k, .int .i64 (normV a).n, .string (str (normV a).s)] : Array Value)[0]? = some (.int .i64 (normV a).k) from rfl); have p1 := (cell_of_row u (w.heap.size) 1 _ _ _ hSw.1.1).trans (show (#[Value.int .i64 (normV a).k, .int .i64 (normV a).n, .string (str (normV a).s)] : Array Value)[1]? = some (.int .i64 (normV a).n) from rfl); have p2 := (cell_of_row u (w.heap.size) 2 _ _ _ hSw.1.1).trans (show (#[Value.int .i64 (normV a).k, .int .i64 (normV a).n, .string (str (normV a).s)] : Array Value)[2]? = some (.string (str (normV a).s)) from rfl); have q0 := (cell_of_row u (w.heap.size + 1) 0 _ _ _ hSw.1.2.1).trans (show (#[Value.int .i64 (normV b).k, .int .i64 (normV b).n, .string (str (normV b).s)] : Array Value)[0]? = some (.int .i64 (normV b).k) from rfl); have q1 := (cell_of_row u (w.heap.size + 1) 1 _ _ _ hSw.1.2.1).trans (show (#[Value.int .i64 (normV b).k, .int .i64 (normV b).n, .string (str (normV b).s)] : Array Value)[1]? = some (.int .i64 (normV b).n) from rfl); have q2 := (cell_of_row u (w.heap.size + 1) 2 _ _ _ hSw.1.2.1).trans (show (#[Value.int .i64 (normV b).k, .int .i64 (normV b).n, .string (str (normV b).s)] : Array Value)[2]? = some (.string (str (normV b).s)) from rfl); go_simp; try with_reducible rfl)
  try simp only [Act.put, List.setIfInBounds_toArray, List.set_cons_zero, List.set_cons_succ]
  refine wpAnyH_ready (rs := [0]) (by kernel_rfl) (by simp) ?_
  refine AllReadyH.cons (o := ({ dst := some 19, op := Op.call { callee := Callee.value (Operand.func 33), args := #[], argTypes := #[] }, type := 54, pos := "operators.go:19", after := #[], guard := none } : Oper)) rfl (fun K hK => ?_) AllReadyH.nil
  go_simp
  go_at_call 33
  refine (calculations_any _).mono ?_
  rintro e w1 ⟨M, rfl, hF, hb⟩
  replace hS1 := hS0.drew.below hb
  clear hS0
  go_wp2_with fail
  refine hK.out _ _ hS1 (fun hHeld => ?_)
  clear hK K
  try simp only [Act.put, List.setIfInBounds_toArray, List.set_cons_zero, List.set_cons_succ]
  refine wpAnyH_ready (rs := [2]) (by kernel_rfl) (by simp) ?_
  refine AllReadyH.cons (o := ({ dst := some 21, op := Op.lookup 54 (Operand.tmp 19) (Operand.tmp 20) false, type := 53, pos := "operators.go:19", after := #[{ on := 0, ground := Ground.data }, { on := 1, ground := Ground.data }], guard := none } : Oper)) rfl (fun K hK => ?_) AllReadyH.nil
  have hl := run_lookF Try.underlying54 w1 M 8 _ hF (4, FF 63) rfl false
  simp only [Bool.false_eq_true, if_false] at hl
  go_simp
  refine hK.out _ _ hHeld (fun hHeld => ?_)
  clear hK K
  try simp only [Act.put, List.setIfInBounds_toArray, List.set_cons_zero, List.set_cons_succ]
  refine wpAnyH_ready (rs := [5]) (by kernel_rfl) (by simp) ?_
  refine AllReadyH.cons (o := ({ dst := some 24, op := Op.call { callee := Callee.value (Operand.func 34), args := #[Operand.tmp 21, Operand.tmp 22, Operand.tmp 23], argTypes := #[53, 23, 23] }, type := 26, pos := "operators.go:19", after := #[{ on := 2, ground := Ground.data }, { on := 3, ground := Ground.data }, { on := 4, ground := Ground.data }, { on := 0, ground := Ground.chain }], guard := none } : Oper)) rfl (fun K hK => ?_) AllReadyH.nil
  clear hF hS1
  go_simp
  go_at_call 34
  refine (HO.out _).mono ?_
  rintro e w2 ⟨rfl, hb⟩
  have hS2 := hHeld.below hb
  obtain ⟨_, zk, zn, zs, hz⟩ := hS2
  obtain ⟨z0, z1, z2⟩ := bx_cells hz
  obtain ⟨f0, f1, f2⟩ := bx_free hz
  go_wp2_with fail
  refine hK.out _ _ (hHeld.below hb) (fun hHeld => ?_)
  clear hK K
  try simp only [Act.put, List.setIfInBounds_toArray, List.set_cons_zero, List.set_cons_succ]
  refine wpAnyH_take (i := 6) (oi := ({ dst := some 25, op := Op.extract (Operand.tmp 24) 0, type := 23, pos := "operators.go:19", after := #[{ on := 5, ground := Ground.data }], guard := none } : Oper)) (v := ?_) rfl (by kernel_rfl) (by kernel_rfl) (by kernel_rfl) (fun _ _ _ h => h) (Or.inl ⟨by rfl, ?_⟩) (by assumption) ?_
  rotate_left 1
  · (intro u hSw; go_simp; try with_reducible rfl)
  try simp only [Act.put, List.setIfInBounds_toArray, List.set_cons_zero, List.set_cons_succ]
  refine wpAnyH_take (i := 7) (oi := ({ dst := some 26, op := Op.extract (Operand.tmp 24) 1, type := 25, pos := "operators.go:19", after := #[{ on := 5, ground := Ground.data }], guard := none } : Oper)) (v := ?_) rfl (by kernel_rfl) (by kernel_rfl) (by kernel_rfl) (fun _ _ _ h => h) (Or.inl ⟨by rfl, ?_⟩) (by assumption) ?_
  rotate_left 1
  · (intro u hSw; go_simp; try with_reducible rfl)
  try simp only [Act.put, List.setIfInBounds_toArray, List.set_cons_zero, List.set_cons_succ]
  refine wpAnyH_ready (rs := [8]) (by kernel_rfl) (by simp) ?_
  refine AllReadyH.cons (o := ({ dst := none, op := Op.store 23 (Operand.tmp 6) (Operand.tmp 25), type := 0, pos := "operators.go:19", after := #[{ on := 6, ground := Ground.data }, { on := 5, ground := Ground.chain }, { on := 0, ground := Ground.phase }, { on := 1, ground := Ground.phase }, { on := 2, ground := Ground.phase }, { on := 3, ground := Ground.phase }, { on := 4, ground := Ground.phase }, { on := 5, ground := Ground.phase }, { on := 6, ground := Ground.phase }, { on := 7, ground := Ground.phase }], guard := none } : Oper)) rfl (fun K hK => ?_) AllReadyH.nil
  have hS3 := hHeld.setR R.1
  go_simp
  refine hK.out _ _ hS3 (fun hHeld => ?_)
  clear hK K
  try simp only [Act.put]
  refine wpAnyH_take (i := 9) (oi := ({ dst := some 7, op := Op.assign (Operand.tmp 26), type := 25, pos := "operators.go:19", after := #[{ on := 7, ground := Ground.data }, { on := 8, ground := Ground.chain }, { on := 0, ground := Ground.phase }, { on := 1, ground := Ground.phase }, { on := 2, ground := Ground.phase }, { on := 3, ground := Ground.phase }, { on := 4, ground := Ground.phase }, { on := 5, ground := Ground.phase }, { on := 6, ground := Ground.phase }, { on := 7, ground := Ground.phase }, { on := 8, ground := Ground.phase }], guard := none } : Oper)) (v := ?_) rfl (by kernel_rfl) (by kernel_rfl) (by kernel_rfl) (fun _ _ _ h => h) (Or.inl ⟨by rfl, ?_⟩) (by assumption) ?_
  rotate_left 1
  · (intro u hSw; go_simp; try with_reducible rfl)
  try simp only [Act.put, List.setIfInBounds_toArray, List.set_cons_zero, List.set_cons_succ]
  refine wpAnyH_done (by kernel_rfl) ?_ _
  go_wp2_with fail
  refine bodyPost_ret (v := .tuple #[.agg #[.int .i64 R.1.k, .int .i64 R.1.n, .string (str R.1.s)], .int .i64 R.2]) (by simp [results, Try.results13, go_sem, z0, z1, z2]) rfl ⟨rfl, hHeld.1.2.2⟩
set_option maxRecDepth 100000 in
set_option maxHeartbeats 6400000 in
theorem do_9 (a b : Val) (w : World) (ha : a.OK) (hb : b.OK) : Calls Try.prog 13 #[.int .i64 9, .agg #[.int .i64 a.k, .int .i64 a.n, .string (str a.s)], .agg #[.int .i64 b.k, .int .i64 b.n, .string (str b.s)]] w fun e w' => e = .returned (.tuple #[.agg #[.int .i64 ((doR 9 (normV a) (normV b)).1).k, .int .i64 ((doR 9 (normV a) (normV b)).1).n, .string (str ((doR 9 (normV a) (normV b)).1).s)], .int .i64 (doR 9 (normV a) (normV b)).2]) ∧ Below w.heap.size w w' := by
  have hA := norm_i64 ha
  have hB := norm_i64 hb
  have hra := norm_rng ha.1
  have hrb := norm_rng hb.1
  have HT := Lib.hid (tri_new w a b)
  have ht1 := fun w => takesOne_any 9 w
  have ht2 := fun w => calculates_any 9 w
  simp only [show oneOf 9 = false from rfl, show decide (4 ≤ (9 : Int) ∧ (9 : Int) ≤ 9) = true from rfl] at ht1 ht2
  have HT1 := Lib.hid ht1
  have HT2 := Lib.hid ht2
  clear ht1 ht2 ha hb
  rw [show doR 9 (normV a) (normV b) = ofR (normV a) (normV b) (rmd (normV a).n (normV b).n) from rfl]
  have HO := Lib.hid (fun u => calcOf_remainder (normV a) (normV b) u (rmd (normV a).n (normV b).n) hra hrb (fun w => remainder_any _ _ _ hA hB))
  generalize ofR (normV a) (normV b) (rmd (normV a).n (normV b).n) = R at *
  clear hA hB hra hrb
  go_enter Try.func13, Try.ntmps13
  go_wp2_with fail
  refine do_reg1 _ _ _ w _ HT.out ?_
  intro u hT
  clear HT
  obtain ⟨p0, p1, p2⟩ := bx_cells hT.1.1; obtain ⟨q0, q1, q2⟩ := bx_cells hT.1.2.1; obtain ⟨g0, g1, g2⟩ := bx_free hT.1.2.1; have hT0 := hT; obtain ⟨_, zk, zn, zs, hz⟩ := hT; obtain ⟨z0, z1, z2⟩ := bx_cells hz; obtain ⟨f0, f1, f2⟩ := bx_free hz
  have hS0 := hT0
  clear hz hT0
  have HS0 := Lib.hid hS0
  go_wp2_with (first
    | (go_at_call 31; refine (HT1.out _).mono ?_; rintro e w' ⟨rfl, rfl⟩)
    | (go_at_call 32; refine (HT2.out _).mono ?_; rintro e w' ⟨rfl, rfl⟩))
  refine wp_region_held_drew (S := fun u => Tri w u (normV a) (normV b)) (by kernel_rfl) (HS0.out.drew) (fun hHeld => ?_)
  refine wpAnyH_take (i := 1) (oi := ({ dst := some 20, op := Op.move (Operand.tmp 0), type := 3, pos := "operators.go:19", after := #[], guard := none } : Oper)) (v := ?_) rfl (by kernel_rfl) (by kernel_rfl) (by kernel_rfl) (fun _ _ _ h => h) (Or.inl ⟨by rfl, ?_⟩) (by assumption) ?_
  rotate_left 1
  · (intro u hSw; go_simp; try with_reducible rfl)
  try simp only [Act.put, List.setIfInBounds_toArray, List.set_cons_zero, List.set_cons_succ]
  refine wpAnyH_take (i := 3) (oi := ({ dst := some 22, op := Op.load 23 (Operand.tmp 4), type := 23, pos := "operators.go:19", after := #[], guard := none } : Oper)) (v := ?_) rfl (by kernel_rfl) (by kernel_rfl) (by kernel_rfl) (fun _ _ _ h => h) (Or.inl ⟨by rfl, ?_⟩) (by assumption) ?_
  rotate_left 1
  · (intro u hSw; have p0 := (cell_of_row u (w.heap.size) 0 _ _ _ hSw.1.1).trans (show (#[Value.int .i64 (normV a).k, .int .i64 (normV a).n, .string (str (normV a).s)] : Array Value)[0]? = some (.int .i64 (normV a).k) from rfl); have p1 := (cell_of_row u (w.heap.size) 1 _ _ _ hSw.1.1).trans (show (#[Value.int .i64 (normV a).k, .int .i64 (normV a).n, .string (str (normV a).s)] : Array Value)[1]? = some (.int .i64 (normV a).n) from rfl); have p2 := (cell_of_row u (w.heap.size) 2 _ _ _ hSw.1.1).trans (show (#[Value.int .i64 (normV a).k, .int .i64 (normV a).n, .string (str (normV a).s)] : Array Value)[2]? = some (.string (str (normV a).s)) from rfl); have q0 := (cell_of_row u (w.heap.size + 1) 0 _ _ _ hSw.1.2.1).trans (show (#[Value.int .i64 (normV b).k, .int .i64 (normV b).n, .string (str (normV b).s)] : Array Value)[0]? = some (.int .i64 (normV b).k) from rfl); have q1 := (cell_of_row u (w.heap.size + 1) 1 _ _ _ hSw.1.2.1).trans (show (#[Value.int .i64 (normV b).k, .int .i64 (normV b).n, .string (str (normV b).s)] : Array Value)[1]? = some (.int .i64 (normV b).n) from rfl); have q2 := (cell_of_row u (w.heap.size + 1) 2 _ _ _ hSw.1.2.1).trans (show (#[Value.int .i64 (normV b).k, .int .i64 (normV b).n, .string (str (normV b).s)] : Array Value)[2]? = some (.string (str (normV b).s)) from rfl); go_simp; try with_reducible rfl)
  try simp only [Act.put, List.setIfInBounds_toArray, List.set_cons_zero, List.set_cons_succ]
  refine wpAnyH_take (i := 4) (oi := ({ dst := some 23, op := Op.load 23 (Operand.tmp 5), type := 23, pos := "operators.go:19", after := #[], guard := none } : Oper)) (v := ?_) rfl (by kernel_rfl) (by kernel_rfl) (by kernel_rfl) (fun _ _ _ h => h) (Or.inl ⟨by rfl, ?_⟩) (by assumption) ?_
  rotate_left 1
  · (intro u hSw; have p0 := (cell_of_row u (w.heap.size) 0 _ _ _ hSw.1.1).trans (show (#[Value.int .i64 (normV a).k, .int .i64 (normV a).n, .string (str (normV a).s)] : Array Value)[0]? = some (.int .i64 (normV a).k) from rfl); have p1 := (cell_of_row u (w.heap.size) 1 _ _ _ hSw.1.1).trans (show (#[Value.int .i64 (normV a).k, .int .i64 (normV a).n, .string (str (normV a).s)] : Array Value)[1]? = some (.int .i64 (normV a).n) from rfl); have p2 := (cell_of_row u (w.heap.size) 2 _ _ _ hSw.1.1).trans (show (#[Value.int .i64 (normV a).k, .int .i64 (normV a).n, .string (str (normV a).s)] : Array Value)[2]? = some (.string (str (normV a).s)) from rfl); have q0 := (cell_of_row u (w.heap.size + 1) 0 _ _ _ hSw.1.2.1).trans (show (#[Value.int .i64 (normV b).k, .int .i64 (normV b).n, .string (str (normV b).s)] : Array Value)[0]? = some (.int .i64 (normV b).k) from rfl); have q1 := (cell_of_row u (w.heap.size + 1) 1 _ _ _ hSw.1.2.1).trans (show (#[Value.int .i64 (normV b).k, .int .i64 (normV b).n, .string (str (normV b).s)] : Array Value)[1]? = some (.int .i64 (normV b).n) from rfl); have q2 := (cell_of_row u (w.heap.size + 1) 2 _ _ _ hSw.1.2.1).trans (show (#[Value.int .i64 (normV b).k, .int .i64 (normV b).n, .string (str (normV b).s)] : Array Value)[2]? = some (.string (str (normV b).s)) from rfl); go_simp; try with_reducible rfl)
  try simp only [Act.put, List.setIfInBounds_toArray, List.set_cons_zero, List.set_cons_succ]
  refine wpAnyH_ready (rs := [0]) (by kernel_rfl) (by simp) ?_
  refine AllReadyH.cons (o := ({ dst := some 19, op := Op.call { callee := Callee.value (Operand.func 33), args := #[], argTypes := #[] }, type := 54, pos := "operators.go:19", after := #[], guard := none } : Oper)) rfl (fun K hK => ?_) AllReadyH.nil
  go_simp
  go_at_call 33
  refine (calculations_any _).mono ?_
  rintro e w1 ⟨M, rfl, hF, hb⟩
  replace hS1 := hS0.drew.below hb
  clear hS0
  go_wp2_with fail
  refine hK.out _ _ hS1 (fun hHeld => ?_)
  clear hK K
  try simp only [Act.put, List.setIfInBounds_toArray, List.set_cons_zero, List.set_cons_succ]
  refine wpAnyH_ready (rs := [2]) (by kernel_rfl) (by simp) ?_
  refine AllReadyH.cons (o := ({ dst := some 21, op := Op.lookup 54 (Operand.tmp 19) (Operand.tmp 20) false, type := 53, pos := "operators.go:19", after := #[{ on := 0, ground := Ground.data }, { on := 1, ground := Ground.data }], guard := none } : Oper)) rfl (fun K hK => ?_) AllReadyH.nil
  have hl := run_lookF Try.underlying54 w1 M 9 _ hF (5, FF 64) rfl false
  simp only [Bool.false_eq_true, if_false] at hl
  go_simp
  refine hK.out _ _ hHeld (fun hHeld => ?_)
  clear hK K
  try simp only [Act.put, List.setIfInBounds_toArray, List.set_cons_zero, List.set_cons_succ]
  refine wpAnyH_ready (rs := [5]) (by kernel_rfl) (by simp) ?_
  refine AllReadyH.cons (o := ({ dst := some 24, op := Op.call { callee := Callee.value (Operand.func 34), args := #[Operand.tmp 21, Operand.tmp 22, Operand.tmp 23], argTypes := #[53, 23, 23] }, type := 26, pos := "operators.go:19", after := #[{ on := 2, ground := Ground.data }, { on := 3, ground := Ground.data }, { on := 4, ground := Ground.data }, { on := 0, ground := Ground.chain }], guard := none } : Oper)) rfl (fun K hK => ?_) AllReadyH.nil
  clear hF hS1
  go_simp
  go_at_call 34
  refine (HO.out _).mono ?_
  rintro e w2 ⟨rfl, hb⟩
  have hS2 := hHeld.below hb
  obtain ⟨_, zk, zn, zs, hz⟩ := hS2
  obtain ⟨z0, z1, z2⟩ := bx_cells hz
  obtain ⟨f0, f1, f2⟩ := bx_free hz
  go_wp2_with fail
  refine hK.out _ _ (hHeld.below hb) (fun hHeld => ?_)
  clear hK K
  try simp only [Act.put, List.setIfInBounds_toArray, List.set_cons_zero, List.set_cons_succ]
  refine wpAnyH_take (i := 6) (oi := ({ dst := some 25, op := Op.extract (Operand.tmp 24) 0, type := 23, pos := "operators.go:19", after := #[{ on := 5, ground := Ground.data }], guard := none } : Oper)) (v := ?_) rfl (by kernel_rfl) (by kernel_rfl) (by kernel_rfl) (fun _ _ _ h => h) (Or.inl ⟨by rfl, ?_⟩) (by assumption) ?_
  rotate_left 1
  · (intro u hSw; go_simp; try with_reducible rfl)
  try simp only [Act.put, List.setIfInBounds_toArray, List.set_cons_zero, List.set_cons_succ]
  refine wpAnyH_take (i := 7) (oi := ({ dst := some 26, op := Op.extract (Operand.tmp 24) 1, type := 25, pos := "operators.go:19", after := #[{ on := 5, ground := Ground.data }], guard := none } : Oper)) (v := ?_) rfl (by kernel_rfl) (by kernel_rfl) (by kernel_rfl) (fun _ _ _ h => h) (Or.inl ⟨by rfl, ?_⟩) (by assumption) ?_
  rotate_left 1
  · (intro u hSw; go_simp; try with_reducible rfl)
  try simp only [Act.put, List.setIfInBounds_toArray, List.set_cons_zero, List.set_cons_succ]
  refine wpAnyH_ready (rs := [8]) (by kernel_rfl) (by simp) ?_
  refine AllReadyH.cons (o := ({ dst := none, op := Op.store 23 (Operand.tmp 6) (Operand.tmp 25), type := 0, pos := "operators.go:19", after := #[{ on := 6, ground := Ground.data }, { on := 5, ground := Ground.chain }, { on := 0, ground := Ground.phase }, { on := 1, ground := Ground.phase }, { on := 2, ground := Ground.phase }, { on := 3, ground := Ground.phase }, { on := 4, ground := Ground.phase }, { on := 5, ground := Ground.phase }, { on := 6, ground := Ground.phase }, { on := 7, ground := Ground.phase }], guard := none } : Oper)) rfl (fun K hK => ?_) AllReadyH.nil
  have hS3 := hHeld.setR R.1
  go_simp
  refine hK.out _ _ hS3 (fun hHeld => ?_)
  clear hK K
  try simp only [Act.put]
  refine wpAnyH_take (i := 9) (oi := ({ dst := some 7, op := Op.assign (Operand.tmp 26), type := 25, pos := "operators.go:19", after := #[{ on := 7, ground := Ground.data }, { on := 8, ground := Ground.chain }, { on := 0, ground := Ground.phase }, { on := 1, ground := Ground.phase }, { on := 2, ground := Ground.phase }, { on := 3, ground := Ground.phase }, { on := 4, ground := Ground.phase }, { on := 5, ground := Ground.phase }, { on := 6, ground := Ground.phase }, { on := 7, ground := Ground.phase }, { on := 8, ground := Ground.phase }], guard := none } : Oper)) (v := ?_) rfl (by kernel_rfl) (by kernel_rfl) (by kernel_rfl) (fun _ _ _ h => h) (Or.inl ⟨by rfl, ?_⟩) (by assumption) ?_
  rotate_left 1
  · (intro u hSw; go_simp; try with_reducible rfl)
  try simp only [Act.put, List.setIfInBounds_toArray, List.set_cons_zero, List.set_cons_succ]
  refine wpAnyH_done (by kernel_rfl) ?_ _
  go_wp2_with fail
  refine bodyPost_ret (v := .tuple #[.agg #[.int .i64 R.1.k, .int .i64 R.1.n, .string (str R.1.s)], .int .i64 R.2]) (by simp [results, Try.results13, go_sem, z0, z1, z2]) rfl ⟨rfl, hHeld.1.2.2⟩
end Go.Proofs.Ytbhilmgpmebaiaa
