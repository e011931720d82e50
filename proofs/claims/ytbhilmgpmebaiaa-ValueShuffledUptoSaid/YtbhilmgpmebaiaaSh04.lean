import Derived.Test.YtbhilmgpmebaiaaSh00
import Derived.Test.YtbhilmgpmebaiaaSh02
import Derived.Test.YtbhilmgpmebaiaaSh03
import Derived.Laws.Externs
import Derived.Test.YtbhilmgpmebaiaaProg
import Derived.Shelf.Strconv.Clone
namespace Go.Proofs.Ytbhilmgpmebaiaa
open Go.RowKit
attribute [local go_sem ↓] eql32_eq neq32_eq
end Go.Proofs.Ytbhilmgpmebaiaa
namespace Go.Proofs.Ytbhilmgpmebaiaa
open Go.RowKit
attribute [local go_sem ↓] eql32_eq neq32_eq
def holdK (op c : Int) : Bool := if op = 10 then decide (c = 0) else if op = 11 then decide (c ≠ 0) else if op = 12 then decide (c < 0) else if op = 13 then decide (c ≤ 0) else if op = 14 then decide (0 < c) else decide (0 ≤ c)
def calK (op x y : Int) : Int × Int := if op = 4 then fit (0 - x) else if op = 5 then fit (x + y) else if op = 6 then fit (x - y) else if op = 7 then fit (x * y) else if op = 8 then dvd x y else rmd x y
/-- what Do answers, of plain values -/
def doR (op : Int) (A B : Val) : Val × Int := if 4 ≤ op ∧ op ≤ 9 then ofR A B (calK op A.n B.n) else if 10 ≤ op ∧ op ≤ 15 then ofK A B (holdK op (ordV A B)) else if op = 16 then notV A else if op = 17 then decV false A B else if op = 18 then decV true A B else if op = 19 then testV A true else if op = 20 then testV A false else (nulV, 1)
theorem norm_i64 {x : Val} (h : x.OK) : I64 (normV x).n := ⟨(nrm_norm h).1.2.2.2.1, (nrm_norm h).1.2.2.2.2⟩
set_option maxRecDepth 100000 in
set_option maxHeartbeats 6400000 in
theorem do_5 (a b : Val) (w : World) (ha : a.OK) (hb : b.OK) : Calls Try.prog 13 #[.int .i64 5, .agg #[.int .i64 a.k, .int .i64 a.n, .string (str a.s)], .agg #[.int .i64 b.k, .int .i64 b.n, .string (str b.s)]] w fun e w' => e = .returned (.tuple #[.agg #[.int .i64 ((doR 5 (normV a) (normV b)).1).k, .int .i64 ((doR 5 (normV a) (normV b)).1).n, .string (str ((doR 5 (normV a) (normV b)).1).s)], .int .i64 (doR 5 (normV a) (normV b)).2]) ∧ Below w.heap.size w w' := by
  have hA := norm_i64 ha
  have hB := norm_i64 hb
  have hra := norm_rng ha.1
  have hrb := norm_rng hb.1
  have HT := Lib.hid (tri_new w a b)
  have ht1 := fun w => takesOne_any 5 w
  have ht2 := fun w => calculates_any 5 w
  simp only [show oneOf 5 = false from rfl, show decide (4 ≤ (5 : Int) ∧ (5 : Int) ≤ 9) = true from rfl] at ht1 ht2
  have HT1 := Lib.hid ht1
  have HT2 := Lib.hid ht2
  clear ht1 ht2 ha hb
  rw [show doR 5 (normV a) (normV b) = ofR (normV a) (normV b) (fit ((normV a).n + (normV b).n)) from rfl]
  have HO := Lib.hid (fun u => calcOf_add (normV a) (normV b) u (fit ((normV a).n + (normV b).n)) hra hrb (fun w => add_any _ _ _ hA hB))
  generalize ofR (normV a) (normV b) (fit ((normV a).n + (normV b).n)) = R at *
  clear hA hB hra hrb
  go_enter Try.func13, Try.ntmps13
  go_wp2_with fail
  refine do_reg1 _ _ _ w _ HT.out ?_
  intro u hT
  clear HT
  obtain ⟨p0, p1, p2⟩ := bx_cells hT.1.1; obtain ⟨q0, q1, q2⟩ := bx_cells hT.1.2.1; obtain ⟨g0, g1, g2⟩ := bx_free hT.1.2.1; have hT0 := hT; obtain ⟨_, zk, zn, zs, hz⟩ := hT; obtain ⟨z0, z1, z2⟩ := bx_cells hz; obtain ⟨f0, f1, f2⟩ := bx_free hz
  have hS0 := hT0
  clear hz hT0
  have HS0 := Lib.hid hS0
  go_wp2_with (first
    | (go_at_call 31; refine (HT1.out _).mono ?_; rintro e w' ⟨rfl, rfl⟩)
    | (go_at_call 32; refine (HT2.out _).mono ?_; rintro e w' ⟨rfl, rfl⟩))
  refine wp_region_held_drew (S := fun u => Tri w u (normV a) (normV b)) (by kernel_rfl) (HS0.out.drew) (fun hHeld => ?_)
  refine wpAnyH_take (i := 1) (oi := ({ dst := some 20, op := Op.move (Operand.tmp 0), type := 3, pos := "operators.go:19", after := #[], guard := none } : Oper)) (v := ?_) rfl (by kernel_rfl) (by kernel_rfl) (by kernel_rfl) (fun _ _ _ h => h) (Or.inl ⟨by rfl, ?_⟩) (by assumption) ?_
  rotate_left 1
  · (intro u hSw; go_simp; try with_reducible rfl)
  try simp only [Act.put, List.setIfInBounds_toArray, List.set_cons_zero, List.set_cons_succ]
  refine wpAnyH_take (i := 3) (oi := ({ dst := some 22, op := Op.load 23 (Operand.tmp 4), type := 23, pos := "operators.go:19", after := #[], guard := none } : Oper)) (v := ?_) rfl (by kernel_rfl) (by kernel_rfl) (by kernel_rfl) (fun _ _ _ h => h) (Or.inl ⟨by rfl, ?_⟩) (by assumption) ?_
  rotate_left 1
  · (intro u hSw; have p0 := (cell_of_row u (w.heap.size) 0 _ _ _ hSw.1.1).trans (show (#[Value.int .i64 (normV a).k, .int .i64 (normV a).n, .string (str (normV a).s)] : Array Value)[0]? = some (.int .i64 (normV a).k) from rfl); have p1 := (cell_of_row u (w.heap.size) 1 _ _ _ hSw.1.1).trans (show (#[Value.int .i64 (normV a).k, .int .i64 (normV a).n, .string (str (normV a).s)] : Array Value)[1]? = some (.int .i64 (normV a).n) from rfl); have p2 := (cell_of_row u (w.heap.size) 2 _ _ _ hSw.1.1).trans (show (#[Value.int .i64 (normV a).k, .int .i64 (normV a).n, .string (str (normV a).s)] : Array Value)[2]? = some (.string (str (normV a).s)) from rfl); have q0 := (cell_of_row u (w.heap.size + 1) 0 _ _ _ hSw.1.2.1).trans (show (#[Value.int .i64 (normV b).k, .int .i64 (normV b).n, .string (str (normV b).s)] : Array Value)[0]? = some (.int .i64 (normV b).k) from rfl); have q1 := (cell_of_row u (w.heap.size + 1) 1 _ _ _ hSw.1.2.1).trans (show (#[Value.int .i64 (normV b).k, .int .i64 (normV b).n, .string (str (normV b).s)] : Array Value)[1]? = some (.int .i64 (normV b).n) from rfl); have q2 := (cell_of_row u (w.heap.size + 1) 2 _ _ _ hSw.1.2.1).trans (show (#[Value.int .i64 (normV b).k, .int .i64 (normV b).n, .string (str (normV b).s)] : Array Value)[2]? = some (.string (str (normV b).s)) from rfl); go_simp; try with_reducible rfl)
  try simp only [Act.put, List.setIfInBounds_toArray, List.set_cons_zero, List.set_cons_succ]
  refine wpAnyH_take (i := 4) (oi := ({ dst := some 23, op := Op.load 23 (Operand.tmp 5), type := 23, pos := "operators.go:19", after := #[], guard := none } : Oper)) (v := ?_) rfl (by kernel_rfl) (by kernel_rfl) (by kernel_rfl) (fun _ _ _ h => h) (Or.inl ⟨by rfl, ?_⟩) (by assumption) ?_
  rotate_left 1
  · (intro u hSw; have p0 := (cell_of_row u (w.heap.size) 0 _ _ _ hSw.1.1).trans (show (#[Value.int .i64 (normV a).k, .int .i64 (normV a).n, .string (str (normV a).s)] : Array Value)[0]? = some (.int .i64 (normV a).k) from rfl); have p1 := (cell_of_row u (w.heap.size) 1 _ _ _ hSw.1.1).trans (show (#[Value.int .i64 (normV a).k, .int .i64 (normV a).n, .string (str (normV a).s)] : Array Value)[1]? = some (.int .i64 (normV a).n) from rfl); have p2 := (cell_of_row u (w.heap.size) 2 _ _ _ hSw.1.1).trans (show (#[Value.int .i64 (normV a).k, .int .i64 (normV a).n, .string (str (normV a).s)] : Array Value)[2]? = some (.string (str (normV a).s)) from rfl); have q0 := (cell_of_row u (w.heap.size + 1) 0 _ _ _ hSw.1.2.1).trans (show (#[Value.int .i64 (normV b).k, .int .i64 (normV b).n, .string (str (normV b).s)] : Array Value)[0]? = some (.int .i64 (normV b).k) from rfl); have q1 := (cell_of_row u (w.heap.size + 1) 1 _ _ _ hSw.1.2.1).trans (show (#[Value.int .i64 (normV b).k, .int .i64 (normV b).n, .string (str (normV b).s)] : Array Value)[1]? = some (.int .i64 (normV b).n) from rfl); have q2 := (cell_of_row u (w.heap.size + 1) 2 _ _ _ hSw.1.2.1).trans (show (#[Value.int .i64 (normV b).k, .int .i64 (normV b).n, .string (str (normV b).s)] : Array Value)[2]? = some (.string (str (normV b).s)) from rfl); go_simp; try with_reducible rfl)
  try simp only [Act.put, List.setIfInBounds_toArray, List.set_cons_zero, List.set_cons_succ]
  refine wpAnyH_ready (rs := [0]) (by kernel_rfl) (by simp) ?_
  refine AllReadyH.cons (o := ({ dst := some 19, op := Op.call { callee := Callee.value (Operand.func 33), args := #[], argTypes := #[] }, type := 54, pos := "operators.go:19", after := #[], guard := none } : Oper)) rfl (fun K hK => ?_) AllReadyH.nil
  go_simp
  go_at_call 33
  refine (calculations_any _).mono ?_
  rintro e w1 ⟨M, rfl, hF, hb⟩
  replace hS1 := hS0.drew.below hb
  clear hS0
  go_wp2_with fail
  refine hK.out _ _ hS1 (fun hHeld => ?_)
  clear hK K
  try simp only [Act.put, List.setIfInBounds_toArray, List.set_cons_zero, List.set_cons_succ]
  refine wpAnyH_ready (rs := [2]) (by kernel_rfl) (by simp) ?_
  refine AllReadyH.cons (o := ({ dst := some 21, op := Op.lookup 54 (Operand.tmp 19) (Operand.tmp 20) false, type := 53, pos := "operators.go:19", after := #[{ on := 0, ground := Ground.data }, { on := 1, ground := Ground.data }], guard := none } : Oper)) rfl (fun K hK => ?_) AllReadyH.nil
  have hl := run_lookF Try.underlying54 w1 M 5 _ hF (1, FF 61) rfl false
  simp only [Bool.false_eq_true, if_false] at hl
  go_simp
  refine hK.out _ _ hHeld (fun hHeld => ?_)
  clear hK K
  try simp only [Act.put, List.setIfInBounds_toArray, List.set_cons_zero, List.set_cons_succ]
  refine wpAnyH_ready (rs := [5]) (by kernel_rfl) (by simp) ?_
  refine AllReadyH.cons (o := ({ dst := some 24, op := Op.call { callee := Callee.value (Operand.func 34), args := #[Operand.tmp 21, Operand.tmp 22, Operand.tmp 23], argTypes := #[53, 23, 23] }, type := 26, pos := "operators.go:19", after := #[{ on := 2, ground := Ground.data }, { on := 3, ground := Ground.data }, { on := 4, ground := Ground.data }, { on := 0, ground := Ground.chain }], guard := none } : Oper)) rfl (fun K hK => ?_) AllReadyH.nil
  clear hF hS1
  go_simp
  go_at_call 34
  refine (HO.out _).mono ?_
  rintro e w2 ⟨rfl, hb⟩
  have hS2 := hHeld.below hb
  obtain ⟨_, zk, zn, zs, hz⟩ := hS2
  obtain ⟨z0, z1, z2⟩ := bx_cells hz
  obtain ⟨f0, f1, f2⟩ := bx_free hz
  go_wp2_with fail
  refine hK.out _ _ (hHeld.below hb) (fun hHeld => ?_)
  clear hK K
  try simp only [Act.put, List.setIfInBounds_toArray, List.set_cons_zero, List.set_cons_succ]
  refine wpAnyH_take (i := 6) (oi := ({ dst := some 25, op := Op.extract (Operand.tmp 24) 0, type := 23, pos := "operators.go:19", after := #[{ on := 5, ground := Ground.data }], guard := none } : Oper)) (v := ?_) rfl (by kernel_rfl) (by kernel_rfl) (by kernel_rfl) (fun _ _ _ h => h) (Or.inl ⟨by rfl, ?_⟩) (by assumption) ?_
  rotate_left 1
  · (intro u hSw; go_simp; try with_reducible rfl)
  try simp only [Act.put, List.setIfInBounds_toArray, List.set_cons_zero, List.set_cons_succ]
  refine wpAnyH_take (i := 7) (oi := ({ dst := some 26, op := Op.extract (Operand.tmp 24) 1, type := 25, pos := "operators.go:19", after := #[{ on := 5, ground := Ground.data }], guard := none } : Oper)) (v := ?_) rfl (by kernel_rfl) (by kernel_rfl) (by kernel_rfl) (fun _ _ _ h => h) (Or.inl ⟨by rfl, ?_⟩) (by assumption) ?_
  rotate_left 1
  · (intro u hSw; go_simp; try with_reducible rfl)
  try simp only [Act.put, List.setIfInBounds_toArray, List.set_cons_zero, List.set_cons_succ]
  refine wpAnyH_ready (rs := [8]) (by kernel_rfl) (by simp) ?_
  refine AllReadyH.cons (o := ({ dst := none, op := Op.store 23 (Operand.tmp 6) (Operand.tmp 25), type := 0, pos := "operators.go:19", after := #[{ on := 6, ground := Ground.data }, { on := 5, ground := Ground.chain }, { on := 0, ground := Ground.phase }, { on := 1, ground := Ground.phase }, { on := 2, ground := Ground.phase }, { on := 3, ground := Ground.phase }, { on := 4, ground := Ground.phase }, { on := 5, ground := Ground.phase }, { on := 6, ground := Ground.phase }, { on := 7, ground := Ground.phase }], guard := none } : Oper)) rfl (fun K hK => ?_) AllReadyH.nil
  have hS3 := hHeld.setR R.1
  go_simp
  refine hK.out _ _ hS3 (fun hHeld => ?_)
  clear hK K
  try simp only [Act.put]
  refine wpAnyH_take (i := 9) (oi := ({ dst := some 7, op := Op.assign (Operand.tmp 26), type := 25, pos := "operators.go:19", after := #[{ on := 7, ground := Ground.data }, { on := 8, ground := Ground.chain }, { on := 0, ground := Ground.phase }, { on := 1, ground := Ground.phase }, { on := 2, ground := Ground.phase }, { on := 3, ground := Ground.phase }, { on := 4, ground := Ground.phase }, { on := 5, ground := Ground.phase }, { on := 6, ground := Ground.phase }, { on := 7, ground := Ground.phase }, { on := 8, ground := Ground.phase }], guard := none } : Oper)) (v := ?_) rfl (by kernel_rfl) (by kernel_rfl) (by kernel_rfl) (fun _ _ _ h => h) (Or.inl ⟨by rfl, ?_⟩) (by assumption) ?_
  rotate_left 1
  · (intro u hSw; go_simp; try with_reducible rfl)
  try simp only [Act.put, List.setIfInBounds_toArray, List.set_cons_zero, List.set_cons_succ]
  refine wpAnyH_done (by kernel_rfl) ?_ _
  go_wp2_with fail
  refine bodyPost_ret (v := .tuple #[.agg #[.int .i64 R.1.k, .int .i64 R.1.n, .string (str R.1.s)], .int .i64 R.2]) (by simp [results, Try.results13, go_sem, z0, z1, z2]) rfl ⟨rfl, hHeld.1.2.2⟩
set_option maxRecDepth 100000 in
set_option maxHeartbeats 6400000 in
theorem do_8 (a b : Val) (w : World) (ha : a.OK) (hb : b.OK) : Calls Try.prog 13 #[.int .i64 8, .agg #[.int .i64 a.k, .int .i64 a.n, .string (str a.s)], .agg #[.int .i64 b.k, .int .i64 b.n, .string (str b.s)]] w fun e w' => e = .returned (.tuple #[.agg #[.int .i64 ((doR 8 (normV a) (normV b)).1).k, .int .i64 ((doR 8 (normV a) (normV b)).1).n, .string (str ((doR 8 (normV a) (normV b)).1).s)], .int .i64 (doR 8 (normV a) (normV b)).2]) ∧ Below w.heap.size w w' := by
  have hA := norm_i64 ha
  have hB := norm_i64 hb
  have hra := norm_rng ha.1
  have hrb := norm_rng hb.1
  have HT := Lib.hid (tri_new w a b)
  have ht1 := fun w => takesOne_any 8 w
  have ht2 := fun w => calculates_any 8 w
  simp only [show oneOf 8 = false from rfl, show decide (4 ≤ (8 : Int) ∧ (8 : Int) ≤ 9) = true from rfl] at ht1 ht2
  have HT1 := Lib.hid ht1
  have HT2 := Lib.hid ht2
  clear ht1 ht2 ha hb
  rw [show doR 8 (normV a) (normV b) = ofR (normV a) (normV b) (dvd (normV a).n (normV b).n) from rfl]
  have HO := Lib.hid (fun u => calcOf_divide (normV a) (normV b) u (dvd (normV a).n (normV b).n) hra hrb (fun w => divide_any _ _ _ hA hB))
  generalize ofR (normV a) (normV b) (dvd (normV a).n (normV b).n) = R at *
  clear hA hB hra hrb
  go_enter Try.func13, Try.ntmps13
  go_wp2_with fail
  refine do_reg1 _ _ _ w _ HT.out ?_
  intro u hT
  clear HT
  obtain ⟨p0, p1, p2⟩ := bx_cells hT.1.1; obtain ⟨q0, q1, q2⟩ := bx_cells hT.1.2.1; obtain ⟨g0, g1, g2⟩ := bx_free hT.1.2.1; have hT0 := hT; obtain ⟨_, zk, zn, zs, hz⟩ := hT; obtain ⟨z0, z1, z2⟩ := bx_cells hz; obtain ⟨f0, f1, f2⟩ := bx_free hz
  have hS0 := hT0
  clear hz hT0
  have HS0 := Lib.hid hS0
  go_wp2_with (first
    | (go_at_call 31; refine (HT1.out _).mono ?_; rintro e w' ⟨rfl, rfl⟩)
    | (go_at_call 32; refine (HT2.out _).mono ?_; rintro e w' ⟨rfl, rfl⟩))
  refine wp_region_held_drew (S := fun u => Tri w u (normV a) (normV b)) (by kernel_rfl) (HS0.out.drew) (fun hHeld => ?_)
  refine wpAnyH_take (i := 1) (oi := ({ dst := some 20, op := Op.move (Operand.tmp 0), type := 3, pos := "operators.go:19", after := #[], guard := none } : Oper)) (v := ?_) rfl (by kernel_rfl) (by kernel_rfl) (by kernel_rfl) (fun _ _ _ h => h) (Or.inl ⟨by rfl, ?_⟩) (by assumption) ?_
  rotate_left 1
  · (intro u hSw; go_simp; try with_reducible rfl)
  try simp only [Act.put, List.setIfInBounds_toArray, List.set_cons_zero, List.set_cons_succ]
  refine wpAnyH_take (i := 3) (oi := ({ dst := some 22, op := Op.load 23 (Operand.tmp 4), type := 23, pos := "operators.go:19", after := #[], guard := none } : Oper)) (v := ?_) rfl (by kernel_rfl) (by kernel_rfl) (by kernel_rfl) (fun _ _ _ h => h) (Or.inl ⟨by rfl, ?_⟩) (by assumption) ?_
  rotate_left 1
  · (intro u hSw; have p0 := (cell_of_row u (w.heap.size) 0 _ _ _ hSw.1.1).trans (show (#[Value.int .i64 (normV a).k, .int .i64 (normV a).n, .string (str (normV a).s)] : Array Value)[0]? = some (.int .i64 (normV a).k) from rfl); have p1 := (cell_of_row u (w.heap.size) 1 _ _ _ hSw.1.1).trans (show (#[Value.int .i64 (normV a).k, .int .i64 (normV a).n, .string (str (normV a).s)] : Array Value)[1]? = some (.int .i64 (normV a).n) from rfl); have p2 := (cell_of_row u (w.heap.size) 2 _ _ _ hSw.1.1).trans (show (#[Value.int .i64 (normV a).k, .int .i64 (normV a).n, .string (str (normV a).s)] : Array Value)[2]? = some (.string (str (normV a).s)) from rfl); have q0 := (cell_of_row u (w.heap.size + 1) 0 _ _ _ hSw.1.2.1).trans (show (#[Value.int .i64 (normV b).k, .int .i64 (normV b).n, .string (str (normV b).s)] : Array Value)[0]? = some (.int .i64 (normV b).k) from rfl); have q1 := (cell_of_row u (w.heap.size + 1) 1 _ _ _ hSw.1.2.1).trans (show (#[Value.int .i64 (normV b).k, .int .i64 (normV b).n, .string (str (normV b).s)] : Array Value)[1]? = some (.int .i64 (normV b).n) from rfl); have q2 := (cell_of_row u (w.heap.size + 1) 2 _ _ _ hSw.1.2.1).trans (show (#[Value.int .i64 (normV b).k, .int .i64 (normV b).n, .string (str (normV b).s)] : Array Value)[2]? = some (.string (str (normV b).s)) from rfl); go_simp; try with_reducible rfl)
  try simp only [Act.put, List.setIfInBounds_toArray, List.set_cons_zero, List.set_cons_succ]
  refine wpAnyH_take (i := 4) (oi := ({ dst := some 23, op := Op.load 23 (Operand.tmp 5), type := 23, pos := "operators.go:19", after := #[], guard := none } : Oper)) (v := ?_) rfl (by kernel_rfl) (by kernel_rfl) (by kernel_rfl) (fun _ _ _ h => h) (Or.inl ⟨by rfl, ?_⟩) (by assumption) ?_
  rotate_left 1
  · (intro u hSw; have p0 := (cell_of_row u (w.heap.size) 0 _ _ _ hSw.1.1).trans (show (#[Value.int .i64 (normV a).k, .int .i64 (normV a).n, .string (str (normV a).s)] : Array Value)[0]? = some (.int .i64 (normV a).k) from rfl); have p1 := (cell_of_row u (w.heap.size) 1 _ _ _ hSw.1.1).trans (show (#[Value.int .i64 (normV a).k, .int .i64 (normV a).n, .string (str (normV a).s)] : Array Value)[1]? = some (.int .i64 (normV a).n) from rfl); have p2 := (cell_of_row u (w.heap.size) 2 _ _ _ hSw.1.1).trans (show (#[Value.int .i64 (normV a).k, .int .i64 (normV a).n, .string (str (normV a).s)] : Array Value)[2]? = some (.string (str (normV a).s)) from rfl); have q0 := (cell_of_row u (w.heap.size + 1) 0 _ _ _ hSw.1.2.1).trans (show (#[Value.int .i64 (normV b).k, .int .i64 (normV b).n, .string (str (normV b).s)] : Array Value)[0]? = some (.int .i64 (normV b).k) from rfl); have q1 := (cell_of_row u (w.heap.size + 1) 1 _ _ _ hSw.1.2.1).trans (show (#[Value.int .i64 (normV b).k, .int .i64 (normV b).n, .string (str (normV b).s)] : Array Value)[1]? = some (.int .i64 (normV b).n) from rfl); have q2 := (cell_of_row u (w.heap.size + 1) 2 _ _ _ hSw.1.2.1).trans (show (#[Value.int .i64 (normV b).k, .int .i64 (normV b).n, .string (str (normV b).s)] : Array Value)[2]? = some (.string (str (normV b).s)) from rfl); go_simp; try with_reducible rfl)
  try simp only [Act.put, List.setIfInBounds_toArray, List.set_cons_zero, List.set_cons_succ]
  refine wpAnyH_ready (rs := [0]) (by kernel_rfl) (by simp) ?_
  refine AllReadyH.cons (o := ({ dst := some 19, op := Op.call { callee := Callee.value (Operand.func 33), args := #[], argTypes := #[] }, type := 54, pos := "operators.go:19", after := #[], guard := none } : Oper)) rfl (fun K hK => ?_) AllReadyH.nil
  go_simp
  go_at_call 33
  refine (calculations_any _).mono ?_
  rintro e w1 ⟨M, rfl, hF, hb⟩
  replace hS1 := hS0.drew.below hb
  clear hS0
  go_wp2_with fail
  refine hK.out _ _ hS1 (fun hHeld => ?_)
  clear hK K
  try simp only [Act.put, List.setIfInBounds_toArray, List.set_cons_zero, List.set_cons_succ]
  refine wpAnyH_ready (rs := [2]) (by kernel_rfl) (by simp) ?_
  refine AllReadyH.cons (o := ({ dst := some 21, op := Op.lookup 54 (Operand.tmp 19) (Operand.tmp 20) false, type := 53, pos := "operators.go:19", after := #[{ on := 0, ground := Ground.data }, { on := 1, ground := Ground.data }], guard := none } : Oper)) rfl (fun K hK => ?_) AllReadyH.nil
  have hl := run_lookF Try.underlying54 w1 M 8 _ hF (4, FF 63) rfl false
  simp only [Bool.false_eq_true, if_false] at hl
  go_simp
  refine hK.out _ _ hHeld (fun hHeld => ?_)
  clear hK K
  try simp only [Act.put, List.setIfInBounds_toArray, List.set_cons_zero, List.set_cons_succ]
  refine wpAnyH_ready (rs := [5]) (by kernel_rfl) (by simp) ?_
  refine AllReadyH.cons (o := ({ dst := some 24, op := Op.call { callee := Callee.value (Operand.func 34), args := #[Operand.tmp 21, Operand.tmp 22, Operand.tmp 23], argTypes := #[53, 23, 23] }, type := 26, pos := "operators.go:19", after := #[{ on := 2, ground := Ground.data }, { on := 3, ground := Ground.data }, { on := 4, ground := Ground.data }, { on := 0, ground := Ground.chain }], guard := none } : Oper)) rfl (fun K hK => ?_) AllReadyH.nil
  clear hF hS1
  go_simp
  go_at_call 34
  refine (HO.out _).mono ?_
  rintro e w2 ⟨rfl, hb⟩
  have hS2 := hHeld.below hb
  obtain ⟨_, zk, zn, zs, hz⟩ := hS2
  obtain ⟨z0, z1, z2⟩ := bx_cells hz
  obtain ⟨f0, f1, f2⟩ := bx_free hz
  go_wp2_with fail
  refine hK.out _ _ (hHeld.below hb) (fun hHeld => ?_)
  clear hK K
  try simp only [Act.put, List.setIfInBounds_toArray, List.set_cons_zero, List.set_cons_succ]
  refine wpAnyH_take (i := 6) (oi := ({ dst := some 25, op := Op.extract (Operand.tmp 24) 0, type := 23, pos := "operators.go:19", after := #[{ on := 5, ground := Ground.data }], guard := none } : Oper)) (v := ?_) rfl (by kernel_rfl) (by kernel_rfl) (by kernel_rfl) (fun _ _ _ h => h) (Or.inl ⟨by rfl, ?_⟩) (by assumption) ?_
  rotate_left 1
  · (intro u hSw; go_simp; try with_reducible rfl)
  try simp only [Act.put, List.setIfInBounds_toArray, List.set_cons_zero, List.set_cons_succ]
  refine wpAnyH_take (i := 7) (oi := ({ dst := some 26, op := Op.extract (Operand.tmp 24) 1, type := 25, pos := "operators.go:19", after := #[{ on := 5, ground := Ground.data }], guard := none } : Oper)) (v := ?_) rfl (by kernel_rfl) (by kernel_rfl) (by kernel_rfl) (fun _ _ _ h => h) (Or.inl ⟨by rfl, ?_⟩) (by assumption) ?_
  rotate_left 1
  · (intro u hSw; go_simp; try with_reducible rfl)
  try simp only [Act.put, List.setIfInBounds_toArray, List.set_cons_zero, List.set_cons_succ]
  refine wpAnyH_ready (rs := [8]) (by kernel_rfl) (by simp) ?_
  refine AllReadyH.cons (o := ({ dst := none, op := Op.store 23 (Operand.tmp 6) (Operand.tmp 25), type := 0, pos := "operators.go:19", after := #[{ on := 6, ground := Ground.data }, { on := 5, ground := Ground.chain }, { on := 0, ground := Ground.phase }, { on := 1, ground := Ground.phase }, { on := 2, ground := Ground.phase }, { on := 3, ground := Ground.phase }, { on := 4, ground := Ground.phase }, { on := 5, ground := Ground.phase }, { on := 6, ground := Ground.phase }, { on := 7, ground := Ground.phase }], guard := none } : Oper)) rfl (fun K hK => ?_) AllReadyH.nil
  have hS3 := hHeld.setR R.1
  go_simp
  refine hK.out _ _ hS3 (fun hHeld => ?_)
  clear hK K
  try simp only [Act.put]
  refine wpAnyH_take (i := 9) (oi := ({ dst := some 7, op := Op.assign (Operand.tmp 26), type := 25, pos := "operators.go:19", after := #[{ on := 7, ground := Ground.data }, { on := 8, ground := Ground.chain }, { on := 0, ground := Ground.phase }, { on := 1, ground := Ground.phase }, { on := 2, ground := Ground.phase }, { on := 3, ground := Ground.phase }, { on := 4, ground := Ground.phase }, { on := 5, ground := Ground.phase }, { on := 6, ground := Ground.phase }, { on := 7, ground := Ground.phase }, { on := 8, ground := Ground.phase }], guard := none } : Oper)) (v := ?_) rfl (by kernel_rfl) (by kernel_rfl) (by kernel_rfl) (fun _ _ _ h => h) (Or.inl ⟨by rfl, ?_⟩) (by assumption) ?_
  rotate_left 1
  · (intro u hSw; go_simp; try with_reducible rfl)
  try simp only [Act.put, List.setIfInBounds_toArray, List.set_cons_zero, List.set_cons_succ]
  refine wpAnyH_done (by kernel_rfl) ?_ _
  go_wp2_with fail
  refine bodyPost_ret (v := .tuple #[.agg #[.int .i64 R.1.k, .int .i64 R.1.n, .string (str R.1.s)], .int .i64 R.2]) (by simp [results, Try.results13, go_sem, z0, z1, z2]) rfl ⟨rfl, hHeld.1.2.2⟩
end Go.Proofs.Ytbhilmgpmebaiaa
namespace Go.Proofs.Ytbhilmgpmebaiaa
open Go.RowKit
attribute [local go_sem ↓] eql32_eq neq32_eq
end Go.Proofs.Ytbhilmgpmebaiaa
namespace Go.Proofs.Ytbhilmgpmebaiaa
open Go.RowKit
attribute [local go_sem ↓] eql32_eq neq32_eq
end Go.Proofs.Ytbhilmgpmebaiaa
namespace Go.Proofs.Ytbhilmgpmebaiaa
open Go.RowKit
attribute [local go_sem ↓] eql32_eq neq32_eq
set_option maxRecDepth 100000 in
set_option maxHeartbeats 6400000 in
theorem do_17 (a b : Val) (w : World) (ha : a.OK) (hb : b.OK) : Calls Try.prog 13 #[.int .i64 17, .agg #[.int .i64 a.k, .int .i64 a.n, .string (str a.s)], .agg #[.int .i64 b.k, .int .i64 b.n, .string (str b.s)]] w fun e w' => e = .returned (.tuple #[.agg #[.int .i64 ((doR 17 (normV a) (normV b)).1).k, .int .i64 ((doR 17 (normV a) (normV b)).1).n, .string (str ((doR 17 (normV a) (normV b)).1).s)], .int .i64 (doR 17 (normV a) (normV b)).2]) ∧ Below w.heap.size w w' := by
  have hA := norm_i64 ha
  have hB := norm_i64 hb
  have hra := norm_rng ha.1
  have hrb := norm_rng hb.1
  have HT := Lib.hid (tri_new w a b)
  have ht1 := fun w => takesOne_any 17 w
  have ht2 := fun w => calculates_any 17 w
  simp only [show oneOf 17 = false from rfl, show decide (4 ≤ (17 : Int) ∧ (17 : Int) ≤ 9) = false from rfl] at ht1 ht2
  have HT1 := Lib.hid ht1
  have HT2 := Lib.hid ht2
  have ht3 := fun w => compares_any 17 w
  simp only [show decide (10 ≤ (17 : Int) ∧ (17 : Int) ≤ 15) = false from rfl] at ht3
  have HT3 := Lib.hid ht3
  clear ht3
  clear ht1 ht2 ha hb hA hB
  rw [show doR 17 (normV a) (normV b) = decV false (normV a) (normV b) from rfl]
  generalize hR : decV false (normV a) (normV b) = R at *
  have HR := Lib.hid hR
  clear hR
  go_enter Try.func13, Try.ntmps13
  go_wp2_with fail
  refine do_reg1 _ _ _ w _ HT.out ?_
  intro u hT
  clear HT
  obtain ⟨p0, p1, p2⟩ := bx_cells hT.1.1; obtain ⟨q0, q1, q2⟩ := bx_cells hT.1.2.1; obtain ⟨g0, g1, g2⟩ := bx_free hT.1.2.1; have hT0 := hT; obtain ⟨_, zk, zn, zs, hz⟩ := hT; obtain ⟨z0, z1, z2⟩ := bx_cells hz; obtain ⟨f0, f1, f2⟩ := bx_free hz
  have hS0 := hT0
  clear hz hT0
  have HS0 := Lib.hid hS0
  clear hS0
  go_wp2_with (first
    | (go_at_call 31; refine (HT1.out _).mono ?_; rintro e w' ⟨rfl, rfl⟩)
    | (go_at_call 32; refine (HT2.out _).mono ?_; rintro e w' ⟨rfl, rfl⟩)
    | (go_at_call 35; refine (HT3.out _).mono ?_; rintro e w' ⟨rfl, rfl⟩)
    | (go_at_call 38; refine (decisions_any _).mono ?_; rintro e w1 ⟨M, c1, c2, c3, c4, rfl, hD⟩; have hT1 := HS0.out.below hD.2.1; have hl := run_lookF Try.underlying62 w1 M 17 _ hD.1 (3, CF 86 c3) rfl true; obtain ⟨p0, p1, p2⟩ := bx_cells hT1.1.1; obtain ⟨q0, q1, q2⟩ := bx_cells hT1.1.2.1; have HT4 := Lib.hid hT1; have HDD := Lib.hid hD; clear hT1 hD)
    | (go_at_call 86; refine (HR.out ▸ decided_false (normV a) (normV b) c3 _ hra hrb (HDD.out.2.2.2 (c3, .cells #[.bool false] 4) (by simp)).2).mono ?_; rintro e w2 ⟨rfl, hb⟩; have hT2 := HT4.out.below hb; obtain ⟨_, zk, zn, zs, hz⟩ := hT2; obtain ⟨z0, z1, z2⟩ := bx_cells hz; obtain ⟨f0, f1, f2⟩ := bx_free hz; have HB2 := Lib.hid (HT4.out.below hb).1.2.2; clear hb hz))
  refine bodyPost_ret (v := .tuple #[.agg #[.int .i64 R.1.k, .int .i64 R.1.n, .string (str R.1.s)], .int .i64 R.2]) (by simp [results, Try.results13, go_sem, z0, z1, z2]) rfl ⟨rfl, set3_below R.1 HB2.out (by omega)⟩
end Go.Proofs.Ytbhilmgpmebaiaa
namespace Go.Proofs.Ytbhilmgpmebaiaa
open Go.RowKit
attribute [local go_sem ↓] eql32_eq neq32_eq
end Go.Proofs.Ytbhilmgpmebaiaa
namespace Go.Proofs.Ytbhilmgpmebaiaa
open Go.RowKit
def someV (l : List Val) : List Val := (l.map normV).filter fun v => decide (v ≠ nulV)
theorem someV_take {l : List Val} {k : Nat} {x : Val} (h : l[k]? = some x) : someV (l.take (k + 1)) = someV (l.take k) ++ (if normV x = nulV then [] else [normV x]) := by
  rw [take_succ_vs l k x h]
  simp only [someV, List.map_append, List.filter_append, List.map_cons, List.map_nil]
  by_cases hn : normV x = nulV <;> simp [hn]
theorem someV_len (l : List Val) : (someV l).length ≤ l.length := by
  unfold someV; exact Nat.le_trans (List.length_filter_le _ _) (by simp)
theorem someV_ok {l : List Val} (h : ∀ x ∈ l, x.OK) : ∀ x ∈ someV l, Nrm x := by
  intro x hx
  obtain ⟨h1, _⟩ := List.mem_filter.1 hx
  obtain ⟨y, hy, rfl⟩ := List.mem_map.1 h1
  exact nrm_norm (h y hy)
set_option maxRecDepth 100000 in
set_option maxHeartbeats 6400000 in
theorem notNull_any (v : Value) (l : List Val) (w : World) (hv : Rw w v l) (ho : ∀ x ∈ l, x.OK) (hl : l.length ≤ 1073741824) :
    Calls Try.prog 78 #[v] w fun e w' => ∃ v', e = .returned v' ∧ OwnR w' w.heap.size v' (someV l) ∧ Below w.heap.size w w' := by
  obtain ⟨i0, hi, hz0, hz1, hz2⟩ := info_parts info32
  have hz := zero32
  obtain ⟨a, cap, rfl, hcap, hcells⟩ := hv
  have HC := Lib.hid hcells
  have HOK := Lib.hid ho
  clear hcells ho
  generalize hn : l.length = n at *
  have HN := Lib.hid hn
  clear hn
  go_enter Try.func78, Try.ntmps78
  go_wp2_with fail
  go_loopw [3, 8] (fun v3 i wr => ∃ (k : Nat) (vs : List Val), k ≤ n ∧ i = .int .i64 k ∧ OwnR wr w.heap.size v3 vs ∧ Below w.heap.size w wr ∧ Hid (vs = someV (l.take k)) ∧ vs.length ≤ k) (fun _ i _ => n - (intOf i).toNat)
  case atStart => exact ⟨0, [], Nat.zero_le _, rfl, OwnR.nil _ _, Below.refl _ _, Lib.hid rfl, by simp⟩
  case round =>
    obtain ⟨k, vs, hk, rfl, hown, hbw, hti, hvk⟩ := hrel
    have hsz := hbw.size
    have HOW := Lib.hid hown
    have HBW := Lib.hid hbw
    clear hbw hown
    by_cases hlt : k < n
    · obtain ⟨b, off, rfl, hb, hce⟩ := HC.out (by omega)
      obtain ⟨x, hx⟩ : ∃ x, l[k]? = some x := ⟨_, List.getElem?_eq_getElem (by rw [HN.out]; exact hlt)⟩
      obtain ⟨p0, p1, p2⟩ := hce k x hx
      replace p0 := (HBW.out.cell (p := ⟨b, off + k * 3, none⟩) hb).trans p0
      replace p1 := (HBW.out.cell (p := ⟨b, off + k * 3 + 1, none⟩) hb).trans p1
      replace p2 := (HBW.out.cell (p := ⟨b, off + k * 3 + 2, none⟩) hb).trans p2
      have HTI := Lib.hid (someV_take hx)
      have HNUL := fun w => isNull_any (normV x) w (norm_rng (HOK.out x (List.mem_of_getElem? hx)).1)
      have hbr : b < wr.heap.size := by omega
      have hcn : (n : Int) ≤ (cap : Int) := by omega
      clear hce hx
      by_cases hxn : normV x = nulV
      · rw [if_pos hxn, List.append_nil] at HTI
        simp only [decide_eq_true hxn] at HNUL
        replace HNUL := Lib.hid HNUL
        clear hxn
        go_wp2_with (first
          | (go_at_call 30; refine (plain_any x _).mono ?_; rintro e w1 ⟨rfl, hb1⟩; have hx1 := (hb1.block wr.heap.size (by simp)).trans (heap_alloc_new _ _); obtain ⟨c0, c1, c2⟩ := bx_cells hx1; obtain ⟨f0, f1, f2⟩ := bx_free hx1; have hl1 := bx_lt hx1; have HW1 := Lib.hid (set3_below (H := wr.heap.size) (normV x) (bl_tr (bl_al (Below.refl wr.heap.size wr) _) hb1) (Nat.le_refl _)); have HO1 := Lib.hid (own_below HOW.out HW1.out (Nat.le_refl _)); clear hb1 hx1)
          | (go_at_call 65; refine (HNUL.out _).mono ?_; rintro e w' ⟨rfl, rfl⟩))
        go_roundw
        case rel =>
          refine ⟨k + 1, vs, by omega, by go_num, ?_, ?_, Lib.hid (hti.out.trans HTI.out.symm), by omega⟩
          · exact HO1.out.alloc _
          · exact (HBW.out.trans (HW1.out.mono hsz)).alloc (by have := HW1.out.size; omega) _
        case measure => simp [intOf]; omega
      · rw [if_neg hxn] at HTI
        simp only [decide_eq_false hxn] at HNUL
        replace HNUL := Lib.hid HNUL
        clear hxn
        go_wp2_with (first
          | (go_at_call 30; refine (plain_any x _).mono ?_; rintro e w1 ⟨rfl, hb1⟩; have hx1 := (hb1.block wr.heap.size (by simp)).trans (heap_alloc_new _ _); obtain ⟨c0, c1, c2⟩ := bx_cells hx1; obtain ⟨f0, f1, f2⟩ := bx_free hx1; have hl1 := bx_lt hx1; have HW1 := Lib.hid (set3_below (H := wr.heap.size) (normV x) (bl_tr (bl_al (Below.refl wr.heap.size wr) _) hb1) (Nat.le_refl _)); have HO1 := Lib.hid (own_below HOW.out HW1.out (Nat.le_refl _)); clear hb1 hx1)
          | (go_at_call 65; refine (HNUL.out _).mono ?_; rintro e w' ⟨rfl, rfl⟩)
          | (at_builtin; refine wpList_append_own _ rfl (Operand.tmp 17) (Operand.tmp 19) 29 rfl w.heap.size 23 i0 _ 3 32 Try.underlying29 hi hz0 hz1 hz2 rfl (by decide) _ _ _ rfl ((HO1.out.alloc _).alloc _) ⟨w1.heap.size + 1, 0, none⟩ 1 1 (vcells (normV x)) rfl rfl (cells_three_new _ _ _ _ _ (by simp)) (by intro u hu; simp [vcells] at hu; rcases hu with rfl | rfl | rfl <;> rfl) (by unfold maxLen; omega) (by omega) (by simp; omega) ?_; intro v2 w2 hown2 hg2 _; have HO2 := Lib.hid hown2; have HG2 := Lib.hid hg2; clear hown2 hg2))
        go_roundw
        case rel =>
          refine ⟨k + 1, vs ++ [normV x], by omega, by go_num, ?_, ?_, Lib.hid (by rw [hti.out]; exact HTI.out.symm), by simp; omega⟩
          · have := HO2.out
            unfold OwnR
            rw [List.length_append, List.flatMap_append, List.flatMap_singleton]
            exact this
          · have hs1 := HW1.out.size
            exact (((HBW.out.trans (HW1.out.mono hsz)).alloc (by omega) _).alloc (by simp; omega) _).grown HG2.out (by simp; omega) (fun g hg => (HO1.out.lt g hg).1)
        case measure => simp [intOf]; omega
    · have hkn : k = n := by omega
      subst hkn
      have HF := Lib.hid (hti.out.trans (by rw [List.take_of_length_le (by rw [HN.out]; exact Nat.le_refl _)]))
      clear hti hlt
      go_wp2_with fail
      go_ret
      exact ⟨_, rfl, HF.out ▸ HOW.out, HBW.out⟩
end Go.Proofs.Ytbhilmgpmebaiaa
namespace Go.Proofs.Ytbhilmgpmebaiaa
open Go.RowKit
theorem wrapU (n : Int) : IntKind.u64.wrap n = n % 18446744073709551616 := by simp [IntKind.wrap, IntKind.signed, IntKind.bits]
def hiW (T : Int) : Int := T / 18446744073709551616
def loW (T : Int) : Int := T % 18446744073709551616
def Wd (T : Int) : Prop := -1099511627776 ≤ hiW T ∧ hiW T ≤ 1099511627776
theorem plus_any (T n : Int) (w : World) (hT : Wd T) (hn : I64 n) : Calls Try.prog 87 #[.agg #[.int .i64 (hiW T), .int .u64 (loW T)], .int .i64 n] w fun e w' => e = .returned (.agg #[.int .i64 (hiW (T + n)), .int .u64 (loW (T + n))]) ∧ Below w.heap.size w w' := by
  have hadd : ∀ (x y : Int) (u : World), 0 ≤ x → 0 ≤ y → (callFunc 94 #[.int .u64 x, .int .u64 y, .int .u64 0]).run Try.prog u = .ok (.value (.tuple #[.int .u64 ((x + y + 0) % 18446744073709551616), .int .u64 ((x + y + 0) / 18446744073709551616)])) u := by
    intro x y u hx hy
    rw [run_callFunc_extern Try.func94 (by kernel_rfl) (by kernel_rfl) (by kernel_rfl) (e := add64Entry) (by kernel_rfl), run_add64 x y 0 hx hy (by decide) (by decide)]
    rfl
  obtain ⟨h, hh⟩ : ∃ h, hiW T = h := ⟨_, rfl⟩
  obtain ⟨l, hl⟩ : ∃ l, loW T = l := ⟨_, rfl⟩
  have hlr : 0 ≤ l ∧ l < 18446744073709551616 := by rw [← hl]; unfold loW; omega
  have e1 : wrap64 (wrap64 (h + n / 9223372036854775808) + wrap64 ((l + IntKind.u64.wrap n) / 18446744073709551616)) = hiW (T + n) := by
    unfold Wd at hT; rw [hh] at hT
    unfold I64 at hn; rw [wrapU]
    rw [w64_in (n := h + n / 9223372036854775808) (by unfold I64; omega), w64_in (n := (l + n % 18446744073709551616) / 18446744073709551616) (by unfold I64; omega), w64_in (by unfold I64; omega)]
    unfold hiW loW at *
    omega
  have e2 : (l + IntKind.u64.wrap n) % 18446744073709551616 = loW (T + n) := by
    rw [wrapU]; unfold hiW loW at *; omega
  rw [← e1, ← e2, hh, hl]
  clear e1 e2 hh hl hT hn
  go_enter Try.func87, Try.ntmps87
  go_wp2_with fail
  refine bodyPost_ret (v := .agg #[.int .i64 (wrap64 (wrap64 (h + n / 9223372036854775808) + wrap64 ((l + IntKind.u64.wrap n) / 18446744073709551616))), .int .u64 ((l + IntKind.u64.wrap n) % 18446744073709551616)]) (by simp [results, Try.results87, go_sem]) rfl ⟨rfl, bl_al (bl_al (Below.refl _ _) _) _⟩
theorem narrow_any (T : Int) (w : World) (hT : Wd T) : Calls Try.prog 88 #[.agg #[.int .i64 (hiW T), .int .u64 (loW T)]] w fun e w' => e = .returned (.tuple #[.int .i64 (fit T).1, .int .i64 (fit T).2]) ∧ Below w.heap.size w w' := by
  obtain ⟨h, hh⟩ : ∃ h, hiW T = h := ⟨_, rfl⟩
  obtain ⟨l, hl⟩ : ∃ l, loW T = l := ⟨_, rfl⟩
  obtain ⟨m, hm⟩ : ∃ m, wrap64 l = m := ⟨_, rfl⟩
  have hlr : 0 ≤ l ∧ l < 18446744073709551616 := by rw [← hl]; unfold loW; omega
  rw [hh, hl]
  by_cases hf : I64 T
  · have e1 : h = m / 9223372036854775808 := by unfold I64 at hf; unfold hiW loW at *; unfold wrap64 at hm; omega
    have e2 : m = T := by unfold I64 at hf; unfold hiW loW at *; unfold wrap64 at hm; omega
    rw [fit_in hf]
    have g : (h != m / 9223372036854775808) = false := by simp [e1]
    rw [← e2]
    clear e1 e2 hh hl hT hf hlr
    go_enter Try.func88, Try.ntmps88
    go_wp2_with fail
    refine bodyPost_ret (v := .tuple #[.int .i64 m, .int .i64 0]) (by simp [results, Try.results88, go_sem, hm]) rfl ⟨rfl, bl_al (Below.refl _ _) _⟩
  · have e1 : h ≠ m / 9223372036854775808 := by unfold I64 at hf; unfold hiW loW at *; unfold wrap64 at hm; omega
    rw [fit_out hf]
    have g : (h != m / 9223372036854775808) = true := bne_iff_ne.2 e1
    clear e1 hh hl hT hf hlr
    go_enter Try.func88, Try.ntmps88
    go_wp2_with fail
    refine bodyPost_ret (v := .tuple #[.int .i64 0, .int .i64 30]) (by simp [results, Try.results88, go_sem]) rfl ⟨rfl, bl_al (Below.refl _ _) _⟩
def cnS (q : Int × Int) : Val × Int := if q.2 ≠ 0 then (nulV, q.2) else (numV q.1, 0)
def sumN (s : List Val) : Int := (s.map (·.n)).sum
def sumR (s : List Val) : Val × Int := if s = [] then (nulV, 0) else if s.all (fun v => decide (v.k = 1)) = true then cnS (fit (sumN s)) else (nulV, 22)
theorem sumN_take {s : List Val} {k : Nat} {x : Val} (h : s[k]? = some x) : sumN (s.take (k + 1)) = sumN (s.take k) + x.n := by
  rw [take_succ_vs s k x h]; simp [sumN]
theorem all_take {s : List Val} {k : Nat} {x : Val} (h : s[k]? = some x) (hx : x.k = 1) (ha : (s.take k).all (fun v => decide (v.k = 1)) = true) : (s.take (k + 1)).all (fun v => decide (v.k = 1)) = true := by
  rw [take_succ_vs s k x h, List.all_append, ha]; simp [hx]
theorem all_not {s : List Val} {k : Nat} {x : Val} (h : s[k]? = some x) (hx : x.k ≠ 1) : s.all (fun v => decide (v.k = 1)) = false := by
  apply List.all_eq_false.2
  exact ⟨x, List.mem_of_getElem? h, by simp [hx]⟩
theorem sumN_bound : ∀ (s : List Val), (∀ x ∈ s, x.OK) → -(9223372036854775808 * (s.length : Int)) ≤ sumN s ∧ sumN s ≤ 9223372036854775808 * (s.length : Int)
  | [], _ => by simp [sumN]
  | x :: s, h => by
    have h1 := sumN_bound s (fun y hy => h y (by simp [hy]))
    have h2 := (h x (by simp)).2.2.2
    simp only [sumN, List.map_cons, List.sum_cons, List.length_cons] at h1 ⊢
    omega

theorem set2w {u : World} {H : Nat} {h l h' l' : Int} {T : TypeId} (hc : u.heap[H]? = some (.cells #[.int .i64 h, .int .u64 l] T (0, 0))) :
    ((u.setCell ⟨H, 0, none⟩ (.int .i64 h')).setCell ⟨H, 1, none⟩ (.int .u64 l')).heap[H]? = some (.cells #[.int .i64 h', .int .u64 l'] T (0, 0)) := by
  have h1 := heap_setCell_same u H 0 _ _ (.int .i64 h') hc
  have h2 := heap_setCell_same _ H 1 _ _ (.int .u64 l') h1
  exact h2
theorem w_cells {u : World} {H : Nat} {h l : Int} {T : TypeId} (hc : u.heap[H]? = some (.cells #[.int .i64 h, .int .u64 l] T (0, 0))) :
    u.cell? ⟨H, 0, none⟩ = some (.int .i64 h) ∧ u.cell? ⟨H, 1, none⟩ = some (.int .u64 l) ∧ u.frozen? ⟨H, 0, none⟩ = false ∧ u.frozen? ⟨H, 1, none⟩ = false :=
  ⟨cell_of_row _ _ 0 _ _ _ hc, cell_of_row _ _ 1 _ _ _ hc, frozen_of_row _ _ 0 _ _ hc, frozen_of_row _ _ 1 _ _ hc⟩
set_option maxRecDepth 100000 in
set_option maxHeartbeats 6400000 in
theorem sum_any (v : Value) (l : List Val) (w : World) (hv : Rw w v l) (ho : ∀ x ∈ l, x.OK) (hl : l.length ≤ 1073741824) :
    Calls Try.prog 79 #[v] w fun e w' => e = .returned (.tuple #[.agg #[.int .i64 ((sumR (someV l)).1).k, .int .i64 ((sumR (someV l)).1).n, .string (str ((sumR (someV l)).1).s)], .int .i64 (sumR (someV l)).2]) ∧ Below w.heap.size w w' := by
  have hok := someV_ok ho
  have hsl := Nat.le_trans (someV_len l) hl
  have HNN := Lib.hid (notNull_any v l (w.alloc (BX 0 0 ⟨#[]⟩)) (hv.below (bl_al (Below.refl _ _) _)) ho hl)
  generalize someV l = s at *
  have HOK := Lib.hid hok
  have HZ0 := heap_alloc_new w (BX 0 0 ⟨#[]⟩)
  have HZ0 := Lib.hid HZ0
  clear hv ho hl hok
  by_cases hs : s = []
  · subst hs
    rw [show sumR [] = (nulV, 0) from rfl]
    go_enter Try.func79, Try.ntmps79
    go_wp2_with (go_at_call 78; refine HNN.out.mono ?_; rintro e w1 ⟨v1, rfl, hown, hb1⟩; have hz := (hb1.block w.heap.size (by simp)).trans HZ0.out; obtain ⟨z0, z1, z2⟩ := bx_cells hz; obtain ⟨f0, f1, f2⟩ := bx_free hz; have hlz := bx_lt hz; have HB1 := Lib.hid (bl_tr (bl_al (Below.refl w.heap.size w) (BX 0 0 ⟨#[]⟩)) hb1); obtain ⟨a1, c1, rfl, hc1, hcell1⟩ := hown.rw; have HCE := Lib.hid hcell1; have HZ1 := Lib.hid hz; clear hown hb1 hcell1 hz; try simp only [List.length_nil] at *)
    refine bodyPost_ret (v := .tuple #[.agg #[.int .i64 0, .int .i64 0, .string ⟨#[]⟩], .int .i64 0]) (by simp [results, Try.results79, go_sem, z0, z1, z2]) rfl ⟨rfl, set3_below nulV HB1.out (Nat.le_refl _)⟩
  · have hs0 : 0 < s.length := List.length_pos_iff.2 hs
    have hs1 : ¬ ((s.length : Int) = 0) := by omega
    have g1 : ((s.length : Int) == 0) = false := beq_false_of_ne hs1
    have HRS := Lib.hid (show sumR s = if s.all (fun v => decide (v.k = 1)) = true then cnS (fit (sumN s)) else (nulV, 22) by rw [sumR, if_neg hs])
    go_enter Try.func79, Try.ntmps79
    go_wp2_with (go_at_call 78; refine HNN.out.mono ?_; rintro e w1 ⟨v1, rfl, hown, hb1⟩; have hz := (hb1.block w.heap.size (by simp)).trans HZ0.out; obtain ⟨z0, z1, z2⟩ := bx_cells hz; obtain ⟨f0, f1, f2⟩ := bx_free hz; have hlz := bx_lt hz; have HB1 := Lib.hid (bl_tr (bl_al (Below.refl w.heap.size w) (BX 0 0 ⟨#[]⟩)) hb1); obtain ⟨a1, c1, rfl, hc1, hcell1⟩ := hown.rw; have HCE := Lib.hid hcell1; have HZ1 := Lib.hid hz; clear hown hb1 hcell1 hz; try simp only [List.length_nil] at *)
    go_loopw [18] (fun i wr => ∃ k : Nat, k ≤ s.length ∧ i = .int .i64 (k : Int) ∧ Below w1.heap.size w1 wr ∧ wr.heap[w1.heap.size]? = some (.cells #[.int .i64 (hiW (sumN (s.take k))), .int .u64 (loW (sumN (s.take k)))] 86 (0, 0)) ∧ Hid ((s.take k).all (fun v => decide (v.k = 1)) = true)) (fun i _ => s.length - (intOf i).toNat)
    case atStart => exact ⟨0, Nat.zero_le _, rfl, bl_al (Below.refl _ _) _, heap_alloc_new _ _, Lib.hid rfl⟩
    case round =>
      obtain ⟨k, hk, rfl, hbw, htb, hal⟩ := hrel
      have hsz := hbw.size
      have hzr := (hbw.block w.heap.size hlz).trans HZ1.out
      clear z0 z1 z2 f0 f1 f2
      obtain ⟨z0, z1, z2⟩ := bx_cells hzr
      obtain ⟨f0, f1, f2⟩ := bx_free hzr
      have hlr : w.heap.size < wr.heap.size := by omega
      have hlt1 := bx_lt htb
      have HBW := Lib.hid hbw
      have HBW2 := Lib.hid (HB1.out.trans (hbw.mono (by omega)))
      have HTB := Lib.hid htb
      have HZR := Lib.hid hzr
      clear hbw htb hzr
      by_cases hlt : k < s.length
      · obtain ⟨b, off, rfl, hb, hce⟩ := HCE.out hs0
        obtain ⟨x, hx⟩ : ∃ x, s[k]? = some x := ⟨_, List.getElem?_eq_getElem hlt⟩
        have HX := Lib.hid hx
        obtain ⟨p0, p1, p2⟩ := hce k x hx
        replace p0 := (HBW.out.cell (p := ⟨b, off + k * 3, none⟩) hb).trans p0
        replace p1 := (HBW.out.cell (p := ⟨b, off + k * 3 + 1, none⟩) hb).trans p1
        replace p2 := (HBW.out.cell (p := ⟨b, off + k * 3 + 2, none⟩) hb).trans p2
        have hbr : b < wr.heap.size := by omega
        have hk2 : (k : Int) < (s.length : Int) := by omega
        have hcn : (s.length : Int) ≤ (c1 : Int) := by omega
        clear hce hx
        by_cases hx1 : x.k = 1
        · have g2 : (x.k != 1) = false := by simp [hx1]
          have HN := Lib.hid (sumN_take HX.out)
          have HAL := Lib.hid (all_take HX.out hx1 hal.out)
          have hWd : Wd (sumN (s.take k)) := by
            have h1 := sumN_bound (s.take k) (fun y hy => (HOK.out y (List.mem_of_mem_take hy)).1)
            have h2 : (s.take k).length ≤ 1073741824 := by rw [List.length_take]; omega
            unfold Wd hiW; omega
          have HPL := Lib.hid (fun u => plus_any (sumN (s.take k)) x.n u hWd (HOK.out x (List.mem_of_getElem? HX.out)).1.2.2.2)
          obtain ⟨t0, t1, t2, t3⟩ := w_cells HTB.out
          generalize sumN (s.take k) = T at *
          clear hx1 hWd
          go_wp2_with (go_at_call 87; refine (HPL.out _).mono ?_; rintro e w2 ⟨rfl, hb2⟩; have ht2 := (hb2.block w1.heap.size (by simp <;> omega)).trans (hp_al HTB.out _); obtain ⟨y0, y1, y2, y3⟩ := w_cells ht2; have HT2 := Lib.hid ht2; have HB2 := Lib.hid (HBW.out.trans ((bl_tr (bl_al (Below.refl wr.heap.size wr) (BX x.k x.n (str x.s))) hb2).mono hsz)); clear ht2 hb2)
          go_roundw
          case rel =>
            refine ⟨k + 1, by omega, by go_num, ?_, ?_, HAL⟩
            · exact (HB2.out.setCell (Nat.le_refl _) _).setCell (Nat.le_refl _) _
            · rw [HN.out]; exact set2w HT2.out
          case measure => simp [intOf]; omega
        · have g2 : (x.k != 1) = true := bne_iff_ne.2 hx1
          have HE := Lib.hid (show sumR s = (nulV, 22) by rw [HRS.out, all_not HX.out hx1, if_neg (by decide)])
          clear hx1
          go_wp2_with fail
          refine bodyPost_ret (v := .tuple #[.agg #[.int .i64 0, .int .i64 0, .string ⟨#[]⟩], .int .i64 22]) (by simp [results, Try.results79, go_sem, z0, z1, z2, hlr]) rfl ⟨by rw [HE.out]; rfl, ?_⟩
          (repeat (first | with_reducible exact HBW2.out | with_reducible refine Below.setCell ?_ (by first | omega | (simp; done) | (simp; omega)) _ | with_reducible refine Below.alloc ?_ (by first | omega | (simp; done) | (simp; omega)) _))
      · have hkn : k = s.length := by omega
        subst hkn
        have hall := hal.out
        rw [List.take_length] at hall
        have HTB2 := HTB.out
        rw [List.take_length] at HTB2
        have HE := Lib.hid (show sumR s = cnS (fit (sumN s)) by rw [HRS.out, hall, if_pos rfl])
        obtain ⟨t0, t1, t2, t3⟩ := w_cells HTB2
        have hWd : Wd (sumN s) := by
          have h1 := sumN_bound s (fun y hy => (HOK.out y hy).1)
          unfold Wd hiW; omega
        have HNA := Lib.hid (fun u => narrow_any (sumN s) u hWd)
        generalize fit (sumN s) = q at *
        obtain ⟨q1, q2⟩ := q
        generalize sumN s = T at *
        clear hall hal hWd HTB2 hlt
        by_cases h2 : q2 = 0
        · subst h2
          have HE2 := Lib.hid (HE.out.trans (show cnS (q1, 0) = (numV q1, 0) by simp [cnS]))
          go_wp2_with (first
            | (go_at_call 88; refine (HNA.out _).mono ?_; rintro e w3 ⟨rfl, hb3⟩; have hz3 := (hb3.block w.heap.size hlr).trans HZR.out; obtain ⟨y0, y1, y2⟩ := bx_cells hz3; obtain ⟨x0, x1, x2⟩ := bx_free hz3; have hl3 := bx_lt hz3; have HB3 := Lib.hid (HBW2.out.trans (hb3.mono (by omega))); clear hz3 hb3)
            | (go_at_call 57; refine (integer_any _ _).mono ?_; rintro e w' ⟨rfl, rfl⟩))
          refine bodyPost_ret (v := .tuple #[.agg #[.int .i64 1, .int .i64 q1, .string ⟨#[]⟩], .int .i64 0]) (by simp [results, Try.results79, go_sem, y0, y1, y2, hl3]) rfl ⟨by rw [HE2.out]; rfl, ?_⟩
          (repeat (first | with_reducible exact HB3.out | with_reducible refine Below.setCell ?_ (by first | omega | (simp; done) | (simp; omega)) _ | with_reducible refine Below.alloc ?_ (by first | omega | (simp; done) | (simp; omega)) _))
        · have HE2 := Lib.hid (HE.out.trans (show cnS (q1, q2) = (nulV, q2) by simp [cnS, h2]))
          have g3 : (q2 != 0) = true := bne_iff_ne.2 h2
          clear h2
          go_wp2_with (go_at_call 88; refine (HNA.out _).mono ?_; rintro e w3 ⟨rfl, hb3⟩; have hz3 := (hb3.block w.heap.size hlr).trans HZR.out; obtain ⟨y0, y1, y2⟩ := bx_cells hz3; obtain ⟨x0, x1, x2⟩ := bx_free hz3; have hl3 := bx_lt hz3; have HB3 := Lib.hid (HBW2.out.trans (hb3.mono (by omega))); clear hz3 hb3)
          refine bodyPost_ret (v := .tuple #[.agg #[.int .i64 0, .int .i64 0, .string ⟨#[]⟩], .int .i64 q2]) (by simp [results, Try.results79, go_sem, y0, y1, y2, hl3]) rfl ⟨by rw [HE2.out]; rfl, ?_⟩
          (repeat (first | with_reducible exact HB3.out | with_reducible refine Below.setCell ?_ (by first | omega | (simp; done) | (simp; omega)) _ | with_reducible refine Below.alloc ?_ (by first | omega | (simp; done) | (simp; omega)) _))
end Go.Proofs.Ytbhilmgpmebaiaa
namespace Go.Proofs.Ytbhilmgpmebaiaa
open Go.RowKit
set_option maxRecDepth 100000 in
set_option maxHeartbeats 3200000 in
theorem fold_23 (v : Value) (l : List Val) (w : World) (hv : Rw w v l) (ho : ∀ x ∈ l, x.OK) (hl : l.length ≤ 1073741824) :
    Calls Try.prog 15 #[.int .i64 23, v] w fun e w' => e = .returned (.tuple #[.agg #[.int .i64 ((sumR (someV l)).1).k, .int .i64 ((sumR (someV l)).1).n, .string (str ((sumR (someV l)).1).s)], .int .i64 (sumR (someV l)).2]) ∧ Below w.heap.size w w' := by
  have HV := Lib.hid (fun u (hu : Below w.heap.size w u) => hv.below hu)
  generalize hR : sumR (someV l) = R at *
  have HR := Lib.hid hR
  clear hR hv
  have HL := Lib.hid hl
  clear hl
  go_enter Try.func15, Try.ntmps15
  go_wp2_with (first
    | (go_at_call 46; refine (aggregates_any _).mono ?_; rintro e w1 ⟨M, c1, c2, rfl, hD⟩; have hl := run_lookF Try.underlying68 w1 M 23 _ hD.1 (2, FF 79) rfl true; have hz := (hD.2.1.block w.heap.size (by simp)).trans (heap_alloc_new _ _); obtain ⟨z0, z1, z2⟩ := bx_cells hz; obtain ⟨f0, f1, f2⟩ := bx_free hz; have hlz := bx_lt hz; have HZ1 := Lib.hid hz; have HB1 := Lib.hid (bl_tr (bl_al (Below.refl w.heap.size w) (BX 0 0 ⟨#[]⟩)) hD.2.1); have HDD := Lib.hid hD; clear hz hD)
    | (go_at_call 79; refine (HR.out ▸ sum_any v l _ (HV.out _ HB1.out) ho HL.out).mono ?_; rintro e w2 ⟨rfl, hb2⟩; have hz2 := (hb2.block w.heap.size hlz).trans HZ1.out; obtain ⟨y0, y1, y2⟩ := bx_cells hz2; obtain ⟨x0, x1, x2⟩ := bx_free hz2; have hl2 := bx_lt hz2; have HB2 := Lib.hid (HB1.out.trans (hb2.mono (by omega))); clear hz2 hb2))
  refine bodyPost_ret (v := .tuple #[.agg #[.int .i64 R.1.k, .int .i64 R.1.n, .string (str R.1.s)], .int .i64 R.2]) (by simp [results, Try.results15, go_sem, y0, y1, y2]) rfl ⟨rfl, set3_below R.1 HB2.out (Nat.le_refl _)⟩
end Go.Proofs.Ytbhilmgpmebaiaa
/- strings.Clone at this program -/
namespace Go.Proofs
open Go.Shelf
def Try.clone_ren : Go.Shelf.Ren := ⟨fun | 316 => 95 | n => n, fun | 0 => 0 | 3 => 3 | 4 => 4 | 9 => 9 | 37 => 93 | 127 => 94 | 5 => 5 | n => n, fun | n => n⟩
theorem Try.clone_lays : LaysM.n316 Try.prog Try.clone_ren := {
  mixed := by kernel_rfl
  f316 := Try.func95.trans (congrArg some (by kernel_rfl))
  t0 := Try.underlying0
  a0 := fun w => by kernel_rfl
  z0 := fun w => by kernel_rfl
  v0 := fun w => by kernel_rfl
  t3 := Try.underlying3
  a3 := fun w => by kernel_rfl
  z3 := fun w => by kernel_rfl
  v3 := fun w => by kernel_rfl
  t4 := Try.underlying4
  a4 := fun w => by kernel_rfl
  z4 := fun w => by kernel_rfl
  v4 := fun w => by kernel_rfl
  t9 := Try.underlying9
  a9 := fun w => by kernel_rfl
  z9 := fun w => by kernel_rfl
  v9 := fun w => by kernel_rfl
  t37 := Try.underlying93
  a37 := fun w => by kernel_rfl
  z37 := fun w => by kernel_rfl
  v37 := fun w => by kernel_rfl
  t127 := Try.underlying94
  a127 := fun w => by kernel_rfl
  z127 := fun w => by kernel_rfl
  v127 := fun w => by kernel_rfl
  t5 := Try.underlying5
  a5 := fun w => by kernel_rfl
  z5 := fun w => by kernel_rfl
  v5 := fun w => by kernel_rfl
  i0 := by kernel_rfl
  i3 := by kernel_rfl
  i4 := by kernel_rfl
  i9 := by kernel_rfl
  i37 := by kernel_rfl
  i127 := by kernel_rfl
  i5 := by kernel_rfl }
end Go.Proofs
namespace Go.Proofs.Ytbhilmgpmebaiaa
open Go.RowKit
theorem clone_any (s : ByteArray) (w : World) (hl : s.size ≤ 281474976710656) : Calls Try.prog 90 #[.string s] w fun e w' => e = .returned (.string s) ∧ Below w.heap.size w w' := by
  have HC := Lib.hid (fun u => Any.stringslite_Clone Try.clone_lays s u hl)
  go_enter Try.func90, Try.ntmps90
  go_wp2_with (go_at_call 95; refine (HC.out _).mono ?_; rintro e w1 ⟨rfl, hb⟩; have HB := Lib.hid hb; clear hb)
  go_ret
  exact ⟨rfl, HB.out⟩
end Go.Proofs.Ytbhilmgpmebaiaa
