import Derived.Test.YtaibminomehppaaLog9
import Derived.WalkKit
import Derived.ProofKit
import Derived.BigQuiet
import Derived.Deep.QuietTactic
import Derived.WalkSpells
import Derived.WalkLawsBesides
import Derived.Lib.Hide
import Derived.Deep.MidRow
import Derived.Deep.RegionLaw
import Derived.BigRegion
import Derived.Laws.AppendOwnNone
import Derived.Deep.DeepMust
import Derived.Deep.AppendLies
import Derived.RegionTactic
import Derived.Deep.WholeRow
import Derived.BigFrame
import Derived.Deep.RegionWith
import Derived.Deep.RegionHeld3
import Derived.Maps.RangeWalk
import Derived.Laws.CopyOwn
import Derived.StillTailTactics

namespace Go.Proofs.Ytaibminomehppaa
open Go.RowKit
/-- the log's box -/
def LgIs (w : World) (P D : Nat) (fi sz : Int) (a b c : Nat) (av : Value) : Prop := w.heap[P]? = some (.cells #[Value.pointer (some ⟨D, 0, none⟩), .int .i64 fi, .int .i64 sz, .int .u64 (a : Int), .int .u64 (b : Int), .int .u64 (c : Int), av] 127 (0, 0))
theorem LgIs.lt {w : World} {P D : Nat} {fi sz : Int} {a b c : Nat} {av : Value} (h : LgIs w P D fi sz a b c av) : P < w.heap.size := (Array.getElem?_eq_some_iff.1 h).1
theorem LgIs.chg {w w' : World} {P D : Nat} {fi sz : Int} {a b c : Nat} {av : Value} {F : Nat → Prop} (h : LgIs w P D fi sz a b c av) (hc : Chg F w w') (hF : ¬ F P) : LgIs w' P D fi sz a b c av := (hc.block P h.lt hF).trans h
set_option maxRecDepth 100000 in
set_option maxHeartbeats 1000000 in
theorem free_any (P D : Nat) (fi sz : Int) (a b c : Nat) (sa : Option Addr) (n sc : Nat) (w : World) (h : LgIs w P D fi sz a b c (.slice sa n sc)) (h1 : 0 ≤ sz) (h2 : sz ≤ 4096) (hc : c ≤ 1099511627776) (hn : n ≤ 1099511627776) :
    Calls Try.prog 80 #[.pointer (some ⟨P, 0, none⟩)] w fun e w' => e = .returned (.int .i64 ((sz - 2) * 256 - c - n)) ∧ Below w.heap.size w w' := by
  have HP := Lib.hid h
  have hlt := h.lt
  have HLT := Lib.hid hlt
  obtain ⟨R, hR⟩ : ∃ R : Int, (sz - 2) * 256 = R := ⟨_, rfl⟩
  have hrm := fun u => lroom_any D fi sz u h1 h2
  rw [hR] at hrm ⊢
  have hRb : -512 ≤ R ∧ R ≤ 1048576 := by omega
  have hcb : (c : Int) ≤ 1099511627776 := by omega
  have hnb : (n : Int) ≤ 1099511627776 := by omega
  have HRM := Lib.hid hrm
  have HS0 := Lib.hid (show w.drew.heap[P]? = some (.cells #[Value.pointer (some ⟨D, 0, none⟩), .int .i64 fi, .int .i64 sz, .int .u64 (a : Int), .int .u64 (b : Int), .int .u64 (c : Int), .slice sa n sc] 127 (0, 0)) from h)
  clear h hlt hrm
  go_enter Try.func80, Try.ntmps80
  go_wp2_with fail
  have hw1 : IntKind.i64.wrap (c : Int) = (c : Int) := wrap_i64 _ (by omega) (by omega)
  have hw2 : IntKind.i64.wrap (R - (c : Int)) = R - (c : Int) := wrap_i64 _ (by omega) (by omega)
  have hw3 : IntKind.i64.wrap (R - (c : Int) - (n : Int)) = R - (c : Int) - (n : Int) := wrap_i64 _ (by omega) (by omega)
  refine wp_region_held_drew (S := fun u => u.heap[P]? = some (.cells #[Value.pointer (some ⟨D, 0, none⟩), .int .i64 fi, .int .i64 sz, .int .u64 (a : Int), .int .u64 (b : Int), .int .u64 (c : Int), .slice sa n sc] 127 (0, 0))) (by kernel_rfl) (HS0.out) (fun hHeld => ?_)
  refine wpAnyH_take (i := 0) (oi := ({ dst := some 3, op := Op.move (Operand.tmp 0), type := 29, pos := "log.go:104", after := #[], guard := none } : Oper)) (v := ?_) rfl (by kernel_rfl) (by kernel_rfl) (by kernel_rfl) (fun _ _ _ h => h) (Or.inl ⟨by rfl, ?_⟩) (by assumption) ?_
  rotate_left 1
  · (intro u hSw; go_simp; try with_reducible rfl)
  try simp only [Act.put, List.setIfInBounds_toArray, List.set_cons_zero, List.set_cons_succ]
  refine wpAnyH_take (i := 1) (oi := ({ dst := some 4, op := Op.nilCheck (Operand.tmp 3), type := 0, pos := "log.go:104", after := #[{ on := 0, ground := Ground.data }], guard := none } : Oper)) (v := ?_) rfl (by kernel_rfl) (by kernel_rfl) (by kernel_rfl) (fun _ _ _ h => h) (Or.inl ⟨by rfl, ?_⟩) (by assumption) ?_
  rotate_left 1
  · (intro u hSw; go_simp; try with_reducible rfl)
  try simp only [Act.put, List.setIfInBounds_toArray, List.set_cons_zero, List.set_cons_succ]
  refine wpAnyH_take (i := 2) (oi := ({ dst := some 5, op := Op.fieldAddr 127 (Operand.tmp 4) 0, type := 0, pos := "log.go:104", after := #[{ on := 1, ground := Ground.data }], guard := none } : Oper)) (v := ?_) rfl (by kernel_rfl) (by kernel_rfl) (by kernel_rfl) (fun _ _ _ h => h) (Or.inl ⟨by rfl, ?_⟩) (by assumption) ?_
  rotate_left 1
  · (intro u hSw; go_simp; try with_reducible rfl)
  try simp only [Act.put, List.setIfInBounds_toArray, List.set_cons_zero, List.set_cons_succ]
  refine wpAnyH_take (i := 3) (oi := ({ dst := some 6, op := Op.load 79 (Operand.tmp 5), type := 79, pos := "log.go:104", after := #[{ on := 2, ground := Ground.data }], guard := none } : Oper)) (v := ?_) rfl (by kernel_rfl) (by kernel_rfl) (by kernel_rfl) (fun _ _ _ h => h) (Or.inl ⟨by rfl, ?_⟩) (by assumption) ?_
  rotate_left 1
  · intro u hSw
    have p0 := (cell_of_row u (P) 0 _ _ _ hSw).trans (show (#[Value.pointer (some ⟨D, 0, none⟩), .int .i64 fi, .int .i64 sz, .int .u64 (a : Int), .int .u64 (b : Int), .int .u64 (c : Int), (.slice sa n sc)] : Array Value)[0]? = some (.pointer (some ⟨D, 0, none⟩)) from rfl); have p1 := (cell_of_row u (P) 1 _ _ _ hSw).trans (show (#[Value.pointer (some ⟨D, 0, none⟩), .int .i64 fi, .int .i64 sz, .int .u64 (a : Int), .int .u64 (b : Int), .int .u64 (c : Int), (.slice sa n sc)] : Array Value)[1]? = some (.int .i64 fi) from rfl); have p2 := (cell_of_row u (P) 2 _ _ _ hSw).trans (show (#[Value.pointer (some ⟨D, 0, none⟩), .int .i64 fi, .int .i64 sz, .int .u64 (a : Int), .int .u64 (b : Int), .int .u64 (c : Int), (.slice sa n sc)] : Array Value)[2]? = some (.int .i64 sz) from rfl); have p3 := (cell_of_row u (P) 3 _ _ _ hSw).trans (show (#[Value.pointer (some ⟨D, 0, none⟩), .int .i64 fi, .int .i64 sz, .int .u64 (a : Int), .int .u64 (b : Int), .int .u64 (c : Int), (.slice sa n sc)] : Array Value)[3]? = some (.int .u64 (a : Int)) from rfl); have p4 := (cell_of_row u (P) 4 _ _ _ hSw).trans (show (#[Value.pointer (some ⟨D, 0, none⟩), .int .i64 fi, .int .i64 sz, .int .u64 (a : Int), .int .u64 (b : Int), .int .u64 (c : Int), (.slice sa n sc)] : Array Value)[4]? = some (.int .u64 (b : Int)) from rfl); have p5 := (cell_of_row u (P) 5 _ _ _ hSw).trans (show (#[Value.pointer (some ⟨D, 0, none⟩), .int .i64 fi, .int .i64 sz, .int .u64 (a : Int), .int .u64 (b : Int), .int .u64 (c : Int), (.slice sa n sc)] : Array Value)[5]? = some (.int .u64 (c : Int)) from rfl); have p6 := (cell_of_row u (P) 6 _ _ _ hSw).trans (show (#[Value.pointer (some ⟨D, 0, none⟩), .int .i64 fi, .int .i64 sz, .int .u64 (a : Int), .int .u64 (b : Int), .int .u64 (c : Int), (.slice sa n sc)] : Array Value)[6]? = some (.slice sa n sc) from rfl)
    go_simp
    try with_reducible rfl
  try simp only [Act.put, List.setIfInBounds_toArray, List.set_cons_zero, List.set_cons_succ]
  refine wpAnyH_take (i := 5) (oi := ({ dst := some 8, op := Op.move (Operand.tmp 0), type := 29, pos := "log.go:104", after := #[], guard := none } : Oper)) (v := ?_) rfl (by kernel_rfl) (by kernel_rfl) (by kernel_rfl) (fun _ _ _ h => h) (Or.inl ⟨by rfl, ?_⟩) (by assumption) ?_
  rotate_left 1
  · (intro u hSw; go_simp; try with_reducible rfl)
  try simp only [Act.put, List.setIfInBounds_toArray, List.set_cons_zero, List.set_cons_succ]
  refine wpAnyH_take (i := 6) (oi := ({ dst := some 9, op := Op.nilCheck (Operand.tmp 8), type := 0, pos := "log.go:104", after := #[{ on := 5, ground := Ground.data }], guard := none } : Oper)) (v := ?_) rfl (by kernel_rfl) (by kernel_rfl) (by kernel_rfl) (fun _ _ _ h => h) (Or.inl ⟨by rfl, ?_⟩) (by assumption) ?_
  rotate_left 1
  · (intro u hSw; go_simp; try with_reducible rfl)
  try simp only [Act.put, List.setIfInBounds_toArray, List.set_cons_zero, List.set_cons_succ]
  refine wpAnyH_take (i := 7) (oi := ({ dst := some 10, op := Op.fieldAddr 127 (Operand.tmp 9) 1, type := 0, pos := "log.go:104", after := #[{ on := 6, ground := Ground.data }], guard := none } : Oper)) (v := ?_) rfl (by kernel_rfl) (by kernel_rfl) (by kernel_rfl) (fun _ _ _ h => h) (Or.inl ⟨by rfl, ?_⟩) (by assumption) ?_
  rotate_left 1
  · (intro u hSw; go_simp; try with_reducible rfl)
  try simp only [Act.put, List.setIfInBounds_toArray, List.set_cons_zero, List.set_cons_succ]
  refine wpAnyH_take (i := 8) (oi := ({ dst := some 11, op := Op.fieldAddr 83 (Operand.tmp 10) 2, type := 0, pos := "log.go:104", after := #[{ on := 7, ground := Ground.data }], guard := none } : Oper)) (v := ?_) rfl (by kernel_rfl) (by kernel_rfl) (by kernel_rfl) (fun _ _ _ h => h) (Or.inl ⟨by rfl, ?_⟩) (by assumption) ?_
  rotate_left 1
  · (intro u hSw; go_simp; try with_reducible rfl)
  try simp only [Act.put, List.setIfInBounds_toArray, List.set_cons_zero, List.set_cons_succ]
  refine wpAnyH_take (i := 9) (oi := ({ dst := some 12, op := Op.load 60 (Operand.tmp 11), type := 60, pos := "log.go:104", after := #[{ on := 8, ground := Ground.data }], guard := none } : Oper)) (v := ?_) rfl (by kernel_rfl) (by kernel_rfl) (by kernel_rfl) (fun _ _ _ h => h) (Or.inl ⟨by rfl, ?_⟩) (by assumption) ?_
  rotate_left 1
  · intro u hSw
    have p0 := (cell_of_row u (P) 0 _ _ _ hSw).trans (show (#[Value.pointer (some ⟨D, 0, none⟩), .int .i64 fi, .int .i64 sz, .int .u64 (a : Int), .int .u64 (b : Int), .int .u64 (c : Int), (.slice sa n sc)] : Array Value)[0]? = some (.pointer (some ⟨D, 0, none⟩)) from rfl); have p1 := (cell_of_row u (P) 1 _ _ _ hSw).trans (show (#[Value.pointer (some ⟨D, 0, none⟩), .int .i64 fi, .int .i64 sz, .int .u64 (a : Int), .int .u64 (b : Int), .int .u64 (c : Int), (.slice sa n sc)] : Array Value)[1]? = some (.int .i64 fi) from rfl); have p2 := (cell_of_row u (P) 2 _ _ _ hSw).trans (show (#[Value.pointer (some ⟨D, 0, none⟩), .int .i64 fi, .int .i64 sz, .int .u64 (a : Int), .int .u64 (b : Int), .int .u64 (c : Int), (.slice sa n sc)] : Array Value)[2]? = some (.int .i64 sz) from rfl); have p3 := (cell_of_row u (P) 3 _ _ _ hSw).trans (show (#[Value.pointer (some ⟨D, 0, none⟩), .int .i64 fi, .int .i64 sz, .int .u64 (a : Int), .int .u64 (b : Int), .int .u64 (c : Int), (.slice sa n sc)] : Array Value)[3]? = some (.int .u64 (a : Int)) from rfl); have p4 := (cell_of_row u (P) 4 _ _ _ hSw).trans (show (#[Value.pointer (some ⟨D, 0, none⟩), .int .i64 fi, .int .i64 sz, .int .u64 (a : Int), .int .u64 (b : Int), .int .u64 (c : Int), (.slice sa n sc)] : Array Value)[4]? = some (.int .u64 (b : Int)) from rfl); have p5 := (cell_of_row u (P) 5 _ _ _ hSw).trans (show (#[Value.pointer (some ⟨D, 0, none⟩), .int .i64 fi, .int .i64 sz, .int .u64 (a : Int), .int .u64 (b : Int), .int .u64 (c : Int), (.slice sa n sc)] : Array Value)[5]? = some (.int .u64 (c : Int)) from rfl); have p6 := (cell_of_row u (P) 6 _ _ _ hSw).trans (show (#[Value.pointer (some ⟨D, 0, none⟩), .int .i64 fi, .int .i64 sz, .int .u64 (a : Int), .int .u64 (b : Int), .int .u64 (c : Int), (.slice sa n sc)] : Array Value)[6]? = some (.slice sa n sc) from rfl)
    go_simp
    try with_reducible rfl
  try simp only [Act.put, List.setIfInBounds_toArray, List.set_cons_zero, List.set_cons_succ]
  refine wpAnyH_take (i := 10) (oi := ({ dst := some 13, op := Op.convert 60 3 (Operand.tmp 12), type := 3, pos := "log.go:104", after := #[{ on := 9, ground := Ground.data }], guard := none } : Oper)) (v := ?_) rfl (by kernel_rfl) (by kernel_rfl) (by kernel_rfl) (fun _ _ _ h => h) (Or.inl ⟨by rfl, ?_⟩) (by assumption) ?_
  rotate_left 1
  · (intro u hSw; go_simp; try with_reducible rfl)
  try simp only [Act.put, List.setIfInBounds_toArray, List.set_cons_zero, List.set_cons_succ]
  refine wpAnyH_take (i := 12) (oi := ({ dst := some 15, op := Op.move (Operand.tmp 0), type := 29, pos := "log.go:104", after := #[], guard := none } : Oper)) (v := ?_) rfl (by kernel_rfl) (by kernel_rfl) (by kernel_rfl) (fun _ _ _ h => h) (Or.inl ⟨by rfl, ?_⟩) (by assumption) ?_
  rotate_left 1
  · (intro u hSw; go_simp; try with_reducible rfl)
  try simp only [Act.put, List.setIfInBounds_toArray, List.set_cons_zero, List.set_cons_succ]
  refine wpAnyH_take (i := 13) (oi := ({ dst := some 16, op := Op.nilCheck (Operand.tmp 15), type := 0, pos := "log.go:104", after := #[{ on := 12, ground := Ground.data }], guard := none } : Oper)) (v := ?_) rfl (by kernel_rfl) (by kernel_rfl) (by kernel_rfl) (fun _ _ _ h => h) (Or.inl ⟨by rfl, ?_⟩) (by assumption) ?_
  rotate_left 1
  · (intro u hSw; go_simp; try with_reducible rfl)
  try simp only [Act.put, List.setIfInBounds_toArray, List.set_cons_zero, List.set_cons_succ]
  refine wpAnyH_take (i := 14) (oi := ({ dst := some 17, op := Op.fieldAddr 127 (Operand.tmp 16) 2, type := 0, pos := "log.go:104", after := #[{ on := 13, ground := Ground.data }], guard := none } : Oper)) (v := ?_) rfl (by kernel_rfl) (by kernel_rfl) (by kernel_rfl) (fun _ _ _ h => h) (Or.inl ⟨by rfl, ?_⟩) (by assumption) ?_
  rotate_left 1
  · (intro u hSw; go_simp; try with_reducible rfl)
  try simp only [Act.put, List.setIfInBounds_toArray, List.set_cons_zero, List.set_cons_succ]
  refine wpAnyH_take (i := 15) (oi := ({ dst := some 18, op := Op.load 39 (Operand.tmp 17), type := 39, pos := "log.go:104", after := #[{ on := 14, ground := Ground.data }], guard := none } : Oper)) (v := ?_) rfl (by kernel_rfl) (by kernel_rfl) (by kernel_rfl) (fun _ _ _ h => h) (Or.inl ⟨by rfl, ?_⟩) (by assumption) ?_
  rotate_left 1
  · intro u hSw
    have p0 := (cell_of_row u (P) 0 _ _ _ hSw).trans (show (#[Value.pointer (some ⟨D, 0, none⟩), .int .i64 fi, .int .i64 sz, .int .u64 (a : Int), .int .u64 (b : Int), .int .u64 (c : Int), (.slice sa n sc)] : Array Value)[0]? = some (.pointer (some ⟨D, 0, none⟩)) from rfl); have p1 := (cell_of_row u (P) 1 _ _ _ hSw).trans (show (#[Value.pointer (some ⟨D, 0, none⟩), .int .i64 fi, .int .i64 sz, .int .u64 (a : Int), .int .u64 (b : Int), .int .u64 (c : Int), (.slice sa n sc)] : Array Value)[1]? = some (.int .i64 fi) from rfl); have p2 := (cell_of_row u (P) 2 _ _ _ hSw).trans (show (#[Value.pointer (some ⟨D, 0, none⟩), .int .i64 fi, .int .i64 sz, .int .u64 (a : Int), .int .u64 (b : Int), .int .u64 (c : Int), (.slice sa n sc)] : Array Value)[2]? = some (.int .i64 sz) from rfl); have p3 := (cell_of_row u (P) 3 _ _ _ hSw).trans (show (#[Value.pointer (some ⟨D, 0, none⟩), .int .i64 fi, .int .i64 sz, .int .u64 (a : Int), .int .u64 (b : Int), .int .u64 (c : Int), (.slice sa n sc)] : Array Value)[3]? = some (.int .u64 (a : Int)) from rfl); have p4 := (cell_of_row u (P) 4 _ _ _ hSw).trans (show (#[Value.pointer (some ⟨D, 0, none⟩), .int .i64 fi, .int .i64 sz, .int .u64 (a : Int), .int .u64 (b : Int), .int .u64 (c : Int), (.slice sa n sc)] : Array Value)[4]? = some (.int .u64 (b : Int)) from rfl); have p5 := (cell_of_row u (P) 5 _ _ _ hSw).trans (show (#[Value.pointer (some ⟨D, 0, none⟩), .int .i64 fi, .int .i64 sz, .int .u64 (a : Int), .int .u64 (b : Int), .int .u64 (c : Int), (.slice sa n sc)] : Array Value)[5]? = some (.int .u64 (c : Int)) from rfl); have p6 := (cell_of_row u (P) 6 _ _ _ hSw).trans (show (#[Value.pointer (some ⟨D, 0, none⟩), .int .i64 fi, .int .i64 sz, .int .u64 (a : Int), .int .u64 (b : Int), .int .u64 (c : Int), (.slice sa n sc)] : Array Value)[6]? = some (.slice sa n sc) from rfl)
    go_simp
    try with_reducible rfl
  try simp only [Act.put, List.setIfInBounds_toArray, List.set_cons_zero, List.set_cons_succ]
  refine wpAnyH_take (i := 16) (oi := ({ dst := some 19, op := Op.call { callee := Callee.builtin Builtin.len, args := #[Operand.tmp 18], argTypes := #[39] }, type := 3, pos := "log.go:104", after := #[{ on := 15, ground := Ground.data }], guard := none } : Oper)) (v := ?_) rfl (by kernel_rfl) (by kernel_rfl) (by kernel_rfl) (fun _ _ _ h => h) (Or.inl ⟨by rfl, ?_⟩) (by assumption) ?_
  rotate_left 1
  · (intro u hSw; go_simp; try with_reducible rfl)
  try simp only [Act.put, List.setIfInBounds_toArray, List.set_cons_zero, List.set_cons_succ]
  refine wpAnyH_ready (rs := [4]) (by kernel_rfl) (by simp) ?_
  refine AllReadyH.cons (o := ({ dst := some 7, op := Op.call { callee := Callee.value (Operand.func 77), args := #[Operand.tmp 6], argTypes := #[79] }, type := 3, pos := "log.go:104", after := #[{ on := 3, ground := Ground.data }], guard := none } : Oper)) rfl (fun K hK => ?_) AllReadyH.nil
  go_simp
  go_at_call 77
  refine (HRM.out _).mono ?_
  rintro e w2 ⟨rfl, hb⟩
  have HB2 := Lib.hid (show Below w.heap.size w w2 from ((Below.refl _ _).drew).trans hb)
  have HP2 := Lib.hid ((HB2.out.block P HLT.out).trans HP.out)
  clear hb
  go_wp2_with fail
  refine hK.out _ _ HP2.out (fun hHeld => ?_)
  clear hK K
  try simp only [Act.put, List.setIfInBounds_toArray, List.set_cons_zero, List.set_cons_succ]
  refine wpAnyH_take (i := 11) (oi := ({ dst := some 14, op := Op.binOp BinOp.sub 3 (Operand.tmp 7) (Operand.tmp 13) 3, type := 3, pos := "log.go:104", after := #[{ on := 4, ground := Ground.data }, { on := 10, ground := Ground.data }], guard := none } : Oper)) (v := ?_) rfl (by kernel_rfl) (by kernel_rfl) (by kernel_rfl) (fun _ _ _ h => h) (Or.inl ⟨by rfl, ?_⟩) (by assumption) ?_
  rotate_left 1
  · (intro u hSw; go_simp; try with_reducible rfl)
  try simp only [Act.put, List.setIfInBounds_toArray, List.set_cons_zero, List.set_cons_succ]
  refine wpAnyH_take (i := 17) (oi := ({ dst := some 20, op := Op.binOp BinOp.sub 3 (Operand.tmp 14) (Operand.tmp 19) 3, type := 3, pos := "log.go:104", after := #[{ on := 11, ground := Ground.data }, { on := 16, ground := Ground.data }], guard := none } : Oper)) (v := ?_) rfl (by kernel_rfl) (by kernel_rfl) (by kernel_rfl) (fun _ _ _ h => h) (Or.inl ⟨by rfl, ?_⟩) (by assumption) ?_
  rotate_left 1
  · (intro u hSw; go_simp; try with_reducible rfl)
  try simp only [Act.put, List.setIfInBounds_toArray, List.set_cons_zero, List.set_cons_succ]
  refine wpAnyH_take (i := 18) (oi := ({ dst := some 2, op := Op.assign (Operand.tmp 20), type := 3, pos := "log.go:104", after := #[{ on := 17, ground := Ground.data }, { on := 4, ground := Ground.chain }, { on := 0, ground := Ground.phase }, { on := 1, ground := Ground.phase }, { on := 2, ground := Ground.phase }, { on := 3, ground := Ground.phase }, { on := 4, ground := Ground.phase }, { on := 5, ground := Ground.phase }, { on := 6, ground := Ground.phase }, { on := 7, ground := Ground.phase }, { on := 8, ground := Ground.phase }, { on := 9, ground := Ground.phase }, { on := 10, ground := Ground.phase }, { on := 11, ground := Ground.phase }, { on := 12, ground := Ground.phase }, { on := 13, ground := Ground.phase }, { on := 14, ground := Ground.phase }, { on := 15, ground := Ground.phase }, { on := 16, ground := Ground.phase }, { on := 17, ground := Ground.phase }], guard := none } : Oper)) (v := ?_) rfl (by kernel_rfl) (by kernel_rfl) (by kernel_rfl) (fun _ _ _ h => h) (Or.inl ⟨by rfl, ?_⟩) (by assumption) ?_
  rotate_left 1
  · (intro u hSw; go_simp; try with_reducible rfl)
  try simp only [Act.put, List.setIfInBounds_toArray, List.set_cons_zero, List.set_cons_succ]
  refine wpAnyH_done (by kernel_rfl) ?_ _
  go_wp2_with fail
  go_ret
  exact ⟨rfl, HB2.out⟩
theorem epoch_any (P D : Nat) (fi sz : Int) (a b c : Nat) (av : Value) (w : World) (h : LgIs w P D fi sz a b c av) :
    Calls Try.prog 30 #[.pointer (some ⟨P, 0, none⟩)] w fun e w' => w = w' ∧ e = .returned (.int .u64 (b : Int)) := by
  have p0 := (cell_of_row _ (P) 0 _ _ _ h).trans (show (#[Value.pointer (some ⟨D, 0, none⟩), .int .i64 fi, .int .i64 sz, .int .u64 (a : Int), .int .u64 (b : Int), .int .u64 (c : Int), av] : Array Value)[0]? = some (.pointer (some ⟨D, 0, none⟩)) from rfl)
  have p1 := (cell_of_row _ (P) 1 _ _ _ h).trans (show (#[Value.pointer (some ⟨D, 0, none⟩), .int .i64 fi, .int .i64 sz, .int .u64 (a : Int), .int .u64 (b : Int), .int .u64 (c : Int), av] : Array Value)[1]? = some (.int .i64 fi) from rfl)
  have p2 := (cell_of_row _ (P) 2 _ _ _ h).trans (show (#[Value.pointer (some ⟨D, 0, none⟩), .int .i64 fi, .int .i64 sz, .int .u64 (a : Int), .int .u64 (b : Int), .int .u64 (c : Int), av] : Array Value)[2]? = some (.int .i64 sz) from rfl)
  have p3 := (cell_of_row _ (P) 3 _ _ _ h).trans (show (#[Value.pointer (some ⟨D, 0, none⟩), .int .i64 fi, .int .i64 sz, .int .u64 (a : Int), .int .u64 (b : Int), .int .u64 (c : Int), av] : Array Value)[3]? = some (.int .u64 (a : Int)) from rfl)
  have p4 := (cell_of_row _ (P) 4 _ _ _ h).trans (show (#[Value.pointer (some ⟨D, 0, none⟩), .int .i64 fi, .int .i64 sz, .int .u64 (a : Int), .int .u64 (b : Int), .int .u64 (c : Int), av] : Array Value)[4]? = some (.int .u64 (b : Int)) from rfl)
  have p5 := (cell_of_row _ (P) 5 _ _ _ h).trans (show (#[Value.pointer (some ⟨D, 0, none⟩), .int .i64 fi, .int .i64 sz, .int .u64 (a : Int), .int .u64 (b : Int), .int .u64 (c : Int), av] : Array Value)[5]? = some (.int .u64 (c : Int)) from rfl)
  have p6 := (cell_of_row _ (P) 6 _ _ _ h).trans (show (#[Value.pointer (some ⟨D, 0, none⟩), .int .i64 fi, .int .i64 sz, .int .u64 (a : Int), .int .u64 (b : Int), .int .u64 (c : Int), av] : Array Value)[6]? = some av from rfl)
  go_enter Try.func30, Try.ntmps30
  go_wp2_with fail
  go_ret
  exact ⟨rfl, rfl⟩
theorem drop_any (P D : Nat) (fi sz : Int) (a b c : Nat) (av : Value) (w : World) (h : LgIs w P D fi sz a b c av) :
    Calls Try.prog 48 #[.pointer (some ⟨P, 0, none⟩)] w fun e w' => e = .returned (.tuple #[]) ∧ LgIs w' P D fi sz a b c (.slice none 0 0) ∧ Chg (fun k => k = P) w w' ∧ w'.heap.size = w.heap.size := by
  have p0 := (cell_of_row _ (P) 0 _ _ _ h).trans (show (#[Value.pointer (some ⟨D, 0, none⟩), .int .i64 fi, .int .i64 sz, .int .u64 (a : Int), .int .u64 (b : Int), .int .u64 (c : Int), av] : Array Value)[0]? = some (.pointer (some ⟨D, 0, none⟩)) from rfl)
  have p1 := (cell_of_row _ (P) 1 _ _ _ h).trans (show (#[Value.pointer (some ⟨D, 0, none⟩), .int .i64 fi, .int .i64 sz, .int .u64 (a : Int), .int .u64 (b : Int), .int .u64 (c : Int), av] : Array Value)[1]? = some (.int .i64 fi) from rfl)
  have p2 := (cell_of_row _ (P) 2 _ _ _ h).trans (show (#[Value.pointer (some ⟨D, 0, none⟩), .int .i64 fi, .int .i64 sz, .int .u64 (a : Int), .int .u64 (b : Int), .int .u64 (c : Int), av] : Array Value)[2]? = some (.int .i64 sz) from rfl)
  have p3 := (cell_of_row _ (P) 3 _ _ _ h).trans (show (#[Value.pointer (some ⟨D, 0, none⟩), .int .i64 fi, .int .i64 sz, .int .u64 (a : Int), .int .u64 (b : Int), .int .u64 (c : Int), av] : Array Value)[3]? = some (.int .u64 (a : Int)) from rfl)
  have p4 := (cell_of_row _ (P) 4 _ _ _ h).trans (show (#[Value.pointer (some ⟨D, 0, none⟩), .int .i64 fi, .int .i64 sz, .int .u64 (a : Int), .int .u64 (b : Int), .int .u64 (c : Int), av] : Array Value)[4]? = some (.int .u64 (b : Int)) from rfl)
  have p5 := (cell_of_row _ (P) 5 _ _ _ h).trans (show (#[Value.pointer (some ⟨D, 0, none⟩), .int .i64 fi, .int .i64 sz, .int .u64 (a : Int), .int .u64 (b : Int), .int .u64 (c : Int), av] : Array Value)[5]? = some (.int .u64 (c : Int)) from rfl)
  have p6 := (cell_of_row _ (P) 6 _ _ _ h).trans (show (#[Value.pointer (some ⟨D, 0, none⟩), .int .i64 fi, .int .i64 sz, .int .u64 (a : Int), .int .u64 (b : Int), .int .u64 (c : Int), av] : Array Value)[6]? = some av from rfl)
  have f6 := frozen_of_row _ P 6 _ _ h
  have HP := Lib.hid h
  clear h
  go_enter Try.func48, Try.ntmps48
  go_wp2_with fail
  go_end0
  exact ⟨rfl, heap_setCell_same _ P 6 _ _ _ HP.out, (Chg.refl (fun k => k = P) w).setCell ⟨P, 6, none⟩ _ (.inl rfl), by simp⟩
set_option maxHeartbeats 1000000 in
theorem left_any (P D : Nat) (fi sz : Int) (a b c : Nat) (sa : Option Addr) (n sc : Nat) (w : World) (h : LgIs w P D fi sz a b c (.slice sa n sc)) (h1 : 0 ≤ sz) (h2 : sz ≤ 4096) (hc : c ≤ 1099511627776) (hn : n ≤ 1099511627776) :
    Calls Try.prog 29 #[.pointer (some ⟨P, 0, none⟩)] w fun e w' => e = .returned (.int .i64 (if 0 ≤ (sz - 2) * 256 - c - n - 8 then (sz - 2) * 256 - c - n - 8 else 0)) ∧ Below w.heap.size w w' := by
  have hfr := free_any P D fi sz a b c sa n sc w h h1 h2 hc hn
  obtain ⟨R, hR⟩ : ∃ R : Int, (sz - 2) * 256 - c - n = R := ⟨_, rfl⟩
  rw [hR] at hfr ⊢
  have hRb : -4398046511104 ≤ R ∧ R ≤ 4398046511104 := by omega
  have HFR := Lib.hid hfr
  clear hfr h
  by_cases h0 : 0 ≤ R - 8
  · rw [if_pos h0]
    have h0n : ¬ (R - 8 < 0) := by omega
    go_enter Try.func29, Try.ntmps29
    go_wp2_with fail
    refine HFR.out.mono ?_
    rintro e w2 ⟨rfl, hb⟩
    have HB := Lib.hid hb
    clear hb
    go_wp2
    all_goals go_ret
    all_goals first | exact ⟨rfl, HB.out⟩ | (exfalso; omega) | (refine ⟨?_, HB.out⟩; congr 2; omega)
  · rw [if_neg h0]
    have h0n : R - 8 < 0 := by omega
    go_enter Try.func29, Try.ntmps29
    go_wp2_with fail
    refine HFR.out.mono ?_
    rintro e w2 ⟨rfl, hb⟩
    have HB := Lib.hid hb
    clear hb
    go_wp2
    all_goals go_ret
    all_goals first | exact ⟨rfl, HB.out⟩ | (exfalso; omega) | (refine ⟨?_, HB.out⟩; congr 2; omega)
end Go.Proofs.Ytaibminomehppaa
