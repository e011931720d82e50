import Derived.Test.YtdkjkibdncbibaaGreatCm06
namespace Go.Proofs.YtdkjkibdncbibaaGreat
open Go.RowKit
open Go.Lib (hid)
/-- the log's box -/
def LgIs (w : World) (P D : Nat) (fi sz : Int) (a b c : Nat) (av : Value) : Prop := w.heap[P]? = some (.cells #[Value.pointer (some ⟨D, 0, none⟩), .int .i64 fi, .int .i64 sz, .int .u64 (a : Int), .int .u64 (b : Int), .int .u64 (c : Int), av] 116 (0, 0))
theorem LgIs.lt {w : World} {P D : Nat} {fi sz : Int} {a b c : Nat} {av : Value} (h : LgIs w P D fi sz a b c av) : P < w.heap.size := (Array.getElem?_eq_some_iff.1 h).1
theorem LgIs.chg {w w' : World} {P D : Nat} {fi sz : Int} {a b c : Nat} {av : Value} {F : Nat → Prop} (h : LgIs w P D fi sz a b c av) (hc : Chg F w w') (hF : ¬ F P) : LgIs w' P D fi sz a b c av := (hc.block P h.lt hF).trans h
set_option maxRecDepth 100000 in
set_option maxHeartbeats 1000000 in
theorem free_any (P D : Nat) (fi sz : Int) (a b c : Nat) (sa : Option Addr) (n sc : Nat) (w : World) (h : LgIs w P D fi sz a b c (.slice sa n sc)) (h1 : 0 ≤ sz) (h2 : sz ≤ 4096) (hc : c ≤ 1099511627776) (hn : n ≤ 1099511627776) :
  Calls Tryz.prog 109 #[.pointer (some ⟨P, 0, none⟩)] w fun e w' => e = .returned (.int .i64 ((sz - 2) * 256 - c - n)) ∧ Below w.heap.size w w' := by
 have HP := hid h
 have hlt := h.lt
 have HLT := hid hlt
 obtain ⟨R, hR⟩ : ∃ R : Int, (sz - 2) * 256 = R := ⟨_, rfl⟩
 have hrm := fun u => lroom_any D fi sz u h1 h2
 rw [hR] at hrm ⊢
 have hRb : -512 ≤ R ∧ R ≤ 1048576 := by omega
 have hcb : (c : Int) ≤ 1099511627776 := by omega
 have hnb : (n : Int) ≤ 1099511627776 := by omega
 have HRM := hid hrm
 have HS0 := hid (show w.drew.heap[P]? = some (.cells #[Value.pointer (some ⟨D, 0, none⟩), .int .i64 fi, .int .i64 sz, .int .u64 (a : Int), .int .u64 (b : Int), .int .u64 (c : Int), .slice sa n sc] 116 (0, 0)) from h)
 clear h hlt hrm
 go_enter Tryz.func109, Tryz.ntmps109
 go_wp2_with fail
 have hw1 : IntKind.i64.wrap (c : Int) = (c : Int) := wrap_i64 _ (by omega) (by omega)
 have hw2 : IntKind.i64.wrap (R - (c : Int)) = R - (c : Int) := wrap_i64 _ (by omega) (by omega)
 have hw3 : IntKind.i64.wrap (R - (c : Int) - (n : Int)) = R - (c : Int) - (n : Int) := wrap_i64 _ (by omega) (by omega)
 refine wp_region_held_drew (S := fun u => u.heap[P]? = some (.cells #[Value.pointer (some ⟨D, 0, none⟩), .int .i64 fi, .int .i64 sz, .int .u64 (a : Int), .int .u64 (b : Int), .int .u64 (c : Int), .slice sa n sc] 116 (0, 0))) (by kernel_rfl) (HS0.out) (fun hHeld => ?_)
 refine tk (i := 0) (oi := ⟨some 3, .move (.tmp 0), 71, "log.go:104", #[], none⟩) (v := ?_) (Or.inl ⟨by rfl, ?_⟩) ?_
 rotate_left 1
 ·(intro u hSw; go_simp; try with_reducible rfl)
 try simp only [Act.put, sA, sB, sC]
 refine tk (i := 1) (oi := ⟨some 4, .nilCheck (.tmp 3), 0, "log.go:104", #[⟨0, .data⟩], none⟩) (v := ?_) (Or.inl ⟨by rfl, ?_⟩) ?_
 rotate_left 1
 ·(intro u hSw; go_simp; try with_reducible rfl)
 try simp only [Act.put, sA, sB, sC]
 refine tk (i := 2) (oi := ⟨some 5, .fieldAddr 116 (.tmp 4) 0, 0, "log.go:104", #[⟨1, .data⟩], none⟩) (v := ?_) (Or.inl ⟨by rfl, ?_⟩) ?_
 rotate_left 1
 ·(intro u hSw; go_simp; try with_reducible rfl)
 try simp only [Act.put, sA, sB, sC]
 refine tk (i := 3) (oi := ⟨some 6, .load 103 (.tmp 5), 103, "log.go:104", #[⟨2, .data⟩], none⟩) (v := ?_) (Or.inl ⟨by rfl, ?_⟩) ?_
 rotate_left 1
 ·intro u hSw
  have p0 := (cell_of_row u (P) 0 _ _ _ hSw).trans (show (#[Value.pointer (some ⟨D, 0, none⟩), .int .i64 fi, .int .i64 sz, .int .u64 (a : Int), .int .u64 (b : Int), .int .u64 (c : Int), (.slice sa n sc)] : Array Value)[0]? = some (.pointer (some ⟨D, 0, none⟩)) from rfl); have p1 := (cell_of_row u (P) 1 _ _ _ hSw).trans (show (#[Value.pointer (some ⟨D, 0, none⟩), .int .i64 fi, .int .i64 sz, .int .u64 (a : Int), .int .u64 (b : Int), .int .u64 (c : Int), (.slice sa n sc)] : Array Value)[1]? = some (.int .i64 fi) from rfl); have p2 := (cell_of_row u (P) 2 _ _ _ hSw).trans (show (#[Value.pointer (some ⟨D, 0, none⟩), .int .i64 fi, .int .i64 sz, .int .u64 (a : Int), .int .u64 (b : Int), .int .u64 (c : Int), (.slice sa n sc)] : Array Value)[2]? = some (.int .i64 sz) from rfl); have p3 := (cell_of_row u (P) 3 _ _ _ hSw).trans (show (#[Value.pointer (some ⟨D, 0, none⟩), .int .i64 fi, .int .i64 sz, .int .u64 (a : Int), .int .u64 (b : Int), .int .u64 (c : Int), (.slice sa n sc)] : Array Value)[3]? = some (.int .u64 (a : Int)) from rfl); have p4 := (cell_of_row u (P) 4 _ _ _ hSw).trans (show (#[Value.pointer (some ⟨D, 0, none⟩), .int .i64 fi, .int .i64 sz, .int .u64 (a : Int), .int .u64 (b : Int), .int .u64 (c : Int), (.slice sa n sc)] : Array Value)[4]? = some (.int .u64 (b : Int)) from rfl); have p5 := (cell_of_row u (P) 5 _ _ _ hSw).trans (show (#[Value.pointer (some ⟨D, 0, none⟩), .int .i64 fi, .int .i64 sz, .int .u64 (a : Int), .int .u64 (b : Int), .int .u64 (c : Int), (.slice sa n sc)] : Array Value)[5]? = some (.int .u64 (c : Int)) from rfl); have p6 := (cell_of_row u (P) 6 _ _ _ hSw).trans (show (#[Value.pointer (some ⟨D, 0, none⟩), .int .i64 fi, .int .i64 sz, .int .u64 (a : Int), .int .u64 (b : Int), .int .u64 (c : Int), (.slice sa n sc)] : Array Value)[6]? = some (.slice sa n sc) from rfl)
  go_simp
  try with_reducible rfl
 try simp only [Act.put, sA, sB, sC]
 refine tk (i := 5) (oi := ⟨some 8, .move (.tmp 0), 71, "log.go:104", #[], none⟩) (v := ?_) (Or.inl ⟨by rfl, ?_⟩) ?_
 rotate_left 1
 ·(intro u hSw; go_simp; try with_reducible rfl)
 try simp only [Act.put, sA, sB, sC]
 refine tk (i := 6) (oi := ⟨some 9, .nilCheck (.tmp 8), 0, "log.go:104", #[⟨5, .data⟩], none⟩) (v := ?_) (Or.inl ⟨by rfl, ?_⟩) ?_
 rotate_left 1
 ·(intro u hSw; go_simp; try with_reducible rfl)
 try simp only [Act.put, sA, sB, sC]
 refine tk (i := 7) (oi := ⟨some 10, .fieldAddr 116 (.tmp 9) 1, 0, "log.go:104", #[⟨6, .data⟩], none⟩) (v := ?_) (Or.inl ⟨by rfl, ?_⟩) ?_
 rotate_left 1
 ·(intro u hSw; go_simp; try with_reducible rfl)
 try simp only [Act.put, sA, sB, sC]
 refine tk (i := 8) (oi := ⟨some 11, .fieldAddr 107 (.tmp 10) 2, 0, "log.go:104", #[⟨7, .data⟩], none⟩) (v := ?_) (Or.inl ⟨by rfl, ?_⟩) ?_
 rotate_left 1
 ·(intro u hSw; go_simp; try with_reducible rfl)
 try simp only [Act.put, sA, sB, sC]
 refine tk (i := 9) (oi := ⟨some 12, .load 60 (.tmp 11), 60, "log.go:104", #[⟨8, .data⟩], none⟩) (v := ?_) (Or.inl ⟨by rfl, ?_⟩) ?_
 rotate_left 1
 ·intro u hSw
  have p0 := (cell_of_row u (P) 0 _ _ _ hSw).trans (show (#[Value.pointer (some ⟨D, 0, none⟩), .int .i64 fi, .int .i64 sz, .int .u64 (a : Int), .int .u64 (b : Int), .int .u64 (c : Int), (.slice sa n sc)] : Array Value)[0]? = some (.pointer (some ⟨D, 0, none⟩)) from rfl); have p1 := (cell_of_row u (P) 1 _ _ _ hSw).trans (show (#[Value.pointer (some ⟨D, 0, none⟩), .int .i64 fi, .int .i64 sz, .int .u64 (a : Int), .int .u64 (b : Int), .int .u64 (c : Int), (.slice sa n sc)] : Array Value)[1]? = some (.int .i64 fi) from rfl); have p2 := (cell_of_row u (P) 2 _ _ _ hSw).trans (show (#[Value.pointer (some ⟨D, 0, none⟩), .int .i64 fi, .int .i64 sz, .int .u64 (a : Int), .int .u64 (b : Int), .int .u64 (c : Int), (.slice sa n sc)] : Array Value)[2]? = some (.int .i64 sz) from rfl); have p3 := (cell_of_row u (P) 3 _ _ _ hSw).trans (show (#[Value.pointer (some ⟨D, 0, none⟩), .int .i64 fi, .int .i64 sz, .int .u64 (a : Int), .int .u64 (b : Int), .int .u64 (c : Int), (.slice sa n sc)] : Array Value)[3]? = some (.int .u64 (a : Int)) from rfl); have p4 := (cell_of_row u (P) 4 _ _ _ hSw).trans (show (#[Value.pointer (some ⟨D, 0, none⟩), .int .i64 fi, .int .i64 sz, .int .u64 (a : Int), .int .u64 (b : Int), .int .u64 (c : Int), (.slice sa n sc)] : Array Value)[4]? = some (.int .u64 (b : Int)) from rfl); have p5 := (cell_of_row u (P) 5 _ _ _ hSw).trans (show (#[Value.pointer (some ⟨D, 0, none⟩), .int .i64 fi, .int .i64 sz, .int .u64 (a : Int), .int .u64 (b : Int), .int .u64 (c : Int), (.slice sa n sc)] : Array Value)[5]? = some (.int .u64 (c : Int)) from rfl); have p6 := (cell_of_row u (P) 6 _ _ _ hSw).trans (show (#[Value.pointer (some ⟨D, 0, none⟩), .int .i64 fi, .int .i64 sz, .int .u64 (a : Int), .int .u64 (b : Int), .int .u64 (c : Int), (.slice sa n sc)] : Array Value)[6]? = some (.slice sa n sc) from rfl)
  go_simp
  try with_reducible rfl
 try simp only [Act.put, sA, sB, sC]
 refine tk (i := 10) (oi := ⟨some 13, .convert 60 3 (.tmp 12), 3, "log.go:104", #[⟨9, .data⟩], none⟩) (v := ?_) (Or.inl ⟨by rfl, ?_⟩) ?_
 rotate_left 1
 ·(intro u hSw; go_simp; try with_reducible rfl)
 try simp only [Act.put, sA, sB, sC]
 refine tk (i := 12) (oi := ⟨some 15, .move (.tmp 0), 71, "log.go:104", #[], none⟩) (v := ?_) (Or.inl ⟨by rfl, ?_⟩) ?_
 rotate_left 1
 ·(intro u hSw; go_simp; try with_reducible rfl)
 try simp only [Act.put, sA, sB, sC]
 refine tk (i := 13) (oi := ⟨some 16, .nilCheck (.tmp 15), 0, "log.go:104", #[⟨12, .data⟩], none⟩) (v := ?_) (Or.inl ⟨by rfl, ?_⟩) ?_
 rotate_left 1
 ·(intro u hSw; go_simp; try with_reducible rfl)
 try simp only [Act.put, sA, sB, sC]
 refine tk (i := 14) (oi := ⟨some 17, .fieldAddr 116 (.tmp 16) 2, 0, "log.go:104", #[⟨13, .data⟩], none⟩) (v := ?_) (Or.inl ⟨by rfl, ?_⟩) ?_
 rotate_left 1
 ·(intro u hSw; go_simp; try with_reducible rfl)
 try simp only [Act.put, sA, sB, sC]
 refine tk (i := 15) (oi := ⟨some 18, .load 83 (.tmp 17), 83, "log.go:104", #[⟨14, .data⟩], none⟩) (v := ?_) (Or.inl ⟨by rfl, ?_⟩) ?_
 rotate_left 1
 ·intro u hSw
  have p0 := (cell_of_row u (P) 0 _ _ _ hSw).trans (show (#[Value.pointer (some ⟨D, 0, none⟩), .int .i64 fi, .int .i64 sz, .int .u64 (a : Int), .int .u64 (b : Int), .int .u64 (c : Int), (.slice sa n sc)] : Array Value)[0]? = some (.pointer (some ⟨D, 0, none⟩)) from rfl); have p1 := (cell_of_row u (P) 1 _ _ _ hSw).trans (show (#[Value.pointer (some ⟨D, 0, none⟩), .int .i64 fi, .int .i64 sz, .int .u64 (a : Int), .int .u64 (b : Int), .int .u64 (c : Int), (.slice sa n sc)] : Array Value)[1]? = some (.int .i64 fi) from rfl); have p2 := (cell_of_row u (P) 2 _ _ _ hSw).trans (show (#[Value.pointer (some ⟨D, 0, none⟩), .int .i64 fi, .int .i64 sz, .int .u64 (a : Int), .int .u64 (b : Int), .int .u64 (c : Int), (.slice sa n sc)] : Array Value)[2]? = some (.int .i64 sz) from rfl); have p3 := (cell_of_row u (P) 3 _ _ _ hSw).trans (show (#[Value.pointer (some ⟨D, 0, none⟩), .int .i64 fi, .int .i64 sz, .int .u64 (a : Int), .int .u64 (b : Int), .int .u64 (c : Int), (.slice sa n sc)] : Array Value)[3]? = some (.int .u64 (a : Int)) from rfl); have p4 := (cell_of_row u (P) 4 _ _ _ hSw).trans (show (#[Value.pointer (some ⟨D, 0, none⟩), .int .i64 fi, .int .i64 sz, .int .u64 (a : Int), .int .u64 (b : Int), .int .u64 (c : Int), (.slice sa n sc)] : Array Value)[4]? = some (.int .u64 (b : Int)) from rfl); have p5 := (cell_of_row u (P) 5 _ _ _ hSw).trans (show (#[Value.pointer (some ⟨D, 0, none⟩), .int .i64 fi, .int .i64 sz, .int .u64 (a : Int), .int .u64 (b : Int), .int .u64 (c : Int), (.slice sa n sc)] : Array Value)[5]? = some (.int .u64 (c : Int)) from rfl); have p6 := (cell_of_row u (P) 6 _ _ _ hSw).trans (show (#[Value.pointer (some ⟨D, 0, none⟩), .int .i64 fi, .int .i64 sz, .int .u64 (a : Int), .int .u64 (b : Int), .int .u64 (c : Int), (.slice sa n sc)] : Array Value)[6]? = some (.slice sa n sc) from rfl)
  go_simp
  try with_reducible rfl
 try simp only [Act.put, sA, sB, sC]
 refine tk (i := 16) (oi := ⟨some 19, .call ⟨.builtin .len, #[.tmp 18], #[83]⟩, 3, "log.go:104", #[⟨15, .data⟩], none⟩) (v := ?_) (Or.inl ⟨by rfl, ?_⟩) ?_
 rotate_left 1
 ·(intro u hSw; go_simp; try with_reducible rfl)
 try simp only [Act.put, sA, sB, sC]
 refine wpAnyH_ready (rs := [4]) (by kernel_rfl) (by simp) ?_
 refine AllReadyH.cons (o := ⟨some 7, .call ⟨.value (.func 70), #[.tmp 6], #[103]⟩, 3, "log.go:104", #[⟨3, .data⟩], none⟩) rfl (fun K hK => ?_) AllReadyH.nil
 go_simp
 go_at_call 70
 refine (HRM.out _).mono ?_
 rintro e w2 ⟨rfl, hb⟩
 have HB2 := hid (show Below w.heap.size w w2 from ((Below.refl _ _).drew).trans hb)
 have HP2 := hid ((HB2.out.block P HLT.out).trans HP.out)
 clear hb
 go_wp2_with fail
 refine hK.out _ _ HP2.out (fun hHeld => ?_)
 clear hK K
 try simp only [Act.put, sA, sB, sC]
 refine tk (i := 11) (oi := ⟨some 14, .binOp BinOp.sub 3 (.tmp 7) (.tmp 13) 3, 3, "log.go:104", #[⟨4, .data⟩, ⟨10, .data⟩], none⟩) (v := ?_) (Or.inl ⟨by rfl, ?_⟩) ?_
 rotate_left 1
 ·(intro u hSw; go_simp; try with_reducible rfl)
 try simp only [Act.put, sA, sB, sC]
 refine tk (i := 17) (oi := ⟨some 20, .binOp BinOp.sub 3 (.tmp 14) (.tmp 19) 3, 3, "log.go:104", #[⟨11, .data⟩, ⟨16, .data⟩], none⟩) (v := ?_) (Or.inl ⟨by rfl, ?_⟩) ?_
 rotate_left 1
 ·(intro u hSw; go_simp; try with_reducible rfl)
 try simp only [Act.put, sA, sB, sC]
 refine tk (i := 18) (oi := ⟨some 2, .assign (.tmp 20), 3, "log.go:104", #[⟨17, .data⟩, ⟨4, .chain⟩, ⟨0, .phase⟩, ⟨1, .phase⟩, ⟨2, .phase⟩, ⟨3, .phase⟩, ⟨4, .phase⟩, ⟨5, .phase⟩, ⟨6, .phase⟩, ⟨7, .phase⟩, ⟨8, .phase⟩, ⟨9, .phase⟩, ⟨10, .phase⟩, ⟨11, .phase⟩, ⟨12, .phase⟩, ⟨13, .phase⟩, ⟨14, .phase⟩, ⟨15, .phase⟩, ⟨16, .phase⟩, ⟨17, .phase⟩], none⟩) (v := ?_) (Or.inl ⟨by rfl, ?_⟩) ?_
 rotate_left 1
 ·(intro u hSw; go_simp; try with_reducible rfl)
 try simp only [Act.put, sA, sB, sC]
 refine wpAnyH_done (by kernel_rfl) ?_ _
 go_wp2_with fail
 go_ret
 exact ⟨rfl, HB2.out⟩
theorem drop_any (P D : Nat) (fi sz : Int) (a b c : Nat) (av : Value) (w : World) (h : LgIs w P D fi sz a b c av) :
  Calls Tryz.prog 101 #[.pointer (some ⟨P, 0, none⟩)] w fun e w' => e = .returned (.tuple #[]) ∧ LgIs w' P D fi sz a b c (.slice none 0 0) ∧ Chg (fun k => k = P) w w' ∧ w'.heap.size = w.heap.size := by
 have p0 := (cell_of_row _ (P) 0 _ _ _ h).trans (show (#[Value.pointer (some ⟨D, 0, none⟩), .int .i64 fi, .int .i64 sz, .int .u64 (a : Int), .int .u64 (b : Int), .int .u64 (c : Int), av] : Array Value)[0]? = some (.pointer (some ⟨D, 0, none⟩)) from rfl)
 have p1 := (cell_of_row _ (P) 1 _ _ _ h).trans (show (#[Value.pointer (some ⟨D, 0, none⟩), .int .i64 fi, .int .i64 sz, .int .u64 (a : Int), .int .u64 (b : Int), .int .u64 (c : Int), av] : Array Value)[1]? = some (.int .i64 fi) from rfl)
 have p2 := (cell_of_row _ (P) 2 _ _ _ h).trans (show (#[Value.pointer (some ⟨D, 0, none⟩), .int .i64 fi, .int .i64 sz, .int .u64 (a : Int), .int .u64 (b : Int), .int .u64 (c : Int), av] : Array Value)[2]? = some (.int .i64 sz) from rfl)
 have p3 := (cell_of_row _ (P) 3 _ _ _ h).trans (show (#[Value.pointer (some ⟨D, 0, none⟩), .int .i64 fi, .int .i64 sz, .int .u64 (a : Int), .int .u64 (b : Int), .int .u64 (c : Int), av] : Array Value)[3]? = some (.int .u64 (a : Int)) from rfl)
 have p4 := (cell_of_row _ (P) 4 _ _ _ h).trans (show (#[Value.pointer (some ⟨D, 0, none⟩), .int .i64 fi, .int .i64 sz, .int .u64 (a : Int), .int .u64 (b : Int), .int .u64 (c : Int), av] : Array Value)[4]? = some (.int .u64 (b : Int)) from rfl)
 have p5 := (cell_of_row _ (P) 5 _ _ _ h).trans (show (#[Value.pointer (some ⟨D, 0, none⟩), .int .i64 fi, .int .i64 sz, .int .u64 (a : Int), .int .u64 (b : Int), .int .u64 (c : Int), av] : Array Value)[5]? = some (.int .u64 (c : Int)) from rfl)
 have p6 := (cell_of_row _ (P) 6 _ _ _ h).trans (show (#[Value.pointer (some ⟨D, 0, none⟩), .int .i64 fi, .int .i64 sz, .int .u64 (a : Int), .int .u64 (b : Int), .int .u64 (c : Int), av] : Array Value)[6]? = some av from rfl)
 have f6 := frozen_of_row _ P 6 _ _ h
 have HP := hid h
 clear h
 go_enter Tryz.func101, Tryz.ntmps101
 go_wp2_with fail
 go_end0
 exact ⟨rfl, heap_setCell_same _ P 6 _ _ _ HP.out, (Chg.refl (fun k => k = P) w).setCell ⟨P, 6, none⟩ _ (.inl rfl), by simp⟩
end Go.Proofs.YtdkjkibdncbibaaGreat
namespace Go.Proofs.YtdkjkibdncbibaaGreat
open Go.RowKit
open Go.Lib (hid)
def fitsL (sz : Int) (c n m : Nat) : Bool := decide (8 + (m : Int) ≤ (sz - 2) * 256 - c - n)
def AppEnds (B P D : Nat) (fi sz : Int) (a b c : Nat) (av : Value) (al m : List Int) (w : World) (e : Ending) (w' : World) : Prop :=
 e = .returned (.int .i64 (if fitsL sz c al.length m.length = true then 0 else 42)) ∧ ∃ av', LgIs w' P D fi sz a b c av' ∧ Own w' B av' (if fitsL sz c al.length m.length = true then al ++ be8 m.length ++ m else al) ∧ Chg (fun k => k = P ∨ av.ownBlock = some k) w w' ∧ OwnTo w av av'
set_option maxRecDepth 100000 in
set_option maxHeartbeats 2000000 in
theorem append_any (B P D : Nat) (fi sz : Int) (a b c : Nat) (av v2 : Value) (al m : List Int) (w : World) (h : LgIs w P D fi sz a b c av) (ho : Own w B av al) (hne : av.ownBlock ≠ some P) (hB : B ≤ w.heap.size) (hbs : Bs w v2 m) (hnb : ∀ ad n c, v2 = .slice (some ad) n c → 0 < m.length → av.ownBlock ≠ some ad.block)
  (h1 : 3 ≤ sz) (h2 : sz ≤ 4096) (hc : c ≤ 1048576) (hn : al.length ≤ 1048576) (hm : m.length ≤ 16777216) :
  Calls Tryz.prog 100 #[.pointer (some ⟨P, 0, none⟩), v2] w (AppEnds B P D fi sz a b c av al m w) := by
 obtain ⟨sa, sc, hav⟩ := own_form ho
 subst hav
 have HP := hid h
 have HO := hid ho
 have HNE := hid hne
 have HNB := hid hnb
 have HBS := hid hbs
 have HLT := hid h.lt
 obtain ⟨va, vc, hvv⟩ : ∃ va vc, v2 = .slice va m.length vc := by
  obtain ⟨a, c, e, _⟩ := hbs
  exact ⟨a, c, e⟩
 subst hvv
 have hfr := free_any P D fi sz a b c sa al.length sc w h (by omega) h2 (by omega) (by omega)
 obtain ⟨R, hR⟩ : ∃ R : Int, (sz - 2) * 256 - c - al.length = R := ⟨_, rfl⟩
 rw [hR] at hfr
 have hRb : -4398046511104 ≤ R ∧ R ≤ 4398046511104 := by omega
 have hmb : (m.length : Int) ≤ 16777216 := by omega
 have HFR := hid hfr
 clear hfr h ho hne hbs hnb
 by_cases h0 : 8 + (m.length : Int) ≤ R
 ·have HF := hid (show fitsL sz c al.length m.length = true from by unfold fitsL; rw [hR]; exact decide_eq_true h0)
  have h0n : ¬ (R < 8 + (m.length : Int)) := by omega
  clear hR
  go_enter Tryz.func100, Tryz.ntmps100
  go_wp2_with fail
  refine HFR.out.mono ?_
  rintro e w2 ⟨rfl, hb⟩
  have HB2 := hid hb
  have HP2 := hid ((hb.block P HLT.out).trans HP.out)
  have HO2 := hid (HO.out.below hb (Nat.le_refl _))
  have p0 := (cell_of_row _ (P) 0 _ _ _ HP2.out).trans (show (#[Value.pointer (some ⟨D, 0, none⟩), .int .i64 fi, .int .i64 sz, .int .u64 (a : Int), .int .u64 (b : Int), .int .u64 (c : Int), (.slice sa al.length sc)] : Array Value)[0]? = some (.pointer (some ⟨D, 0, none⟩)) from rfl)
  have p1 := (cell_of_row _ (P) 1 _ _ _ HP2.out).trans (show (#[Value.pointer (some ⟨D, 0, none⟩), .int .i64 fi, .int .i64 sz, .int .u64 (a : Int), .int .u64 (b : Int), .int .u64 (c : Int), (.slice sa al.length sc)] : Array Value)[1]? = some (.int .i64 fi) from rfl)
  have p2 := (cell_of_row _ (P) 2 _ _ _ HP2.out).trans (show (#[Value.pointer (some ⟨D, 0, none⟩), .int .i64 fi, .int .i64 sz, .int .u64 (a : Int), .int .u64 (b : Int), .int .u64 (c : Int), (.slice sa al.length sc)] : Array Value)[2]? = some (.int .i64 sz) from rfl)
  have p3 := (cell_of_row _ (P) 3 _ _ _ HP2.out).trans (show (#[Value.pointer (some ⟨D, 0, none⟩), .int .i64 fi, .int .i64 sz, .int .u64 (a : Int), .int .u64 (b : Int), .int .u64 (c : Int), (.slice sa al.length sc)] : Array Value)[3]? = some (.int .u64 (a : Int)) from rfl)
  have p4 := (cell_of_row _ (P) 4 _ _ _ HP2.out).trans (show (#[Value.pointer (some ⟨D, 0, none⟩), .int .i64 fi, .int .i64 sz, .int .u64 (a : Int), .int .u64 (b : Int), .int .u64 (c : Int), (.slice sa al.length sc)] : Array Value)[4]? = some (.int .u64 (b : Int)) from rfl)
  have p5 := (cell_of_row _ (P) 5 _ _ _ HP2.out).trans (show (#[Value.pointer (some ⟨D, 0, none⟩), .int .i64 fi, .int .i64 sz, .int .u64 (a : Int), .int .u64 (b : Int), .int .u64 (c : Int), (.slice sa al.length sc)] : Array Value)[5]? = some (.int .u64 (c : Int)) from rfl)
  have p6 := (cell_of_row _ (P) 6 _ _ _ HP2.out).trans (show (#[Value.pointer (some ⟨D, 0, none⟩), .int .i64 fi, .int .i64 sz, .int .u64 (a : Int), .int .u64 (b : Int), .int .u64 (c : Int), (.slice sa al.length sc)] : Array Value)[6]? = some (.slice sa al.length sc) from rfl)
  clear hb
  go_wp2_with fail
  refine (appendRecord_any (.slice sa al.length sc) (.slice va m.length vc) al m B w2 HO2.out (HBS.out.below HB2.out) HNB.out (by have := HB2.out.size; omega) (by omega)).mono ?_
  rintro e w3 ⟨av3, rfl, ho3, hc3, ht3⟩
  obtain ⟨sa3, sc3, hav3⟩ := own_form ho3
  obtain ⟨n3, hn3⟩ : ∃ n3, (al ++ be8 m.length ++ m).length = n3 := ⟨_, rfl⟩
  rw [hn3] at hav3
  subst hav3
  clear hn3
  have HO3 := hid ho3
  have HC3 := hid hc3
  have HT3 := hid ht3
  have HP3 := hid ((hc3.block P (by have := HLT.out; have := HB2.out.size; omega) (fun e => HNE.out e)).trans HP2.out)
  have f6 := frozen_of_row _ P 6 _ _ HP3.out
  have q0 := (cell_of_row _ (P) 0 _ _ _ HP3.out).trans (show (#[Value.pointer (some ⟨D, 0, none⟩), .int .i64 fi, .int .i64 sz, .int .u64 (a : Int), .int .u64 (b : Int), .int .u64 (c : Int), (.slice sa al.length sc)] : Array Value)[0]? = some (.pointer (some ⟨D, 0, none⟩)) from rfl)
  have q1 := (cell_of_row _ (P) 1 _ _ _ HP3.out).trans (show (#[Value.pointer (some ⟨D, 0, none⟩), .int .i64 fi, .int .i64 sz, .int .u64 (a : Int), .int .u64 (b : Int), .int .u64 (c : Int), (.slice sa al.length sc)] : Array Value)[1]? = some (.int .i64 fi) from rfl)
  have q2 := (cell_of_row _ (P) 2 _ _ _ HP3.out).trans (show (#[Value.pointer (some ⟨D, 0, none⟩), .int .i64 fi, .int .i64 sz, .int .u64 (a : Int), .int .u64 (b : Int), .int .u64 (c : Int), (.slice sa al.length sc)] : Array Value)[2]? = some (.int .i64 sz) from rfl)
  have q3 := (cell_of_row _ (P) 3 _ _ _ HP3.out).trans (show (#[Value.pointer (some ⟨D, 0, none⟩), .int .i64 fi, .int .i64 sz, .int .u64 (a : Int), .int .u64 (b : Int), .int .u64 (c : Int), (.slice sa al.length sc)] : Array Value)[3]? = some (.int .u64 (a : Int)) from rfl)
  have q4 := (cell_of_row _ (P) 4 _ _ _ HP3.out).trans (show (#[Value.pointer (some ⟨D, 0, none⟩), .int .i64 fi, .int .i64 sz, .int .u64 (a : Int), .int .u64 (b : Int), .int .u64 (c : Int), (.slice sa al.length sc)] : Array Value)[4]? = some (.int .u64 (b : Int)) from rfl)
  have q5 := (cell_of_row _ (P) 5 _ _ _ HP3.out).trans (show (#[Value.pointer (some ⟨D, 0, none⟩), .int .i64 fi, .int .i64 sz, .int .u64 (a : Int), .int .u64 (b : Int), .int .u64 (c : Int), (.slice sa al.length sc)] : Array Value)[5]? = some (.int .u64 (c : Int)) from rfl)
  have q6 := (cell_of_row _ (P) 6 _ _ _ HP3.out).trans (show (#[Value.pointer (some ⟨D, 0, none⟩), .int .i64 fi, .int .i64 sz, .int .u64 (a : Int), .int .u64 (b : Int), .int .u64 (c : Int), (.slice sa al.length sc)] : Array Value)[6]? = some (.slice sa al.length sc) from rfl)
  clear ho3 hc3 ht3 p0 p1 p2 p3 p4 p5 p6
  go_wp2_with fail
  go_ret
  have hs2 := HB2.out.size
  have hne3 : (Value.slice sa3 n3 sc3).ownBlock ≠ some P := fun e => (HT3.out P e).elim HNE.out (fun h => by have := HLT.out; omega)
  refine ⟨by rw [if_pos HF.out]; rfl, _, heap_setCell_same _ P 6 _ _ _ HP3.out, ?_, ?_, ?_⟩
  ·rw [if_pos HF.out]
   exact HO3.out.chg ((Chg.refl (fun k => k = P) w3).setCell ⟨P, 6, none⟩ _ (.inl rfl)) (fun g hg e => hne3 (by rw [hg, e]))
  ·exact (((Chg.fresh (F := fun k => k = P ∨ (Value.slice sa al.length sc).ownBlock = some k) HB2.out).trans HC3.out (fun k hk => .inl (.inr hk))).setCell ⟨P, 6, none⟩ _ (.inl (.inl rfl)))
  ·exact fun g hg => (HT3.out g hg).elim .inl (fun h => .inr (by omega))
 ·have HF := hid (show fitsL sz c al.length m.length = false from by unfold fitsL; rw [hR]; exact decide_eq_false h0)
  have h0n : R < 8 + (m.length : Int) := by omega
  clear hR
  go_enter Tryz.func100, Tryz.ntmps100
  go_wp2_with fail
  refine HFR.out.mono ?_
  rintro e w2 ⟨rfl, hb⟩
  have HB2 := hid hb
  clear hb
  go_wp2_with fail
  go_ret
  refine ⟨by rw [HF.out]; rfl, _, (HB2.out.block P HLT.out).trans HP.out, ?_, Chg.fresh HB2.out, OwnTo.refl _ _⟩
  rw [HF.out, if_neg (by simp)]
  exact HO.out.below HB2.out (Nat.le_refl _)
theorem set345 (u : World) (X : Nat) (v0 v1 v2 v3 v4 v5 v6 a b c : Value) (T : TypeId) (h : u.heap[X]? = some (.cells #[v0, v1, v2, v3, v4, v5, v6] T (0, 0))) : (((u.setCell ⟨X, 3, none⟩ a).setCell ⟨X, 4, none⟩ b).setCell ⟨X, 5, none⟩ c).heap[X]? = some (.cells #[v0, v1, v2, a, b, c, v6] T (0, 0)) :=
 heap_setCell_same _ X 5 _ T c (heap_setCell_same _ X 4 _ T b (heap_setCell_same _ X 3 _ T a h))
def TEnds (B D M : Nat) (nb rm : Int) (P : Nat) (fi sz : Int) (a b c : Nat) (av : Value) (s : DS) (E : Int) (a' b' c' : Nat) (lv : Value) (w : World) (e : Ending) (w' : World) : Prop :=
 e = .returned (.int .i64 E) ∧ ∃ lv', DkS w' B D M nb rm s lv' ∧ LgIs w' P D fi sz (if E = 0 then a' else a) (if E = 0 then b' else b) (if E = 0 then c' else c) av ∧ Chg (fun k => Foot D M lv k ∨ k = P) w w' ∧ (∀ k, Foot D M lv' k → Foot D M lv k ∨ w.heap.size ≤ k)
set_option maxRecDepth 100000 in
set_option maxHeartbeats 2000000 in
theorem turnTo_any (B D M : Nat) (nb rm : Int) (P : Nat) (fi sz : Int) (a b c ep en : Nat) (av : Value) (s : DS) (lv : Value) (w : World) (hd : DkS w B D M nb rm s lv) (h : LgIs w P D fi sz a b c av) (hP : ¬ Foot D M lv P) (hfi : 0 ≤ fi ∧ fi ≤ 4096)
  (ha : a < 4611686018427387904) (hep : ep < 4611686018427387904) (hen : en < 4611686018427387904) (hL : s.L.length ≤ 268435456) :
  Calls Tryz.prog 97 #[.pointer (some ⟨P, 0, none⟩), .int .u64 (ep : Int), .int .u64 (en : Int)] w
   (TEnds B D M nb rm P fi sz a b c av (s.wsy nb rm [(fi + ((a + 1) % 2 : Nat), mb (a + 1) ep en)]).1 (s.wsy nb rm [(fi + ((a + 1) % 2 : Nat), mb (a + 1) ep en)]).2 (a + 1) ep en lv w) := by
 have hwm := fun u lv (h : DkS u B D M nb rm s lv) => writeMark_any B D M nb rm fi sz s lv (a + 1) ep en u h hfi (by omega) (by omega) (by omega) hL
 obtain ⟨r, hr⟩ : ∃ r, s.wsy nb rm [(fi + ((a + 1) % 2 : Nat), mb (a + 1) ep en)] = r := ⟨_, rfl⟩
 rw [hr] at hwm ⊢
 obtain ⟨rs, E⟩ := r
 dsimp only at hwm ⊢
 have hea : ((a + 1 : Nat) : Int) = (a : Int) + 1 := by omega
 rw [hea] at hwm
 have HWM := hid hwm
 have HD := hid hd
 have HP := hid h
 have HLT := hid h.lt
 have HNF := hid hP
 have haB : (a : Int) + 1 ≤ 4611686018427387904 := by omega
 have hb1 : Below w.heap.size w (w.alloc (.cells #[Value.int .u64 ((a : Int) + 1), .int .u64 (ep : Int), .int .u64 (en : Int)] 107)) := (Below.refl _ _).alloc (Nat.le_refl _) _
 have HB1 := hid hb1
 have HX := hid (heap_alloc_new w (.cells #[Value.int .u64 ((a : Int) + 1), .int .u64 (ep : Int), .int .u64 (en : Int)] 107))
 have HP1 := hid ((hb1.block P h.lt).trans h)
 have HD1 := hid (hd.chg (Chg.fresh (F := fun _ => False) hb1) (fun _ _ h => h))
 have hz := zeroMark
 have h0 := (cell_of_row _ (P) 0 _ _ _ h).trans (show (#[Value.pointer (some ⟨D, 0, none⟩), .int .i64 fi, .int .i64 sz, .int .u64 (a : Int), .int .u64 (b : Int), .int .u64 (c : Int), av] : Array Value)[0]? = some (.pointer (some ⟨D, 0, none⟩)) from rfl)
 have h1 := (cell_of_row _ (P) 1 _ _ _ h).trans (show (#[Value.pointer (some ⟨D, 0, none⟩), .int .i64 fi, .int .i64 sz, .int .u64 (a : Int), .int .u64 (b : Int), .int .u64 (c : Int), av] : Array Value)[1]? = some (.int .i64 fi) from rfl)
 have h2 := (cell_of_row _ (P) 2 _ _ _ h).trans (show (#[Value.pointer (some ⟨D, 0, none⟩), .int .i64 fi, .int .i64 sz, .int .u64 (a : Int), .int .u64 (b : Int), .int .u64 (c : Int), av] : Array Value)[2]? = some (.int .i64 sz) from rfl)
 have h3 := (cell_of_row _ (P) 3 _ _ _ h).trans (show (#[Value.pointer (some ⟨D, 0, none⟩), .int .i64 fi, .int .i64 sz, .int .u64 (a : Int), .int .u64 (b : Int), .int .u64 (c : Int), av] : Array Value)[3]? = some (.int .u64 (a : Int)) from rfl)
 have h4 := (cell_of_row _ (P) 4 _ _ _ h).trans (show (#[Value.pointer (some ⟨D, 0, none⟩), .int .i64 fi, .int .i64 sz, .int .u64 (a : Int), .int .u64 (b : Int), .int .u64 (c : Int), av] : Array Value)[4]? = some (.int .u64 (b : Int)) from rfl)
 have h5 := (cell_of_row _ (P) 5 _ _ _ h).trans (show (#[Value.pointer (some ⟨D, 0, none⟩), .int .i64 fi, .int .i64 sz, .int .u64 (a : Int), .int .u64 (b : Int), .int .u64 (c : Int), av] : Array Value)[5]? = some (.int .u64 (c : Int)) from rfl)
 have h6 := (cell_of_row _ (P) 6 _ _ _ h).trans (show (#[Value.pointer (some ⟨D, 0, none⟩), .int .i64 fi, .int .i64 sz, .int .u64 (a : Int), .int .u64 (b : Int), .int .u64 (c : Int), av] : Array Value)[6]? = some av from rfl)
 clear hb1 h hd hP hwm hr
 go_enter Tryz.func97, Tryz.ntmps97
 go_wp2_with fail
 generalize hw1 : w.alloc (.cells #[Value.int .u64 ((a : Int) + 1), .int .u64 (ep : Int), .int .u64 (en : Int)] 107) = w1 at *
 have HW1 := hid hw1
 have HS1 := hid (show w.heap.size < w1.heap.size from (Array.getElem?_eq_some_iff.1 HX.out).1)
 have HS := hid (show w1.drew.heap[P]? = some (.cells #[Value.pointer (some ⟨D, 0, none⟩), .int .i64 fi, .int .i64 sz, .int .u64 (a : Int), .int .u64 (b : Int), .int .u64 (c : Int), av] 116 (0, 0)) ∧ w1.drew.heap[w.heap.size]? = some (.cells #[Value.int .u64 ((a : Int) + 1), .int .u64 (ep : Int), .int .u64 (en : Int)] 107 (0, 0)) from ⟨HP1.out, HX.out⟩)
 clear hz h0 h1 h2 h3 h4 h5 h6 ha hep hen haB
 refine wp_region_held_drew (S := fun u => u.heap[P]? = some (.cells #[Value.pointer (some ⟨D, 0, none⟩), .int .i64 fi, .int .i64 sz, .int .u64 (a : Int), .int .u64 (b : Int), .int .u64 (c : Int), av] 116 (0, 0)) ∧ u.heap[w.heap.size]? = some (.cells #[Value.int .u64 ((a : Int) + 1), .int .u64 (ep : Int), .int .u64 (en : Int)] 107 (0, 0))) (by kernel_rfl) (HS.out) (fun hHeld => ?_)
 refine tk (i := 0) (oi := ⟨some 18, .move (.tmp 0), 71, "log.go:110", #[], none⟩) (v := ?_) (Or.inl ⟨by rfl, ?_⟩) ?_
 rotate_left 1
 ·(intro u hSw; go_simp; try with_reducible rfl)
 try simp only [Act.put, sA, sB, sC]
 refine tk (i := 1) (oi := ⟨some 19, .nilCheck (.tmp 18), 0, "log.go:110", #[⟨0, .data⟩], none⟩) (v := ?_) (Or.inl ⟨by rfl, ?_⟩) ?_
 rotate_left 1
 ·(intro u hSw; go_simp; try with_reducible rfl)
 try simp only [Act.put, sA, sB, sC]
 refine tk (i := 2) (oi := ⟨some 20, .fieldAddr 116 (.tmp 19) 0, 0, "log.go:110", #[⟨1, .data⟩], none⟩) (v := ?_) (Or.inl ⟨by rfl, ?_⟩) ?_
 rotate_left 1
 ·(intro u hSw; go_simp; try with_reducible rfl)
 try simp only [Act.put, sA, sB, sC]
 refine tk (i := 3) (oi := ⟨some 21, .load 103 (.tmp 20), 103, "log.go:110", #[⟨2, .data⟩], none⟩) (v := ?_) (Or.inl ⟨by rfl, ?_⟩) ?_
 rotate_left 1
 ·intro u hSw
  have p0 := (cell_of_row u (P) 0 _ _ _ hSw.1).trans (show (#[Value.pointer (some ⟨D, 0, none⟩), .int .i64 fi, .int .i64 sz, .int .u64 (a : Int), .int .u64 (b : Int), .int .u64 (c : Int), av] : Array Value)[0]? = some (.pointer (some ⟨D, 0, none⟩)) from rfl); have p1 := (cell_of_row u (P) 1 _ _ _ hSw.1).trans (show (#[Value.pointer (some ⟨D, 0, none⟩), .int .i64 fi, .int .i64 sz, .int .u64 (a : Int), .int .u64 (b : Int), .int .u64 (c : Int), av] : Array Value)[1]? = some (.int .i64 fi) from rfl); have p2 := (cell_of_row u (P) 2 _ _ _ hSw.1).trans (show (#[Value.pointer (some ⟨D, 0, none⟩), .int .i64 fi, .int .i64 sz, .int .u64 (a : Int), .int .u64 (b : Int), .int .u64 (c : Int), av] : Array Value)[2]? = some (.int .i64 sz) from rfl); have p3 := (cell_of_row u (P) 3 _ _ _ hSw.1).trans (show (#[Value.pointer (some ⟨D, 0, none⟩), .int .i64 fi, .int .i64 sz, .int .u64 (a : Int), .int .u64 (b : Int), .int .u64 (c : Int), av] : Array Value)[3]? = some (.int .u64 (a : Int)) from rfl); have p4 := (cell_of_row u (P) 4 _ _ _ hSw.1).trans (show (#[Value.pointer (some ⟨D, 0, none⟩), .int .i64 fi, .int .i64 sz, .int .u64 (a : Int), .int .u64 (b : Int), .int .u64 (c : Int), av] : Array Value)[4]? = some (.int .u64 (b : Int)) from rfl); have p5 := (cell_of_row u (P) 5 _ _ _ hSw.1).trans (show (#[Value.pointer (some ⟨D, 0, none⟩), .int .i64 fi, .int .i64 sz, .int .u64 (a : Int), .int .u64 (b : Int), .int .u64 (c : Int), av] : Array Value)[5]? = some (.int .u64 (c : Int)) from rfl); have p6 := (cell_of_row u (P) 6 _ _ _ hSw.1).trans (show (#[Value.pointer (some ⟨D, 0, none⟩), .int .i64 fi, .int .i64 sz, .int .u64 (a : Int), .int .u64 (b : Int), .int .u64 (c : Int), av] : Array Value)[6]? = some av from rfl)
  go_simp
  try with_reducible rfl
 try simp only [Act.put, sA, sB, sC]
 refine tk (i := 4) (oi := ⟨some 22, .load 107 (.tmp 7), 107, "log.go:110", #[], none⟩) (v := ?_) (Or.inl ⟨by rfl, ?_⟩) ?_
 rotate_left 1
 ·intro u hSw
  have m0 := (cell_of_row u (w.heap.size) 0 _ _ _ hSw.2).trans (show (#[Value.int .u64 ((a : Int) + 1), .int .u64 (ep : Int), .int .u64 (en : Int)] : Array Value)[0]? = some (.int .u64 ((a : Int) + 1)) from rfl); have m1 := (cell_of_row u (w.heap.size) 1 _ _ _ hSw.2).trans (show (#[Value.int .u64 ((a : Int) + 1), .int .u64 (ep : Int), .int .u64 (en : Int)] : Array Value)[1]? = some (.int .u64 (ep : Int)) from rfl); have m2 := (cell_of_row u (w.heap.size) 2 _ _ _ hSw.2).trans (show (#[Value.int .u64 ((a : Int) + 1), .int .u64 (ep : Int), .int .u64 (en : Int)] : Array Value)[2]? = some (.int .u64 (en : Int)) from rfl)
  go_simp
  try with_reducible rfl
 try simp only [Act.put, sA, sB, sC]
 refine wpAnyH_ready (rs := [5]) (by kernel_rfl) (by simp) ?_
 refine AllReadyH.cons (o := ⟨some 23, .call ⟨.value (.func 107), #[.tmp 21, .tmp 22], #[103, 107]⟩, 28, "log.go:110", #[⟨3, .data⟩, ⟨4, .data⟩], none⟩) rfl (fun K hK => ?_) AllReadyH.nil
 go_simp
 go_at_call 107
 refine (HWM.out w1.drew lv (HD1.out.kept (fun _ _ => rfl))).mono ?_
 rintro e w2 ⟨rfl, lv2, hdk, hch, hft⟩
 have HD2 := hid hdk
 have HC2 := hid (show Chg (Foot D M lv) w1 w2 from ((Chg.refl (Foot D M lv) w1).drew).trans hch (fun _ h => .inl h))
 have HF2 := hid (show ∀ k, Foot D M lv2 k → Foot D M lv k ∨ w1.heap.size ≤ k from hft)
 have HP2 := hid ((HC2.out.block P (by have := HLT.out; have := HB1.out.size; omega) HNF.out).trans HP1.out)
 have HX2 := hid ((HC2.out.block w.heap.size HS1.out (fun e => by have := (HD.out.foot _ e).2; omega)).trans HX.out)
 clear hdk hch hft
 go_wp2_with fail
 refine hK.out _ _ ⟨HP2.out, HX2.out⟩ (fun hHeld => ?_)
 clear hK K
 try simp only [Act.put, sA, sB, sC]
 refine tk (i := 6) (oi := ⟨some 8, .assign (.tmp 23), 28, "log.go:110", #[⟨5, .data⟩, ⟨5, .chain⟩, ⟨0, .phase⟩, ⟨1, .phase⟩, ⟨2, .phase⟩, ⟨3, .phase⟩, ⟨4, .phase⟩, ⟨5, .phase⟩], none⟩) (v := ?_) (Or.inl ⟨by rfl, ?_⟩) ?_
 rotate_left 1
 ·(intro u hSw; go_simp; try with_reducible rfl)
 try simp only [Act.put, sA, sB, sC]
 refine wpAnyH_done (by kernel_rfl) ?_ _
 have HCW := hid (show Chg (fun k => Foot D M lv k ∨ k = P) w w2 from (Chg.fresh HB1.out).trans HC2.out (fun _ h => .inl (.inl h)))
 have HFW := hid (show ∀ k, Foot D M lv2 k → Foot D M lv k ∨ w.heap.size ≤ k from fun k hk => (HF2.out k hk).elim .inl (fun h => .inr (by have := HS1.out; omega)))
 have HPF := hid (show ¬ Foot D M lv2 P from fun e => (HF2.out P e).elim HNF.out (fun h => by have := HLT.out; have := HS1.out; omega))
 by_cases hE : E = 0
 ·have hE2 := hE
  have x0 := (cell_of_row _ (P) 0 _ _ _ HP2.out).trans (show (#[Value.pointer (some ⟨D, 0, none⟩), .int .i64 fi, .int .i64 sz, .int .u64 (a : Int), .int .u64 (b : Int), .int .u64 (c : Int), av] : Array Value)[0]? = some (.pointer (some ⟨D, 0, none⟩)) from rfl)
  have x1 := (cell_of_row _ (P) 1 _ _ _ HP2.out).trans (show (#[Value.pointer (some ⟨D, 0, none⟩), .int .i64 fi, .int .i64 sz, .int .u64 (a : Int), .int .u64 (b : Int), .int .u64 (c : Int), av] : Array Value)[1]? = some (.int .i64 fi) from rfl)
  have x2 := (cell_of_row _ (P) 2 _ _ _ HP2.out).trans (show (#[Value.pointer (some ⟨D, 0, none⟩), .int .i64 fi, .int .i64 sz, .int .u64 (a : Int), .int .u64 (b : Int), .int .u64 (c : Int), av] : Array Value)[2]? = some (.int .i64 sz) from rfl)
  have x3 := (cell_of_row _ (P) 3 _ _ _ HP2.out).trans (show (#[Value.pointer (some ⟨D, 0, none⟩), .int .i64 fi, .int .i64 sz, .int .u64 (a : Int), .int .u64 (b : Int), .int .u64 (c : Int), av] : Array Value)[3]? = some (.int .u64 (a : Int)) from rfl)
  have x4 := (cell_of_row _ (P) 4 _ _ _ HP2.out).trans (show (#[Value.pointer (some ⟨D, 0, none⟩), .int .i64 fi, .int .i64 sz, .int .u64 (a : Int), .int .u64 (b : Int), .int .u64 (c : Int), av] : Array Value)[4]? = some (.int .u64 (b : Int)) from rfl)
  have x5 := (cell_of_row _ (P) 5 _ _ _ HP2.out).trans (show (#[Value.pointer (some ⟨D, 0, none⟩), .int .i64 fi, .int .i64 sz, .int .u64 (a : Int), .int .u64 (b : Int), .int .u64 (c : Int), av] : Array Value)[5]? = some (.int .u64 (c : Int)) from rfl)
  have x6 := (cell_of_row _ (P) 6 _ _ _ HP2.out).trans (show (#[Value.pointer (some ⟨D, 0, none⟩), .int .i64 fi, .int .i64 sz, .int .u64 (a : Int), .int .u64 (b : Int), .int .u64 (c : Int), av] : Array Value)[6]? = some av from rfl)
  have f3 := frozen_of_row _ P 3 _ _ HP2.out
  have f4 := frozen_of_row _ P 4 _ _ HP2.out
  have f5 := frozen_of_row _ P 5 _ _ HP2.out
  have y0 := (cell_of_row _ (w.heap.size) 0 _ _ _ HX2.out).trans (show (#[Value.int .u64 ((a : Int) + 1), .int .u64 (ep : Int), .int .u64 (en : Int)] : Array Value)[0]? = some (.int .u64 ((a : Int) + 1)) from rfl)
  have y1 := (cell_of_row _ (w.heap.size) 1 _ _ _ HX2.out).trans (show (#[Value.int .u64 ((a : Int) + 1), .int .u64 (ep : Int), .int .u64 (en : Int)] : Array Value)[1]? = some (.int .u64 (ep : Int)) from rfl)
  have y2 := (cell_of_row _ (w.heap.size) 2 _ _ _ HX2.out).trans (show (#[Value.int .u64 ((a : Int) + 1), .int .u64 (ep : Int), .int .u64 (en : Int)] : Array Value)[2]? = some (.int .u64 (en : Int)) from rfl)
  go_wp2_with fail
  go_ret
  have hg : Chg (fun k => k = P) w2 (((w2.setCell ⟨P, 3, none⟩ (.int .u64 ((a : Int) + 1))).setCell ⟨P, 4, none⟩ (.int .u64 (ep : Int))).setCell ⟨P, 5, none⟩ (.int .u64 (en : Int))) := (((Chg.refl (fun k => k = P) w2).setCell ⟨P, 3, none⟩ _ (.inl rfl)).setCell ⟨P, 4, none⟩ _ (.inl rfl)).setCell ⟨P, 5, none⟩ _ (.inl rfl)
  refine ⟨by rw [hE]; rfl, lv2, HD2.out.chg hg (fun k hk e => HPF.out (by rw [← e]; exact hk)), ?_, HCW.out.trans hg (fun k hk => .inl (.inr hk)), HFW.out⟩
  rw [if_pos hE, if_pos hE, if_pos hE]
  unfold LgIs
  rw [show ((a + 1 : Nat) : Int) = (a : Int) + 1 by omega]
  have hq := set345 w2 P _ _ _ _ _ _ _ (.int .u64 ((a : Int) + 1)) (.int .u64 (ep : Int)) (.int .u64 (en : Int)) _ HP2.out
  exact hq
 ·go_wp2_with fail
  go_ret
  refine ⟨rfl, lv2, HD2.out, ?_, HCW.out, HFW.out⟩
  rw [if_neg hE, if_neg hE, if_neg hE]
  exact HP2.out
end Go.Proofs.YtdkjkibdncbibaaGreat
