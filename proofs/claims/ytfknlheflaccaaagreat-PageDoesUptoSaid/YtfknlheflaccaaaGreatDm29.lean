/- the law's step: Put, Get, Free, SetRoot, Root and Changed; every kind -/
import Derived.Test.YtfknlheflaccaaaGreatDm28
namespace Go.Proofs.YtfknlheflaccaaaGreat
open Go.RowKit
section
variable {k : PK} {Bx P : Nat} {t t' : TV} {w w' : World}
set_option maxRecDepth 100000 in
set_option maxHeartbeats 2000000 in
theorem step5_put (h : Two k Bx P t w) (xk xn xb : Int) (hk : xk = 0) (hn : xn ≤ 9223372036854775807) (hb0 : 0 ≤ xb) (hb1 : xb < 256) (ha : t.v.a + 2 < 1099511627776) (hbb : t.v.b + 1 < 1099511627776) :
  Calls Tryz.prog 13 #[.pointer (some ⟨k.P, 0, none⟩), .pointer (some ⟨P, 0, none⟩), .agg #[.int .i64 xk, .int .i64 xn, .int .u8 xb]] w fun e w' => e = .returned (.bool true) ∧ ∃ t', TE k Bx P t w t' w' := by
 subst hk
 have hbx : Below w.heap.size w (w.alloc (.cells #[.int .i64 0, .int .i64 xn, .int .u8 xb] 36)) := (Below.refl _ _).alloc (Nat.le_refl _) _
 have h1 := (h.fresh hbx).1
 have HBX := Lib.hid hbx
 have HW := Lib.hid h
 have HT := Lib.hid h1
 have HNB := Lib.hid (show ¬ TF k P t w.heap.size from fun e => Nat.lt_irrefl _ (h.lt _ e))
 have HX := Lib.hid (heap_alloc_new w (.cells #[.int .i64 0, .int .i64 xn, .int .u8 xb] 36))
 have d0 := (cell_of_row _ w.heap.size 0 _ _ _ HX.out).trans (show (#[Value.int .i64 0, .int .i64 xn, .int .u8 xb] : Array Value)[0]? = some (.int .i64 0) from rfl)
 have d1 := (cell_of_row _ w.heap.size 1 _ _ _ HX.out).trans (show (#[Value.int .i64 0, .int .i64 xn, .int .u8 xb] : Array Value)[1]? = some (.int .i64 xn) from rfl)
 have d2 := (cell_of_row _ w.heap.size 2 _ _ _ HX.out).trans (show (#[Value.int .i64 0, .int .i64 xn, .int .u8 xb] : Array Value)[2]? = some (.int .u8 xb) from rfl)
 have HD := Lib.hid (show Below w.heap.size w (w.alloc (.cells #[.int .i64 0, .int .i64 xn, .int .u8 xb] 36)).drew from hbx.drew)
 have hd := (h.fresh HD.out).1
 have HXD := Lib.hid (show (w.alloc (.cells #[.int .i64 0, .int .i64 xn, .int .u8 xb] 36)).drew.heap[w.heap.size]? = some (.cells #[.int .i64 0, .int .i64 xn, .int .u8 xb] 36 (0, 0)) from HX.out)
 have HSZ := Lib.hid (show w.heap.size < (w.alloc (.cells #[.int .i64 0, .int .i64 xn, .int .u8 xb] 36)).drew.heap.size from (Array.getElem?_eq_some_iff.1 HX.out).1)
 have HBL := Lib.hid (block5_any xb (w.alloc (.cells #[.int .i64 0, .int .i64 xn, .int .u8 xb] 36)).drew hb0)
 have HNN := Lib.hid hn
 have HB0 := Lib.hid hb0
 clear h h1 hbx hn hb0 hb1 ha hbb hd
 go_enter Tryz.func13, Tryz.ntmps13
 go_wp2_with fail
 refine wp_region_held_drew (S := fun u => u.heap[w.heap.size]? = some (.cells #[.int .i64 0, .int .i64 xn, .int .u8 xb] 36 (0, 0))) (by kernel_rfl) (HXD.out) (fun hHeld => ?_)
 refine wpAnyH_take (i := 0) (oi := ({ dst := some 35, op := .move (.tmp 0), type := 30, pos := "law.go:54", after := #[], guard := none } : Oper)) (v := ?_) rfl (by kernel_rfl) (by kernel_rfl) (by kernel_rfl) (fun _ _ _ h => h) (Or.inl ⟨by rfl, ?_⟩) (by assumption) ?_
 rotate_left 1
 ·(intro u hSw; go_simp; try with_reducible rfl)
 try simp only [Act.put, List.setIfInBounds_toArray, List.set_cons_zero, List.set_cons_succ]
 refine wpAnyH_take (i := 1) (oi := ({ dst := some 36, op := .fieldAddr 36 (.tmp 5) 1, type := 0, pos := "law.go:54", after := #[], guard := none } : Oper)) (v := ?_) rfl (by kernel_rfl) (by kernel_rfl) (by kernel_rfl) (fun _ _ _ h => h) (Or.inl ⟨by rfl, ?_⟩) (by assumption) ?_
 rotate_left 1
 ·(intro u hSw; go_simp; try with_reducible rfl)
 try simp only [Act.put, List.setIfInBounds_toArray, List.set_cons_zero, List.set_cons_succ]
 refine wpAnyH_take (i := 2) (oi := ({ dst := some 37, op := .load 3 (.tmp 36), type := 3, pos := "law.go:54", after := #[{ on := 1, ground := .data }], guard := none } : Oper)) (v := ?_) rfl (by kernel_rfl) (by kernel_rfl) (by kernel_rfl) (fun _ _ _ h => h) (Or.inl ⟨by rfl, ?_⟩) (by assumption) ?_
 rotate_left 1
 ·(intro u hSw; have p1 := (cell_of_row u w.heap.size 1 _ _ _ hSw).trans (show (#[Value.int .i64 0, .int .i64 xn, .int .u8 xb] : Array Value)[1]? = some (.int .i64 xn) from rfl); have p2 := (cell_of_row u w.heap.size 2 _ _ _ hSw).trans (show (#[Value.int .i64 0, .int .i64 xn, .int .u8 xb] : Array Value)[2]? = some (.int .u8 xb) from rfl); go_simp; try with_reducible rfl)
 try simp only [Act.put, List.setIfInBounds_toArray, List.set_cons_zero, List.set_cons_succ]
 refine wpAnyH_take (i := 3) (oi := ({ dst := some 38, op := .fieldAddr 36 (.tmp 5) 2, type := 0, pos := "law.go:54", after := #[], guard := none } : Oper)) (v := ?_) rfl (by kernel_rfl) (by kernel_rfl) (by kernel_rfl) (fun _ _ _ h => h) (Or.inl ⟨by rfl, ?_⟩) (by assumption) ?_
 rotate_left 1
 ·(intro u hSw; go_simp; try with_reducible rfl)
 try simp only [Act.put, List.setIfInBounds_toArray, List.set_cons_zero, List.set_cons_succ]
 refine wpAnyH_take (i := 4) (oi := ({ dst := some 39, op := .load 5 (.tmp 38), type := 5, pos := "law.go:54", after := #[{ on := 3, ground := .data }], guard := none } : Oper)) (v := ?_) rfl (by kernel_rfl) (by kernel_rfl) (by kernel_rfl) (fun _ _ _ h => h) (Or.inl ⟨by rfl, ?_⟩) (by assumption) ?_
 rotate_left 1
 ·(intro u hSw; have p1 := (cell_of_row u w.heap.size 1 _ _ _ hSw).trans (show (#[Value.int .i64 0, .int .i64 xn, .int .u8 xb] : Array Value)[1]? = some (.int .i64 xn) from rfl); have p2 := (cell_of_row u w.heap.size 2 _ _ _ hSw).trans (show (#[Value.int .i64 0, .int .i64 xn, .int .u8 xb] : Array Value)[2]? = some (.int .u8 xb) from rfl); go_simp; try with_reducible rfl)
 try simp only [Act.put, List.setIfInBounds_toArray, List.set_cons_zero, List.set_cons_succ]
 refine wpAnyH_take (i := 7) (oi := ({ dst := some 42, op := .move (.tmp 1), type := 33, pos := "law.go:54", after := #[], guard := none } : Oper)) (v := ?_) rfl (by kernel_rfl) (by kernel_rfl) (by kernel_rfl) (fun _ _ _ h => h) (Or.inl ⟨by rfl, ?_⟩) (by assumption) ?_
 rotate_left 1
 ·(intro u hSw; go_simp; try with_reducible rfl)
 try simp only [Act.put, List.setIfInBounds_toArray, List.set_cons_zero, List.set_cons_succ]
 refine wpAnyH_take (i := 8) (oi := ({ dst := some 43, op := .fieldAddr 36 (.tmp 5) 1, type := 0, pos := "law.go:54", after := #[], guard := none } : Oper)) (v := ?_) rfl (by kernel_rfl) (by kernel_rfl) (by kernel_rfl) (fun _ _ _ h => h) (Or.inl ⟨by rfl, ?_⟩) (by assumption) ?_
 rotate_left 1
 ·(intro u hSw; go_simp; try with_reducible rfl)
 try simp only [Act.put, List.setIfInBounds_toArray, List.set_cons_zero, List.set_cons_succ]
 refine wpAnyH_take (i := 9) (oi := ({ dst := some 44, op := .load 3 (.tmp 43), type := 3, pos := "law.go:54", after := #[{ on := 8, ground := .data }], guard := none } : Oper)) (v := ?_) rfl (by kernel_rfl) (by kernel_rfl) (by kernel_rfl) (fun _ _ _ h => h) (Or.inl ⟨by rfl, ?_⟩) (by assumption) ?_
 rotate_left 1
 ·(intro u hSw; have p1 := (cell_of_row u w.heap.size 1 _ _ _ hSw).trans (show (#[Value.int .i64 0, .int .i64 xn, .int .u8 xb] : Array Value)[1]? = some (.int .i64 xn) from rfl); have p2 := (cell_of_row u w.heap.size 2 _ _ _ hSw).trans (show (#[Value.int .i64 0, .int .i64 xn, .int .u8 xb] : Array Value)[2]? = some (.int .u8 xb) from rfl); go_simp; try with_reducible rfl)
 try simp only [Act.put, List.setIfInBounds_toArray, List.set_cons_zero, List.set_cons_succ]
 refine wpAnyH_take (i := 10) (oi := ({ dst := some 45, op := .fieldAddr 36 (.tmp 5) 2, type := 0, pos := "law.go:54", after := #[], guard := none } : Oper)) (v := ?_) rfl (by kernel_rfl) (by kernel_rfl) (by kernel_rfl) (fun _ _ _ h => h) (Or.inl ⟨by rfl, ?_⟩) (by assumption) ?_
 rotate_left 1
 ·(intro u hSw; go_simp; try with_reducible rfl)
 try simp only [Act.put, List.setIfInBounds_toArray, List.set_cons_zero, List.set_cons_succ]
 refine wpAnyH_take (i := 11) (oi := ({ dst := some 46, op := .load 5 (.tmp 45), type := 5, pos := "law.go:54", after := #[{ on := 10, ground := .data }], guard := none } : Oper)) (v := ?_) rfl (by kernel_rfl) (by kernel_rfl) (by kernel_rfl) (fun _ _ _ h => h) (Or.inl ⟨by rfl, ?_⟩) (by assumption) ?_
 rotate_left 1
 ·(intro u hSw; have p1 := (cell_of_row u w.heap.size 1 _ _ _ hSw).trans (show (#[Value.int .i64 0, .int .i64 xn, .int .u8 xb] : Array Value)[1]? = some (.int .i64 xn) from rfl); have p2 := (cell_of_row u w.heap.size 2 _ _ _ hSw).trans (show (#[Value.int .i64 0, .int .i64 xn, .int .u8 xb] : Array Value)[2]? = some (.int .u8 xb) from rfl); go_simp; try with_reducible rfl)
 try simp only [Act.put, List.setIfInBounds_toArray, List.set_cons_zero, List.set_cons_succ]
 refine wpAnyH_ready (rs := [5]) (by kernel_rfl) (by simp) ?_
 refine (AllReadyH.cons (o := ({ dst := some 40, op := .call { callee := Callee.value (Operand.func 25), args := #[.tmp 39], argTypes := #[5] }, type := 50, pos := "law.go:54", after := #[{ on := 4, ground := .data }], guard := none } : Oper)) rfl (fun K hK => ?_) AllReadyH.nil)
 go_simp
 refine HBL.out.mono ?_
 rintro e w1 ⟨rfl, hb1⟩
 have HB1 := Lib.hid (show Below w.heap.size w w1 from HD.out.trans (hb1.mono HD.out.size))
 have HX1 := Lib.hid ((hb1.block w.heap.size HSZ.out).trans HXD.out)
 have HC := Lib.hid (two_put (HW.out.fresh HB1.out).1 xn (blk5 xb) HNN.out (blk5_len xb) (blk5_rng xb HB0.out))
 have HS1 := Lib.hid (Nat.lt_of_lt_of_le HSZ.out hb1.size)
 clear hb1
 go_wp2_with fail
 refine hK.out _ _ HX1.out (fun hHeld => ?_)
 clear hK K
 try simp only [Act.put, List.setIfInBounds_toArray, List.set_cons_zero, List.set_cons_succ]
 refine wpAnyH_ready (rs := [6]) (by kernel_rfl) (by simp) ?_
 refine (AllReadyH.cons (o := ({ dst := some 41, op := .call { callee := Callee.value (Operand.func 24), args := #[.tmp 35, .tmp 37, .tmp 40], argTypes := #[30, 3, 50] }, type := 28, pos := "law.go:54", after := #[{ on := 0, ground := .data }, { on := 2, ground := .data }, { on := 5, ground := .data }, { on := 5, ground := .chain }], guard := none } : Oper)) rfl (fun K hK => ?_) AllReadyH.nil)
 go_simp
 refine HC.out.mono ?_
 rintro e w2 ⟨E, rfl, hc, hnx⟩
 have HX2 := Lib.hid ((hc.block w.heap.size HS1.out HNB.out).trans HX1.out)
 have HS2 := Lib.hid (Nat.lt_of_lt_of_le HS1.out hc.size)
 have HNX := Lib.hid hnx
 have HBL2 := Lib.hid (block5_any xb w2 HB0.out)
 clear hnx hc
 go_wp2_with fail
 refine hK.out _ _ HX2.out (fun hHeld => ?_)
 clear hK K
 try simp only [Act.put, List.setIfInBounds_toArray, List.set_cons_zero, List.set_cons_succ]
 refine wpAnyH_ready (rs := [12]) (by kernel_rfl) (by simp) ?_
 refine (AllReadyH.cons (o := ({ dst := some 47, op := .call { callee := Callee.value (Operand.func 25), args := #[.tmp 46], argTypes := #[5] }, type := 50, pos := "law.go:54", after := #[{ on := 11, ground := .data }, { on := 6, ground := .chain }], guard := none } : Oper)) rfl (fun K hK => ?_) AllReadyH.nil)
 go_simp
 refine HBL2.out.mono ?_
 rintro e w3 ⟨rfl, hb3⟩
 have HX3 := Lib.hid ((hb3.block w.heap.size HS2.out).trans HX2.out)
 have HN3 := Lib.hid (HNX.out w3 hb3)
 clear hb3
 go_wp2_with fail
 refine hK.out _ _ HX3.out (fun hHeld => ?_)
 clear hK K
 try simp only [Act.put, List.setIfInBounds_toArray, List.set_cons_zero, List.set_cons_succ]
 refine wpAnyH_ready (rs := [13]) (by kernel_rfl) (by simp) ?_
 refine (AllReadyH.cons (o := ({ dst := some 48, op := .call { callee := Callee.value (Operand.func 53), args := #[.tmp 42, .tmp 44, .tmp 47], argTypes := #[33, 3, 50] }, type := 28, pos := "law.go:54", after := #[{ on := 7, ground := .data }, { on := 9, ground := .data }, { on := 12, ground := .data }, { on := 12, ground := .chain }], guard := none } : Oper)) rfl (fun K hK => ?_) AllReadyH.nil)
 go_simp
 refine HN3.out.mono ?_
 rintro e w4 ⟨rfl, t', hte⟩
 have HX4 := Lib.hid ((hte.2.1.block w.heap.size HS1.out HNB.out).trans HX1.out)
 have HTE := Lib.hid hte
 clear hte
 go_wp2_with fail
 refine hK.out _ _ HX4.out (fun hHeld => ?_)
 clear hK K
 try simp only [Act.put, List.setIfInBounds_toArray, List.set_cons_zero, List.set_cons_succ]
 refine wpAnyH_take (i := 14) (oi := ({ dst := some 49, op := .binOp BinOp.eql 28 (.tmp 41) (.tmp 48) 28, type := 4, pos := "law.go:54", after := #[{ on := 6, ground := .data }, { on := 13, ground := .data }], guard := none } : Oper)) (v := ?_) rfl (by kernel_rfl) (by kernel_rfl) (by kernel_rfl) (fun _ _ _ h => h) (Or.inl ⟨by rfl, ?_⟩) (by assumption) ?_
 rotate_left 1
 ·(intro u hSw; go_simp; try with_reducible rfl)
 try simp only [Act.put, List.setIfInBounds_toArray, List.set_cons_zero, List.set_cons_succ]
 refine wpAnyH_take (i := 15) (oi := ({ dst := some 6, op := .assign (.tmp 49), type := 4, pos := "law.go:54", after := #[{ on := 14, ground := .data }, { on := 13, ground := .chain }, { on := 0, ground := .phase }, { on := 1, ground := .phase }, { on := 2, ground := .phase }, { on := 3, ground := .phase }, { on := 4, ground := .phase }, { on := 5, ground := .phase }, { on := 6, ground := .phase }, { on := 7, ground := .phase }, { on := 8, ground := .phase }, { on := 9, ground := .phase }, { on := 10, ground := .phase }, { on := 11, ground := .phase }, { on := 12, ground := .phase }, { on := 13, ground := .phase }, { on := 14, ground := .phase }], guard := none } : Oper)) (v := ?_) rfl (by kernel_rfl) (by kernel_rfl) (by kernel_rfl) (fun _ _ _ h => h) (Or.inl ⟨by rfl, ?_⟩) (by assumption) ?_
 rotate_left 1
 ·(intro u hSw; go_simp; try with_reducible rfl)
 try simp only [Act.put, List.setIfInBounds_toArray, List.set_cons_zero, List.set_cons_succ]
 refine wpAnyH_done (by kernel_rfl) ?_ _
 go_wp2_with fail
 go_ret
 exact ⟨by simp, t', TE.pre HW.out HB1.out HTE.out⟩
set_option maxRecDepth 100000 in
set_option maxHeartbeats 2000000 in
theorem step5_get (h : Two k Bx P t w) (xk xn xb : Int) (hk : xk = 1) (hn : xn ≤ 9223372036854775807) (hb0 : 0 ≤ xb) (hb1 : xb < 256) (ha : t.v.a + 2 < 1099511627776) (hbb : t.v.b + 1 < 1099511627776) :
  Calls Tryz.prog 13 #[.pointer (some ⟨k.P, 0, none⟩), .pointer (some ⟨P, 0, none⟩), .agg #[.int .i64 xk, .int .i64 xn, .int .u8 xb]] w fun e w' => e = .returned (.bool true) ∧ ∃ t', TE k Bx P t w t' w' := by
 subst hk
 have hbx : Below w.heap.size w (w.alloc (.cells #[.int .i64 1, .int .i64 xn, .int .u8 xb] 36)) := (Below.refl _ _).alloc (Nat.le_refl _) _
 have h1 := (h.fresh hbx).1
 have HBX := Lib.hid hbx
 have HW := Lib.hid h
 have HT := Lib.hid h1
 have HNB := Lib.hid (show ¬ TF k P t w.heap.size from fun e => Nat.lt_irrefl _ (h.lt _ e))
 have HX := Lib.hid (heap_alloc_new w (.cells #[.int .i64 1, .int .i64 xn, .int .u8 xb] 36))
 have d0 := (cell_of_row _ w.heap.size 0 _ _ _ HX.out).trans (show (#[Value.int .i64 1, .int .i64 xn, .int .u8 xb] : Array Value)[0]? = some (.int .i64 1) from rfl)
 have d1 := (cell_of_row _ w.heap.size 1 _ _ _ HX.out).trans (show (#[Value.int .i64 1, .int .i64 xn, .int .u8 xb] : Array Value)[1]? = some (.int .i64 xn) from rfl)
 have d2 := (cell_of_row _ w.heap.size 2 _ _ _ HX.out).trans (show (#[Value.int .i64 1, .int .i64 xn, .int .u8 xb] : Array Value)[2]? = some (.int .u8 xb) from rfl)
 have HI35 := Lib.hid (show (Tryz.prog.info? 50).map (·.size) = some 256 by kernel_rfl)
 have SZ := Lib.hid (show (ArrU8 (zeros 256)).size = 256 by rw [ArrU8_size, zeros_len])
 have hz := zero35
 have HSZ := Lib.hid (Array.getElem?_eq_some_iff.1 HX.out).1
 have HC := Lib.hid (two_get h1 xn hn)
 clear h h1 hbx hn hb0 hb1 ha hbb
 go_enter Tryz.func13, Tryz.ntmps13
 go_wp2_with fail
 refine HC.out.mono ?_
 rintro e w1 ⟨l, E, hl, rfl, hc, hnx⟩
 have SL := Lib.hid (show (ArrU8 l).size = 256 by rw [ArrU8_size, hl])
 have HL := Lib.hid hl
 have HX1 := Lib.hid ((hc.block w.heap.size HSZ.out HNB.out).trans HX.out)
 have HS1 := Lib.hid (Nat.lt_of_lt_of_le HSZ.out hc.size)
 have HNX := Lib.hid hnx
 clear hnx hc hl d0 d1 d2
 go_wp2_with (refine wpList_store_nw rfl 50 (Operand.tmp 7) (Operand.tmp 57) rfl w1 _ 50 rfl w1.heap.size (ArrU8 l) rfl rfl rfl (by rw [HI35.out, SL.out]) (by rw [SZ.out, SL.out]) (ArrU8_one _) ?_; intro wb hd hb hs; have QB := Lib.hid hd; have XB := Lib.hid hb; have SB := Lib.hid hs; have e1 := (cell_of_row _ w.heap.size 1 _ _ _ ((hb.block w.heap.size HS1.out).trans HX1.out)).trans (show (#[Value.int .i64 1, .int .i64 xn, .int .u8 xb] : Array Value)[1]? = some (.int .i64 xn) from rfl); clear hd hb hs)
 refine (HNX.out wb XB.out).mono ?_
 rintro e w2 ⟨rfl, hbl, t', hte⟩
 have XC := Lib.hid hbl
 have HTE := Lib.hid hte
 clear hbl hte e1
 go_wp2_with (first
  | (refine wpList_store_nw rfl 50 (Operand.tmp 9) (Operand.tmp 64) rfl w2 _ 50 rfl w2.heap.size (ArrU8 l) rfl rfl rfl (by rw [HI35.out, SL.out]) (by rw [SZ.out, SL.out]) (ArrU8_one _) ?_; intro wd hd hb hs; have QD := Lib.hid hd; have XD := Lib.hid hb; have SD := Lib.hid hs; clear hd hb hs)
  | (refine wpList_load_row rfl 50 (Operand.tmp 7) rfl w1.heap.size rfl 50 (ArrU8 l) (0, 0) _ ((XD.out.block w1.heap.size (by have := XC.out.size; have := SB.out; omega)).trans ((XC.out.block w1.heap.size (by have := SB.out; omega)).trans QB.out)) Tryz.underlying50 rfl (by rw [HI35.out, SL.out]) ?_)
  | (refine wpList_load_row rfl 50 (Operand.tmp 9) rfl w2.heap.size rfl 50 (ArrU8 l) (0, 0) _ QD.out Tryz.underlying50 rfl (by rw [HI35.out, SL.out]) ?_)
  | (refine wpList_of_run rfl (exec_eql_blk (Operand.tmp 66) (Operand.tmp 67) 50 rfl l l rfl rfl HL.out HL.out true (by simp)) ?_))
 go_ret
 exact ⟨by simp, t', TE.pre HW.out HBX.out (TE.post HTE.out XD.out)⟩
set_option maxRecDepth 100000 in
set_option maxHeartbeats 2000000 in
theorem step5_free (h : Two k Bx P t w) (xk xn xb : Int) (hk : xk = 3) (hn : xn ≤ 9223372036854775807) (hb0 : 0 ≤ xb) (hb1 : xb < 256) (ha : t.v.a + 2 < 1099511627776) (hbb : t.v.b + 1 < 1099511627776) :
  Calls Tryz.prog 13 #[.pointer (some ⟨k.P, 0, none⟩), .pointer (some ⟨P, 0, none⟩), .agg #[.int .i64 xk, .int .i64 xn, .int .u8 xb]] w fun e w' => e = .returned (.bool true) ∧ ∃ t', TE k Bx P t w t' w' := by
 subst hk
 have hbx : Below w.heap.size w (w.alloc (.cells #[.int .i64 3, .int .i64 xn, .int .u8 xb] 36)) := (Below.refl _ _).alloc (Nat.le_refl _) _
 have h1 := (h.fresh hbx).1
 have HBX := Lib.hid hbx
 have HW := Lib.hid h
 have HT := Lib.hid h1
 have HNB := Lib.hid (show ¬ TF k P t w.heap.size from fun e => Nat.lt_irrefl _ (h.lt _ e))
 have HX := Lib.hid (heap_alloc_new w (.cells #[.int .i64 3, .int .i64 xn, .int .u8 xb] 36))
 have d0 := (cell_of_row _ w.heap.size 0 _ _ _ HX.out).trans (show (#[Value.int .i64 3, .int .i64 xn, .int .u8 xb] : Array Value)[0]? = some (.int .i64 3) from rfl)
 have d1 := (cell_of_row _ w.heap.size 1 _ _ _ HX.out).trans (show (#[Value.int .i64 3, .int .i64 xn, .int .u8 xb] : Array Value)[1]? = some (.int .i64 xn) from rfl)
 have d2 := (cell_of_row _ w.heap.size 2 _ _ _ HX.out).trans (show (#[Value.int .i64 3, .int .i64 xn, .int .u8 xb] : Array Value)[2]? = some (.int .u8 xb) from rfl)
 have HD := Lib.hid (show Below w.heap.size w (w.alloc (.cells #[.int .i64 3, .int .i64 xn, .int .u8 xb] 36)).drew from hbx.drew)
 have hd := (h.fresh HD.out).1
 have HXD := Lib.hid (show (w.alloc (.cells #[.int .i64 3, .int .i64 xn, .int .u8 xb] 36)).drew.heap[w.heap.size]? = some (.cells #[.int .i64 3, .int .i64 xn, .int .u8 xb] 36 (0, 0)) from HX.out)
 have HSZ := Lib.hid (show w.heap.size < (w.alloc (.cells #[.int .i64 3, .int .i64 xn, .int .u8 xb] 36)).drew.heap.size from (Array.getElem?_eq_some_iff.1 HX.out).1)
 have HC := Lib.hid (two_free hd xn hn)
 clear h h1 hbx hn hb0 hb1 ha hbb hd
 go_enter Tryz.func13, Tryz.ntmps13
 go_wp2_with fail
 refine wp_region_held_drew (S := fun u => u.heap[w.heap.size]? = some (.cells #[.int .i64 3, .int .i64 xn, .int .u8 xb] 36 (0, 0))) (by kernel_rfl) (HXD.out) (fun hHeld => ?_)
 refine wpAnyH_take (i := 0) (oi := ({ dst := some 96, op := .move (.tmp 0), type := 30, pos := "law.go:64", after := #[], guard := none } : Oper)) (v := ?_) rfl (by kernel_rfl) (by kernel_rfl) (by kernel_rfl) (fun _ _ _ h => h) (Or.inl ⟨by rfl, ?_⟩) (by assumption) ?_
 rotate_left 1
 ·(intro u hSw; go_simp; try with_reducible rfl)
 try simp only [Act.put, List.setIfInBounds_toArray, List.set_cons_zero, List.set_cons_succ]
 refine wpAnyH_take (i := 1) (oi := ({ dst := some 97, op := .fieldAddr 36 (.tmp 5) 1, type := 0, pos := "law.go:64", after := #[], guard := none } : Oper)) (v := ?_) rfl (by kernel_rfl) (by kernel_rfl) (by kernel_rfl) (fun _ _ _ h => h) (Or.inl ⟨by rfl, ?_⟩) (by assumption) ?_
 rotate_left 1
 ·(intro u hSw; go_simp; try with_reducible rfl)
 try simp only [Act.put, List.setIfInBounds_toArray, List.set_cons_zero, List.set_cons_succ]
 refine wpAnyH_take (i := 2) (oi := ({ dst := some 98, op := .load 3 (.tmp 97), type := 3, pos := "law.go:64", after := #[{ on := 1, ground := .data }], guard := none } : Oper)) (v := ?_) rfl (by kernel_rfl) (by kernel_rfl) (by kernel_rfl) (fun _ _ _ h => h) (Or.inl ⟨by rfl, ?_⟩) (by assumption) ?_
 rotate_left 1
 ·(intro u hSw; have p1 := (cell_of_row u w.heap.size 1 _ _ _ hSw).trans (show (#[Value.int .i64 3, .int .i64 xn, .int .u8 xb] : Array Value)[1]? = some (.int .i64 xn) from rfl); have p2 := (cell_of_row u w.heap.size 2 _ _ _ hSw).trans (show (#[Value.int .i64 3, .int .i64 xn, .int .u8 xb] : Array Value)[2]? = some (.int .u8 xb) from rfl); go_simp; try with_reducible rfl)
 try simp only [Act.put, List.setIfInBounds_toArray, List.set_cons_zero, List.set_cons_succ]
 refine wpAnyH_take (i := 4) (oi := ({ dst := some 100, op := .move (.tmp 1), type := 33, pos := "law.go:64", after := #[], guard := none } : Oper)) (v := ?_) rfl (by kernel_rfl) (by kernel_rfl) (by kernel_rfl) (fun _ _ _ h => h) (Or.inl ⟨by rfl, ?_⟩) (by assumption) ?_
 rotate_left 1
 ·(intro u hSw; go_simp; try with_reducible rfl)
 try simp only [Act.put, List.setIfInBounds_toArray, List.set_cons_zero, List.set_cons_succ]
 refine wpAnyH_take (i := 5) (oi := ({ dst := some 101, op := .fieldAddr 36 (.tmp 5) 1, type := 0, pos := "law.go:64", after := #[], guard := none } : Oper)) (v := ?_) rfl (by kernel_rfl) (by kernel_rfl) (by kernel_rfl) (fun _ _ _ h => h) (Or.inl ⟨by rfl, ?_⟩) (by assumption) ?_
 rotate_left 1
 ·(intro u hSw; go_simp; try with_reducible rfl)
 try simp only [Act.put, List.setIfInBounds_toArray, List.set_cons_zero, List.set_cons_succ]
 refine wpAnyH_take (i := 6) (oi := ({ dst := some 102, op := .load 3 (.tmp 101), type := 3, pos := "law.go:64", after := #[{ on := 5, ground := .data }], guard := none } : Oper)) (v := ?_) rfl (by kernel_rfl) (by kernel_rfl) (by kernel_rfl) (fun _ _ _ h => h) (Or.inl ⟨by rfl, ?_⟩) (by assumption) ?_
 rotate_left 1
 ·(intro u hSw; have p1 := (cell_of_row u w.heap.size 1 _ _ _ hSw).trans (show (#[Value.int .i64 3, .int .i64 xn, .int .u8 xb] : Array Value)[1]? = some (.int .i64 xn) from rfl); have p2 := (cell_of_row u w.heap.size 2 _ _ _ hSw).trans (show (#[Value.int .i64 3, .int .i64 xn, .int .u8 xb] : Array Value)[2]? = some (.int .u8 xb) from rfl); go_simp; try with_reducible rfl)
 try simp only [Act.put, List.setIfInBounds_toArray, List.set_cons_zero, List.set_cons_succ]
 refine wpAnyH_ready (rs := [3]) (by kernel_rfl) (by simp) ?_
 refine (AllReadyH.cons (o := ({ dst := some 99, op := .call { callee := Callee.value (Operand.func 38), args := #[.tmp 96, .tmp 98], argTypes := #[30, 3] }, type := 28, pos := "law.go:64", after := #[{ on := 0, ground := .data }, { on := 2, ground := .data }], guard := none } : Oper)) rfl (fun K hK => ?_) AllReadyH.nil)
 go_simp
 refine HC.out.mono ?_
 rintro e w1 ⟨E, rfl, hc, hnx⟩
 have HX1 := Lib.hid ((hc.block w.heap.size HSZ.out HNB.out).trans HXD.out)
 have HNX := Lib.hid (hnx w1 (Below.refl _ _))
 clear hnx hc
 go_wp2_with fail
 refine hK.out _ _ HX1.out (fun hHeld => ?_)
 clear hK K
 try simp only [Act.put, List.setIfInBounds_toArray, List.set_cons_zero, List.set_cons_succ]
 refine wpAnyH_ready (rs := [7]) (by kernel_rfl) (by simp) ?_
 refine (AllReadyH.cons (o := ({ dst := some 103, op := .call { callee := Callee.value (Operand.func 56), args := #[.tmp 100, .tmp 102], argTypes := #[33, 3] }, type := 28, pos := "law.go:64", after := #[{ on := 4, ground := .data }, { on := 6, ground := .data }, { on := 3, ground := .chain }], guard := none } : Oper)) rfl (fun K hK => ?_) AllReadyH.nil)
 go_simp
 refine HNX.out.mono ?_
 rintro e w2 ⟨rfl, t', hte⟩
 have HX2 := Lib.hid ((hte.2.1.block w.heap.size HSZ.out HNB.out).trans HXD.out)
 have HTE := Lib.hid hte
 clear hte
 go_wp2_with fail
 refine hK.out _ _ HX2.out (fun hHeld => ?_)
 clear hK K
 try simp only [Act.put, List.setIfInBounds_toArray, List.set_cons_zero, List.set_cons_succ]
 refine wpAnyH_take (i := 8) (oi := ({ dst := some 104, op := .binOp BinOp.eql 28 (.tmp 99) (.tmp 103) 28, type := 4, pos := "law.go:64", after := #[{ on := 3, ground := .data }, { on := 7, ground := .data }], guard := none } : Oper)) (v := ?_) rfl (by kernel_rfl) (by kernel_rfl) (by kernel_rfl) (fun _ _ _ h => h) (Or.inl ⟨by rfl, ?_⟩) (by assumption) ?_
 rotate_left 1
 ·(intro u hSw; go_simp; try with_reducible rfl)
 try simp only [Act.put, List.setIfInBounds_toArray, List.set_cons_zero, List.set_cons_succ]
 refine wpAnyH_take (i := 9) (oi := ({ dst := some 6, op := .assign (.tmp 104), type := 4, pos := "law.go:64", after := #[{ on := 8, ground := .data }, { on := 7, ground := .chain }, { on := 0, ground := .phase }, { on := 1, ground := .phase }, { on := 2, ground := .phase }, { on := 3, ground := .phase }, { on := 4, ground := .phase }, { on := 5, ground := .phase }, { on := 6, ground := .phase }, { on := 7, ground := .phase }, { on := 8, ground := .phase }], guard := none } : Oper)) (v := ?_) rfl (by kernel_rfl) (by kernel_rfl) (by kernel_rfl) (fun _ _ _ h => h) (Or.inl ⟨by rfl, ?_⟩) (by assumption) ?_
 rotate_left 1
 ·(intro u hSw; go_simp; try with_reducible rfl)
 try simp only [Act.put, List.setIfInBounds_toArray, List.set_cons_zero, List.set_cons_succ]
 refine wpAnyH_done (by kernel_rfl) ?_ _
 go_wp2_with fail
 go_ret
 exact ⟨by simp, t', TE.pre HW.out HD.out HTE.out⟩
set_option maxRecDepth 100000 in
set_option maxHeartbeats 2000000 in
theorem step5_setroot (h : Two k Bx P t w) (xk xn xb : Int) (hk : xk = 4) (hn : xn ≤ 9223372036854775807) (hb0 : 0 ≤ xb) (hb1 : xb < 256) (ha : t.v.a + 2 < 1099511627776) (hbb : t.v.b + 1 < 1099511627776) :
  Calls Tryz.prog 13 #[.pointer (some ⟨k.P, 0, none⟩), .pointer (some ⟨P, 0, none⟩), .agg #[.int .i64 xk, .int .i64 xn, .int .u8 xb]] w fun e w' => e = .returned (.bool true) ∧ ∃ t', TE k Bx P t w t' w' := by
 subst hk
 have hbx : Below w.heap.size w (w.alloc (.cells #[.int .i64 4, .int .i64 xn, .int .u8 xb] 36)) := (Below.refl _ _).alloc (Nat.le_refl _) _
 have h1 := (h.fresh hbx).1
 have HBX := Lib.hid hbx
 have HW := Lib.hid h
 have HT := Lib.hid h1
 have HNB := Lib.hid (show ¬ TF k P t w.heap.size from fun e => Nat.lt_irrefl _ (h.lt _ e))
 have HX := Lib.hid (heap_alloc_new w (.cells #[.int .i64 4, .int .i64 xn, .int .u8 xb] 36))
 have d0 := (cell_of_row _ w.heap.size 0 _ _ _ HX.out).trans (show (#[Value.int .i64 4, .int .i64 xn, .int .u8 xb] : Array Value)[0]? = some (.int .i64 4) from rfl)
 have d1 := (cell_of_row _ w.heap.size 1 _ _ _ HX.out).trans (show (#[Value.int .i64 4, .int .i64 xn, .int .u8 xb] : Array Value)[1]? = some (.int .i64 xn) from rfl)
 have d2 := (cell_of_row _ w.heap.size 2 _ _ _ HX.out).trans (show (#[Value.int .i64 4, .int .i64 xn, .int .u8 xb] : Array Value)[2]? = some (.int .u8 xb) from rfl)
 have HD := Lib.hid (show Below w.heap.size w (w.alloc (.cells #[.int .i64 4, .int .i64 xn, .int .u8 xb] 36)).drew from hbx.drew)
 have hd := (h.fresh HD.out).1
 have HXD := Lib.hid (show (w.alloc (.cells #[.int .i64 4, .int .i64 xn, .int .u8 xb] 36)).drew.heap[w.heap.size]? = some (.cells #[.int .i64 4, .int .i64 xn, .int .u8 xb] 36 (0, 0)) from HX.out)
 have HSZ := Lib.hid (show w.heap.size < (w.alloc (.cells #[.int .i64 4, .int .i64 xn, .int .u8 xb] 36)).drew.heap.size from (Array.getElem?_eq_some_iff.1 HX.out).1)
 obtain ⟨m, hm⟩ : ∃ m : Nat, xb = (m : Int) := ⟨xb.toNat, by omega⟩
 subst hm
 have hwm : IntKind.u64.wrap (m : Int) = (m : Int) := wrap_u64n _ (by omega) (by omega)
 have HC := Lib.hid (two_setroot hd xn m (by omega))
 clear h h1 hbx hn hb0 hb1 ha hbb hd
 go_enter Tryz.func13, Tryz.ntmps13
 go_wp2_with fail
 refine wp_region_held_drew (S := fun u => u.heap[w.heap.size]? = some (.cells #[.int .i64 4, .int .i64 xn, .int .u8 (m : Int)] 36 (0, 0))) (by kernel_rfl) (HXD.out) (fun hHeld => ?_)
 refine wpAnyH_take (i := 0) (oi := ({ dst := some 107, op := .move (.tmp 0), type := 30, pos := "law.go:66", after := #[], guard := none } : Oper)) (v := ?_) rfl (by kernel_rfl) (by kernel_rfl) (by kernel_rfl) (fun _ _ _ h => h) (Or.inl ⟨by rfl, ?_⟩) (by assumption) ?_
 rotate_left 1
 ·(intro u hSw; go_simp; try with_reducible rfl)
 try simp only [Act.put, List.setIfInBounds_toArray, List.set_cons_zero, List.set_cons_succ]
 refine wpAnyH_take (i := 1) (oi := ({ dst := some 108, op := .fieldAddr 36 (.tmp 5) 1, type := 0, pos := "law.go:66", after := #[], guard := none } : Oper)) (v := ?_) rfl (by kernel_rfl) (by kernel_rfl) (by kernel_rfl) (fun _ _ _ h => h) (Or.inl ⟨by rfl, ?_⟩) (by assumption) ?_
 rotate_left 1
 ·(intro u hSw; go_simp; try with_reducible rfl)
 try simp only [Act.put, List.setIfInBounds_toArray, List.set_cons_zero, List.set_cons_succ]
 refine wpAnyH_take (i := 2) (oi := ({ dst := some 109, op := .load 3 (.tmp 108), type := 3, pos := "law.go:66", after := #[{ on := 1, ground := .data }], guard := none } : Oper)) (v := ?_) rfl (by kernel_rfl) (by kernel_rfl) (by kernel_rfl) (fun _ _ _ h => h) (Or.inl ⟨by rfl, ?_⟩) (by assumption) ?_
 rotate_left 1
 ·(intro u hSw; have p1 := (cell_of_row u w.heap.size 1 _ _ _ hSw).trans (show (#[Value.int .i64 4, .int .i64 xn, .int .u8 (m : Int)] : Array Value)[1]? = some (.int .i64 xn) from rfl); have p2 := (cell_of_row u w.heap.size 2 _ _ _ hSw).trans (show (#[Value.int .i64 4, .int .i64 xn, .int .u8 (m : Int)] : Array Value)[2]? = some (.int .u8 (m : Int)) from rfl); go_simp; try with_reducible rfl)
 try simp only [Act.put, List.setIfInBounds_toArray, List.set_cons_zero, List.set_cons_succ]
 refine wpAnyH_take (i := 3) (oi := ({ dst := some 110, op := .fieldAddr 36 (.tmp 5) 2, type := 0, pos := "law.go:66", after := #[], guard := none } : Oper)) (v := ?_) rfl (by kernel_rfl) (by kernel_rfl) (by kernel_rfl) (fun _ _ _ h => h) (Or.inl ⟨by rfl, ?_⟩) (by assumption) ?_
 rotate_left 1
 ·(intro u hSw; go_simp; try with_reducible rfl)
 try simp only [Act.put, List.setIfInBounds_toArray, List.set_cons_zero, List.set_cons_succ]
 refine wpAnyH_take (i := 4) (oi := ({ dst := some 111, op := .load 5 (.tmp 110), type := 5, pos := "law.go:66", after := #[{ on := 3, ground := .data }], guard := none } : Oper)) (v := ?_) rfl (by kernel_rfl) (by kernel_rfl) (by kernel_rfl) (fun _ _ _ h => h) (Or.inl ⟨by rfl, ?_⟩) (by assumption) ?_
 rotate_left 1
 ·(intro u hSw; have p1 := (cell_of_row u w.heap.size 1 _ _ _ hSw).trans (show (#[Value.int .i64 4, .int .i64 xn, .int .u8 (m : Int)] : Array Value)[1]? = some (.int .i64 xn) from rfl); have p2 := (cell_of_row u w.heap.size 2 _ _ _ hSw).trans (show (#[Value.int .i64 4, .int .i64 xn, .int .u8 (m : Int)] : Array Value)[2]? = some (.int .u8 (m : Int)) from rfl); go_simp; try with_reducible rfl)
 try simp only [Act.put, List.setIfInBounds_toArray, List.set_cons_zero, List.set_cons_succ]
 refine wpAnyH_take (i := 5) (oi := ({ dst := some 112, op := .convert 5 59 (.tmp 111), type := 59, pos := "law.go:66", after := #[{ on := 4, ground := .data }], guard := none } : Oper)) (v := ?_) rfl (by kernel_rfl) (by kernel_rfl) (by kernel_rfl) (fun _ _ _ h => h) (Or.inl ⟨by rfl, ?_⟩) (by assumption) ?_
 rotate_left 1
 ·(intro u hSw; have p1 := (cell_of_row u w.heap.size 1 _ _ _ hSw).trans (show (#[Value.int .i64 4, .int .i64 xn, .int .u8 (m : Int)] : Array Value)[1]? = some (.int .i64 xn) from rfl); have p2 := (cell_of_row u w.heap.size 2 _ _ _ hSw).trans (show (#[Value.int .i64 4, .int .i64 xn, .int .u8 (m : Int)] : Array Value)[2]? = some (.int .u8 (m : Int)) from rfl); go_simp; try with_reducible rfl)
 try simp only [Act.put, List.setIfInBounds_toArray, List.set_cons_zero, List.set_cons_succ]
 refine wpAnyH_take (i := 7) (oi := ({ dst := some 114, op := .move (.tmp 1), type := 33, pos := "law.go:66", after := #[], guard := none } : Oper)) (v := ?_) rfl (by kernel_rfl) (by kernel_rfl) (by kernel_rfl) (fun _ _ _ h => h) (Or.inl ⟨by rfl, ?_⟩) (by assumption) ?_
 rotate_left 1
 ·(intro u hSw; go_simp; try with_reducible rfl)
 try simp only [Act.put, List.setIfInBounds_toArray, List.set_cons_zero, List.set_cons_succ]
 refine wpAnyH_take (i := 8) (oi := ({ dst := some 115, op := .fieldAddr 36 (.tmp 5) 1, type := 0, pos := "law.go:66", after := #[], guard := none } : Oper)) (v := ?_) rfl (by kernel_rfl) (by kernel_rfl) (by kernel_rfl) (fun _ _ _ h => h) (Or.inl ⟨by rfl, ?_⟩) (by assumption) ?_
 rotate_left 1
 ·(intro u hSw; go_simp; try with_reducible rfl)
 try simp only [Act.put, List.setIfInBounds_toArray, List.set_cons_zero, List.set_cons_succ]
 refine wpAnyH_take (i := 9) (oi := ({ dst := some 116, op := .load 3 (.tmp 115), type := 3, pos := "law.go:66", after := #[{ on := 8, ground := .data }], guard := none } : Oper)) (v := ?_) rfl (by kernel_rfl) (by kernel_rfl) (by kernel_rfl) (fun _ _ _ h => h) (Or.inl ⟨by rfl, ?_⟩) (by assumption) ?_
 rotate_left 1
 ·(intro u hSw; have p1 := (cell_of_row u w.heap.size 1 _ _ _ hSw).trans (show (#[Value.int .i64 4, .int .i64 xn, .int .u8 (m : Int)] : Array Value)[1]? = some (.int .i64 xn) from rfl); have p2 := (cell_of_row u w.heap.size 2 _ _ _ hSw).trans (show (#[Value.int .i64 4, .int .i64 xn, .int .u8 (m : Int)] : Array Value)[2]? = some (.int .u8 (m : Int)) from rfl); go_simp; try with_reducible rfl)
 try simp only [Act.put, List.setIfInBounds_toArray, List.set_cons_zero, List.set_cons_succ]
 refine wpAnyH_take (i := 10) (oi := ({ dst := some 117, op := .fieldAddr 36 (.tmp 5) 2, type := 0, pos := "law.go:66", after := #[], guard := none } : Oper)) (v := ?_) rfl (by kernel_rfl) (by kernel_rfl) (by kernel_rfl) (fun _ _ _ h => h) (Or.inl ⟨by rfl, ?_⟩) (by assumption) ?_
 rotate_left 1
 ·(intro u hSw; go_simp; try with_reducible rfl)
 try simp only [Act.put, List.setIfInBounds_toArray, List.set_cons_zero, List.set_cons_succ]
 refine wpAnyH_take (i := 11) (oi := ({ dst := some 118, op := .load 5 (.tmp 117), type := 5, pos := "law.go:66", after := #[{ on := 10, ground := .data }], guard := none } : Oper)) (v := ?_) rfl (by kernel_rfl) (by kernel_rfl) (by kernel_rfl) (fun _ _ _ h => h) (Or.inl ⟨by rfl, ?_⟩) (by assumption) ?_
 rotate_left 1
 ·(intro u hSw; have p1 := (cell_of_row u w.heap.size 1 _ _ _ hSw).trans (show (#[Value.int .i64 4, .int .i64 xn, .int .u8 (m : Int)] : Array Value)[1]? = some (.int .i64 xn) from rfl); have p2 := (cell_of_row u w.heap.size 2 _ _ _ hSw).trans (show (#[Value.int .i64 4, .int .i64 xn, .int .u8 (m : Int)] : Array Value)[2]? = some (.int .u8 (m : Int)) from rfl); go_simp; try with_reducible rfl)
 try simp only [Act.put, List.setIfInBounds_toArray, List.set_cons_zero, List.set_cons_succ]
 refine wpAnyH_take (i := 12) (oi := ({ dst := some 119, op := .convert 5 59 (.tmp 118), type := 59, pos := "law.go:66", after := #[{ on := 11, ground := .data }], guard := none } : Oper)) (v := ?_) rfl (by kernel_rfl) (by kernel_rfl) (by kernel_rfl) (fun _ _ _ h => h) (Or.inl ⟨by rfl, ?_⟩) (by assumption) ?_
 rotate_left 1
 ·(intro u hSw; have p1 := (cell_of_row u w.heap.size 1 _ _ _ hSw).trans (show (#[Value.int .i64 4, .int .i64 xn, .int .u8 (m : Int)] : Array Value)[1]? = some (.int .i64 xn) from rfl); have p2 := (cell_of_row u w.heap.size 2 _ _ _ hSw).trans (show (#[Value.int .i64 4, .int .i64 xn, .int .u8 (m : Int)] : Array Value)[2]? = some (.int .u8 (m : Int)) from rfl); go_simp; try with_reducible rfl)
 try simp only [Act.put, List.setIfInBounds_toArray, List.set_cons_zero, List.set_cons_succ]
 refine wpAnyH_ready (rs := [6]) (by kernel_rfl) (by simp) ?_
 refine (AllReadyH.cons (o := ({ dst := some 113, op := .call { callee := Callee.value (Operand.func 57), args := #[.tmp 107, .tmp 109, .tmp 112], argTypes := #[30, 3, 59] }, type := 28, pos := "law.go:66", after := #[{ on := 0, ground := .data }, { on := 2, ground := .data }, { on := 5, ground := .data }], guard := none } : Oper)) rfl (fun K hK => ?_) AllReadyH.nil)
 go_simp
 refine HC.out.mono ?_
 rintro e w1 ⟨E, rfl, hc, hnx⟩
 have HX1 := Lib.hid ((hc.block w.heap.size HSZ.out HNB.out).trans HXD.out)
 have HNX := Lib.hid (hnx w1 (Below.refl _ _))
 clear hnx hc
 go_wp2_with fail
 refine hK.out _ _ HX1.out (fun hHeld => ?_)
 clear hK K
 try simp only [Act.put, List.setIfInBounds_toArray, List.set_cons_zero, List.set_cons_succ]
 refine wpAnyH_ready (rs := [13]) (by kernel_rfl) (by simp) ?_
 refine (AllReadyH.cons (o := ({ dst := some 120, op := .call { callee := Callee.value (Operand.func 58), args := #[.tmp 114, .tmp 116, .tmp 119], argTypes := #[33, 3, 59] }, type := 28, pos := "law.go:66", after := #[{ on := 7, ground := .data }, { on := 9, ground := .data }, { on := 12, ground := .data }, { on := 6, ground := .chain }], guard := none } : Oper)) rfl (fun K hK => ?_) AllReadyH.nil)
 go_simp
 refine HNX.out.mono ?_
 rintro e w2 ⟨rfl, t', hte⟩
 have HX2 := Lib.hid ((hte.2.1.block w.heap.size HSZ.out HNB.out).trans HXD.out)
 have HTE := Lib.hid hte
 clear hte
 go_wp2_with fail
 refine hK.out _ _ HX2.out (fun hHeld => ?_)
 clear hK K
 try simp only [Act.put, List.setIfInBounds_toArray, List.set_cons_zero, List.set_cons_succ]
 refine wpAnyH_take (i := 14) (oi := ({ dst := some 121, op := .binOp BinOp.eql 28 (.tmp 113) (.tmp 120) 28, type := 4, pos := "law.go:66", after := #[{ on := 6, ground := .data }, { on := 13, ground := .data }], guard := none } : Oper)) (v := ?_) rfl (by kernel_rfl) (by kernel_rfl) (by kernel_rfl) (fun _ _ _ h => h) (Or.inl ⟨by rfl, ?_⟩) (by assumption) ?_
 rotate_left 1
 ·(intro u hSw; go_simp; try with_reducible rfl)
 try simp only [Act.put, List.setIfInBounds_toArray, List.set_cons_zero, List.set_cons_succ]
 refine wpAnyH_take (i := 15) (oi := ({ dst := some 6, op := .assign (.tmp 121), type := 4, pos := "law.go:66", after := #[{ on := 14, ground := .data }, { on := 13, ground := .chain }, { on := 0, ground := .phase }, { on := 1, ground := .phase }, { on := 2, ground := .phase }, { on := 3, ground := .phase }, { on := 4, ground := .phase }, { on := 5, ground := .phase }, { on := 6, ground := .phase }, { on := 7, ground := .phase }, { on := 8, ground := .phase }, { on := 9, ground := .phase }, { on := 10, ground := .phase }, { on := 11, ground := .phase }, { on := 12, ground := .phase }, { on := 13, ground := .phase }, { on := 14, ground := .phase }], guard := none } : Oper)) (v := ?_) rfl (by kernel_rfl) (by kernel_rfl) (by kernel_rfl) (fun _ _ _ h => h) (Or.inl ⟨by rfl, ?_⟩) (by assumption) ?_
 rotate_left 1
 ·(intro u hSw; go_simp; try with_reducible rfl)
 try simp only [Act.put, List.setIfInBounds_toArray, List.set_cons_zero, List.set_cons_succ]
 refine wpAnyH_done (by kernel_rfl) ?_ _
 go_wp2_with fail
 go_ret
 exact ⟨by simp, t', TE.pre HW.out HD.out HTE.out⟩
set_option maxRecDepth 100000 in
set_option maxHeartbeats 2000000 in
theorem step5_else (h : Two k Bx P t w) (xk xn xb : Int) (hk : xk < 0 ∨ 7 < xk) (hn : xn ≤ 9223372036854775807) (hb0 : 0 ≤ xb) (hb1 : xb < 256) (ha : t.v.a + 2 < 1099511627776) (hbb : t.v.b + 1 < 1099511627776) :
  Calls Tryz.prog 13 #[.pointer (some ⟨k.P, 0, none⟩), .pointer (some ⟨P, 0, none⟩), .agg #[.int .i64 xk, .int .i64 xn, .int .u8 xb]] w fun e w' => e = .returned (.bool true) ∧ ∃ t', TE k Bx P t w t' w' := by
 have hbx : Below w.heap.size w (w.alloc (.cells #[.int .i64 xk, .int .i64 xn, .int .u8 xb] 36)) := (Below.refl _ _).alloc (Nat.le_refl _) _
 have h1 := (h.fresh hbx).1
 have HBX := Lib.hid hbx
 have HW := Lib.hid h
 have HT := Lib.hid h1
 have HNB := Lib.hid (show ¬ TF k P t w.heap.size from fun e => Nat.lt_irrefl _ (h.lt _ e))
 have HX := Lib.hid (heap_alloc_new w (.cells #[.int .i64 xk, .int .i64 xn, .int .u8 xb] 36))
 have d0 := (cell_of_row _ w.heap.size 0 _ _ _ HX.out).trans (show (#[Value.int .i64 xk, .int .i64 xn, .int .u8 xb] : Array Value)[0]? = some (.int .i64 xk) from rfl)
 have d1 := (cell_of_row _ w.heap.size 1 _ _ _ HX.out).trans (show (#[Value.int .i64 xk, .int .i64 xn, .int .u8 xb] : Array Value)[1]? = some (.int .i64 xn) from rfl)
 have d2 := (cell_of_row _ w.heap.size 2 _ _ _ HX.out).trans (show (#[Value.int .i64 xk, .int .i64 xn, .int .u8 xb] : Array Value)[2]? = some (.int .u8 xb) from rfl)
 have HD := Lib.hid (show Below w.heap.size w (w.alloc (.cells #[.int .i64 xk, .int .i64 xn, .int .u8 xb] 36)).drew from hbx.drew)
 have hd := (h.fresh HD.out).1
 have HXD := Lib.hid (show (w.alloc (.cells #[.int .i64 xk, .int .i64 xn, .int .u8 xb] 36)).drew.heap[w.heap.size]? = some (.cells #[.int .i64 xk, .int .i64 xn, .int .u8 xb] 36 (0, 0)) from HX.out)
 have HSZ := Lib.hid (show w.heap.size < (w.alloc (.cells #[.int .i64 xk, .int .i64 xn, .int .u8 xb] 36)).drew.heap.size from (Array.getElem?_eq_some_iff.1 HX.out).1)
 have k0 : (xk == 0) = false := by simp; omega
 have k1 : (xk == 1) = false := by simp; omega
 have k2 : (xk == 2) = false := by simp; omega
 have k3 : (xk == 3) = false := by simp; omega
 have k4 : (xk == 4) = false := by simp; omega
 have k5 : (xk == 5) = false := by simp; omega
 have k6 : (xk == 6) = false := by simp; omega
 have k7 : (xk == 7) = false := by simp; omega
 obtain ⟨R, hr1, hr2⟩ := two_root hd xn
 have HR1 := Lib.hid hr1
 have HR2 := Lib.hid hr2
 have HCH := Lib.hid (two_changed hd)
 have HTD := Lib.hid hd
 clear hr1 hr2 hk
 clear h h1 hbx hn hb0 hb1 ha hbb hd
 go_enter Tryz.func13, Tryz.ntmps13
 go_wp2_with fail
 refine wp_region_held_drew (S := fun u => u.heap[w.heap.size]? = some (.cells #[.int .i64 xk, .int .i64 xn, .int .u8 xb] 36 (0, 0))) (by kernel_rfl) (HXD.out) (fun hHeld => ?_)
 refine wpAnyH_take (i := 0) (oi := ({ dst := some 17, op := .move (.tmp 0), type := 30, pos := "law.go:76", after := #[], guard := none } : Oper)) (v := ?_) rfl (by kernel_rfl) (by kernel_rfl) (by kernel_rfl) (fun _ _ _ h => h) (Or.inl ⟨by rfl, ?_⟩) (by assumption) ?_
 rotate_left 1
 ·(intro u hSw; go_simp; try with_reducible rfl)
 try simp only [Act.put, List.setIfInBounds_toArray, List.set_cons_zero, List.set_cons_succ]
 refine wpAnyH_take (i := 1) (oi := ({ dst := some 18, op := .fieldAddr 36 (.tmp 5) 1, type := 0, pos := "law.go:76", after := #[], guard := none } : Oper)) (v := ?_) rfl (by kernel_rfl) (by kernel_rfl) (by kernel_rfl) (fun _ _ _ h => h) (Or.inl ⟨by rfl, ?_⟩) (by assumption) ?_
 rotate_left 1
 ·(intro u hSw; go_simp; try with_reducible rfl)
 try simp only [Act.put, List.setIfInBounds_toArray, List.set_cons_zero, List.set_cons_succ]
 refine wpAnyH_take (i := 2) (oi := ({ dst := some 19, op := .load 3 (.tmp 18), type := 3, pos := "law.go:76", after := #[{ on := 1, ground := .data }], guard := none } : Oper)) (v := ?_) rfl (by kernel_rfl) (by kernel_rfl) (by kernel_rfl) (fun _ _ _ h => h) (Or.inl ⟨by rfl, ?_⟩) (by assumption) ?_
 rotate_left 1
 ·(intro u hSw; have p1 := (cell_of_row u w.heap.size 1 _ _ _ hSw).trans (show (#[Value.int .i64 xk, .int .i64 xn, .int .u8 xb] : Array Value)[1]? = some (.int .i64 xn) from rfl); have p2 := (cell_of_row u w.heap.size 2 _ _ _ hSw).trans (show (#[Value.int .i64 xk, .int .i64 xn, .int .u8 xb] : Array Value)[2]? = some (.int .u8 xb) from rfl); go_simp; try with_reducible rfl)
 try simp only [Act.put, List.setIfInBounds_toArray, List.set_cons_zero, List.set_cons_succ]
 refine wpAnyH_take (i := 4) (oi := ({ dst := some 21, op := .move (.tmp 1), type := 33, pos := "law.go:76", after := #[], guard := none } : Oper)) (v := ?_) rfl (by kernel_rfl) (by kernel_rfl) (by kernel_rfl) (fun _ _ _ h => h) (Or.inl ⟨by rfl, ?_⟩) (by assumption) ?_
 rotate_left 1
 ·(intro u hSw; go_simp; try with_reducible rfl)
 try simp only [Act.put, List.setIfInBounds_toArray, List.set_cons_zero, List.set_cons_succ]
 refine wpAnyH_take (i := 5) (oi := ({ dst := some 22, op := .fieldAddr 36 (.tmp 5) 1, type := 0, pos := "law.go:76", after := #[], guard := none } : Oper)) (v := ?_) rfl (by kernel_rfl) (by kernel_rfl) (by kernel_rfl) (fun _ _ _ h => h) (Or.inl ⟨by rfl, ?_⟩) (by assumption) ?_
 rotate_left 1
 ·(intro u hSw; go_simp; try with_reducible rfl)
 try simp only [Act.put, List.setIfInBounds_toArray, List.set_cons_zero, List.set_cons_succ]
 refine wpAnyH_take (i := 6) (oi := ({ dst := some 23, op := .load 3 (.tmp 22), type := 3, pos := "law.go:76", after := #[{ on := 5, ground := .data }], guard := none } : Oper)) (v := ?_) rfl (by kernel_rfl) (by kernel_rfl) (by kernel_rfl) (fun _ _ _ h => h) (Or.inl ⟨by rfl, ?_⟩) (by assumption) ?_
 rotate_left 1
 ·(intro u hSw; have p1 := (cell_of_row u w.heap.size 1 _ _ _ hSw).trans (show (#[Value.int .i64 xk, .int .i64 xn, .int .u8 xb] : Array Value)[1]? = some (.int .i64 xn) from rfl); have p2 := (cell_of_row u w.heap.size 2 _ _ _ hSw).trans (show (#[Value.int .i64 xk, .int .i64 xn, .int .u8 xb] : Array Value)[2]? = some (.int .u8 xb) from rfl); go_simp; try with_reducible rfl)
 try simp only [Act.put, List.setIfInBounds_toArray, List.set_cons_zero, List.set_cons_succ]
 refine wpAnyH_ready (rs := [3]) (by kernel_rfl) (by simp) ?_
 refine (AllReadyH.cons (o := ({ dst := some 20, op := .call { callee := Callee.value (Operand.func 39), args := #[.tmp 17, .tmp 19], argTypes := #[30, 3] }, type := 59, pos := "law.go:76", after := #[{ on := 0, ground := .data }, { on := 2, ground := .data }], guard := none } : Oper)) rfl (fun K hK => ?_) AllReadyH.nil)
 go_simp
 refine HR1.out.mono ?_
 rintro e w1 ⟨rfl, rfl⟩
 go_wp2_with fail
 refine hK.out _ _ HXD.out (fun hHeld => ?_)
 clear hK K
 try simp only [Act.put, List.setIfInBounds_toArray, List.set_cons_zero, List.set_cons_succ]
 refine wpAnyH_ready (rs := [7]) (by kernel_rfl) (by simp) ?_
 refine (AllReadyH.cons (o := ({ dst := some 24, op := .call { callee := Callee.value (Operand.func 62), args := #[.tmp 21, .tmp 23], argTypes := #[33, 3] }, type := 59, pos := "law.go:76", after := #[{ on := 4, ground := .data }, { on := 6, ground := .data }, { on := 3, ground := .chain }], guard := none } : Oper)) rfl (fun K hK => ?_) AllReadyH.nil)
 go_simp
 refine HR2.out.mono ?_
 rintro e w1 ⟨rfl, rfl⟩
 go_wp2_with fail
 refine hK.out _ _ HXD.out (fun hHeld => ?_)
 clear hK K
 try simp only [Act.put, List.setIfInBounds_toArray, List.set_cons_zero, List.set_cons_succ]
 refine wpAnyH_take (i := 8) (oi := ({ dst := some 25, op := .binOp BinOp.eql 59 (.tmp 20) (.tmp 24) 59, type := 4, pos := "law.go:76", after := #[{ on := 3, ground := .data }, { on := 7, ground := .data }], guard := none } : Oper)) (v := ?_) rfl (by kernel_rfl) (by kernel_rfl) (by kernel_rfl) (fun _ _ _ h => h) (Or.inl ⟨by rfl, ?_⟩) (by assumption) ?_
 rotate_left 1
 ·(intro u hSw; go_simp; try with_reducible rfl)
 try simp only [Act.put, List.setIfInBounds_toArray, List.set_cons_zero, List.set_cons_succ]
 refine wpAnyH_take (i := 9) (oi := ({ dst := some 26, op := .move (.tmp 25), type := 4, pos := "law.go:76", after := #[{ on := 8, ground := .data }, { on := 7, ground := .chain }], guard := none } : Oper)) (v := ?_) rfl (by kernel_rfl) (by kernel_rfl) (by kernel_rfl) (fun _ _ _ h => h) (Or.inl ⟨by rfl, ?_⟩) (by assumption) ?_
 rotate_left 1
 ·(intro u hSw; go_simp; try with_reducible rfl)
 try simp only [Act.put, List.setIfInBounds_toArray, List.set_cons_zero, List.set_cons_succ]
 refine wpAnyH_take (i := 10) (oi := ({ dst := some 27, op := .move (.tmp 0), type := 30, pos := "law.go:76", after := #[{ on := 9, ground := .guard }], guard := some (9, true) } : Oper)) (v := ?_) rfl (by kernel_rfl) (by kernel_rfl) (by kernel_rfl) (fun _ _ _ h => h) (Or.inl ⟨by rfl, ?_⟩) (by assumption) ?_
 rotate_left 1
 ·(intro u hSw; go_simp; try with_reducible rfl)
 try simp only [Act.put, List.setIfInBounds_toArray, List.set_cons_zero, List.set_cons_succ]
 refine wpAnyH_take (i := 12) (oi := ({ dst := some 29, op := .move (.tmp 1), type := 33, pos := "law.go:76", after := #[{ on := 9, ground := .guard }], guard := some (9, true) } : Oper)) (v := ?_) rfl (by kernel_rfl) (by kernel_rfl) (by kernel_rfl) (fun _ _ _ h => h) (Or.inl ⟨by rfl, ?_⟩) (by assumption) ?_
 rotate_left 1
 ·(intro u hSw; go_simp; try with_reducible rfl)
 try simp only [Act.put, List.setIfInBounds_toArray, List.set_cons_zero, List.set_cons_succ]
 refine wpAnyH_ready (rs := [11]) (by kernel_rfl) (by simp) ?_
 refine (AllReadyH.cons (o := ({ dst := some 28, op := .call { callee := Callee.value (Operand.func 26), args := #[.tmp 27], argTypes := #[30] }, type := 3, pos := "law.go:76", after := #[{ on := 10, ground := .data }, { on := 9, ground := .chain }, { on := 9, ground := .guard }], guard := some (9, true) } : Oper)) rfl (fun K hK => ?_) AllReadyH.nil)
 go_simp
 refine HCH.out.mono ?_
 rintro e w1 ⟨rfl, hb1, hnx⟩
 have HX1 := Lib.hid ((hb1.block w.heap.size HSZ.out).trans HXD.out)
 have HB1 := Lib.hid hb1
 have HNX := Lib.hid (hnx w1 (Below.refl _ _))
 have HS1 := Lib.hid (Nat.lt_of_lt_of_le HSZ.out hb1.size)
 clear hb1 hnx
 go_wp2_with fail
 refine hK.out _ _ HX1.out (fun hHeld => ?_)
 clear hK K
 try simp only [Act.put, List.setIfInBounds_toArray, List.set_cons_zero, List.set_cons_succ]
 refine wpAnyH_ready (rs := [13]) (by kernel_rfl) (by simp) ?_
 refine (AllReadyH.cons (o := ({ dst := some 30, op := .call { callee := Callee.value (Operand.func 63), args := #[.tmp 29], argTypes := #[33] }, type := 3, pos := "law.go:76", after := #[{ on := 12, ground := .data }, { on := 11, ground := .chain }, { on := 9, ground := .guard }], guard := some (9, true) } : Oper)) rfl (fun K hK => ?_) AllReadyH.nil)
 go_simp
 refine HNX.out.mono ?_
 rintro e w2 ⟨rfl, hb2⟩
 have HX2 := Lib.hid ((hb2.block w.heap.size HS1.out).trans HX1.out)
 have HB2 := Lib.hid hb2
 clear hb2
 go_wp2_with fail
 refine hK.out _ _ HX2.out (fun hHeld => ?_)
 clear hK K
 try simp only [Act.put, List.setIfInBounds_toArray, List.set_cons_zero, List.set_cons_succ]
 refine wpAnyH_take (i := 14) (oi := ({ dst := some 31, op := .binOp BinOp.eql 3 (.tmp 28) (.tmp 30) 3, type := 4, pos := "law.go:76", after := #[{ on := 11, ground := .data }, { on := 13, ground := .data }, { on := 9, ground := .guard }], guard := some (9, true) } : Oper)) (v := ?_) rfl (by kernel_rfl) (by kernel_rfl) (by kernel_rfl) (fun _ _ _ h => h) (Or.inl ⟨by rfl, ?_⟩) (by assumption) ?_
 rotate_left 1
 ·(intro u hSw; go_simp; try with_reducible rfl)
 try simp only [Act.put, List.setIfInBounds_toArray, List.set_cons_zero, List.set_cons_succ]
 refine wpAnyH_take (i := 15) (oi := ({ dst := some 32, op := .pick (.tmp 26) (.tmp 31) (.const (Value.bool false)), type := 4, pos := "law.go:76", after := #[{ on := 9, ground := .data }, { on := 14, ground := .data }], guard := none } : Oper)) (v := ?_) rfl (by kernel_rfl) (by kernel_rfl) (by kernel_rfl) (fun _ _ _ h => h) (Or.inl ⟨by rfl, ?_⟩) (by assumption) ?_
 rotate_left 1
 ·(intro u hSw; go_simp; try with_reducible rfl)
 try simp only [Act.put, List.setIfInBounds_toArray, List.set_cons_zero, List.set_cons_succ]
 refine wpAnyH_take (i := 16) (oi := ({ dst := some 6, op := .assign (.tmp 32), type := 4, pos := "law.go:76", after := #[{ on := 15, ground := .data }, { on := 13, ground := .chain }, { on := 0, ground := .phase }, { on := 1, ground := .phase }, { on := 2, ground := .phase }, { on := 3, ground := .phase }, { on := 4, ground := .phase }, { on := 5, ground := .phase }, { on := 6, ground := .phase }, { on := 7, ground := .phase }, { on := 8, ground := .phase }, { on := 9, ground := .phase }, { on := 10, ground := .phase }, { on := 11, ground := .phase }, { on := 12, ground := .phase }, { on := 13, ground := .phase }, { on := 14, ground := .phase }, { on := 15, ground := .phase }], guard := none } : Oper)) (v := ?_) rfl (by kernel_rfl) (by kernel_rfl) (by kernel_rfl) (fun _ _ _ h => h) (Or.inl ⟨by rfl, ?_⟩) (by assumption) ?_
 rotate_left 1
 ·(intro u hSw; go_simp; try with_reducible rfl)
 try simp only [Act.put, List.setIfInBounds_toArray, List.set_cons_zero, List.set_cons_succ]
 refine wpAnyH_done (by kernel_rfl) ?_ _
 go_wp2_with fail
 go_ret
 exact ⟨by simp, t, TE.pre HW.out HD.out (HTD.out.fresh (HB1.out.trans (HB2.out.mono HB1.out.size)))⟩
theorem step5_any (h : Two k Bx P t w) (xk xn xb : Int) (hn : xn ≤ 9223372036854775807) (hb0 : 0 ≤ xb) (hb1 : xb < 256) (ha : t.v.a + 2 < 1099511627776) (hbb : t.v.b + 1 < 1099511627776) :
  Calls Tryz.prog 13 #[.pointer (some ⟨k.P, 0, none⟩), .pointer (some ⟨P, 0, none⟩), .agg #[.int .i64 xk, .int .i64 xn, .int .u8 xb]] w fun e w' => e = .returned (.bool true) ∧ ∃ t', TE k Bx P t w t' w' := by
 by_cases e0 : xk = 0
 ·exact step5_put h xk xn xb e0 hn hb0 hb1 ha hbb
 by_cases e1 : xk = 1
 ·exact step5_get h xk xn xb e1 hn hb0 hb1 ha hbb
 by_cases e2 : xk = 2
 ·exact step5_alloc h xk xn xb e2 hn hb0 hb1 ha hbb
 by_cases e3 : xk = 3
 ·exact step5_free h xk xn xb e3 hn hb0 hb1 ha hbb
 by_cases e4 : xk = 4
 ·exact step5_setroot h xk xn xb e4 hn hb0 hb1 ha hbb
 by_cases e5 : xk = 5
 ·exact step5_commit h xk xn xb e5 hn hb0 hb1 ha hbb
 by_cases e6 : xk = 6
 ·exact step5_abort h xk xn xb e6 hn hb0 hb1 ha hbb
 by_cases e7 : xk = 7
 ·exact step5_ckpt h xk xn xb e7 hn hb0 hb1 ha hbb
 exact step5_else h xk xn xb (by omega) hn hb0 hb1 ha hbb
end
end Go.Proofs.YtfknlheflaccaaaGreat
