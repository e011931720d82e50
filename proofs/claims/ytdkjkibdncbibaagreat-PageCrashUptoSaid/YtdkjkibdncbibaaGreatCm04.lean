import Derived.Test.YtdkjkibdncbibaaGreatCm03
namespace Go.Proofs.YtdkjkibdncbibaaGreat
open Go.RowKit
open Go.Lib (hid)
theorem zero151 (w : World) : (zeroValue 130).run Tryz.prog w = .ok (.agg #[.int .u64 0, .int .u64 0, .int .u64 0, .int .u64 0, .int .u64 0, .int .u64 0]) w := by kernel_rfl
theorem zeroMark (w : World) : (zeroValue 107).run Tryz.prog w = .ok (.agg #[.int .u64 0, .int .u64 0, .int .u64 0]) w := by kernel_rfl
section
variable (u : World) (X : Nat)
theorem und35 : Tryz.prog.underlying 50 = some (.array (Tryz.prog.arrayLen 50) (Tryz.prog.elem 50)) := by kernel_rfl
theorem len35 : Tryz.prog.arrayLen 50 = 256 := by kernel_rfl
theorem size35 : (sizeOf (Tryz.prog.elem 50)).run Tryz.prog u = .ok 1 u := by kernel_rfl
theorem slice35_l (n : Int) (o : Nat) (hn : n = (o : Int)) (ho : o < 256) : (Instr.sliceAt 50 (.pointer (some ⟨X, 0, none⟩)) (some (.int .i64 n)) none none).run Tryz.prog u = .ok (.slice (some ⟨X, o, none⟩) (256 - o) (256 - o)) u := by
 subst hn
 rw [run_sliceAt_array_l u 50 ⟨X, 0, none⟩ und35 .i64 _ (by omega) (by rw [len35]; omega), size35]
 have h : ¬ (256 = o) := by omega
 simp [Result.andThen, slicedAt, len35, h, Addr.add_mid]
theorem slice35_h (n : Int) (o : Nat) (hn : n = (o : Int)) (ho : o ≤ 256) : (Instr.sliceAt 50 (.pointer (some ⟨X, 0, none⟩)) none (some (.int .i64 n)) none).run Tryz.prog u = .ok (.slice (some ⟨X, 0, none⟩) o 256) u := by
 subst hn
 rw [run_sliceAt_array_h u 50 ⟨X, 0, none⟩ und35 .i64 _ (by omega) (by rw [len35]; omega), size35]
 simp [Result.andThen, slicedAt, len35, Addr.add_mid]
theorem slice35_hm (n : Int) (o : Nat) (hn : n = (o : Int)) (ho : o ≤ 256) : (Instr.sliceAt 50 (.pointer (some ⟨X, 0, none⟩)) none (some (.int .i64 n)) (some (.int .i64 n))).run Tryz.prog u = .ok (.slice (some ⟨X, 0, none⟩) o o) u := by
 subst hn
 rw [run_sliceAt_array_hm u 50 ⟨X, 0, none⟩ und35 .i64 .i64 _ _ (by omega) (by omega) (by rw [len35]; omega), size35]
 simp [Result.andThen, slicedAt, Addr.add_mid]
theorem slice35_all : (Instr.sliceAt 50 (.pointer (some ⟨X, 0, none⟩)) none none none).run Tryz.prog u = .ok (.slice (some ⟨X, 0, none⟩) 256 256) u := by
 rw [run_sliceAt_array_all u 50 ⟨X, 0, none⟩ und35, size35]
 simp [Result.andThen, slicedAt, len35, Addr.add_mid]
end
/-- the number at place j of a block -/
def nAt (l : List Int) (j : Nat) : Nat := beI ((l.drop (8 * j)).take 8)
theorem nAt_lt (l : List Int) (hr : Rng l) (j : Nat) : nAt l j < 18446744073709551616 := by
 have h := beI_lt ((l.drop (8 * j)).take 8) ((hr.drop _).take _)
 have h2 : ((l.drop (8 * j)).take 8).length ≤ 8 := by simp; omega
 have h3 : 256 ^ ((l.drop (8 * j)).take 8).length ≤ 256 ^ 8 := Nat.pow_le_pow_right (by decide) h2
 unfold nAt
 have h4 : (256 : Nat) ^ 8 = 18446744073709551616 := by decide
 omega
def okB (l : List Int) : Bool := decide (nAt l 0 = nAt l 5 ∧ nAt l 1 = nAt l 4 ∧ nAt l 2 = nAt l 3)
/-- the six cells when i of them are read -/
def c6 (l : List Int) (i : Nat) (k : Nat) : Value := .int .u64 (if k < i then (nAt l k : Int) else 0)
theorem bs_mid {w : World} {X : Nat} {l : List Int} {T : TypeId} (hX : w.heap[X]? = some (.cells (l.map (Value.int .u8)).toArray T (0, 0))) (o : Nat) (c : Nat) (ho : o ≤ l.length) (hc : l.length - o = c) : Bs w (.slice (some ⟨X, o, none⟩) c c) (l.drop o) := by
 subst hc
 refine ⟨some ⟨X, o, none⟩, l.length - o, by rw [List.length_drop], ⟨by rw [List.length_drop]; exact Nat.le_refl _, fun e => by cases e⟩, fun hl => ⟨X, o, rfl, (Array.getElem?_eq_some_iff.1 hX).1, fun i hi => ?_⟩⟩
 rw [cell_of_row _ _ _ _ _ _ hX]
 have hi2 : o + i < l.length := by rw [List.length_drop] at hi; omega
 simp [List.getElem?_drop, hi2]

set_option maxRecDepth 100000 in
theorem c6_set (l : List Int) (i : Nat) (hi : i < 6) : ((List.range 6).map (c6 l i)).toArray.setIfInBounds i (.int .u64 (nAt l i : Nat)) = ((List.range 6).map (c6 l (i + 1))).toArray := by
 rcases i with _ | _ | _ | _ | _ | _ | i
 all_goals first | omega | rfl
set_option maxRecDepth 100000 in
theorem run_equalInMk (w : World) (a b c a' b' c' : Int) : (Op.equalIn 10000 107 (.agg #[.int .u64 a, .int .u64 b, .int .u64 c]) (.agg #[.int .u64 a', .int .u64 b', .int .u64 c'])).run Tryz.prog w = .ok (decide (a = a' ∧ b = b' ∧ c = c')) w := by
 have u1 := Tryz.underlying60
 have a1 := Tryz.isAgg60
 have hS : Tryz.prog.underlying 107 = some (.struct (Tryz.prog.fieldsOf 107)) := by kernel_rfl
 have hp : Tryz.prog.stoodInHeld 107 = false := by kernel_rfl
 rw [show (10000 : Nat) = 9999 + 1 from rfl, run_equalIn_agg w 9999 107 _ _ hS hp]
 simp only [Program.fieldsOf, Tryz.underlying107]
 go_simp
 by_cases h1 : a = a' <;> by_cases h2 : b = b' <;> by_cases h3 : c = c' <;> simp [h1, h2, h3]
set_option maxRecDepth 100000 in
theorem exec_eql_mark {ρ : Operand → Value} {o : Oper} {w : World} (x y : Operand) (U : TypeId) (ho : o.op = .binOp .eql 107 x y U) (a b c a' b' c' : Int) (hx : ρ x = .agg #[.int .u64 a, .int .u64 b, .int .u64 c]) (hy : ρ y = .agg #[.int .u64 a', .int .u64 b', .int .u64 c']) (r : Bool) (hr : decide (a = a' ∧ b = b' ∧ c = c') = r) :
  (execOp ρ o).run Tryz.prog w = .ok (.value (.bool r)) w := by
 unfold execOp
 rw [ho]
 simp only [hx, hy]
 have hg := run_eqGuard_agg (P := Tryz.prog) w .eql 107 x y #[.int .u64 a, .int .u64 b, .int .u64 c] #[.int .u64 a', .int .u64 b', .int .u64 c'] (by kernel_rfl)
 simp only [Sem.run_bind, hg, Result.andThen_ok, run_eql_struct, run_equalInMk w a b c a' b' c', hr, Sem.run_pure]
theorem set3_chg (u : World) (X : Nat) (a b c : Value) : Chg (fun k => k = X) u (((u.setCell ⟨X, 0, none⟩ a).setCell ⟨X, 1, none⟩ b).setCell ⟨X, 2, none⟩ c) :=
 (((Chg.refl (fun k => k = X) u).setCell ⟨X, 0, none⟩ a (.inl rfl)).setCell ⟨X, 1, none⟩ b (.inl rfl)).setCell ⟨X, 2, none⟩ c (.inl rfl)
theorem set3_row (u : World) (X : Nat) (a b c x y z : Value) (T : TypeId) (h : u.heap[X]? = some (.cells #[x, y, z] T (0, 0))) : (((u.setCell ⟨X, 0, none⟩ a).setCell ⟨X, 1, none⟩ b).setCell ⟨X, 2, none⟩ c).heap[X]? = some (.cells #[a, b, c] T (0, 0)) :=
 heap_setCell_same _ X 2 _ T c (heap_setCell_same _ X 1 _ T b (heap_setCell_same _ X 0 _ T a h))
def S6 (X : Nat) (l : List Int) (u : World) : Prop := u.heap[X]? = some (.cells ((List.range 6).map (c6 l 6)).toArray 130 (0, 0))
theorem S6.at {X : Nat} {l : List Int} {u : World} (h : S6 X l u) (k : Nat) (hk : k < 6) : u.cell? ⟨X, k, none⟩ = some (.int .u64 (nAt l k : Nat)) := by
 rw [cell_of_row _ _ _ _ _ _ h]
 simp [c6, hk]
theorem S6.lt {X : Nat} {l : List Int} {u : World} (h : S6 X l u) : X < u.heap.size := (Array.getElem?_eq_some_iff.1 h).1
theorem S6.alloc {X : Nat} {l : List Int} {u : World} (h : S6 X l u) (o : Obj) : S6 X l (u.alloc o) := (heap_alloc_old u o h.lt).trans h
set_option maxRecDepth 100000 in
set_option maxHeartbeats 2000000 in
theorem markIn_any (l : List Int) (w : World) (hl : l.length = 256) (hr : Rng l) :
  Calls Tryz.prog 90 #[.agg (ArrU8 l)] w fun e w' => e = .returned (.tuple #[.agg #[.int .u64 (nAt l 0), .int .u64 (nAt l 1), .int .u64 (nAt l 2)], .bool (okB l)]) ∧ Below w.heap.size w w' := by
 have hz := zero151
 have hzm := zeroMark
 have HL := hid hl
 have HR := hid hr
 clear hl hr
 go_enter Tryz.func90, Tryz.ntmps90
 go_wp2_with fail
 have hb1 : Below w.heap.size w (w.alloc (.cells (ArrU8 l) 50)) := (Below.refl _ _).alloc (Nat.le_refl _) _
 have hb2 : Below w.heap.size w ((w.alloc (.cells (ArrU8 l) 50)).alloc (.cells #[.int .u64 0, .int .u64 0, .int .u64 0] 107)) := hb1.alloc (by simp) _
 have hb3 : Below w.heap.size w (((w.alloc (.cells (ArrU8 l) 50)).alloc (.cells #[.int .u64 0, .int .u64 0, .int .u64 0] 107)).alloc (.cells #[.int .u64 0, .int .u64 0, .int .u64 0, .int .u64 0, .int .u64 0, .int .u64 0] 130)) := hb2.alloc (by simp; omega) _
 have hx0 : (((w.alloc (.cells (ArrU8 l) 50)).alloc (.cells #[.int .u64 0, .int .u64 0, .int .u64 0] 107)).alloc (.cells #[.int .u64 0, .int .u64 0, .int .u64 0, .int .u64 0, .int .u64 0, .int .u64 0] 130)).heap[w.heap.size]? = some (.cells (l.map (Value.int .u8)).toArray 50 (0, 0)) := (heap_alloc_old _ _ (by simp; omega)).trans ((heap_alloc_old _ _ (by simp)).trans (heap_alloc_new _ _))
 have hx1 : (((w.alloc (.cells (ArrU8 l) 50)).alloc (.cells #[.int .u64 0, .int .u64 0, .int .u64 0] 107)).alloc (.cells #[.int .u64 0, .int .u64 0, .int .u64 0, .int .u64 0, .int .u64 0, .int .u64 0] 130)).heap[w.heap.size + 1]? = some (.cells #[.int .u64 0, .int .u64 0, .int .u64 0] 107 (0, 0)) := (heap_alloc_old _ _ (by simp)).trans (by have h := heap_alloc_new (w.alloc (.cells (ArrU8 l) 50)) (.cells #[.int .u64 0, .int .u64 0, .int .u64 0] 107); rw [World.size_alloc] at h; exact h)
 have hx2 : (((w.alloc (.cells (ArrU8 l) 50)).alloc (.cells #[.int .u64 0, .int .u64 0, .int .u64 0] 107)).alloc (.cells #[.int .u64 0, .int .u64 0, .int .u64 0, .int .u64 0, .int .u64 0, .int .u64 0] 130)).heap[w.heap.size + 1 + 1]? = some (.cells ((List.range 6).map (c6 l 0)).toArray 130 (0, 0)) := by have h := heap_alloc_new ((w.alloc (.cells (ArrU8 l) 50)).alloc (.cells #[.int .u64 0, .int .u64 0, .int .u64 0] 107)) (.cells #[.int .u64 0, .int .u64 0, .int .u64 0, .int .u64 0, .int .u64 0, .int .u64 0] 130); rw [World.size_alloc, World.size_alloc] at h; exact h
 have HB3 := hid hb3
 have HX0 := hid hx0
 have HX1 := hid hx1
 have HX2 := hid hx2
 clear hb1 hb2 hb3 hx0 hx1 hx2
 generalize ((w.alloc (.cells (ArrU8 l) 50)).alloc (.cells #[.int .u64 0, .int .u64 0, .int .u64 0] 107)).alloc (.cells #[.int .u64 0, .int .u64 0, .int .u64 0, .int .u64 0, .int .u64 0, .int .u64 0] 130) = w3 at *
 have HS := hid (show w.heap.size + 1 + 1 < w3.heap.size from (Array.getElem?_eq_some_iff.1 HX2.out).1)
 generalize hX2 : w.heap.size + 1 + 1 = X2 at *
 have HE2 := hid hX2
 clear hX2
 go_loopw [8] (fun iv wr => ∃ i : Nat, i ≤ 6 ∧ iv = .int .i64 (i : Int) ∧ wr.heap[X2]? = some (.cells ((List.range 6).map (c6 l i)).toArray 130 (0, 0)) ∧ Chg (fun g => g = X2) w3 wr) (fun iv _ => 6 - (intOf iv).toNat)
 case atStart => exact ⟨0, by omega, rfl, HX2.out, Chg.refl _ _⟩
 case round =>
  obtain ⟨i, hi, rfl, hx, hc⟩ := hrel
  have HX := hid hx
  have HC := hid hc
  by_cases hlt : i < 6
  ·have h0 : wr.heap[w.heap.size]? = some (.cells (l.map (Value.int .u8)).toArray 50 (0, 0)) := (hc.block _ (by have := HE2.out; have := HS.out; omega) (by have := HE2.out; omega)).trans HX0.out
   have H0 := hid h0
   have hbs := bs_mid h0 (8 * i) (256 - 8 * i) (by rw [HL.out]; omega) (by rw [HL.out])
   have HBS := hid hbs
   have hf := frozen_of_row _ X2 i _ _ hx
   have hci := cell_of_row _ X2 i _ _ _ hx
   obtain ⟨cv, hcv⟩ : ∃ cv, ((List.range 6).map (c6 l i)).toArray[i]? = some cv := ⟨_, Array.getElem?_eq_getElem (by simp; omega)⟩
   rw [hcv] at hci
   have HSET := hid (c6_set l i hlt)
   have e1 : (8 : Int) * (i : Int) ≤ 256 := by omega
   have e2 : ((i : Int) * 8).toNat = 8 * i := by omega
   have HLT := hid hlt
   have hsl := fun u => slice35_l u w.heap.size ((i : Int) * 8) (8 * i) (by omega) (by omega)
   clear h0 hbs hx hc hcv
   go_wp2_with fail
   refine (number_any _ _ wr HBS.out (HR.out.drop _) (by rw [List.length_drop, HL.out]; omega) (by rw [List.length_drop, HL.out]; omega)).mono ?_
   rintro e w' ⟨rfl, rfl⟩
   go_wp2_with fail
   go_roundw
   case rel =>
    refine ⟨i + 1, by have := HLT.out; omega, by go_num, ?_, HC.out.setCell _ _ (.inl rfl)⟩
    refine (heap_setCell_same _ X2 i _ _ _ HX.out).trans ?_
    rw [← HSET.out]
    rfl
   case measure => have := HLT.out; simp [intOf]; omega
  ·obtain rfl : i = 6 := by omega
   have HS6 := hid (show S6 X2 l wr.drew from hx)
   have HX1W := hid ((hc.block _ (by have := HE2.out; have := HS.out; omega) (by have := HE2.out; omega)).trans HX1.out)
   have HX1L := hid (Array.getElem?_eq_some_iff.1 HX1W.out).1
   have HCW := hid hc
   clear hx hc hlt
   go_wp2_with fail
   refine wp_region_held_drew (S := fun u => S6 X2 l u) (by kernel_rfl) (HS6.out) (fun hHeld => ?_)
   refine tk (i := 0) (oi := ⟨some 18, .indexAddr 130 (.tmp 4) (.const (Value.int IntKind.i64 0)), 0, "mark.go:37", #[], none⟩) (v := ?_) (Or.inl ⟨by rfl, ?_⟩) ?_
   rotate_left 1
   ·(intro u hSw; go_simp; try with_reducible rfl)
   try simp only [Act.put, sA, sB, sC]
   refine tk (i := 1) (oi := ⟨some 19, .load 60 (.tmp 18), 60, "mark.go:37", #[⟨0, .data⟩], none⟩) (v := ?_) (Or.inl ⟨by rfl, ?_⟩) ?_
   rotate_left 1
   ·(intro u hSw; have h0 := hSw.at 0 (by decide); have h1 := hSw.at 1 (by decide); have h2 := hSw.at 2 (by decide); have h3 := hSw.at 3 (by decide); have h4 := hSw.at 4 (by decide); have h5 := hSw.at 5 (by decide); go_simp; try with_reducible rfl)
   try simp only [Act.put, sA, sB, sC]
   refine tk (i := 2) (oi := ⟨some 20, .indexAddr 130 (.tmp 4) (.const (Value.int IntKind.i64 1)), 0, "mark.go:37", #[], none⟩) (v := ?_) (Or.inl ⟨by rfl, ?_⟩) ?_
   rotate_left 1
   ·(intro u hSw; go_simp; try with_reducible rfl)
   try simp only [Act.put, sA, sB, sC]
   refine tk (i := 3) (oi := ⟨some 21, .load 60 (.tmp 20), 60, "mark.go:37", #[⟨2, .data⟩], none⟩) (v := ?_) (Or.inl ⟨by rfl, ?_⟩) ?_
   rotate_left 1
   ·(intro u hSw; have h0 := hSw.at 0 (by decide); have h1 := hSw.at 1 (by decide); have h2 := hSw.at 2 (by decide); have h3 := hSw.at 3 (by decide); have h4 := hSw.at 4 (by decide); have h5 := hSw.at 5 (by decide); go_simp; try with_reducible rfl)
   try simp only [Act.put, sA, sB, sC]
   refine tk (i := 4) (oi := ⟨some 22, .indexAddr 130 (.tmp 4) (.const (Value.int IntKind.i64 2)), 0, "mark.go:37", #[], none⟩) (v := ?_) (Or.inl ⟨by rfl, ?_⟩) ?_
   rotate_left 1
   ·(intro u hSw; go_simp; try with_reducible rfl)
   try simp only [Act.put, sA, sB, sC]
   refine tk (i := 5) (oi := ⟨some 23, .load 60 (.tmp 22), 60, "mark.go:37", #[⟨4, .data⟩], none⟩) (v := ?_) (Or.inl ⟨by rfl, ?_⟩) ?_
   rotate_left 1
   ·(intro u hSw; have h0 := hSw.at 0 (by decide); have h1 := hSw.at 1 (by decide); have h2 := hSw.at 2 (by decide); have h3 := hSw.at 3 (by decide); have h4 := hSw.at 4 (by decide); have h5 := hSw.at 5 (by decide); go_simp; try with_reducible rfl)
   try simp only [Act.put, sA, sB, sC]
   refine tk (i := 6) (oi := ⟨some 24, .build 107 #[(0, .tmp 19), (1, .tmp 21), (2, .tmp 23)], 107, "mark.go:37", #[⟨1, .data⟩, ⟨3, .data⟩, ⟨5, .data⟩], none⟩) (v := ?_) (Or.inl ⟨by rfl, ?_⟩) ?_
   rotate_left 1
   ·(intro u hSw; go_simp; try with_reducible rfl)
   try simp only [Act.put, sA, sB, sC]
   refine tk (i := 7) (oi := ⟨some 25, .indexAddr 130 (.tmp 4) (.const (Value.int IntKind.i64 5)), 0, "mark.go:37", #[⟨16, .gcOnly Departure.lateStores⟩], none⟩) (v := ?_) (Or.inl ⟨by rfl, ?_⟩) ?_
   rotate_left 1
   ·(intro u hSw; go_simp; try with_reducible rfl)
   try simp only [Act.put, sA, sB, sC]
   refine tk (i := 8) (oi := ⟨some 26, .load 60 (.tmp 25), 60, "mark.go:37", #[⟨7, .data⟩, ⟨16, .gcOnly Departure.lateStores⟩], none⟩) (v := ?_) (Or.inl ⟨by rfl, ?_⟩) ?_
   rotate_left 1
   ·(intro u hSw; have h0 := hSw.at 0 (by decide); have h1 := hSw.at 1 (by decide); have h2 := hSw.at 2 (by decide); have h3 := hSw.at 3 (by decide); have h4 := hSw.at 4 (by decide); have h5 := hSw.at 5 (by decide); go_simp; try with_reducible rfl)
   try simp only [Act.put, sA, sB, sC]
   refine tk (i := 9) (oi := ⟨some 27, .indexAddr 130 (.tmp 4) (.const (Value.int IntKind.i64 4)), 0, "mark.go:37", #[⟨16, .gcOnly Departure.lateStores⟩], none⟩) (v := ?_) (Or.inl ⟨by rfl, ?_⟩) ?_
   rotate_left 1
   ·(intro u hSw; go_simp; try with_reducible rfl)
   try simp only [Act.put, sA, sB, sC]
   refine tk (i := 10) (oi := ⟨some 28, .load 60 (.tmp 27), 60, "mark.go:37", #[⟨9, .data⟩, ⟨16, .gcOnly Departure.lateStores⟩], none⟩) (v := ?_) (Or.inl ⟨by rfl, ?_⟩) ?_
   rotate_left 1
   ·(intro u hSw; have h0 := hSw.at 0 (by decide); have h1 := hSw.at 1 (by decide); have h2 := hSw.at 2 (by decide); have h3 := hSw.at 3 (by decide); have h4 := hSw.at 4 (by decide); have h5 := hSw.at 5 (by decide); go_simp; try with_reducible rfl)
   try simp only [Act.put, sA, sB, sC]
   refine tk (i := 11) (oi := ⟨some 29, .indexAddr 130 (.tmp 4) (.const (Value.int IntKind.i64 3)), 0, "mark.go:37", #[⟨16, .gcOnly Departure.lateStores⟩], none⟩) (v := ?_) (Or.inl ⟨by rfl, ?_⟩) ?_
   rotate_left 1
   ·(intro u hSw; go_simp; try with_reducible rfl)
   try simp only [Act.put, sA, sB, sC]
   refine tk (i := 12) (oi := ⟨some 30, .load 60 (.tmp 29), 60, "mark.go:37", #[⟨11, .data⟩, ⟨16, .gcOnly Departure.lateStores⟩], none⟩) (v := ?_) (Or.inl ⟨by rfl, ?_⟩) ?_
   rotate_left 1
   ·(intro u hSw; have h0 := hSw.at 0 (by decide); have h1 := hSw.at 1 (by decide); have h2 := hSw.at 2 (by decide); have h3 := hSw.at 3 (by decide); have h4 := hSw.at 4 (by decide); have h5 := hSw.at 5 (by decide); go_simp; try with_reducible rfl)
   try simp only [Act.put, sA, sB, sC]
   refine tk (i := 13) (oi := ⟨some 31, .build 107 #[(0, .tmp 26), (1, .tmp 28), (2, .tmp 30)], 107, "mark.go:37", #[⟨8, .data⟩, ⟨10, .data⟩, ⟨12, .data⟩, ⟨16, .gcOnly Departure.lateStores⟩], none⟩) (v := ?_) (Or.inl ⟨by rfl, ?_⟩) ?_
   rotate_left 1
   ·(intro u hSw; go_simp; try with_reducible rfl)
   try simp only [Act.put, sA, sB, sC]
   refine wpAnyH_ready (rs := [14, 15]) (by kernel_rfl) (by simp) ?_
   refine AllReadyH.cons (o := ⟨some 6, .alloc 107, 0, "mark.go:37", #[], none⟩) rfl (fun K hK => ?_) (AllReadyH.cons (o := ⟨some 7, .alloc 107, 0, "mark.go:37", #[], none⟩) rfl (fun K hK => ?_) AllReadyH.nil)
   go_simp
   refine hK.out _ _ (hHeld.alloc _) (fun hHeld => ?_)
   clear hK K
   try simp only [Act.put, sA, sB, sC]
   refine wpAnyH_ready (rs := [15]) (by kernel_rfl) (by simp) ?_
   refine AllReadyH.cons (o := ⟨some 7, .alloc 107, 0, "mark.go:37", #[], none⟩) rfl (fun K hK => ?_) AllReadyH.nil
   go_simp
   refine hK.out _ _ (hHeld.alloc _) (fun hHeld => ?_)
   clear hK K
   try simp only [Act.put, sA, sB, sC]
   rotate_left 1
   go_simp
   refine hK.out _ _ (hHeld.alloc _) (fun hHeld => ?_)
   clear hK K
   try simp only [Act.put, sA, sB, sC]
   refine wpAnyH_ready (rs := [14]) (by kernel_rfl) (by simp) ?_
   refine AllReadyH.cons (o := ⟨some 6, .alloc 107, 0, "mark.go:37", #[], none⟩) rfl (fun K hK => ?_) AllReadyH.nil
   go_simp
   refine hK.out _ _ (hHeld.alloc _) (fun hHeld => ?_)
   clear hK K
   try simp only [Act.put, sA, sB, sC]
   rotate_left 1
   all_goals
    refine wpAnyH_ready (rs := [16]) (by kernel_rfl) (by simp) ?_
    refine AllReadyH.cons (o := ⟨none, .store 107 (.tmp 6) (.tmp 24), 0, "mark.go:37", #[⟨14, .data⟩, ⟨6, .data⟩, ⟨0, .phase⟩, ⟨1, .phase⟩, ⟨2, .phase⟩, ⟨3, .phase⟩, ⟨4, .phase⟩, ⟨5, .phase⟩, ⟨6, .phase⟩, ⟨7, .textOnly Departure.lateStores⟩, ⟨8, .textOnly Departure.lateStores⟩, ⟨9, .textOnly Departure.lateStores⟩, ⟨10, .textOnly Departure.lateStores⟩, ⟨11, .textOnly Departure.lateStores⟩, ⟨12, .textOnly Departure.lateStores⟩, ⟨13, .textOnly Departure.lateStores⟩, ⟨14, .phase⟩, ⟨15, .phase⟩], none⟩) rfl (fun K hK => ?_) AllReadyH.nil
    go_simp
    refine hK.out _ _ (S6.alloc (S6.alloc (show S6 X2 l wr from HS6.out) _) _) (fun hHeld => ?_)
    clear hK K
    try simp only [Act.put]
    refine wpAnyH_ready (rs := [17]) (by kernel_rfl) (by simp) ?_
    refine AllReadyH.cons (o := ⟨none, .store 107 (.tmp 7) (.tmp 31), 0, "mark.go:37", #[⟨15, .data⟩, ⟨13, .data⟩, ⟨16, .chain⟩, ⟨0, .phase⟩, ⟨1, .phase⟩, ⟨2, .phase⟩, ⟨3, .phase⟩, ⟨4, .phase⟩, ⟨5, .phase⟩, ⟨6, .phase⟩, ⟨7, .phase⟩, ⟨8, .phase⟩, ⟨9, .phase⟩, ⟨10, .phase⟩, ⟨11, .phase⟩, ⟨12, .phase⟩, ⟨13, .phase⟩, ⟨14, .phase⟩, ⟨15, .phase⟩, ⟨16, .phase⟩], none⟩) rfl (fun K hK => ?_) AllReadyH.nil
    go_simp
    refine hK.out _ _ (S6.alloc (S6.alloc (show S6 X2 l wr from HS6.out) _) _) (fun hHeld => ?_)
    clear hK K
    try simp only [Act.put]
    refine wpAnyH_done (by kernel_rfl) ?_ _
   ·generalize hw9 : ((wr.alloc (.cells #[Value.int .u64 (nAt l 0 : Nat), .int .u64 (nAt l 1 : Nat), .int .u64 (nAt l 2 : Nat)] 107)).alloc (.cells #[Value.int .u64 (nAt l 5 : Nat), .int .u64 (nAt l 4 : Nat), .int .u64 (nAt l 3 : Nat)] 107)).drew = w9 at *
    have HA9 := hid (show w9.heap[wr.heap.size]? = some (.cells #[Value.int .u64 (nAt l 0 : Nat), .int .u64 (nAt l 1 : Nat), .int .u64 (nAt l 2 : Nat)] 107 (0, 0)) from by rw [← hw9]; exact (heap_alloc_old _ _ (by simp)).trans (heap_alloc_new wr _))
    have HB9 := hid (show w9.heap[wr.heap.size + 1]? = some (.cells #[Value.int .u64 (nAt l 5 : Nat), .int .u64 (nAt l 4 : Nat), .int .u64 (nAt l 3 : Nat)] 107 (0, 0)) from by rw [← hw9]; have h := heap_alloc_new (wr.alloc (.cells #[Value.int .u64 (nAt l 0 : Nat), .int .u64 (nAt l 1 : Nat), .int .u64 (nAt l 2 : Nat)] 107)) (.cells #[Value.int .u64 (nAt l 5 : Nat), .int .u64 (nAt l 4 : Nat), .int .u64 (nAt l 3 : Nat)] 107); rw [World.size_alloc] at h; exact h)
    have HC9 := hid (show Below wr.heap.size wr w9 from by rw [← hw9]; exact (((Below.refl _ _).alloc (Nat.le_refl _) _).alloc (by simp) _).drew)
    have HW9 := hid hw9
    clear hw9
    have HX9 := hid ((HC9.out.block _ HX1L.out).trans HX1W.out)
    have f0 := frozen_of_row _ (w.heap.size + 1) 0 _ _ HX9.out
    have f1 := frozen_of_row _ (w.heap.size + 1) 1 _ _ HX9.out
    have f2 := frozen_of_row _ (w.heap.size + 1) 2 _ _ HX9.out
    have x0 := (cell_of_row _ (w.heap.size + 1) 0 _ _ _ HX9.out).trans (show (#[Value.int .u64 0, .int .u64 0, .int .u64 0] : Array Value)[0]? = some (.int .u64 0) from rfl)
    have x1 := (cell_of_row _ (w.heap.size + 1) 1 _ _ _ HX9.out).trans (show (#[Value.int .u64 0, .int .u64 0, .int .u64 0] : Array Value)[1]? = some (.int .u64 0) from rfl)
    have x2 := (cell_of_row _ (w.heap.size + 1) 2 _ _ _ HX9.out).trans (show (#[Value.int .u64 0, .int .u64 0, .int .u64 0] : Array Value)[2]? = some (.int .u64 0) from rfl)
    have HS9 := hid (And.intro HA9.out HB9.out)
    go_wp2_with fail
    refine wp_region_held_drew (S := fun u => u.heap[wr.heap.size]? = some (.cells #[Value.int .u64 (nAt l 0 : Nat), .int .u64 (nAt l 1 : Nat), .int .u64 (nAt l 2 : Nat)] 107 (0, 0)) ∧ u.heap[wr.heap.size + 1]? = some (.cells #[Value.int .u64 (nAt l 5 : Nat), .int .u64 (nAt l 4 : Nat), .int .u64 (nAt l 3 : Nat)] 107 (0, 0))) (by kernel_rfl) (HS9.out) (fun hHeld => ?_)
    refine tk (i := 0) (oi := ⟨some 32, .load 107 (.tmp 6), 107, "mark.go:38", #[], none⟩) (v := ?_) (Or.inl ⟨by rfl, ?_⟩) ?_
    rotate_left 1
    ·intro u hSw
     have a0 := (cell_of_row u (wr.heap.size) 0 _ _ _ hSw.1).trans (show (#[Value.int .u64 (nAt l 0 : Nat), .int .u64 (nAt l 1 : Nat), .int .u64 (nAt l 2 : Nat)] : Array Value)[0]? = some (.int .u64 (nAt l 0 : Nat)) from rfl); have a1 := (cell_of_row u (wr.heap.size) 1 _ _ _ hSw.1).trans (show (#[Value.int .u64 (nAt l 0 : Nat), .int .u64 (nAt l 1 : Nat), .int .u64 (nAt l 2 : Nat)] : Array Value)[1]? = some (.int .u64 (nAt l 1 : Nat)) from rfl); have a2 := (cell_of_row u (wr.heap.size) 2 _ _ _ hSw.1).trans (show (#[Value.int .u64 (nAt l 0 : Nat), .int .u64 (nAt l 1 : Nat), .int .u64 (nAt l 2 : Nat)] : Array Value)[2]? = some (.int .u64 (nAt l 2 : Nat)) from rfl)
     go_simp
     try with_reducible rfl
    try simp only [Act.put, sA, sB, sC]
    refine tk (i := 1) (oi := ⟨some 33, .load 107 (.tmp 6), 107, "mark.go:38", #[⟨4, .gcOnly Departure.lateStores⟩], none⟩) (v := ?_) (Or.inl ⟨by rfl, ?_⟩) ?_
    rotate_left 1
    ·intro u hSw
     have a0 := (cell_of_row u (wr.heap.size) 0 _ _ _ hSw.1).trans (show (#[Value.int .u64 (nAt l 0 : Nat), .int .u64 (nAt l 1 : Nat), .int .u64 (nAt l 2 : Nat)] : Array Value)[0]? = some (.int .u64 (nAt l 0 : Nat)) from rfl); have a1 := (cell_of_row u (wr.heap.size) 1 _ _ _ hSw.1).trans (show (#[Value.int .u64 (nAt l 0 : Nat), .int .u64 (nAt l 1 : Nat), .int .u64 (nAt l 2 : Nat)] : Array Value)[1]? = some (.int .u64 (nAt l 1 : Nat)) from rfl); have a2 := (cell_of_row u (wr.heap.size) 2 _ _ _ hSw.1).trans (show (#[Value.int .u64 (nAt l 0 : Nat), .int .u64 (nAt l 1 : Nat), .int .u64 (nAt l 2 : Nat)] : Array Value)[2]? = some (.int .u64 (nAt l 2 : Nat)) from rfl)
     go_simp
     try with_reducible rfl
    try simp only [Act.put, sA, sB, sC]
    refine tk (i := 2) (oi := ⟨some 34, .load 107 (.tmp 7), 107, "mark.go:38", #[⟨4, .gcOnly Departure.lateStores⟩], none⟩) (v := ?_) (Or.inl ⟨by rfl, ?_⟩) ?_
    rotate_left 1
    ·intro u hSw
     have a0 := (cell_of_row u (wr.heap.size + 1) 0 _ _ _ hSw.2).trans (show (#[Value.int .u64 (nAt l 5 : Nat), .int .u64 (nAt l 4 : Nat), .int .u64 (nAt l 3 : Nat)] : Array Value)[0]? = some (.int .u64 (nAt l 5 : Nat)) from rfl); have a1 := (cell_of_row u (wr.heap.size + 1) 1 _ _ _ hSw.2).trans (show (#[Value.int .u64 (nAt l 5 : Nat), .int .u64 (nAt l 4 : Nat), .int .u64 (nAt l 3 : Nat)] : Array Value)[1]? = some (.int .u64 (nAt l 4 : Nat)) from rfl); have a2 := (cell_of_row u (wr.heap.size + 1) 2 _ _ _ hSw.2).trans (show (#[Value.int .u64 (nAt l 5 : Nat), .int .u64 (nAt l 4 : Nat), .int .u64 (nAt l 3 : Nat)] : Array Value)[2]? = some (.int .u64 (nAt l 3 : Nat)) from rfl)
     go_simp
     try with_reducible rfl
    try simp only [Act.put, sA, sB, sC]
    refine tk (i := 3) (oi := ⟨some 35, .binOp BinOp.eql 107 (.tmp 33) (.tmp 34) 107, 4, "mark.go:38", #[⟨1, .data⟩, ⟨2, .data⟩, ⟨4, .gcOnly Departure.lateStores⟩], none⟩) (v := .bool (okB l)) (Or.inl ⟨by rfl, ?_⟩) ?_
    ·intro u hSw
     exact exec_eql_mark (Operand.tmp 33) (Operand.tmp 34) 107 rfl _ _ _ _ _ _ rfl rfl (okB l) (by unfold okB; apply decide_eq_decide.2; omega)
    try simp only [Act.put, sA, sB, sC]
    refine wpAnyH_ready (rs := [4]) (by kernel_rfl) (by simp) ?_
    refine AllReadyH.cons (o := ⟨none, .store 107 (.tmp 2) (.tmp 32), 0, "mark.go:38", #[⟨0, .data⟩, ⟨0, .phase⟩, ⟨1, .textOnly Departure.lateStores⟩, ⟨2, .textOnly Departure.lateStores⟩, ⟨3, .textOnly Departure.lateStores⟩], none⟩) rfl (fun K hK => ?_) AllReadyH.nil
    go_simp
    have hg := set3_chg w9 (w.heap.size + 1) (.int .u64 (nAt l 0 : Nat)) (.int .u64 (nAt l 1 : Nat)) (.int .u64 (nAt l 2 : Nat))
    have hh := set3_row w9 (w.heap.size + 1) (.int .u64 (nAt l 0 : Nat)) (.int .u64 (nAt l 1 : Nat)) (.int .u64 (nAt l 2 : Nat)) _ _ _ _ HX9.out
    generalize (((w9.setCell ⟨w.heap.size + 1, 0, none⟩ (.int .u64 (nAt l 0 : Nat))).setCell ⟨w.heap.size + 1, 1, none⟩ (.int .u64 (nAt l 1 : Nat))).setCell ⟨w.heap.size + 1, 2, none⟩ (.int .u64 (nAt l 2 : Nat))) = w10 at *
    have HG10 := hid hg
    have HH10 := hid hh
    clear hg hh
    refine hK.out _ _ ⟨(HG10.out.block _ (Array.getElem?_eq_some_iff.1 HS9.out.1).1 (by have := HX1L.out; omega)).trans HS9.out.1, (HG10.out.block _ (Array.getElem?_eq_some_iff.1 HS9.out.2).1 (by have := HX1L.out; omega)).trans HS9.out.2⟩ (fun hHeld => ?_)
    clear hK K
    try simp only [Act.put]
    refine tk (i := 5) (oi := ⟨some 3, .assign (.tmp 35), 4, "mark.go:38", #[⟨3, .data⟩, ⟨4, .chain⟩, ⟨0, .phase⟩, ⟨1, .phase⟩, ⟨2, .phase⟩, ⟨3, .phase⟩, ⟨4, .phase⟩], none⟩) (v := ?_) (Or.inl ⟨by rfl, ?_⟩) ?_
    rotate_left 1
    ·(intro u hSw; go_simp; try with_reducible rfl)
    try simp only [Act.put, sA, sB, sC]
    refine wpAnyH_done (by kernel_rfl) ?_ _
    go_wp2_with fail
    have hq : Below w.heap.size w w9 := (HB3.out.trans (HCW.out.below (fun k hk => by subst hk; have := HE2.out; omega) HB3.out.size)).trans (HC9.out.mono (HB3.out.trans (HCW.out.below (fun k hk => by subst hk; have := HE2.out; omega) HB3.out.size)).size)
    have hq2 : Below w.heap.size w w10.drew := (hq.trans (HG10.out.below (fun k hk => by subst hk; omega) hq.size)).drew
    refine bodyPost_ret (results_cell_tmp (p := 2) (q := 3) (ty := 107) rfl _ _ (w.heap.size + 1) 107 #[.int .u64 (nAt l 0 : Nat), .int .u64 (nAt l 1 : Nat), .int .u64 (nAt l 2 : Nat)] (0, 0) _ rfl HH10.out Tryz.underlying107 rfl (by kernel_rfl)) rfl ⟨rfl, hq2⟩
   ·generalize hw9 : ((wr.alloc (.cells #[Value.int .u64 (nAt l 5 : Nat), .int .u64 (nAt l 4 : Nat), .int .u64 (nAt l 3 : Nat)] 107)).alloc (.cells #[Value.int .u64 (nAt l 0 : Nat), .int .u64 (nAt l 1 : Nat), .int .u64 (nAt l 2 : Nat)] 107)).drew = w9 at *
    have HA9 := hid (show w9.heap[wr.heap.size]? = some (.cells #[Value.int .u64 (nAt l 5 : Nat), .int .u64 (nAt l 4 : Nat), .int .u64 (nAt l 3 : Nat)] 107 (0, 0)) from by rw [← hw9]; exact (heap_alloc_old _ _ (by simp)).trans (heap_alloc_new wr _))
    have HB9 := hid (show w9.heap[wr.heap.size + 1]? = some (.cells #[Value.int .u64 (nAt l 0 : Nat), .int .u64 (nAt l 1 : Nat), .int .u64 (nAt l 2 : Nat)] 107 (0, 0)) from by rw [← hw9]; have h := heap_alloc_new (wr.alloc (.cells #[Value.int .u64 (nAt l 5 : Nat), .int .u64 (nAt l 4 : Nat), .int .u64 (nAt l 3 : Nat)] 107)) (.cells #[Value.int .u64 (nAt l 0 : Nat), .int .u64 (nAt l 1 : Nat), .int .u64 (nAt l 2 : Nat)] 107); rw [World.size_alloc] at h; exact h)
    have HC9 := hid (show Below wr.heap.size wr w9 from by rw [← hw9]; exact (((Below.refl _ _).alloc (Nat.le_refl _) _).alloc (by simp) _).drew)
    have HW9 := hid hw9
    clear hw9
    have HX9 := hid ((HC9.out.block _ HX1L.out).trans HX1W.out)
    have f0 := frozen_of_row _ (w.heap.size + 1) 0 _ _ HX9.out
    have f1 := frozen_of_row _ (w.heap.size + 1) 1 _ _ HX9.out
    have f2 := frozen_of_row _ (w.heap.size + 1) 2 _ _ HX9.out
    have x0 := (cell_of_row _ (w.heap.size + 1) 0 _ _ _ HX9.out).trans (show (#[Value.int .u64 0, .int .u64 0, .int .u64 0] : Array Value)[0]? = some (.int .u64 0) from rfl)
    have x1 := (cell_of_row _ (w.heap.size + 1) 1 _ _ _ HX9.out).trans (show (#[Value.int .u64 0, .int .u64 0, .int .u64 0] : Array Value)[1]? = some (.int .u64 0) from rfl)
    have x2 := (cell_of_row _ (w.heap.size + 1) 2 _ _ _ HX9.out).trans (show (#[Value.int .u64 0, .int .u64 0, .int .u64 0] : Array Value)[2]? = some (.int .u64 0) from rfl)
    have HS9 := hid (And.intro HB9.out HA9.out)
    go_wp2_with fail
    refine wp_region_held_drew (S := fun u => u.heap[wr.heap.size + 1]? = some (.cells #[Value.int .u64 (nAt l 0 : Nat), .int .u64 (nAt l 1 : Nat), .int .u64 (nAt l 2 : Nat)] 107 (0, 0)) ∧ u.heap[wr.heap.size]? = some (.cells #[Value.int .u64 (nAt l 5 : Nat), .int .u64 (nAt l 4 : Nat), .int .u64 (nAt l 3 : Nat)] 107 (0, 0))) (by kernel_rfl) (HS9.out) (fun hHeld => ?_)
    refine tk (i := 0) (oi := ⟨some 32, .load 107 (.tmp 6), 107, "mark.go:38", #[], none⟩) (v := ?_) (Or.inl ⟨by rfl, ?_⟩) ?_
    rotate_left 1
    ·intro u hSw
     have a0 := (cell_of_row u (wr.heap.size + 1) 0 _ _ _ hSw.1).trans (show (#[Value.int .u64 (nAt l 0 : Nat), .int .u64 (nAt l 1 : Nat), .int .u64 (nAt l 2 : Nat)] : Array Value)[0]? = some (.int .u64 (nAt l 0 : Nat)) from rfl); have a1 := (cell_of_row u (wr.heap.size + 1) 1 _ _ _ hSw.1).trans (show (#[Value.int .u64 (nAt l 0 : Nat), .int .u64 (nAt l 1 : Nat), .int .u64 (nAt l 2 : Nat)] : Array Value)[1]? = some (.int .u64 (nAt l 1 : Nat)) from rfl); have a2 := (cell_of_row u (wr.heap.size + 1) 2 _ _ _ hSw.1).trans (show (#[Value.int .u64 (nAt l 0 : Nat), .int .u64 (nAt l 1 : Nat), .int .u64 (nAt l 2 : Nat)] : Array Value)[2]? = some (.int .u64 (nAt l 2 : Nat)) from rfl)
     go_simp
     try with_reducible rfl
    try simp only [Act.put, sA, sB, sC]
    refine tk (i := 1) (oi := ⟨some 33, .load 107 (.tmp 6), 107, "mark.go:38", #[⟨4, .gcOnly Departure.lateStores⟩], none⟩) (v := ?_) (Or.inl ⟨by rfl, ?_⟩) ?_
    rotate_left 1
    ·intro u hSw
     have a0 := (cell_of_row u (wr.heap.size + 1) 0 _ _ _ hSw.1).trans (show (#[Value.int .u64 (nAt l 0 : Nat), .int .u64 (nAt l 1 : Nat), .int .u64 (nAt l 2 : Nat)] : Array Value)[0]? = some (.int .u64 (nAt l 0 : Nat)) from rfl); have a1 := (cell_of_row u (wr.heap.size + 1) 1 _ _ _ hSw.1).trans (show (#[Value.int .u64 (nAt l 0 : Nat), .int .u64 (nAt l 1 : Nat), .int .u64 (nAt l 2 : Nat)] : Array Value)[1]? = some (.int .u64 (nAt l 1 : Nat)) from rfl); have a2 := (cell_of_row u (wr.heap.size + 1) 2 _ _ _ hSw.1).trans (show (#[Value.int .u64 (nAt l 0 : Nat), .int .u64 (nAt l 1 : Nat), .int .u64 (nAt l 2 : Nat)] : Array Value)[2]? = some (.int .u64 (nAt l 2 : Nat)) from rfl)
     go_simp
     try with_reducible rfl
    try simp only [Act.put, sA, sB, sC]
    refine tk (i := 2) (oi := ⟨some 34, .load 107 (.tmp 7), 107, "mark.go:38", #[⟨4, .gcOnly Departure.lateStores⟩], none⟩) (v := ?_) (Or.inl ⟨by rfl, ?_⟩) ?_
    rotate_left 1
    ·intro u hSw
     have a0 := (cell_of_row u (wr.heap.size) 0 _ _ _ hSw.2).trans (show (#[Value.int .u64 (nAt l 5 : Nat), .int .u64 (nAt l 4 : Nat), .int .u64 (nAt l 3 : Nat)] : Array Value)[0]? = some (.int .u64 (nAt l 5 : Nat)) from rfl); have a1 := (cell_of_row u (wr.heap.size) 1 _ _ _ hSw.2).trans (show (#[Value.int .u64 (nAt l 5 : Nat), .int .u64 (nAt l 4 : Nat), .int .u64 (nAt l 3 : Nat)] : Array Value)[1]? = some (.int .u64 (nAt l 4 : Nat)) from rfl); have a2 := (cell_of_row u (wr.heap.size) 2 _ _ _ hSw.2).trans (show (#[Value.int .u64 (nAt l 5 : Nat), .int .u64 (nAt l 4 : Nat), .int .u64 (nAt l 3 : Nat)] : Array Value)[2]? = some (.int .u64 (nAt l 3 : Nat)) from rfl)
     go_simp
     try with_reducible rfl
    try simp only [Act.put, sA, sB, sC]
    refine tk (i := 3) (oi := ⟨some 35, .binOp BinOp.eql 107 (.tmp 33) (.tmp 34) 107, 4, "mark.go:38", #[⟨1, .data⟩, ⟨2, .data⟩, ⟨4, .gcOnly Departure.lateStores⟩], none⟩) (v := .bool (okB l)) (Or.inl ⟨by rfl, ?_⟩) ?_
    ·intro u hSw
     exact exec_eql_mark (Operand.tmp 33) (Operand.tmp 34) 107 rfl _ _ _ _ _ _ rfl rfl (okB l) (by unfold okB; apply decide_eq_decide.2; omega)
    try simp only [Act.put, sA, sB, sC]
    refine wpAnyH_ready (rs := [4]) (by kernel_rfl) (by simp) ?_
    refine AllReadyH.cons (o := ⟨none, .store 107 (.tmp 2) (.tmp 32), 0, "mark.go:38", #[⟨0, .data⟩, ⟨0, .phase⟩, ⟨1, .textOnly Departure.lateStores⟩, ⟨2, .textOnly Departure.lateStores⟩, ⟨3, .textOnly Departure.lateStores⟩], none⟩) rfl (fun K hK => ?_) AllReadyH.nil
    go_simp
    have hg := set3_chg w9 (w.heap.size + 1) (.int .u64 (nAt l 0 : Nat)) (.int .u64 (nAt l 1 : Nat)) (.int .u64 (nAt l 2 : Nat))
    have hh := set3_row w9 (w.heap.size + 1) (.int .u64 (nAt l 0 : Nat)) (.int .u64 (nAt l 1 : Nat)) (.int .u64 (nAt l 2 : Nat)) _ _ _ _ HX9.out
    generalize (((w9.setCell ⟨w.heap.size + 1, 0, none⟩ (.int .u64 (nAt l 0 : Nat))).setCell ⟨w.heap.size + 1, 1, none⟩ (.int .u64 (nAt l 1 : Nat))).setCell ⟨w.heap.size + 1, 2, none⟩ (.int .u64 (nAt l 2 : Nat))) = w10 at *
    have HG10 := hid hg
    have HH10 := hid hh
    clear hg hh
    refine hK.out _ _ ⟨(HG10.out.block _ (Array.getElem?_eq_some_iff.1 HS9.out.1).1 (by have := HX1L.out; omega)).trans HS9.out.1, (HG10.out.block _ (Array.getElem?_eq_some_iff.1 HS9.out.2).1 (by have := HX1L.out; omega)).trans HS9.out.2⟩ (fun hHeld => ?_)
    clear hK K
    try simp only [Act.put]
    refine tk (i := 5) (oi := ⟨some 3, .assign (.tmp 35), 4, "mark.go:38", #[⟨3, .data⟩, ⟨4, .chain⟩, ⟨0, .phase⟩, ⟨1, .phase⟩, ⟨2, .phase⟩, ⟨3, .phase⟩, ⟨4, .phase⟩], none⟩) (v := ?_) (Or.inl ⟨by rfl, ?_⟩) ?_
    rotate_left 1
    ·(intro u hSw; go_simp; try with_reducible rfl)
    try simp only [Act.put, sA, sB, sC]
    refine wpAnyH_done (by kernel_rfl) ?_ _
    go_wp2_with fail
    have hq : Below w.heap.size w w9 := (HB3.out.trans (HCW.out.below (fun k hk => by subst hk; have := HE2.out; omega) HB3.out.size)).trans (HC9.out.mono (HB3.out.trans (HCW.out.below (fun k hk => by subst hk; have := HE2.out; omega) HB3.out.size)).size)
    have hq2 : Below w.heap.size w w10.drew := (hq.trans (HG10.out.below (fun k hk => by subst hk; omega) hq.size)).drew
    refine bodyPost_ret (results_cell_tmp (p := 2) (q := 3) (ty := 107) rfl _ _ (w.heap.size + 1) 107 #[.int .u64 (nAt l 0 : Nat), .int .u64 (nAt l 1 : Nat), .int .u64 (nAt l 2 : Nat)] (0, 0) _ rfl HH10.out Tryz.underlying107 rfl (by kernel_rfl)) rfl ⟨rfl, hq2⟩
end Go.Proofs.YtdkjkibdncbibaaGreat
namespace Go.Proofs.YtdkjkibdncbibaaGreat
open Go.RowKit
open Go.Lib (hid)
/-- a mark as it is written -/
def mnums (a b c : Nat) : List Nat := [a, b, c, c, b, a]
def pl (ns : List Nat) (i : Nat) : List Int := (ns.take i).flatMap be8 ++ zeros (256 - 8 * i)
def mb (a b c : Nat) : List Int := (mnums a b c).flatMap be8 ++ zeros 208
theorem flat8_len (ns : List Nat) : (ns.flatMap be8).length = 8 * ns.length := by
 induction ns with
 | nil => rfl
 | cons x r ih => rw [List.flatMap_cons, List.length_append, ih, be8_len, List.length_cons]; omega
theorem pl_len (ns : List Nat) (i : Nat) (h : i ≤ ns.length) (h2 : 8 * i ≤ 256) : (pl ns i).length = 256 := by
 unfold pl
 rw [List.length_append, flat8_len, List.length_take, zeros, List.length_replicate]; omega
theorem pl_step (ns : List Nat) (i x : Nat) (hx : ns[i]? = some x) (h2 : 8 * i + 8 ≤ 256) : putL (pl ns i) (8 * i) (be8 x) = pl ns (i + 1) := by
 have hi : i < ns.length := (List.getElem?_eq_some_iff.1 hx).1
 have hlen : ((ns.take i).flatMap be8).length = 8 * i := by rw [flat8_len, List.length_take]; omega
 unfold putL pl
 rw [List.take_append_of_le_length (by rw [hlen]; exact Nat.le_refl _), List.take_of_length_le (by rw [hlen]; exact Nat.le_refl _), List.drop_append, hlen, be8_len, List.drop_of_length_le (by rw [hlen]; omega)]
 have ht : ns.take (i + 1) = ns.take i ++ [x] := by rw [List.take_add_one, hx]; rfl
 rw [ht, List.flatMap_append, zeros, List.drop_replicate, List.nil_append]
 have e1 : 256 - 8 * i - (8 * i + 8 - 8 * i) = 256 - 8 * (i + 1) := by omega
 rw [e1]
 simp [zeros]
theorem mb_len (a b c : Nat) : (mb a b c).length = 256 := by
 unfold mb; rw [List.length_append, flat8_len, zeros, List.length_replicate]; rfl
theorem zeros_rng (n : Nat) : Rng (zeros n) := fun x hx => by
 rw [zeros, List.mem_replicate] at hx; rw [hx.2]; omega
theorem mb_rng (a b c : Nat) : Rng (mb a b c) := rng_append (fun x hx => by
 obtain ⟨n, _, h⟩ := List.mem_flatMap.1 hx
 exact be8_rng n x h) (zeros_rng _)
set_option maxRecDepth 100000 in
set_option maxHeartbeats 4000000 in
theorem mblock_any (a b c : Nat) (w : World) (ha : a < 18446744073709551616) (hb : b < 18446744073709551616) (hc : c < 18446744073709551616) :
  Calls Tryz.prog 68 #[.agg #[.int .u64 a, .int .u64 b, .int .u64 c]] w fun e w' => e = .returned (.agg (ArrU8 (mb a b c))) ∧ Below w.heap.size w w' := by
 have hz := zero35
 have HI35 := hid (show (Tryz.prog.info? 50).map (·.size) = some 256 by kernel_rfl)
 have SZ := hid (show (ArrU8 (zeros 256)).size = 256 by rw [ArrU8_size, zeros, List.length_replicate])
 have SM := hid (show (ArrU8 (mb a b c)).size = 256 by rw [ArrU8_size, mb_len])
 have hsl := fun u => slice35_h u (w.heap.size + 1 + 1) 0 0 rfl (by decide)
 go_enter Tryz.func68, Tryz.ntmps68
 go_wp2_with fail
 have HA := hid ha
 have HB := hid hb
 have HC := hid hc
 have hb1 : Below w.heap.size w (w.alloc (.cells #[.int .u64 a, .int .u64 b, .int .u64 c] 107)) := (Below.refl _ _).alloc (Nat.le_refl _) _
 have hb2 : Below w.heap.size w ((w.alloc (.cells #[.int .u64 a, .int .u64 b, .int .u64 c] 107)).alloc (.cells (ArrU8 (zeros 256)) 50)) := hb1.alloc (by simp) _
 have hb3 : Below w.heap.size w (((w.alloc (.cells #[.int .u64 a, .int .u64 b, .int .u64 c] 107)).alloc (.cells (ArrU8 (zeros 256)) 50)).alloc (.cells (ArrU8 (zeros 256)) 50)) := hb2.alloc (by simp; omega) _
 have hx1 : (((w.alloc (.cells #[.int .u64 a, .int .u64 b, .int .u64 c] 107)).alloc (.cells (ArrU8 (zeros 256)) 50)).alloc (.cells (ArrU8 (zeros 256)) 50)).heap[w.heap.size + 1]? = some (.cells (ArrU8 (zeros 256)) 50 (0, 0)) := (heap_alloc_old _ _ (by simp)).trans (by have h := heap_alloc_new (w.alloc (.cells #[.int .u64 a, .int .u64 b, .int .u64 c] 107)) (.cells (ArrU8 (zeros 256)) 50); rw [World.size_alloc] at h; exact h)
 have hx2 : (((w.alloc (.cells #[.int .u64 a, .int .u64 b, .int .u64 c] 107)).alloc (.cells (ArrU8 (zeros 256)) 50)).alloc (.cells (ArrU8 (zeros 256)) 50)).heap[w.heap.size + 1 + 1]? = some (.cells ((pl (mnums a b c) 0).map (Value.int .u8)).toArray 50 (0, 0)) := by have h := heap_alloc_new ((w.alloc (.cells #[.int .u64 a, .int .u64 b, .int .u64 c] 107)).alloc (.cells (ArrU8 (zeros 256)) 50)) (.cells (ArrU8 (zeros 256)) 50); rw [World.size_alloc, World.size_alloc] at h; exact h
 have HB3 := hid hb3
 have HX1 := hid hx1
 have HX2 := hid hx2
 clear hb1 hb2 hb3 hx1 hx2 ha hb hc hsl
 generalize ((w.alloc (.cells #[.int .u64 a, .int .u64 b, .int .u64 c] 107)).alloc (.cells (ArrU8 (zeros 256)) 50)).alloc (.cells (ArrU8 (zeros 256)) 50) = w3 at *
 have HS := hid (show w.heap.size + 1 + 1 < w3.heap.size from (Array.getElem?_eq_some_iff.1 HX2.out).1)
 go_loopw [4, 21] (fun sv iv wr => ∃ i : Nat, i ≤ 6 ∧ iv = .int .i64 (i : Int) ∧ sv = .slice (some ⟨w.heap.size + 1 + 1, 0, none⟩) (8 * i : Nat) 256 ∧ wr.heap[w.heap.size + 1 + 1]? = some (.cells ((pl (mnums a b c) i).map (Value.int .u8)).toArray 50 (0, 0)) ∧ Chg (fun g => g = w.heap.size + 1 + 1) w3 wr) (fun _ iv _ => 6 - (intOf iv).toNat)
 case atStart => exact ⟨0, by omega, rfl, rfl, HX2.out, Chg.refl _ _⟩
 case round =>
  obtain ⟨i, hi, rfl, rfl, hx, hc⟩ := hrel
  have HX := hid hx
  have HCW := hid hc
  clear hx hc
  by_cases hlt : i < 6
  ·obtain ⟨x, hnx, hx64⟩ : ∃ x, (mnums a b c)[i]? = some x ∧ x < 18446744073709551616 := by
    have h1 := HA.out; have h2 := HB.out; have h3 := HC.out
    rcases i with _ | _ | _ | _ | _ | _ | i
    ·exact ⟨a, rfl, h1⟩
    ·exact ⟨b, rfl, h2⟩
    ·exact ⟨c, rfl, h3⟩
    ·exact ⟨c, rfl, h3⟩
    ·exact ⟨b, rfl, h2⟩
    ·exact ⟨a, rfl, h1⟩
    ·omega
   have HST := hid (pl_step (mnums a b c) i x hnx (by omega))
   have HPL := hid (pl_len (mnums a b c) i (by show i ≤ 6; omega) (by omega))
   have hap := appendNumber_in (w.heap.size + 1 + 1) (8 * i) x _ _ wr HX.out HPL.out (by omega) hx64
   have HAP := hid hap
   have HLT := hid hlt
   have hix : ∀ u : World, (Instr.index 130 (.agg #[.int .u64 (a : Int), .int .u64 (b : Int), .int .u64 (c : Int), .int .u64 (c : Int), .int .u64 (b : Int), .int .u64 (a : Int)]) (.int .i64 (i : Int))).run Tryz.prog u = .ok (.int .u64 (x : Int)) u := by
    intro u
    rcases i with _ | _ | _ | _ | _ | _ | i
    all_goals first | (simp [mnums] at hnx; subst hnx; kernel_rfl) | omega
   clear hap hnx
   go_wp2_with fail
   refine HAP.out.mono ?_
   rintro e w4 ⟨rfl, hx4, hc4⟩
   rw [HST.out] at hx4
   have HX4 := hid hx4
   have HC4 := hid (HCW.out.trans hc4 (fun _ h => .inl h))
   clear hx4 hc4 hix
   go_wp2_with fail
   go_roundw
   case rel => exact ⟨i + 1, by have := HLT.out; omega, by go_num, by rw [Nat.mul_add], HX4.out, HC4.out⟩
   case measure => have := HLT.out; simp [intOf]; omega
  ·obtain rfl : i = 6 := by omega
   have HXM := hid (show wr.heap[w.heap.size + 1 + 1]? = some (.cells (ArrU8 (mb a b c)) 50 (0, 0)) from HX.out)
   have HX1W := hid ((HCW.out.block (w.heap.size + 1) (by have := HS.out; omega) (by omega)).trans HX1.out)
   clear hlt hz
   go_wp2_with (first
    | (refine wpList_load_row rfl 50 (Operand.tmp 3) rfl (w.heap.size + 1 + 1) rfl 50 (ArrU8 (mb a b c)) (0, 0) _ HXM.out Tryz.underlying50 rfl (by rw [HI35.out, SM.out]) ?_)
    | (refine wpList_store_row rfl 50 (Operand.tmp 2) (Operand.tmp 28) rfl (w.heap.size + 1) (ArrU8 (mb a b c)) rfl rfl 50 (ArrU8 (zeros 256)) HX1W.out (by rw [HI35.out, SM.out]) (by rw [SZ.out, SM.out]) (ArrU8_one _) ?_))
   have hq : Below w.heap.size w wr := HB3.out.trans (HCW.out.below (fun k hk => by subst hk; omega) HB3.out.size)
   refine bodyPost_ret (results_cell_row rfl _ _ (w.heap.size + 1) 50 (ArrU8 (mb a b c)) (0, 0) _ rfl (setRow_heap _ _ _ _ _ _ HX1W.out) Tryz.underlying50 rfl (by rw [HI35.out, SM.out])) rfl ⟨rfl, ?_⟩
   exact below_setRow hq (by omega) _
end Go.Proofs.YtdkjkibdncbibaaGreat
