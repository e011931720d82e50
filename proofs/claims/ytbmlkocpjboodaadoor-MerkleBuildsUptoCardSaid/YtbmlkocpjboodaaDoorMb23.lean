/- stage 7: May of the reference -/
import Derived.Test.YtbmlkocpjboodaaDoorMb22
namespace Go.Proofs.YtbmlkocpjboodaaDoor
open Go.RowKit
open Go.Lib (hid)
/-- may a list of entries be so, behind a key? -/
def mayF : Option (List Int) → List (List Int × Int) → Bool
 | _, [] => true
 | p, x :: l => !decide (x.2 < 1) && (!decide (65535 < x.1.length) && (p.elim true (fun k => decide (cmpI k x.1 < 0)) && mayF (some x.1) l))
def prevK (es : List (List Int × Int)) (j : Nat) : Option (List Int) := if j = 0 then none else (es[j - 1]?).map (·.1)
set_option maxRecDepth 100000 in
set_option maxHeartbeats 8000000 in
theorem refMay_any (w : World) (v : Value) (es : List (List Int × Int)) (hv : RfS w v es) (hes : ∀ x ∈ es, Rng x.1) (hn : es.length ≤ 1073741824) :
  Calls Tryd.prog 12 #[v] w fun d w' => d = .returned (.bool (mayF none es)) ∧ Below w.heap.size w w' := by
 have HV := hid hv
 obtain ⟨av, cv, rfl, -⟩ := hv
 have HES := hid hes
 generalize hR : mayF none es = R at *
 have HR0 := hid hR
 clear hes hR
 go_enter Tryd.func12, Tryd.ntmps12
 go_wp2_with fail
 go_loopw [3] (fun iv wr => ∃ (j : Nat), j ≤ es.length ∧ iv = .int .i64 (j : Int) ∧ mayF (prevK es j) (es.drop j) = R ∧ Below w.heap.size w wr) (fun iv _ => es.length - (intOf iv).toNat)
 case atStart => exact ⟨0, Nat.zero_le _, rfl, HR0.out, Below.refl _ _⟩
 case round =>
  obtain ⟨j, hj, rfl, hR, hbw⟩ := hrel
  by_cases hjl : j < es.length
  ·have hx : es[j]? = some (es[j]'hjl) := List.getElem?_eq_getElem hjl
   have hdr : es.drop j = es[j]'hjl :: es.drop (j + 1) := List.drop_eq_getElem_cons hjl
   generalize es[j]'hjl = x at hx hdr
   have gx := HES.out x (List.mem_of_getElem? hx)
   have hpk : prevK es (j + 1) = some x.1 := by unfold prevK; rw [if_neg (by omega), Nat.add_sub_cancel, hx]; rfl
   rw [hdr] at hR
   unfold mayF at hR
   rw [← hpk] at hR
   obtain ⟨a', c', he, hall⟩ := HV.out
   injection he with e1 e0 e2
   clear e0
   subst e1 e2
   obtain ⟨g, o, hag, hgl, hc0, hc1⟩ := hall j x hx
   subst hag
   have hj0 : (0 : Int) ≤ (j : Int) := by omega
   have hj1 : (j : Int) < (es.length : Int) := by omega
   have HC := hid (fun u (hu : Below w.heap.size w u) => (show u.cell? ⟨g, o + j * 2, none⟩ = some (.string (str x.1)) ∧ u.cell? ⟨g, o + j * 2 + 1, none⟩ = some (.int .i64 x.2) from ⟨(World.cell?_of_block (a := ⟨g, o + j * 2, none⟩) (hu.block g hgl)).trans hc0, (World.cell?_of_block (a := ⟨g, o + j * 2 + 1, none⟩) (hu.block g hgl)).trans hc1⟩))
   have hb := hbw.drew
   have HBD := hid hb
   have HX := hid (And.intro hjl (And.intro hx gx))
   clear hbw hx hdr gx hpk hc0 hc1 hgl hj hjl
   by_cases k1 : x.2 < 1
   ·have HR := hid (show false = R from by rw [← hR, decide_eq_true k1]; rfl)
    clear hR hall
    go_wp2_with fail
    refine wp_region_held_drew (S := fun u => Below w.heap.size w u) (by kernel_rfl) (hb) (fun hHeld => ?_)
    refine tk (i := 0) (oi := ⟨some 10, .move (.tmp 0), 22, "ref.go:38", #[], none⟩) (v := ?_) (Or.inl ⟨by rfl, ?_⟩) ?_
    rotate_left 1
    ·(intro u hSw; go_simp; try with_reducible rfl)
    try simp only [Act.put, sA, sB, sC]
    refine tk (i := 1) (oi := ⟨some 11, .move (.tmp 3), 3, "ref.go:38", #[], none⟩) (v := ?_) (Or.inl ⟨by rfl, ?_⟩) ?_
    rotate_left 1
    ·(intro u hSw; go_simp; try with_reducible rfl)
    try simp only [Act.put, sA, sB, sC]
    refine tk (i := 2) (oi := ⟨some 12, .indexAddr 22 (.tmp 10) (.tmp 11), 0, "ref.go:38", #[⟨0, .data⟩, ⟨1, .data⟩], none⟩) (v := ?_) (Or.inl ⟨by rfl, ?_⟩) ?_
    rotate_left 1
    ·(intro u hSw; go_simp; try with_reducible rfl)
    try simp only [Act.put, sA, sB, sC]
    refine tk (i := 3) (oi := ⟨some 13, .fieldAddr 45 (.tmp 12) 1, 0, "ref.go:38", #[⟨2, .data⟩], none⟩) (v := ?_) (Or.inl ⟨by rfl, ?_⟩) ?_
    rotate_left 1
    ·(intro u hSw; go_simp; try with_reducible rfl)
    try simp only [Act.put, sA, sB, sC]
    refine tk (i := 4) (oi := ⟨some 14, .load 2 (.tmp 13), 2, "ref.go:38", #[⟨3, .data⟩], none⟩) (v := ?_) (Or.inl ⟨by rfl, ?_⟩) ?_
    rotate_left 1
    ·(intro u hSw; have y0 := (HC.out _ hSw).1; have y1 := (HC.out _ hSw).2; go_simp; try with_reducible rfl)
    try simp only [Act.put, sA, sB, sC]
    refine tk (i := 5) (oi := ⟨some 15, .binOp BinOp.lss 2 (.tmp 14) (.const (Value.int IntKind.i64 1)) 2, 4, "ref.go:38", #[⟨4, .data⟩], none⟩) (v := ?_) (Or.inl ⟨by rfl, ?_⟩) ?_
    rotate_left 1
    ·(intro u hSw; go_simp; try with_reducible rfl)
    try simp only [Act.put, sA, sB, sC]
    refine tk (i := 6) (oi := ⟨some 16, .move (.tmp 15), 4, "ref.go:38", #[⟨5, .data⟩], none⟩) (v := ?_) (Or.inl ⟨by rfl, ?_⟩) ?_
    rotate_left 1
    ·(intro u hSw; go_simp; try with_reducible rfl)
    try simp only [Act.put, sA, sB, sC]
    refine tk (i := 7) (oi := ⟨some 17, .move (.tmp 0), 22, "ref.go:38", #[⟨6, .guard⟩], some (6, false)⟩) (v := undef) (by exact .inr ⟨by rfl, rfl⟩) ?_
    try simp only [Act.put, sA, sB, sC]
    refine tk (i := 8) (oi := ⟨some 18, .move (.tmp 3), 3, "ref.go:38", #[⟨6, .guard⟩], some (6, false)⟩) (v := undef) (by exact .inr ⟨by rfl, rfl⟩) ?_
    try simp only [Act.put, sA, sB, sC]
    refine tk (i := 9) (oi := ⟨some 19, .indexAddr 22 (.tmp 17) (.tmp 18), 0, "ref.go:38", #[⟨7, .data⟩, ⟨8, .data⟩, ⟨6, .guard⟩], some (6, false)⟩) (v := undef) (by exact .inr ⟨by rfl, rfl⟩) ?_
    try simp only [Act.put, sA, sB, sC]
    refine tk (i := 10) (oi := ⟨some 20, .fieldAddr 45 (.tmp 19) 0, 0, "ref.go:38", #[⟨9, .data⟩, ⟨6, .guard⟩], some (6, false)⟩) (v := undef) (by exact .inr ⟨by rfl, rfl⟩) ?_
    try simp only [Act.put, sA, sB, sC]
    refine tk (i := 11) (oi := ⟨some 21, .load 9 (.tmp 20), 9, "ref.go:38", #[⟨10, .data⟩, ⟨6, .guard⟩], some (6, false)⟩) (v := undef) (by exact .inr ⟨by rfl, rfl⟩) ?_
    try simp only [Act.put, sA, sB, sC]
    refine tk (i := 12) (oi := ⟨some 22, .call ⟨.builtin .len, #[.tmp 21], #[9]⟩, 3, "ref.go:38", #[⟨11, .data⟩, ⟨6, .guard⟩], some (6, false)⟩) (v := undef) (by exact .inr ⟨by rfl, rfl⟩) ?_
    try simp only [Act.put, sA, sB, sC]
    refine tk (i := 13) (oi := ⟨some 23, .binOp BinOp.gtr 3 (.tmp 22) (.const (Value.int IntKind.i64 65535)) 3, 4, "ref.go:38", #[⟨12, .data⟩, ⟨6, .guard⟩], some (6, false)⟩) (v := undef) (by exact .inr ⟨by rfl, rfl⟩) ?_
    try simp only [Act.put, sA, sB, sC]
    refine tk (i := 14) (oi := ⟨some 24, .pick (.tmp 16) (.const (Value.bool true)) (.tmp 23), 4, "ref.go:38", #[⟨6, .data⟩, ⟨13, .data⟩], none⟩) (v := ?_) (Or.inl ⟨by rfl, ?_⟩) ?_
    rotate_left 1
    ·(intro u hSw; go_simp; try with_reducible rfl)
    try simp only [Act.put, sA, sB, sC]
    refine tk (i := 15) (oi := ⟨some 25, .move (.tmp 24), 4, "ref.go:38", #[⟨14, .data⟩, ⟨6, .chain⟩], none⟩) (v := ?_) (Or.inl ⟨by rfl, ?_⟩) ?_
    rotate_left 1
    ·(intro u hSw; go_simp; try with_reducible rfl)
    try simp only [Act.put, sA, sB, sC]
    refine tk (i := 16) (oi := ⟨some 26, .move (.tmp 3), 3, "ref.go:38", #[⟨15, .guard⟩], some (15, false)⟩) (v := undef) (by exact .inr ⟨by rfl, rfl⟩) ?_
    try simp only [Act.put, sA, sB, sC]
    refine tk (i := 17) (oi := ⟨some 27, .binOp BinOp.gtr 3 (.tmp 26) (.const (Value.int IntKind.i64 0)) 3, 4, "ref.go:38", #[⟨16, .data⟩, ⟨15, .guard⟩], some (15, false)⟩) (v := undef) (by exact .inr ⟨by rfl, rfl⟩) ?_
    try simp only [Act.put, sA, sB, sC]
    refine tk (i := 18) (oi := ⟨some 28, .move (.tmp 27), 4, "ref.go:38", #[⟨17, .data⟩, ⟨15, .chain⟩, ⟨15, .guard⟩], some (15, false)⟩) (v := undef) (by exact .inr ⟨by rfl, rfl⟩) ?_
    try simp only [Act.put, sA, sB, sC]
    refine tk (i := 19) (oi := ⟨some 29, .move (.tmp 0), 22, "ref.go:38", #[⟨18, .guard⟩], some (18, true)⟩) (v := undef) (by exact .inr ⟨by rfl, rfl⟩) ?_
    try simp only [Act.put, sA, sB, sC]
    refine tk (i := 20) (oi := ⟨some 30, .move (.tmp 3), 3, "ref.go:38", #[⟨18, .guard⟩], some (18, true)⟩) (v := undef) (by exact .inr ⟨by rfl, rfl⟩) ?_
    try simp only [Act.put, sA, sB, sC]
    refine tk (i := 21) (oi := ⟨some 31, .binOp BinOp.sub 3 (.tmp 30) (.const (Value.int IntKind.i64 1)) 3, 3, "ref.go:38", #[⟨20, .data⟩, ⟨18, .guard⟩], some (18, true)⟩) (v := undef) (by exact .inr ⟨by rfl, rfl⟩) ?_
    try simp only [Act.put, sA, sB, sC]
    refine tk (i := 22) (oi := ⟨some 32, .indexAddr 22 (.tmp 29) (.tmp 31), 0, "ref.go:38", #[⟨19, .data⟩, ⟨21, .data⟩, ⟨18, .guard⟩], some (18, true)⟩) (v := undef) (by exact .inr ⟨by rfl, rfl⟩) ?_
    try simp only [Act.put, sA, sB, sC]
    refine tk (i := 23) (oi := ⟨some 33, .fieldAddr 45 (.tmp 32) 0, 0, "ref.go:38", #[⟨22, .data⟩, ⟨18, .guard⟩], some (18, true)⟩) (v := undef) (by exact .inr ⟨by rfl, rfl⟩) ?_
    try simp only [Act.put, sA, sB, sC]
    refine tk (i := 24) (oi := ⟨some 34, .load 9 (.tmp 33), 9, "ref.go:38", #[⟨23, .data⟩, ⟨18, .guard⟩], some (18, true)⟩) (v := undef) (by exact .inr ⟨by rfl, rfl⟩) ?_
    try simp only [Act.put, sA, sB, sC]
    refine tk (i := 25) (oi := ⟨some 35, .move (.tmp 0), 22, "ref.go:38", #[⟨18, .guard⟩], some (18, true)⟩) (v := undef) (by exact .inr ⟨by rfl, rfl⟩) ?_
    try simp only [Act.put, sA, sB, sC]
    refine tk (i := 26) (oi := ⟨some 36, .move (.tmp 3), 3, "ref.go:38", #[⟨18, .guard⟩], some (18, true)⟩) (v := undef) (by exact .inr ⟨by rfl, rfl⟩) ?_
    try simp only [Act.put, sA, sB, sC]
    refine tk (i := 27) (oi := ⟨some 37, .indexAddr 22 (.tmp 35) (.tmp 36), 0, "ref.go:38", #[⟨25, .data⟩, ⟨26, .data⟩, ⟨18, .guard⟩], some (18, true)⟩) (v := undef) (by exact .inr ⟨by rfl, rfl⟩) ?_
    try simp only [Act.put, sA, sB, sC]
    refine tk (i := 28) (oi := ⟨some 38, .fieldAddr 45 (.tmp 37) 0, 0, "ref.go:38", #[⟨27, .data⟩, ⟨18, .guard⟩], some (18, true)⟩) (v := undef) (by exact .inr ⟨by rfl, rfl⟩) ?_
    try simp only [Act.put, sA, sB, sC]
    refine tk (i := 29) (oi := ⟨some 39, .load 9 (.tmp 38), 9, "ref.go:38", #[⟨28, .data⟩, ⟨18, .guard⟩], some (18, true)⟩) (v := undef) (by exact .inr ⟨by rfl, rfl⟩) ?_
    try simp only [Act.put, sA, sB, sC]
    refine tk (i := 30) (oi := ⟨some 40, .binOp BinOp.geq 9 (.tmp 34) (.tmp 39) 9, 4, "ref.go:38", #[⟨24, .data⟩, ⟨29, .data⟩, ⟨18, .guard⟩], some (18, true)⟩) (v := undef) (by exact .inr ⟨by rfl, rfl⟩) ?_
    try simp only [Act.put, sA, sB, sC]
    refine tk (i := 31) (oi := ⟨some 41, .pick (.tmp 28) (.tmp 40) (.const (Value.bool false)), 4, "ref.go:38", #[⟨18, .data⟩, ⟨30, .data⟩, ⟨15, .guard⟩], some (15, false)⟩) (v := undef) (by exact .inr ⟨by rfl, rfl⟩) ?_
    try simp only [Act.put, sA, sB, sC]
    refine tk (i := 32) (oi := ⟨some 42, .pick (.tmp 25) (.const (Value.bool true)) (.tmp 41), 4, "ref.go:38", #[⟨15, .data⟩, ⟨31, .data⟩], none⟩) (v := ?_) (Or.inl ⟨by rfl, ?_⟩) ?_
    rotate_left 1
    ·(intro u hSw; go_simp; try with_reducible rfl)
    try simp only [Act.put, sA, sB, sC]
    refine wpAnyH_done (by kernel_rfl) ?_ _
    clear hb
    go_wp2_with fail
    go_ret
    exact ⟨by rw [← HR.out]; rfl, HBD.out⟩
   ·by_cases k2 : (x.1.length : Int) > 65535
    ·have HR := hid (show false = R from by rw [← hR, decide_eq_true (show 65535 < x.1.length by omega)]; simp)
     have hsl := str_len x.1
     clear hR hall
     go_wp2_with fail
     refine wp_region_held_drew (S := fun u => Below w.heap.size w u) (by kernel_rfl) (hb) (fun hHeld => ?_)
     refine tk (i := 0) (oi := ⟨some 10, .move (.tmp 0), 22, "ref.go:38", #[], none⟩) (v := ?_) (Or.inl ⟨by rfl, ?_⟩) ?_
     rotate_left 1
     ·(intro u hSw; go_simp; try with_reducible rfl)
     try simp only [Act.put, sA, sB, sC]
     refine tk (i := 1) (oi := ⟨some 11, .move (.tmp 3), 3, "ref.go:38", #[], none⟩) (v := ?_) (Or.inl ⟨by rfl, ?_⟩) ?_
     rotate_left 1
     ·(intro u hSw; go_simp; try with_reducible rfl)
     try simp only [Act.put, sA, sB, sC]
     refine tk (i := 2) (oi := ⟨some 12, .indexAddr 22 (.tmp 10) (.tmp 11), 0, "ref.go:38", #[⟨0, .data⟩, ⟨1, .data⟩], none⟩) (v := ?_) (Or.inl ⟨by rfl, ?_⟩) ?_
     rotate_left 1
     ·(intro u hSw; go_simp; try with_reducible rfl)
     try simp only [Act.put, sA, sB, sC]
     refine tk (i := 3) (oi := ⟨some 13, .fieldAddr 45 (.tmp 12) 1, 0, "ref.go:38", #[⟨2, .data⟩], none⟩) (v := ?_) (Or.inl ⟨by rfl, ?_⟩) ?_
     rotate_left 1
     ·(intro u hSw; go_simp; try with_reducible rfl)
     try simp only [Act.put, sA, sB, sC]
     refine tk (i := 4) (oi := ⟨some 14, .load 2 (.tmp 13), 2, "ref.go:38", #[⟨3, .data⟩], none⟩) (v := ?_) (Or.inl ⟨by rfl, ?_⟩) ?_
     rotate_left 1
     ·(intro u hSw; have y0 := (HC.out _ hSw).1; have y1 := (HC.out _ hSw).2; go_simp; try with_reducible rfl)
     try simp only [Act.put, sA, sB, sC]
     refine tk (i := 5) (oi := ⟨some 15, .binOp BinOp.lss 2 (.tmp 14) (.const (Value.int IntKind.i64 1)) 2, 4, "ref.go:38", #[⟨4, .data⟩], none⟩) (v := .bool false) (Or.inl ⟨by rfl, ?_⟩) ?_
     ·intro u hSw
      go_simp; try omega
     try simp only [Act.put, sA, sB, sC]
     refine tk (i := 6) (oi := ⟨some 16, .move (.tmp 15), 4, "ref.go:38", #[⟨5, .data⟩], none⟩) (v := ?_) (Or.inl ⟨by rfl, ?_⟩) ?_
     rotate_left 1
     ·(intro u hSw; go_simp; try with_reducible rfl)
     try simp only [Act.put, sA, sB, sC]
     refine tk (i := 7) (oi := ⟨some 17, .move (.tmp 0), 22, "ref.go:38", #[⟨6, .guard⟩], some (6, false)⟩) (v := ?_) (Or.inl ⟨by rfl, ?_⟩) ?_
     rotate_left 1
     ·(intro u hSw; go_simp; try with_reducible rfl)
     try simp only [Act.put, sA, sB, sC]
     refine tk (i := 8) (oi := ⟨some 18, .move (.tmp 3), 3, "ref.go:38", #[⟨6, .guard⟩], some (6, false)⟩) (v := ?_) (Or.inl ⟨by rfl, ?_⟩) ?_
     rotate_left 1
     ·(intro u hSw; go_simp; try with_reducible rfl)
     try simp only [Act.put, sA, sB, sC]
     refine tk (i := 9) (oi := ⟨some 19, .indexAddr 22 (.tmp 17) (.tmp 18), 0, "ref.go:38", #[⟨7, .data⟩, ⟨8, .data⟩, ⟨6, .guard⟩], some (6, false)⟩) (v := ?_) (Or.inl ⟨by rfl, ?_⟩) ?_
     rotate_left 1
     ·(intro u hSw; go_simp; try with_reducible rfl)
     try simp only [Act.put, sA, sB, sC]
     refine tk (i := 10) (oi := ⟨some 20, .fieldAddr 45 (.tmp 19) 0, 0, "ref.go:38", #[⟨9, .data⟩, ⟨6, .guard⟩], some (6, false)⟩) (v := ?_) (Or.inl ⟨by rfl, ?_⟩) ?_
     rotate_left 1
     ·(intro u hSw; go_simp; try with_reducible rfl)
     try simp only [Act.put, sA, sB, sC]
     refine tk (i := 11) (oi := ⟨some 21, .load 9 (.tmp 20), 9, "ref.go:38", #[⟨10, .data⟩, ⟨6, .guard⟩], some (6, false)⟩) (v := ?_) (Or.inl ⟨by rfl, ?_⟩) ?_
     rotate_left 1
     ·(intro u hSw; have y0 := (HC.out _ hSw).1; have y1 := (HC.out _ hSw).2; go_simp; try with_reducible rfl)
     try simp only [Act.put, sA, sB, sC]
     refine tk (i := 12) (oi := ⟨some 22, .call ⟨.builtin .len, #[.tmp 21], #[9]⟩, 3, "ref.go:38", #[⟨11, .data⟩, ⟨6, .guard⟩], some (6, false)⟩) (v := ?_) (Or.inl ⟨by rfl, ?_⟩) ?_
     rotate_left 1
     ·(intro u hSw; go_simp; try with_reducible rfl)
     try simp only [Act.put, sA, sB, sC]
     refine tk (i := 13) (oi := ⟨some 23, .binOp BinOp.gtr 3 (.tmp 22) (.const (Value.int IntKind.i64 65535)) 3, 4, "ref.go:38", #[⟨12, .data⟩, ⟨6, .guard⟩], some (6, false)⟩) (v := .bool true) (Or.inl ⟨by rfl, ?_⟩) ?_
     ·intro u hSw
      go_simp; try omega
     try simp only [Act.put, sA, sB, sC]
     refine tk (i := 14) (oi := ⟨some 24, .pick (.tmp 16) (.const (Value.bool true)) (.tmp 23), 4, "ref.go:38", #[⟨6, .data⟩, ⟨13, .data⟩], none⟩) (v := ?_) (Or.inl ⟨by rfl, ?_⟩) ?_
     rotate_left 1
     ·(intro u hSw; go_simp; try with_reducible rfl)
     try simp only [Act.put, sA, sB, sC]
     refine tk (i := 15) (oi := ⟨some 25, .move (.tmp 24), 4, "ref.go:38", #[⟨14, .data⟩, ⟨6, .chain⟩], none⟩) (v := ?_) (Or.inl ⟨by rfl, ?_⟩) ?_
     rotate_left 1
     ·(intro u hSw; go_simp; try with_reducible rfl)
     try simp only [Act.put, sA, sB, sC]
     refine tk (i := 16) (oi := ⟨some 26, .move (.tmp 3), 3, "ref.go:38", #[⟨15, .guard⟩], some (15, false)⟩) (v := undef) (by exact .inr ⟨by rfl, rfl⟩) ?_
     try simp only [Act.put, sA, sB, sC]
     refine tk (i := 17) (oi := ⟨some 27, .binOp BinOp.gtr 3 (.tmp 26) (.const (Value.int IntKind.i64 0)) 3, 4, "ref.go:38", #[⟨16, .data⟩, ⟨15, .guard⟩], some (15, false)⟩) (v := undef) (by exact .inr ⟨by rfl, rfl⟩) ?_
     try simp only [Act.put, sA, sB, sC]
     refine tk (i := 18) (oi := ⟨some 28, .move (.tmp 27), 4, "ref.go:38", #[⟨17, .data⟩, ⟨15, .chain⟩, ⟨15, .guard⟩], some (15, false)⟩) (v := undef) (by exact .inr ⟨by rfl, rfl⟩) ?_
     try simp only [Act.put, sA, sB, sC]
     refine tk (i := 19) (oi := ⟨some 29, .move (.tmp 0), 22, "ref.go:38", #[⟨18, .guard⟩], some (18, true)⟩) (v := undef) (by exact .inr ⟨by rfl, rfl⟩) ?_
     try simp only [Act.put, sA, sB, sC]
     refine tk (i := 20) (oi := ⟨some 30, .move (.tmp 3), 3, "ref.go:38", #[⟨18, .guard⟩], some (18, true)⟩) (v := undef) (by exact .inr ⟨by rfl, rfl⟩) ?_
     try simp only [Act.put, sA, sB, sC]
     refine tk (i := 21) (oi := ⟨some 31, .binOp BinOp.sub 3 (.tmp 30) (.const (Value.int IntKind.i64 1)) 3, 3, "ref.go:38", #[⟨20, .data⟩, ⟨18, .guard⟩], some (18, true)⟩) (v := undef) (by exact .inr ⟨by rfl, rfl⟩) ?_
     try simp only [Act.put, sA, sB, sC]
     refine tk (i := 22) (oi := ⟨some 32, .indexAddr 22 (.tmp 29) (.tmp 31), 0, "ref.go:38", #[⟨19, .data⟩, ⟨21, .data⟩, ⟨18, .guard⟩], some (18, true)⟩) (v := undef) (by exact .inr ⟨by rfl, rfl⟩) ?_
     try simp only [Act.put, sA, sB, sC]
     refine tk (i := 23) (oi := ⟨some 33, .fieldAddr 45 (.tmp 32) 0, 0, "ref.go:38", #[⟨22, .data⟩, ⟨18, .guard⟩], some (18, true)⟩) (v := undef) (by exact .inr ⟨by rfl, rfl⟩) ?_
     try simp only [Act.put, sA, sB, sC]
     refine tk (i := 24) (oi := ⟨some 34, .load 9 (.tmp 33), 9, "ref.go:38", #[⟨23, .data⟩, ⟨18, .guard⟩], some (18, true)⟩) (v := undef) (by exact .inr ⟨by rfl, rfl⟩) ?_
     try simp only [Act.put, sA, sB, sC]
     refine tk (i := 25) (oi := ⟨some 35, .move (.tmp 0), 22, "ref.go:38", #[⟨18, .guard⟩], some (18, true)⟩) (v := undef) (by exact .inr ⟨by rfl, rfl⟩) ?_
     try simp only [Act.put, sA, sB, sC]
     refine tk (i := 26) (oi := ⟨some 36, .move (.tmp 3), 3, "ref.go:38", #[⟨18, .guard⟩], some (18, true)⟩) (v := undef) (by exact .inr ⟨by rfl, rfl⟩) ?_
     try simp only [Act.put, sA, sB, sC]
     refine tk (i := 27) (oi := ⟨some 37, .indexAddr 22 (.tmp 35) (.tmp 36), 0, "ref.go:38", #[⟨25, .data⟩, ⟨26, .data⟩, ⟨18, .guard⟩], some (18, true)⟩) (v := undef) (by exact .inr ⟨by rfl, rfl⟩) ?_
     try simp only [Act.put, sA, sB, sC]
     refine tk (i := 28) (oi := ⟨some 38, .fieldAddr 45 (.tmp 37) 0, 0, "ref.go:38", #[⟨27, .data⟩, ⟨18, .guard⟩], some (18, true)⟩) (v := undef) (by exact .inr ⟨by rfl, rfl⟩) ?_
     try simp only [Act.put, sA, sB, sC]
     refine tk (i := 29) (oi := ⟨some 39, .load 9 (.tmp 38), 9, "ref.go:38", #[⟨28, .data⟩, ⟨18, .guard⟩], some (18, true)⟩) (v := undef) (by exact .inr ⟨by rfl, rfl⟩) ?_
     try simp only [Act.put, sA, sB, sC]
     refine tk (i := 30) (oi := ⟨some 40, .binOp BinOp.geq 9 (.tmp 34) (.tmp 39) 9, 4, "ref.go:38", #[⟨24, .data⟩, ⟨29, .data⟩, ⟨18, .guard⟩], some (18, true)⟩) (v := undef) (by exact .inr ⟨by rfl, rfl⟩) ?_
     try simp only [Act.put, sA, sB, sC]
     refine tk (i := 31) (oi := ⟨some 41, .pick (.tmp 28) (.tmp 40) (.const (Value.bool false)), 4, "ref.go:38", #[⟨18, .data⟩, ⟨30, .data⟩, ⟨15, .guard⟩], some (15, false)⟩) (v := undef) (by exact .inr ⟨by rfl, rfl⟩) ?_
     try simp only [Act.put, sA, sB, sC]
     refine tk (i := 32) (oi := ⟨some 42, .pick (.tmp 25) (.const (Value.bool true)) (.tmp 41), 4, "ref.go:38", #[⟨15, .data⟩, ⟨31, .data⟩], none⟩) (v := ?_) (Or.inl ⟨by rfl, ?_⟩) ?_
     rotate_left 1
     ·(intro u hSw; go_simp; try with_reducible rfl)
     try simp only [Act.put, sA, sB, sC]
     refine wpAnyH_done (by kernel_rfl) ?_ _
     clear hb
     go_wp2_with fail
     go_ret
     exact ⟨by rw [← HR.out]; rfl, HBD.out⟩
    ·rw [decide_eq_false k1, decide_eq_false (show ¬ 65535 < x.1.length by omega), Bool.not_false, Bool.true_and, Bool.true_and] at hR
     have hsl := str_len x.1
     by_cases hz : j = 0
     ·subst hz
      have HR := hid (show mayF (prevK es 1) (es.drop 1) = R from by rw [← hR]; rfl)
      clear hR hall
      go_wp2_with fail
      refine wp_region_held_drew (S := fun u => Below w.heap.size w u) (by kernel_rfl) (hb) (fun hHeld => ?_)
      refine tk (i := 0) (oi := ⟨some 10, .move (.tmp 0), 22, "ref.go:38", #[], none⟩) (v := ?_) (Or.inl ⟨by rfl, ?_⟩) ?_
      rotate_left 1
      ·(intro u hSw; go_simp; try with_reducible rfl)
      try simp only [Act.put, sA, sB, sC]
      refine tk (i := 1) (oi := ⟨some 11, .move (.tmp 3), 3, "ref.go:38", #[], none⟩) (v := ?_) (Or.inl ⟨by rfl, ?_⟩) ?_
      rotate_left 1
      ·(intro u hSw; go_simp; try with_reducible rfl)
      try simp only [Act.put, sA, sB, sC]
      refine tk (i := 2) (oi := ⟨some 12, .indexAddr 22 (.tmp 10) (.tmp 11), 0, "ref.go:38", #[⟨0, .data⟩, ⟨1, .data⟩], none⟩) (v := ?_) (Or.inl ⟨by rfl, ?_⟩) ?_
      rotate_left 1
      ·(intro u hSw; go_simp; try with_reducible rfl)
      try simp only [Act.put, sA, sB, sC]
      refine tk (i := 3) (oi := ⟨some 13, .fieldAddr 45 (.tmp 12) 1, 0, "ref.go:38", #[⟨2, .data⟩], none⟩) (v := ?_) (Or.inl ⟨by rfl, ?_⟩) ?_
      rotate_left 1
      ·(intro u hSw; go_simp; try with_reducible rfl)
      try simp only [Act.put, sA, sB, sC]
      refine tk (i := 4) (oi := ⟨some 14, .load 2 (.tmp 13), 2, "ref.go:38", #[⟨3, .data⟩], none⟩) (v := ?_) (Or.inl ⟨by rfl, ?_⟩) ?_
      rotate_left 1
      ·(intro u hSw; have y0 := (HC.out _ hSw).1; have y1 := (HC.out _ hSw).2; simp only [Nat.zero_mul, Nat.add_zero] at y0 y1; go_simp; try with_reducible rfl)
      try simp only [Act.put, sA, sB, sC]
      refine tk (i := 5) (oi := ⟨some 15, .binOp BinOp.lss 2 (.tmp 14) (.const (Value.int IntKind.i64 1)) 2, 4, "ref.go:38", #[⟨4, .data⟩], none⟩) (v := .bool false) (Or.inl ⟨by rfl, ?_⟩) ?_
      ·intro u hSw
       go_simp; try omega
      try simp only [Act.put, sA, sB, sC]
      refine tk (i := 6) (oi := ⟨some 16, .move (.tmp 15), 4, "ref.go:38", #[⟨5, .data⟩], none⟩) (v := ?_) (Or.inl ⟨by rfl, ?_⟩) ?_
      rotate_left 1
      ·(intro u hSw; go_simp; try with_reducible rfl)
      try simp only [Act.put, sA, sB, sC]
      refine tk (i := 7) (oi := ⟨some 17, .move (.tmp 0), 22, "ref.go:38", #[⟨6, .guard⟩], some (6, false)⟩) (v := ?_) (Or.inl ⟨by rfl, ?_⟩) ?_
      rotate_left 1
      ·(intro u hSw; go_simp; try with_reducible rfl)
      try simp only [Act.put, sA, sB, sC]
      refine tk (i := 8) (oi := ⟨some 18, .move (.tmp 3), 3, "ref.go:38", #[⟨6, .guard⟩], some (6, false)⟩) (v := ?_) (Or.inl ⟨by rfl, ?_⟩) ?_
      rotate_left 1
      ·(intro u hSw; go_simp; try with_reducible rfl)
      try simp only [Act.put, sA, sB, sC]
      refine tk (i := 9) (oi := ⟨some 19, .indexAddr 22 (.tmp 17) (.tmp 18), 0, "ref.go:38", #[⟨7, .data⟩, ⟨8, .data⟩, ⟨6, .guard⟩], some (6, false)⟩) (v := ?_) (Or.inl ⟨by rfl, ?_⟩) ?_
      rotate_left 1
      ·(intro u hSw; go_simp; try with_reducible rfl)
      try simp only [Act.put, sA, sB, sC]
      refine tk (i := 10) (oi := ⟨some 20, .fieldAddr 45 (.tmp 19) 0, 0, "ref.go:38", #[⟨9, .data⟩, ⟨6, .guard⟩], some (6, false)⟩) (v := ?_) (Or.inl ⟨by rfl, ?_⟩) ?_
      rotate_left 1
      ·(intro u hSw; go_simp; try with_reducible rfl)
      try simp only [Act.put, sA, sB, sC]
      refine tk (i := 11) (oi := ⟨some 21, .load 9 (.tmp 20), 9, "ref.go:38", #[⟨10, .data⟩, ⟨6, .guard⟩], some (6, false)⟩) (v := ?_) (Or.inl ⟨by rfl, ?_⟩) ?_
      rotate_left 1
      ·(intro u hSw; have y0 := (HC.out _ hSw).1; have y1 := (HC.out _ hSw).2; simp only [Nat.zero_mul, Nat.add_zero] at y0 y1; go_simp; try with_reducible rfl)
      try simp only [Act.put, sA, sB, sC]
      refine tk (i := 12) (oi := ⟨some 22, .call ⟨.builtin .len, #[.tmp 21], #[9]⟩, 3, "ref.go:38", #[⟨11, .data⟩, ⟨6, .guard⟩], some (6, false)⟩) (v := ?_) (Or.inl ⟨by rfl, ?_⟩) ?_
      rotate_left 1
      ·(intro u hSw; go_simp; try with_reducible rfl)
      try simp only [Act.put, sA, sB, sC]
      refine tk (i := 13) (oi := ⟨some 23, .binOp BinOp.gtr 3 (.tmp 22) (.const (Value.int IntKind.i64 65535)) 3, 4, "ref.go:38", #[⟨12, .data⟩, ⟨6, .guard⟩], some (6, false)⟩) (v := .bool false) (Or.inl ⟨by rfl, ?_⟩) ?_
      ·intro u hSw
       go_simp; try omega
      try simp only [Act.put, sA, sB, sC]
      refine tk (i := 14) (oi := ⟨some 24, .pick (.tmp 16) (.const (Value.bool true)) (.tmp 23), 4, "ref.go:38", #[⟨6, .data⟩, ⟨13, .data⟩], none⟩) (v := ?_) (Or.inl ⟨by rfl, ?_⟩) ?_
      rotate_left 1
      ·(intro u hSw; go_simp; try with_reducible rfl)
      try simp only [Act.put, sA, sB, sC]
      refine tk (i := 15) (oi := ⟨some 25, .move (.tmp 24), 4, "ref.go:38", #[⟨14, .data⟩, ⟨6, .chain⟩], none⟩) (v := ?_) (Or.inl ⟨by rfl, ?_⟩) ?_
      rotate_left 1
      ·(intro u hSw; go_simp; try with_reducible rfl)
      try simp only [Act.put, sA, sB, sC]
      refine tk (i := 16) (oi := ⟨some 26, .move (.tmp 3), 3, "ref.go:38", #[⟨15, .guard⟩], some (15, false)⟩) (v := ?_) (Or.inl ⟨by rfl, ?_⟩) ?_
      rotate_left 1
      ·(intro u hSw; go_simp; try with_reducible rfl)
      try simp only [Act.put, sA, sB, sC]
      refine tk (i := 17) (oi := ⟨some 27, .binOp BinOp.gtr 3 (.tmp 26) (.const (Value.int IntKind.i64 0)) 3, 4, "ref.go:38", #[⟨16, .data⟩, ⟨15, .guard⟩], some (15, false)⟩) (v := .bool false) (Or.inl ⟨by rfl, ?_⟩) ?_
      ·intro u hSw
       go_simp; try omega
      try simp only [Act.put, sA, sB, sC]
      refine tk (i := 18) (oi := ⟨some 28, .move (.tmp 27), 4, "ref.go:38", #[⟨17, .data⟩, ⟨15, .chain⟩, ⟨15, .guard⟩], some (15, false)⟩) (v := ?_) (Or.inl ⟨by rfl, ?_⟩) ?_
      rotate_left 1
      ·(intro u hSw; go_simp; try with_reducible rfl)
      try simp only [Act.put, sA, sB, sC]
      refine tk (i := 19) (oi := ⟨some 29, .move (.tmp 0), 22, "ref.go:38", #[⟨18, .guard⟩], some (18, true)⟩) (v := undef) (by exact .inr ⟨by rfl, rfl⟩) ?_
      try simp only [Act.put, sA, sB, sC]
      refine tk (i := 20) (oi := ⟨some 30, .move (.tmp 3), 3, "ref.go:38", #[⟨18, .guard⟩], some (18, true)⟩) (v := undef) (by exact .inr ⟨by rfl, rfl⟩) ?_
      try simp only [Act.put, sA, sB, sC]
      refine tk (i := 21) (oi := ⟨some 31, .binOp BinOp.sub 3 (.tmp 30) (.const (Value.int IntKind.i64 1)) 3, 3, "ref.go:38", #[⟨20, .data⟩, ⟨18, .guard⟩], some (18, true)⟩) (v := undef) (by exact .inr ⟨by rfl, rfl⟩) ?_
      try simp only [Act.put, sA, sB, sC]
      refine tk (i := 22) (oi := ⟨some 32, .indexAddr 22 (.tmp 29) (.tmp 31), 0, "ref.go:38", #[⟨19, .data⟩, ⟨21, .data⟩, ⟨18, .guard⟩], some (18, true)⟩) (v := undef) (by exact .inr ⟨by rfl, rfl⟩) ?_
      try simp only [Act.put, sA, sB, sC]
      refine tk (i := 23) (oi := ⟨some 33, .fieldAddr 45 (.tmp 32) 0, 0, "ref.go:38", #[⟨22, .data⟩, ⟨18, .guard⟩], some (18, true)⟩) (v := undef) (by exact .inr ⟨by rfl, rfl⟩) ?_
      try simp only [Act.put, sA, sB, sC]
      refine tk (i := 24) (oi := ⟨some 34, .load 9 (.tmp 33), 9, "ref.go:38", #[⟨23, .data⟩, ⟨18, .guard⟩], some (18, true)⟩) (v := undef) (by exact .inr ⟨by rfl, rfl⟩) ?_
      try simp only [Act.put, sA, sB, sC]
      refine tk (i := 25) (oi := ⟨some 35, .move (.tmp 0), 22, "ref.go:38", #[⟨18, .guard⟩], some (18, true)⟩) (v := undef) (by exact .inr ⟨by rfl, rfl⟩) ?_
      try simp only [Act.put, sA, sB, sC]
      refine tk (i := 26) (oi := ⟨some 36, .move (.tmp 3), 3, "ref.go:38", #[⟨18, .guard⟩], some (18, true)⟩) (v := undef) (by exact .inr ⟨by rfl, rfl⟩) ?_
      try simp only [Act.put, sA, sB, sC]
      refine tk (i := 27) (oi := ⟨some 37, .indexAddr 22 (.tmp 35) (.tmp 36), 0, "ref.go:38", #[⟨25, .data⟩, ⟨26, .data⟩, ⟨18, .guard⟩], some (18, true)⟩) (v := undef) (by exact .inr ⟨by rfl, rfl⟩) ?_
      try simp only [Act.put, sA, sB, sC]
      refine tk (i := 28) (oi := ⟨some 38, .fieldAddr 45 (.tmp 37) 0, 0, "ref.go:38", #[⟨27, .data⟩, ⟨18, .guard⟩], some (18, true)⟩) (v := undef) (by exact .inr ⟨by rfl, rfl⟩) ?_
      try simp only [Act.put, sA, sB, sC]
      refine tk (i := 29) (oi := ⟨some 39, .load 9 (.tmp 38), 9, "ref.go:38", #[⟨28, .data⟩, ⟨18, .guard⟩], some (18, true)⟩) (v := undef) (by exact .inr ⟨by rfl, rfl⟩) ?_
      try simp only [Act.put, sA, sB, sC]
      refine tk (i := 30) (oi := ⟨some 40, .binOp BinOp.geq 9 (.tmp 34) (.tmp 39) 9, 4, "ref.go:38", #[⟨24, .data⟩, ⟨29, .data⟩, ⟨18, .guard⟩], some (18, true)⟩) (v := undef) (by exact .inr ⟨by rfl, rfl⟩) ?_
      try simp only [Act.put, sA, sB, sC]
      refine tk (i := 31) (oi := ⟨some 41, .pick (.tmp 28) (.tmp 40) (.const (Value.bool false)), 4, "ref.go:38", #[⟨18, .data⟩, ⟨30, .data⟩, ⟨15, .guard⟩], some (15, false)⟩) (v := ?_) (Or.inl ⟨by rfl, ?_⟩) ?_
      rotate_left 1
      ·(intro u hSw; go_simp; try with_reducible rfl)
      try simp only [Act.put, sA, sB, sC]
      refine tk (i := 32) (oi := ⟨some 42, .pick (.tmp 25) (.const (Value.bool true)) (.tmp 41), 4, "ref.go:38", #[⟨15, .data⟩, ⟨31, .data⟩], none⟩) (v := ?_) (Or.inl ⟨by rfl, ?_⟩) ?_
      rotate_left 1
      ·(intro u hSw; go_simp; try with_reducible rfl)
      try simp only [Act.put, sA, sB, sC]
      refine wpAnyH_done (by kernel_rfl) ?_ _
      clear hb
      go_wp2_with fail
      go_roundw
      case rel => exact ⟨1, HX.out.1, by go_num, HR.out, HBD.out⟩
      case measure => have := HX.out.1; simp [intOf]; omega
     ·obtain ⟨i, rfl⟩ : ∃ i, j = i + 1 := ⟨j - 1, by omega⟩
      obtain ⟨y, hy⟩ : ∃ y, es[i]? = some y := ⟨_, List.getElem?_eq_getElem (by have := HX.out.1; omega)⟩
      have gy := HES.out y (List.mem_of_getElem? hy)
      have hpk : prevK es (i + 1) = some y.1 := by unfold prevK; rw [if_neg (by omega), Nat.add_sub_cancel, hy]; rfl
      rw [hpk, Option.elim_some] at hR
      obtain ⟨g', o', hag, hgl, hc0, -⟩ := hall i y hy
      injection hag with hag
      injection hag with hg1 hg2 _
      subst hg1 hg2
      have HC2 := hid (fun u (hu : Below w.heap.size w u) => (World.cell?_of_block (a := ⟨g, o + i * 2, none⟩) (hu.block g hgl)).trans hc0)
      have hbl := bl gy HX.out.2.2
      have hi0 : (0 : Int) ≤ (i : Int) := by omega
      have hi2 : (0 : Int) ≤ (i : Int) + 1 := by omega
      have hi3 : (i : Int) + 1 < (es.length : Int) := by have := HX.out.1; omega
      have hi1 : (i : Int) < (es.length : Int) := by omega
      clear hall hgl hc0 hy hz hpk gy
      by_cases k3 : cmpI y.1 x.1 < 0
      ·rw [decide_eq_true k3] at hbl hR
       have HR := hid (show mayF (prevK es (i + 1 + 1)) (es.drop (i + 1 + 1)) = R from by rw [← hR]; rfl)
       clear hR k3
       go_wp2_with fail
       refine wp_region_held_drew (S := fun u => Below w.heap.size w u) (by kernel_rfl) (hb) (fun hHeld => ?_)
       refine tk (i := 0) (oi := ⟨some 10, .move (.tmp 0), 22, "ref.go:38", #[], none⟩) (v := ?_) (Or.inl ⟨by rfl, ?_⟩) ?_
       rotate_left 1
       ·(intro u hSw; go_simp; try with_reducible rfl)
       try simp only [Act.put, sA, sB, sC]
       refine tk (i := 1) (oi := ⟨some 11, .move (.tmp 3), 3, "ref.go:38", #[], none⟩) (v := ?_) (Or.inl ⟨by rfl, ?_⟩) ?_
       rotate_left 1
       ·(intro u hSw; go_simp; try with_reducible rfl)
       try simp only [Act.put, sA, sB, sC]
       refine tk (i := 2) (oi := ⟨some 12, .indexAddr 22 (.tmp 10) (.tmp 11), 0, "ref.go:38", #[⟨0, .data⟩, ⟨1, .data⟩], none⟩) (v := ?_) (Or.inl ⟨by rfl, ?_⟩) ?_
       rotate_left 1
       ·(intro u hSw; go_simp; try with_reducible rfl)
       try simp only [Act.put, sA, sB, sC]
       refine tk (i := 3) (oi := ⟨some 13, .fieldAddr 45 (.tmp 12) 1, 0, "ref.go:38", #[⟨2, .data⟩], none⟩) (v := ?_) (Or.inl ⟨by rfl, ?_⟩) ?_
       rotate_left 1
       ·(intro u hSw; go_simp; try with_reducible rfl)
       try simp only [Act.put, sA, sB, sC]
       refine tk (i := 4) (oi := ⟨some 14, .load 2 (.tmp 13), 2, "ref.go:38", #[⟨3, .data⟩], none⟩) (v := ?_) (Or.inl ⟨by rfl, ?_⟩) ?_
       rotate_left 1
       ·(intro u hSw; have y0 := (HC.out _ hSw).1; have y1 := (HC.out _ hSw).2; have y2 := HC2.out _ hSw; go_simp; try with_reducible rfl)
       try simp only [Act.put, sA, sB, sC]
       refine tk (i := 5) (oi := ⟨some 15, .binOp BinOp.lss 2 (.tmp 14) (.const (Value.int IntKind.i64 1)) 2, 4, "ref.go:38", #[⟨4, .data⟩], none⟩) (v := .bool false) (Or.inl ⟨by rfl, ?_⟩) ?_
       ·intro u hSw
        go_simp; try omega
       try simp only [Act.put, sA, sB, sC]
       refine tk (i := 6) (oi := ⟨some 16, .move (.tmp 15), 4, "ref.go:38", #[⟨5, .data⟩], none⟩) (v := ?_) (Or.inl ⟨by rfl, ?_⟩) ?_
       rotate_left 1
       ·(intro u hSw; go_simp; try with_reducible rfl)
       try simp only [Act.put, sA, sB, sC]
       refine tk (i := 7) (oi := ⟨some 17, .move (.tmp 0), 22, "ref.go:38", #[⟨6, .guard⟩], some (6, false)⟩) (v := ?_) (Or.inl ⟨by rfl, ?_⟩) ?_
       rotate_left 1
       ·(intro u hSw; go_simp; try with_reducible rfl)
       try simp only [Act.put, sA, sB, sC]
       refine tk (i := 8) (oi := ⟨some 18, .move (.tmp 3), 3, "ref.go:38", #[⟨6, .guard⟩], some (6, false)⟩) (v := ?_) (Or.inl ⟨by rfl, ?_⟩) ?_
       rotate_left 1
       ·(intro u hSw; go_simp; try with_reducible rfl)
       try simp only [Act.put, sA, sB, sC]
       refine tk (i := 9) (oi := ⟨some 19, .indexAddr 22 (.tmp 17) (.tmp 18), 0, "ref.go:38", #[⟨7, .data⟩, ⟨8, .data⟩, ⟨6, .guard⟩], some (6, false)⟩) (v := ?_) (Or.inl ⟨by rfl, ?_⟩) ?_
       rotate_left 1
       ·(intro u hSw; go_simp; try with_reducible rfl)
       try simp only [Act.put, sA, sB, sC]
       refine tk (i := 10) (oi := ⟨some 20, .fieldAddr 45 (.tmp 19) 0, 0, "ref.go:38", #[⟨9, .data⟩, ⟨6, .guard⟩], some (6, false)⟩) (v := ?_) (Or.inl ⟨by rfl, ?_⟩) ?_
       rotate_left 1
       ·(intro u hSw; go_simp; try with_reducible rfl)
       try simp only [Act.put, sA, sB, sC]
       refine tk (i := 11) (oi := ⟨some 21, .load 9 (.tmp 20), 9, "ref.go:38", #[⟨10, .data⟩, ⟨6, .guard⟩], some (6, false)⟩) (v := ?_) (Or.inl ⟨by rfl, ?_⟩) ?_
       rotate_left 1
       ·(intro u hSw; have y0 := (HC.out _ hSw).1; have y1 := (HC.out _ hSw).2; have y2 := HC2.out _ hSw; go_simp; try with_reducible rfl)
       try simp only [Act.put, sA, sB, sC]
       refine tk (i := 12) (oi := ⟨some 22, .call ⟨.builtin .len, #[.tmp 21], #[9]⟩, 3, "ref.go:38", #[⟨11, .data⟩, ⟨6, .guard⟩], some (6, false)⟩) (v := ?_) (Or.inl ⟨by rfl, ?_⟩) ?_
       rotate_left 1
       ·(intro u hSw; go_simp; try with_reducible rfl)
       try simp only [Act.put, sA, sB, sC]
       refine tk (i := 13) (oi := ⟨some 23, .binOp BinOp.gtr 3 (.tmp 22) (.const (Value.int IntKind.i64 65535)) 3, 4, "ref.go:38", #[⟨12, .data⟩, ⟨6, .guard⟩], some (6, false)⟩) (v := .bool false) (Or.inl ⟨by rfl, ?_⟩) ?_
       ·intro u hSw
        go_simp; try omega
       try simp only [Act.put, sA, sB, sC]
       refine tk (i := 14) (oi := ⟨some 24, .pick (.tmp 16) (.const (Value.bool true)) (.tmp 23), 4, "ref.go:38", #[⟨6, .data⟩, ⟨13, .data⟩], none⟩) (v := ?_) (Or.inl ⟨by rfl, ?_⟩) ?_
       rotate_left 1
       ·(intro u hSw; go_simp; try with_reducible rfl)
       try simp only [Act.put, sA, sB, sC]
       refine tk (i := 15) (oi := ⟨some 25, .move (.tmp 24), 4, "ref.go:38", #[⟨14, .data⟩, ⟨6, .chain⟩], none⟩) (v := ?_) (Or.inl ⟨by rfl, ?_⟩) ?_
       rotate_left 1
       ·(intro u hSw; go_simp; try with_reducible rfl)
       try simp only [Act.put, sA, sB, sC]
       refine tk (i := 16) (oi := ⟨some 26, .move (.tmp 3), 3, "ref.go:38", #[⟨15, .guard⟩], some (15, false)⟩) (v := ?_) (Or.inl ⟨by rfl, ?_⟩) ?_
       rotate_left 1
       ·(intro u hSw; go_simp; try with_reducible rfl)
       try simp only [Act.put, sA, sB, sC]
       refine tk (i := 17) (oi := ⟨some 27, .binOp BinOp.gtr 3 (.tmp 26) (.const (Value.int IntKind.i64 0)) 3, 4, "ref.go:38", #[⟨16, .data⟩, ⟨15, .guard⟩], some (15, false)⟩) (v := .bool true) (Or.inl ⟨by rfl, ?_⟩) ?_
       ·intro u hSw
        go_simp
       try simp only [Act.put, sA, sB, sC]
       refine tk (i := 18) (oi := ⟨some 28, .move (.tmp 27), 4, "ref.go:38", #[⟨17, .data⟩, ⟨15, .chain⟩, ⟨15, .guard⟩], some (15, false)⟩) (v := ?_) (Or.inl ⟨by rfl, ?_⟩) ?_
       rotate_left 1
       ·(intro u hSw; go_simp; try with_reducible rfl)
       try simp only [Act.put, sA, sB, sC]
       refine tk (i := 19) (oi := ⟨some 29, .move (.tmp 0), 22, "ref.go:38", #[⟨18, .guard⟩], some (18, true)⟩) (v := ?_) (Or.inl ⟨by rfl, ?_⟩) ?_
       rotate_left 1
       ·(intro u hSw; go_simp; try with_reducible rfl)
       try simp only [Act.put, sA, sB, sC]
       refine tk (i := 20) (oi := ⟨some 30, .move (.tmp 3), 3, "ref.go:38", #[⟨18, .guard⟩], some (18, true)⟩) (v := ?_) (Or.inl ⟨by rfl, ?_⟩) ?_
       rotate_left 1
       ·(intro u hSw; go_simp; try with_reducible rfl)
       try simp only [Act.put, sA, sB, sC]
       refine tk (i := 21) (oi := ⟨some 31, .binOp BinOp.sub 3 (.tmp 30) (.const (Value.int IntKind.i64 1)) 3, 3, "ref.go:38", #[⟨20, .data⟩, ⟨18, .guard⟩], some (18, true)⟩) (v := .int .i64 (i : Int)) (Or.inl ⟨by rfl, ?_⟩) ?_
       ·intro u hSw
        go_simp; first | done | exact IntWalk.i64_in _ (by omega) | (rw [IntWalk.i64_in _ (by omega)]; omega)
       try simp only [Act.put, sA, sB, sC]
       refine tk (i := 22) (oi := ⟨some 32, .indexAddr 22 (.tmp 29) (.tmp 31), 0, "ref.go:38", #[⟨19, .data⟩, ⟨21, .data⟩, ⟨18, .guard⟩], some (18, true)⟩) (v := ?_) (Or.inl ⟨by rfl, ?_⟩) ?_
       rotate_left 1
       ·(intro u hSw; go_simp; try with_reducible rfl)
       try simp only [Act.put, sA, sB, sC]
       refine tk (i := 23) (oi := ⟨some 33, .fieldAddr 45 (.tmp 32) 0, 0, "ref.go:38", #[⟨22, .data⟩, ⟨18, .guard⟩], some (18, true)⟩) (v := ?_) (Or.inl ⟨by rfl, ?_⟩) ?_
       rotate_left 1
       ·(intro u hSw; go_simp; try with_reducible rfl)
       try simp only [Act.put, sA, sB, sC]
       refine tk (i := 24) (oi := ⟨some 34, .load 9 (.tmp 33), 9, "ref.go:38", #[⟨23, .data⟩, ⟨18, .guard⟩], some (18, true)⟩) (v := ?_) (Or.inl ⟨by rfl, ?_⟩) ?_
       rotate_left 1
       ·(intro u hSw; have y0 := (HC.out _ hSw).1; have y1 := (HC.out _ hSw).2; have y2 := HC2.out _ hSw; go_simp; try with_reducible rfl)
       try simp only [Act.put, sA, sB, sC]
       refine tk (i := 25) (oi := ⟨some 35, .move (.tmp 0), 22, "ref.go:38", #[⟨18, .guard⟩], some (18, true)⟩) (v := ?_) (Or.inl ⟨by rfl, ?_⟩) ?_
       rotate_left 1
       ·(intro u hSw; go_simp; try with_reducible rfl)
       try simp only [Act.put, sA, sB, sC]
       refine tk (i := 26) (oi := ⟨some 36, .move (.tmp 3), 3, "ref.go:38", #[⟨18, .guard⟩], some (18, true)⟩) (v := ?_) (Or.inl ⟨by rfl, ?_⟩) ?_
       rotate_left 1
       ·(intro u hSw; go_simp; try with_reducible rfl)
       try simp only [Act.put, sA, sB, sC]
       refine tk (i := 27) (oi := ⟨some 37, .indexAddr 22 (.tmp 35) (.tmp 36), 0, "ref.go:38", #[⟨25, .data⟩, ⟨26, .data⟩, ⟨18, .guard⟩], some (18, true)⟩) (v := ?_) (Or.inl ⟨by rfl, ?_⟩) ?_
       rotate_left 1
       ·(intro u hSw; go_simp; try with_reducible rfl)
       try simp only [Act.put, sA, sB, sC]
       refine tk (i := 28) (oi := ⟨some 38, .fieldAddr 45 (.tmp 37) 0, 0, "ref.go:38", #[⟨27, .data⟩, ⟨18, .guard⟩], some (18, true)⟩) (v := ?_) (Or.inl ⟨by rfl, ?_⟩) ?_
       rotate_left 1
       ·(intro u hSw; go_simp; try with_reducible rfl)
       try simp only [Act.put, sA, sB, sC]
       refine tk (i := 29) (oi := ⟨some 39, .load 9 (.tmp 38), 9, "ref.go:38", #[⟨28, .data⟩, ⟨18, .guard⟩], some (18, true)⟩) (v := ?_) (Or.inl ⟨by rfl, ?_⟩) ?_
       rotate_left 1
       ·(intro u hSw; have y0 := (HC.out _ hSw).1; have y1 := (HC.out _ hSw).2; have y2 := HC2.out _ hSw; go_simp; try with_reducible rfl)
       try simp only [Act.put, sA, sB, sC]
       refine tk (i := 30) (oi := ⟨some 40, .binOp BinOp.geq 9 (.tmp 34) (.tmp 39) 9, 4, "ref.go:38", #[⟨24, .data⟩, ⟨29, .data⟩, ⟨18, .guard⟩], some (18, true)⟩) (v := .bool false) (Or.inl ⟨by rfl, ?_⟩) ?_
       ·(intro u hSw; go_simp; try with_reducible rfl)
       try simp only [Act.put, sA, sB, sC]
       refine tk (i := 31) (oi := ⟨some 41, .pick (.tmp 28) (.tmp 40) (.const (Value.bool false)), 4, "ref.go:38", #[⟨18, .data⟩, ⟨30, .data⟩, ⟨15, .guard⟩], some (15, false)⟩) (v := ?_) (Or.inl ⟨by rfl, ?_⟩) ?_
       rotate_left 1
       ·(intro u hSw; go_simp; try with_reducible rfl)
       try simp only [Act.put, sA, sB, sC]
       refine tk (i := 32) (oi := ⟨some 42, .pick (.tmp 25) (.const (Value.bool true)) (.tmp 41), 4, "ref.go:38", #[⟨15, .data⟩, ⟨31, .data⟩], none⟩) (v := ?_) (Or.inl ⟨by rfl, ?_⟩) ?_
       rotate_left 1
       ·(intro u hSw; go_simp; try with_reducible rfl)
       try simp only [Act.put, sA, sB, sC]
       refine wpAnyH_done (by kernel_rfl) ?_ _
       clear hb
       go_wp2_with fail
       go_roundw
       case rel => exact ⟨i + 2, HX.out.1, by go_num, HR.out, HBD.out⟩
       case measure => have := HX.out.1; simp [intOf]; omega
      ·rw [decide_eq_false k3] at hbl hR
       have HR := hid (show false = R from by rw [← hR]; rfl)
       clear hR k3
       go_wp2_with fail
       refine wp_region_held_drew (S := fun u => Below w.heap.size w u) (by kernel_rfl) (hb) (fun hHeld => ?_)
       refine tk (i := 0) (oi := ⟨some 10, .move (.tmp 0), 22, "ref.go:38", #[], none⟩) (v := ?_) (Or.inl ⟨by rfl, ?_⟩) ?_
       rotate_left 1
       ·(intro u hSw; go_simp; try with_reducible rfl)
       try simp only [Act.put, sA, sB, sC]
       refine tk (i := 1) (oi := ⟨some 11, .move (.tmp 3), 3, "ref.go:38", #[], none⟩) (v := ?_) (Or.inl ⟨by rfl, ?_⟩) ?_
       rotate_left 1
       ·(intro u hSw; go_simp; try with_reducible rfl)
       try simp only [Act.put, sA, sB, sC]
       refine tk (i := 2) (oi := ⟨some 12, .indexAddr 22 (.tmp 10) (.tmp 11), 0, "ref.go:38", #[⟨0, .data⟩, ⟨1, .data⟩], none⟩) (v := ?_) (Or.inl ⟨by rfl, ?_⟩) ?_
       rotate_left 1
       ·(intro u hSw; go_simp; try with_reducible rfl)
       try simp only [Act.put, sA, sB, sC]
       refine tk (i := 3) (oi := ⟨some 13, .fieldAddr 45 (.tmp 12) 1, 0, "ref.go:38", #[⟨2, .data⟩], none⟩) (v := ?_) (Or.inl ⟨by rfl, ?_⟩) ?_
       rotate_left 1
       ·(intro u hSw; go_simp; try with_reducible rfl)
       try simp only [Act.put, sA, sB, sC]
       refine tk (i := 4) (oi := ⟨some 14, .load 2 (.tmp 13), 2, "ref.go:38", #[⟨3, .data⟩], none⟩) (v := ?_) (Or.inl ⟨by rfl, ?_⟩) ?_
       rotate_left 1
       ·(intro u hSw; have y0 := (HC.out _ hSw).1; have y1 := (HC.out _ hSw).2; have y2 := HC2.out _ hSw; go_simp; try with_reducible rfl)
       try simp only [Act.put, sA, sB, sC]
       refine tk (i := 5) (oi := ⟨some 15, .binOp BinOp.lss 2 (.tmp 14) (.const (Value.int IntKind.i64 1)) 2, 4, "ref.go:38", #[⟨4, .data⟩], none⟩) (v := .bool false) (Or.inl ⟨by rfl, ?_⟩) ?_
       ·intro u hSw
        go_simp; try omega
       try simp only [Act.put, sA, sB, sC]
       refine tk (i := 6) (oi := ⟨some 16, .move (.tmp 15), 4, "ref.go:38", #[⟨5, .data⟩], none⟩) (v := ?_) (Or.inl ⟨by rfl, ?_⟩) ?_
       rotate_left 1
       ·(intro u hSw; go_simp; try with_reducible rfl)
       try simp only [Act.put, sA, sB, sC]
       refine tk (i := 7) (oi := ⟨some 17, .move (.tmp 0), 22, "ref.go:38", #[⟨6, .guard⟩], some (6, false)⟩) (v := ?_) (Or.inl ⟨by rfl, ?_⟩) ?_
       rotate_left 1
       ·(intro u hSw; go_simp; try with_reducible rfl)
       try simp only [Act.put, sA, sB, sC]
       refine tk (i := 8) (oi := ⟨some 18, .move (.tmp 3), 3, "ref.go:38", #[⟨6, .guard⟩], some (6, false)⟩) (v := ?_) (Or.inl ⟨by rfl, ?_⟩) ?_
       rotate_left 1
       ·(intro u hSw; go_simp; try with_reducible rfl)
       try simp only [Act.put, sA, sB, sC]
       refine tk (i := 9) (oi := ⟨some 19, .indexAddr 22 (.tmp 17) (.tmp 18), 0, "ref.go:38", #[⟨7, .data⟩, ⟨8, .data⟩, ⟨6, .guard⟩], some (6, false)⟩) (v := ?_) (Or.inl ⟨by rfl, ?_⟩) ?_
       rotate_left 1
       ·(intro u hSw; go_simp; try with_reducible rfl)
       try simp only [Act.put, sA, sB, sC]
       refine tk (i := 10) (oi := ⟨some 20, .fieldAddr 45 (.tmp 19) 0, 0, "ref.go:38", #[⟨9, .data⟩, ⟨6, .guard⟩], some (6, false)⟩) (v := ?_) (Or.inl ⟨by rfl, ?_⟩) ?_
       rotate_left 1
       ·(intro u hSw; go_simp; try with_reducible rfl)
       try simp only [Act.put, sA, sB, sC]
       refine tk (i := 11) (oi := ⟨some 21, .load 9 (.tmp 20), 9, "ref.go:38", #[⟨10, .data⟩, ⟨6, .guard⟩], some (6, false)⟩) (v := ?_) (Or.inl ⟨by rfl, ?_⟩) ?_
       rotate_left 1
       ·(intro u hSw; have y0 := (HC.out _ hSw).1; have y1 := (HC.out _ hSw).2; have y2 := HC2.out _ hSw; go_simp; try with_reducible rfl)
       try simp only [Act.put, sA, sB, sC]
       refine tk (i := 12) (oi := ⟨some 22, .call ⟨.builtin .len, #[.tmp 21], #[9]⟩, 3, "ref.go:38", #[⟨11, .data⟩, ⟨6, .guard⟩], some (6, false)⟩) (v := ?_) (Or.inl ⟨by rfl, ?_⟩) ?_
       rotate_left 1
       ·(intro u hSw; go_simp; try with_reducible rfl)
       try simp only [Act.put, sA, sB, sC]
       refine tk (i := 13) (oi := ⟨some 23, .binOp BinOp.gtr 3 (.tmp 22) (.const (Value.int IntKind.i64 65535)) 3, 4, "ref.go:38", #[⟨12, .data⟩, ⟨6, .guard⟩], some (6, false)⟩) (v := .bool false) (Or.inl ⟨by rfl, ?_⟩) ?_
       ·intro u hSw
        go_simp; try omega
       try simp only [Act.put, sA, sB, sC]
       refine tk (i := 14) (oi := ⟨some 24, .pick (.tmp 16) (.const (Value.bool true)) (.tmp 23), 4, "ref.go:38", #[⟨6, .data⟩, ⟨13, .data⟩], none⟩) (v := ?_) (Or.inl ⟨by rfl, ?_⟩) ?_
       rotate_left 1
       ·(intro u hSw; go_simp; try with_reducible rfl)
       try simp only [Act.put, sA, sB, sC]
       refine tk (i := 15) (oi := ⟨some 25, .move (.tmp 24), 4, "ref.go:38", #[⟨14, .data⟩, ⟨6, .chain⟩], none⟩) (v := ?_) (Or.inl ⟨by rfl, ?_⟩) ?_
       rotate_left 1
       ·(intro u hSw; go_simp; try with_reducible rfl)
       try simp only [Act.put, sA, sB, sC]
       refine tk (i := 16) (oi := ⟨some 26, .move (.tmp 3), 3, "ref.go:38", #[⟨15, .guard⟩], some (15, false)⟩) (v := ?_) (Or.inl ⟨by rfl, ?_⟩) ?_
       rotate_left 1
       ·(intro u hSw; go_simp; try with_reducible rfl)
       try simp only [Act.put, sA, sB, sC]
       refine tk (i := 17) (oi := ⟨some 27, .binOp BinOp.gtr 3 (.tmp 26) (.const (Value.int IntKind.i64 0)) 3, 4, "ref.go:38", #[⟨16, .data⟩, ⟨15, .guard⟩], some (15, false)⟩) (v := .bool true) (Or.inl ⟨by rfl, ?_⟩) ?_
       ·intro u hSw
        go_simp
       try simp only [Act.put, sA, sB, sC]
       refine tk (i := 18) (oi := ⟨some 28, .move (.tmp 27), 4, "ref.go:38", #[⟨17, .data⟩, ⟨15, .chain⟩, ⟨15, .guard⟩], some (15, false)⟩) (v := ?_) (Or.inl ⟨by rfl, ?_⟩) ?_
       rotate_left 1
       ·(intro u hSw; go_simp; try with_reducible rfl)
       try simp only [Act.put, sA, sB, sC]
       refine tk (i := 19) (oi := ⟨some 29, .move (.tmp 0), 22, "ref.go:38", #[⟨18, .guard⟩], some (18, true)⟩) (v := ?_) (Or.inl ⟨by rfl, ?_⟩) ?_
       rotate_left 1
       ·(intro u hSw; go_simp; try with_reducible rfl)
       try simp only [Act.put, sA, sB, sC]
       refine tk (i := 20) (oi := ⟨some 30, .move (.tmp 3), 3, "ref.go:38", #[⟨18, .guard⟩], some (18, true)⟩) (v := ?_) (Or.inl ⟨by rfl, ?_⟩) ?_
       rotate_left 1
       ·(intro u hSw; go_simp; try with_reducible rfl)
       try simp only [Act.put, sA, sB, sC]
       refine tk (i := 21) (oi := ⟨some 31, .binOp BinOp.sub 3 (.tmp 30) (.const (Value.int IntKind.i64 1)) 3, 3, "ref.go:38", #[⟨20, .data⟩, ⟨18, .guard⟩], some (18, true)⟩) (v := .int .i64 (i : Int)) (Or.inl ⟨by rfl, ?_⟩) ?_
       ·intro u hSw
        go_simp; first | done | exact IntWalk.i64_in _ (by omega) | (rw [IntWalk.i64_in _ (by omega)]; omega)
       try simp only [Act.put, sA, sB, sC]
       refine tk (i := 22) (oi := ⟨some 32, .indexAddr 22 (.tmp 29) (.tmp 31), 0, "ref.go:38", #[⟨19, .data⟩, ⟨21, .data⟩, ⟨18, .guard⟩], some (18, true)⟩) (v := ?_) (Or.inl ⟨by rfl, ?_⟩) ?_
       rotate_left 1
       ·(intro u hSw; go_simp; try with_reducible rfl)
       try simp only [Act.put, sA, sB, sC]
       refine tk (i := 23) (oi := ⟨some 33, .fieldAddr 45 (.tmp 32) 0, 0, "ref.go:38", #[⟨22, .data⟩, ⟨18, .guard⟩], some (18, true)⟩) (v := ?_) (Or.inl ⟨by rfl, ?_⟩) ?_
       rotate_left 1
       ·(intro u hSw; go_simp; try with_reducible rfl)
       try simp only [Act.put, sA, sB, sC]
       refine tk (i := 24) (oi := ⟨some 34, .load 9 (.tmp 33), 9, "ref.go:38", #[⟨23, .data⟩, ⟨18, .guard⟩], some (18, true)⟩) (v := ?_) (Or.inl ⟨by rfl, ?_⟩) ?_
       rotate_left 1
       ·(intro u hSw; have y0 := (HC.out _ hSw).1; have y1 := (HC.out _ hSw).2; have y2 := HC2.out _ hSw; go_simp; try with_reducible rfl)
       try simp only [Act.put, sA, sB, sC]
       refine tk (i := 25) (oi := ⟨some 35, .move (.tmp 0), 22, "ref.go:38", #[⟨18, .guard⟩], some (18, true)⟩) (v := ?_) (Or.inl ⟨by rfl, ?_⟩) ?_
       rotate_left 1
       ·(intro u hSw; go_simp; try with_reducible rfl)
       try simp only [Act.put, sA, sB, sC]
       refine tk (i := 26) (oi := ⟨some 36, .move (.tmp 3), 3, "ref.go:38", #[⟨18, .guard⟩], some (18, true)⟩) (v := ?_) (Or.inl ⟨by rfl, ?_⟩) ?_
       rotate_left 1
       ·(intro u hSw; go_simp; try with_reducible rfl)
       try simp only [Act.put, sA, sB, sC]
       refine tk (i := 27) (oi := ⟨some 37, .indexAddr 22 (.tmp 35) (.tmp 36), 0, "ref.go:38", #[⟨25, .data⟩, ⟨26, .data⟩, ⟨18, .guard⟩], some (18, true)⟩) (v := ?_) (Or.inl ⟨by rfl, ?_⟩) ?_
       rotate_left 1
       ·(intro u hSw; go_simp; try with_reducible rfl)
       try simp only [Act.put, sA, sB, sC]
       refine tk (i := 28) (oi := ⟨some 38, .fieldAddr 45 (.tmp 37) 0, 0, "ref.go:38", #[⟨27, .data⟩, ⟨18, .guard⟩], some (18, true)⟩) (v := ?_) (Or.inl ⟨by rfl, ?_⟩) ?_
       rotate_left 1
       ·(intro u hSw; go_simp; try with_reducible rfl)
       try simp only [Act.put, sA, sB, sC]
       refine tk (i := 29) (oi := ⟨some 39, .load 9 (.tmp 38), 9, "ref.go:38", #[⟨28, .data⟩, ⟨18, .guard⟩], some (18, true)⟩) (v := ?_) (Or.inl ⟨by rfl, ?_⟩) ?_
       rotate_left 1
       ·(intro u hSw; have y0 := (HC.out _ hSw).1; have y1 := (HC.out _ hSw).2; have y2 := HC2.out _ hSw; go_simp; try with_reducible rfl)
       try simp only [Act.put, sA, sB, sC]
       refine tk (i := 30) (oi := ⟨some 40, .binOp BinOp.geq 9 (.tmp 34) (.tmp 39) 9, 4, "ref.go:38", #[⟨24, .data⟩, ⟨29, .data⟩, ⟨18, .guard⟩], some (18, true)⟩) (v := .bool true) (Or.inl ⟨by rfl, ?_⟩) ?_
       ·(intro u hSw; go_simp; try with_reducible rfl)
       try simp only [Act.put, sA, sB, sC]
       refine tk (i := 31) (oi := ⟨some 41, .pick (.tmp 28) (.tmp 40) (.const (Value.bool false)), 4, "ref.go:38", #[⟨18, .data⟩, ⟨30, .data⟩, ⟨15, .guard⟩], some (15, false)⟩) (v := ?_) (Or.inl ⟨by rfl, ?_⟩) ?_
       rotate_left 1
       ·(intro u hSw; go_simp; try with_reducible rfl)
       try simp only [Act.put, sA, sB, sC]
       refine tk (i := 32) (oi := ⟨some 42, .pick (.tmp 25) (.const (Value.bool true)) (.tmp 41), 4, "ref.go:38", #[⟨15, .data⟩, ⟨31, .data⟩], none⟩) (v := ?_) (Or.inl ⟨by rfl, ?_⟩) ?_
       rotate_left 1
       ·(intro u hSw; go_simp; try with_reducible rfl)
       try simp only [Act.put, sA, sB, sC]
       refine wpAnyH_done (by kernel_rfl) ?_ _
       clear hb
       go_wp2_with fail
       go_ret
       exact ⟨by rw [← HR.out]; rfl, HBD.out⟩
  ·have hje : j = es.length := by omega
   subst hje
   rw [List.drop_length] at hR
   have HR := hid (show true = R from hR)
   have HB := hid hbw
   clear hbw hR
   go_wp2_with fail
   go_ret
   exact ⟨by rw [← HR.out]; rfl, HB.out⟩
end Go.Proofs.YtbmlkocpjboodaaDoor
