/- the reference's sources -/
import Derived.Test.YtegkbagnbnoopaaGreatDoorPs03
namespace Go.Proofs.YtegkbagnbnoopaaGreatDoor
open Go.ChangeShapes Go.WideShapes Go.ChangeAt Go.RowKit Go.Deep
open Go.Lib (hid)
set_option maxRecDepth 100000 in
set_option maxHeartbeats 6400000 in
theorem rsources_step (v1 v2 : Value) (r s : List So) (w : World) (hv1 : DIs w v1 (.sl (sosDa r))) (hv2 : DIs w v2 (.sl (sosDa s))) (hl : r.length ≤ 1073741824) (hm : s.length ≤ 1073741824)
  (okr : sosOK r) (oks : sosOK s)
  (hQ : ∀ x ∈ r, ∀ y ∈ s, ∀ (u : World) (a b : Value), Below w.heap.size w u → DIs u a (.sl (qusDa x.q)) → DIs u b (.sl (qusDa y.q)) → Calls Tryz.prog 17 #[a, b] u (EQ u (x.q = y.q)))
  (hE : ∀ x ∈ r, ∀ y ∈ s, ∀ (u : World) (a b : Value), Below w.heap.size w u → DIs u a (.sl (exsDa x.on)) → DIs u b (.sl (exsDa y.on)) → Calls Tryz.prog 16 #[a, b] u (EQ u (x.on = y.on))) :
  Calls Tryz.prog 33 #[v1, v2] w (EQ w (r = s)) := by
 obtain ⟨a1, c1, rfl, hc1, hcell1⟩ := sos_rows hv1
 obtain ⟨a2, c2, rfl, hc2, hcell2⟩ := sos_rows hv2
 have HC1 := hid hcell1
 have HC2 := hid hcell2
 have HQ := hid hQ
 have HE0 := hid hE
 have HOR := hid okr
 have HOS := hid oks
 generalize hn : r.length = n at *
 generalize ho : s.length = o at *
 have HN := hid hn
 have HO := hid ho
 clear hcell1 hcell2 hn ho hv1 hv2 hQ hE okr oks
 go_enter Tryz.func33, Tryz.ntmps33
 by_cases hno : n = o
 ·subst hno
  go_wp2_with fail
  go_loopw [5] (fun i wr => ∃ k : Nat, k ≤ n ∧ i = .int .i64 k ∧ Below w.heap.size w wr ∧ Hid (r.take k = s.take k)) (fun i _ => n - (intOf i).toNat)
  case atStart => exact ⟨0, Nat.zero_le _, rfl, Below.refl _ _, hid rfl⟩
  case round =>
   obtain ⟨k, hk1, rfl, hbw, heq⟩ := hrel
   have hsz := hbw.size
   have HBW := hid hbw
   clear hbw
   by_cases hlt1 : k < n
   ·obtain ⟨b1, o1, rfl, hb1, hd1⟩ := HC1.out (by omega)
    obtain ⟨b2, o2, rfl, hb2, hd2⟩ := HC2.out (by omega)
    obtain ⟨x, hx⟩ : ∃ x, r[k]? = some x := ⟨_, List.getElem?_eq_getElem (by rw [HN.out]; exact hlt1)⟩
    obtain ⟨y, hy⟩ : ∃ y, s[k]? = some y := ⟨_, List.getElem?_eq_getElem (by rw [HO.out]; exact hlt1)⟩
    obtain ⟨s0, s1, p0, p1, p2, p3, p4, h0, h1⟩ := hd1 k x hx
    obtain ⟨t0, t1, q0, q1, q2, q3, q4, g0, g1⟩ := hd2 k y hy
    obtain ⟨e0, m0, n0, rfl⟩ := dis_slice h0
    obtain ⟨e10, m10, n10, rfl⟩ := dis_slice g0
    obtain ⟨e1, m1, n1, rfl⟩ := dis_slice h1
    obtain ⟨e11, m11, n11, rfl⟩ := dis_slice g1
    have HCQ := hid (fun (u : World) (hu : Below w.heap.size w u) => HQ.out x (List.mem_of_getElem? hx) y (List.mem_of_getElem? hy) u _ _ hu (h0.keep hu) (g0.keep hu))
    have HCE := hid (fun (u : World) (hu : Below w.heap.size w u) => HE0.out x (List.mem_of_getElem? hx) y (List.mem_of_getElem? hy) u _ _ hu (h1.keep hu) (g1.keep hu))
    have ox := sosOK_mem HOR.out x (List.mem_of_getElem? hx)
    have oy := sosOK_mem HOS.out y (List.mem_of_getElem? hy)
    have HRtb := hid (str_beq (l := x.tb) (m := y.tb) (so_tb ox) (so_tb oy))
    have HRal := hid (str_beq (l := x.al) (m := y.al) (so_al ox) (so_al oy))
    have HX := hid hx
    have HY := hid hy
    have P0 := hid p0
    have Q0 := hid q0
    have P1 := hid p1
    have Q1 := hid q1
    have P2 := hid p2
    have Q2 := hid q2
    have P3 := hid p3
    have Q3 := hid q3
    have P4 := hid p4
    have Q4 := hid q4
    have hkn : (k : Int) < (n : Int) := by omega
    have hcn1 : (n : Int) ≤ (c1 : Int) := by omega
    have hcn2 : (n : Int) ≤ (c2 : Int) := by omega
    clear hd1 hd2 hx hy h0 g0 h1 g1 p0 q0 p1 q1 p2 q2 p3 q3 p4 q4
    clear ox oy
    go_wp2_with fail
    by_cases k_kind : x.kind = y.kind
    ·have b_kind : (x.kind != y.kind) = false := by simp [k_kind]
     have K_kind := hid k_kind
     clear k_kind
     by_cases k_tb : x.tb = y.tb
     ·have b_tb : (str x.tb).toList = (str y.tb).toList := by rw [k_tb]
      have K_tb := hid k_tb
      clear k_tb
      by_cases k_al : x.al = y.al
      ·have b_al : (str x.al).toList = (str y.al).toList := by rw [k_al]
       have K_al := hid k_al
       clear k_al
       by_cases k_q : x.q = y.q
       ·have K_q := hid k_q
        clear k_q
        refine wp_region_held_drew (S := fun u => Below w.heap.size w u) (by kernel_rfl) (HBW.out.drew) (fun hHeld => ?_)
        refine tk (i := 0) (oi := ⟨some 17, .move (.tmp 0), 24, "same.go:42", #[], none⟩) (v := ?_) (Or.inl ⟨by rfl, ?_⟩) ?_
        rotate_left 1
        ·(intro u hSw; go_simp; try with_reducible rfl)
        try simp only [Act.put, sA, sB, sC]
        refine tk (i := 1) (oi := ⟨some 18, .move (.tmp 5), 3, "same.go:42", #[], none⟩) (v := ?_) (Or.inl ⟨by rfl, ?_⟩) ?_
        rotate_left 1
        ·(intro u hSw; go_simp; try with_reducible rfl)
        try simp only [Act.put, sA, sB, sC]
        refine tk (i := 2) (oi := ⟨some 19, .indexAddr 24 (.tmp 17) (.tmp 18), 0, "same.go:42", #[⟨0, .data⟩, ⟨1, .data⟩], none⟩) (v := ?_) (Or.inl ⟨by rfl, ?_⟩) ?_
        rotate_left 1
        ·(intro u hSw; go_simp; try with_reducible rfl)
        try simp only [Act.put, sA, sB, sC]
        refine tk (i := 3) (oi := ⟨some 20, .fieldAddr 44 (.tmp 19) 0, 0, "same.go:42", #[⟨2, .data⟩], none⟩) (v := ?_) (Or.inl ⟨by rfl, ?_⟩) ?_
        rotate_left 1
        ·(intro u hSw; go_simp; try with_reducible rfl)
        try simp only [Act.put, sA, sB, sC]
        refine tk (i := 4) (oi := ⟨some 21, .load 3 (.tmp 20), 3, "same.go:42", #[⟨3, .data⟩], none⟩) (v := ?_) (Or.inl ⟨by rfl, ?_⟩) ?_
        rotate_left 1
        ·(intro u hSw; have p0 := (hSw.cell (p := ⟨b1, o1 + k * 5, none⟩) hb1).trans P0.out; have q0 := (hSw.cell (p := ⟨b2, o2 + k * 5, none⟩) hb2).trans Q0.out; have p1 := (hSw.cell (p := ⟨b1, o1 + k * 5 + 1, none⟩) hb1).trans P1.out; have q1 := (hSw.cell (p := ⟨b2, o2 + k * 5 + 1, none⟩) hb2).trans Q1.out; have p2 := (hSw.cell (p := ⟨b1, o1 + k * 5 + 2, none⟩) hb1).trans P2.out; have q2 := (hSw.cell (p := ⟨b2, o2 + k * 5 + 2, none⟩) hb2).trans Q2.out; have p3 := (hSw.cell (p := ⟨b1, o1 + k * 5 + 3, none⟩) hb1).trans P3.out; have q3 := (hSw.cell (p := ⟨b2, o2 + k * 5 + 3, none⟩) hb2).trans Q3.out; have p4 := (hSw.cell (p := ⟨b1, o1 + k * 5 + 4, none⟩) hb1).trans P4.out; have q4 := (hSw.cell (p := ⟨b2, o2 + k * 5 + 4, none⟩) hb2).trans Q4.out; go_simp; try with_reducible rfl)
        try simp only [Act.put, sA, sB, sC]
        refine tk (i := 5) (oi := ⟨some 22, .move (.tmp 1), 24, "same.go:42", #[], none⟩) (v := ?_) (Or.inl ⟨by rfl, ?_⟩) ?_
        rotate_left 1
        ·(intro u hSw; go_simp; try with_reducible rfl)
        try simp only [Act.put, sA, sB, sC]
        refine tk (i := 6) (oi := ⟨some 23, .move (.tmp 5), 3, "same.go:42", #[], none⟩) (v := ?_) (Or.inl ⟨by rfl, ?_⟩) ?_
        rotate_left 1
        ·(intro u hSw; go_simp; try with_reducible rfl)
        try simp only [Act.put, sA, sB, sC]
        refine tk (i := 7) (oi := ⟨some 24, .indexAddr 24 (.tmp 22) (.tmp 23), 0, "same.go:42", #[⟨5, .data⟩, ⟨6, .data⟩], none⟩) (v := ?_) (Or.inl ⟨by rfl, ?_⟩) ?_
        rotate_left 1
        ·(intro u hSw; go_simp; try with_reducible rfl)
        try simp only [Act.put, sA, sB, sC]
        refine tk (i := 8) (oi := ⟨some 25, .fieldAddr 44 (.tmp 24) 0, 0, "same.go:42", #[⟨7, .data⟩], none⟩) (v := ?_) (Or.inl ⟨by rfl, ?_⟩) ?_
        rotate_left 1
        ·(intro u hSw; go_simp; try with_reducible rfl)
        try simp only [Act.put, sA, sB, sC]
        refine tk (i := 9) (oi := ⟨some 26, .load 3 (.tmp 25), 3, "same.go:42", #[⟨8, .data⟩], none⟩) (v := ?_) (Or.inl ⟨by rfl, ?_⟩) ?_
        rotate_left 1
        ·(intro u hSw; have p0 := (hSw.cell (p := ⟨b1, o1 + k * 5, none⟩) hb1).trans P0.out; have q0 := (hSw.cell (p := ⟨b2, o2 + k * 5, none⟩) hb2).trans Q0.out; have p1 := (hSw.cell (p := ⟨b1, o1 + k * 5 + 1, none⟩) hb1).trans P1.out; have q1 := (hSw.cell (p := ⟨b2, o2 + k * 5 + 1, none⟩) hb2).trans Q1.out; have p2 := (hSw.cell (p := ⟨b1, o1 + k * 5 + 2, none⟩) hb1).trans P2.out; have q2 := (hSw.cell (p := ⟨b2, o2 + k * 5 + 2, none⟩) hb2).trans Q2.out; have p3 := (hSw.cell (p := ⟨b1, o1 + k * 5 + 3, none⟩) hb1).trans P3.out; have q3 := (hSw.cell (p := ⟨b2, o2 + k * 5 + 3, none⟩) hb2).trans Q3.out; have p4 := (hSw.cell (p := ⟨b1, o1 + k * 5 + 4, none⟩) hb1).trans P4.out; have q4 := (hSw.cell (p := ⟨b2, o2 + k * 5 + 4, none⟩) hb2).trans Q4.out; go_simp; try with_reducible rfl)
        try simp only [Act.put, sA, sB, sC]
        refine tk (i := 10) (oi := ⟨some 27, .binOp BinOp.neq 3 (.tmp 21) (.tmp 26) 3, 4, "same.go:42", #[⟨4, .data⟩, ⟨9, .data⟩], none⟩) (v := .bool false) (Or.inl ⟨by rfl, ?_⟩) ?_
        ·intro u hSw
         go_simp
         try simp [b_kind]
        try simp only [Act.put, sA, sB, sC]
        refine tk (i := 11) (oi := ⟨some 28, .move (.tmp 27), 4, "same.go:42", #[⟨10, .data⟩], none⟩) (v := ?_) (Or.inl ⟨by rfl, ?_⟩) ?_
        rotate_left 1
        ·(intro u hSw; go_simp; try with_reducible rfl)
        try simp only [Act.put, sA, sB, sC]
        refine tk (i := 12) (oi := ⟨some 29, .move (.tmp 0), 24, "same.go:42", #[⟨11, .guard⟩], some (11, false)⟩) (v := ?_) (Or.inl ⟨by rfl, ?_⟩) ?_
        rotate_left 1
        ·(intro u hSw; go_simp; try with_reducible rfl)
        try simp only [Act.put, sA, sB, sC]
        refine tk (i := 13) (oi := ⟨some 30, .move (.tmp 5), 3, "same.go:42", #[⟨11, .guard⟩], some (11, false)⟩) (v := ?_) (Or.inl ⟨by rfl, ?_⟩) ?_
        rotate_left 1
        ·(intro u hSw; go_simp; try with_reducible rfl)
        try simp only [Act.put, sA, sB, sC]
        refine tk (i := 14) (oi := ⟨some 31, .indexAddr 24 (.tmp 29) (.tmp 30), 0, "same.go:42", #[⟨12, .data⟩, ⟨13, .data⟩, ⟨11, .guard⟩], some (11, false)⟩) (v := ?_) (Or.inl ⟨by rfl, ?_⟩) ?_
        rotate_left 1
        ·(intro u hSw; go_simp; try with_reducible rfl)
        try simp only [Act.put, sA, sB, sC]
        refine tk (i := 15) (oi := ⟨some 32, .fieldAddr 44 (.tmp 31) 1, 0, "same.go:42", #[⟨14, .data⟩, ⟨11, .guard⟩], some (11, false)⟩) (v := ?_) (Or.inl ⟨by rfl, ?_⟩) ?_
        rotate_left 1
        ·(intro u hSw; go_simp; try with_reducible rfl)
        try simp only [Act.put, sA, sB, sC]
        refine tk (i := 16) (oi := ⟨some 33, .load 9 (.tmp 32), 9, "same.go:42", #[⟨15, .data⟩, ⟨11, .guard⟩], some (11, false)⟩) (v := ?_) (Or.inl ⟨by rfl, ?_⟩) ?_
        rotate_left 1
        ·(intro u hSw; have p0 := (hSw.cell (p := ⟨b1, o1 + k * 5, none⟩) hb1).trans P0.out; have q0 := (hSw.cell (p := ⟨b2, o2 + k * 5, none⟩) hb2).trans Q0.out; have p1 := (hSw.cell (p := ⟨b1, o1 + k * 5 + 1, none⟩) hb1).trans P1.out; have q1 := (hSw.cell (p := ⟨b2, o2 + k * 5 + 1, none⟩) hb2).trans Q1.out; have p2 := (hSw.cell (p := ⟨b1, o1 + k * 5 + 2, none⟩) hb1).trans P2.out; have q2 := (hSw.cell (p := ⟨b2, o2 + k * 5 + 2, none⟩) hb2).trans Q2.out; have p3 := (hSw.cell (p := ⟨b1, o1 + k * 5 + 3, none⟩) hb1).trans P3.out; have q3 := (hSw.cell (p := ⟨b2, o2 + k * 5 + 3, none⟩) hb2).trans Q3.out; have p4 := (hSw.cell (p := ⟨b1, o1 + k * 5 + 4, none⟩) hb1).trans P4.out; have q4 := (hSw.cell (p := ⟨b2, o2 + k * 5 + 4, none⟩) hb2).trans Q4.out; go_simp; try with_reducible rfl)
        try simp only [Act.put, sA, sB, sC]
        refine tk (i := 17) (oi := ⟨some 34, .move (.tmp 1), 24, "same.go:42", #[⟨11, .guard⟩], some (11, false)⟩) (v := ?_) (Or.inl ⟨by rfl, ?_⟩) ?_
        rotate_left 1
        ·(intro u hSw; go_simp; try with_reducible rfl)
        try simp only [Act.put, sA, sB, sC]
        refine tk (i := 18) (oi := ⟨some 35, .move (.tmp 5), 3, "same.go:42", #[⟨11, .guard⟩], some (11, false)⟩) (v := ?_) (Or.inl ⟨by rfl, ?_⟩) ?_
        rotate_left 1
        ·(intro u hSw; go_simp; try with_reducible rfl)
        try simp only [Act.put, sA, sB, sC]
        refine tk (i := 19) (oi := ⟨some 36, .indexAddr 24 (.tmp 34) (.tmp 35), 0, "same.go:42", #[⟨17, .data⟩, ⟨18, .data⟩, ⟨11, .guard⟩], some (11, false)⟩) (v := ?_) (Or.inl ⟨by rfl, ?_⟩) ?_
        rotate_left 1
        ·(intro u hSw; go_simp; try with_reducible rfl)
        try simp only [Act.put, sA, sB, sC]
        refine tk (i := 20) (oi := ⟨some 37, .fieldAddr 44 (.tmp 36) 1, 0, "same.go:42", #[⟨19, .data⟩, ⟨11, .guard⟩], some (11, false)⟩) (v := ?_) (Or.inl ⟨by rfl, ?_⟩) ?_
        rotate_left 1
        ·(intro u hSw; go_simp; try with_reducible rfl)
        try simp only [Act.put, sA, sB, sC]
        refine tk (i := 21) (oi := ⟨some 38, .load 9 (.tmp 37), 9, "same.go:42", #[⟨20, .data⟩, ⟨11, .guard⟩], some (11, false)⟩) (v := ?_) (Or.inl ⟨by rfl, ?_⟩) ?_
        rotate_left 1
        ·(intro u hSw; have p0 := (hSw.cell (p := ⟨b1, o1 + k * 5, none⟩) hb1).trans P0.out; have q0 := (hSw.cell (p := ⟨b2, o2 + k * 5, none⟩) hb2).trans Q0.out; have p1 := (hSw.cell (p := ⟨b1, o1 + k * 5 + 1, none⟩) hb1).trans P1.out; have q1 := (hSw.cell (p := ⟨b2, o2 + k * 5 + 1, none⟩) hb2).trans Q1.out; have p2 := (hSw.cell (p := ⟨b1, o1 + k * 5 + 2, none⟩) hb1).trans P2.out; have q2 := (hSw.cell (p := ⟨b2, o2 + k * 5 + 2, none⟩) hb2).trans Q2.out; have p3 := (hSw.cell (p := ⟨b1, o1 + k * 5 + 3, none⟩) hb1).trans P3.out; have q3 := (hSw.cell (p := ⟨b2, o2 + k * 5 + 3, none⟩) hb2).trans Q3.out; have p4 := (hSw.cell (p := ⟨b1, o1 + k * 5 + 4, none⟩) hb1).trans P4.out; have q4 := (hSw.cell (p := ⟨b2, o2 + k * 5 + 4, none⟩) hb2).trans Q4.out; go_simp; try with_reducible rfl)
        try simp only [Act.put, sA, sB, sC]
        refine tk (i := 22) (oi := ⟨some 39, .binOp BinOp.neq 9 (.tmp 33) (.tmp 38) 9, 4, "same.go:42", #[⟨16, .data⟩, ⟨21, .data⟩, ⟨11, .guard⟩], some (11, false)⟩) (v := .bool false) (Or.inl ⟨by rfl, ?_⟩) ?_
        ·intro u hSw
         go_simp
         try simp [b_tb]
        try simp only [Act.put, sA, sB, sC]
        refine tk (i := 23) (oi := ⟨some 40, .pick (.tmp 28) (.const (Value.bool true)) (.tmp 39), 4, "same.go:42", #[⟨11, .data⟩, ⟨22, .data⟩], none⟩) (v := ?_) (Or.inl ⟨by rfl, ?_⟩) ?_
        rotate_left 1
        ·(intro u hSw; go_simp; try with_reducible rfl)
        try simp only [Act.put, sA, sB, sC]
        refine tk (i := 24) (oi := ⟨some 41, .move (.tmp 40), 4, "same.go:42", #[⟨23, .data⟩, ⟨11, .chain⟩], none⟩) (v := ?_) (Or.inl ⟨by rfl, ?_⟩) ?_
        rotate_left 1
        ·(intro u hSw; go_simp; try with_reducible rfl)
        try simp only [Act.put, sA, sB, sC]
        refine tk (i := 25) (oi := ⟨some 42, .move (.tmp 0), 24, "same.go:42", #[⟨24, .guard⟩], some (24, false)⟩) (v := ?_) (Or.inl ⟨by rfl, ?_⟩) ?_
        rotate_left 1
        ·(intro u hSw; go_simp; try with_reducible rfl)
        try simp only [Act.put, sA, sB, sC]
        refine tk (i := 26) (oi := ⟨some 43, .move (.tmp 5), 3, "same.go:42", #[⟨24, .guard⟩], some (24, false)⟩) (v := ?_) (Or.inl ⟨by rfl, ?_⟩) ?_
        rotate_left 1
        ·(intro u hSw; go_simp; try with_reducible rfl)
        try simp only [Act.put, sA, sB, sC]
        refine tk (i := 27) (oi := ⟨some 44, .indexAddr 24 (.tmp 42) (.tmp 43), 0, "same.go:42", #[⟨25, .data⟩, ⟨26, .data⟩, ⟨24, .guard⟩], some (24, false)⟩) (v := ?_) (Or.inl ⟨by rfl, ?_⟩) ?_
        rotate_left 1
        ·(intro u hSw; go_simp; try with_reducible rfl)
        try simp only [Act.put, sA, sB, sC]
        refine tk (i := 28) (oi := ⟨some 45, .fieldAddr 44 (.tmp 44) 3, 0, "same.go:42", #[⟨27, .data⟩, ⟨24, .guard⟩], some (24, false)⟩) (v := ?_) (Or.inl ⟨by rfl, ?_⟩) ?_
        rotate_left 1
        ·(intro u hSw; go_simp; try with_reducible rfl)
        try simp only [Act.put, sA, sB, sC]
        refine tk (i := 29) (oi := ⟨some 46, .load 9 (.tmp 45), 9, "same.go:42", #[⟨28, .data⟩, ⟨24, .guard⟩], some (24, false)⟩) (v := ?_) (Or.inl ⟨by rfl, ?_⟩) ?_
        rotate_left 1
        ·(intro u hSw; have p0 := (hSw.cell (p := ⟨b1, o1 + k * 5, none⟩) hb1).trans P0.out; have q0 := (hSw.cell (p := ⟨b2, o2 + k * 5, none⟩) hb2).trans Q0.out; have p1 := (hSw.cell (p := ⟨b1, o1 + k * 5 + 1, none⟩) hb1).trans P1.out; have q1 := (hSw.cell (p := ⟨b2, o2 + k * 5 + 1, none⟩) hb2).trans Q1.out; have p2 := (hSw.cell (p := ⟨b1, o1 + k * 5 + 2, none⟩) hb1).trans P2.out; have q2 := (hSw.cell (p := ⟨b2, o2 + k * 5 + 2, none⟩) hb2).trans Q2.out; have p3 := (hSw.cell (p := ⟨b1, o1 + k * 5 + 3, none⟩) hb1).trans P3.out; have q3 := (hSw.cell (p := ⟨b2, o2 + k * 5 + 3, none⟩) hb2).trans Q3.out; have p4 := (hSw.cell (p := ⟨b1, o1 + k * 5 + 4, none⟩) hb1).trans P4.out; have q4 := (hSw.cell (p := ⟨b2, o2 + k * 5 + 4, none⟩) hb2).trans Q4.out; go_simp; try with_reducible rfl)
        try simp only [Act.put, sA, sB, sC]
        refine tk (i := 30) (oi := ⟨some 47, .move (.tmp 1), 24, "same.go:42", #[⟨24, .guard⟩], some (24, false)⟩) (v := ?_) (Or.inl ⟨by rfl, ?_⟩) ?_
        rotate_left 1
        ·(intro u hSw; go_simp; try with_reducible rfl)
        try simp only [Act.put, sA, sB, sC]
        refine tk (i := 31) (oi := ⟨some 48, .move (.tmp 5), 3, "same.go:42", #[⟨24, .guard⟩], some (24, false)⟩) (v := ?_) (Or.inl ⟨by rfl, ?_⟩) ?_
        rotate_left 1
        ·(intro u hSw; go_simp; try with_reducible rfl)
        try simp only [Act.put, sA, sB, sC]
        refine tk (i := 32) (oi := ⟨some 49, .indexAddr 24 (.tmp 47) (.tmp 48), 0, "same.go:42", #[⟨30, .data⟩, ⟨31, .data⟩, ⟨24, .guard⟩], some (24, false)⟩) (v := ?_) (Or.inl ⟨by rfl, ?_⟩) ?_
        rotate_left 1
        ·(intro u hSw; go_simp; try with_reducible rfl)
        try simp only [Act.put, sA, sB, sC]
        refine tk (i := 33) (oi := ⟨some 50, .fieldAddr 44 (.tmp 49) 3, 0, "same.go:42", #[⟨32, .data⟩, ⟨24, .guard⟩], some (24, false)⟩) (v := ?_) (Or.inl ⟨by rfl, ?_⟩) ?_
        rotate_left 1
        ·(intro u hSw; go_simp; try with_reducible rfl)
        try simp only [Act.put, sA, sB, sC]
        refine tk (i := 34) (oi := ⟨some 51, .load 9 (.tmp 50), 9, "same.go:42", #[⟨33, .data⟩, ⟨24, .guard⟩], some (24, false)⟩) (v := ?_) (Or.inl ⟨by rfl, ?_⟩) ?_
        rotate_left 1
        ·(intro u hSw; have p0 := (hSw.cell (p := ⟨b1, o1 + k * 5, none⟩) hb1).trans P0.out; have q0 := (hSw.cell (p := ⟨b2, o2 + k * 5, none⟩) hb2).trans Q0.out; have p1 := (hSw.cell (p := ⟨b1, o1 + k * 5 + 1, none⟩) hb1).trans P1.out; have q1 := (hSw.cell (p := ⟨b2, o2 + k * 5 + 1, none⟩) hb2).trans Q1.out; have p2 := (hSw.cell (p := ⟨b1, o1 + k * 5 + 2, none⟩) hb1).trans P2.out; have q2 := (hSw.cell (p := ⟨b2, o2 + k * 5 + 2, none⟩) hb2).trans Q2.out; have p3 := (hSw.cell (p := ⟨b1, o1 + k * 5 + 3, none⟩) hb1).trans P3.out; have q3 := (hSw.cell (p := ⟨b2, o2 + k * 5 + 3, none⟩) hb2).trans Q3.out; have p4 := (hSw.cell (p := ⟨b1, o1 + k * 5 + 4, none⟩) hb1).trans P4.out; have q4 := (hSw.cell (p := ⟨b2, o2 + k * 5 + 4, none⟩) hb2).trans Q4.out; go_simp; try with_reducible rfl)
        try simp only [Act.put, sA, sB, sC]
        refine tk (i := 35) (oi := ⟨some 52, .binOp BinOp.neq 9 (.tmp 46) (.tmp 51) 9, 4, "same.go:42", #[⟨29, .data⟩, ⟨34, .data⟩, ⟨24, .guard⟩], some (24, false)⟩) (v := .bool false) (Or.inl ⟨by rfl, ?_⟩) ?_
        ·intro u hSw
         go_simp
         try simp [b_al]
        try simp only [Act.put, sA, sB, sC]
        refine tk (i := 36) (oi := ⟨some 53, .pick (.tmp 41) (.const (Value.bool true)) (.tmp 52), 4, "same.go:42", #[⟨24, .data⟩, ⟨35, .data⟩], none⟩) (v := ?_) (Or.inl ⟨by rfl, ?_⟩) ?_
        rotate_left 1
        ·(intro u hSw; go_simp; try with_reducible rfl)
        try simp only [Act.put, sA, sB, sC]
        refine wpAnyH_done (by kernel_rfl) ?_ _
        have HH := hid hHeld
        clear hHeld
        go_wp2_with fail
        refine wp_region_held_drew (S := fun u => Below w.heap.size w u) (by kernel_rfl) (HH.out.drew) (fun hHeld => ?_)
        refine tk (i := 0) (oi := ⟨some 54, .move (.tmp 0), 24, "same.go:45", #[], none⟩) (v := ?_) (Or.inl ⟨by rfl, ?_⟩) ?_
        rotate_left 1
        ·(intro u hSw; go_simp; try with_reducible rfl)
        try simp only [Act.put, sA, sB, sC]
        refine tk (i := 1) (oi := ⟨some 55, .move (.tmp 5), 3, "same.go:45", #[], none⟩) (v := ?_) (Or.inl ⟨by rfl, ?_⟩) ?_
        rotate_left 1
        ·(intro u hSw; go_simp; try with_reducible rfl)
        try simp only [Act.put, sA, sB, sC]
        refine tk (i := 2) (oi := ⟨some 56, .indexAddr 24 (.tmp 54) (.tmp 55), 0, "same.go:45", #[⟨0, .data⟩, ⟨1, .data⟩], none⟩) (v := ?_) (Or.inl ⟨by rfl, ?_⟩) ?_
        rotate_left 1
        ·(intro u hSw; go_simp; try with_reducible rfl)
        try simp only [Act.put, sA, sB, sC]
        refine tk (i := 3) (oi := ⟨some 57, .fieldAddr 44 (.tmp 56) 2, 0, "same.go:45", #[⟨2, .data⟩], none⟩) (v := ?_) (Or.inl ⟨by rfl, ?_⟩) ?_
        rotate_left 1
        ·(intro u hSw; go_simp; try with_reducible rfl)
        try simp only [Act.put, sA, sB, sC]
        refine tk (i := 4) (oi := ⟨some 58, .load 22 (.tmp 57), 22, "same.go:45", #[⟨3, .data⟩], none⟩) (v := ?_) (Or.inl ⟨by rfl, ?_⟩) ?_
        rotate_left 1
        ·(intro u hSw; have p0 := (hSw.cell (p := ⟨b1, o1 + k * 5, none⟩) hb1).trans P0.out; have q0 := (hSw.cell (p := ⟨b2, o2 + k * 5, none⟩) hb2).trans Q0.out; have p1 := (hSw.cell (p := ⟨b1, o1 + k * 5 + 1, none⟩) hb1).trans P1.out; have q1 := (hSw.cell (p := ⟨b2, o2 + k * 5 + 1, none⟩) hb2).trans Q1.out; have p2 := (hSw.cell (p := ⟨b1, o1 + k * 5 + 2, none⟩) hb1).trans P2.out; have q2 := (hSw.cell (p := ⟨b2, o2 + k * 5 + 2, none⟩) hb2).trans Q2.out; have p3 := (hSw.cell (p := ⟨b1, o1 + k * 5 + 3, none⟩) hb1).trans P3.out; have q3 := (hSw.cell (p := ⟨b2, o2 + k * 5 + 3, none⟩) hb2).trans Q3.out; have p4 := (hSw.cell (p := ⟨b1, o1 + k * 5 + 4, none⟩) hb1).trans P4.out; have q4 := (hSw.cell (p := ⟨b2, o2 + k * 5 + 4, none⟩) hb2).trans Q4.out; go_simp; try with_reducible rfl)
        try simp only [Act.put, sA, sB, sC]
        refine tk (i := 5) (oi := ⟨some 59, .move (.tmp 1), 24, "same.go:45", #[], none⟩) (v := ?_) (Or.inl ⟨by rfl, ?_⟩) ?_
        rotate_left 1
        ·(intro u hSw; go_simp; try with_reducible rfl)
        try simp only [Act.put, sA, sB, sC]
        refine tk (i := 6) (oi := ⟨some 60, .move (.tmp 5), 3, "same.go:45", #[], none⟩) (v := ?_) (Or.inl ⟨by rfl, ?_⟩) ?_
        rotate_left 1
        ·(intro u hSw; go_simp; try with_reducible rfl)
        try simp only [Act.put, sA, sB, sC]
        refine tk (i := 7) (oi := ⟨some 61, .indexAddr 24 (.tmp 59) (.tmp 60), 0, "same.go:45", #[⟨5, .data⟩, ⟨6, .data⟩], none⟩) (v := ?_) (Or.inl ⟨by rfl, ?_⟩) ?_
        rotate_left 1
        ·(intro u hSw; go_simp; try with_reducible rfl)
        try simp only [Act.put, sA, sB, sC]
        refine tk (i := 8) (oi := ⟨some 62, .fieldAddr 44 (.tmp 61) 2, 0, "same.go:45", #[⟨7, .data⟩], none⟩) (v := ?_) (Or.inl ⟨by rfl, ?_⟩) ?_
        rotate_left 1
        ·(intro u hSw; go_simp; try with_reducible rfl)
        try simp only [Act.put, sA, sB, sC]
        refine tk (i := 9) (oi := ⟨some 63, .load 22 (.tmp 62), 22, "same.go:45", #[⟨8, .data⟩], none⟩) (v := ?_) (Or.inl ⟨by rfl, ?_⟩) ?_
        rotate_left 1
        ·(intro u hSw; have p0 := (hSw.cell (p := ⟨b1, o1 + k * 5, none⟩) hb1).trans P0.out; have q0 := (hSw.cell (p := ⟨b2, o2 + k * 5, none⟩) hb2).trans Q0.out; have p1 := (hSw.cell (p := ⟨b1, o1 + k * 5 + 1, none⟩) hb1).trans P1.out; have q1 := (hSw.cell (p := ⟨b2, o2 + k * 5 + 1, none⟩) hb2).trans Q1.out; have p2 := (hSw.cell (p := ⟨b1, o1 + k * 5 + 2, none⟩) hb1).trans P2.out; have q2 := (hSw.cell (p := ⟨b2, o2 + k * 5 + 2, none⟩) hb2).trans Q2.out; have p3 := (hSw.cell (p := ⟨b1, o1 + k * 5 + 3, none⟩) hb1).trans P3.out; have q3 := (hSw.cell (p := ⟨b2, o2 + k * 5 + 3, none⟩) hb2).trans Q3.out; have p4 := (hSw.cell (p := ⟨b1, o1 + k * 5 + 4, none⟩) hb1).trans P4.out; have q4 := (hSw.cell (p := ⟨b2, o2 + k * 5 + 4, none⟩) hb2).trans Q4.out; go_simp; try with_reducible rfl)
        try simp only [Act.put, sA, sB, sC]
        refine wpAnyH_ready (rs := [10]) (by kernel_rfl) (by simp) ?_
        refine AllReadyH.cons (o := ⟨some 64, .call ⟨.value (.func 17), #[.tmp 58, .tmp 63], #[22, 22]⟩, 4, "same.go:45", #[⟨4, .data⟩, ⟨9, .data⟩], none⟩) rfl (fun K hK => ?_) AllReadyH.nil
        go_simp
        go_at_call 17
        refine (HCQ.out _ hHeld).mono ?_
        rintro e w' ⟨c, rfl, hc, hb⟩
        obtain rfl : c = true := hc.2 K_q.out
        clear hc
        go_wp2_with fail
        refine hK.out _ _ (hHeld.trans (hb.mono hHeld.size)) (fun hHeld => ?_)
        clear hK K
        try simp only [Act.put, sA, sB, sC]
        refine tk (i := 11) (oi := ⟨some 65, .unOp UnOp.not 4 (.tmp 64), 4, "same.go:45", #[⟨10, .data⟩], none⟩) (v := ?_) (Or.inl ⟨by rfl, ?_⟩) ?_
        rotate_left 1
        ·(intro u hSw; go_simp; try with_reducible rfl)
        try simp only [Act.put, sA, sB, sC]
        refine tk (i := 12) (oi := ⟨some 66, .move (.tmp 65), 4, "same.go:45", #[⟨11, .data⟩, ⟨10, .chain⟩], none⟩) (v := ?_) (Or.inl ⟨by rfl, ?_⟩) ?_
        rotate_left 1
        ·(intro u hSw; go_simp; try with_reducible rfl)
        try simp only [Act.put, sA, sB, sC]
        refine tk (i := 13) (oi := ⟨some 67, .move (.tmp 0), 24, "same.go:45", #[⟨12, .guard⟩], some (12, false)⟩) (v := ?_) (Or.inl ⟨by rfl, ?_⟩) ?_
        rotate_left 1
        ·(intro u hSw; go_simp; try with_reducible rfl)
        try simp only [Act.put, sA, sB, sC]
        refine tk (i := 14) (oi := ⟨some 68, .move (.tmp 5), 3, "same.go:45", #[⟨12, .guard⟩], some (12, false)⟩) (v := ?_) (Or.inl ⟨by rfl, ?_⟩) ?_
        rotate_left 1
        ·(intro u hSw; go_simp; try with_reducible rfl)
        try simp only [Act.put, sA, sB, sC]
        refine tk (i := 15) (oi := ⟨some 69, .indexAddr 24 (.tmp 67) (.tmp 68), 0, "same.go:45", #[⟨13, .data⟩, ⟨14, .data⟩, ⟨12, .guard⟩], some (12, false)⟩) (v := ?_) (Or.inl ⟨by rfl, ?_⟩) ?_
        rotate_left 1
        ·(intro u hSw; go_simp; try with_reducible rfl)
        try simp only [Act.put, sA, sB, sC]
        refine tk (i := 16) (oi := ⟨some 70, .fieldAddr 44 (.tmp 69) 4, 0, "same.go:45", #[⟨15, .data⟩, ⟨12, .guard⟩], some (12, false)⟩) (v := ?_) (Or.inl ⟨by rfl, ?_⟩) ?_
        rotate_left 1
        ·(intro u hSw; go_simp; try with_reducible rfl)
        try simp only [Act.put, sA, sB, sC]
        refine tk (i := 17) (oi := ⟨some 71, .load 25 (.tmp 70), 25, "same.go:45", #[⟨16, .data⟩, ⟨12, .guard⟩], some (12, false)⟩) (v := ?_) (Or.inl ⟨by rfl, ?_⟩) ?_
        rotate_left 1
        ·(intro u hSw; have p0 := (hSw.cell (p := ⟨b1, o1 + k * 5, none⟩) hb1).trans P0.out; have q0 := (hSw.cell (p := ⟨b2, o2 + k * 5, none⟩) hb2).trans Q0.out; have p1 := (hSw.cell (p := ⟨b1, o1 + k * 5 + 1, none⟩) hb1).trans P1.out; have q1 := (hSw.cell (p := ⟨b2, o2 + k * 5 + 1, none⟩) hb2).trans Q1.out; have p2 := (hSw.cell (p := ⟨b1, o1 + k * 5 + 2, none⟩) hb1).trans P2.out; have q2 := (hSw.cell (p := ⟨b2, o2 + k * 5 + 2, none⟩) hb2).trans Q2.out; have p3 := (hSw.cell (p := ⟨b1, o1 + k * 5 + 3, none⟩) hb1).trans P3.out; have q3 := (hSw.cell (p := ⟨b2, o2 + k * 5 + 3, none⟩) hb2).trans Q3.out; have p4 := (hSw.cell (p := ⟨b1, o1 + k * 5 + 4, none⟩) hb1).trans P4.out; have q4 := (hSw.cell (p := ⟨b2, o2 + k * 5 + 4, none⟩) hb2).trans Q4.out; go_simp; try with_reducible rfl)
        try simp only [Act.put, sA, sB, sC]
        refine tk (i := 18) (oi := ⟨some 72, .move (.tmp 1), 24, "same.go:45", #[⟨12, .guard⟩], some (12, false)⟩) (v := ?_) (Or.inl ⟨by rfl, ?_⟩) ?_
        rotate_left 1
        ·(intro u hSw; go_simp; try with_reducible rfl)
        try simp only [Act.put, sA, sB, sC]
        refine tk (i := 19) (oi := ⟨some 73, .move (.tmp 5), 3, "same.go:45", #[⟨12, .guard⟩], some (12, false)⟩) (v := ?_) (Or.inl ⟨by rfl, ?_⟩) ?_
        rotate_left 1
        ·(intro u hSw; go_simp; try with_reducible rfl)
        try simp only [Act.put, sA, sB, sC]
        refine tk (i := 20) (oi := ⟨some 74, .indexAddr 24 (.tmp 72) (.tmp 73), 0, "same.go:45", #[⟨18, .data⟩, ⟨19, .data⟩, ⟨12, .guard⟩], some (12, false)⟩) (v := ?_) (Or.inl ⟨by rfl, ?_⟩) ?_
        rotate_left 1
        ·(intro u hSw; go_simp; try with_reducible rfl)
        try simp only [Act.put, sA, sB, sC]
        refine tk (i := 21) (oi := ⟨some 75, .fieldAddr 44 (.tmp 74) 4, 0, "same.go:45", #[⟨20, .data⟩, ⟨12, .guard⟩], some (12, false)⟩) (v := ?_) (Or.inl ⟨by rfl, ?_⟩) ?_
        rotate_left 1
        ·(intro u hSw; go_simp; try with_reducible rfl)
        try simp only [Act.put, sA, sB, sC]
        refine tk (i := 22) (oi := ⟨some 76, .load 25 (.tmp 75), 25, "same.go:45", #[⟨21, .data⟩, ⟨12, .guard⟩], some (12, false)⟩) (v := ?_) (Or.inl ⟨by rfl, ?_⟩) ?_
        rotate_left 1
        ·(intro u hSw; have p0 := (hSw.cell (p := ⟨b1, o1 + k * 5, none⟩) hb1).trans P0.out; have q0 := (hSw.cell (p := ⟨b2, o2 + k * 5, none⟩) hb2).trans Q0.out; have p1 := (hSw.cell (p := ⟨b1, o1 + k * 5 + 1, none⟩) hb1).trans P1.out; have q1 := (hSw.cell (p := ⟨b2, o2 + k * 5 + 1, none⟩) hb2).trans Q1.out; have p2 := (hSw.cell (p := ⟨b1, o1 + k * 5 + 2, none⟩) hb1).trans P2.out; have q2 := (hSw.cell (p := ⟨b2, o2 + k * 5 + 2, none⟩) hb2).trans Q2.out; have p3 := (hSw.cell (p := ⟨b1, o1 + k * 5 + 3, none⟩) hb1).trans P3.out; have q3 := (hSw.cell (p := ⟨b2, o2 + k * 5 + 3, none⟩) hb2).trans Q3.out; have p4 := (hSw.cell (p := ⟨b1, o1 + k * 5 + 4, none⟩) hb1).trans P4.out; have q4 := (hSw.cell (p := ⟨b2, o2 + k * 5 + 4, none⟩) hb2).trans Q4.out; go_simp; try with_reducible rfl)
        try simp only [Act.put, sA, sB, sC]
        refine wpAnyH_ready (rs := [23]) (by kernel_rfl) (by simp) ?_
        refine AllReadyH.cons (o := ⟨some 77, .call ⟨.value (.func 16), #[.tmp 71, .tmp 76], #[25, 25]⟩, 4, "same.go:45", #[⟨17, .data⟩, ⟨22, .data⟩, ⟨12, .chain⟩, ⟨12, .guard⟩], some (12, false)⟩) rfl (fun K hK => ?_) AllReadyH.nil
        go_simp
        go_at_call 16
        refine (HCE.out _ hHeld).mono ?_
        rintro e w' ⟨c, rfl, hc, hb⟩
        have HE := hid hc
        clear hc
        go_wp2_with fail
        refine hK.out _ _ (hHeld.trans (hb.mono hHeld.size)) (fun hHeld => ?_)
        clear hK K
        try simp only [Act.put, sA, sB, sC]
        refine tk (i := 24) (oi := ⟨some 78, .unOp UnOp.not 4 (.tmp 77), 4, "same.go:45", #[⟨23, .data⟩, ⟨12, .guard⟩], some (12, false)⟩) (v := ?_) (Or.inl ⟨by rfl, ?_⟩) ?_
        rotate_left 1
        ·(intro u hSw; go_simp; try with_reducible rfl)
        try simp only [Act.put, sA, sB, sC]
        refine tk (i := 25) (oi := ⟨some 79, .pick (.tmp 66) (.const (Value.bool true)) (.tmp 78), 4, "same.go:45", #[⟨12, .data⟩, ⟨24, .data⟩], none⟩) (v := ?_) (Or.inl ⟨by rfl, ?_⟩) ?_
        rotate_left 1
        ·(intro u hSw; go_simp; try with_reducible rfl)
        try simp only [Act.put, sA, sB, sC]
        refine wpAnyH_done (by kernel_rfl) ?_ _
        have HG := hid hHeld
        clear hHeld
        cases c
        ·go_wp2_with fail
         go_ret
         exact ⟨false, rfl, at_ne HX.out HY.out (by have f0 := HE.out; rw [Ne, so_eq_iff]; simp at f0; simp [K_kind.out, K_tb.out, K_al.out, K_q.out, f0]), HG.out⟩
        ·go_wp2_with fail
         go_roundw
         case rel => exact ⟨k + 1, by omega, by go_num, HG.out, hid (by
          have e : x = y := by have f0 := HE.out; rw [so_eq_iff]; simp at f0; simp [K_kind.out, K_tb.out, K_al.out, K_q.out, f0]
          rw [List.take_add_one, List.take_add_one, heq.out, HX.out, HY.out, e])⟩
         case measure => simp [intOf]; omega
       ·have K_q := hid k_q
        clear k_q
        refine wp_region_held_drew (S := fun u => Below w.heap.size w u) (by kernel_rfl) (HBW.out.drew) (fun hHeld => ?_)
        refine tk (i := 0) (oi := ⟨some 17, .move (.tmp 0), 24, "same.go:42", #[], none⟩) (v := ?_) (Or.inl ⟨by rfl, ?_⟩) ?_
        rotate_left 1
        ·(intro u hSw; go_simp; try with_reducible rfl)
        try simp only [Act.put, sA, sB, sC]
        refine tk (i := 1) (oi := ⟨some 18, .move (.tmp 5), 3, "same.go:42", #[], none⟩) (v := ?_) (Or.inl ⟨by rfl, ?_⟩) ?_
        rotate_left 1
        ·(intro u hSw; go_simp; try with_reducible rfl)
        try simp only [Act.put, sA, sB, sC]
        refine tk (i := 2) (oi := ⟨some 19, .indexAddr 24 (.tmp 17) (.tmp 18), 0, "same.go:42", #[⟨0, .data⟩, ⟨1, .data⟩], none⟩) (v := ?_) (Or.inl ⟨by rfl, ?_⟩) ?_
        rotate_left 1
        ·(intro u hSw; go_simp; try with_reducible rfl)
        try simp only [Act.put, sA, sB, sC]
        refine tk (i := 3) (oi := ⟨some 20, .fieldAddr 44 (.tmp 19) 0, 0, "same.go:42", #[⟨2, .data⟩], none⟩) (v := ?_) (Or.inl ⟨by rfl, ?_⟩) ?_
        rotate_left 1
        ·(intro u hSw; go_simp; try with_reducible rfl)
        try simp only [Act.put, sA, sB, sC]
        refine tk (i := 4) (oi := ⟨some 21, .load 3 (.tmp 20), 3, "same.go:42", #[⟨3, .data⟩], none⟩) (v := ?_) (Or.inl ⟨by rfl, ?_⟩) ?_
        rotate_left 1
        ·(intro u hSw; have p0 := (hSw.cell (p := ⟨b1, o1 + k * 5, none⟩) hb1).trans P0.out; have q0 := (hSw.cell (p := ⟨b2, o2 + k * 5, none⟩) hb2).trans Q0.out; have p1 := (hSw.cell (p := ⟨b1, o1 + k * 5 + 1, none⟩) hb1).trans P1.out; have q1 := (hSw.cell (p := ⟨b2, o2 + k * 5 + 1, none⟩) hb2).trans Q1.out; have p2 := (hSw.cell (p := ⟨b1, o1 + k * 5 + 2, none⟩) hb1).trans P2.out; have q2 := (hSw.cell (p := ⟨b2, o2 + k * 5 + 2, none⟩) hb2).trans Q2.out; have p3 := (hSw.cell (p := ⟨b1, o1 + k * 5 + 3, none⟩) hb1).trans P3.out; have q3 := (hSw.cell (p := ⟨b2, o2 + k * 5 + 3, none⟩) hb2).trans Q3.out; have p4 := (hSw.cell (p := ⟨b1, o1 + k * 5 + 4, none⟩) hb1).trans P4.out; have q4 := (hSw.cell (p := ⟨b2, o2 + k * 5 + 4, none⟩) hb2).trans Q4.out; go_simp; try with_reducible rfl)
        try simp only [Act.put, sA, sB, sC]
        refine tk (i := 5) (oi := ⟨some 22, .move (.tmp 1), 24, "same.go:42", #[], none⟩) (v := ?_) (Or.inl ⟨by rfl, ?_⟩) ?_
        rotate_left 1
        ·(intro u hSw; go_simp; try with_reducible rfl)
        try simp only [Act.put, sA, sB, sC]
        refine tk (i := 6) (oi := ⟨some 23, .move (.tmp 5), 3, "same.go:42", #[], none⟩) (v := ?_) (Or.inl ⟨by rfl, ?_⟩) ?_
        rotate_left 1
        ·(intro u hSw; go_simp; try with_reducible rfl)
        try simp only [Act.put, sA, sB, sC]
        refine tk (i := 7) (oi := ⟨some 24, .indexAddr 24 (.tmp 22) (.tmp 23), 0, "same.go:42", #[⟨5, .data⟩, ⟨6, .data⟩], none⟩) (v := ?_) (Or.inl ⟨by rfl, ?_⟩) ?_
        rotate_left 1
        ·(intro u hSw; go_simp; try with_reducible rfl)
        try simp only [Act.put, sA, sB, sC]
        refine tk (i := 8) (oi := ⟨some 25, .fieldAddr 44 (.tmp 24) 0, 0, "same.go:42", #[⟨7, .data⟩], none⟩) (v := ?_) (Or.inl ⟨by rfl, ?_⟩) ?_
        rotate_left 1
        ·(intro u hSw; go_simp; try with_reducible rfl)
        try simp only [Act.put, sA, sB, sC]
        refine tk (i := 9) (oi := ⟨some 26, .load 3 (.tmp 25), 3, "same.go:42", #[⟨8, .data⟩], none⟩) (v := ?_) (Or.inl ⟨by rfl, ?_⟩) ?_
        rotate_left 1
        ·(intro u hSw; have p0 := (hSw.cell (p := ⟨b1, o1 + k * 5, none⟩) hb1).trans P0.out; have q0 := (hSw.cell (p := ⟨b2, o2 + k * 5, none⟩) hb2).trans Q0.out; have p1 := (hSw.cell (p := ⟨b1, o1 + k * 5 + 1, none⟩) hb1).trans P1.out; have q1 := (hSw.cell (p := ⟨b2, o2 + k * 5 + 1, none⟩) hb2).trans Q1.out; have p2 := (hSw.cell (p := ⟨b1, o1 + k * 5 + 2, none⟩) hb1).trans P2.out; have q2 := (hSw.cell (p := ⟨b2, o2 + k * 5 + 2, none⟩) hb2).trans Q2.out; have p3 := (hSw.cell (p := ⟨b1, o1 + k * 5 + 3, none⟩) hb1).trans P3.out; have q3 := (hSw.cell (p := ⟨b2, o2 + k * 5 + 3, none⟩) hb2).trans Q3.out; have p4 := (hSw.cell (p := ⟨b1, o1 + k * 5 + 4, none⟩) hb1).trans P4.out; have q4 := (hSw.cell (p := ⟨b2, o2 + k * 5 + 4, none⟩) hb2).trans Q4.out; go_simp; try with_reducible rfl)
        try simp only [Act.put, sA, sB, sC]
        refine tk (i := 10) (oi := ⟨some 27, .binOp BinOp.neq 3 (.tmp 21) (.tmp 26) 3, 4, "same.go:42", #[⟨4, .data⟩, ⟨9, .data⟩], none⟩) (v := .bool false) (Or.inl ⟨by rfl, ?_⟩) ?_
        ·intro u hSw
         go_simp
         try simp [b_kind]
        try simp only [Act.put, sA, sB, sC]
        refine tk (i := 11) (oi := ⟨some 28, .move (.tmp 27), 4, "same.go:42", #[⟨10, .data⟩], none⟩) (v := ?_) (Or.inl ⟨by rfl, ?_⟩) ?_
        rotate_left 1
        ·(intro u hSw; go_simp; try with_reducible rfl)
        try simp only [Act.put, sA, sB, sC]
        refine tk (i := 12) (oi := ⟨some 29, .move (.tmp 0), 24, "same.go:42", #[⟨11, .guard⟩], some (11, false)⟩) (v := ?_) (Or.inl ⟨by rfl, ?_⟩) ?_
        rotate_left 1
        ·(intro u hSw; go_simp; try with_reducible rfl)
        try simp only [Act.put, sA, sB, sC]
        refine tk (i := 13) (oi := ⟨some 30, .move (.tmp 5), 3, "same.go:42", #[⟨11, .guard⟩], some (11, false)⟩) (v := ?_) (Or.inl ⟨by rfl, ?_⟩) ?_
        rotate_left 1
        ·(intro u hSw; go_simp; try with_reducible rfl)
        try simp only [Act.put, sA, sB, sC]
        refine tk (i := 14) (oi := ⟨some 31, .indexAddr 24 (.tmp 29) (.tmp 30), 0, "same.go:42", #[⟨12, .data⟩, ⟨13, .data⟩, ⟨11, .guard⟩], some (11, false)⟩) (v := ?_) (Or.inl ⟨by rfl, ?_⟩) ?_
        rotate_left 1
        ·(intro u hSw; go_simp; try with_reducible rfl)
        try simp only [Act.put, sA, sB, sC]
        refine tk (i := 15) (oi := ⟨some 32, .fieldAddr 44 (.tmp 31) 1, 0, "same.go:42", #[⟨14, .data⟩, ⟨11, .guard⟩], some (11, false)⟩) (v := ?_) (Or.inl ⟨by rfl, ?_⟩) ?_
        rotate_left 1
        ·(intro u hSw; go_simp; try with_reducible rfl)
        try simp only [Act.put, sA, sB, sC]
        refine tk (i := 16) (oi := ⟨some 33, .load 9 (.tmp 32), 9, "same.go:42", #[⟨15, .data⟩, ⟨11, .guard⟩], some (11, false)⟩) (v := ?_) (Or.inl ⟨by rfl, ?_⟩) ?_
        rotate_left 1
        ·(intro u hSw; have p0 := (hSw.cell (p := ⟨b1, o1 + k * 5, none⟩) hb1).trans P0.out; have q0 := (hSw.cell (p := ⟨b2, o2 + k * 5, none⟩) hb2).trans Q0.out; have p1 := (hSw.cell (p := ⟨b1, o1 + k * 5 + 1, none⟩) hb1).trans P1.out; have q1 := (hSw.cell (p := ⟨b2, o2 + k * 5 + 1, none⟩) hb2).trans Q1.out; have p2 := (hSw.cell (p := ⟨b1, o1 + k * 5 + 2, none⟩) hb1).trans P2.out; have q2 := (hSw.cell (p := ⟨b2, o2 + k * 5 + 2, none⟩) hb2).trans Q2.out; have p3 := (hSw.cell (p := ⟨b1, o1 + k * 5 + 3, none⟩) hb1).trans P3.out; have q3 := (hSw.cell (p := ⟨b2, o2 + k * 5 + 3, none⟩) hb2).trans Q3.out; have p4 := (hSw.cell (p := ⟨b1, o1 + k * 5 + 4, none⟩) hb1).trans P4.out; have q4 := (hSw.cell (p := ⟨b2, o2 + k * 5 + 4, none⟩) hb2).trans Q4.out; go_simp; try with_reducible rfl)
        try simp only [Act.put, sA, sB, sC]
        refine tk (i := 17) (oi := ⟨some 34, .move (.tmp 1), 24, "same.go:42", #[⟨11, .guard⟩], some (11, false)⟩) (v := ?_) (Or.inl ⟨by rfl, ?_⟩) ?_
        rotate_left 1
        ·(intro u hSw; go_simp; try with_reducible rfl)
        try simp only [Act.put, sA, sB, sC]
        refine tk (i := 18) (oi := ⟨some 35, .move (.tmp 5), 3, "same.go:42", #[⟨11, .guard⟩], some (11, false)⟩) (v := ?_) (Or.inl ⟨by rfl, ?_⟩) ?_
        rotate_left 1
        ·(intro u hSw; go_simp; try with_reducible rfl)
        try simp only [Act.put, sA, sB, sC]
        refine tk (i := 19) (oi := ⟨some 36, .indexAddr 24 (.tmp 34) (.tmp 35), 0, "same.go:42", #[⟨17, .data⟩, ⟨18, .data⟩, ⟨11, .guard⟩], some (11, false)⟩) (v := ?_) (Or.inl ⟨by rfl, ?_⟩) ?_
        rotate_left 1
        ·(intro u hSw; go_simp; try with_reducible rfl)
        try simp only [Act.put, sA, sB, sC]
        refine tk (i := 20) (oi := ⟨some 37, .fieldAddr 44 (.tmp 36) 1, 0, "same.go:42", #[⟨19, .data⟩, ⟨11, .guard⟩], some (11, false)⟩) (v := ?_) (Or.inl ⟨by rfl, ?_⟩) ?_
        rotate_left 1
        ·(intro u hSw; go_simp; try with_reducible rfl)
        try simp only [Act.put, sA, sB, sC]
        refine tk (i := 21) (oi := ⟨some 38, .load 9 (.tmp 37), 9, "same.go:42", #[⟨20, .data⟩, ⟨11, .guard⟩], some (11, false)⟩) (v := ?_) (Or.inl ⟨by rfl, ?_⟩) ?_
        rotate_left 1
        ·(intro u hSw; have p0 := (hSw.cell (p := ⟨b1, o1 + k * 5, none⟩) hb1).trans P0.out; have q0 := (hSw.cell (p := ⟨b2, o2 + k * 5, none⟩) hb2).trans Q0.out; have p1 := (hSw.cell (p := ⟨b1, o1 + k * 5 + 1, none⟩) hb1).trans P1.out; have q1 := (hSw.cell (p := ⟨b2, o2 + k * 5 + 1, none⟩) hb2).trans Q1.out; have p2 := (hSw.cell (p := ⟨b1, o1 + k * 5 + 2, none⟩) hb1).trans P2.out; have q2 := (hSw.cell (p := ⟨b2, o2 + k * 5 + 2, none⟩) hb2).trans Q2.out; have p3 := (hSw.cell (p := ⟨b1, o1 + k * 5 + 3, none⟩) hb1).trans P3.out; have q3 := (hSw.cell (p := ⟨b2, o2 + k * 5 + 3, none⟩) hb2).trans Q3.out; have p4 := (hSw.cell (p := ⟨b1, o1 + k * 5 + 4, none⟩) hb1).trans P4.out; have q4 := (hSw.cell (p := ⟨b2, o2 + k * 5 + 4, none⟩) hb2).trans Q4.out; go_simp; try with_reducible rfl)
        try simp only [Act.put, sA, sB, sC]
        refine tk (i := 22) (oi := ⟨some 39, .binOp BinOp.neq 9 (.tmp 33) (.tmp 38) 9, 4, "same.go:42", #[⟨16, .data⟩, ⟨21, .data⟩, ⟨11, .guard⟩], some (11, false)⟩) (v := .bool false) (Or.inl ⟨by rfl, ?_⟩) ?_
        ·intro u hSw
         go_simp
         try simp [b_tb]
        try simp only [Act.put, sA, sB, sC]
        refine tk (i := 23) (oi := ⟨some 40, .pick (.tmp 28) (.const (Value.bool true)) (.tmp 39), 4, "same.go:42", #[⟨11, .data⟩, ⟨22, .data⟩], none⟩) (v := ?_) (Or.inl ⟨by rfl, ?_⟩) ?_
        rotate_left 1
        ·(intro u hSw; go_simp; try with_reducible rfl)
        try simp only [Act.put, sA, sB, sC]
        refine tk (i := 24) (oi := ⟨some 41, .move (.tmp 40), 4, "same.go:42", #[⟨23, .data⟩, ⟨11, .chain⟩], none⟩) (v := ?_) (Or.inl ⟨by rfl, ?_⟩) ?_
        rotate_left 1
        ·(intro u hSw; go_simp; try with_reducible rfl)
        try simp only [Act.put, sA, sB, sC]
        refine tk (i := 25) (oi := ⟨some 42, .move (.tmp 0), 24, "same.go:42", #[⟨24, .guard⟩], some (24, false)⟩) (v := ?_) (Or.inl ⟨by rfl, ?_⟩) ?_
        rotate_left 1
        ·(intro u hSw; go_simp; try with_reducible rfl)
        try simp only [Act.put, sA, sB, sC]
        refine tk (i := 26) (oi := ⟨some 43, .move (.tmp 5), 3, "same.go:42", #[⟨24, .guard⟩], some (24, false)⟩) (v := ?_) (Or.inl ⟨by rfl, ?_⟩) ?_
        rotate_left 1
        ·(intro u hSw; go_simp; try with_reducible rfl)
        try simp only [Act.put, sA, sB, sC]
        refine tk (i := 27) (oi := ⟨some 44, .indexAddr 24 (.tmp 42) (.tmp 43), 0, "same.go:42", #[⟨25, .data⟩, ⟨26, .data⟩, ⟨24, .guard⟩], some (24, false)⟩) (v := ?_) (Or.inl ⟨by rfl, ?_⟩) ?_
        rotate_left 1
        ·(intro u hSw; go_simp; try with_reducible rfl)
        try simp only [Act.put, sA, sB, sC]
        refine tk (i := 28) (oi := ⟨some 45, .fieldAddr 44 (.tmp 44) 3, 0, "same.go:42", #[⟨27, .data⟩, ⟨24, .guard⟩], some (24, false)⟩) (v := ?_) (Or.inl ⟨by rfl, ?_⟩) ?_
        rotate_left 1
        ·(intro u hSw; go_simp; try with_reducible rfl)
        try simp only [Act.put, sA, sB, sC]
        refine tk (i := 29) (oi := ⟨some 46, .load 9 (.tmp 45), 9, "same.go:42", #[⟨28, .data⟩, ⟨24, .guard⟩], some (24, false)⟩) (v := ?_) (Or.inl ⟨by rfl, ?_⟩) ?_
        rotate_left 1
        ·(intro u hSw; have p0 := (hSw.cell (p := ⟨b1, o1 + k * 5, none⟩) hb1).trans P0.out; have q0 := (hSw.cell (p := ⟨b2, o2 + k * 5, none⟩) hb2).trans Q0.out; have p1 := (hSw.cell (p := ⟨b1, o1 + k * 5 + 1, none⟩) hb1).trans P1.out; have q1 := (hSw.cell (p := ⟨b2, o2 + k * 5 + 1, none⟩) hb2).trans Q1.out; have p2 := (hSw.cell (p := ⟨b1, o1 + k * 5 + 2, none⟩) hb1).trans P2.out; have q2 := (hSw.cell (p := ⟨b2, o2 + k * 5 + 2, none⟩) hb2).trans Q2.out; have p3 := (hSw.cell (p := ⟨b1, o1 + k * 5 + 3, none⟩) hb1).trans P3.out; have q3 := (hSw.cell (p := ⟨b2, o2 + k * 5 + 3, none⟩) hb2).trans Q3.out; have p4 := (hSw.cell (p := ⟨b1, o1 + k * 5 + 4, none⟩) hb1).trans P4.out; have q4 := (hSw.cell (p := ⟨b2, o2 + k * 5 + 4, none⟩) hb2).trans Q4.out; go_simp; try with_reducible rfl)
        try simp only [Act.put, sA, sB, sC]
        refine tk (i := 30) (oi := ⟨some 47, .move (.tmp 1), 24, "same.go:42", #[⟨24, .guard⟩], some (24, false)⟩) (v := ?_) (Or.inl ⟨by rfl, ?_⟩) ?_
        rotate_left 1
        ·(intro u hSw; go_simp; try with_reducible rfl)
        try simp only [Act.put, sA, sB, sC]
        refine tk (i := 31) (oi := ⟨some 48, .move (.tmp 5), 3, "same.go:42", #[⟨24, .guard⟩], some (24, false)⟩) (v := ?_) (Or.inl ⟨by rfl, ?_⟩) ?_
        rotate_left 1
        ·(intro u hSw; go_simp; try with_reducible rfl)
        try simp only [Act.put, sA, sB, sC]
        refine tk (i := 32) (oi := ⟨some 49, .indexAddr 24 (.tmp 47) (.tmp 48), 0, "same.go:42", #[⟨30, .data⟩, ⟨31, .data⟩, ⟨24, .guard⟩], some (24, false)⟩) (v := ?_) (Or.inl ⟨by rfl, ?_⟩) ?_
        rotate_left 1
        ·(intro u hSw; go_simp; try with_reducible rfl)
        try simp only [Act.put, sA, sB, sC]
        refine tk (i := 33) (oi := ⟨some 50, .fieldAddr 44 (.tmp 49) 3, 0, "same.go:42", #[⟨32, .data⟩, ⟨24, .guard⟩], some (24, false)⟩) (v := ?_) (Or.inl ⟨by rfl, ?_⟩) ?_
        rotate_left 1
        ·(intro u hSw; go_simp; try with_reducible rfl)
        try simp only [Act.put, sA, sB, sC]
        refine tk (i := 34) (oi := ⟨some 51, .load 9 (.tmp 50), 9, "same.go:42", #[⟨33, .data⟩, ⟨24, .guard⟩], some (24, false)⟩) (v := ?_) (Or.inl ⟨by rfl, ?_⟩) ?_
        rotate_left 1
        ·(intro u hSw; have p0 := (hSw.cell (p := ⟨b1, o1 + k * 5, none⟩) hb1).trans P0.out; have q0 := (hSw.cell (p := ⟨b2, o2 + k * 5, none⟩) hb2).trans Q0.out; have p1 := (hSw.cell (p := ⟨b1, o1 + k * 5 + 1, none⟩) hb1).trans P1.out; have q1 := (hSw.cell (p := ⟨b2, o2 + k * 5 + 1, none⟩) hb2).trans Q1.out; have p2 := (hSw.cell (p := ⟨b1, o1 + k * 5 + 2, none⟩) hb1).trans P2.out; have q2 := (hSw.cell (p := ⟨b2, o2 + k * 5 + 2, none⟩) hb2).trans Q2.out; have p3 := (hSw.cell (p := ⟨b1, o1 + k * 5 + 3, none⟩) hb1).trans P3.out; have q3 := (hSw.cell (p := ⟨b2, o2 + k * 5 + 3, none⟩) hb2).trans Q3.out; have p4 := (hSw.cell (p := ⟨b1, o1 + k * 5 + 4, none⟩) hb1).trans P4.out; have q4 := (hSw.cell (p := ⟨b2, o2 + k * 5 + 4, none⟩) hb2).trans Q4.out; go_simp; try with_reducible rfl)
        try simp only [Act.put, sA, sB, sC]
        refine tk (i := 35) (oi := ⟨some 52, .binOp BinOp.neq 9 (.tmp 46) (.tmp 51) 9, 4, "same.go:42", #[⟨29, .data⟩, ⟨34, .data⟩, ⟨24, .guard⟩], some (24, false)⟩) (v := .bool false) (Or.inl ⟨by rfl, ?_⟩) ?_
        ·intro u hSw
         go_simp
         try simp [b_al]
        try simp only [Act.put, sA, sB, sC]
        refine tk (i := 36) (oi := ⟨some 53, .pick (.tmp 41) (.const (Value.bool true)) (.tmp 52), 4, "same.go:42", #[⟨24, .data⟩, ⟨35, .data⟩], none⟩) (v := ?_) (Or.inl ⟨by rfl, ?_⟩) ?_
        rotate_left 1
        ·(intro u hSw; go_simp; try with_reducible rfl)
        try simp only [Act.put, sA, sB, sC]
        refine wpAnyH_done (by kernel_rfl) ?_ _
        have HH := hid hHeld
        clear hHeld
        go_wp2_with fail
        refine wp_region_held_drew (S := fun u => Below w.heap.size w u) (by kernel_rfl) (HH.out.drew) (fun hHeld => ?_)
        refine tk (i := 0) (oi := ⟨some 54, .move (.tmp 0), 24, "same.go:45", #[], none⟩) (v := ?_) (Or.inl ⟨by rfl, ?_⟩) ?_
        rotate_left 1
        ·(intro u hSw; go_simp; try with_reducible rfl)
        try simp only [Act.put, sA, sB, sC]
        refine tk (i := 1) (oi := ⟨some 55, .move (.tmp 5), 3, "same.go:45", #[], none⟩) (v := ?_) (Or.inl ⟨by rfl, ?_⟩) ?_
        rotate_left 1
        ·(intro u hSw; go_simp; try with_reducible rfl)
        try simp only [Act.put, sA, sB, sC]
        refine tk (i := 2) (oi := ⟨some 56, .indexAddr 24 (.tmp 54) (.tmp 55), 0, "same.go:45", #[⟨0, .data⟩, ⟨1, .data⟩], none⟩) (v := ?_) (Or.inl ⟨by rfl, ?_⟩) ?_
        rotate_left 1
        ·(intro u hSw; go_simp; try with_reducible rfl)
        try simp only [Act.put, sA, sB, sC]
        refine tk (i := 3) (oi := ⟨some 57, .fieldAddr 44 (.tmp 56) 2, 0, "same.go:45", #[⟨2, .data⟩], none⟩) (v := ?_) (Or.inl ⟨by rfl, ?_⟩) ?_
        rotate_left 1
        ·(intro u hSw; go_simp; try with_reducible rfl)
        try simp only [Act.put, sA, sB, sC]
        refine tk (i := 4) (oi := ⟨some 58, .load 22 (.tmp 57), 22, "same.go:45", #[⟨3, .data⟩], none⟩) (v := ?_) (Or.inl ⟨by rfl, ?_⟩) ?_
        rotate_left 1
        ·(intro u hSw; have p0 := (hSw.cell (p := ⟨b1, o1 + k * 5, none⟩) hb1).trans P0.out; have q0 := (hSw.cell (p := ⟨b2, o2 + k * 5, none⟩) hb2).trans Q0.out; have p1 := (hSw.cell (p := ⟨b1, o1 + k * 5 + 1, none⟩) hb1).trans P1.out; have q1 := (hSw.cell (p := ⟨b2, o2 + k * 5 + 1, none⟩) hb2).trans Q1.out; have p2 := (hSw.cell (p := ⟨b1, o1 + k * 5 + 2, none⟩) hb1).trans P2.out; have q2 := (hSw.cell (p := ⟨b2, o2 + k * 5 + 2, none⟩) hb2).trans Q2.out; have p3 := (hSw.cell (p := ⟨b1, o1 + k * 5 + 3, none⟩) hb1).trans P3.out; have q3 := (hSw.cell (p := ⟨b2, o2 + k * 5 + 3, none⟩) hb2).trans Q3.out; have p4 := (hSw.cell (p := ⟨b1, o1 + k * 5 + 4, none⟩) hb1).trans P4.out; have q4 := (hSw.cell (p := ⟨b2, o2 + k * 5 + 4, none⟩) hb2).trans Q4.out; go_simp; try with_reducible rfl)
        try simp only [Act.put, sA, sB, sC]
        refine tk (i := 5) (oi := ⟨some 59, .move (.tmp 1), 24, "same.go:45", #[], none⟩) (v := ?_) (Or.inl ⟨by rfl, ?_⟩) ?_
        rotate_left 1
        ·(intro u hSw; go_simp; try with_reducible rfl)
        try simp only [Act.put, sA, sB, sC]
        refine tk (i := 6) (oi := ⟨some 60, .move (.tmp 5), 3, "same.go:45", #[], none⟩) (v := ?_) (Or.inl ⟨by rfl, ?_⟩) ?_
        rotate_left 1
        ·(intro u hSw; go_simp; try with_reducible rfl)
        try simp only [Act.put, sA, sB, sC]
        refine tk (i := 7) (oi := ⟨some 61, .indexAddr 24 (.tmp 59) (.tmp 60), 0, "same.go:45", #[⟨5, .data⟩, ⟨6, .data⟩], none⟩) (v := ?_) (Or.inl ⟨by rfl, ?_⟩) ?_
        rotate_left 1
        ·(intro u hSw; go_simp; try with_reducible rfl)
        try simp only [Act.put, sA, sB, sC]
        refine tk (i := 8) (oi := ⟨some 62, .fieldAddr 44 (.tmp 61) 2, 0, "same.go:45", #[⟨7, .data⟩], none⟩) (v := ?_) (Or.inl ⟨by rfl, ?_⟩) ?_
        rotate_left 1
        ·(intro u hSw; go_simp; try with_reducible rfl)
        try simp only [Act.put, sA, sB, sC]
        refine tk (i := 9) (oi := ⟨some 63, .load 22 (.tmp 62), 22, "same.go:45", #[⟨8, .data⟩], none⟩) (v := ?_) (Or.inl ⟨by rfl, ?_⟩) ?_
        rotate_left 1
        ·(intro u hSw; have p0 := (hSw.cell (p := ⟨b1, o1 + k * 5, none⟩) hb1).trans P0.out; have q0 := (hSw.cell (p := ⟨b2, o2 + k * 5, none⟩) hb2).trans Q0.out; have p1 := (hSw.cell (p := ⟨b1, o1 + k * 5 + 1, none⟩) hb1).trans P1.out; have q1 := (hSw.cell (p := ⟨b2, o2 + k * 5 + 1, none⟩) hb2).trans Q1.out; have p2 := (hSw.cell (p := ⟨b1, o1 + k * 5 + 2, none⟩) hb1).trans P2.out; have q2 := (hSw.cell (p := ⟨b2, o2 + k * 5 + 2, none⟩) hb2).trans Q2.out; have p3 := (hSw.cell (p := ⟨b1, o1 + k * 5 + 3, none⟩) hb1).trans P3.out; have q3 := (hSw.cell (p := ⟨b2, o2 + k * 5 + 3, none⟩) hb2).trans Q3.out; have p4 := (hSw.cell (p := ⟨b1, o1 + k * 5 + 4, none⟩) hb1).trans P4.out; have q4 := (hSw.cell (p := ⟨b2, o2 + k * 5 + 4, none⟩) hb2).trans Q4.out; go_simp; try with_reducible rfl)
        try simp only [Act.put, sA, sB, sC]
        refine wpAnyH_ready (rs := [10]) (by kernel_rfl) (by simp) ?_
        refine AllReadyH.cons (o := ⟨some 64, .call ⟨.value (.func 17), #[.tmp 58, .tmp 63], #[22, 22]⟩, 4, "same.go:45", #[⟨4, .data⟩, ⟨9, .data⟩], none⟩) rfl (fun K hK => ?_) AllReadyH.nil
        go_simp
        go_at_call 17
        refine (HCQ.out _ hHeld).mono ?_
        rintro e w' ⟨c, rfl, hc, hb⟩
        obtain rfl : c = false := Bool.eq_false_iff.2 (fun h => K_q.out (hc.1 h))
        clear hc
        go_wp2_with fail
        refine hK.out _ _ (hHeld.trans (hb.mono hHeld.size)) (fun hHeld => ?_)
        clear hK K
        try simp only [Act.put, sA, sB, sC]
        refine tk (i := 11) (oi := ⟨some 65, .unOp UnOp.not 4 (.tmp 64), 4, "same.go:45", #[⟨10, .data⟩], none⟩) (v := ?_) (Or.inl ⟨by rfl, ?_⟩) ?_
        rotate_left 1
        ·(intro u hSw; go_simp; try with_reducible rfl)
        try simp only [Act.put, sA, sB, sC]
        refine tk (i := 12) (oi := ⟨some 66, .move (.tmp 65), 4, "same.go:45", #[⟨11, .data⟩, ⟨10, .chain⟩], none⟩) (v := ?_) (Or.inl ⟨by rfl, ?_⟩) ?_
        rotate_left 1
        ·(intro u hSw; go_simp; try with_reducible rfl)
        try simp only [Act.put, sA, sB, sC]
        refine tk (i := 13) (oi := ⟨some 67, .move (.tmp 0), 24, "same.go:45", #[⟨12, .guard⟩], some (12, false)⟩) (v := undef) (by exact .inr ⟨by rfl, rfl⟩) ?_
        try simp only [Act.put, sA, sB, sC]
        refine tk (i := 14) (oi := ⟨some 68, .move (.tmp 5), 3, "same.go:45", #[⟨12, .guard⟩], some (12, false)⟩) (v := undef) (by exact .inr ⟨by rfl, rfl⟩) ?_
        try simp only [Act.put, sA, sB, sC]
        refine tk (i := 15) (oi := ⟨some 69, .indexAddr 24 (.tmp 67) (.tmp 68), 0, "same.go:45", #[⟨13, .data⟩, ⟨14, .data⟩, ⟨12, .guard⟩], some (12, false)⟩) (v := undef) (by exact .inr ⟨by rfl, rfl⟩) ?_
        try simp only [Act.put, sA, sB, sC]
        refine tk (i := 16) (oi := ⟨some 70, .fieldAddr 44 (.tmp 69) 4, 0, "same.go:45", #[⟨15, .data⟩, ⟨12, .guard⟩], some (12, false)⟩) (v := undef) (by exact .inr ⟨by rfl, rfl⟩) ?_
        try simp only [Act.put, sA, sB, sC]
        refine tk (i := 17) (oi := ⟨some 71, .load 25 (.tmp 70), 25, "same.go:45", #[⟨16, .data⟩, ⟨12, .guard⟩], some (12, false)⟩) (v := undef) (by exact .inr ⟨by rfl, rfl⟩) ?_
        try simp only [Act.put, sA, sB, sC]
        refine tk (i := 18) (oi := ⟨some 72, .move (.tmp 1), 24, "same.go:45", #[⟨12, .guard⟩], some (12, false)⟩) (v := undef) (by exact .inr ⟨by rfl, rfl⟩) ?_
        try simp only [Act.put, sA, sB, sC]
        refine tk (i := 19) (oi := ⟨some 73, .move (.tmp 5), 3, "same.go:45", #[⟨12, .guard⟩], some (12, false)⟩) (v := undef) (by exact .inr ⟨by rfl, rfl⟩) ?_
        try simp only [Act.put, sA, sB, sC]
        refine tk (i := 20) (oi := ⟨some 74, .indexAddr 24 (.tmp 72) (.tmp 73), 0, "same.go:45", #[⟨18, .data⟩, ⟨19, .data⟩, ⟨12, .guard⟩], some (12, false)⟩) (v := undef) (by exact .inr ⟨by rfl, rfl⟩) ?_
        try simp only [Act.put, sA, sB, sC]
        refine tk (i := 21) (oi := ⟨some 75, .fieldAddr 44 (.tmp 74) 4, 0, "same.go:45", #[⟨20, .data⟩, ⟨12, .guard⟩], some (12, false)⟩) (v := undef) (by exact .inr ⟨by rfl, rfl⟩) ?_
        try simp only [Act.put, sA, sB, sC]
        refine tk (i := 22) (oi := ⟨some 76, .load 25 (.tmp 75), 25, "same.go:45", #[⟨21, .data⟩, ⟨12, .guard⟩], some (12, false)⟩) (v := undef) (by exact .inr ⟨by rfl, rfl⟩) ?_
        try simp only [Act.put, sA, sB, sC]
        refine tk (i := 23) (oi := ⟨some 77, .call ⟨.value (.func 16), #[.tmp 71, .tmp 76], #[25, 25]⟩, 4, "same.go:45", #[⟨17, .data⟩, ⟨22, .data⟩, ⟨12, .chain⟩, ⟨12, .guard⟩], some (12, false)⟩) (v := undef) (by exact .inr ⟨by rfl, rfl⟩) ?_
        try simp only [Act.put, sA, sB, sC]
        refine tk (i := 24) (oi := ⟨some 78, .unOp UnOp.not 4 (.tmp 77), 4, "same.go:45", #[⟨23, .data⟩, ⟨12, .guard⟩], some (12, false)⟩) (v := undef) (by exact .inr ⟨by rfl, rfl⟩) ?_
        try simp only [Act.put, sA, sB, sC]
        refine tk (i := 25) (oi := ⟨some 79, .pick (.tmp 66) (.const (Value.bool true)) (.tmp 78), 4, "same.go:45", #[⟨12, .data⟩, ⟨24, .data⟩], none⟩) (v := ?_) (Or.inl ⟨by rfl, ?_⟩) ?_
        rotate_left 1
        ·(intro u hSw; go_simp; try with_reducible rfl)
        try simp only [Act.put, sA, sB, sC]
        refine wpAnyH_done (by kernel_rfl) ?_ _
        have HG := hid hHeld
        clear hHeld
        go_wp2_with fail
        go_ret
        exact ⟨false, rfl, at_ne HX.out HY.out (by rw [Ne, so_eq_iff]; simp [K_q.out]), HG.out⟩
      ·have b_al : ¬ (str x.al).toList = (str y.al).toList := beq_eq_false_iff_ne.1 (HRal.out.trans (decide_eq_false k_al))
       have K_al := hid k_al
       clear k_al
       refine wp_region_held_drew (S := fun u => Below w.heap.size w u) (by kernel_rfl) (HBW.out.drew) (fun hHeld => ?_)
       refine tk (i := 0) (oi := ⟨some 17, .move (.tmp 0), 24, "same.go:42", #[], none⟩) (v := ?_) (Or.inl ⟨by rfl, ?_⟩) ?_
       rotate_left 1
       ·(intro u hSw; go_simp; try with_reducible rfl)
       try simp only [Act.put, sA, sB, sC]
       refine tk (i := 1) (oi := ⟨some 18, .move (.tmp 5), 3, "same.go:42", #[], none⟩) (v := ?_) (Or.inl ⟨by rfl, ?_⟩) ?_
       rotate_left 1
       ·(intro u hSw; go_simp; try with_reducible rfl)
       try simp only [Act.put, sA, sB, sC]
       refine tk (i := 2) (oi := ⟨some 19, .indexAddr 24 (.tmp 17) (.tmp 18), 0, "same.go:42", #[⟨0, .data⟩, ⟨1, .data⟩], none⟩) (v := ?_) (Or.inl ⟨by rfl, ?_⟩) ?_
       rotate_left 1
       ·(intro u hSw; go_simp; try with_reducible rfl)
       try simp only [Act.put, sA, sB, sC]
       refine tk (i := 3) (oi := ⟨some 20, .fieldAddr 44 (.tmp 19) 0, 0, "same.go:42", #[⟨2, .data⟩], none⟩) (v := ?_) (Or.inl ⟨by rfl, ?_⟩) ?_
       rotate_left 1
       ·(intro u hSw; go_simp; try with_reducible rfl)
       try simp only [Act.put, sA, sB, sC]
       refine tk (i := 4) (oi := ⟨some 21, .load 3 (.tmp 20), 3, "same.go:42", #[⟨3, .data⟩], none⟩) (v := ?_) (Or.inl ⟨by rfl, ?_⟩) ?_
       rotate_left 1
       ·(intro u hSw; have p0 := (hSw.cell (p := ⟨b1, o1 + k * 5, none⟩) hb1).trans P0.out; have q0 := (hSw.cell (p := ⟨b2, o2 + k * 5, none⟩) hb2).trans Q0.out; have p1 := (hSw.cell (p := ⟨b1, o1 + k * 5 + 1, none⟩) hb1).trans P1.out; have q1 := (hSw.cell (p := ⟨b2, o2 + k * 5 + 1, none⟩) hb2).trans Q1.out; have p2 := (hSw.cell (p := ⟨b1, o1 + k * 5 + 2, none⟩) hb1).trans P2.out; have q2 := (hSw.cell (p := ⟨b2, o2 + k * 5 + 2, none⟩) hb2).trans Q2.out; have p3 := (hSw.cell (p := ⟨b1, o1 + k * 5 + 3, none⟩) hb1).trans P3.out; have q3 := (hSw.cell (p := ⟨b2, o2 + k * 5 + 3, none⟩) hb2).trans Q3.out; have p4 := (hSw.cell (p := ⟨b1, o1 + k * 5 + 4, none⟩) hb1).trans P4.out; have q4 := (hSw.cell (p := ⟨b2, o2 + k * 5 + 4, none⟩) hb2).trans Q4.out; go_simp; try with_reducible rfl)
       try simp only [Act.put, sA, sB, sC]
       refine tk (i := 5) (oi := ⟨some 22, .move (.tmp 1), 24, "same.go:42", #[], none⟩) (v := ?_) (Or.inl ⟨by rfl, ?_⟩) ?_
       rotate_left 1
       ·(intro u hSw; go_simp; try with_reducible rfl)
       try simp only [Act.put, sA, sB, sC]
       refine tk (i := 6) (oi := ⟨some 23, .move (.tmp 5), 3, "same.go:42", #[], none⟩) (v := ?_) (Or.inl ⟨by rfl, ?_⟩) ?_
       rotate_left 1
       ·(intro u hSw; go_simp; try with_reducible rfl)
       try simp only [Act.put, sA, sB, sC]
       refine tk (i := 7) (oi := ⟨some 24, .indexAddr 24 (.tmp 22) (.tmp 23), 0, "same.go:42", #[⟨5, .data⟩, ⟨6, .data⟩], none⟩) (v := ?_) (Or.inl ⟨by rfl, ?_⟩) ?_
       rotate_left 1
       ·(intro u hSw; go_simp; try with_reducible rfl)
       try simp only [Act.put, sA, sB, sC]
       refine tk (i := 8) (oi := ⟨some 25, .fieldAddr 44 (.tmp 24) 0, 0, "same.go:42", #[⟨7, .data⟩], none⟩) (v := ?_) (Or.inl ⟨by rfl, ?_⟩) ?_
       rotate_left 1
       ·(intro u hSw; go_simp; try with_reducible rfl)
       try simp only [Act.put, sA, sB, sC]
       refine tk (i := 9) (oi := ⟨some 26, .load 3 (.tmp 25), 3, "same.go:42", #[⟨8, .data⟩], none⟩) (v := ?_) (Or.inl ⟨by rfl, ?_⟩) ?_
       rotate_left 1
       ·(intro u hSw; have p0 := (hSw.cell (p := ⟨b1, o1 + k * 5, none⟩) hb1).trans P0.out; have q0 := (hSw.cell (p := ⟨b2, o2 + k * 5, none⟩) hb2).trans Q0.out; have p1 := (hSw.cell (p := ⟨b1, o1 + k * 5 + 1, none⟩) hb1).trans P1.out; have q1 := (hSw.cell (p := ⟨b2, o2 + k * 5 + 1, none⟩) hb2).trans Q1.out; have p2 := (hSw.cell (p := ⟨b1, o1 + k * 5 + 2, none⟩) hb1).trans P2.out; have q2 := (hSw.cell (p := ⟨b2, o2 + k * 5 + 2, none⟩) hb2).trans Q2.out; have p3 := (hSw.cell (p := ⟨b1, o1 + k * 5 + 3, none⟩) hb1).trans P3.out; have q3 := (hSw.cell (p := ⟨b2, o2 + k * 5 + 3, none⟩) hb2).trans Q3.out; have p4 := (hSw.cell (p := ⟨b1, o1 + k * 5 + 4, none⟩) hb1).trans P4.out; have q4 := (hSw.cell (p := ⟨b2, o2 + k * 5 + 4, none⟩) hb2).trans Q4.out; go_simp; try with_reducible rfl)
       try simp only [Act.put, sA, sB, sC]
       refine tk (i := 10) (oi := ⟨some 27, .binOp BinOp.neq 3 (.tmp 21) (.tmp 26) 3, 4, "same.go:42", #[⟨4, .data⟩, ⟨9, .data⟩], none⟩) (v := .bool false) (Or.inl ⟨by rfl, ?_⟩) ?_
       ·intro u hSw
        go_simp
        try simp [b_kind]
       try simp only [Act.put, sA, sB, sC]
       refine tk (i := 11) (oi := ⟨some 28, .move (.tmp 27), 4, "same.go:42", #[⟨10, .data⟩], none⟩) (v := ?_) (Or.inl ⟨by rfl, ?_⟩) ?_
       rotate_left 1
       ·(intro u hSw; go_simp; try with_reducible rfl)
       try simp only [Act.put, sA, sB, sC]
       refine tk (i := 12) (oi := ⟨some 29, .move (.tmp 0), 24, "same.go:42", #[⟨11, .guard⟩], some (11, false)⟩) (v := ?_) (Or.inl ⟨by rfl, ?_⟩) ?_
       rotate_left 1
       ·(intro u hSw; go_simp; try with_reducible rfl)
       try simp only [Act.put, sA, sB, sC]
       refine tk (i := 13) (oi := ⟨some 30, .move (.tmp 5), 3, "same.go:42", #[⟨11, .guard⟩], some (11, false)⟩) (v := ?_) (Or.inl ⟨by rfl, ?_⟩) ?_
       rotate_left 1
       ·(intro u hSw; go_simp; try with_reducible rfl)
       try simp only [Act.put, sA, sB, sC]
       refine tk (i := 14) (oi := ⟨some 31, .indexAddr 24 (.tmp 29) (.tmp 30), 0, "same.go:42", #[⟨12, .data⟩, ⟨13, .data⟩, ⟨11, .guard⟩], some (11, false)⟩) (v := ?_) (Or.inl ⟨by rfl, ?_⟩) ?_
       rotate_left 1
       ·(intro u hSw; go_simp; try with_reducible rfl)
       try simp only [Act.put, sA, sB, sC]
       refine tk (i := 15) (oi := ⟨some 32, .fieldAddr 44 (.tmp 31) 1, 0, "same.go:42", #[⟨14, .data⟩, ⟨11, .guard⟩], some (11, false)⟩) (v := ?_) (Or.inl ⟨by rfl, ?_⟩) ?_
       rotate_left 1
       ·(intro u hSw; go_simp; try with_reducible rfl)
       try simp only [Act.put, sA, sB, sC]
       refine tk (i := 16) (oi := ⟨some 33, .load 9 (.tmp 32), 9, "same.go:42", #[⟨15, .data⟩, ⟨11, .guard⟩], some (11, false)⟩) (v := ?_) (Or.inl ⟨by rfl, ?_⟩) ?_
       rotate_left 1
       ·(intro u hSw; have p0 := (hSw.cell (p := ⟨b1, o1 + k * 5, none⟩) hb1).trans P0.out; have q0 := (hSw.cell (p := ⟨b2, o2 + k * 5, none⟩) hb2).trans Q0.out; have p1 := (hSw.cell (p := ⟨b1, o1 + k * 5 + 1, none⟩) hb1).trans P1.out; have q1 := (hSw.cell (p := ⟨b2, o2 + k * 5 + 1, none⟩) hb2).trans Q1.out; have p2 := (hSw.cell (p := ⟨b1, o1 + k * 5 + 2, none⟩) hb1).trans P2.out; have q2 := (hSw.cell (p := ⟨b2, o2 + k * 5 + 2, none⟩) hb2).trans Q2.out; have p3 := (hSw.cell (p := ⟨b1, o1 + k * 5 + 3, none⟩) hb1).trans P3.out; have q3 := (hSw.cell (p := ⟨b2, o2 + k * 5 + 3, none⟩) hb2).trans Q3.out; have p4 := (hSw.cell (p := ⟨b1, o1 + k * 5 + 4, none⟩) hb1).trans P4.out; have q4 := (hSw.cell (p := ⟨b2, o2 + k * 5 + 4, none⟩) hb2).trans Q4.out; go_simp; try with_reducible rfl)
       try simp only [Act.put, sA, sB, sC]
       refine tk (i := 17) (oi := ⟨some 34, .move (.tmp 1), 24, "same.go:42", #[⟨11, .guard⟩], some (11, false)⟩) (v := ?_) (Or.inl ⟨by rfl, ?_⟩) ?_
       rotate_left 1
       ·(intro u hSw; go_simp; try with_reducible rfl)
       try simp only [Act.put, sA, sB, sC]
       refine tk (i := 18) (oi := ⟨some 35, .move (.tmp 5), 3, "same.go:42", #[⟨11, .guard⟩], some (11, false)⟩) (v := ?_) (Or.inl ⟨by rfl, ?_⟩) ?_
       rotate_left 1
       ·(intro u hSw; go_simp; try with_reducible rfl)
       try simp only [Act.put, sA, sB, sC]
       refine tk (i := 19) (oi := ⟨some 36, .indexAddr 24 (.tmp 34) (.tmp 35), 0, "same.go:42", #[⟨17, .data⟩, ⟨18, .data⟩, ⟨11, .guard⟩], some (11, false)⟩) (v := ?_) (Or.inl ⟨by rfl, ?_⟩) ?_
       rotate_left 1
       ·(intro u hSw; go_simp; try with_reducible rfl)
       try simp only [Act.put, sA, sB, sC]
       refine tk (i := 20) (oi := ⟨some 37, .fieldAddr 44 (.tmp 36) 1, 0, "same.go:42", #[⟨19, .data⟩, ⟨11, .guard⟩], some (11, false)⟩) (v := ?_) (Or.inl ⟨by rfl, ?_⟩) ?_
       rotate_left 1
       ·(intro u hSw; go_simp; try with_reducible rfl)
       try simp only [Act.put, sA, sB, sC]
       refine tk (i := 21) (oi := ⟨some 38, .load 9 (.tmp 37), 9, "same.go:42", #[⟨20, .data⟩, ⟨11, .guard⟩], some (11, false)⟩) (v := ?_) (Or.inl ⟨by rfl, ?_⟩) ?_
       rotate_left 1
       ·(intro u hSw; have p0 := (hSw.cell (p := ⟨b1, o1 + k * 5, none⟩) hb1).trans P0.out; have q0 := (hSw.cell (p := ⟨b2, o2 + k * 5, none⟩) hb2).trans Q0.out; have p1 := (hSw.cell (p := ⟨b1, o1 + k * 5 + 1, none⟩) hb1).trans P1.out; have q1 := (hSw.cell (p := ⟨b2, o2 + k * 5 + 1, none⟩) hb2).trans Q1.out; have p2 := (hSw.cell (p := ⟨b1, o1 + k * 5 + 2, none⟩) hb1).trans P2.out; have q2 := (hSw.cell (p := ⟨b2, o2 + k * 5 + 2, none⟩) hb2).trans Q2.out; have p3 := (hSw.cell (p := ⟨b1, o1 + k * 5 + 3, none⟩) hb1).trans P3.out; have q3 := (hSw.cell (p := ⟨b2, o2 + k * 5 + 3, none⟩) hb2).trans Q3.out; have p4 := (hSw.cell (p := ⟨b1, o1 + k * 5 + 4, none⟩) hb1).trans P4.out; have q4 := (hSw.cell (p := ⟨b2, o2 + k * 5 + 4, none⟩) hb2).trans Q4.out; go_simp; try with_reducible rfl)
       try simp only [Act.put, sA, sB, sC]
       refine tk (i := 22) (oi := ⟨some 39, .binOp BinOp.neq 9 (.tmp 33) (.tmp 38) 9, 4, "same.go:42", #[⟨16, .data⟩, ⟨21, .data⟩, ⟨11, .guard⟩], some (11, false)⟩) (v := .bool false) (Or.inl ⟨by rfl, ?_⟩) ?_
       ·intro u hSw
        go_simp
        try simp [b_tb]
       try simp only [Act.put, sA, sB, sC]
       refine tk (i := 23) (oi := ⟨some 40, .pick (.tmp 28) (.const (Value.bool true)) (.tmp 39), 4, "same.go:42", #[⟨11, .data⟩, ⟨22, .data⟩], none⟩) (v := ?_) (Or.inl ⟨by rfl, ?_⟩) ?_
       rotate_left 1
       ·(intro u hSw; go_simp; try with_reducible rfl)
       try simp only [Act.put, sA, sB, sC]
       refine tk (i := 24) (oi := ⟨some 41, .move (.tmp 40), 4, "same.go:42", #[⟨23, .data⟩, ⟨11, .chain⟩], none⟩) (v := ?_) (Or.inl ⟨by rfl, ?_⟩) ?_
       rotate_left 1
       ·(intro u hSw; go_simp; try with_reducible rfl)
       try simp only [Act.put, sA, sB, sC]
       refine tk (i := 25) (oi := ⟨some 42, .move (.tmp 0), 24, "same.go:42", #[⟨24, .guard⟩], some (24, false)⟩) (v := ?_) (Or.inl ⟨by rfl, ?_⟩) ?_
       rotate_left 1
       ·(intro u hSw; go_simp; try with_reducible rfl)
       try simp only [Act.put, sA, sB, sC]
       refine tk (i := 26) (oi := ⟨some 43, .move (.tmp 5), 3, "same.go:42", #[⟨24, .guard⟩], some (24, false)⟩) (v := ?_) (Or.inl ⟨by rfl, ?_⟩) ?_
       rotate_left 1
       ·(intro u hSw; go_simp; try with_reducible rfl)
       try simp only [Act.put, sA, sB, sC]
       refine tk (i := 27) (oi := ⟨some 44, .indexAddr 24 (.tmp 42) (.tmp 43), 0, "same.go:42", #[⟨25, .data⟩, ⟨26, .data⟩, ⟨24, .guard⟩], some (24, false)⟩) (v := ?_) (Or.inl ⟨by rfl, ?_⟩) ?_
       rotate_left 1
       ·(intro u hSw; go_simp; try with_reducible rfl)
       try simp only [Act.put, sA, sB, sC]
       refine tk (i := 28) (oi := ⟨some 45, .fieldAddr 44 (.tmp 44) 3, 0, "same.go:42", #[⟨27, .data⟩, ⟨24, .guard⟩], some (24, false)⟩) (v := ?_) (Or.inl ⟨by rfl, ?_⟩) ?_
       rotate_left 1
       ·(intro u hSw; go_simp; try with_reducible rfl)
       try simp only [Act.put, sA, sB, sC]
       refine tk (i := 29) (oi := ⟨some 46, .load 9 (.tmp 45), 9, "same.go:42", #[⟨28, .data⟩, ⟨24, .guard⟩], some (24, false)⟩) (v := ?_) (Or.inl ⟨by rfl, ?_⟩) ?_
       rotate_left 1
       ·(intro u hSw; have p0 := (hSw.cell (p := ⟨b1, o1 + k * 5, none⟩) hb1).trans P0.out; have q0 := (hSw.cell (p := ⟨b2, o2 + k * 5, none⟩) hb2).trans Q0.out; have p1 := (hSw.cell (p := ⟨b1, o1 + k * 5 + 1, none⟩) hb1).trans P1.out; have q1 := (hSw.cell (p := ⟨b2, o2 + k * 5 + 1, none⟩) hb2).trans Q1.out; have p2 := (hSw.cell (p := ⟨b1, o1 + k * 5 + 2, none⟩) hb1).trans P2.out; have q2 := (hSw.cell (p := ⟨b2, o2 + k * 5 + 2, none⟩) hb2).trans Q2.out; have p3 := (hSw.cell (p := ⟨b1, o1 + k * 5 + 3, none⟩) hb1).trans P3.out; have q3 := (hSw.cell (p := ⟨b2, o2 + k * 5 + 3, none⟩) hb2).trans Q3.out; have p4 := (hSw.cell (p := ⟨b1, o1 + k * 5 + 4, none⟩) hb1).trans P4.out; have q4 := (hSw.cell (p := ⟨b2, o2 + k * 5 + 4, none⟩) hb2).trans Q4.out; go_simp; try with_reducible rfl)
       try simp only [Act.put, sA, sB, sC]
       refine tk (i := 30) (oi := ⟨some 47, .move (.tmp 1), 24, "same.go:42", #[⟨24, .guard⟩], some (24, false)⟩) (v := ?_) (Or.inl ⟨by rfl, ?_⟩) ?_
       rotate_left 1
       ·(intro u hSw; go_simp; try with_reducible rfl)
       try simp only [Act.put, sA, sB, sC]
       refine tk (i := 31) (oi := ⟨some 48, .move (.tmp 5), 3, "same.go:42", #[⟨24, .guard⟩], some (24, false)⟩) (v := ?_) (Or.inl ⟨by rfl, ?_⟩) ?_
       rotate_left 1
       ·(intro u hSw; go_simp; try with_reducible rfl)
       try simp only [Act.put, sA, sB, sC]
       refine tk (i := 32) (oi := ⟨some 49, .indexAddr 24 (.tmp 47) (.tmp 48), 0, "same.go:42", #[⟨30, .data⟩, ⟨31, .data⟩, ⟨24, .guard⟩], some (24, false)⟩) (v := ?_) (Or.inl ⟨by rfl, ?_⟩) ?_
       rotate_left 1
       ·(intro u hSw; go_simp; try with_reducible rfl)
       try simp only [Act.put, sA, sB, sC]
       refine tk (i := 33) (oi := ⟨some 50, .fieldAddr 44 (.tmp 49) 3, 0, "same.go:42", #[⟨32, .data⟩, ⟨24, .guard⟩], some (24, false)⟩) (v := ?_) (Or.inl ⟨by rfl, ?_⟩) ?_
       rotate_left 1
       ·(intro u hSw; go_simp; try with_reducible rfl)
       try simp only [Act.put, sA, sB, sC]
       refine tk (i := 34) (oi := ⟨some 51, .load 9 (.tmp 50), 9, "same.go:42", #[⟨33, .data⟩, ⟨24, .guard⟩], some (24, false)⟩) (v := ?_) (Or.inl ⟨by rfl, ?_⟩) ?_
       rotate_left 1
       ·(intro u hSw; have p0 := (hSw.cell (p := ⟨b1, o1 + k * 5, none⟩) hb1).trans P0.out; have q0 := (hSw.cell (p := ⟨b2, o2 + k * 5, none⟩) hb2).trans Q0.out; have p1 := (hSw.cell (p := ⟨b1, o1 + k * 5 + 1, none⟩) hb1).trans P1.out; have q1 := (hSw.cell (p := ⟨b2, o2 + k * 5 + 1, none⟩) hb2).trans Q1.out; have p2 := (hSw.cell (p := ⟨b1, o1 + k * 5 + 2, none⟩) hb1).trans P2.out; have q2 := (hSw.cell (p := ⟨b2, o2 + k * 5 + 2, none⟩) hb2).trans Q2.out; have p3 := (hSw.cell (p := ⟨b1, o1 + k * 5 + 3, none⟩) hb1).trans P3.out; have q3 := (hSw.cell (p := ⟨b2, o2 + k * 5 + 3, none⟩) hb2).trans Q3.out; have p4 := (hSw.cell (p := ⟨b1, o1 + k * 5 + 4, none⟩) hb1).trans P4.out; have q4 := (hSw.cell (p := ⟨b2, o2 + k * 5 + 4, none⟩) hb2).trans Q4.out; go_simp; try with_reducible rfl)
       try simp only [Act.put, sA, sB, sC]
       refine tk (i := 35) (oi := ⟨some 52, .binOp BinOp.neq 9 (.tmp 46) (.tmp 51) 9, 4, "same.go:42", #[⟨29, .data⟩, ⟨34, .data⟩, ⟨24, .guard⟩], some (24, false)⟩) (v := .bool true) (Or.inl ⟨by rfl, ?_⟩) ?_
       ·intro u hSw
        go_simp
        try simp [b_al]
       try simp only [Act.put, sA, sB, sC]
       refine tk (i := 36) (oi := ⟨some 53, .pick (.tmp 41) (.const (Value.bool true)) (.tmp 52), 4, "same.go:42", #[⟨24, .data⟩, ⟨35, .data⟩], none⟩) (v := ?_) (Or.inl ⟨by rfl, ?_⟩) ?_
       rotate_left 1
       ·(intro u hSw; go_simp; try with_reducible rfl)
       try simp only [Act.put, sA, sB, sC]
       refine wpAnyH_done (by kernel_rfl) ?_ _
       have HG := hid hHeld
       clear hHeld
       go_wp2_with fail
       go_ret
       exact ⟨false, rfl, at_ne HX.out HY.out (by rw [Ne, so_eq_iff]; simp [K_al.out]), HG.out⟩
     ·have b_tb : ¬ (str x.tb).toList = (str y.tb).toList := beq_eq_false_iff_ne.1 (HRtb.out.trans (decide_eq_false k_tb))
      have K_tb := hid k_tb
      clear k_tb
      refine wp_region_held_drew (S := fun u => Below w.heap.size w u) (by kernel_rfl) (HBW.out.drew) (fun hHeld => ?_)
      refine tk (i := 0) (oi := ⟨some 17, .move (.tmp 0), 24, "same.go:42", #[], none⟩) (v := ?_) (Or.inl ⟨by rfl, ?_⟩) ?_
      rotate_left 1
      ·(intro u hSw; go_simp; try with_reducible rfl)
      try simp only [Act.put, sA, sB, sC]
      refine tk (i := 1) (oi := ⟨some 18, .move (.tmp 5), 3, "same.go:42", #[], none⟩) (v := ?_) (Or.inl ⟨by rfl, ?_⟩) ?_
      rotate_left 1
      ·(intro u hSw; go_simp; try with_reducible rfl)
      try simp only [Act.put, sA, sB, sC]
      refine tk (i := 2) (oi := ⟨some 19, .indexAddr 24 (.tmp 17) (.tmp 18), 0, "same.go:42", #[⟨0, .data⟩, ⟨1, .data⟩], none⟩) (v := ?_) (Or.inl ⟨by rfl, ?_⟩) ?_
      rotate_left 1
      ·(intro u hSw; go_simp; try with_reducible rfl)
      try simp only [Act.put, sA, sB, sC]
      refine tk (i := 3) (oi := ⟨some 20, .fieldAddr 44 (.tmp 19) 0, 0, "same.go:42", #[⟨2, .data⟩], none⟩) (v := ?_) (Or.inl ⟨by rfl, ?_⟩) ?_
      rotate_left 1
      ·(intro u hSw; go_simp; try with_reducible rfl)
      try simp only [Act.put, sA, sB, sC]
      refine tk (i := 4) (oi := ⟨some 21, .load 3 (.tmp 20), 3, "same.go:42", #[⟨3, .data⟩], none⟩) (v := ?_) (Or.inl ⟨by rfl, ?_⟩) ?_
      rotate_left 1
      ·(intro u hSw; have p0 := (hSw.cell (p := ⟨b1, o1 + k * 5, none⟩) hb1).trans P0.out; have q0 := (hSw.cell (p := ⟨b2, o2 + k * 5, none⟩) hb2).trans Q0.out; have p1 := (hSw.cell (p := ⟨b1, o1 + k * 5 + 1, none⟩) hb1).trans P1.out; have q1 := (hSw.cell (p := ⟨b2, o2 + k * 5 + 1, none⟩) hb2).trans Q1.out; have p2 := (hSw.cell (p := ⟨b1, o1 + k * 5 + 2, none⟩) hb1).trans P2.out; have q2 := (hSw.cell (p := ⟨b2, o2 + k * 5 + 2, none⟩) hb2).trans Q2.out; have p3 := (hSw.cell (p := ⟨b1, o1 + k * 5 + 3, none⟩) hb1).trans P3.out; have q3 := (hSw.cell (p := ⟨b2, o2 + k * 5 + 3, none⟩) hb2).trans Q3.out; have p4 := (hSw.cell (p := ⟨b1, o1 + k * 5 + 4, none⟩) hb1).trans P4.out; have q4 := (hSw.cell (p := ⟨b2, o2 + k * 5 + 4, none⟩) hb2).trans Q4.out; go_simp; try with_reducible rfl)
      try simp only [Act.put, sA, sB, sC]
      refine tk (i := 5) (oi := ⟨some 22, .move (.tmp 1), 24, "same.go:42", #[], none⟩) (v := ?_) (Or.inl ⟨by rfl, ?_⟩) ?_
      rotate_left 1
      ·(intro u hSw; go_simp; try with_reducible rfl)
      try simp only [Act.put, sA, sB, sC]
      refine tk (i := 6) (oi := ⟨some 23, .move (.tmp 5), 3, "same.go:42", #[], none⟩) (v := ?_) (Or.inl ⟨by rfl, ?_⟩) ?_
      rotate_left 1
      ·(intro u hSw; go_simp; try with_reducible rfl)
      try simp only [Act.put, sA, sB, sC]
      refine tk (i := 7) (oi := ⟨some 24, .indexAddr 24 (.tmp 22) (.tmp 23), 0, "same.go:42", #[⟨5, .data⟩, ⟨6, .data⟩], none⟩) (v := ?_) (Or.inl ⟨by rfl, ?_⟩) ?_
      rotate_left 1
      ·(intro u hSw; go_simp; try with_reducible rfl)
      try simp only [Act.put, sA, sB, sC]
      refine tk (i := 8) (oi := ⟨some 25, .fieldAddr 44 (.tmp 24) 0, 0, "same.go:42", #[⟨7, .data⟩], none⟩) (v := ?_) (Or.inl ⟨by rfl, ?_⟩) ?_
      rotate_left 1
      ·(intro u hSw; go_simp; try with_reducible rfl)
      try simp only [Act.put, sA, sB, sC]
      refine tk (i := 9) (oi := ⟨some 26, .load 3 (.tmp 25), 3, "same.go:42", #[⟨8, .data⟩], none⟩) (v := ?_) (Or.inl ⟨by rfl, ?_⟩) ?_
      rotate_left 1
      ·(intro u hSw; have p0 := (hSw.cell (p := ⟨b1, o1 + k * 5, none⟩) hb1).trans P0.out; have q0 := (hSw.cell (p := ⟨b2, o2 + k * 5, none⟩) hb2).trans Q0.out; have p1 := (hSw.cell (p := ⟨b1, o1 + k * 5 + 1, none⟩) hb1).trans P1.out; have q1 := (hSw.cell (p := ⟨b2, o2 + k * 5 + 1, none⟩) hb2).trans Q1.out; have p2 := (hSw.cell (p := ⟨b1, o1 + k * 5 + 2, none⟩) hb1).trans P2.out; have q2 := (hSw.cell (p := ⟨b2, o2 + k * 5 + 2, none⟩) hb2).trans Q2.out; have p3 := (hSw.cell (p := ⟨b1, o1 + k * 5 + 3, none⟩) hb1).trans P3.out; have q3 := (hSw.cell (p := ⟨b2, o2 + k * 5 + 3, none⟩) hb2).trans Q3.out; have p4 := (hSw.cell (p := ⟨b1, o1 + k * 5 + 4, none⟩) hb1).trans P4.out; have q4 := (hSw.cell (p := ⟨b2, o2 + k * 5 + 4, none⟩) hb2).trans Q4.out; go_simp; try with_reducible rfl)
      try simp only [Act.put, sA, sB, sC]
      refine tk (i := 10) (oi := ⟨some 27, .binOp BinOp.neq 3 (.tmp 21) (.tmp 26) 3, 4, "same.go:42", #[⟨4, .data⟩, ⟨9, .data⟩], none⟩) (v := .bool false) (Or.inl ⟨by rfl, ?_⟩) ?_
      ·intro u hSw
       go_simp
       try simp [b_kind]
      try simp only [Act.put, sA, sB, sC]
      refine tk (i := 11) (oi := ⟨some 28, .move (.tmp 27), 4, "same.go:42", #[⟨10, .data⟩], none⟩) (v := ?_) (Or.inl ⟨by rfl, ?_⟩) ?_
      rotate_left 1
      ·(intro u hSw; go_simp; try with_reducible rfl)
      try simp only [Act.put, sA, sB, sC]
      refine tk (i := 12) (oi := ⟨some 29, .move (.tmp 0), 24, "same.go:42", #[⟨11, .guard⟩], some (11, false)⟩) (v := ?_) (Or.inl ⟨by rfl, ?_⟩) ?_
      rotate_left 1
      ·(intro u hSw; go_simp; try with_reducible rfl)
      try simp only [Act.put, sA, sB, sC]
      refine tk (i := 13) (oi := ⟨some 30, .move (.tmp 5), 3, "same.go:42", #[⟨11, .guard⟩], some (11, false)⟩) (v := ?_) (Or.inl ⟨by rfl, ?_⟩) ?_
      rotate_left 1
      ·(intro u hSw; go_simp; try with_reducible rfl)
      try simp only [Act.put, sA, sB, sC]
      refine tk (i := 14) (oi := ⟨some 31, .indexAddr 24 (.tmp 29) (.tmp 30), 0, "same.go:42", #[⟨12, .data⟩, ⟨13, .data⟩, ⟨11, .guard⟩], some (11, false)⟩) (v := ?_) (Or.inl ⟨by rfl, ?_⟩) ?_
      rotate_left 1
      ·(intro u hSw; go_simp; try with_reducible rfl)
      try simp only [Act.put, sA, sB, sC]
      refine tk (i := 15) (oi := ⟨some 32, .fieldAddr 44 (.tmp 31) 1, 0, "same.go:42", #[⟨14, .data⟩, ⟨11, .guard⟩], some (11, false)⟩) (v := ?_) (Or.inl ⟨by rfl, ?_⟩) ?_
      rotate_left 1
      ·(intro u hSw; go_simp; try with_reducible rfl)
      try simp only [Act.put, sA, sB, sC]
      refine tk (i := 16) (oi := ⟨some 33, .load 9 (.tmp 32), 9, "same.go:42", #[⟨15, .data⟩, ⟨11, .guard⟩], some (11, false)⟩) (v := ?_) (Or.inl ⟨by rfl, ?_⟩) ?_
      rotate_left 1
      ·(intro u hSw; have p0 := (hSw.cell (p := ⟨b1, o1 + k * 5, none⟩) hb1).trans P0.out; have q0 := (hSw.cell (p := ⟨b2, o2 + k * 5, none⟩) hb2).trans Q0.out; have p1 := (hSw.cell (p := ⟨b1, o1 + k * 5 + 1, none⟩) hb1).trans P1.out; have q1 := (hSw.cell (p := ⟨b2, o2 + k * 5 + 1, none⟩) hb2).trans Q1.out; have p2 := (hSw.cell (p := ⟨b1, o1 + k * 5 + 2, none⟩) hb1).trans P2.out; have q2 := (hSw.cell (p := ⟨b2, o2 + k * 5 + 2, none⟩) hb2).trans Q2.out; have p3 := (hSw.cell (p := ⟨b1, o1 + k * 5 + 3, none⟩) hb1).trans P3.out; have q3 := (hSw.cell (p := ⟨b2, o2 + k * 5 + 3, none⟩) hb2).trans Q3.out; have p4 := (hSw.cell (p := ⟨b1, o1 + k * 5 + 4, none⟩) hb1).trans P4.out; have q4 := (hSw.cell (p := ⟨b2, o2 + k * 5 + 4, none⟩) hb2).trans Q4.out; go_simp; try with_reducible rfl)
      try simp only [Act.put, sA, sB, sC]
      refine tk (i := 17) (oi := ⟨some 34, .move (.tmp 1), 24, "same.go:42", #[⟨11, .guard⟩], some (11, false)⟩) (v := ?_) (Or.inl ⟨by rfl, ?_⟩) ?_
      rotate_left 1
      ·(intro u hSw; go_simp; try with_reducible rfl)
      try simp only [Act.put, sA, sB, sC]
      refine tk (i := 18) (oi := ⟨some 35, .move (.tmp 5), 3, "same.go:42", #[⟨11, .guard⟩], some (11, false)⟩) (v := ?_) (Or.inl ⟨by rfl, ?_⟩) ?_
      rotate_left 1
      ·(intro u hSw; go_simp; try with_reducible rfl)
      try simp only [Act.put, sA, sB, sC]
      refine tk (i := 19) (oi := ⟨some 36, .indexAddr 24 (.tmp 34) (.tmp 35), 0, "same.go:42", #[⟨17, .data⟩, ⟨18, .data⟩, ⟨11, .guard⟩], some (11, false)⟩) (v := ?_) (Or.inl ⟨by rfl, ?_⟩) ?_
      rotate_left 1
      ·(intro u hSw; go_simp; try with_reducible rfl)
      try simp only [Act.put, sA, sB, sC]
      refine tk (i := 20) (oi := ⟨some 37, .fieldAddr 44 (.tmp 36) 1, 0, "same.go:42", #[⟨19, .data⟩, ⟨11, .guard⟩], some (11, false)⟩) (v := ?_) (Or.inl ⟨by rfl, ?_⟩) ?_
      rotate_left 1
      ·(intro u hSw; go_simp; try with_reducible rfl)
      try simp only [Act.put, sA, sB, sC]
      refine tk (i := 21) (oi := ⟨some 38, .load 9 (.tmp 37), 9, "same.go:42", #[⟨20, .data⟩, ⟨11, .guard⟩], some (11, false)⟩) (v := ?_) (Or.inl ⟨by rfl, ?_⟩) ?_
      rotate_left 1
      ·(intro u hSw; have p0 := (hSw.cell (p := ⟨b1, o1 + k * 5, none⟩) hb1).trans P0.out; have q0 := (hSw.cell (p := ⟨b2, o2 + k * 5, none⟩) hb2).trans Q0.out; have p1 := (hSw.cell (p := ⟨b1, o1 + k * 5 + 1, none⟩) hb1).trans P1.out; have q1 := (hSw.cell (p := ⟨b2, o2 + k * 5 + 1, none⟩) hb2).trans Q1.out; have p2 := (hSw.cell (p := ⟨b1, o1 + k * 5 + 2, none⟩) hb1).trans P2.out; have q2 := (hSw.cell (p := ⟨b2, o2 + k * 5 + 2, none⟩) hb2).trans Q2.out; have p3 := (hSw.cell (p := ⟨b1, o1 + k * 5 + 3, none⟩) hb1).trans P3.out; have q3 := (hSw.cell (p := ⟨b2, o2 + k * 5 + 3, none⟩) hb2).trans Q3.out; have p4 := (hSw.cell (p := ⟨b1, o1 + k * 5 + 4, none⟩) hb1).trans P4.out; have q4 := (hSw.cell (p := ⟨b2, o2 + k * 5 + 4, none⟩) hb2).trans Q4.out; go_simp; try with_reducible rfl)
      try simp only [Act.put, sA, sB, sC]
      refine tk (i := 22) (oi := ⟨some 39, .binOp BinOp.neq 9 (.tmp 33) (.tmp 38) 9, 4, "same.go:42", #[⟨16, .data⟩, ⟨21, .data⟩, ⟨11, .guard⟩], some (11, false)⟩) (v := .bool true) (Or.inl ⟨by rfl, ?_⟩) ?_
      ·intro u hSw
       go_simp
       try simp [b_tb]
      try simp only [Act.put, sA, sB, sC]
      refine tk (i := 23) (oi := ⟨some 40, .pick (.tmp 28) (.const (Value.bool true)) (.tmp 39), 4, "same.go:42", #[⟨11, .data⟩, ⟨22, .data⟩], none⟩) (v := ?_) (Or.inl ⟨by rfl, ?_⟩) ?_
      rotate_left 1
      ·(intro u hSw; go_simp; try with_reducible rfl)
      try simp only [Act.put, sA, sB, sC]
      refine tk (i := 24) (oi := ⟨some 41, .move (.tmp 40), 4, "same.go:42", #[⟨23, .data⟩, ⟨11, .chain⟩], none⟩) (v := ?_) (Or.inl ⟨by rfl, ?_⟩) ?_
      rotate_left 1
      ·(intro u hSw; go_simp; try with_reducible rfl)
      try simp only [Act.put, sA, sB, sC]
      refine tk (i := 25) (oi := ⟨some 42, .move (.tmp 0), 24, "same.go:42", #[⟨24, .guard⟩], some (24, false)⟩) (v := undef) (by exact .inr ⟨by rfl, rfl⟩) ?_
      try simp only [Act.put, sA, sB, sC]
      refine tk (i := 26) (oi := ⟨some 43, .move (.tmp 5), 3, "same.go:42", #[⟨24, .guard⟩], some (24, false)⟩) (v := undef) (by exact .inr ⟨by rfl, rfl⟩) ?_
      try simp only [Act.put, sA, sB, sC]
      refine tk (i := 27) (oi := ⟨some 44, .indexAddr 24 (.tmp 42) (.tmp 43), 0, "same.go:42", #[⟨25, .data⟩, ⟨26, .data⟩, ⟨24, .guard⟩], some (24, false)⟩) (v := undef) (by exact .inr ⟨by rfl, rfl⟩) ?_
      try simp only [Act.put, sA, sB, sC]
      refine tk (i := 28) (oi := ⟨some 45, .fieldAddr 44 (.tmp 44) 3, 0, "same.go:42", #[⟨27, .data⟩, ⟨24, .guard⟩], some (24, false)⟩) (v := undef) (by exact .inr ⟨by rfl, rfl⟩) ?_
      try simp only [Act.put, sA, sB, sC]
      refine tk (i := 29) (oi := ⟨some 46, .load 9 (.tmp 45), 9, "same.go:42", #[⟨28, .data⟩, ⟨24, .guard⟩], some (24, false)⟩) (v := undef) (by exact .inr ⟨by rfl, rfl⟩) ?_
      try simp only [Act.put, sA, sB, sC]
      refine tk (i := 30) (oi := ⟨some 47, .move (.tmp 1), 24, "same.go:42", #[⟨24, .guard⟩], some (24, false)⟩) (v := undef) (by exact .inr ⟨by rfl, rfl⟩) ?_
      try simp only [Act.put, sA, sB, sC]
      refine tk (i := 31) (oi := ⟨some 48, .move (.tmp 5), 3, "same.go:42", #[⟨24, .guard⟩], some (24, false)⟩) (v := undef) (by exact .inr ⟨by rfl, rfl⟩) ?_
      try simp only [Act.put, sA, sB, sC]
      refine tk (i := 32) (oi := ⟨some 49, .indexAddr 24 (.tmp 47) (.tmp 48), 0, "same.go:42", #[⟨30, .data⟩, ⟨31, .data⟩, ⟨24, .guard⟩], some (24, false)⟩) (v := undef) (by exact .inr ⟨by rfl, rfl⟩) ?_
      try simp only [Act.put, sA, sB, sC]
      refine tk (i := 33) (oi := ⟨some 50, .fieldAddr 44 (.tmp 49) 3, 0, "same.go:42", #[⟨32, .data⟩, ⟨24, .guard⟩], some (24, false)⟩) (v := undef) (by exact .inr ⟨by rfl, rfl⟩) ?_
      try simp only [Act.put, sA, sB, sC]
      refine tk (i := 34) (oi := ⟨some 51, .load 9 (.tmp 50), 9, "same.go:42", #[⟨33, .data⟩, ⟨24, .guard⟩], some (24, false)⟩) (v := undef) (by exact .inr ⟨by rfl, rfl⟩) ?_
      try simp only [Act.put, sA, sB, sC]
      refine tk (i := 35) (oi := ⟨some 52, .binOp BinOp.neq 9 (.tmp 46) (.tmp 51) 9, 4, "same.go:42", #[⟨29, .data⟩, ⟨34, .data⟩, ⟨24, .guard⟩], some (24, false)⟩) (v := undef) (by exact .inr ⟨by rfl, rfl⟩) ?_
      try simp only [Act.put, sA, sB, sC]
      refine tk (i := 36) (oi := ⟨some 53, .pick (.tmp 41) (.const (Value.bool true)) (.tmp 52), 4, "same.go:42", #[⟨24, .data⟩, ⟨35, .data⟩], none⟩) (v := ?_) (Or.inl ⟨by rfl, ?_⟩) ?_
      rotate_left 1
      ·(intro u hSw; go_simp; try with_reducible rfl)
      try simp only [Act.put, sA, sB, sC]
      refine wpAnyH_done (by kernel_rfl) ?_ _
      have HG := hid hHeld
      clear hHeld
      go_wp2_with fail
      go_ret
      exact ⟨false, rfl, at_ne HX.out HY.out (by rw [Ne, so_eq_iff]; simp [K_tb.out]), HG.out⟩
    ·have b_kind : (x.kind != y.kind) = true := bne_iff_ne.2 k_kind
     have K_kind := hid k_kind
     clear k_kind
     refine wp_region_held_drew (S := fun u => Below w.heap.size w u) (by kernel_rfl) (HBW.out.drew) (fun hHeld => ?_)
     refine tk (i := 0) (oi := ⟨some 17, .move (.tmp 0), 24, "same.go:42", #[], none⟩) (v := ?_) (Or.inl ⟨by rfl, ?_⟩) ?_
     rotate_left 1
     ·(intro u hSw; go_simp; try with_reducible rfl)
     try simp only [Act.put, sA, sB, sC]
     refine tk (i := 1) (oi := ⟨some 18, .move (.tmp 5), 3, "same.go:42", #[], none⟩) (v := ?_) (Or.inl ⟨by rfl, ?_⟩) ?_
     rotate_left 1
     ·(intro u hSw; go_simp; try with_reducible rfl)
     try simp only [Act.put, sA, sB, sC]
     refine tk (i := 2) (oi := ⟨some 19, .indexAddr 24 (.tmp 17) (.tmp 18), 0, "same.go:42", #[⟨0, .data⟩, ⟨1, .data⟩], none⟩) (v := ?_) (Or.inl ⟨by rfl, ?_⟩) ?_
     rotate_left 1
     ·(intro u hSw; go_simp; try with_reducible rfl)
     try simp only [Act.put, sA, sB, sC]
     refine tk (i := 3) (oi := ⟨some 20, .fieldAddr 44 (.tmp 19) 0, 0, "same.go:42", #[⟨2, .data⟩], none⟩) (v := ?_) (Or.inl ⟨by rfl, ?_⟩) ?_
     rotate_left 1
     ·(intro u hSw; go_simp; try with_reducible rfl)
     try simp only [Act.put, sA, sB, sC]
     refine tk (i := 4) (oi := ⟨some 21, .load 3 (.tmp 20), 3, "same.go:42", #[⟨3, .data⟩], none⟩) (v := ?_) (Or.inl ⟨by rfl, ?_⟩) ?_
     rotate_left 1
     ·(intro u hSw; have p0 := (hSw.cell (p := ⟨b1, o1 + k * 5, none⟩) hb1).trans P0.out; have q0 := (hSw.cell (p := ⟨b2, o2 + k * 5, none⟩) hb2).trans Q0.out; have p1 := (hSw.cell (p := ⟨b1, o1 + k * 5 + 1, none⟩) hb1).trans P1.out; have q1 := (hSw.cell (p := ⟨b2, o2 + k * 5 + 1, none⟩) hb2).trans Q1.out; have p2 := (hSw.cell (p := ⟨b1, o1 + k * 5 + 2, none⟩) hb1).trans P2.out; have q2 := (hSw.cell (p := ⟨b2, o2 + k * 5 + 2, none⟩) hb2).trans Q2.out; have p3 := (hSw.cell (p := ⟨b1, o1 + k * 5 + 3, none⟩) hb1).trans P3.out; have q3 := (hSw.cell (p := ⟨b2, o2 + k * 5 + 3, none⟩) hb2).trans Q3.out; have p4 := (hSw.cell (p := ⟨b1, o1 + k * 5 + 4, none⟩) hb1).trans P4.out; have q4 := (hSw.cell (p := ⟨b2, o2 + k * 5 + 4, none⟩) hb2).trans Q4.out; go_simp; try with_reducible rfl)
     try simp only [Act.put, sA, sB, sC]
     refine tk (i := 5) (oi := ⟨some 22, .move (.tmp 1), 24, "same.go:42", #[], none⟩) (v := ?_) (Or.inl ⟨by rfl, ?_⟩) ?_
     rotate_left 1
     ·(intro u hSw; go_simp; try with_reducible rfl)
     try simp only [Act.put, sA, sB, sC]
     refine tk (i := 6) (oi := ⟨some 23, .move (.tmp 5), 3, "same.go:42", #[], none⟩) (v := ?_) (Or.inl ⟨by rfl, ?_⟩) ?_
     rotate_left 1
     ·(intro u hSw; go_simp; try with_reducible rfl)
     try simp only [Act.put, sA, sB, sC]
     refine tk (i := 7) (oi := ⟨some 24, .indexAddr 24 (.tmp 22) (.tmp 23), 0, "same.go:42", #[⟨5, .data⟩, ⟨6, .data⟩], none⟩) (v := ?_) (Or.inl ⟨by rfl, ?_⟩) ?_
     rotate_left 1
     ·(intro u hSw; go_simp; try with_reducible rfl)
     try simp only [Act.put, sA, sB, sC]
     refine tk (i := 8) (oi := ⟨some 25, .fieldAddr 44 (.tmp 24) 0, 0, "same.go:42", #[⟨7, .data⟩], none⟩) (v := ?_) (Or.inl ⟨by rfl, ?_⟩) ?_
     rotate_left 1
     ·(intro u hSw; go_simp; try with_reducible rfl)
     try simp only [Act.put, sA, sB, sC]
     refine tk (i := 9) (oi := ⟨some 26, .load 3 (.tmp 25), 3, "same.go:42", #[⟨8, .data⟩], none⟩) (v := ?_) (Or.inl ⟨by rfl, ?_⟩) ?_
     rotate_left 1
     ·(intro u hSw; have p0 := (hSw.cell (p := ⟨b1, o1 + k * 5, none⟩) hb1).trans P0.out; have q0 := (hSw.cell (p := ⟨b2, o2 + k * 5, none⟩) hb2).trans Q0.out; have p1 := (hSw.cell (p := ⟨b1, o1 + k * 5 + 1, none⟩) hb1).trans P1.out; have q1 := (hSw.cell (p := ⟨b2, o2 + k * 5 + 1, none⟩) hb2).trans Q1.out; have p2 := (hSw.cell (p := ⟨b1, o1 + k * 5 + 2, none⟩) hb1).trans P2.out; have q2 := (hSw.cell (p := ⟨b2, o2 + k * 5 + 2, none⟩) hb2).trans Q2.out; have p3 := (hSw.cell (p := ⟨b1, o1 + k * 5 + 3, none⟩) hb1).trans P3.out; have q3 := (hSw.cell (p := ⟨b2, o2 + k * 5 + 3, none⟩) hb2).trans Q3.out; have p4 := (hSw.cell (p := ⟨b1, o1 + k * 5 + 4, none⟩) hb1).trans P4.out; have q4 := (hSw.cell (p := ⟨b2, o2 + k * 5 + 4, none⟩) hb2).trans Q4.out; go_simp; try with_reducible rfl)
     try simp only [Act.put, sA, sB, sC]
     refine tk (i := 10) (oi := ⟨some 27, .binOp BinOp.neq 3 (.tmp 21) (.tmp 26) 3, 4, "same.go:42", #[⟨4, .data⟩, ⟨9, .data⟩], none⟩) (v := .bool true) (Or.inl ⟨by rfl, ?_⟩) ?_
     ·intro u hSw
      go_simp
      try simp [b_kind]
     try simp only [Act.put, sA, sB, sC]
     refine tk (i := 11) (oi := ⟨some 28, .move (.tmp 27), 4, "same.go:42", #[⟨10, .data⟩], none⟩) (v := ?_) (Or.inl ⟨by rfl, ?_⟩) ?_
     rotate_left 1
     ·(intro u hSw; go_simp; try with_reducible rfl)
     try simp only [Act.put, sA, sB, sC]
     refine tk (i := 12) (oi := ⟨some 29, .move (.tmp 0), 24, "same.go:42", #[⟨11, .guard⟩], some (11, false)⟩) (v := undef) (by exact .inr ⟨by rfl, rfl⟩) ?_
     try simp only [Act.put, sA, sB, sC]
     refine tk (i := 13) (oi := ⟨some 30, .move (.tmp 5), 3, "same.go:42", #[⟨11, .guard⟩], some (11, false)⟩) (v := undef) (by exact .inr ⟨by rfl, rfl⟩) ?_
     try simp only [Act.put, sA, sB, sC]
     refine tk (i := 14) (oi := ⟨some 31, .indexAddr 24 (.tmp 29) (.tmp 30), 0, "same.go:42", #[⟨12, .data⟩, ⟨13, .data⟩, ⟨11, .guard⟩], some (11, false)⟩) (v := undef) (by exact .inr ⟨by rfl, rfl⟩) ?_
     try simp only [Act.put, sA, sB, sC]
     refine tk (i := 15) (oi := ⟨some 32, .fieldAddr 44 (.tmp 31) 1, 0, "same.go:42", #[⟨14, .data⟩, ⟨11, .guard⟩], some (11, false)⟩) (v := undef) (by exact .inr ⟨by rfl, rfl⟩) ?_
     try simp only [Act.put, sA, sB, sC]
     refine tk (i := 16) (oi := ⟨some 33, .load 9 (.tmp 32), 9, "same.go:42", #[⟨15, .data⟩, ⟨11, .guard⟩], some (11, false)⟩) (v := undef) (by exact .inr ⟨by rfl, rfl⟩) ?_
     try simp only [Act.put, sA, sB, sC]
     refine tk (i := 17) (oi := ⟨some 34, .move (.tmp 1), 24, "same.go:42", #[⟨11, .guard⟩], some (11, false)⟩) (v := undef) (by exact .inr ⟨by rfl, rfl⟩) ?_
     try simp only [Act.put, sA, sB, sC]
     refine tk (i := 18) (oi := ⟨some 35, .move (.tmp 5), 3, "same.go:42", #[⟨11, .guard⟩], some (11, false)⟩) (v := undef) (by exact .inr ⟨by rfl, rfl⟩) ?_
     try simp only [Act.put, sA, sB, sC]
     refine tk (i := 19) (oi := ⟨some 36, .indexAddr 24 (.tmp 34) (.tmp 35), 0, "same.go:42", #[⟨17, .data⟩, ⟨18, .data⟩, ⟨11, .guard⟩], some (11, false)⟩) (v := undef) (by exact .inr ⟨by rfl, rfl⟩) ?_
     try simp only [Act.put, sA, sB, sC]
     refine tk (i := 20) (oi := ⟨some 37, .fieldAddr 44 (.tmp 36) 1, 0, "same.go:42", #[⟨19, .data⟩, ⟨11, .guard⟩], some (11, false)⟩) (v := undef) (by exact .inr ⟨by rfl, rfl⟩) ?_
     try simp only [Act.put, sA, sB, sC]
     refine tk (i := 21) (oi := ⟨some 38, .load 9 (.tmp 37), 9, "same.go:42", #[⟨20, .data⟩, ⟨11, .guard⟩], some (11, false)⟩) (v := undef) (by exact .inr ⟨by rfl, rfl⟩) ?_
     try simp only [Act.put, sA, sB, sC]
     refine tk (i := 22) (oi := ⟨some 39, .binOp BinOp.neq 9 (.tmp 33) (.tmp 38) 9, 4, "same.go:42", #[⟨16, .data⟩, ⟨21, .data⟩, ⟨11, .guard⟩], some (11, false)⟩) (v := undef) (by exact .inr ⟨by rfl, rfl⟩) ?_
     try simp only [Act.put, sA, sB, sC]
     refine tk (i := 23) (oi := ⟨some 40, .pick (.tmp 28) (.const (Value.bool true)) (.tmp 39), 4, "same.go:42", #[⟨11, .data⟩, ⟨22, .data⟩], none⟩) (v := ?_) (Or.inl ⟨by rfl, ?_⟩) ?_
     rotate_left 1
     ·(intro u hSw; go_simp; try with_reducible rfl)
     try simp only [Act.put, sA, sB, sC]
     refine tk (i := 24) (oi := ⟨some 41, .move (.tmp 40), 4, "same.go:42", #[⟨23, .data⟩, ⟨11, .chain⟩], none⟩) (v := ?_) (Or.inl ⟨by rfl, ?_⟩) ?_
     rotate_left 1
     ·(intro u hSw; go_simp; try with_reducible rfl)
     try simp only [Act.put, sA, sB, sC]
     refine tk (i := 25) (oi := ⟨some 42, .move (.tmp 0), 24, "same.go:42", #[⟨24, .guard⟩], some (24, false)⟩) (v := undef) (by exact .inr ⟨by rfl, rfl⟩) ?_
     try simp only [Act.put, sA, sB, sC]
     refine tk (i := 26) (oi := ⟨some 43, .move (.tmp 5), 3, "same.go:42", #[⟨24, .guard⟩], some (24, false)⟩) (v := undef) (by exact .inr ⟨by rfl, rfl⟩) ?_
     try simp only [Act.put, sA, sB, sC]
     refine tk (i := 27) (oi := ⟨some 44, .indexAddr 24 (.tmp 42) (.tmp 43), 0, "same.go:42", #[⟨25, .data⟩, ⟨26, .data⟩, ⟨24, .guard⟩], some (24, false)⟩) (v := undef) (by exact .inr ⟨by rfl, rfl⟩) ?_
     try simp only [Act.put, sA, sB, sC]
     refine tk (i := 28) (oi := ⟨some 45, .fieldAddr 44 (.tmp 44) 3, 0, "same.go:42", #[⟨27, .data⟩, ⟨24, .guard⟩], some (24, false)⟩) (v := undef) (by exact .inr ⟨by rfl, rfl⟩) ?_
     try simp only [Act.put, sA, sB, sC]
     refine tk (i := 29) (oi := ⟨some 46, .load 9 (.tmp 45), 9, "same.go:42", #[⟨28, .data⟩, ⟨24, .guard⟩], some (24, false)⟩) (v := undef) (by exact .inr ⟨by rfl, rfl⟩) ?_
     try simp only [Act.put, sA, sB, sC]
     refine tk (i := 30) (oi := ⟨some 47, .move (.tmp 1), 24, "same.go:42", #[⟨24, .guard⟩], some (24, false)⟩) (v := undef) (by exact .inr ⟨by rfl, rfl⟩) ?_
     try simp only [Act.put, sA, sB, sC]
     refine tk (i := 31) (oi := ⟨some 48, .move (.tmp 5), 3, "same.go:42", #[⟨24, .guard⟩], some (24, false)⟩) (v := undef) (by exact .inr ⟨by rfl, rfl⟩) ?_
     try simp only [Act.put, sA, sB, sC]
     refine tk (i := 32) (oi := ⟨some 49, .indexAddr 24 (.tmp 47) (.tmp 48), 0, "same.go:42", #[⟨30, .data⟩, ⟨31, .data⟩, ⟨24, .guard⟩], some (24, false)⟩) (v := undef) (by exact .inr ⟨by rfl, rfl⟩) ?_
     try simp only [Act.put, sA, sB, sC]
     refine tk (i := 33) (oi := ⟨some 50, .fieldAddr 44 (.tmp 49) 3, 0, "same.go:42", #[⟨32, .data⟩, ⟨24, .guard⟩], some (24, false)⟩) (v := undef) (by exact .inr ⟨by rfl, rfl⟩) ?_
     try simp only [Act.put, sA, sB, sC]
     refine tk (i := 34) (oi := ⟨some 51, .load 9 (.tmp 50), 9, "same.go:42", #[⟨33, .data⟩, ⟨24, .guard⟩], some (24, false)⟩) (v := undef) (by exact .inr ⟨by rfl, rfl⟩) ?_
     try simp only [Act.put, sA, sB, sC]
     refine tk (i := 35) (oi := ⟨some 52, .binOp BinOp.neq 9 (.tmp 46) (.tmp 51) 9, 4, "same.go:42", #[⟨29, .data⟩, ⟨34, .data⟩, ⟨24, .guard⟩], some (24, false)⟩) (v := undef) (by exact .inr ⟨by rfl, rfl⟩) ?_
     try simp only [Act.put, sA, sB, sC]
     refine tk (i := 36) (oi := ⟨some 53, .pick (.tmp 41) (.const (Value.bool true)) (.tmp 52), 4, "same.go:42", #[⟨24, .data⟩, ⟨35, .data⟩], none⟩) (v := ?_) (Or.inl ⟨by rfl, ?_⟩) ?_
     rotate_left 1
     ·(intro u hSw; go_simp; try with_reducible rfl)
     try simp only [Act.put, sA, sB, sC]
     refine wpAnyH_done (by kernel_rfl) ?_ _
     have HG := hid hHeld
     clear hHeld
     go_wp2_with fail
     go_ret
     exact ⟨false, rfl, at_ne HX.out HY.out (by rw [Ne, so_eq_iff]; simp [K_kind.out]), HG.out⟩
   ·have hkn : k = n := by omega
    subst hkn
    have hcn : decide ((k : Int) < (k : Int)) = false := decide_eq_false (by omega)
    go_wp2_with fail
    go_ret
    exact ⟨true, rfl, by
     have e := heq.out
     rw [List.take_of_length_le (by rw [HN.out]; omega), List.take_of_length_le (by rw [HO.out]; omega)] at e
     exact ⟨fun _ => e, fun _ => rfl⟩, HBW.out⟩
 ·have hne : ((n : Int) != (o : Int)) = true := bne_iff_ne.2 (by omega)
  go_wp2_with fail
  go_ret
  exact ⟨false, rfl, by
   constructor
   ·intro h0; cases h0
   ·intro h0
    subst h0
    exact absurd (HN.out.symm.trans HO.out) hno, Below.refl _ _⟩
end Go.Proofs.YtegkbagnbnoopaaGreatDoor
