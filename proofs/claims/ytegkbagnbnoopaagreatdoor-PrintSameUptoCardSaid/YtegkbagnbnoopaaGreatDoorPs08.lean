/- the reference's Same -/
import Derived.Test.YtegkbagnbnoopaaGreatDoorPs05
namespace Go.Proofs.YtegkbagnbnoopaaGreatDoor
open Go.ChangeShapes Go.WideShapes Go.ChangeAt Go.RowKit Go.Deep
open Go.Lib (hid)
theorem two_at {w : World} {o1 o2 : Obj} : (((w.alloc o1).alloc o2).drew).heap[w.heap.size]? = some o1 ∧ (((w.alloc o1).alloc o2).drew).heap[w.heap.size + 1]? = some o2 := by
  refine ⟨(show ((w.alloc o1).alloc o2).heap[w.heap.size]? = some o1 from (heap_alloc_old _ _ (by simp)).trans (heap_alloc_new _ _)), (show ((w.alloc o1).alloc o2).heap[w.heap.size + 1]? = some o2 from ?_)⟩
  have := heap_alloc_new (w.alloc o1) o2
  simpa using this
set_option maxRecDepth 100000 in
set_option maxHeartbeats 6400000 in
theorem rsame_step (x y : Qu) (w : World) (va vb : Value) (hx : QuV w va x) (hy : QuV w vb y) (hl : x.ord.length ≤ 1073741824) (hm : y.ord.length ≤ 1073741824)
  (HI : ∀ x' ∈ x.ord, ∀ y' ∈ y.ord, ∀ (u : World) (a b : Value), Below w.heap.size w u → DIs u a (.sl (exsDa [x'.x])) → DIs u b (.sl (exsDa [y'.x])) → Calls Tryz.prog 16 #[a, b] u (EQ u ([x'.x] = [y'.x])))
  (H1 : ∀ (u : World) (a b : Value), Below w.heap.size w u → DIs u a (.sl (qusDa x.parts)) → DIs u b (.sl (qusDa y.parts)) → Calls Tryz.prog 17 #[a, b] u (EQ u (x.parts = y.parts)))
  (H2 : ∀ (u : World) (a b : Value), Below w.heap.size w u → SeV u a x.sel → SeV u b y.sel → Calls Tryz.prog 18 #[a, b] u (EQ u (x.sel = y.sel))) :
  Calls Tryz.prog 7 #[va, vb] w (EQ w (x = y)) := by
 obtain ⟨s0, s1, s2, s3, s4, s5, s6, rfl, h0, h1, h2, h3, h4, h5, h6⟩ := hx
 obtain ⟨t0, t1, t2, t3, t4, t5, t6, rfl, g0, g1, g2, g3, g4, g5, g6⟩ := hy
 obtain ⟨A6, C6, rfl, hc1, hcell1⟩ := obs_rows h6
 obtain ⟨B6, D6, rfl, hc2, hcell2⟩ := obs_rows g6
 obtain ⟨A0, M0, C0, rfl⟩ := dis_slice h0
 obtain ⟨B0, N0, D0, rfl⟩ := dis_slice g0
 obtain ⟨A1, M1, C1, rfl⟩ := dis_slice h1
 obtain ⟨B1, N1, D1, rfl⟩ := dis_slice g1
 obtain ⟨A2, M2, C2, rfl⟩ := dis_slice h2
 obtain ⟨B2, N2, D2, rfl⟩ := dis_slice g2
 obtain ⟨A3, M3, C3, rfl⟩ := dis_slice h3
 obtain ⟨B3, N3, D3, rfl⟩ := dis_slice g3
 obtain ⟨A4, M4, C4, rfl⟩ := dis_slice h4
 obtain ⟨B4, N4, D4, rfl⟩ := dis_slice g4
 obtain ⟨A5, M5, C5, rfl⟩ := dis_slice h5
 obtain ⟨B5, N5, D5, rfl⟩ := dis_slice g5
 have HC1 := hid (fun (u : World) (hu : Below w.heap.size w u) => H1 u _ _ hu (h0.keep hu) (g0.keep hu))
 have HC2 := hid (fun (u : World) (hu : Below w.heap.size w u) => H2 u _ _ hu ⟨_, _, _, _, _, rfl, h1.keep hu, h2.keep hu, h3.keep hu, h4.keep hu, h5.keep hu⟩ ⟨_, _, _, _, _, rfl, g1.keep hu, g2.keep hu, g3.keep hu, g4.keep hu, g5.keep hu⟩)
 have HR1 := hid hcell1
 have HR2 := hid hcell2
 have HI := hid HI
 have HB2 := hid (fun (o1 o2 : Obj) => ((Below.refl w.heap.size w).alloc (Nat.le_refl _) o1).alloc (by simp) o2)
 have HN1 := hid (fun (u : World) (h : Below ((w.alloc (.cells #[.int .i64 x.op, .slice A0 M0 C0, .bool x.sel.dist, .slice A1 M1 C1, .slice A2 M2 C2, .slice A3 M3 C3, .slice A4 M4 C4, .slice A5 M5 C5, .slice A6 x.ord.length C6, .bool x.lim, .int .i64 x.n] 30)).alloc (.cells #[.int .i64 y.op, .slice B0 N0 D0, .bool y.sel.dist, .slice B1 N1 D1, .slice B2 N2 D2, .slice B3 N3 D3, .slice B4 N4 D4, .slice B5 N5 D5, .slice B6 y.ord.length D6, .bool y.lim, .int .i64 y.n] 30)).heap.size ((w.alloc (.cells #[.int .i64 x.op, .slice A0 M0 C0, .bool x.sel.dist, .slice A1 M1 C1, .slice A2 M2 C2, .slice A3 M3 C3, .slice A4 M4 C4, .slice A5 M5 C5, .slice A6 x.ord.length C6, .bool x.lim, .int .i64 x.n] 30)).alloc (.cells #[.int .i64 y.op, .slice B0 N0 D0, .bool y.sel.dist, .slice B1 N1 D1, .slice B2 N2 D2, .slice B3 N3 D3, .slice B4 N4 D4, .slice B5 N5 D5, .slice B6 y.ord.length D6, .bool y.lim, .int .i64 y.n] 30)) u) => two_kept h)
 clear hcell1 hcell2 h0 h1 h2 h3 h4 h5 h6 g0 g1 g2 g3 g4 g5 g6 H1 H2
 generalize hn : x.ord.length = n at *
 generalize ho : y.ord.length = o at *
 generalize hdx : x.lim = dx at *
 generalize hdy : y.lim = dy at *
 have HN := hid hn
 have HO := hid ho
 have HDX := hid hdx
 have HDY := hid hdy
 clear hn ho hdx hdy
 go_enter Tryz.func7, Tryz.ntmps7
 by_cases k_op : x.op = y.op
 ·have b_op : (x.op != y.op) = false := by simp [k_op]
  have K_op := hid k_op
  clear k_op
  by_cases k_lim : dx = dy
  ·subst k_lim
   have K_lim := hid (HDX.out.trans HDY.out.symm)
   by_cases k_n : x.n = y.n
   ·have b_n : (x.n != y.n) = false := by simp [k_n]
    have K_n := hid k_n
    clear k_n
    by_cases hno : n = o
    ·subst hno
     go_wp2_with fail
     go_loopw [5] (fun i wr => ∃ k : Nat, k ≤ n ∧ i = .int .i64 k ∧ Below w.heap.size w wr ∧ Hid (wr.heap[w.heap.size]? = some (.cells #[.int .i64 x.op, .slice A0 M0 C0, .bool x.sel.dist, .slice A1 M1 C1, .slice A2 M2 C2, .slice A3 M3 C3, .slice A4 M4 C4, .slice A5 M5 C5, .slice A6 n C6, .bool dx, .int .i64 x.n] 30 (0, 0))) ∧ Hid (wr.heap[w.heap.size + 1]? = some (.cells #[.int .i64 y.op, .slice B0 N0 D0, .bool y.sel.dist, .slice B1 N1 D1, .slice B2 N2 D2, .slice B3 N3 D3, .slice B4 N4 D4, .slice B5 N5 D5, .slice B6 n D6, .bool dx, .int .i64 y.n] 30 (0, 0))) ∧ Hid (x.ord.take k = y.ord.take k)) (fun i _ => n - (intOf i).toNat)
     case atStart =>
      obtain ⟨z1, z2⟩ := HN1.out _ (Below.refl _ _)
      exact ⟨0, Nat.zero_le _, rfl, HB2.out _ _, hid z1, hid z2, hid rfl⟩
     case round =>
      obtain ⟨k, hk1, rfl, hbw, HX1, HX2, heq⟩ := hrel
      have hsz := hbw.size
      have HBW := hid hbw
      clear hbw
      have hw1 := bx_lt HX1.out
      have hw2 := bx_lt HX2.out
      have c8 := cell_at HX1.out 8 rfl
      have d8 := cell_at HX2.out 8 rfl
      by_cases hlt1 : k < n
      ·obtain ⟨b1, o1, rfl, hb1, hd1⟩ := HR1.out (by omega)
       obtain ⟨b2, o2, rfl, hb2, hd2⟩ := HR2.out (by omega)
       obtain ⟨xi, hx⟩ : ∃ xi, x.ord[k]? = some xi := ⟨_, List.getElem?_eq_getElem (by rw [HN.out]; exact hlt1)⟩
       obtain ⟨yi, hy⟩ : ∃ yi, y.ord[k]? = some yi := ⟨_, List.getElem?_eq_getElem (by rw [HO.out]; exact hlt1)⟩
       obtain ⟨s0, s1, p0, p1, p2, p3, p4, p5, p6, p7, p8, h0, h1⟩ := hd1 k xi hx
       obtain ⟨t0, t1, q0, q1, q2, q3, q4, q5, q6, q7, q8, g0, g1⟩ := hd2 k yi hy
       replace p0 := (HBW.out.cell (p := ⟨b1, o1 + k * 9, none⟩) hb1).trans p0
       replace q0 := (HBW.out.cell (p := ⟨b2, o2 + k * 9, none⟩) hb2).trans q0
       replace p1 := (HBW.out.cell (p := ⟨b1, o1 + k * 9 + 1, none⟩) hb1).trans p1
       replace q1 := (HBW.out.cell (p := ⟨b2, o2 + k * 9 + 1, none⟩) hb2).trans q1
       replace p2 := (HBW.out.cell (p := ⟨b1, o1 + k * 9 + 2, none⟩) hb1).trans p2
       replace q2 := (HBW.out.cell (p := ⟨b2, o2 + k * 9 + 2, none⟩) hb2).trans q2
       replace p3 := (HBW.out.cell (p := ⟨b1, o1 + k * 9 + 3, none⟩) hb1).trans p3
       replace q3 := (HBW.out.cell (p := ⟨b2, o2 + k * 9 + 3, none⟩) hb2).trans q3
       replace p4 := (HBW.out.cell (p := ⟨b1, o1 + k * 9 + 4, none⟩) hb1).trans p4
       replace q4 := (HBW.out.cell (p := ⟨b2, o2 + k * 9 + 4, none⟩) hb2).trans q4
       replace p5 := (HBW.out.cell (p := ⟨b1, o1 + k * 9 + 5, none⟩) hb1).trans p5
       replace q5 := (HBW.out.cell (p := ⟨b2, o2 + k * 9 + 5, none⟩) hb2).trans q5
       replace p6 := (HBW.out.cell (p := ⟨b1, o1 + k * 9 + 6, none⟩) hb1).trans p6
       replace q6 := (HBW.out.cell (p := ⟨b2, o2 + k * 9 + 6, none⟩) hb2).trans q6
       replace p7 := (HBW.out.cell (p := ⟨b1, o1 + k * 9 + 7, none⟩) hb1).trans p7
       replace q7 := (HBW.out.cell (p := ⟨b2, o2 + k * 9 + 7, none⟩) hb2).trans q7
       replace p8 := (HBW.out.cell (p := ⟨b1, o1 + k * 9 + 8, none⟩) hb1).trans p8
       replace q8 := (HBW.out.cell (p := ⟨b2, o2 + k * 9 + 8, none⟩) hb2).trans q8
       obtain ⟨e0, m0, n0, rfl⟩ := dis_slice h0
       obtain ⟨e10, m10, n10, rfl⟩ := dis_slice g0
       obtain ⟨e1, m1, n1, rfl⟩ := dis_slice h1
       obtain ⟨e11, m11, n11, rfl⟩ := dis_slice g1
       generalize hsx : xi.down = sx at *
       generalize hsy : yi.down = sy at *
       have HSX := hid hsx
       have HSY := hid hsy
       clear hsx hsy
       have P0 := hid p0
       have Q0 := hid q0
       have P1 := hid p1
       have Q1 := hid q1
       have P2 := hid p2
       have Q2 := hid q2
       have P3 := hid p3
       have Q3 := hid q3
       have P4 := hid p4
       have Q4 := hid q4
       have P5 := hid p5
       have Q5 := hid q5
       have P6 := hid p6
       have Q6 := hid q6
       have P7 := hid p7
       have Q7 := hid q7
       have P8 := hid p8
       have Q8 := hid q8
       have HCI := hid (fun (u : World) (T U : TypeId) (G H : Nat) (hu : Below wr.heap.size wr u) (hG : u.heap[G]? = some (.cells #[.int .i64 xi.x.op, .string (str xi.x.tb), .string (str xi.x.nm), .int .i64 xi.x.v.k, .int .i64 xi.x.v.n, .string (str xi.x.v.s), .slice e0 m0 n0, .slice e1 m1 n1] T (0, 0))) (hH : u.heap[H]? = some (.cells #[.int .i64 yi.x.op, .string (str yi.x.tb), .string (str yi.x.nm), .int .i64 yi.x.v.k, .int .i64 yi.x.v.n, .string (str yi.x.v.s), .slice e10 m10 n10, .slice e11 m11 n11] U (0, 0))) => HI.out xi (List.mem_of_getElem? hx) yi (List.mem_of_getElem? hy) u (.slice (some ⟨G, 0, none⟩) 1 1) (.slice (some ⟨H, 0, none⟩) 1 1) (HBW.out.trans (hu.mono (by omega)))
        (ex_lit hG (h0.keep (HBW.out.trans (hu.mono (by omega)))) (h1.keep (HBW.out.trans (hu.mono (by omega)))))
        (ex_lit hH (g0.keep (HBW.out.trans (hu.mono (by omega)))) (g1.keep (HBW.out.trans (hu.mono (by omega))))))
       have HX := hid hx
       have HY := hid hy
       have hb1r : b1 < wr.heap.size := by omega
       have hb2r : b2 < wr.heap.size := by omega
       have C8 := hid c8
       have D8 := hid d8
       have hkn : (k : Int) < (n : Int) := by omega
       have hcn1 : (n : Int) ≤ (C6 : Int) := by omega
       have hcn2 : (n : Int) ≤ (D6 : Int) := by omega
       clear hd1 hd2 hx hy h0 h1 g0 g1 p0 q0 p1 q1 p2 q2 p3 q3 p4 q4 p5 q5 p6 q6 p7 q7 p8 q8
       by_cases k_down : sx = sy
       ·subst k_down
        have K_down := hid (HSX.out.trans HSY.out.symm)
        go_wp2_with fail
        clear c8 d8
        refine wp_region_held_drew (S := fun u => Below wr.heap.size wr u) (by kernel_rfl) ((Below.refl wr.heap.size wr).drew) (fun hHeld => ?_)
        refine tk (i := 0) (oi := ⟨some 41, .fieldAddr 30 (.tmp 2) 3, 0, "same.go:73", #[], none⟩) (v := ?_) (Or.inl ⟨by rfl, ?_⟩) ?_
        rotate_left 1
        ·(intro u hSw; go_simp; try with_reducible rfl)
        try simp only [Act.put, sA, sB, sC]
        refine tk (i := 1) (oi := ⟨some 42, .load 28 (.tmp 41), 28, "same.go:73", #[⟨0, .data⟩], none⟩) (v := ?_) (Or.inl ⟨by rfl, ?_⟩) ?_
        rotate_left 1
        ·(intro u hSw; have p0 := (hSw.cell (p := ⟨b1, o1 + k * 9, none⟩) hb1r).trans P0.out; have q0 := (hSw.cell (p := ⟨b2, o2 + k * 9, none⟩) hb2r).trans Q0.out; have p1 := (hSw.cell (p := ⟨b1, o1 + k * 9 + 1, none⟩) hb1r).trans P1.out; have q1 := (hSw.cell (p := ⟨b2, o2 + k * 9 + 1, none⟩) hb2r).trans Q1.out; have p2 := (hSw.cell (p := ⟨b1, o1 + k * 9 + 2, none⟩) hb1r).trans P2.out; have q2 := (hSw.cell (p := ⟨b2, o2 + k * 9 + 2, none⟩) hb2r).trans Q2.out; have p3 := (hSw.cell (p := ⟨b1, o1 + k * 9 + 3, none⟩) hb1r).trans P3.out; have q3 := (hSw.cell (p := ⟨b2, o2 + k * 9 + 3, none⟩) hb2r).trans Q3.out; have p4 := (hSw.cell (p := ⟨b1, o1 + k * 9 + 4, none⟩) hb1r).trans P4.out; have q4 := (hSw.cell (p := ⟨b2, o2 + k * 9 + 4, none⟩) hb2r).trans Q4.out; have p5 := (hSw.cell (p := ⟨b1, o1 + k * 9 + 5, none⟩) hb1r).trans P5.out; have q5 := (hSw.cell (p := ⟨b2, o2 + k * 9 + 5, none⟩) hb2r).trans Q5.out; have p6 := (hSw.cell (p := ⟨b1, o1 + k * 9 + 6, none⟩) hb1r).trans P6.out; have q6 := (hSw.cell (p := ⟨b2, o2 + k * 9 + 6, none⟩) hb2r).trans Q6.out; have p7 := (hSw.cell (p := ⟨b1, o1 + k * 9 + 7, none⟩) hb1r).trans P7.out; have q7 := (hSw.cell (p := ⟨b2, o2 + k * 9 + 7, none⟩) hb2r).trans Q7.out; have p8 := (hSw.cell (p := ⟨b1, o1 + k * 9 + 8, none⟩) hb1r).trans P8.out; have q8 := (hSw.cell (p := ⟨b2, o2 + k * 9 + 8, none⟩) hb2r).trans Q8.out; have c8 := (hSw.cell (p := ⟨w.heap.size, 8, none⟩) hw1).trans C8.out; have d8 := (hSw.cell (p := ⟨w.heap.size + 1, 8, none⟩) hw2).trans D8.out; go_simp; try with_reducible rfl)
        try simp only [Act.put, sA, sB, sC]
        refine tk (i := 2) (oi := ⟨some 43, .move (.tmp 5), 3, "same.go:73", #[], none⟩) (v := ?_) (Or.inl ⟨by rfl, ?_⟩) ?_
        rotate_left 1
        ·(intro u hSw; go_simp; try with_reducible rfl)
        try simp only [Act.put, sA, sB, sC]
        refine tk (i := 3) (oi := ⟨some 44, .indexAddr 28 (.tmp 42) (.tmp 43), 0, "same.go:73", #[⟨1, .data⟩, ⟨2, .data⟩], none⟩) (v := ?_) (Or.inl ⟨by rfl, ?_⟩) ?_
        rotate_left 1
        ·(intro u hSw; go_simp; try with_reducible rfl)
        try simp only [Act.put, sA, sB, sC]
        refine tk (i := 4) (oi := ⟨some 45, .fieldAddr 58 (.tmp 44) 1, 0, "same.go:73", #[⟨3, .data⟩], none⟩) (v := ?_) (Or.inl ⟨by rfl, ?_⟩) ?_
        rotate_left 1
        ·(intro u hSw; go_simp; try with_reducible rfl)
        try simp only [Act.put, sA, sB, sC]
        refine tk (i := 5) (oi := ⟨some 46, .load 4 (.tmp 45), 4, "same.go:73", #[⟨4, .data⟩], none⟩) (v := ?_) (Or.inl ⟨by rfl, ?_⟩) ?_
        rotate_left 1
        ·(intro u hSw; have p0 := (hSw.cell (p := ⟨b1, o1 + k * 9, none⟩) hb1r).trans P0.out; have q0 := (hSw.cell (p := ⟨b2, o2 + k * 9, none⟩) hb2r).trans Q0.out; have p1 := (hSw.cell (p := ⟨b1, o1 + k * 9 + 1, none⟩) hb1r).trans P1.out; have q1 := (hSw.cell (p := ⟨b2, o2 + k * 9 + 1, none⟩) hb2r).trans Q1.out; have p2 := (hSw.cell (p := ⟨b1, o1 + k * 9 + 2, none⟩) hb1r).trans P2.out; have q2 := (hSw.cell (p := ⟨b2, o2 + k * 9 + 2, none⟩) hb2r).trans Q2.out; have p3 := (hSw.cell (p := ⟨b1, o1 + k * 9 + 3, none⟩) hb1r).trans P3.out; have q3 := (hSw.cell (p := ⟨b2, o2 + k * 9 + 3, none⟩) hb2r).trans Q3.out; have p4 := (hSw.cell (p := ⟨b1, o1 + k * 9 + 4, none⟩) hb1r).trans P4.out; have q4 := (hSw.cell (p := ⟨b2, o2 + k * 9 + 4, none⟩) hb2r).trans Q4.out; have p5 := (hSw.cell (p := ⟨b1, o1 + k * 9 + 5, none⟩) hb1r).trans P5.out; have q5 := (hSw.cell (p := ⟨b2, o2 + k * 9 + 5, none⟩) hb2r).trans Q5.out; have p6 := (hSw.cell (p := ⟨b1, o1 + k * 9 + 6, none⟩) hb1r).trans P6.out; have q6 := (hSw.cell (p := ⟨b2, o2 + k * 9 + 6, none⟩) hb2r).trans Q6.out; have p7 := (hSw.cell (p := ⟨b1, o1 + k * 9 + 7, none⟩) hb1r).trans P7.out; have q7 := (hSw.cell (p := ⟨b2, o2 + k * 9 + 7, none⟩) hb2r).trans Q7.out; have p8 := (hSw.cell (p := ⟨b1, o1 + k * 9 + 8, none⟩) hb1r).trans P8.out; have q8 := (hSw.cell (p := ⟨b2, o2 + k * 9 + 8, none⟩) hb2r).trans Q8.out; have c8 := (hSw.cell (p := ⟨w.heap.size, 8, none⟩) hw1).trans C8.out; have d8 := (hSw.cell (p := ⟨w.heap.size + 1, 8, none⟩) hw2).trans D8.out; go_simp; try with_reducible rfl)
        try simp only [Act.put, sA, sB, sC]
        refine tk (i := 6) (oi := ⟨some 47, .fieldAddr 30 (.tmp 3) 3, 0, "same.go:73", #[], none⟩) (v := ?_) (Or.inl ⟨by rfl, ?_⟩) ?_
        rotate_left 1
        ·(intro u hSw; go_simp; try with_reducible rfl)
        try simp only [Act.put, sA, sB, sC]
        refine tk (i := 7) (oi := ⟨some 48, .load 28 (.tmp 47), 28, "same.go:73", #[⟨6, .data⟩], none⟩) (v := ?_) (Or.inl ⟨by rfl, ?_⟩) ?_
        rotate_left 1
        ·(intro u hSw; have p0 := (hSw.cell (p := ⟨b1, o1 + k * 9, none⟩) hb1r).trans P0.out; have q0 := (hSw.cell (p := ⟨b2, o2 + k * 9, none⟩) hb2r).trans Q0.out; have p1 := (hSw.cell (p := ⟨b1, o1 + k * 9 + 1, none⟩) hb1r).trans P1.out; have q1 := (hSw.cell (p := ⟨b2, o2 + k * 9 + 1, none⟩) hb2r).trans Q1.out; have p2 := (hSw.cell (p := ⟨b1, o1 + k * 9 + 2, none⟩) hb1r).trans P2.out; have q2 := (hSw.cell (p := ⟨b2, o2 + k * 9 + 2, none⟩) hb2r).trans Q2.out; have p3 := (hSw.cell (p := ⟨b1, o1 + k * 9 + 3, none⟩) hb1r).trans P3.out; have q3 := (hSw.cell (p := ⟨b2, o2 + k * 9 + 3, none⟩) hb2r).trans Q3.out; have p4 := (hSw.cell (p := ⟨b1, o1 + k * 9 + 4, none⟩) hb1r).trans P4.out; have q4 := (hSw.cell (p := ⟨b2, o2 + k * 9 + 4, none⟩) hb2r).trans Q4.out; have p5 := (hSw.cell (p := ⟨b1, o1 + k * 9 + 5, none⟩) hb1r).trans P5.out; have q5 := (hSw.cell (p := ⟨b2, o2 + k * 9 + 5, none⟩) hb2r).trans Q5.out; have p6 := (hSw.cell (p := ⟨b1, o1 + k * 9 + 6, none⟩) hb1r).trans P6.out; have q6 := (hSw.cell (p := ⟨b2, o2 + k * 9 + 6, none⟩) hb2r).trans Q6.out; have p7 := (hSw.cell (p := ⟨b1, o1 + k * 9 + 7, none⟩) hb1r).trans P7.out; have q7 := (hSw.cell (p := ⟨b2, o2 + k * 9 + 7, none⟩) hb2r).trans Q7.out; have p8 := (hSw.cell (p := ⟨b1, o1 + k * 9 + 8, none⟩) hb1r).trans P8.out; have q8 := (hSw.cell (p := ⟨b2, o2 + k * 9 + 8, none⟩) hb2r).trans Q8.out; have c8 := (hSw.cell (p := ⟨w.heap.size, 8, none⟩) hw1).trans C8.out; have d8 := (hSw.cell (p := ⟨w.heap.size + 1, 8, none⟩) hw2).trans D8.out; go_simp; try with_reducible rfl)
        try simp only [Act.put, sA, sB, sC]
        refine tk (i := 8) (oi := ⟨some 49, .move (.tmp 5), 3, "same.go:73", #[], none⟩) (v := ?_) (Or.inl ⟨by rfl, ?_⟩) ?_
        rotate_left 1
        ·(intro u hSw; go_simp; try with_reducible rfl)
        try simp only [Act.put, sA, sB, sC]
        refine tk (i := 9) (oi := ⟨some 50, .indexAddr 28 (.tmp 48) (.tmp 49), 0, "same.go:73", #[⟨7, .data⟩, ⟨8, .data⟩], none⟩) (v := ?_) (Or.inl ⟨by rfl, ?_⟩) ?_
        rotate_left 1
        ·(intro u hSw; go_simp; try with_reducible rfl)
        try simp only [Act.put, sA, sB, sC]
        refine tk (i := 10) (oi := ⟨some 51, .fieldAddr 58 (.tmp 50) 1, 0, "same.go:73", #[⟨9, .data⟩], none⟩) (v := ?_) (Or.inl ⟨by rfl, ?_⟩) ?_
        rotate_left 1
        ·(intro u hSw; go_simp; try with_reducible rfl)
        try simp only [Act.put, sA, sB, sC]
        refine tk (i := 11) (oi := ⟨some 52, .load 4 (.tmp 51), 4, "same.go:73", #[⟨10, .data⟩], none⟩) (v := ?_) (Or.inl ⟨by rfl, ?_⟩) ?_
        rotate_left 1
        ·(intro u hSw; have p0 := (hSw.cell (p := ⟨b1, o1 + k * 9, none⟩) hb1r).trans P0.out; have q0 := (hSw.cell (p := ⟨b2, o2 + k * 9, none⟩) hb2r).trans Q0.out; have p1 := (hSw.cell (p := ⟨b1, o1 + k * 9 + 1, none⟩) hb1r).trans P1.out; have q1 := (hSw.cell (p := ⟨b2, o2 + k * 9 + 1, none⟩) hb2r).trans Q1.out; have p2 := (hSw.cell (p := ⟨b1, o1 + k * 9 + 2, none⟩) hb1r).trans P2.out; have q2 := (hSw.cell (p := ⟨b2, o2 + k * 9 + 2, none⟩) hb2r).trans Q2.out; have p3 := (hSw.cell (p := ⟨b1, o1 + k * 9 + 3, none⟩) hb1r).trans P3.out; have q3 := (hSw.cell (p := ⟨b2, o2 + k * 9 + 3, none⟩) hb2r).trans Q3.out; have p4 := (hSw.cell (p := ⟨b1, o1 + k * 9 + 4, none⟩) hb1r).trans P4.out; have q4 := (hSw.cell (p := ⟨b2, o2 + k * 9 + 4, none⟩) hb2r).trans Q4.out; have p5 := (hSw.cell (p := ⟨b1, o1 + k * 9 + 5, none⟩) hb1r).trans P5.out; have q5 := (hSw.cell (p := ⟨b2, o2 + k * 9 + 5, none⟩) hb2r).trans Q5.out; have p6 := (hSw.cell (p := ⟨b1, o1 + k * 9 + 6, none⟩) hb1r).trans P6.out; have q6 := (hSw.cell (p := ⟨b2, o2 + k * 9 + 6, none⟩) hb2r).trans Q6.out; have p7 := (hSw.cell (p := ⟨b1, o1 + k * 9 + 7, none⟩) hb1r).trans P7.out; have q7 := (hSw.cell (p := ⟨b2, o2 + k * 9 + 7, none⟩) hb2r).trans Q7.out; have p8 := (hSw.cell (p := ⟨b1, o1 + k * 9 + 8, none⟩) hb1r).trans P8.out; have q8 := (hSw.cell (p := ⟨b2, o2 + k * 9 + 8, none⟩) hb2r).trans Q8.out; have c8 := (hSw.cell (p := ⟨w.heap.size, 8, none⟩) hw1).trans C8.out; have d8 := (hSw.cell (p := ⟨w.heap.size + 1, 8, none⟩) hw2).trans D8.out; go_simp; try with_reducible rfl)
        try simp only [Act.put, sA, sB, sC]
        refine tk (i := 12) (oi := ⟨some 53, .binOp BinOp.neq 4 (.tmp 46) (.tmp 52) 4, 4, "same.go:73", #[⟨5, .data⟩, ⟨11, .data⟩], none⟩) (v := .bool false) (Or.inl ⟨by rfl, ?_⟩) ?_
        ·intro u hSw
         go_simp
        try simp only [Act.put, sA, sB, sC]
        refine tk (i := 13) (oi := ⟨some 54, .move (.tmp 53), 4, "same.go:73", #[⟨12, .data⟩], none⟩) (v := ?_) (Or.inl ⟨by rfl, ?_⟩) ?_
        rotate_left 1
        ·(intro u hSw; go_simp; try with_reducible rfl)
        try simp only [Act.put, sA, sB, sC]
        refine tk (i := 14) (oi := ⟨some 55, .fieldAddr 30 (.tmp 2) 3, 0, "same.go:73", #[⟨13, .guard⟩], some (13, false)⟩) (v := ?_) (Or.inl ⟨by rfl, ?_⟩) ?_
        rotate_left 1
        ·(intro u hSw; go_simp; try with_reducible rfl)
        try simp only [Act.put, sA, sB, sC]
        refine tk (i := 15) (oi := ⟨some 56, .load 28 (.tmp 55), 28, "same.go:73", #[⟨14, .data⟩, ⟨13, .guard⟩], some (13, false)⟩) (v := ?_) (Or.inl ⟨by rfl, ?_⟩) ?_
        rotate_left 1
        ·(intro u hSw; have p0 := (hSw.cell (p := ⟨b1, o1 + k * 9, none⟩) hb1r).trans P0.out; have q0 := (hSw.cell (p := ⟨b2, o2 + k * 9, none⟩) hb2r).trans Q0.out; have p1 := (hSw.cell (p := ⟨b1, o1 + k * 9 + 1, none⟩) hb1r).trans P1.out; have q1 := (hSw.cell (p := ⟨b2, o2 + k * 9 + 1, none⟩) hb2r).trans Q1.out; have p2 := (hSw.cell (p := ⟨b1, o1 + k * 9 + 2, none⟩) hb1r).trans P2.out; have q2 := (hSw.cell (p := ⟨b2, o2 + k * 9 + 2, none⟩) hb2r).trans Q2.out; have p3 := (hSw.cell (p := ⟨b1, o1 + k * 9 + 3, none⟩) hb1r).trans P3.out; have q3 := (hSw.cell (p := ⟨b2, o2 + k * 9 + 3, none⟩) hb2r).trans Q3.out; have p4 := (hSw.cell (p := ⟨b1, o1 + k * 9 + 4, none⟩) hb1r).trans P4.out; have q4 := (hSw.cell (p := ⟨b2, o2 + k * 9 + 4, none⟩) hb2r).trans Q4.out; have p5 := (hSw.cell (p := ⟨b1, o1 + k * 9 + 5, none⟩) hb1r).trans P5.out; have q5 := (hSw.cell (p := ⟨b2, o2 + k * 9 + 5, none⟩) hb2r).trans Q5.out; have p6 := (hSw.cell (p := ⟨b1, o1 + k * 9 + 6, none⟩) hb1r).trans P6.out; have q6 := (hSw.cell (p := ⟨b2, o2 + k * 9 + 6, none⟩) hb2r).trans Q6.out; have p7 := (hSw.cell (p := ⟨b1, o1 + k * 9 + 7, none⟩) hb1r).trans P7.out; have q7 := (hSw.cell (p := ⟨b2, o2 + k * 9 + 7, none⟩) hb2r).trans Q7.out; have p8 := (hSw.cell (p := ⟨b1, o1 + k * 9 + 8, none⟩) hb1r).trans P8.out; have q8 := (hSw.cell (p := ⟨b2, o2 + k * 9 + 8, none⟩) hb2r).trans Q8.out; have c8 := (hSw.cell (p := ⟨w.heap.size, 8, none⟩) hw1).trans C8.out; have d8 := (hSw.cell (p := ⟨w.heap.size + 1, 8, none⟩) hw2).trans D8.out; go_simp; try with_reducible rfl)
        try simp only [Act.put, sA, sB, sC]
        refine tk (i := 16) (oi := ⟨some 57, .move (.tmp 5), 3, "same.go:73", #[⟨13, .guard⟩], some (13, false)⟩) (v := ?_) (Or.inl ⟨by rfl, ?_⟩) ?_
        rotate_left 1
        ·(intro u hSw; go_simp; try with_reducible rfl)
        try simp only [Act.put, sA, sB, sC]
        refine tk (i := 17) (oi := ⟨some 58, .indexAddr 28 (.tmp 56) (.tmp 57), 0, "same.go:73", #[⟨15, .data⟩, ⟨16, .data⟩, ⟨13, .guard⟩], some (13, false)⟩) (v := ?_) (Or.inl ⟨by rfl, ?_⟩) ?_
        rotate_left 1
        ·(intro u hSw; go_simp; try with_reducible rfl)
        try simp only [Act.put, sA, sB, sC]
        refine tk (i := 18) (oi := ⟨some 59, .fieldAddr 58 (.tmp 58) 0, 0, "same.go:73", #[⟨17, .data⟩, ⟨13, .guard⟩], some (13, false)⟩) (v := ?_) (Or.inl ⟨by rfl, ?_⟩) ?_
        rotate_left 1
        ·(intro u hSw; go_simp; try with_reducible rfl)
        try simp only [Act.put, sA, sB, sC]
        refine tk (i := 19) (oi := ⟨some 60, .load 40 (.tmp 59), 40, "same.go:73", #[⟨18, .data⟩, ⟨13, .guard⟩], some (13, false)⟩) (v := ?_) (Or.inl ⟨by rfl, ?_⟩) ?_
        rotate_left 1
        ·(intro u hSw; have p0 := (hSw.cell (p := ⟨b1, o1 + k * 9, none⟩) hb1r).trans P0.out; have q0 := (hSw.cell (p := ⟨b2, o2 + k * 9, none⟩) hb2r).trans Q0.out; have p1 := (hSw.cell (p := ⟨b1, o1 + k * 9 + 1, none⟩) hb1r).trans P1.out; have q1 := (hSw.cell (p := ⟨b2, o2 + k * 9 + 1, none⟩) hb2r).trans Q1.out; have p2 := (hSw.cell (p := ⟨b1, o1 + k * 9 + 2, none⟩) hb1r).trans P2.out; have q2 := (hSw.cell (p := ⟨b2, o2 + k * 9 + 2, none⟩) hb2r).trans Q2.out; have p3 := (hSw.cell (p := ⟨b1, o1 + k * 9 + 3, none⟩) hb1r).trans P3.out; have q3 := (hSw.cell (p := ⟨b2, o2 + k * 9 + 3, none⟩) hb2r).trans Q3.out; have p4 := (hSw.cell (p := ⟨b1, o1 + k * 9 + 4, none⟩) hb1r).trans P4.out; have q4 := (hSw.cell (p := ⟨b2, o2 + k * 9 + 4, none⟩) hb2r).trans Q4.out; have p5 := (hSw.cell (p := ⟨b1, o1 + k * 9 + 5, none⟩) hb1r).trans P5.out; have q5 := (hSw.cell (p := ⟨b2, o2 + k * 9 + 5, none⟩) hb2r).trans Q5.out; have p6 := (hSw.cell (p := ⟨b1, o1 + k * 9 + 6, none⟩) hb1r).trans P6.out; have q6 := (hSw.cell (p := ⟨b2, o2 + k * 9 + 6, none⟩) hb2r).trans Q6.out; have p7 := (hSw.cell (p := ⟨b1, o1 + k * 9 + 7, none⟩) hb1r).trans P7.out; have q7 := (hSw.cell (p := ⟨b2, o2 + k * 9 + 7, none⟩) hb2r).trans Q7.out; have p8 := (hSw.cell (p := ⟨b1, o1 + k * 9 + 8, none⟩) hb1r).trans P8.out; have q8 := (hSw.cell (p := ⟨b2, o2 + k * 9 + 8, none⟩) hb2r).trans Q8.out; have c8 := (hSw.cell (p := ⟨w.heap.size, 8, none⟩) hw1).trans C8.out; have d8 := (hSw.cell (p := ⟨w.heap.size + 1, 8, none⟩) hw2).trans D8.out; go_simp; try with_reducible rfl)
        try simp only [Act.put, sA, sB, sC]
        refine tk (i := 21) (oi := ⟨some 62, .fieldAddr 30 (.tmp 3) 3, 0, "same.go:73", #[⟨13, .guard⟩], some (13, false)⟩) (v := ?_) (Or.inl ⟨by rfl, ?_⟩) ?_
        rotate_left 1
        ·(intro u hSw; go_simp; try with_reducible rfl)
        try simp only [Act.put, sA, sB, sC]
        refine tk (i := 22) (oi := ⟨some 63, .load 28 (.tmp 62), 28, "same.go:73", #[⟨21, .data⟩, ⟨13, .guard⟩], some (13, false)⟩) (v := ?_) (Or.inl ⟨by rfl, ?_⟩) ?_
        rotate_left 1
        ·(intro u hSw; have p0 := (hSw.cell (p := ⟨b1, o1 + k * 9, none⟩) hb1r).trans P0.out; have q0 := (hSw.cell (p := ⟨b2, o2 + k * 9, none⟩) hb2r).trans Q0.out; have p1 := (hSw.cell (p := ⟨b1, o1 + k * 9 + 1, none⟩) hb1r).trans P1.out; have q1 := (hSw.cell (p := ⟨b2, o2 + k * 9 + 1, none⟩) hb2r).trans Q1.out; have p2 := (hSw.cell (p := ⟨b1, o1 + k * 9 + 2, none⟩) hb1r).trans P2.out; have q2 := (hSw.cell (p := ⟨b2, o2 + k * 9 + 2, none⟩) hb2r).trans Q2.out; have p3 := (hSw.cell (p := ⟨b1, o1 + k * 9 + 3, none⟩) hb1r).trans P3.out; have q3 := (hSw.cell (p := ⟨b2, o2 + k * 9 + 3, none⟩) hb2r).trans Q3.out; have p4 := (hSw.cell (p := ⟨b1, o1 + k * 9 + 4, none⟩) hb1r).trans P4.out; have q4 := (hSw.cell (p := ⟨b2, o2 + k * 9 + 4, none⟩) hb2r).trans Q4.out; have p5 := (hSw.cell (p := ⟨b1, o1 + k * 9 + 5, none⟩) hb1r).trans P5.out; have q5 := (hSw.cell (p := ⟨b2, o2 + k * 9 + 5, none⟩) hb2r).trans Q5.out; have p6 := (hSw.cell (p := ⟨b1, o1 + k * 9 + 6, none⟩) hb1r).trans P6.out; have q6 := (hSw.cell (p := ⟨b2, o2 + k * 9 + 6, none⟩) hb2r).trans Q6.out; have p7 := (hSw.cell (p := ⟨b1, o1 + k * 9 + 7, none⟩) hb1r).trans P7.out; have q7 := (hSw.cell (p := ⟨b2, o2 + k * 9 + 7, none⟩) hb2r).trans Q7.out; have p8 := (hSw.cell (p := ⟨b1, o1 + k * 9 + 8, none⟩) hb1r).trans P8.out; have q8 := (hSw.cell (p := ⟨b2, o2 + k * 9 + 8, none⟩) hb2r).trans Q8.out; have c8 := (hSw.cell (p := ⟨w.heap.size, 8, none⟩) hw1).trans C8.out; have d8 := (hSw.cell (p := ⟨w.heap.size + 1, 8, none⟩) hw2).trans D8.out; go_simp; try with_reducible rfl)
        try simp only [Act.put, sA, sB, sC]
        refine tk (i := 23) (oi := ⟨some 64, .move (.tmp 5), 3, "same.go:73", #[⟨13, .guard⟩], some (13, false)⟩) (v := ?_) (Or.inl ⟨by rfl, ?_⟩) ?_
        rotate_left 1
        ·(intro u hSw; go_simp; try with_reducible rfl)
        try simp only [Act.put, sA, sB, sC]
        refine tk (i := 24) (oi := ⟨some 65, .indexAddr 28 (.tmp 63) (.tmp 64), 0, "same.go:73", #[⟨22, .data⟩, ⟨23, .data⟩, ⟨13, .guard⟩], some (13, false)⟩) (v := ?_) (Or.inl ⟨by rfl, ?_⟩) ?_
        rotate_left 1
        ·(intro u hSw; go_simp; try with_reducible rfl)
        try simp only [Act.put, sA, sB, sC]
        refine tk (i := 25) (oi := ⟨some 66, .fieldAddr 58 (.tmp 65) 0, 0, "same.go:73", #[⟨24, .data⟩, ⟨13, .guard⟩], some (13, false)⟩) (v := ?_) (Or.inl ⟨by rfl, ?_⟩) ?_
        rotate_left 1
        ·(intro u hSw; go_simp; try with_reducible rfl)
        try simp only [Act.put, sA, sB, sC]
        refine tk (i := 26) (oi := ⟨some 67, .load 40 (.tmp 66), 40, "same.go:73", #[⟨25, .data⟩, ⟨13, .guard⟩], some (13, false)⟩) (v := ?_) (Or.inl ⟨by rfl, ?_⟩) ?_
        rotate_left 1
        ·(intro u hSw; have p0 := (hSw.cell (p := ⟨b1, o1 + k * 9, none⟩) hb1r).trans P0.out; have q0 := (hSw.cell (p := ⟨b2, o2 + k * 9, none⟩) hb2r).trans Q0.out; have p1 := (hSw.cell (p := ⟨b1, o1 + k * 9 + 1, none⟩) hb1r).trans P1.out; have q1 := (hSw.cell (p := ⟨b2, o2 + k * 9 + 1, none⟩) hb2r).trans Q1.out; have p2 := (hSw.cell (p := ⟨b1, o1 + k * 9 + 2, none⟩) hb1r).trans P2.out; have q2 := (hSw.cell (p := ⟨b2, o2 + k * 9 + 2, none⟩) hb2r).trans Q2.out; have p3 := (hSw.cell (p := ⟨b1, o1 + k * 9 + 3, none⟩) hb1r).trans P3.out; have q3 := (hSw.cell (p := ⟨b2, o2 + k * 9 + 3, none⟩) hb2r).trans Q3.out; have p4 := (hSw.cell (p := ⟨b1, o1 + k * 9 + 4, none⟩) hb1r).trans P4.out; have q4 := (hSw.cell (p := ⟨b2, o2 + k * 9 + 4, none⟩) hb2r).trans Q4.out; have p5 := (hSw.cell (p := ⟨b1, o1 + k * 9 + 5, none⟩) hb1r).trans P5.out; have q5 := (hSw.cell (p := ⟨b2, o2 + k * 9 + 5, none⟩) hb2r).trans Q5.out; have p6 := (hSw.cell (p := ⟨b1, o1 + k * 9 + 6, none⟩) hb1r).trans P6.out; have q6 := (hSw.cell (p := ⟨b2, o2 + k * 9 + 6, none⟩) hb2r).trans Q6.out; have p7 := (hSw.cell (p := ⟨b1, o1 + k * 9 + 7, none⟩) hb1r).trans P7.out; have q7 := (hSw.cell (p := ⟨b2, o2 + k * 9 + 7, none⟩) hb2r).trans Q7.out; have p8 := (hSw.cell (p := ⟨b1, o1 + k * 9 + 8, none⟩) hb1r).trans P8.out; have q8 := (hSw.cell (p := ⟨b2, o2 + k * 9 + 8, none⟩) hb2r).trans Q8.out; have c8 := (hSw.cell (p := ⟨w.heap.size, 8, none⟩) hw1).trans C8.out; have d8 := (hSw.cell (p := ⟨w.heap.size + 1, 8, none⟩) hw2).trans D8.out; go_simp; try with_reducible rfl)
        try simp only [Act.put, sA, sB, sC]
        refine wpAnyH_ready (rs := [20, 27]) (by kernel_rfl) (by simp) ?_
        refine AllReadyH.cons (o := ⟨some 61, .buildSlice 25 1 #[(0, .tmp 60)], 25, "same.go:73", #[⟨19, .data⟩, ⟨13, .guard⟩], some (13, false)⟩) rfl (fun K hK => ?_) (AllReadyH.cons (o := ⟨some 68, .buildSlice 25 1 #[(0, .tmp 67)], 25, "same.go:73", #[⟨26, .data⟩, ⟨13, .guard⟩], some (13, false)⟩) rfl (fun K hK => ?_) AllReadyH.nil)
        go_simp
        refine hK.out _ _ (hHeld.alloc hHeld.size _) (fun hHeld => ?_)
        clear hK K
        try simp only [Act.put, sA, sB, sC]
        refine wpAnyH_ready (rs := [27]) (by kernel_rfl) (by simp) ?_
        refine AllReadyH.cons (o := ⟨some 68, .buildSlice 25 1 #[(0, .tmp 67)], 25, "same.go:73", #[⟨26, .data⟩, ⟨13, .guard⟩], some (13, false)⟩) rfl (fun K hK => ?_) AllReadyH.nil
        go_simp
        refine hK.out _ _ (hHeld.alloc hHeld.size _) (fun hHeld => ?_)
        clear hK K
        try simp only [Act.put, sA, sB, sC]
        rotate_left 1
        go_simp
        refine hK.out _ _ (hHeld.alloc hHeld.size _) (fun hHeld => ?_)
        clear hK K
        try simp only [Act.put, sA, sB, sC]
        refine wpAnyH_ready (rs := [20]) (by kernel_rfl) (by simp) ?_
        refine AllReadyH.cons (o := ⟨some 61, .buildSlice 25 1 #[(0, .tmp 60)], 25, "same.go:73", #[⟨19, .data⟩, ⟨13, .guard⟩], some (13, false)⟩) rfl (fun K hK => ?_) AllReadyH.nil
        go_simp
        refine hK.out _ _ (hHeld.alloc hHeld.size _) (fun hHeld => ?_)
        clear hK K
        try simp only [Act.put, sA, sB, sC]
        rotate_left 1
        all_goals
         refine wpAnyH_ready (rs := [28]) (by kernel_rfl) (by simp) ?_
         refine AllReadyH.cons (o := ⟨some 69, .call ⟨.value (.func 16), #[.tmp 61, .tmp 68], #[25, 25]⟩, 4, "same.go:73", #[⟨20, .data⟩, ⟨27, .data⟩, ⟨13, .chain⟩, ⟨13, .guard⟩], some (13, false)⟩) rfl (fun K hK => ?_) AllReadyH.nil
         go_simp
         go_at_call 16
         refine (HCI.out _ _ _ _ _ hHeld (by first | exact two_at.1 | exact two_at.2) (by first | exact two_at.1 | exact two_at.2)).mono ?_
         rintro e w' ⟨c, rfl, hc, hb⟩
         have HE := hid hc
         clear hc
         go_wp2_with fail
         refine hK.out _ _ (hHeld.trans (hb.mono hHeld.size)) (fun hHeld => ?_)
         clear hK K
         try simp only [Act.put, sA, sB, sC]
         refine tk (i := 29) (oi := ⟨some 70, .unOp UnOp.not 4 (.tmp 69), 4, "same.go:73", #[⟨28, .data⟩, ⟨13, .guard⟩], some (13, false)⟩) (v := ?_) (Or.inl ⟨by rfl, ?_⟩) ?_
         rotate_left 1
         ·(intro u hSw; go_simp; try with_reducible rfl)
         try simp only [Act.put, sA, sB, sC]
         refine tk (i := 30) (oi := ⟨some 71, .pick (.tmp 54) (.const (Value.bool true)) (.tmp 70), 4, "same.go:73", #[⟨13, .data⟩, ⟨29, .data⟩], none⟩) (v := ?_) (Or.inl ⟨by rfl, ?_⟩) ?_
         rotate_left 1
         ·(intro u hSw; go_simp; try with_reducible rfl)
         try simp only [Act.put, sA, sB, sC]
         refine wpAnyH_done (by kernel_rfl) ?_ _
        all_goals
         have HH := hid hHeld
         clear hHeld
         cases c
         ·go_wp2_with fail
          go_ret
          exact ⟨false, rfl, by
           have f0 := at_ne HX.out HY.out (by have f0 := HE.out; rw [Ne, ob_eq_iff]; simp at f0; simp [f0])
           constructor
           ·intro h; cases h
           ·intro h; rw [h] at f0; exact f0.2 rfl, HBW.out.trans (HH.out.mono (by omega))⟩
         ·go_wp2_with fail
          go_roundw
          case rel => exact ⟨k + 1, by omega, by go_num, HBW.out.trans (HH.out.mono (by omega)), hid ((HH.out.block _ hw1).trans HX1.out), hid ((HH.out.block _ hw2).trans HX2.out), hid (by
            have e : xi = yi := by have f0 := HE.out; rw [ob_eq_iff]; simp at f0; simp [K_down.out, f0]
            rw [List.take_add_one, List.take_add_one, heq.out, HX.out, HY.out, e])⟩
          case measure => simp [intOf]; omega
       ·have K_down := hid (show ¬ xi.down = yi.down from by rw [HSX.out, HSY.out]; exact k_down)
        go_wp2_with fail
        clear c8 d8
        refine wp_region_held_drew (S := fun u => Below wr.heap.size wr u) (by kernel_rfl) ((Below.refl wr.heap.size wr).drew) (fun hHeld => ?_)
        refine tk (i := 0) (oi := ⟨some 41, .fieldAddr 30 (.tmp 2) 3, 0, "same.go:73", #[], none⟩) (v := ?_) (Or.inl ⟨by rfl, ?_⟩) ?_
        rotate_left 1
        ·(intro u hSw; go_simp; try with_reducible rfl)
        try simp only [Act.put, sA, sB, sC]
        refine tk (i := 1) (oi := ⟨some 42, .load 28 (.tmp 41), 28, "same.go:73", #[⟨0, .data⟩], none⟩) (v := ?_) (Or.inl ⟨by rfl, ?_⟩) ?_
        rotate_left 1
        ·(intro u hSw; have p0 := (hSw.cell (p := ⟨b1, o1 + k * 9, none⟩) hb1r).trans P0.out; have q0 := (hSw.cell (p := ⟨b2, o2 + k * 9, none⟩) hb2r).trans Q0.out; have p1 := (hSw.cell (p := ⟨b1, o1 + k * 9 + 1, none⟩) hb1r).trans P1.out; have q1 := (hSw.cell (p := ⟨b2, o2 + k * 9 + 1, none⟩) hb2r).trans Q1.out; have p2 := (hSw.cell (p := ⟨b1, o1 + k * 9 + 2, none⟩) hb1r).trans P2.out; have q2 := (hSw.cell (p := ⟨b2, o2 + k * 9 + 2, none⟩) hb2r).trans Q2.out; have p3 := (hSw.cell (p := ⟨b1, o1 + k * 9 + 3, none⟩) hb1r).trans P3.out; have q3 := (hSw.cell (p := ⟨b2, o2 + k * 9 + 3, none⟩) hb2r).trans Q3.out; have p4 := (hSw.cell (p := ⟨b1, o1 + k * 9 + 4, none⟩) hb1r).trans P4.out; have q4 := (hSw.cell (p := ⟨b2, o2 + k * 9 + 4, none⟩) hb2r).trans Q4.out; have p5 := (hSw.cell (p := ⟨b1, o1 + k * 9 + 5, none⟩) hb1r).trans P5.out; have q5 := (hSw.cell (p := ⟨b2, o2 + k * 9 + 5, none⟩) hb2r).trans Q5.out; have p6 := (hSw.cell (p := ⟨b1, o1 + k * 9 + 6, none⟩) hb1r).trans P6.out; have q6 := (hSw.cell (p := ⟨b2, o2 + k * 9 + 6, none⟩) hb2r).trans Q6.out; have p7 := (hSw.cell (p := ⟨b1, o1 + k * 9 + 7, none⟩) hb1r).trans P7.out; have q7 := (hSw.cell (p := ⟨b2, o2 + k * 9 + 7, none⟩) hb2r).trans Q7.out; have p8 := (hSw.cell (p := ⟨b1, o1 + k * 9 + 8, none⟩) hb1r).trans P8.out; have q8 := (hSw.cell (p := ⟨b2, o2 + k * 9 + 8, none⟩) hb2r).trans Q8.out; have c8 := (hSw.cell (p := ⟨w.heap.size, 8, none⟩) hw1).trans C8.out; have d8 := (hSw.cell (p := ⟨w.heap.size + 1, 8, none⟩) hw2).trans D8.out; go_simp; try with_reducible rfl)
        try simp only [Act.put, sA, sB, sC]
        refine tk (i := 2) (oi := ⟨some 43, .move (.tmp 5), 3, "same.go:73", #[], none⟩) (v := ?_) (Or.inl ⟨by rfl, ?_⟩) ?_
        rotate_left 1
        ·(intro u hSw; go_simp; try with_reducible rfl)
        try simp only [Act.put, sA, sB, sC]
        refine tk (i := 3) (oi := ⟨some 44, .indexAddr 28 (.tmp 42) (.tmp 43), 0, "same.go:73", #[⟨1, .data⟩, ⟨2, .data⟩], none⟩) (v := ?_) (Or.inl ⟨by rfl, ?_⟩) ?_
        rotate_left 1
        ·(intro u hSw; go_simp; try with_reducible rfl)
        try simp only [Act.put, sA, sB, sC]
        refine tk (i := 4) (oi := ⟨some 45, .fieldAddr 58 (.tmp 44) 1, 0, "same.go:73", #[⟨3, .data⟩], none⟩) (v := ?_) (Or.inl ⟨by rfl, ?_⟩) ?_
        rotate_left 1
        ·(intro u hSw; go_simp; try with_reducible rfl)
        try simp only [Act.put, sA, sB, sC]
        refine tk (i := 5) (oi := ⟨some 46, .load 4 (.tmp 45), 4, "same.go:73", #[⟨4, .data⟩], none⟩) (v := ?_) (Or.inl ⟨by rfl, ?_⟩) ?_
        rotate_left 1
        ·(intro u hSw; have p0 := (hSw.cell (p := ⟨b1, o1 + k * 9, none⟩) hb1r).trans P0.out; have q0 := (hSw.cell (p := ⟨b2, o2 + k * 9, none⟩) hb2r).trans Q0.out; have p1 := (hSw.cell (p := ⟨b1, o1 + k * 9 + 1, none⟩) hb1r).trans P1.out; have q1 := (hSw.cell (p := ⟨b2, o2 + k * 9 + 1, none⟩) hb2r).trans Q1.out; have p2 := (hSw.cell (p := ⟨b1, o1 + k * 9 + 2, none⟩) hb1r).trans P2.out; have q2 := (hSw.cell (p := ⟨b2, o2 + k * 9 + 2, none⟩) hb2r).trans Q2.out; have p3 := (hSw.cell (p := ⟨b1, o1 + k * 9 + 3, none⟩) hb1r).trans P3.out; have q3 := (hSw.cell (p := ⟨b2, o2 + k * 9 + 3, none⟩) hb2r).trans Q3.out; have p4 := (hSw.cell (p := ⟨b1, o1 + k * 9 + 4, none⟩) hb1r).trans P4.out; have q4 := (hSw.cell (p := ⟨b2, o2 + k * 9 + 4, none⟩) hb2r).trans Q4.out; have p5 := (hSw.cell (p := ⟨b1, o1 + k * 9 + 5, none⟩) hb1r).trans P5.out; have q5 := (hSw.cell (p := ⟨b2, o2 + k * 9 + 5, none⟩) hb2r).trans Q5.out; have p6 := (hSw.cell (p := ⟨b1, o1 + k * 9 + 6, none⟩) hb1r).trans P6.out; have q6 := (hSw.cell (p := ⟨b2, o2 + k * 9 + 6, none⟩) hb2r).trans Q6.out; have p7 := (hSw.cell (p := ⟨b1, o1 + k * 9 + 7, none⟩) hb1r).trans P7.out; have q7 := (hSw.cell (p := ⟨b2, o2 + k * 9 + 7, none⟩) hb2r).trans Q7.out; have p8 := (hSw.cell (p := ⟨b1, o1 + k * 9 + 8, none⟩) hb1r).trans P8.out; have q8 := (hSw.cell (p := ⟨b2, o2 + k * 9 + 8, none⟩) hb2r).trans Q8.out; have c8 := (hSw.cell (p := ⟨w.heap.size, 8, none⟩) hw1).trans C8.out; have d8 := (hSw.cell (p := ⟨w.heap.size + 1, 8, none⟩) hw2).trans D8.out; go_simp; try with_reducible rfl)
        try simp only [Act.put, sA, sB, sC]
        refine tk (i := 6) (oi := ⟨some 47, .fieldAddr 30 (.tmp 3) 3, 0, "same.go:73", #[], none⟩) (v := ?_) (Or.inl ⟨by rfl, ?_⟩) ?_
        rotate_left 1
        ·(intro u hSw; go_simp; try with_reducible rfl)
        try simp only [Act.put, sA, sB, sC]
        refine tk (i := 7) (oi := ⟨some 48, .load 28 (.tmp 47), 28, "same.go:73", #[⟨6, .data⟩], none⟩) (v := ?_) (Or.inl ⟨by rfl, ?_⟩) ?_
        rotate_left 1
        ·(intro u hSw; have p0 := (hSw.cell (p := ⟨b1, o1 + k * 9, none⟩) hb1r).trans P0.out; have q0 := (hSw.cell (p := ⟨b2, o2 + k * 9, none⟩) hb2r).trans Q0.out; have p1 := (hSw.cell (p := ⟨b1, o1 + k * 9 + 1, none⟩) hb1r).trans P1.out; have q1 := (hSw.cell (p := ⟨b2, o2 + k * 9 + 1, none⟩) hb2r).trans Q1.out; have p2 := (hSw.cell (p := ⟨b1, o1 + k * 9 + 2, none⟩) hb1r).trans P2.out; have q2 := (hSw.cell (p := ⟨b2, o2 + k * 9 + 2, none⟩) hb2r).trans Q2.out; have p3 := (hSw.cell (p := ⟨b1, o1 + k * 9 + 3, none⟩) hb1r).trans P3.out; have q3 := (hSw.cell (p := ⟨b2, o2 + k * 9 + 3, none⟩) hb2r).trans Q3.out; have p4 := (hSw.cell (p := ⟨b1, o1 + k * 9 + 4, none⟩) hb1r).trans P4.out; have q4 := (hSw.cell (p := ⟨b2, o2 + k * 9 + 4, none⟩) hb2r).trans Q4.out; have p5 := (hSw.cell (p := ⟨b1, o1 + k * 9 + 5, none⟩) hb1r).trans P5.out; have q5 := (hSw.cell (p := ⟨b2, o2 + k * 9 + 5, none⟩) hb2r).trans Q5.out; have p6 := (hSw.cell (p := ⟨b1, o1 + k * 9 + 6, none⟩) hb1r).trans P6.out; have q6 := (hSw.cell (p := ⟨b2, o2 + k * 9 + 6, none⟩) hb2r).trans Q6.out; have p7 := (hSw.cell (p := ⟨b1, o1 + k * 9 + 7, none⟩) hb1r).trans P7.out; have q7 := (hSw.cell (p := ⟨b2, o2 + k * 9 + 7, none⟩) hb2r).trans Q7.out; have p8 := (hSw.cell (p := ⟨b1, o1 + k * 9 + 8, none⟩) hb1r).trans P8.out; have q8 := (hSw.cell (p := ⟨b2, o2 + k * 9 + 8, none⟩) hb2r).trans Q8.out; have c8 := (hSw.cell (p := ⟨w.heap.size, 8, none⟩) hw1).trans C8.out; have d8 := (hSw.cell (p := ⟨w.heap.size + 1, 8, none⟩) hw2).trans D8.out; go_simp; try with_reducible rfl)
        try simp only [Act.put, sA, sB, sC]
        refine tk (i := 8) (oi := ⟨some 49, .move (.tmp 5), 3, "same.go:73", #[], none⟩) (v := ?_) (Or.inl ⟨by rfl, ?_⟩) ?_
        rotate_left 1
        ·(intro u hSw; go_simp; try with_reducible rfl)
        try simp only [Act.put, sA, sB, sC]
        refine tk (i := 9) (oi := ⟨some 50, .indexAddr 28 (.tmp 48) (.tmp 49), 0, "same.go:73", #[⟨7, .data⟩, ⟨8, .data⟩], none⟩) (v := ?_) (Or.inl ⟨by rfl, ?_⟩) ?_
        rotate_left 1
        ·(intro u hSw; go_simp; try with_reducible rfl)
        try simp only [Act.put, sA, sB, sC]
        refine tk (i := 10) (oi := ⟨some 51, .fieldAddr 58 (.tmp 50) 1, 0, "same.go:73", #[⟨9, .data⟩], none⟩) (v := ?_) (Or.inl ⟨by rfl, ?_⟩) ?_
        rotate_left 1
        ·(intro u hSw; go_simp; try with_reducible rfl)
        try simp only [Act.put, sA, sB, sC]
        refine tk (i := 11) (oi := ⟨some 52, .load 4 (.tmp 51), 4, "same.go:73", #[⟨10, .data⟩], none⟩) (v := ?_) (Or.inl ⟨by rfl, ?_⟩) ?_
        rotate_left 1
        ·(intro u hSw; have p0 := (hSw.cell (p := ⟨b1, o1 + k * 9, none⟩) hb1r).trans P0.out; have q0 := (hSw.cell (p := ⟨b2, o2 + k * 9, none⟩) hb2r).trans Q0.out; have p1 := (hSw.cell (p := ⟨b1, o1 + k * 9 + 1, none⟩) hb1r).trans P1.out; have q1 := (hSw.cell (p := ⟨b2, o2 + k * 9 + 1, none⟩) hb2r).trans Q1.out; have p2 := (hSw.cell (p := ⟨b1, o1 + k * 9 + 2, none⟩) hb1r).trans P2.out; have q2 := (hSw.cell (p := ⟨b2, o2 + k * 9 + 2, none⟩) hb2r).trans Q2.out; have p3 := (hSw.cell (p := ⟨b1, o1 + k * 9 + 3, none⟩) hb1r).trans P3.out; have q3 := (hSw.cell (p := ⟨b2, o2 + k * 9 + 3, none⟩) hb2r).trans Q3.out; have p4 := (hSw.cell (p := ⟨b1, o1 + k * 9 + 4, none⟩) hb1r).trans P4.out; have q4 := (hSw.cell (p := ⟨b2, o2 + k * 9 + 4, none⟩) hb2r).trans Q4.out; have p5 := (hSw.cell (p := ⟨b1, o1 + k * 9 + 5, none⟩) hb1r).trans P5.out; have q5 := (hSw.cell (p := ⟨b2, o2 + k * 9 + 5, none⟩) hb2r).trans Q5.out; have p6 := (hSw.cell (p := ⟨b1, o1 + k * 9 + 6, none⟩) hb1r).trans P6.out; have q6 := (hSw.cell (p := ⟨b2, o2 + k * 9 + 6, none⟩) hb2r).trans Q6.out; have p7 := (hSw.cell (p := ⟨b1, o1 + k * 9 + 7, none⟩) hb1r).trans P7.out; have q7 := (hSw.cell (p := ⟨b2, o2 + k * 9 + 7, none⟩) hb2r).trans Q7.out; have p8 := (hSw.cell (p := ⟨b1, o1 + k * 9 + 8, none⟩) hb1r).trans P8.out; have q8 := (hSw.cell (p := ⟨b2, o2 + k * 9 + 8, none⟩) hb2r).trans Q8.out; have c8 := (hSw.cell (p := ⟨w.heap.size, 8, none⟩) hw1).trans C8.out; have d8 := (hSw.cell (p := ⟨w.heap.size + 1, 8, none⟩) hw2).trans D8.out; go_simp; try with_reducible rfl)
        try simp only [Act.put, sA, sB, sC]
        refine tk (i := 12) (oi := ⟨some 53, .binOp BinOp.neq 4 (.tmp 46) (.tmp 52) 4, 4, "same.go:73", #[⟨5, .data⟩, ⟨11, .data⟩], none⟩) (v := .bool true) (Or.inl ⟨by rfl, ?_⟩) ?_
        ·intro u hSw
         go_simp
         try simp [k_down]
        try simp only [Act.put, sA, sB, sC]
        refine tk (i := 13) (oi := ⟨some 54, .move (.tmp 53), 4, "same.go:73", #[⟨12, .data⟩], none⟩) (v := ?_) (Or.inl ⟨by rfl, ?_⟩) ?_
        rotate_left 1
        ·(intro u hSw; go_simp; try with_reducible rfl)
        try simp only [Act.put, sA, sB, sC]
        refine tk (i := 14) (oi := ⟨some 55, .fieldAddr 30 (.tmp 2) 3, 0, "same.go:73", #[⟨13, .guard⟩], some (13, false)⟩) (v := undef) (by exact .inr ⟨by rfl, rfl⟩) ?_
        try simp only [Act.put, sA, sB, sC]
        refine tk (i := 15) (oi := ⟨some 56, .load 28 (.tmp 55), 28, "same.go:73", #[⟨14, .data⟩, ⟨13, .guard⟩], some (13, false)⟩) (v := undef) (by exact .inr ⟨by rfl, rfl⟩) ?_
        try simp only [Act.put, sA, sB, sC]
        refine tk (i := 16) (oi := ⟨some 57, .move (.tmp 5), 3, "same.go:73", #[⟨13, .guard⟩], some (13, false)⟩) (v := undef) (by exact .inr ⟨by rfl, rfl⟩) ?_
        try simp only [Act.put, sA, sB, sC]
        refine tk (i := 17) (oi := ⟨some 58, .indexAddr 28 (.tmp 56) (.tmp 57), 0, "same.go:73", #[⟨15, .data⟩, ⟨16, .data⟩, ⟨13, .guard⟩], some (13, false)⟩) (v := undef) (by exact .inr ⟨by rfl, rfl⟩) ?_
        try simp only [Act.put, sA, sB, sC]
        refine tk (i := 18) (oi := ⟨some 59, .fieldAddr 58 (.tmp 58) 0, 0, "same.go:73", #[⟨17, .data⟩, ⟨13, .guard⟩], some (13, false)⟩) (v := undef) (by exact .inr ⟨by rfl, rfl⟩) ?_
        try simp only [Act.put, sA, sB, sC]
        refine tk (i := 19) (oi := ⟨some 60, .load 40 (.tmp 59), 40, "same.go:73", #[⟨18, .data⟩, ⟨13, .guard⟩], some (13, false)⟩) (v := undef) (by exact .inr ⟨by rfl, rfl⟩) ?_
        try simp only [Act.put, sA, sB, sC]
        refine tk (i := 20) (oi := ⟨some 61, .buildSlice 25 1 #[(0, .tmp 60)], 25, "same.go:73", #[⟨19, .data⟩, ⟨13, .guard⟩], some (13, false)⟩) (v := undef) (by exact .inr ⟨by rfl, rfl⟩) ?_
        try simp only [Act.put, sA, sB, sC]
        refine tk (i := 21) (oi := ⟨some 62, .fieldAddr 30 (.tmp 3) 3, 0, "same.go:73", #[⟨13, .guard⟩], some (13, false)⟩) (v := undef) (by exact .inr ⟨by rfl, rfl⟩) ?_
        try simp only [Act.put, sA, sB, sC]
        refine tk (i := 22) (oi := ⟨some 63, .load 28 (.tmp 62), 28, "same.go:73", #[⟨21, .data⟩, ⟨13, .guard⟩], some (13, false)⟩) (v := undef) (by exact .inr ⟨by rfl, rfl⟩) ?_
        try simp only [Act.put, sA, sB, sC]
        refine tk (i := 23) (oi := ⟨some 64, .move (.tmp 5), 3, "same.go:73", #[⟨13, .guard⟩], some (13, false)⟩) (v := undef) (by exact .inr ⟨by rfl, rfl⟩) ?_
        try simp only [Act.put, sA, sB, sC]
        refine tk (i := 24) (oi := ⟨some 65, .indexAddr 28 (.tmp 63) (.tmp 64), 0, "same.go:73", #[⟨22, .data⟩, ⟨23, .data⟩, ⟨13, .guard⟩], some (13, false)⟩) (v := undef) (by exact .inr ⟨by rfl, rfl⟩) ?_
        try simp only [Act.put, sA, sB, sC]
        refine tk (i := 25) (oi := ⟨some 66, .fieldAddr 58 (.tmp 65) 0, 0, "same.go:73", #[⟨24, .data⟩, ⟨13, .guard⟩], some (13, false)⟩) (v := undef) (by exact .inr ⟨by rfl, rfl⟩) ?_
        try simp only [Act.put, sA, sB, sC]
        refine tk (i := 26) (oi := ⟨some 67, .load 40 (.tmp 66), 40, "same.go:73", #[⟨25, .data⟩, ⟨13, .guard⟩], some (13, false)⟩) (v := undef) (by exact .inr ⟨by rfl, rfl⟩) ?_
        try simp only [Act.put, sA, sB, sC]
        refine tk (i := 27) (oi := ⟨some 68, .buildSlice 25 1 #[(0, .tmp 67)], 25, "same.go:73", #[⟨26, .data⟩, ⟨13, .guard⟩], some (13, false)⟩) (v := undef) (by exact .inr ⟨by rfl, rfl⟩) ?_
        try simp only [Act.put, sA, sB, sC]
        refine tk (i := 28) (oi := ⟨some 69, .call ⟨.value (.func 16), #[.tmp 61, .tmp 68], #[25, 25]⟩, 4, "same.go:73", #[⟨20, .data⟩, ⟨27, .data⟩, ⟨13, .chain⟩, ⟨13, .guard⟩], some (13, false)⟩) (v := undef) (by exact .inr ⟨by rfl, rfl⟩) ?_
        try simp only [Act.put, sA, sB, sC]
        refine tk (i := 29) (oi := ⟨some 70, .unOp UnOp.not 4 (.tmp 69), 4, "same.go:73", #[⟨28, .data⟩, ⟨13, .guard⟩], some (13, false)⟩) (v := undef) (by exact .inr ⟨by rfl, rfl⟩) ?_
        try simp only [Act.put, sA, sB, sC]
        refine tk (i := 30) (oi := ⟨some 71, .pick (.tmp 54) (.const (Value.bool true)) (.tmp 70), 4, "same.go:73", #[⟨13, .data⟩, ⟨29, .data⟩], none⟩) (v := ?_) (Or.inl ⟨by rfl, ?_⟩) ?_
        rotate_left 1
        ·(intro u hSw; go_simp; try with_reducible rfl)
        try simp only [Act.put, sA, sB, sC]
        refine wpAnyH_done (by kernel_rfl) ?_ _
        have HH := hid hHeld
        clear hHeld
        go_wp2_with fail
        go_ret
        exact ⟨false, rfl, by
         have f0 := at_ne HX.out HY.out (by rw [Ne, ob_eq_iff]; simp [K_down.out])
         constructor
         ·intro h; cases h
         ·intro h; rw [h] at f0; exact f0.2 rfl, HBW.out.trans (HH.out.mono (by omega))⟩
      ·have hkn : k = n := by omega
       subst hkn
       have hcn : decide ((k : Int) < (k : Int)) = false := decide_eq_false (by omega)
       have KI := hid (show x.ord = y.ord from by
        have e := heq.out
        rw [List.take_of_length_le (by rw [HN.out]; omega), List.take_of_length_le (by rw [HO.out]; omega)] at e
        exact e)
       have c1 := cell_at HX1.out 1 rfl
       have d1 := cell_at HX2.out 1 rfl
       go_wp2_with (first | (go_at_call 17; refine (HC1.out _ HBW.out).mono ?_; clear HC1; rintro e w1 ⟨c0_, rfl, hc, hb⟩; have x1 := (hb.block _ (bx_lt HX1.out)).trans HX1.out; have x2 := (hb.block _ (bx_lt HX2.out)).trans HX2.out; have HK0 := hid (HBW.out.trans (hb.mono HBW.out.size)); have c0_2 := cell_at x1 2 rfl; have d0_2 := cell_at x2 2 rfl; have c0_3 := cell_at x1 3 rfl; have d0_3 := cell_at x2 3 rfl; have c0_4 := cell_at x1 4 rfl; have d0_4 := cell_at x2 4 rfl; have c0_5 := cell_at x1 5 rfl; have d0_5 := cell_at x2 5 rfl; have c0_6 := cell_at x1 6 rfl; have d0_6 := cell_at x2 6 rfl; have c0_7 := cell_at x1 7 rfl; have d0_7 := cell_at x2 7 rfl; have HZ0a := hid x1; have HZ0b := hid x2; have HE0 := hid hc; clear hb hc x1 x2; cases c0_) | (go_at_call 18; refine (HC2.out _ HK0.out).mono ?_; clear HC2; rintro e w2 ⟨c1_, rfl, hc, hb⟩; have x1 := (hb.block _ (bx_lt HZ0a.out)).trans HZ0a.out; have x2 := (hb.block _ (bx_lt HZ0b.out)).trans HZ0b.out; have HK1 := hid (HK0.out.trans (hb.mono HK0.out.size)); have HZ1a := hid x1; have HZ1b := hid x2; have HE1 := hid hc; clear hb hc x1 x2; cases c1_))
       ·go_ret
        refine ⟨false, rfl, ?_, HK0.out⟩
        have f0 := HE0.out; rw [qu_eq_iff]; simp at f0; simp [K_op.out, K_lim.out, K_n.out, KI.out, f0]
       ·go_ret
        refine ⟨false, rfl, ?_, HK1.out⟩
        have f0 := HE0.out; have f1 := HE1.out; rw [qu_eq_iff]; simp at f0 f1; simp [K_op.out, K_lim.out, K_n.out, KI.out, f0, f1]
       ·go_ret
        refine ⟨true, rfl, ?_, HK1.out⟩
        have f0 := HE0.out; have f1 := HE1.out; rw [qu_eq_iff]; simp at f0 f1; simp [K_op.out, K_lim.out, K_n.out, KI.out, f0, f1]
    ·have hne : ((n : Int) != (o : Int)) = true := bne_iff_ne.2 (by omega)
     go_wp2_with fail
     go_ret
     exact ⟨false, rfl, by
      constructor
      ·intro h0; cases h0
      ·intro h0
       subst h0
       exact absurd (HN.out.symm.trans HO.out) hno, HB2.out _ _⟩
   ·have b_n : (x.n != y.n) = true := bne_iff_ne.2 k_n
    have K_n := hid k_n
    clear k_n
    go_wp2_with fail
    go_ret
    exact ⟨false, rfl, by rw [qu_eq_iff]; simp [K_n.out], HB2.out _ _⟩
  ·have K_lim := hid (show ¬ x.lim = y.lim from by rw [HDX.out, HDY.out]; exact k_lim)
   go_wp2_with fail
   go_ret
   exact ⟨false, rfl, by rw [qu_eq_iff]; simp [K_lim.out], HB2.out _ _⟩
 ·have b_op : (x.op != y.op) = true := bne_iff_ne.2 k_op
  have K_op := hid k_op
  clear k_op
  go_wp2_with fail
  go_ret
  exact ⟨false, rfl, by rw [qu_eq_iff]; simp [K_op.out], HB2.out _ _⟩
end Go.Proofs.YtegkbagnbnoopaaGreatDoor
