/- print.Same and its kin: one step of each -/
import Derived.Test.YtegkbagnbnoopaaGreatDoorPs01
namespace Go.Proofs.YtegkbagnbnoopaaGreatDoor
open Go.ChangeShapes Go.WideShapes Go.ChangeAt Go.RowKit Go.Deep
open Go.Lib (hid)
/-- a call that tells whether a thing holds, and leaves what there was -/
def EQ (w : World) (p : Prop) : Ending → World → Prop := fun e w' => ∃ c, e = .returned (.bool c) ∧ (c = true ↔ p) ∧ Below w.heap.size w w'
theorem two_kept {w w1 : World} {cs ds : Array Value} {T U : TypeId} (hb : Below ((w.alloc (.cells cs T)).alloc (.cells ds U)).heap.size ((w.alloc (.cells cs T)).alloc (.cells ds U)) w1) :
    w1.heap[w.heap.size]? = some (.cells cs T (0, 0)) ∧ w1.heap[w.heap.size + 1]? = some (.cells ds U (0, 0)) := by
  refine ⟨(hb.block w.heap.size (by simp; omega)).trans ((heap_alloc_old _ _ (by simp)).trans (heap_alloc_new _ _)), (hb.block (w.heap.size + 1) (by simp)).trans ?_⟩
  have := heap_alloc_new (w.alloc (.cells cs T)) (.cells ds U)
  simpa using this
theorem cell_at {u : World} {H : Nat} {cs : Array Value} {T : TypeId} (h : u.heap[H]? = some (.cells cs T (0, 0))) (j : Nat) {v : Value} (hj : cs[j]? = some v) : u.cell? ⟨H, j, none⟩ = some v := (cell_of_row u H j _ _ _ h).trans hj
theorem bx_lt {u : World} {H : Nat} {o : Obj} (h : u.heap[H]? = some o) : H < u.heap.size := by
 rcases Nat.lt_or_ge H u.heap.size with h' | h'; exact h'; rw [Array.getElem?_eq_none h'] at h; cases h
theorem ex_tb {x : Ex} (h : x.OK) : Rng x.tb := by cases x; exact h.2.1
theorem ex_nm {x : Ex} (h : x.OK) : Rng x.nm := by cases x; exact h.2.2.1
theorem ex_v {x : Ex} (h : x.OK) : Rng x.v.s := by cases x; exact h.2.2.2.1.1
theorem it_nm {x : It} (h : x.OK) : Rng x.nm := by cases x; exact h.2
theorem so_tb {x : So} (h : x.OK) : Rng x.tb := by cases x; exact h.2.1
theorem so_al {x : So} (h : x.OK) : Rng x.al := by cases x; exact h.2.2.2.1
attribute [local go_sem ↓] eql32_eq neq32_eq
theorem it_eq_iff {x y : It} : x = y ↔ x.star = y.star ∧ x.nm = y.nm ∧ x.x = y.x := by
 obtain ⟨a0, a1, a2⟩ := x
 obtain ⟨b0, b1, b2⟩ := y
 rw [It.mk.injEq]
 exact ⟨fun ⟨h0, h1, h2⟩ => ⟨h0, h2, h1⟩, fun ⟨h0, h2, h1⟩ => ⟨h0, h1, h2⟩⟩
set_option maxRecDepth 100000 in
set_option maxHeartbeats 6400000 in
theorem sameItem_step (x y : It) (w : World) (va vb : Value) (hx : ItV w va x) (hy : ItV w vb y) (ox : x.OK) (oy : y.OK)
  (H0 : ∀ (u : World) (a b : Value), Below w.heap.size w u → ExV u a x.x → ExV u b y.x → Calls Tryz.prog 32 #[a, b] u (EQ u (x.x = y.x))) :
  Calls Tryz.prog 28 #[va, vb] w (EQ w (x = y)) := by
 obtain ⟨s0, s1, rfl, h0, h1⟩ := hx
 obtain ⟨t0, t1, rfl, g0, g1⟩ := hy
 obtain ⟨e0, m0, n0, rfl⟩ := dis_slice h0
 obtain ⟨e10, m10, n10, rfl⟩ := dis_slice g0
 obtain ⟨e1, m1, n1, rfl⟩ := dis_slice h1
 obtain ⟨e11, m11, n11, rfl⟩ := dis_slice g1
 have HC0 := hid (fun (u : World) (hu : Below w.heap.size w u) => H0 u _ _ hu ⟨_, _, rfl, h0.keep hu, h1.keep hu⟩ ⟨_, _, rfl, g0.keep hu, g1.keep hu⟩)
 have HRnm := hid (str_beq (l := x.nm) (m := y.nm) (it_nm ox) (it_nm oy))
 have HB2 := hid (fun (o1 o2 : Obj) => ((Below.refl w.heap.size w).alloc (Nat.le_refl _) o1).alloc (by simp) o2)
 clear ox oy h0 g0 h1 g1 H0
 go_enter Tryz.func28, Tryz.ntmps28
 by_cases k_star : x.star = y.star
 ·have b_star : (x.star == y.star) = true := beq_iff_eq.2 k_star
  have K_star := hid k_star
  clear k_star
  by_cases k_nm : x.nm = y.nm
  ·have b_nm := HRnm.out.trans (decide_eq_true k_nm)
   have K_nm := hid k_nm
   clear k_nm
   go_wp2_with (first | (go_at_call 32; refine (HC0.out _ (HB2.out _ _)).mono ?_; rintro e w1 ⟨c0, rfl, hc, hb⟩; obtain ⟨x1, x2⟩ := two_kept hb; have HK0 := hid ((HB2.out _ _).trans (hb.mono (by simp; omega))); have HX0 := hid (And.intro x1 x2); have HE0 := hid hc; clear hb hc x1 x2; cases c0))
   ·go_ret
    refine ⟨false, rfl, ?_, HK0.out⟩
    have f0 := HE0.out; rw [it_eq_iff]; simp at f0; simp [K_star.out, K_nm.out, f0]
   ·go_ret
    refine ⟨true, rfl, ?_, HK0.out⟩
    have f0 := HE0.out; rw [it_eq_iff]; simp at f0; simp [K_star.out, K_nm.out, f0]
  ·have b_nm := HRnm.out.trans (decide_eq_false k_nm)
   have K_nm := hid k_nm
   clear k_nm
   go_wp2_with fail
   go_ret
   refine ⟨false, rfl, ?_, HB2.out _ _⟩
   rw [it_eq_iff]; simp [K_nm.out]
 ·have b_star : (x.star == y.star) = false := beq_eq_false_iff_ne.2 k_star
  have K_star := hid k_star
  clear k_star
  go_wp2_with fail
  go_ret
  refine ⟨false, rfl, ?_, HB2.out _ _⟩
  rw [it_eq_iff]; simp [K_star.out]
theorem ob_eq_iff {x y : Ob} : x = y ↔ x.down = y.down ∧ x.x = y.x := by
 obtain ⟨a0, a1⟩ := x
 obtain ⟨b0, b1⟩ := y
 rw [Ob.mk.injEq]
 exact ⟨fun ⟨h0, h1⟩ => ⟨h1, h0⟩, fun ⟨h1, h0⟩ => ⟨h0, h1⟩⟩
set_option maxRecDepth 100000 in
set_option maxHeartbeats 6400000 in
theorem sameOrder_step (x y : Ob) (w : World) (va vb : Value) (hx : ObV w va x) (hy : ObV w vb y) (ox : x.OK) (oy : y.OK)
  (H0 : ∀ (u : World) (a b : Value), Below w.heap.size w u → ExV u a x.x → ExV u b y.x → Calls Tryz.prog 32 #[a, b] u (EQ u (x.x = y.x))) :
  Calls Tryz.prog 15 #[va, vb] w (EQ w (x = y)) := by
 obtain ⟨s0, s1, rfl, h0, h1⟩ := hx
 obtain ⟨t0, t1, rfl, g0, g1⟩ := hy
 obtain ⟨e0, m0, n0, rfl⟩ := dis_slice h0
 obtain ⟨e10, m10, n10, rfl⟩ := dis_slice g0
 obtain ⟨e1, m1, n1, rfl⟩ := dis_slice h1
 obtain ⟨e11, m11, n11, rfl⟩ := dis_slice g1
 have HC0 := hid (fun (u : World) (hu : Below w.heap.size w u) => H0 u _ _ hu ⟨_, _, rfl, h0.keep hu, h1.keep hu⟩ ⟨_, _, rfl, g0.keep hu, g1.keep hu⟩)
 have HB2 := hid (fun (o1 o2 : Obj) => ((Below.refl w.heap.size w).alloc (Nat.le_refl _) o1).alloc (by simp) o2)
 clear ox oy h0 g0 h1 g1 H0
 go_enter Tryz.func15, Tryz.ntmps15
 by_cases k_down : x.down = y.down
 ·have b_down : (x.down == y.down) = true := beq_iff_eq.2 k_down
  have K_down := hid k_down
  clear k_down
  go_wp2_with (first | (go_at_call 32; refine (HC0.out _ (HB2.out _ _)).mono ?_; rintro e w1 ⟨c0, rfl, hc, hb⟩; obtain ⟨x1, x2⟩ := two_kept hb; have HK0 := hid ((HB2.out _ _).trans (hb.mono (by simp; omega))); have HX0 := hid (And.intro x1 x2); have HE0 := hid hc; clear hb hc x1 x2; cases c0))
  ·go_ret
   refine ⟨false, rfl, ?_, HK0.out⟩
   have f0 := HE0.out; rw [ob_eq_iff]; simp at f0; simp [K_down.out, f0]
  ·go_ret
   refine ⟨true, rfl, ?_, HK0.out⟩
   have f0 := HE0.out; rw [ob_eq_iff]; simp at f0; simp [K_down.out, f0]
 ·have b_down : (x.down == y.down) = false := beq_eq_false_iff_ne.2 k_down
  have K_down := hid k_down
  clear k_down
  go_wp2_with fail
  go_ret
  refine ⟨false, rfl, ?_, HB2.out _ _⟩
  rw [ob_eq_iff]; simp [K_down.out]
theorem so_eq_iff {x y : So} : x = y ↔ x.kind = y.kind ∧ x.tb = y.tb ∧ x.al = y.al ∧ x.q = y.q ∧ x.on = y.on := by
 obtain ⟨a0, a1, a2, a3, a4⟩ := x
 obtain ⟨b0, b1, b2, b3, b4⟩ := y
 rw [So.mk.injEq]
 exact ⟨fun ⟨h0, h1, h2, h3, h4⟩ => ⟨h0, h1, h3, h2, h4⟩, fun ⟨h0, h1, h3, h2, h4⟩ => ⟨h0, h1, h2, h3, h4⟩⟩
set_option maxRecDepth 100000 in
set_option maxHeartbeats 6400000 in
theorem sameSource_step (x y : So) (w : World) (va vb : Value) (hx : SoV w va x) (hy : SoV w vb y) (ox : x.OK) (oy : y.OK)
  (H0 : ∀ (u : World) (a b : Value), Below w.heap.size w u → DIs u a (.sl (qusDa x.q)) → DIs u b (.sl (qusDa y.q)) → Calls Tryz.prog 12 #[a, b, .func (.func 6) #[] #[]] u (EQ u (x.q = y.q)))
  (H1 : ∀ (u : World) (a b : Value), Below w.heap.size w u → DIs u a (.sl (exsDa x.on)) → DIs u b (.sl (exsDa y.on)) → Calls Tryz.prog 31 #[a, b] u (EQ u (x.on = y.on))) :
  Calls Tryz.prog 30 #[va, vb] w (EQ w (x = y)) := by
 obtain ⟨s0, s1, rfl, h0, h1⟩ := hx
 obtain ⟨t0, t1, rfl, g0, g1⟩ := hy
 obtain ⟨e0, m0, n0, rfl⟩ := dis_slice h0
 obtain ⟨e10, m10, n10, rfl⟩ := dis_slice g0
 obtain ⟨e1, m1, n1, rfl⟩ := dis_slice h1
 obtain ⟨e11, m11, n11, rfl⟩ := dis_slice g1
 have HC0 := hid (fun (u : World) (hu : Below w.heap.size w u) => H0 u _ _ hu (h0.keep hu) (g0.keep hu))
 have HC1 := hid (fun (u : World) (hu : Below w.heap.size w u) => H1 u _ _ hu (h1.keep hu) (g1.keep hu))
 have HRtb := hid (str_beq (l := x.tb) (m := y.tb) (so_tb ox) (so_tb oy))
 have HRal := hid (str_beq (l := x.al) (m := y.al) (so_al ox) (so_al oy))
 have HB2 := hid (fun (o1 o2 : Obj) => ((Below.refl w.heap.size w).alloc (Nat.le_refl _) o1).alloc (by simp) o2)
 clear ox oy h0 g0 h1 g1 H0 H1
 go_enter Tryz.func30, Tryz.ntmps30
 by_cases k_kind : x.kind = y.kind
 ·have b_kind : (x.kind == y.kind) = true := beq_iff_eq.2 k_kind
  have K_kind := hid k_kind
  clear k_kind
  by_cases k_tb : x.tb = y.tb
  ·have b_tb := HRtb.out.trans (decide_eq_true k_tb)
   have K_tb := hid k_tb
   clear k_tb
   by_cases k_al : x.al = y.al
   ·have b_al := HRal.out.trans (decide_eq_true k_al)
    have K_al := hid k_al
    clear k_al
    go_wp2_with (first | (go_at_call 12; refine (HC0.out _ (HB2.out _ _)).mono ?_; rintro e w1 ⟨c0, rfl, hc, hb⟩; obtain ⟨x1, x2⟩ := two_kept hb; have HK0 := hid ((HB2.out _ _).trans (hb.mono (by simp; omega))); have p0_4 := cell_at x1 4 rfl; have q0_4 := cell_at x2 4 rfl; have HX0 := hid (And.intro x1 x2); have HE0 := hid hc; clear hb hc x1 x2; cases c0) | (go_at_call 31; refine (HC1.out _ HK0.out).mono ?_; rintro e w2 ⟨c1, rfl, hc, hb⟩; have x1 := (hb.block _ (bx_lt HX0.out.1)).trans HX0.out.1; have x2 := (hb.block _ (bx_lt HX0.out.2)).trans HX0.out.2; have HK1 := hid (HK0.out.trans (hb.mono HK0.out.size)); have HX1 := hid (And.intro x1 x2); have HE1 := hid hc; clear hb hc x1 x2; cases c1))
    ·go_ret
     refine ⟨false, rfl, ?_, HK0.out⟩
     have f0 := HE0.out; rw [so_eq_iff]; simp at f0; simp [K_kind.out, K_tb.out, K_al.out, f0]
    ·go_ret
     refine ⟨false, rfl, ?_, HK1.out⟩
     have f0 := HE0.out; have f1 := HE1.out; rw [so_eq_iff]; simp at f0 f1; simp [K_kind.out, K_tb.out, K_al.out, f0, f1]
    ·go_ret
     refine ⟨true, rfl, ?_, HK1.out⟩
     have f0 := HE0.out; have f1 := HE1.out; rw [so_eq_iff]; simp at f0 f1; simp [K_kind.out, K_tb.out, K_al.out, f0, f1]
   ·have b_al := HRal.out.trans (decide_eq_false k_al)
    have K_al := hid k_al
    clear k_al
    go_wp2_with fail
    go_ret
    refine ⟨false, rfl, ?_, HB2.out _ _⟩
    rw [so_eq_iff]; simp [K_al.out]
  ·have b_tb := HRtb.out.trans (decide_eq_false k_tb)
   have K_tb := hid k_tb
   clear k_tb
   go_wp2_with fail
   go_ret
   refine ⟨false, rfl, ?_, HB2.out _ _⟩
   rw [so_eq_iff]; simp [K_tb.out]
 ·have b_kind : (x.kind == y.kind) = false := beq_eq_false_iff_ne.2 k_kind
  have K_kind := hid k_kind
  clear k_kind
  go_wp2_with fail
  go_ret
  refine ⟨false, rfl, ?_, HB2.out _ _⟩
  rw [so_eq_iff]; simp [K_kind.out]
theorem ex_eq_iff {x y : Ex} : x = y ↔ x.op = y.op ∧ x.tb = y.tb ∧ x.nm = y.nm ∧ x.v = y.v ∧ x.args = y.args ∧ x.qs = y.qs := by
 obtain ⟨a0, a1, a2, a3, a4, a5⟩ := x
 obtain ⟨b0, b1, b2, b3, b4, b5⟩ := y
 rw [Ex.mk.injEq]
 exact ⟨fun ⟨h0, h1, h2, h3, h4, h5⟩ => ⟨h0, h1, h2, h3, h4, h5⟩, fun ⟨h0, h1, h2, h3, h4, h5⟩ => ⟨h0, h1, h2, h3, h4, h5⟩⟩
set_option maxRecDepth 100000 in
set_option maxHeartbeats 6400000 in
theorem sameExpr_step (x y : Ex) (w : World) (va vb : Value) (hx : ExV w va x) (hy : ExV w vb y) (ox : x.OK) (oy : y.OK)
  (H0 : ∀ (u : World) (a b : Value), Below w.heap.size w u → DIs u a (.sl (exsDa x.args)) → DIs u b (.sl (exsDa y.args)) → Calls Tryz.prog 31 #[a, b] u (EQ u (x.args = y.args)))
  (H1 : ∀ (u : World) (a b : Value), Below w.heap.size w u → DIs u a (.sl (qusDa x.qs)) → DIs u b (.sl (qusDa y.qs)) → Calls Tryz.prog 12 #[a, b, .func (.func 6) #[] #[]] u (EQ u (x.qs = y.qs))) :
  Calls Tryz.prog 32 #[va, vb] w (EQ w (x = y)) := by
 obtain ⟨s0, s1, rfl, h0, h1⟩ := hx
 obtain ⟨t0, t1, rfl, g0, g1⟩ := hy
 obtain ⟨e0, m0, n0, rfl⟩ := dis_slice h0
 obtain ⟨e10, m10, n10, rfl⟩ := dis_slice g0
 obtain ⟨e1, m1, n1, rfl⟩ := dis_slice h1
 obtain ⟨e11, m11, n11, rfl⟩ := dis_slice g1
 have HC0 := hid (fun (u : World) (hu : Below w.heap.size w u) => H0 u _ _ hu (h0.keep hu) (g0.keep hu))
 have HC1 := hid (fun (u : World) (hu : Below w.heap.size w u) => H1 u _ _ hu (h1.keep hu) (g1.keep hu))
 have HRtb := hid (str_beq (l := x.tb) (m := y.tb) (ex_tb ox) (ex_tb oy))
 have HRnm := hid (str_beq (l := x.nm) (m := y.nm) (ex_nm ox) (ex_nm oy))
 have he := fun (u : World) => run_eql32 u x.v y.v (ex_v ox) (ex_v oy)
 have HB2 := hid (fun (o1 o2 : Obj) => ((Below.refl w.heap.size w).alloc (Nat.le_refl _) o1).alloc (by simp) o2)
 clear ox oy h0 g0 h1 g1 H0 H1
 go_enter Tryz.func32, Tryz.ntmps32
 by_cases k_op : x.op = y.op
 ·have b_op : (x.op == y.op) = true := beq_iff_eq.2 k_op
  have K_op := hid k_op
  clear k_op
  by_cases k_tb : x.tb = y.tb
  ·have b_tb := HRtb.out.trans (decide_eq_true k_tb)
   have K_tb := hid k_tb
   clear k_tb
   by_cases k_nm : x.nm = y.nm
   ·have b_nm := HRnm.out.trans (decide_eq_true k_nm)
    have K_nm := hid k_nm
    clear k_nm
    by_cases k_v : x.v = y.v
    ·rw [decide_eq_true k_v] at he
     have K_v := hid k_v
     clear k_v
     go_wp2_with (first | (go_at_call 31; refine (HC0.out _ (HB2.out _ _)).mono ?_; rintro e w1 ⟨c0, rfl, hc, hb⟩; obtain ⟨x1, x2⟩ := two_kept hb; have HK0 := hid ((HB2.out _ _).trans (hb.mono (by simp; omega))); have p0_7 := cell_at x1 7 rfl; have q0_7 := cell_at x2 7 rfl; have HX0 := hid (And.intro x1 x2); have HE0 := hid hc; clear hb hc x1 x2; cases c0) | (go_at_call 12; refine (HC1.out _ HK0.out).mono ?_; rintro e w2 ⟨c1, rfl, hc, hb⟩; have x1 := (hb.block _ (bx_lt HX0.out.1)).trans HX0.out.1; have x2 := (hb.block _ (bx_lt HX0.out.2)).trans HX0.out.2; have HK1 := hid (HK0.out.trans (hb.mono HK0.out.size)); have HX1 := hid (And.intro x1 x2); have HE1 := hid hc; clear hb hc x1 x2; cases c1))
     ·go_ret
      refine ⟨false, rfl, ?_, HK0.out⟩
      have f0 := HE0.out; rw [ex_eq_iff]; simp at f0; simp [K_op.out, K_tb.out, K_nm.out, K_v.out, f0]
     ·go_ret
      refine ⟨false, rfl, ?_, HK1.out⟩
      have f0 := HE0.out; have f1 := HE1.out; rw [ex_eq_iff]; simp at f0 f1; simp [K_op.out, K_tb.out, K_nm.out, K_v.out, f0, f1]
     ·go_ret
      refine ⟨true, rfl, ?_, HK1.out⟩
      have f0 := HE0.out; have f1 := HE1.out; rw [ex_eq_iff]; simp at f0 f1; simp [K_op.out, K_tb.out, K_nm.out, K_v.out, f0, f1]
    ·rw [decide_eq_false k_v] at he
     have K_v := hid k_v
     clear k_v
     go_wp2_with fail
     go_ret
     refine ⟨false, rfl, ?_, HB2.out _ _⟩
     rw [ex_eq_iff]; simp [K_v.out]
   ·have b_nm := HRnm.out.trans (decide_eq_false k_nm)
    have K_nm := hid k_nm
    clear k_nm
    go_wp2_with fail
    go_ret
    refine ⟨false, rfl, ?_, HB2.out _ _⟩
    rw [ex_eq_iff]; simp [K_nm.out]
  ·have b_tb := HRtb.out.trans (decide_eq_false k_tb)
   have K_tb := hid k_tb
   clear k_tb
   go_wp2_with fail
   go_ret
   refine ⟨false, rfl, ?_, HB2.out _ _⟩
   rw [ex_eq_iff]; simp [K_tb.out]
 ·have b_op : (x.op == y.op) = false := beq_eq_false_iff_ne.2 k_op
  have K_op := hid k_op
  clear k_op
  go_wp2_with fail
  go_ret
  refine ⟨false, rfl, ?_, HB2.out _ _⟩
  rw [ex_eq_iff]; simp [K_op.out]
theorem se_eq_iff {x y : Se} : x = y ↔ x.dist = y.dist ∧ x.items = y.items ∧ x.fro = y.fro ∧ x.wh = y.wh ∧ x.gr = y.gr ∧ x.hv = y.hv := by
 obtain ⟨a0, a1, a2, a3, a4, a5⟩ := x
 obtain ⟨b0, b1, b2, b3, b4, b5⟩ := y
 rw [Se.mk.injEq]
 exact ⟨fun ⟨h0, h1, h2, h3, h4, h5⟩ => ⟨h0, h1, h2, h3, h4, h5⟩, fun ⟨h0, h1, h2, h3, h4, h5⟩ => ⟨h0, h1, h2, h3, h4, h5⟩⟩
set_option maxRecDepth 100000 in
set_option maxHeartbeats 6400000 in
theorem sameSelect_step (x y : Se) (w : World) (va vb : Value) (hx : SeV w va x) (hy : SeV w vb y) (ox : x.OK) (oy : y.OK)
  (H0 : ∀ (u : World) (a b : Value), Below w.heap.size w u → DIs u a (.sl (itsDa x.items)) → DIs u b (.sl (itsDa y.items)) → Calls Tryz.prog 27 #[a, b, .func (.func 28) #[] #[]] u (EQ u (x.items = y.items)))
  (H1 : ∀ (u : World) (a b : Value), Below w.heap.size w u → DIs u a (.sl (sosDa x.fro)) → DIs u b (.sl (sosDa y.fro)) → Calls Tryz.prog 29 #[a, b, .func (.func 30) #[] #[]] u (EQ u (x.fro = y.fro)))
  (H2 : ∀ (u : World) (a b : Value), Below w.heap.size w u → DIs u a (.sl (exsDa x.wh)) → DIs u b (.sl (exsDa y.wh)) → Calls Tryz.prog 31 #[a, b] u (EQ u (x.wh = y.wh)))
  (H3 : ∀ (u : World) (a b : Value), Below w.heap.size w u → DIs u a (.sl (exsDa x.gr)) → DIs u b (.sl (exsDa y.gr)) → Calls Tryz.prog 31 #[a, b] u (EQ u (x.gr = y.gr)))
  (H4 : ∀ (u : World) (a b : Value), Below w.heap.size w u → DIs u a (.sl (exsDa x.hv)) → DIs u b (.sl (exsDa y.hv)) → Calls Tryz.prog 31 #[a, b] u (EQ u (x.hv = y.hv))) :
  Calls Tryz.prog 13 #[va, vb] w (EQ w (x = y)) := by
 obtain ⟨s0, s1, s2, s3, s4, rfl, h0, h1, h2, h3, h4⟩ := hx
 obtain ⟨t0, t1, t2, t3, t4, rfl, g0, g1, g2, g3, g4⟩ := hy
 obtain ⟨e0, m0, n0, rfl⟩ := dis_slice h0
 obtain ⟨e10, m10, n10, rfl⟩ := dis_slice g0
 obtain ⟨e1, m1, n1, rfl⟩ := dis_slice h1
 obtain ⟨e11, m11, n11, rfl⟩ := dis_slice g1
 obtain ⟨e2, m2, n2, rfl⟩ := dis_slice h2
 obtain ⟨e12, m12, n12, rfl⟩ := dis_slice g2
 obtain ⟨e3, m3, n3, rfl⟩ := dis_slice h3
 obtain ⟨e13, m13, n13, rfl⟩ := dis_slice g3
 obtain ⟨e4, m4, n4, rfl⟩ := dis_slice h4
 obtain ⟨e14, m14, n14, rfl⟩ := dis_slice g4
 have HC0 := hid (fun (u : World) (hu : Below w.heap.size w u) => H0 u _ _ hu (h0.keep hu) (g0.keep hu))
 have HC1 := hid (fun (u : World) (hu : Below w.heap.size w u) => H1 u _ _ hu (h1.keep hu) (g1.keep hu))
 have HC2 := hid (fun (u : World) (hu : Below w.heap.size w u) => H2 u _ _ hu (h2.keep hu) (g2.keep hu))
 have HC3 := hid (fun (u : World) (hu : Below w.heap.size w u) => H3 u _ _ hu (h3.keep hu) (g3.keep hu))
 have HC4 := hid (fun (u : World) (hu : Below w.heap.size w u) => H4 u _ _ hu (h4.keep hu) (g4.keep hu))
 have HB2 := hid (fun (o1 o2 : Obj) => ((Below.refl w.heap.size w).alloc (Nat.le_refl _) o1).alloc (by simp) o2)
 clear ox oy h0 g0 h1 g1 h2 g2 h3 g3 h4 g4 H0 H1 H2 H3 H4
 go_enter Tryz.func13, Tryz.ntmps13
 by_cases k_dist : x.dist = y.dist
 ·have b_dist : (x.dist == y.dist) = true := beq_iff_eq.2 k_dist
  have K_dist := hid k_dist
  clear k_dist
  go_wp2_with (first | (go_at_call 27; refine (HC0.out _ (HB2.out _ _)).mono ?_; rintro e w1 ⟨c0, rfl, hc, hb⟩; obtain ⟨x1, x2⟩ := two_kept hb; have HK0 := hid ((HB2.out _ _).trans (hb.mono (by simp; omega))); have p0_2 := cell_at x1 2 rfl; have q0_2 := cell_at x2 2 rfl; have p0_3 := cell_at x1 3 rfl; have q0_3 := cell_at x2 3 rfl; have p0_4 := cell_at x1 4 rfl; have q0_4 := cell_at x2 4 rfl; have p0_5 := cell_at x1 5 rfl; have q0_5 := cell_at x2 5 rfl; have HX0 := hid (And.intro x1 x2); have HE0 := hid hc; clear hb hc x1 x2; cases c0) | (go_at_call 29; refine (HC1.out _ HK0.out).mono ?_; rintro e w2 ⟨c1, rfl, hc, hb⟩; have x1 := (hb.block _ (bx_lt HX0.out.1)).trans HX0.out.1; have x2 := (hb.block _ (bx_lt HX0.out.2)).trans HX0.out.2; have HK1 := hid (HK0.out.trans (hb.mono HK0.out.size)); have p1_3 := cell_at x1 3 rfl; have q1_3 := cell_at x2 3 rfl; have p1_4 := cell_at x1 4 rfl; have q1_4 := cell_at x2 4 rfl; have p1_5 := cell_at x1 5 rfl; have q1_5 := cell_at x2 5 rfl; have HX1 := hid (And.intro x1 x2); have HE1 := hid hc; clear hb hc x1 x2; cases c1) | (go_at_call 31; refine (HC2.out _ HK1.out).mono ?_; rintro e w3 ⟨c2, rfl, hc, hb⟩; have x1 := (hb.block _ (bx_lt HX1.out.1)).trans HX1.out.1; have x2 := (hb.block _ (bx_lt HX1.out.2)).trans HX1.out.2; have HK2 := hid (HK1.out.trans (hb.mono HK1.out.size)); have p2_4 := cell_at x1 4 rfl; have q2_4 := cell_at x2 4 rfl; have p2_5 := cell_at x1 5 rfl; have q2_5 := cell_at x2 5 rfl; have HX2 := hid (And.intro x1 x2); have HE2 := hid hc; clear hb hc x1 x2; cases c2) | (go_at_call 31; refine (HC3.out _ HK2.out).mono ?_; rintro e w4 ⟨c3, rfl, hc, hb⟩; have x1 := (hb.block _ (bx_lt HX2.out.1)).trans HX2.out.1; have x2 := (hb.block _ (bx_lt HX2.out.2)).trans HX2.out.2; have HK3 := hid (HK2.out.trans (hb.mono HK2.out.size)); have p3_5 := cell_at x1 5 rfl; have q3_5 := cell_at x2 5 rfl; have HX3 := hid (And.intro x1 x2); have HE3 := hid hc; clear hb hc x1 x2; cases c3) | (go_at_call 31; refine (HC4.out _ HK3.out).mono ?_; rintro e w5 ⟨c4, rfl, hc, hb⟩; have x1 := (hb.block _ (bx_lt HX3.out.1)).trans HX3.out.1; have x2 := (hb.block _ (bx_lt HX3.out.2)).trans HX3.out.2; have HK4 := hid (HK3.out.trans (hb.mono HK3.out.size)); have HX4 := hid (And.intro x1 x2); have HE4 := hid hc; clear hb hc x1 x2; cases c4))
  ·go_ret
   refine ⟨false, rfl, ?_, HK0.out⟩
   have f0 := HE0.out; rw [se_eq_iff]; simp at f0; simp [K_dist.out, f0]
  ·go_ret
   refine ⟨false, rfl, ?_, HK1.out⟩
   have f0 := HE0.out; have f1 := HE1.out; rw [se_eq_iff]; simp at f0 f1; simp [K_dist.out, f0, f1]
  ·go_ret
   refine ⟨false, rfl, ?_, HK2.out⟩
   have f0 := HE0.out; have f1 := HE1.out; have f2 := HE2.out; rw [se_eq_iff]; simp at f0 f1 f2; simp [K_dist.out, f0, f1, f2]
  ·go_ret
   refine ⟨false, rfl, ?_, HK3.out⟩
   have f0 := HE0.out; have f1 := HE1.out; have f2 := HE2.out; have f3 := HE3.out; rw [se_eq_iff]; simp at f0 f1 f2 f3; simp [K_dist.out, f0, f1, f2, f3]
  ·go_ret
   refine ⟨false, rfl, ?_, HK4.out⟩
   have f0 := HE0.out; have f1 := HE1.out; have f2 := HE2.out; have f3 := HE3.out; have f4 := HE4.out; rw [se_eq_iff]; simp at f0 f1 f2 f3 f4; simp [K_dist.out, f0, f1, f2, f3, f4]
  ·go_ret
   refine ⟨true, rfl, ?_, HK4.out⟩
   have f0 := HE0.out; have f1 := HE1.out; have f2 := HE2.out; have f3 := HE3.out; have f4 := HE4.out; rw [se_eq_iff]; simp at f0 f1 f2 f3 f4; simp [K_dist.out, f0, f1, f2, f3, f4]
 ·have b_dist : (x.dist == y.dist) = false := beq_eq_false_iff_ne.2 k_dist
  have K_dist := hid k_dist
  clear k_dist
  go_wp2_with fail
  go_ret
  refine ⟨false, rfl, ?_, HB2.out _ _⟩
  rw [se_eq_iff]; simp [K_dist.out]
theorem qu_eq_iff {x y : Qu} : x = y ↔ x.op = y.op ∧ x.lim = y.lim ∧ x.n = y.n ∧ x.parts = y.parts ∧ x.sel = y.sel ∧ x.ord = y.ord := by
 obtain ⟨a0, a1, a2, a3, a4, a5⟩ := x
 obtain ⟨b0, b1, b2, b3, b4, b5⟩ := y
 rw [Qu.mk.injEq]
 exact ⟨fun ⟨h0, h1, h2, h3, h4, h5⟩ => ⟨h0, h4, h5, h1, h2, h3⟩, fun ⟨h0, h4, h5, h1, h2, h3⟩ => ⟨h0, h1, h2, h3, h4, h5⟩⟩
set_option maxRecDepth 100000 in
set_option maxHeartbeats 6400000 in
theorem Same_step (x y : Qu) (w : World) (va vb : Value) (hx : QuV w va x) (hy : QuV w vb y) (ox : x.OK) (oy : y.OK)
  (H0 : ∀ (u : World) (a b : Value), Below w.heap.size w u → DIs u a (.sl (qusDa x.parts)) → DIs u b (.sl (qusDa y.parts)) → Calls Tryz.prog 12 #[a, b, .func (.func 6) #[] #[]] u (EQ u (x.parts = y.parts)))
  (H1 : ∀ (u : World) (a b : Value), Below w.heap.size w u → SeV u a x.sel → SeV u b y.sel → Calls Tryz.prog 13 #[a, b] u (EQ u (x.sel = y.sel)))
  (H2 : ∀ (u : World) (a b : Value), Below w.heap.size w u → DIs u a (.sl (obsDa x.ord)) → DIs u b (.sl (obsDa y.ord)) → Calls Tryz.prog 14 #[a, b, .func (.func 15) #[] #[]] u (EQ u (x.ord = y.ord))) :
  Calls Tryz.prog 6 #[va, vb] w (EQ w (x = y)) := by
 obtain ⟨s0, s1, s2, s3, s4, s5, s6, rfl, h0, h1, h2, h3, h4, h5, h6⟩ := hx
 obtain ⟨t0, t1, t2, t3, t4, t5, t6, rfl, g0, g1, g2, g3, g4, g5, g6⟩ := hy
 obtain ⟨e0, m0, n0, rfl⟩ := dis_slice h0
 obtain ⟨e10, m10, n10, rfl⟩ := dis_slice g0
 obtain ⟨e1, m1, n1, rfl⟩ := dis_slice h1
 obtain ⟨e11, m11, n11, rfl⟩ := dis_slice g1
 obtain ⟨e2, m2, n2, rfl⟩ := dis_slice h2
 obtain ⟨e12, m12, n12, rfl⟩ := dis_slice g2
 obtain ⟨e3, m3, n3, rfl⟩ := dis_slice h3
 obtain ⟨e13, m13, n13, rfl⟩ := dis_slice g3
 obtain ⟨e4, m4, n4, rfl⟩ := dis_slice h4
 obtain ⟨e14, m14, n14, rfl⟩ := dis_slice g4
 obtain ⟨e5, m5, n5, rfl⟩ := dis_slice h5
 obtain ⟨e15, m15, n15, rfl⟩ := dis_slice g5
 obtain ⟨e6, m6, n6, rfl⟩ := dis_slice h6
 obtain ⟨e16, m16, n16, rfl⟩ := dis_slice g6
 have HC0 := hid (fun (u : World) (hu : Below w.heap.size w u) => H0 u _ _ hu (h0.keep hu) (g0.keep hu))
 have HC1 := hid (fun (u : World) (hu : Below w.heap.size w u) => H1 u _ _ hu ⟨_, _, _, _, _, rfl, h1.keep hu, h2.keep hu, h3.keep hu, h4.keep hu, h5.keep hu⟩ ⟨_, _, _, _, _, rfl, g1.keep hu, g2.keep hu, g3.keep hu, g4.keep hu, g5.keep hu⟩)
 have HC2 := hid (fun (u : World) (hu : Below w.heap.size w u) => H2 u _ _ hu (h6.keep hu) (g6.keep hu))
 have HB2 := hid (fun (o1 o2 : Obj) => ((Below.refl w.heap.size w).alloc (Nat.le_refl _) o1).alloc (by simp) o2)
 clear ox oy h0 g0 h1 g1 h2 g2 h3 g3 h4 g4 h5 g5 h6 g6 H0 H1 H2
 go_enter Tryz.func6, Tryz.ntmps6
 by_cases k_op : x.op = y.op
 ·have b_op : (x.op == y.op) = true := beq_iff_eq.2 k_op
  have K_op := hid k_op
  clear k_op
  by_cases k_lim : x.lim = y.lim
  ·have b_lim : (x.lim == y.lim) = true := beq_iff_eq.2 k_lim
   have K_lim := hid k_lim
   clear k_lim
   by_cases k_n : x.n = y.n
   ·have b_n : (x.n == y.n) = true := beq_iff_eq.2 k_n
    have K_n := hid k_n
    clear k_n
    go_wp2_with (first | (go_at_call 12; refine (HC0.out _ (HB2.out _ _)).mono ?_; rintro e w1 ⟨c0, rfl, hc, hb⟩; obtain ⟨x1, x2⟩ := two_kept hb; have HK0 := hid ((HB2.out _ _).trans (hb.mono (by simp; omega))); have p0_2 := cell_at x1 2 rfl; have q0_2 := cell_at x2 2 rfl; have p0_3 := cell_at x1 3 rfl; have q0_3 := cell_at x2 3 rfl; have p0_4 := cell_at x1 4 rfl; have q0_4 := cell_at x2 4 rfl; have p0_5 := cell_at x1 5 rfl; have q0_5 := cell_at x2 5 rfl; have p0_6 := cell_at x1 6 rfl; have q0_6 := cell_at x2 6 rfl; have p0_7 := cell_at x1 7 rfl; have q0_7 := cell_at x2 7 rfl; have p0_8 := cell_at x1 8 rfl; have q0_8 := cell_at x2 8 rfl; have HX0 := hid (And.intro x1 x2); have HE0 := hid hc; clear hb hc x1 x2; cases c0) | (go_at_call 13; refine (HC1.out _ HK0.out).mono ?_; rintro e w2 ⟨c1, rfl, hc, hb⟩; have x1 := (hb.block _ (bx_lt HX0.out.1)).trans HX0.out.1; have x2 := (hb.block _ (bx_lt HX0.out.2)).trans HX0.out.2; have HK1 := hid (HK0.out.trans (hb.mono HK0.out.size)); have p1_8 := cell_at x1 8 rfl; have q1_8 := cell_at x2 8 rfl; have HX1 := hid (And.intro x1 x2); have HE1 := hid hc; clear hb hc x1 x2; cases c1) | (go_at_call 14; refine (HC2.out _ HK1.out).mono ?_; rintro e w3 ⟨c2, rfl, hc, hb⟩; have x1 := (hb.block _ (bx_lt HX1.out.1)).trans HX1.out.1; have x2 := (hb.block _ (bx_lt HX1.out.2)).trans HX1.out.2; have HK2 := hid (HK1.out.trans (hb.mono HK1.out.size)); have HX2 := hid (And.intro x1 x2); have HE2 := hid hc; clear hb hc x1 x2; cases c2))
    ·go_ret
     refine ⟨false, rfl, ?_, HK0.out⟩
     have f0 := HE0.out; rw [qu_eq_iff]; simp at f0; simp [K_op.out, K_lim.out, K_n.out, f0]
    ·go_ret
     refine ⟨false, rfl, ?_, HK1.out⟩
     have f0 := HE0.out; have f1 := HE1.out; rw [qu_eq_iff]; simp at f0 f1; simp [K_op.out, K_lim.out, K_n.out, f0, f1]
    ·go_ret
     refine ⟨false, rfl, ?_, HK2.out⟩
     have f0 := HE0.out; have f1 := HE1.out; have f2 := HE2.out; rw [qu_eq_iff]; simp at f0 f1 f2; simp [K_op.out, K_lim.out, K_n.out, f0, f1, f2]
    ·go_ret
     refine ⟨true, rfl, ?_, HK2.out⟩
     have f0 := HE0.out; have f1 := HE1.out; have f2 := HE2.out; rw [qu_eq_iff]; simp at f0 f1 f2; simp [K_op.out, K_lim.out, K_n.out, f0, f1, f2]
   ·have b_n : (x.n == y.n) = false := beq_eq_false_iff_ne.2 k_n
    have K_n := hid k_n
    clear k_n
    go_wp2_with fail
    go_ret
    refine ⟨false, rfl, ?_, HB2.out _ _⟩
    rw [qu_eq_iff]; simp [K_n.out]
  ·have b_lim : (x.lim == y.lim) = false := beq_eq_false_iff_ne.2 k_lim
   have K_lim := hid k_lim
   clear k_lim
   go_wp2_with fail
   go_ret
   refine ⟨false, rfl, ?_, HB2.out _ _⟩
   rw [qu_eq_iff]; simp [K_lim.out]
 ·have b_op : (x.op == y.op) = false := beq_eq_false_iff_ne.2 k_op
  have K_op := hid k_op
  clear k_op
  go_wp2_with fail
  go_ret
  refine ⟨false, rfl, ?_, HB2.out _ _⟩
  rw [qu_eq_iff]; simp [K_op.out]
end Go.Proofs.YtegkbagnbnoopaaGreatDoor
/- the reference's copyExprs -/
namespace Go.Proofs.YtegkbagnbnoopaaGreatDoor
open Go.ChangeShapes Go.WideShapes Go.ChangeAt Go.RowKit Go.Deep
open Go.Lib (hid)
/-- a copy: it reads as the same, in memory of its own; what there was is left -/
def CP (w : World) (ks : List (List Da)) : Ending → World → Prop := fun e w' => ∃ v, e = .returned v ∧ DIn w' (fun g => w.heap.size ≤ g) v (.sl ks) ∧ Below w.heap.size w w'
theorem DIn.slc {w : World} {S : Nat → Prop} {v : Value} {ks : List (List Da)} (h : DIn w S v (.sl ks)) : ∃ a n c, v = .slice a n c := by cases h; exact ⟨_, _, _, rfl⟩
theorem box_set {u : World} {H : Nat} {cs : Array Value} {T : TypeId} {j : Nat} {v : Value} (h : u.heap[H]? = some (.cells cs T (0, 0))) : (u.setCell ⟨H, j, none⟩ v).heap[H]? = some (.cells (cs.setIfInBounds j v) T (0, 0)) := heap_setCell_same u H j cs T v h
theorem set_grown (w : World) (H j : Nat) (v : Value) : w.grownBy (w.setCell ⟨H, j, none⟩ v) (some H) :=
 ⟨rfl, rfl, rfl, by simp, fun k _ hk => heap_setCell_other w ⟨H, j, none⟩ k v (fun e => hk (by rw [e]))⟩
theorem DIn.set {w : World} {S : Nat → Prop} {u : Value} {d : Da} (h : DIn w S u d) {H : Nat} (hH : ¬ S H) (j : Nat) (v : Value) : DIn (w.setCell ⟨H, j, none⟩ v) S u d :=
 h.cg (set_grown w H j v).size (fun g hg hS => (set_grown w H j v).block g hg (fun e => hH (by injection e with e; rw [← e]; exact hS)))
theorem DIn.bel {w w' : World} {S : Nat → Prop} {u : Value} {d : Da} (h : DIn w S u d) (hb : Below w.heap.size w w') : DIn w' S u d := h.cg hb.size (fun g hg _ => hb.block g hg)
theorem RwD.set {w : World} {B : Nat} {S : Nat → Prop} {T : TypeId} {s : Nat} {v : Value} {kids : List (List Da)} (h : RwD w B S T s v kids) {H : Nat} (hH : ¬ S H) (hv : ∀ g, v.ownBlock = some g → g ≠ H) (j : Nat) (x : Value) : RwD (w.setCell ⟨H, j, none⟩ x) B S T s v kids := by
 obtain ⟨xs, e1, e2, e3, e4, e5, e6⟩ := h
 refine ⟨xs, e1, e2, e3, World.ownsRow.kept e4 (set_grown w H j x) ?_, e5, fun i j' r k u d h1 h2 h3 h4 => (e6 i j' r k u d h1 h2 h3 h4).set hH j x⟩
 cases hw : v.ownBlock with
 | none => exact .inl rfl
 | some g => exact .inr (fun e => hv g hw (by injection e))
theorem RwD.notin {w : World} {B : Nat} {S : Nat → Prop} {T : TypeId} {s : Nat} {v : Value} {kids : List (List Da)} (h : RwD w B S T s v kids) : ∀ g, v.ownBlock = some g → ¬ S g := by
 obtain ⟨xs, e1, e2, e3, e4, e5, e6⟩ := h
 exact e5
theorem ex_row_din {u : World} {S : Nat → Prop} {x : Ex} {p q : Value} (h1 : DIn u S p (.sl (exsDa x.args))) (h2 : DIn u S q (.sl (qusDa x.qs))) : ∀ (j : Nat) (v : Value) (d : Da), [Value.int .i64 x.op, .string (str x.tb), .string (str x.nm), .int .i64 x.v.k, .int .i64 x.v.n, .string (str x.v.s), p, q][j]? = some v → x.da[j]? = some d → DIn u S v d := by
 intro j v d hv hd
 obtain ⟨op, tb, nm, vv, args, qs⟩ := x
 have hj8 := (List.getElem?_eq_some_iff.1 hd).1
 have hj8 : j < 8 := hj8
 match j, hj8, hv, hd with
 | 0, _, hv, hd => injection hv with hv; injection hd with hd; subst hv hd; exact .sc _
 | 1, _, hv, hd => injection hv with hv; injection hd with hd; subst hv hd; exact .sc _
 | 2, _, hv, hd => injection hv with hv; injection hd with hd; subst hv hd; exact .sc _
 | 3, _, hv, hd => injection hv with hv; injection hd with hd; subst hv hd; exact .sc _
 | 4, _, hv, hd => injection hv with hv; injection hd with hd; subst hv hd; exact .sc _
 | 5, _, hv, hd => injection hv with hv; injection hd with hd; subst hv hd; exact .sc _
 | 6, _, hv, hd => injection hv with hv; injection hd with hd; subst hv hd; exact h1
 | 7, _, hv, hd => injection hv with hv; injection hd with hd; subst hv hd; exact h2
theorem ex_row_one (x : Ex) (a1 : Option Addr) (n1 c1 : Nat) (a2 : Option Addr) (n2 c2 : Nat) : ∀ u ∈ [Value.int .i64 x.op, .string (str x.tb), .string (str x.nm), .int .i64 x.v.k, .int .i64 x.v.n, .string (str x.v.s), .slice a1 n1 c1, .slice a2 n2 c2], u.oneCell' = true := by
 intro u hu
 simp only [List.mem_cons, List.not_mem_nil, or_false] at hu
 rcases hu with rfl | rfl | rfl | rfl | rfl | rfl | rfl | rfl <;> rfl
theorem RwD.cap {w : World} {B : Nat} {S : Nat → Prop} {T : TypeId} {s n c : Nat} {a : Option Addr} {kids : List (List Da)} (h : RwD w B S T s (.slice a n c) kids) : n ≤ c := by
 obtain ⟨xs, e1, e2, e3, ⟨-, ⟨e, hn⟩ | ⟨g, cap, cur, e, hB, hcur, hc, -⟩⟩, -⟩ := h
 ·injection e with e4 e5 e6
  omega
 ·injection e with e4 e5 e6
  omega
theorem DIn.take {w : World} {S : Nat → Prop} {a : Option Addr} {n c : Nat} {ks : List (List Da)} (h : DIn w S (.slice a n c) (.sl ks)) (m : Nat) (hm : m ≤ n) : DIn w S (.slice a m c) (.sl (ks.take m)) := by
 cases h with
 | sl a n c s kids vals hn hc hs hg h1 h2 =>
  refine .sl a m c s (ks.take m) vals (by rw [List.length_take]; omega) (by omega) (fun r hr => hs r (List.mem_of_mem_take hr)) (fun h0 => hg (by omega)) (fun i j r x hi hj => h1 i j r x ?_ hj) (fun i j r x hi hj => h2 i j r x ?_ hj)
  all_goals
   have hl := (List.getElem?_eq_some_iff.1 hi).1
   rw [List.length_take] at hl
   rw [List.getElem?_take_of_lt (by omega)] at hi
   exact hi
theorem nil_din {u : World} {S : Nat → Prop} : DIn u S (.slice none 0 0) (.sl []) := .sl none 0 0 0 [] (fun _ _ => undef) rfl (Nat.le_refl 0) (fun r hr => by cases hr) (fun h0 => absurd h0 (Nat.lt_irrefl 0)) (fun i j r x hi => by simp at hi) (fun i j r x hi => by simp at hi)
def zEx : Ex := .mk (-77) [] [] ⟨0, 0, []⟩ [] []
theorem exs_snoc (l : List Ex) (k : Nat) (x : Ex) (h : l[k]? = some x) : exsDa (l.take (k + 1)) = exsDa (l.take k) ++ [x.da] := by
 rw [exsDa_map, exsDa_map, List.take_add_one, h, List.map_append]; rfl
theorem grown_below {w w' : World} {B : Nat} {row : Option Nat} (h : w.grownBy w' row) (hr : ∀ g, row = some g → B ≤ g) (hB : B ≤ w.heap.size) : Below B w w' :=
 ⟨h.os, h.tape, h.output, h.size, fun k hk => h.block k (by omega) (fun e => by have := hr k e.symm; omega)⟩
set_option maxRecDepth 100000 in
set_option maxHeartbeats 6400000 in
theorem rcopyExprs_step (v1 : Value) (r : List Ex) (w : World) (hv1 : DIs w v1 (.sl (exsDa r))) (hl : r.length ≤ 1073741823)
  (hA : ∀ x ∈ r, ∀ (u : World) (a : Value), Below w.heap.size w u → DIs u a (.sl (exsDa x.args)) → Calls Tryz.prog 20 #[a] u (CP u (exsDa x.args)))
  (hQ : ∀ x ∈ r, ∀ (u : World) (a : Value), Below w.heap.size w u → DIs u a (.sl (qusDa x.qs)) → Calls Tryz.prog 19 #[a] u (CP u (qusDa x.qs))) :
  Calls Tryz.prog 20 #[v1] w (CP w (exsDa r)) := by
 obtain ⟨a1, c1, rfl, hc1, hcell1⟩ := exs_rows hv1
 have HC1 := hid hcell1
 have HA := hid hA
 have HQ := hid hQ
 generalize hn : r.length = n at *
 have HN := hid hn
 obtain ⟨C, hC, hmk⟩ := make_row rowEx w (n + 1) (by omega)
 rw [show ((n + 1 : Nat) : Int) = (n : Int) + 1 by omega] at hmk
 have HM := hid (RwD.made (w := w.alloc (.cells C 40)) (B := w.heap.size) (S := fun _ => False) (T := 40) (s := 8) (heap_alloc_new _ _) hC (Nat.le_refl _) id (by unfold maxLen; omega))
 clear hcell1 hn hv1 hA hQ
 go_enter Tryz.func20, Tryz.ntmps20
 go_wp2_with fail
 go_loopw [3, 4] (fun o i wr => ∃ (k : Nat) (a : Option Addr) (c : Nat) (S : Nat → Prop), k ≤ n ∧ i = .int .i64 k ∧ o = .slice a k c ∧ Below w.heap.size w wr ∧ Hid (RwD wr w.heap.size S 40 8 (.slice a k c) (exsDa (r.take k))) ∧ Hid (∀ q, S q → w.heap.size ≤ q ∧ q < wr.heap.size)) (fun _ i _ => n - (intOf i).toNat)
 case atStart => exact ⟨0, _, _, fun _ => False, Nat.zero_le _, rfl, rfl, (Below.refl _ _).alloc (Nat.le_refl _) _, HM, hid (fun q h => h.elim)⟩
 case round =>
  obtain ⟨k, a, c, S, hk1, rfl, rfl, hbw, HRW, HS⟩ := hrel
  have hsz := hbw.size
  have HBW := hid hbw
  clear hbw
  by_cases hlt1 : k < n
  ·obtain ⟨b1, o1, rfl, hb1, hd1⟩ := HC1.out (by omega)
   obtain ⟨x, hx⟩ : ∃ x, r[k]? = some x := ⟨_, List.getElem?_eq_getElem (by rw [HN.out]; exact hlt1)⟩
   obtain ⟨s0, s1, p0, p1, p2, p3, p4, p5, p6, p7, h0, h1⟩ := hd1 k x hx
   replace p0 := (HBW.out.cell (p := ⟨b1, o1 + k * 8, none⟩) hb1).trans p0
   replace p1 := (HBW.out.cell (p := ⟨b1, o1 + k * 8 + 1, none⟩) hb1).trans p1
   replace p2 := (HBW.out.cell (p := ⟨b1, o1 + k * 8 + 2, none⟩) hb1).trans p2
   replace p3 := (HBW.out.cell (p := ⟨b1, o1 + k * 8 + 3, none⟩) hb1).trans p3
   replace p4 := (HBW.out.cell (p := ⟨b1, o1 + k * 8 + 4, none⟩) hb1).trans p4
   replace p5 := (HBW.out.cell (p := ⟨b1, o1 + k * 8 + 5, none⟩) hb1).trans p5
   replace p6 := (HBW.out.cell (p := ⟨b1, o1 + k * 8 + 6, none⟩) hb1).trans p6
   replace p7 := (HBW.out.cell (p := ⟨b1, o1 + k * 8 + 7, none⟩) hb1).trans p7
   obtain ⟨e0, m0, n0, rfl⟩ := dis_slice h0
   obtain ⟨e1, m1, n1, rfl⟩ := dis_slice h1
   have HCA := hid (fun (u : World) (hu : Below w.heap.size w u) => HA.out x (List.mem_of_getElem? hx) u _ hu (h0.keep hu))
   have HCQ := hid (fun (u : World) (hu : Below w.heap.size w u) => HQ.out x (List.mem_of_getElem? hx) u _ hu (h1.keep hu))
   have HX := hid hx
   have hb1r : b1 < wr.heap.size := by omega
   clear hd1 hx h0 h1
   have hkl : (exsDa (r.take k)).length = k := by rw [exsDa_len, List.length_take, HN.out]; omega
   have HKL := hid hkl
   clear hkl
   have HB1 := hid (fun (o1 : Obj) => HBW.out.alloc (by omega) o1)
   go_wp2_with (first
    | (
      go_at_call 20; refine (HCA.out _ (HB1.out _)).mono ?_; clear HCA; rintro e w1 ⟨v2, rfl, hd, hb⟩
      have x1 := (hb.block wr.heap.size (by simp)).trans (heap_alloc_new _ _)
      obtain ⟨a2, n2, c2, rfl⟩ := hd.slc
      have hz1 := hb.size
      have HD1 := hid (hd.mono (S' := fun g => wr.heap.size + 1 ≤ g) (fun g _ hg => by simpa using hg))
      have HR1 := hid ((HRW.out.below ((Below.refl wr.heap.size wr).alloc (Nat.le_refl _) _)).below hb)
      have HK1 := hid ((HB1.out _).trans (hb.mono (by simp; omega)))
      have r6 := cell_at x1 6 rfl
      have f4 := frozen_of_row w1 wr.heap.size 6 _ _ x1
      have y := box_set (j := 6) (v := .slice a2 n2 c2) x1
      have q7 := cell_at y 7 rfl
      have HY1 := hid y
      have hz1 : wr.heap.size + 1 ≤ w1.heap.size := by simpa using hz1
      clear hd hb x1 y)
    | (
      go_at_call 19; refine (HCQ.out _ (HK1.out.setCell (by omega) _)).mono ?_; clear HCQ; rintro e w2 ⟨v3, rfl, hd, hb⟩
      have x1 := (hb.block wr.heap.size (by simp; omega)).trans HY1.out
      obtain ⟨a3, n3, c3, rfl⟩ := hd.slc
      have hz2 := hb.size
      have HD2 := hid (hd.mono (S' := fun g => wr.heap.size + 1 ≤ g) (fun g _ hg => by simp at hg; omega))
      have HD3 := hid ((HD1.out.set (fun h => by omega) 6 (.slice a2 n2 c2)).bel hb)
      have HR2 := hid ((HR1.out.set (fun h => by have := HS.out _ h; omega) (fun g hg => by have := HRW.out.lt g hg; omega) 6 (.slice a2 n2 c2)).below hb)
      have HK2 := hid ((HK1.out.setCell (by omega) _).trans (hb.mono (by simp; omega)))
      have r7 := cell_at x1 7 rfl
      have f5 := frozen_of_row w2 wr.heap.size 7 _ _ x1
      have y := box_set (j := 7) (v := .slice a3 n3 c3) x1
      have q0 := cell_at y 0 rfl; have q1 := cell_at y 1 rfl; have q2 := cell_at y 2 rfl; have q3 := cell_at y 3 rfl; have q4 := cell_at y 4 rfl; have q5 := cell_at y 5 rfl; have q6 := cell_at y 6 rfl; have q7 := cell_at y 7 rfl
      have HY2 := hid y
      have hz2 : w1.heap.size ≤ w2.heap.size := by simpa using hz2
      clear hd hb x1 y)
    | (
      at_builtin; refine wpList_append_rd (o := ⟨some 31, _, _, _, _, _⟩) rowEx rfl (Operand.tmp 28) (Operand.tmp 30) rfl w.heap.size (fun q => S q ∨ (wr.heap.size + 1 ≤ q ∧ q < w2.heap.size)) (fun q => S q ∨ (wr.heap.size + 1 ≤ q ∧ q < w2.heap.size)) (.slice a k c) (exsDa (r.take k)) rfl
       (((HR2.out.set (fun h => by have := HS.out _ h; omega) (fun g hg => by have := HRW.out.lt g hg; omega) 7 (.slice a3 n3 c3)).below ((Below.refl _ _).alloc (Nat.le_refl _) _)).more (fun g _ h => .inl h) (fun g hg h => by
        rcases h with h | h
        ·exact HRW.out.notin g hg h
        ·have := HRW.out.lt g hg; omega))
       w2.heap.size [.int .i64 x.op, .string (str x.tb), .string (str x.nm), .int .i64 x.v.k, .int .i64 x.v.n, .string (str x.v.s), .slice a2 n2 c2, .slice a3 n3 c3] x.da rfl (by have := heap_alloc_new (w2.setCell ⟨wr.heap.size, 7, none⟩ (.slice a3 n3 c3)) (.cells #[.int .i64 x.op, .string (str x.tb), .string (str x.nm), .int .i64 x.v.k, .int .i64 x.v.n, .string (str x.v.s), .slice a2 n2 c2, .slice a3 n3 c3] 40); simpa using this) rfl (exda_len x)
       (ex_row_din (((HD3.out.mono (S' := (fun q => S q ∨ (wr.heap.size + 1 ≤ q ∧ q < w2.heap.size))) (fun g hg h => .inr ⟨h, hg⟩)).set (fun h => by
        rcases h with h | h
        ·have := HS.out _ h; omega
        ·omega) 7 (.slice a3 n3 c3)).bel ((Below.refl _ _).alloc (Nat.le_refl _) _)) (((HD2.out.mono (S' := (fun q => S q ∨ (wr.heap.size + 1 ≤ q ∧ q < w2.heap.size))) (fun g hg h => .inr ⟨h, hg⟩)).set (fun h => by
        rcases h with h | h
        ·have := HS.out _ h; omega
        ·omega) 7 (.slice a3 n3 c3)).bel ((Below.refl _ _).alloc (Nat.le_refl _) _)))
       (ex_row_one x _ _ _ _ _ _) (by rw [HKL.out]; omega) (by simp; omega) (fun q h _ => h) (fun g hg h => by
        rcases h with h | h
        ·exact HRW.out.notin g hg h
        ·have := HRW.out.lt g hg; omega) (fun h => by
        rcases h with h | h
        ·have := HS.out _ h; simp at this; omega
        ·simp at h; omega) ?_
      intro a4 c4 w4 hr4 hg4
      rw [HKL.out] at hr4
      rw [HKL.out]
      have hz4 := hg4.size
      have hz4 : w2.heap.size + 1 ≤ w4.heap.size := by simpa using hz4
      have HR4 := hid hr4
      have HG4 := hid hg4
      clear hr4 hg4))
   go_roundw
   case rel => exact ⟨k + 1, a4, c4, _, by omega, by go_num, rfl, ((HK2.out.setCell (by omega) _).alloc (by simp; omega) _).trans (grown_below HG4.out (fun g hg => (HRW.out.lt g hg).1) (by simp; omega)), hid (by rw [exs_snoc r k x HX.out]; exact HR4.out), hid (fun q h => by
    rcases h with h | h
    ·have := HS.out q h; omega
    ·omega)⟩
   case measure => simp [intOf]; omega
  ·have hkn : k = n := by omega
   subst hkn
   have hcn : decide ((k : Int) < (k : Int)) = false := decide_eq_false (by omega)
   have hkl : (exsDa (r.take k)).length = k := by rw [exsDa_len, List.length_take, HN.out]; omega
   have HKL := hid hkl
   clear hkl
   have HTK := hid (show r.take k = r from List.take_of_length_le (by rw [HN.out]; omega))
   go_wp2_with (first
    | (
      at_builtin; refine wpList_append_rd (o := ⟨some 35, _, _, _, _, _⟩) rowEx rfl (Operand.tmp 32) (Operand.tmp 34) rfl w.heap.size S S (.slice a k c) (exsDa (r.take k)) rfl
       (HRW.out.below ((Below.refl _ _).alloc (Nat.le_refl _) _))
       wr.heap.size [.int .i64 (-77), .string ⟨#[]⟩, .string ⟨#[]⟩, .int .i64 0, .int .i64 0, .string ⟨#[]⟩, .slice none 0 0, .slice none 0 0] zEx.da rfl (heap_alloc_new _ _) rfl rfl
       (ex_row_din (x := zEx) nil_din nil_din)
       (ex_row_one zEx _ _ _ _ _ _) (by rw [HKL.out]; omega) (by simp; omega) (fun q h _ => h) HRW.out.notin (fun h => by have := HS.out _ h; simp at this; omega) ?_
      intro a4 c4 w4 hr4 hg4
      rw [HKL.out] at hr4
      rw [HKL.out]
      have hc4 := hr4.cap
      have hc4i : (k : Int) ≤ (c4 : Int) := by omega
      have HR4 := hid hr4
      have HG4 := hid hg4
      clear hr4 hg4))
   go_ret
   exact ⟨_, rfl, by
    have h := (HR4.out.din (S' := fun g => w.heap.size ≤ g) (fun g h => (HS.out g h).1) (fun g hg => (HR4.out.lt g hg).1)).take k (by omega)
    rw [List.take_append_of_le_length (by rw [HKL.out]; omega), List.take_of_length_le (by rw [HKL.out]; omega), HTK.out] at h
    exact h, (HBW.out.alloc (by omega) _).trans (grown_below HG4.out (fun g hg => (HRW.out.lt g hg).1) (by simp; omega))⟩
end Go.Proofs.YtegkbagnbnoopaaGreatDoor
