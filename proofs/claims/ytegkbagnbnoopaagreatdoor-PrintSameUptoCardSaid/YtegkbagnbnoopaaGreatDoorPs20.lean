/- the writer of print: body -/
import Derived.Test.YtegkbagnbnoopaaGreatDoorPs19
namespace Go.Proofs.YtegkbagnbnoopaaGreatDoor
open Go.ChangeShapes Go.WideShapes Go.ChangeAt Go.RowKit Go.Deep
open Go.Lib (hid)
set_option maxRecDepth 100000 in
set_option maxHeartbeats 6400000 in
theorem body_step {w0 : World} {x : Qu} (hT : Tabs w0) (hS : x.op = 1 → CSw w0 x.sel) (hP : x.op ≠ 1 → (x.op = 2 ∨ x.op = 3) ∧ ∃ p q, x.parts = [p, q]) (hB : ∀ p ∈ x.parts, CBd w0 p)
  (hU : ∀ p ∈ x.parts, ∀ a, QuV w0 a p → W1 w0 73 a (unitF (p.op, p.bd))) (hM : ∀ p ∈ x.parts, Mo (unitF (p.op, p.bd))) (a : Value) (ha : QuV w0 a x) : W1 w0 46 a x.bd := by
 intro A H B g s w hA hw hc hl
 obtain ⟨p0, p1, p2, p3, p4, p5, p6, rfl, h0, h1, h2, h3, h4, h5, h6⟩ := ha
 obtain ⟨a0, k0, rfl, -, hcell0⟩ := qus_rows h0
 obtain ⟨a1, n1, k1, rfl⟩ := dis_slice h1
 obtain ⟨a2, n2, k2, rfl⟩ := dis_slice h2
 obtain ⟨a3, n3, k3, rfl⟩ := dis_slice h3
 obtain ⟨a4, n4, k4, rfl⟩ := dis_slice h4
 obtain ⟨a5, n5, k5, rfl⟩ := dis_slice h5
 obtain ⟨a6, n6, k6, rfl⟩ := dis_slice h6
 have HX := hid (new_els hc (.cells #[.int .i64 x.op, .slice a0 x.parts.length k0, .bool x.sel.dist, .slice a1 n1 k1, .slice a2 n2 k2, .slice a3 n3 k3, .slice a4 n4 k4, .slice a5 n5 k5, .slice a6 n6 k6, .bool x.lim, .int .i64 x.n] 30))
 by_cases h1_ : x.op = 1
 ·have e : x.bd s = x.sel.wr s := by
   obtain ⟨op, ps, sel, od, li, nn⟩ := x
   exact if_pos h1_
  rw [e] at hl ⊢
  have f1 : (x.op == (1 : Int)) = true := beq_iff_eq.2 h1_
  have HO := hid (fun (o : Obj) => hS h1_ (.agg #[.bool x.sel.dist, .slice a1 n1 k1, .slice a2 n2 k2, .slice a3 n3 k3, .slice a4 n4 k4, .slice a5 n5 k5]) ⟨_, _, _, _, _, rfl, h1, h2, h3, h4, h5⟩ A H B g s (w.alloc o) hA (hw.alloc hw.size o) (hc.alloc o) hl)
  clear hT hP hB hU hM hS hw hc hl h0 h1 h2 h3 h4 h5 h6 e h1_ hcell0
  go_enter Tryz.func46, Tryz.ntmps46
  go_wp2_with (go_at_call 72; refine (HO.out _).mono ?_; clear HO; rintro e w1 ⟨rfl, g1, hc1, hk⟩; have HS1 := hid hc1; have HK1 := hid (((WK.refl H B w g).alloc _).trans hk); clear hc1 hk)
  refine bodyPost_ret (results_none rfl _ _ _) rfl ?_
  exact ⟨rfl, g1, HS1.out, HK1.out⟩
 ·obtain ⟨hop, p, q, hpq⟩ := hP h1_
  have f1 : (x.op == (1 : Int)) = false := beq_eq_false_iff_ne.2 h1_
  have e : x.bd s = unitF (q.op, q.bd) ((p.bd s).put [unionT x.op]) := by
   obtain ⟨op, ps, sel, od, li, nn⟩ := x
   have hpq : ps = [p, q] := hpq
   subst hpq
   exact if_neg h1_
  rw [e] at hl ⊢
  have hlen : x.parts.length = 2 := by rw [hpq]; rfl
  generalize x.parts.length = n0 at *
  subst hlen
  obtain ⟨b1, o1, rfl, hb1, hd1⟩ := hcell0 (by omega)
  obtain ⟨sp0, sp1, sp2, sp3, sp4, sp5, sp6, pc0, pc1, pc2, pc3, pc4, pc5, pc6, pc7, pc8, pc9, pc10, gp0, gp1, gp2, gp3, gp4, gp5, gp6⟩ := hd1 0 p (by rw [hpq]; rfl)
  obtain ⟨sq0, sq1, sq2, sq3, sq4, sq5, sq6, qc0, qc1, qc2, qc3, qc4, qc5, qc6, qc7, qc8, qc9, qc10, gq0, gq1, gq2, gq3, gq4, gq5, gq6⟩ := hd1 1 q (by rw [hpq]; rfl)
  obtain ⟨r0, s0, t0, rfl⟩ := dis_slice gp0
  obtain ⟨u0, v0, x0_, rfl⟩ := dis_slice gq0
  obtain ⟨r1, s1, t1, rfl⟩ := dis_slice gp1
  obtain ⟨u1, v1, x1_, rfl⟩ := dis_slice gq1
  obtain ⟨r2, s2, t2, rfl⟩ := dis_slice gp2
  obtain ⟨u2, v2, x2_, rfl⟩ := dis_slice gq2
  obtain ⟨r3, s3, t3, rfl⟩ := dis_slice gp3
  obtain ⟨u3, v3, x3_, rfl⟩ := dis_slice gq3
  obtain ⟨r4, s4, t4, rfl⟩ := dis_slice gp4
  obtain ⟨u4, v4, x4_, rfl⟩ := dis_slice gq4
  obtain ⟨r5, s5, t5, rfl⟩ := dis_slice gp5
  obtain ⟨u5, v5, x5_, rfl⟩ := dis_slice gq5
  obtain ⟨r6, s6, t6, rfl⟩ := dis_slice gp6
  obtain ⟨u6, v6, x6_, rfl⟩ := dis_slice gq6
  have hm2 := hM q (by rw [hpq]; simp) ((p.bd s).put [unionT x.op])
  have hm1 := put_mono (p.bd s) [unionT x.op]
  have HBO := hid (fun (o : Obj) => hB p (by rw [hpq]; simp) (.agg #[.int .i64 p.op, .slice r0 s0 t0, .bool p.sel.dist, .slice r1 s1 t1, .slice r2 s2 t2, .slice r3 s3 t3, .slice r4 s4 t4, .slice r5 s5 t5, .slice r6 s6 t6, .bool p.lim, .int .i64 p.n]) ⟨_, _, _, _, _, _, _, rfl, gp0, gp1, gp2, gp3, gp4, gp5, gp6⟩ A H B g s (w.alloc o) hA (hw.alloc hw.size o) (hc.alloc o) (by omega))
  have HUN := hid (fun (g1 : Option Nat) (u : World) (h : WrC u A H B g1 ((p.bd s).put [unionT x.op])) (hu : Below w0.heap.size w0 u) => hU q (by rw [hpq]; simp) (.agg #[.int .i64 q.op, .slice u0 v0 x0_, .bool q.sel.dist, .slice u1 v1 x1_, .slice u2 v2 x2_, .slice u3 v3 x3_, .slice u4 v4 x4_, .slice u5 v5 x5_, .slice u6 v6 x6_, .bool q.lim, .int .i64 q.n]) ⟨_, _, _, _, _, _, _, rfl, gq0, gq1, gq2, gq3, gq4, gq5, gq6⟩ A H B g1 _ u hA hu h hl)
  have HROW := hid (fun (u : World) (hu : Below w0.heap.size w0 u) => And.intro (⟨(hu.cell (p := ⟨b1, o1 + 0 * 11, none⟩) hb1).trans pc0, (hu.cell (p := ⟨b1, o1 + 0 * 11 + 1, none⟩) hb1).trans pc1, (hu.cell (p := ⟨b1, o1 + 0 * 11 + 2, none⟩) hb1).trans pc2, (hu.cell (p := ⟨b1, o1 + 0 * 11 + 3, none⟩) hb1).trans pc3, (hu.cell (p := ⟨b1, o1 + 0 * 11 + 4, none⟩) hb1).trans pc4, (hu.cell (p := ⟨b1, o1 + 0 * 11 + 5, none⟩) hb1).trans pc5, (hu.cell (p := ⟨b1, o1 + 0 * 11 + 6, none⟩) hb1).trans pc6, (hu.cell (p := ⟨b1, o1 + 0 * 11 + 7, none⟩) hb1).trans pc7, (hu.cell (p := ⟨b1, o1 + 0 * 11 + 8, none⟩) hb1).trans pc8, (hu.cell (p := ⟨b1, o1 + 0 * 11 + 9, none⟩) hb1).trans pc9, (hu.cell (p := ⟨b1, o1 + 0 * 11 + 10, none⟩) hb1).trans pc10⟩ : u.cell? ⟨b1, o1, none⟩ = some (.int .i64 p.op) ∧ u.cell? ⟨b1, o1 + 1, none⟩ = some (.slice r0 s0 t0) ∧ u.cell? ⟨b1, o1 + 2, none⟩ = some (.bool p.sel.dist) ∧ u.cell? ⟨b1, o1 + 3, none⟩ = some (.slice r1 s1 t1) ∧ u.cell? ⟨b1, o1 + 4, none⟩ = some (.slice r2 s2 t2) ∧ u.cell? ⟨b1, o1 + 5, none⟩ = some (.slice r3 s3 t3) ∧ u.cell? ⟨b1, o1 + 6, none⟩ = some (.slice r4 s4 t4) ∧ u.cell? ⟨b1, o1 + 7, none⟩ = some (.slice r5 s5 t5) ∧ u.cell? ⟨b1, o1 + 8, none⟩ = some (.slice r6 s6 t6) ∧ u.cell? ⟨b1, o1 + 9, none⟩ = some (.bool p.lim) ∧ u.cell? ⟨b1, o1 + 10, none⟩ = some (.int .i64 p.n)) (⟨(hu.cell (p := ⟨b1, o1 + 1 * 11, none⟩) hb1).trans qc0, (hu.cell (p := ⟨b1, o1 + 1 * 11 + 1, none⟩) hb1).trans qc1, (hu.cell (p := ⟨b1, o1 + 1 * 11 + 2, none⟩) hb1).trans qc2, (hu.cell (p := ⟨b1, o1 + 1 * 11 + 3, none⟩) hb1).trans qc3, (hu.cell (p := ⟨b1, o1 + 1 * 11 + 4, none⟩) hb1).trans qc4, (hu.cell (p := ⟨b1, o1 + 1 * 11 + 5, none⟩) hb1).trans qc5, (hu.cell (p := ⟨b1, o1 + 1 * 11 + 6, none⟩) hb1).trans qc6, (hu.cell (p := ⟨b1, o1 + 1 * 11 + 7, none⟩) hb1).trans qc7, (hu.cell (p := ⟨b1, o1 + 1 * 11 + 8, none⟩) hb1).trans qc8, (hu.cell (p := ⟨b1, o1 + 1 * 11 + 9, none⟩) hb1).trans qc9, (hu.cell (p := ⟨b1, o1 + 1 * 11 + 10, none⟩) hb1).trans qc10⟩ : u.cell? ⟨b1, o1 + 11, none⟩ = some (.int .i64 q.op) ∧ u.cell? ⟨b1, o1 + 12, none⟩ = some (.slice u0 v0 x0_) ∧ u.cell? ⟨b1, o1 + 13, none⟩ = some (.bool q.sel.dist) ∧ u.cell? ⟨b1, o1 + 14, none⟩ = some (.slice u1 v1 x1_) ∧ u.cell? ⟨b1, o1 + 15, none⟩ = some (.slice u2 v2 x2_) ∧ u.cell? ⟨b1, o1 + 16, none⟩ = some (.slice u3 v3 x3_) ∧ u.cell? ⟨b1, o1 + 17, none⟩ = some (.slice u4 v4 x4_) ∧ u.cell? ⟨b1, o1 + 18, none⟩ = some (.slice u5 v5 x5_) ∧ u.cell? ⟨b1, o1 + 19, none⟩ = some (.slice u6 v6 x6_) ∧ u.cell? ⟨b1, o1 + 20, none⟩ = some (.bool q.lim) ∧ u.cell? ⟨b1, o1 + 21, none⟩ = some (.int .i64 q.n)))
  have HUT := hid (fun (u : World) (hu : Below w0.heap.size w0 u) => (hT.keep hu).uni)
  have HPU := hid (fun (g1 : Option Nat) (u : World) (h : WrC u A H B g1 (p.bd s)) => put_one (unionT x.op) (str (unionT x.op)) rfl h (by rcases hop with h | h <;> rw [h] <;> exact rngB rfl) (by omega))
  have HCC := hid (fun o => hc.alloc o)
  have HW := hid hw
  have HWA := hid (fun o => hw.alloc hw.size o)
  have hb1w : b1 < w.heap.size := by have := hw.size; omega
  generalize unitF (q.op, q.bd) ((p.bd s).put [unionT x.op]) = sZ at *
  have r0 := HROW.out w HW.out
  have hsz := hw.size
  clear hT hP hB hU hM hS hw hc hl h0 h1 h2 h3 h4 h5 h6 e h1_ hd1 hm1 hm2 gp0 gq0 gp1 gq1 gp2 gq2 gp3 gq3 gp4 gq4 gp5 gq5 gp6 gq6 pc0 qc0 pc1 qc1 pc2 qc2 pc3 qc3 pc4 qc4 pc5 qc5 pc6 qc6 pc7 qc7 pc8 qc8 pc9 qc9 pc10 qc10
  obtain ⟨⟨rr0, rr1, rr2, rr3, rr4, rr5, rr6, rr7, rr8, rr9, rr10⟩, -⟩ := r0
  generalize hxo : x.op = xo at *
  clear hxo
  rcases hop with rfl | rfl
  ·
   have hut := fun u hu => HUT.out u hu 2 (by omega)
   go_enter Tryz.func46, Tryz.ntmps46
   go_wp2_with (first
    | (go_at_call 46; refine (HBO.out _).mono ?_; clear HBO; rintro e w1 ⟨rfl, g1, hc1, hk⟩; have HX1 := hid (HX.out.keep hk); have HS1 := hid hc1; have hu1 := hut w1 (hk.low (HCC.out _) hA (HWA.out _)); have HB1 := hid (hk.low (HCC.out _) hA (HWA.out _)); have HK1 := hid (((WK.refl H B w g).alloc _).trans hk); clear hc1 hk; have y0 := cell_at HX1.out.at_ 0 rfl; have y1 := cell_at HX1.out.at_ 1 rfl; have y2 := cell_at HX1.out.at_ 2 rfl; have y3 := cell_at HX1.out.at_ 3 rfl; have y4 := cell_at HX1.out.at_ 4 rfl; have y5 := cell_at HX1.out.at_ 5 rfl; have y6 := cell_at HX1.out.at_ 6 rfl; have y7 := cell_at HX1.out.at_ 7 rfl; have y8 := cell_at HX1.out.at_ 8 rfl; have y9 := cell_at HX1.out.at_ 9 rfl; have y10 := cell_at HX1.out.at_ 10 rfl)
    | (go_at_call 47; refine (HPU.out _ _ HS1.out).mono ?_; clear HPU; rintro e w2 ⟨rfl, g2, hc2, hk⟩; have HX2 := hid (HX1.out.keep hk); have HS2 := hid hc2; have HB2 := hid (hk.low HS1.out hA HB1.out); have HK2 := hid (HK1.out.trans hk); clear hc2 hk y0 y1 y2 y3 y4 y5 y6 y7 y8 y9 y10; have z0 := cell_at HX2.out.at_ 0 rfl; have z1 := cell_at HX2.out.at_ 1 rfl; have z2 := cell_at HX2.out.at_ 2 rfl; have z3 := cell_at HX2.out.at_ 3 rfl; have z4 := cell_at HX2.out.at_ 4 rfl; have z5 := cell_at HX2.out.at_ 5 rfl; have z6 := cell_at HX2.out.at_ 6 rfl; have z7 := cell_at HX2.out.at_ 7 rfl; have z8 := cell_at HX2.out.at_ 8 rfl; have z9 := cell_at HX2.out.at_ 9 rfl; have z10 := cell_at HX2.out.at_ 10 rfl; obtain ⟨-, ⟨ss0, ss1, ss2, ss3, ss4, ss5, ss6, ss7, ss8, ss9, ss10⟩⟩ := HROW.out w2 HB2.out; have hb1w2 : b1 < w2.heap.size := (by have := HB2.out.size; omega))
    | (go_at_call 73; refine (HUN.out _ _ HS2.out HB2.out).mono ?_; clear HUN; rintro e w3 ⟨rfl, g3, hc3, hk⟩; have HS3 := hid hc3; have HK3 := hid (HK2.out.trans hk); clear hc3 hk)
    | fail)
   refine bodyPost_ret (results_none rfl _ _ _) rfl ?_
   exact ⟨rfl, g3, HS3.out, HK3.out⟩
  ·
   have hut := fun u hu => HUT.out u hu 3 (by omega)
   go_enter Tryz.func46, Tryz.ntmps46
   go_wp2_with (first
    | (go_at_call 46; refine (HBO.out _).mono ?_; clear HBO; rintro e w1 ⟨rfl, g1, hc1, hk⟩; have HX1 := hid (HX.out.keep hk); have HS1 := hid hc1; have hu1 := hut w1 (hk.low (HCC.out _) hA (HWA.out _)); have HB1 := hid (hk.low (HCC.out _) hA (HWA.out _)); have HK1 := hid (((WK.refl H B w g).alloc _).trans hk); clear hc1 hk; have y0 := cell_at HX1.out.at_ 0 rfl; have y1 := cell_at HX1.out.at_ 1 rfl; have y2 := cell_at HX1.out.at_ 2 rfl; have y3 := cell_at HX1.out.at_ 3 rfl; have y4 := cell_at HX1.out.at_ 4 rfl; have y5 := cell_at HX1.out.at_ 5 rfl; have y6 := cell_at HX1.out.at_ 6 rfl; have y7 := cell_at HX1.out.at_ 7 rfl; have y8 := cell_at HX1.out.at_ 8 rfl; have y9 := cell_at HX1.out.at_ 9 rfl; have y10 := cell_at HX1.out.at_ 10 rfl)
    | (go_at_call 47; refine (HPU.out _ _ HS1.out).mono ?_; clear HPU; rintro e w2 ⟨rfl, g2, hc2, hk⟩; have HX2 := hid (HX1.out.keep hk); have HS2 := hid hc2; have HB2 := hid (hk.low HS1.out hA HB1.out); have HK2 := hid (HK1.out.trans hk); clear hc2 hk y0 y1 y2 y3 y4 y5 y6 y7 y8 y9 y10; have z0 := cell_at HX2.out.at_ 0 rfl; have z1 := cell_at HX2.out.at_ 1 rfl; have z2 := cell_at HX2.out.at_ 2 rfl; have z3 := cell_at HX2.out.at_ 3 rfl; have z4 := cell_at HX2.out.at_ 4 rfl; have z5 := cell_at HX2.out.at_ 5 rfl; have z6 := cell_at HX2.out.at_ 6 rfl; have z7 := cell_at HX2.out.at_ 7 rfl; have z8 := cell_at HX2.out.at_ 8 rfl; have z9 := cell_at HX2.out.at_ 9 rfl; have z10 := cell_at HX2.out.at_ 10 rfl; obtain ⟨-, ⟨ss0, ss1, ss2, ss3, ss4, ss5, ss6, ss7, ss8, ss9, ss10⟩⟩ := HROW.out w2 HB2.out; have hb1w2 : b1 < w2.heap.size := (by have := HB2.out.size; omega))
    | (go_at_call 73; refine (HUN.out _ _ HS2.out HB2.out).mono ?_; clear HUN; rintro e w3 ⟨rfl, g3, hc3, hk⟩; have HS3 := hid hc3; have HK3 := hid (HK2.out.trans hk); clear hc3 hk)
    | fail)
   refine bodyPost_ret (results_none rfl _ _ _) rfl ?_
   exact ⟨rfl, g3, HS3.out, HK3.out⟩
end Go.Proofs.YtegkbagnbnoopaaGreatDoor
/- the writer of print: operation, by the kinds of expressions -/
namespace Go.Proofs.YtegkbagnbnoopaaGreatDoor
open Go.ChangeShapes Go.WideShapes Go.ChangeAt Go.RowKit Go.Deep
open Go.Lib (hid)
theorem ex_ov {x : Ex} (h : x.OK) : x.v.OK := by cases x; exact h.2.2.2.1
theorem ex_vs_len (x : Ex) : x.v.s.length ≤ Da.sizeR x.da := by cases x; exact str_in (by simp [Ex.da, Ex.v])
set_option maxRecDepth 100000 in
set_option maxHeartbeats 6400000 in
theorem opn_1 {w0 : World} {x : Ex} (hT : Tabs w0) (ox : x.OK) (hz : Da.sizeR x.da ≤ 1073741823)  (hop : x.op = 1) (a : Value) (ha : ExV w0 a x) : W1 w0 110 a (opx x) := by
 intro A H B g s w hA hw hc hl
 obtain ⟨p0, p1, rfl, h0, h1⟩ := ha
 obtain ⟨e0, m0, z0, rfl⟩ := dis_slice h0
 obtain ⟨e1, m1, z1, rfl⟩ := dis_slice h1
 have e : opx x s = valF x.v s := by unfold opx opF; rw [if_pos hop]
 rw [e] at hl ⊢
 have HC3 := hid (fun (o1 o2 o3 : Obj) => ((hc.alloc o1).alloc o2).alloc o3)
 have HB3 := hid (fun (o1 o2 o3 : Obj) => ((hw.alloc hw.size o1).alloc (by have := hw.size; simp; omega) o2).alloc (by have := hw.size; simp; omega) o3)
 have HK3 := hid (fun (o1 o2 o3 : Obj) => (((WK.refl H B w g).alloc o1).alloc o2).alloc o3)
 have HX1 := hid (fun (o2 o3 : Obj) => (new_els hc (.cells #[.pointer (some ⟨H, 0, none⟩)] 69)).keep (g' := g) (((WK.refl H B _ g).alloc o2).alloc o3))
 have HX2 := hid (fun (o1 o3 : Obj) => (show Els H B (((w.alloc o1).alloc (.cells #[.int .i64 x.op, .string (str x.tb), .string (str x.nm), .int .i64 x.v.k, .int .i64 x.v.n, .string (str x.v.s), .slice e0 m0 z0, .slice e1 m1 z1] 40)).alloc o3) g (w.heap.size + 1) (.cells #[.int .i64 x.op, .string (str x.tb), .string (str x.nm), .int .i64 x.v.k, .int .i64 x.v.n, .string (str x.v.s), .slice e0 m0 z0, .slice e1 m1 z1] 40) from by
  have h := (new_els (hc.alloc o1) (.cells #[.int .i64 x.op, .string (str x.tb), .string (str x.nm), .int .i64 x.v.k, .int .i64 x.v.n, .string (str x.v.s), .slice e0 m0 z0, .slice e1 m1 z1] 40)).keep (g' := g) ((WK.refl H B _ g).alloc o3)
  rwa [show (w.alloc o1).heap.size = w.heap.size + 1 from by simp] at h))
 have HX3 := hid (fun (o1 o2 : Obj) => (show Els H B (((w.alloc o1).alloc o2).alloc (.cells #[.string (str (opT x.op)), .int .i64 (opL x.op)] 156)) g (w.heap.size + 2) (.cells #[.string (str (opT x.op)), .int .i64 (opL x.op)] 156) from by
  have h := new_els ((hc.alloc o1).alloc o2) (.cells #[.string (str (opT x.op)), .int .i64 (opL x.op)] 156)
  rwa [show ((w.alloc o1).alloc o2).heap.size = w.heap.size + 2 from by simp] at h))
 obtain ⟨k, hk⟩ : ∃ k : Nat, x.op = (k : Int) := ⟨x.op.toNat, by omega⟩
 have hk30 : k < 30 := by omega
 have tt := (hT.keep hw).ops k hk30
 rw [← hk] at tt
 obtain ⟨t0, t1⟩ := tt
 have t0b : w.cell? ⟨4, k * 2, none⟩ = some (.string (str (opT x.op))) := by rw [Nat.mul_comm]; exact t0
 have t1b : w.cell? ⟨4, k * 2 + 1, none⟩ = some (.int .i64 (opL x.op)) := by rw [Nat.mul_comm]; exact t1
 have hgl := World.block_lt_of_cell? w _ t1
 have f1 : (x.op == (1 : Int)) = true := beq_iff_eq.2 hop
 have HV := hid (fun (o1 o2 o3 : Obj) => value_any x.v (hT.keep (HB3.out o1 o2 o3)) (HC3.out o1 o2 o3) (ex_ov ox) (by have := ex_vs_len x; omega) hl)
 clear hT ox hz hw hc hl h0 h1 e hop
 generalize opT x.op = tx at *
 generalize opL x.op = lv at *
 generalize x.op = xo at *
 subst hk
 go_enter Tryz.func110, Tryz.ntmps110
 go_wp2_with (go_at_call 119; refine (HV.out _ _ _).mono ?_; clear HV; rintro e w1 ⟨rfl, g1, hc1, hk1⟩; have HS1 := hid hc1; have HK1 := hid ((HK3.out _ _ _).trans hk1); clear hc1 hk1)
 refine bodyPost_ret (results_none rfl _ _ _) rfl ?_
 exact ⟨rfl, g1, HS1.out, HK1.out⟩
set_option maxRecDepth 100000 in
set_option maxHeartbeats 6400000 in
theorem opn_2 {w0 : World} {x : Ex} (hT : Tabs w0) (ox : x.OK)   (hop : x.op = 2) (a : Value) (ha : ExV w0 a x) : W1 w0 110 a (opx x) := by
 intro A H B g s w hA hw hc hl
 obtain ⟨p0, p1, rfl, h0, h1⟩ := ha
 obtain ⟨e0, m0, z0, rfl⟩ := dis_slice h0
 obtain ⟨e1, m1, z1, rfl⟩ := dis_slice h1
 have e : opx x s = refF x.tb x.nm s := by unfold opx opF; rw [if_neg (by omega), if_pos hop]
 rw [e] at hl ⊢
 have HC3 := hid (fun (o1 o2 o3 : Obj) => ((hc.alloc o1).alloc o2).alloc o3)
 have HB3 := hid (fun (o1 o2 o3 : Obj) => ((hw.alloc hw.size o1).alloc (by have := hw.size; simp; omega) o2).alloc (by have := hw.size; simp; omega) o3)
 have HK3 := hid (fun (o1 o2 o3 : Obj) => (((WK.refl H B w g).alloc o1).alloc o2).alloc o3)
 have HX1 := hid (fun (o2 o3 : Obj) => (new_els hc (.cells #[.pointer (some ⟨H, 0, none⟩)] 69)).keep (g' := g) (((WK.refl H B _ g).alloc o2).alloc o3))
 have HX2 := hid (fun (o1 o3 : Obj) => (show Els H B (((w.alloc o1).alloc (.cells #[.int .i64 x.op, .string (str x.tb), .string (str x.nm), .int .i64 x.v.k, .int .i64 x.v.n, .string (str x.v.s), .slice e0 m0 z0, .slice e1 m1 z1] 40)).alloc o3) g (w.heap.size + 1) (.cells #[.int .i64 x.op, .string (str x.tb), .string (str x.nm), .int .i64 x.v.k, .int .i64 x.v.n, .string (str x.v.s), .slice e0 m0 z0, .slice e1 m1 z1] 40) from by
  have h := (new_els (hc.alloc o1) (.cells #[.int .i64 x.op, .string (str x.tb), .string (str x.nm), .int .i64 x.v.k, .int .i64 x.v.n, .string (str x.v.s), .slice e0 m0 z0, .slice e1 m1 z1] 40)).keep (g' := g) ((WK.refl H B _ g).alloc o3)
  rwa [show (w.alloc o1).heap.size = w.heap.size + 1 from by simp] at h))
 have HX3 := hid (fun (o1 o2 : Obj) => (show Els H B (((w.alloc o1).alloc o2).alloc (.cells #[.string (str (opT x.op)), .int .i64 (opL x.op)] 156)) g (w.heap.size + 2) (.cells #[.string (str (opT x.op)), .int .i64 (opL x.op)] 156) from by
  have h := new_els ((hc.alloc o1).alloc o2) (.cells #[.string (str (opT x.op)), .int .i64 (opL x.op)] 156)
  rwa [show ((w.alloc o1).alloc o2).heap.size = w.heap.size + 2 from by simp] at h))
 obtain ⟨k, hk⟩ : ∃ k : Nat, x.op = (k : Int) := ⟨x.op.toNat, by omega⟩
 have hk30 : k < 30 := by omega
 have tt := (hT.keep hw).ops k hk30
 rw [← hk] at tt
 obtain ⟨t0, t1⟩ := tt
 have t0b : w.cell? ⟨4, k * 2, none⟩ = some (.string (str (opT x.op))) := by rw [Nat.mul_comm]; exact t0
 have t1b : w.cell? ⟨4, k * 2 + 1, none⟩ = some (.int .i64 (opL x.op)) := by rw [Nat.mul_comm]; exact t1
 have hgl := World.block_lt_of_cell? w _ t1
 have f1 : (x.op == (1 : Int)) = false := beq_eq_false_iff_ne.2 (by omega)
 have f2 : (x.op == (2 : Int)) = true := beq_iff_eq.2 hop
 have HV := hid (fun (o1 o2 o3 : Obj) => reference_any (x := x) (a0 := e0) (n0 := m0) (k0 := z0) (a1 := e1) (n1 := m1) (k1 := z1) (HC3.out o1 o2 o3) (ex_tb ox) (ex_nm ox) hl)
 clear hT ox hw hc hl h0 h1 e hop
 generalize opT x.op = tx at *
 generalize opL x.op = lv at *
 generalize x.op = xo at *
 subst hk
 go_enter Tryz.func110, Tryz.ntmps110
 go_wp2_with (go_at_call 120; refine (HV.out _ _ _).mono ?_; clear HV; rintro e w1 ⟨rfl, g1, hc1, hk1⟩; have HS1 := hid hc1; have HK1 := hid ((HK3.out _ _ _).trans hk1); clear hc1 hk1)
 refine bodyPost_ret (results_none rfl _ _ _) rfl ?_
 exact ⟨rfl, g1, HS1.out, HK1.out⟩
end Go.Proofs.YtegkbagnbnoopaaGreatDoor
/- the writer of print: operation at the binary operators -/
namespace Go.Proofs.YtegkbagnbnoopaaGreatDoor
open Go.ChangeShapes Go.WideShapes Go.ChangeAt Go.RowKit Go.Deep
open Go.Lib (hid)
set_option maxRecDepth 100000 in
set_option maxHeartbeats 6400000 in
theorem binary_step {w0 : World} {y z : Ex} (tx : List Int) (lv : Int) (hrt : Rng tx) (l0 : 0 ≤ lv) (l8 : lv ≤ 8) (hY : ∀ (l : Int) (b : Value), ExV w0 b y → W2 w0 95 b (.int .i64 l) (y.wr l)) (hZ : ∀ (l : Int) (b : Value), ExV w0 b z → W2 w0 95 b (.int .i64 l) (z.wr l)) (hM : ∀ l, Mo (z.wr l))
  {r0 r1 u0 u1 : Option Addr} {s0 q0 s1 q1 v0 w0_ v1 w1_ : Nat} (gy0 : DIs w0 (.slice r0 s0 q0) (.sl (exsDa y.args))) (gy1 : DIs w0 (.slice r1 s1 q1) (.sl (qusDa y.qs))) (gz0 : DIs w0 (.slice u0 v0 w0_) (.sl (exsDa z.args))) (gz1 : DIs w0 (.slice u1 v1 w1_) (.sl (qusDa z.qs)))
  {A H B : Nat} {g : Option Nat} {s : Wr} {w : World} (hA : w0.heap.size ≤ A) (hw : Below w0.heap.size w0 w) (hc : WrC w A H B g s) (hl : (z.wr (lv + 1) ((y.wr (if lv = 4 then 5 else lv) s).put [tx])).tx.length ≤ 1099511627775) :
  Calls Tryz.prog 124 #[.pointer (some ⟨H, 0, none⟩), .agg #[.string (str tx), .int .i64 lv], .agg #[.int .i64 y.op, .string (str y.tb), .string (str y.nm), .int .i64 y.v.k, .int .i64 y.v.n, .string (str y.v.s), .slice r0 s0 q0, .slice r1 s1 q1], .agg #[.int .i64 z.op, .string (str z.tb), .string (str z.nm), .int .i64 z.v.k, .int .i64 z.v.n, .string (str z.v.s), .slice u0 v0 w0_, .slice u1 v1 w1_]] w (WrE w A H B g (z.wr (lv + 1) ((y.wr (if lv = 4 then 5 else lv) s).put [tx]))) := by
 have HC3 := hid (fun (oa ob oc : Obj) => ((hc.alloc oa).alloc ob).alloc oc)
 have HB3 := hid (fun (oa ob oc : Obj) => ((hw.alloc hw.size oa).alloc (by have := hw.size; simp; omega) ob).alloc (by have := hw.size; simp; omega) oc)
 have HK3 := hid (fun (oa ob oc : Obj) => (((WK.refl H B w g).alloc oa).alloc ob).alloc oc)
 have HX1 := hid (fun (ob oc : Obj) => (new_els hc (.cells #[.string (str tx), .int .i64 lv] 156)).keep (g' := g) (((WK.refl H B _ g).alloc ob).alloc oc))
 have HX3 := hid (fun (oa ob : Obj) => (show Els H B (((w.alloc oa).alloc ob).alloc (.cells #[.int .i64 z.op, .string (str z.tb), .string (str z.nm), .int .i64 z.v.k, .int .i64 z.v.n, .string (str z.v.s), .slice u0 v0 w0_, .slice u1 v1 w1_] 40)) g (w.heap.size + 2) (.cells #[.int .i64 z.op, .string (str z.tb), .string (str z.nm), .int .i64 z.v.k, .int .i64 z.v.n, .string (str z.v.s), .slice u0 v0 w0_, .slice u1 v1 w1_] 40) from by
  have h := new_els ((hc.alloc oa).alloc ob) (.cells #[.int .i64 z.op, .string (str z.tb), .string (str z.nm), .int .i64 z.v.k, .int .i64 z.v.n, .string (str z.v.s), .slice u0 v0 w0_, .slice u1 v1 w1_] 40)
  rwa [show ((w.alloc oa).alloc ob).heap.size = w.heap.size + 2 from by simp] at h))
 obtain ⟨le, hle⟩ : ∃ q, q = if lv = 4 then 5 else lv := ⟨_, rfl⟩
 rw [← hle] at hl ⊢
 have hm1 := hM (lv + 1) ((y.wr le s).put [tx])
 have hm2 := put_mono (y.wr le s) [tx]
 have HOY := hid (fun (o1 o2 o3 : Obj) => hY le (.agg #[.int .i64 y.op, .string (str y.tb), .string (str y.nm), .int .i64 y.v.k, .int .i64 y.v.n, .string (str y.v.s), .slice r0 s0 q0, .slice r1 s1 q1]) ⟨_, _, rfl, gy0, gy1⟩ A H B g s _ hA (HB3.out o1 o2 o3) (HC3.out o1 o2 o3) (by omega))
 have HP := hid (fun (g1 : Option Nat) (u : World) (h : WrC u A H B g1 (y.wr le s)) => put_one tx (str tx) rfl h hrt (by omega))
 have HOZ := hid (fun (g1 : Option Nat) (u : World) (h : WrC u A H B g1 ((y.wr le s).put [tx])) (hu : Below w0.heap.size w0 u) => hZ (lv + 1) (.agg #[.int .i64 z.op, .string (str z.tb), .string (str z.nm), .int .i64 z.v.k, .int .i64 z.v.n, .string (str z.v.s), .slice u0 v0 w0_, .slice u1 v1 w1_]) ⟨_, _, rfl, gz0, gz1⟩ A H B g1 _ u hA hu h hl)
 generalize z.wr (lv + 1) ((y.wr le s).put [tx]) = sZ at *
 generalize (y.wr le s).put [tx] = sP at *
 generalize y.wr le s = sY at *
 clear hY hZ hM hw hc hl hm1 hm2 hrt gy0 gy1 gz0 gz1
 by_cases h4 : lv = 4
 ·subst h4
  obtain rfl : le = 5 := hle.trans (if_pos rfl)
  clear hle
  go_enter Tryz.func124, Tryz.ntmps124
  go_wp2_with (first
   | (go_at_call 95; refine (HOY.out _ _ _).mono ?_; clear HOY; rintro e w1 ⟨rfl, g1, hc1, hk⟩; have HE1_1 := hid ((HX1.out _ _).keep hk); have HE3_1 := hid ((HX3.out _ _).keep hk); have HS1 := hid hc1; have HB1 := hid (hk.low (HC3.out _ _ _) hA (HB3.out _ _ _)); have HK1 := hid ((HK3.out _ _ _).trans hk); clear hc1 hk; have c0 := cell_at HE1_1.out.at_ 0 rfl; have c1 := cell_at HE1_1.out.at_ 1 rfl)
   | (go_at_call 47; refine (HP.out _ _ HS1.out).mono ?_; clear HP; rintro e w2 ⟨rfl, g2, hc2, hk⟩; have HE1_2 := hid (HE1_1.out.keep hk); have HE3_2 := hid (HE3_1.out.keep hk); have HS2 := hid hc2; have HB2 := hid (hk.low HS1.out hA HB1.out); have HK2 := hid (HK1.out.trans hk); clear hc2 hk c0 c1; have d0 := cell_at HE1_2.out.at_ 0 rfl; have d1 := cell_at HE1_2.out.at_ 1 rfl; have y0 := cell_at HE3_2.out.at_ 0 rfl; have y1 := cell_at HE3_2.out.at_ 1 rfl; have y2 := cell_at HE3_2.out.at_ 2 rfl; have y3 := cell_at HE3_2.out.at_ 3 rfl; have y4 := cell_at HE3_2.out.at_ 4 rfl; have y5 := cell_at HE3_2.out.at_ 5 rfl; have y6 := cell_at HE3_2.out.at_ 6 rfl; have y7 := cell_at HE3_2.out.at_ 7 rfl)
   | (go_at_call 95; refine (HOZ.out _ _ HS2.out HB2.out).mono ?_; clear HOZ; rintro e w3 ⟨rfl, g3, hc3, hk⟩; have HS3 := hid hc3; have HK3_ := hid (HK2.out.trans hk); clear hc3 hk)
   | fail)
  refine bodyPost_ret (results_none rfl _ _ _) rfl ?_
  exact ⟨rfl, g3, HS3.out, HK3_.out⟩
 ·have f4 : (lv == (4 : Int)) = false := beq_eq_false_iff_ne.2 h4
  obtain rfl : lv = le := (hle.trans (if_neg h4)).symm
  clear hle h4
  go_enter Tryz.func124, Tryz.ntmps124
  go_wp2_with (first
   | (go_at_call 95; refine (HOY.out _ _ _).mono ?_; clear HOY; rintro e w1 ⟨rfl, g1, hc1, hk⟩; have HE1_1 := hid ((HX1.out _ _).keep hk); have HE3_1 := hid ((HX3.out _ _).keep hk); have HS1 := hid hc1; have HB1 := hid (hk.low (HC3.out _ _ _) hA (HB3.out _ _ _)); have HK1 := hid ((HK3.out _ _ _).trans hk); clear hc1 hk; have c0 := cell_at HE1_1.out.at_ 0 rfl; have c1 := cell_at HE1_1.out.at_ 1 rfl)
   | (go_at_call 47; refine (HP.out _ _ HS1.out).mono ?_; clear HP; rintro e w2 ⟨rfl, g2, hc2, hk⟩; have HE1_2 := hid (HE1_1.out.keep hk); have HE3_2 := hid (HE3_1.out.keep hk); have HS2 := hid hc2; have HB2 := hid (hk.low HS1.out hA HB1.out); have HK2 := hid (HK1.out.trans hk); clear hc2 hk c0 c1; have d0 := cell_at HE1_2.out.at_ 0 rfl; have d1 := cell_at HE1_2.out.at_ 1 rfl; have y0 := cell_at HE3_2.out.at_ 0 rfl; have y1 := cell_at HE3_2.out.at_ 1 rfl; have y2 := cell_at HE3_2.out.at_ 2 rfl; have y3 := cell_at HE3_2.out.at_ 3 rfl; have y4 := cell_at HE3_2.out.at_ 4 rfl; have y5 := cell_at HE3_2.out.at_ 5 rfl; have y6 := cell_at HE3_2.out.at_ 6 rfl; have y7 := cell_at HE3_2.out.at_ 7 rfl)
   | (go_at_call 95; refine (HOZ.out _ _ HS2.out HB2.out).mono ?_; clear HOZ; rintro e w3 ⟨rfl, g3, hc3, hk⟩; have HS3 := hid hc3; have HK3_ := hid (HK2.out.trans hk); clear hc3 hk)
   | fail)
  refine bodyPost_ret (results_none rfl _ _ _) rfl ?_
  exact ⟨rfl, g3, HS3.out, HK3_.out⟩
set_option maxRecDepth 100000 in
set_option maxHeartbeats 6400000 in
theorem opn_b {w0 : World} {x : Ex} (hT : Tabs w0)   {y z : Ex} (hy : x.args = [y, z]) (hY : ∀ (l : Int) (b : Value), ExV w0 b y → W2 w0 95 b (.int .i64 l) (y.wr l)) (hZ : ∀ (l : Int) (b : Value), ExV w0 b z → W2 w0 95 b (.int .i64 l) (z.wr l)) (hM : ∀ l, Mo (z.wr l)) (hop : x.op ≠ 1 ∧ x.op ≠ 2 ∧ x.op ≠ 4 ∧ x.op ≠ 16 ∧ x.op ≠ 19 ∧ x.op ≠ 20 ∧ x.op ≠ 21 ∧ x.op ≠ 22 ∧ x.op ≠ 23 ∧ x.op ≠ 24 ∧ x.op ≠ 25 ∧ x.op ≠ 26 ∧ x.op ≠ 27 ∧ x.op ≠ 28 ∧ x.op ≠ 29) (hop2 : x.op = 5 ∨ x.op = 6 ∨ x.op = 7 ∨ x.op = 8 ∨ x.op = 9 ∨ x.op = 10 ∨ x.op = 11 ∨ x.op = 12 ∨ x.op = 13 ∨ x.op = 14 ∨ x.op = 15 ∨ x.op = 17 ∨ x.op = 18) (a : Value) (ha : ExV w0 a x) : W1 w0 110 a (opx x) := by
 intro A H B g s w hA hw hc hl
 obtain ⟨p0, p1, rfl, h0, h1⟩ := ha
 obtain ⟨e0, z0, rfl, -, hcell0⟩ := exs_rows h0
 obtain ⟨e1, m1, z1, rfl⟩ := dis_slice h1
 have hlen : x.args.length = 2 := by rw [hy]; rfl
 generalize x.args.length = m0 at *
 subst hlen
 obtain ⟨b1, o1, rfl, hb1, hd1⟩ := hcell0 (by omega)
 obtain ⟨sy0, sy1, pc0, pc1, pc2, pc3, pc4, pc5, pc6, pc7, gy0, gy1⟩ := hd1 0 y (by rw [hy]; rfl)
 obtain ⟨sz0, sz1, zc0, zc1, zc2, zc3, zc4, zc5, zc6, zc7, gz0, gz1⟩ := hd1 1 z (by rw [hy]; rfl)
 obtain ⟨r0, s0, q0, rfl⟩ := dis_slice gy0
 obtain ⟨r1, s1, q1, rfl⟩ := dis_slice gy1
 obtain ⟨u0, v0, w0_, rfl⟩ := dis_slice gz0
 obtain ⟨u1, v1, w1_, rfl⟩ := dis_slice gz1
 have HROW := hid (fun (u : World) (hu : Below w0.heap.size w0 u) => And.intro (⟨(hu.cell (p := ⟨b1, o1 + 0 * 8, none⟩) hb1).trans pc0, (hu.cell (p := ⟨b1, o1 + 0 * 8 + 1, none⟩) hb1).trans pc1, (hu.cell (p := ⟨b1, o1 + 0 * 8 + 2, none⟩) hb1).trans pc2, (hu.cell (p := ⟨b1, o1 + 0 * 8 + 3, none⟩) hb1).trans pc3, (hu.cell (p := ⟨b1, o1 + 0 * 8 + 4, none⟩) hb1).trans pc4, (hu.cell (p := ⟨b1, o1 + 0 * 8 + 5, none⟩) hb1).trans pc5, (hu.cell (p := ⟨b1, o1 + 0 * 8 + 6, none⟩) hb1).trans pc6, (hu.cell (p := ⟨b1, o1 + 0 * 8 + 7, none⟩) hb1).trans pc7⟩ : u.cell? ⟨b1, o1, none⟩ = some (.int .i64 y.op) ∧ u.cell? ⟨b1, o1 + 1, none⟩ = some (.string (str y.tb)) ∧ u.cell? ⟨b1, o1 + 2, none⟩ = some (.string (str y.nm)) ∧ u.cell? ⟨b1, o1 + 3, none⟩ = some (.int .i64 y.v.k) ∧ u.cell? ⟨b1, o1 + 4, none⟩ = some (.int .i64 y.v.n) ∧ u.cell? ⟨b1, o1 + 5, none⟩ = some (.string (str y.v.s)) ∧ u.cell? ⟨b1, o1 + 6, none⟩ = some (.slice r0 s0 q0) ∧ u.cell? ⟨b1, o1 + 7, none⟩ = some (.slice r1 s1 q1)) (⟨(hu.cell (p := ⟨b1, o1 + 1 * 8, none⟩) hb1).trans zc0, (hu.cell (p := ⟨b1, o1 + 1 * 8 + 1, none⟩) hb1).trans zc1, (hu.cell (p := ⟨b1, o1 + 1 * 8 + 2, none⟩) hb1).trans zc2, (hu.cell (p := ⟨b1, o1 + 1 * 8 + 3, none⟩) hb1).trans zc3, (hu.cell (p := ⟨b1, o1 + 1 * 8 + 4, none⟩) hb1).trans zc4, (hu.cell (p := ⟨b1, o1 + 1 * 8 + 5, none⟩) hb1).trans zc5, (hu.cell (p := ⟨b1, o1 + 1 * 8 + 6, none⟩) hb1).trans zc6, (hu.cell (p := ⟨b1, o1 + 1 * 8 + 7, none⟩) hb1).trans zc7⟩ : u.cell? ⟨b1, o1 + 8, none⟩ = some (.int .i64 z.op) ∧ u.cell? ⟨b1, o1 + 9, none⟩ = some (.string (str z.tb)) ∧ u.cell? ⟨b1, o1 + 10, none⟩ = some (.string (str z.nm)) ∧ u.cell? ⟨b1, o1 + 11, none⟩ = some (.int .i64 z.v.k) ∧ u.cell? ⟨b1, o1 + 12, none⟩ = some (.int .i64 z.v.n) ∧ u.cell? ⟨b1, o1 + 13, none⟩ = some (.string (str z.v.s)) ∧ u.cell? ⟨b1, o1 + 14, none⟩ = some (.slice u0 v0 w0_) ∧ u.cell? ⟨b1, o1 + 15, none⟩ = some (.slice u1 v1 w1_)))
 have e : opx x s = z.wr (opL x.op + 1) ((y.wr (if opL x.op = 4 then 5 else opL x.op) s).put [opT x.op]) := by
  obtain ⟨h1_, h2_, h4_, h16_, h19_, h20_, h21_, h22_, h23_, h24_, h25_, h26_, h27_, h28_, h29_⟩ := hop
  unfold opx opF
  rw [if_neg h1_, if_neg h2_, if_neg h4_, if_neg h16_, if_neg (by omega), if_neg h21_, if_neg (by omega), if_neg (by omega), if_neg (by omega), exsWr_map, hy]
  rfl
 rw [e] at hl ⊢
 have hlb : 0 ≤ opL x.op ∧ opL x.op ≤ 8 := by rcases hop2 with h | h | h | h | h | h | h | h | h | h | h | h | h <;> rw [h] <;> decide
 have hrt : Rng (opT x.op) := by rcases hop2 with h | h | h | h | h | h | h | h | h | h | h | h | h <;> rw [h] <;> exact rngB rfl
 have hx0 : 0 ≤ x.op ∧ x.op < 30 := by rcases hop2 with h | h | h | h | h | h | h | h | h | h | h | h | h <;> rw [h] <;> decide
 clear hop2
 obtain ⟨hx0a, hx0b⟩ := hx0
 have HC3 := hid (fun (oa ob oc : Obj) => ((hc.alloc oa).alloc ob).alloc oc)
 have HB3 := hid (fun (oa ob oc : Obj) => ((hw.alloc hw.size oa).alloc (by have := hw.size; simp; omega) ob).alloc (by have := hw.size; simp; omega) oc)
 have HK3 := hid (fun (oa ob oc : Obj) => (((WK.refl H B w g).alloc oa).alloc ob).alloc oc)
 have HX1 := hid (fun (ob oc : Obj) => (new_els hc (.cells #[.pointer (some ⟨H, 0, none⟩)] 69)).keep (g' := g) (((WK.refl H B _ g).alloc ob).alloc oc))
 have HX2 := hid (fun (oa oc : Obj) => (show Els H B (((w.alloc oa).alloc (.cells #[.int .i64 x.op, .string (str x.tb), .string (str x.nm), .int .i64 x.v.k, .int .i64 x.v.n, .string (str x.v.s), .slice (some ⟨b1, o1, none⟩) 2 z0, .slice e1 m1 z1] 40)).alloc oc) g (w.heap.size + 1) (.cells #[.int .i64 x.op, .string (str x.tb), .string (str x.nm), .int .i64 x.v.k, .int .i64 x.v.n, .string (str x.v.s), .slice (some ⟨b1, o1, none⟩) 2 z0, .slice e1 m1 z1] 40) from by
  have h := (new_els (hc.alloc oa) (.cells #[.int .i64 x.op, .string (str x.tb), .string (str x.nm), .int .i64 x.v.k, .int .i64 x.v.n, .string (str x.v.s), .slice (some ⟨b1, o1, none⟩) 2 z0, .slice e1 m1 z1] 40)).keep (g' := g) ((WK.refl H B _ g).alloc oc)
  rwa [show (w.alloc oa).heap.size = w.heap.size + 1 from by simp] at h))
 have HX3 := hid (fun (oa ob : Obj) => (show Els H B (((w.alloc oa).alloc ob).alloc (.cells #[.string (str (opT x.op)), .int .i64 (opL x.op)] 156)) g (w.heap.size + 2) (.cells #[.string (str (opT x.op)), .int .i64 (opL x.op)] 156) from by
  have h := new_els ((hc.alloc oa).alloc ob) (.cells #[.string (str (opT x.op)), .int .i64 (opL x.op)] 156)
  rwa [show ((w.alloc oa).alloc ob).heap.size = w.heap.size + 2 from by simp] at h))
 obtain ⟨k, hk⟩ : ∃ k : Nat, x.op = (k : Int) := ⟨x.op.toNat, by omega⟩
 have hk30 : k < 30 := by omega
 have tt := (hT.keep hw).ops k hk30
 rw [← hk] at tt
 obtain ⟨t0, t1⟩ := tt
 have t0b : w.cell? ⟨4, k * 2, none⟩ = some (.string (str (opT x.op))) := by rw [Nat.mul_comm]; exact t0
 have t1b : w.cell? ⟨4, k * 2 + 1, none⟩ = some (.int .i64 (opL x.op)) := by rw [Nat.mul_comm]; exact t1
 have hgl := World.block_lt_of_cell? w _ t1
 obtain ⟨h1_, h2_, h4_, h16_, h19_, h20_, h21_, h22_, h23_, h24_, h25_, h26_, h27_, h28_, h29_⟩ := hop
 have f1 : (x.op == (1 : Int)) = false := beq_eq_false_iff_ne.2 h1_
 have f2 : (x.op == (2 : Int)) = false := beq_eq_false_iff_ne.2 h2_
 have f4 : (x.op == (4 : Int)) = false := beq_eq_false_iff_ne.2 h4_
 have f16 : (x.op == (16 : Int)) = false := beq_eq_false_iff_ne.2 h16_
 have f19 : (x.op == (19 : Int)) = false := beq_eq_false_iff_ne.2 h19_
 have f20 : (x.op == (20 : Int)) = false := beq_eq_false_iff_ne.2 h20_
 have f21 : (x.op == (21 : Int)) = false := beq_eq_false_iff_ne.2 h21_
 have f22 : (x.op == (22 : Int)) = false := beq_eq_false_iff_ne.2 h22_
 have f23 : (x.op == (23 : Int)) = false := beq_eq_false_iff_ne.2 h23_
 have f24 : (x.op == (24 : Int)) = false := beq_eq_false_iff_ne.2 h24_
 have f25 : (x.op == (25 : Int)) = false := beq_eq_false_iff_ne.2 h25_
 have f26 : (x.op == (26 : Int)) = false := beq_eq_false_iff_ne.2 h26_
 have f27 : (x.op == (27 : Int)) = false := beq_eq_false_iff_ne.2 h27_
 have f28 : (x.op == (28 : Int)) = false := beq_eq_false_iff_ne.2 h28_
 have f29 : (x.op == (29 : Int)) = false := beq_eq_false_iff_ne.2 h29_
 have HBI := hid (fun (g1 : Option Nat) (u : World) (h : WrC u A H B g1 s) (hu : Below w0.heap.size w0 u) => binary_step (opT x.op) (opL x.op) hrt hlb.1 hlb.2 hY hZ hM gy0 gy1 gz0 gz1 hA hu h hl)
 generalize z.wr (opL x.op + 1) ((y.wr (if opL x.op = 4 then 5 else opL x.op) s).put [opT x.op]) = sZ at *
 have hsz := hw.size
 clear hT hw hc hl h0 h1 e hY hZ hM hrt hlb hx0a hx0b hcell0 hd1 gy0 gy1 gz0 gz1 hy pc0 pc1 pc2 pc3 pc4 pc5 pc6 pc7 zc0 zc1 zc2 zc3 zc4 zc5 zc6 zc7 h1_ h2_ h4_ h16_ h19_ h20_ h21_ h22_ h23_ h24_ h25_ h26_ h27_ h28_ h29_
 generalize opT x.op = tx at *
 generalize opL x.op = lv at *
 generalize x.op = xo at *
 subst hk
 have HE1_0 := hid (show Els H B (((w.alloc (.cells #[.pointer (some ⟨H, 0, none⟩)] 69)).alloc (.cells #[.int .i64 ↑k, .string (str x.tb), .string (str x.nm), .int .i64 x.v.k, .int .i64 x.v.n, .string (str x.v.s), .slice (some ⟨b1, o1, none⟩) 2 z0, .slice e1 m1 z1] 40)).alloc (.cells #[.string (str tx), .int .i64 lv] 156)) g w.heap.size _ from HX1.out _ _)
 have HE2_0 := hid (show Els H B (((w.alloc (.cells #[.pointer (some ⟨H, 0, none⟩)] 69)).alloc (.cells #[.int .i64 ↑k, .string (str x.tb), .string (str x.nm), .int .i64 x.v.k, .int .i64 x.v.n, .string (str x.v.s), .slice (some ⟨b1, o1, none⟩) 2 z0, .slice e1 m1 z1] 40)).alloc (.cells #[.string (str tx), .int .i64 lv] 156)) g (w.heap.size + 1) _ from HX2.out _ _)
 have HE3_0 := hid (show Els H B (((w.alloc (.cells #[.pointer (some ⟨H, 0, none⟩)] 69)).alloc (.cells #[.int .i64 ↑k, .string (str x.tb), .string (str x.nm), .int .i64 x.v.k, .int .i64 x.v.n, .string (str x.v.s), .slice (some ⟨b1, o1, none⟩) 2 z0, .slice e1 m1 z1] 40)).alloc (.cells #[.string (str tx), .int .i64 lv] 156)) g (w.heap.size + 2) _ from HX3.out _ _)
 have HS0 := hid (show WrC (((w.alloc (.cells #[.pointer (some ⟨H, 0, none⟩)] 69)).alloc (.cells #[.int .i64 ↑k, .string (str x.tb), .string (str x.nm), .int .i64 x.v.k, .int .i64 x.v.n, .string (str x.v.s), .slice (some ⟨b1, o1, none⟩) 2 z0, .slice e1 m1 z1] 40)).alloc (.cells #[.string (str tx), .int .i64 lv] 156)) A H B g s from HC3.out _ _ _)
 have HB0 := hid (show Below w0.heap.size w0 (((w.alloc (.cells #[.pointer (some ⟨H, 0, none⟩)] 69)).alloc (.cells #[.int .i64 ↑k, .string (str x.tb), .string (str x.nm), .int .i64 x.v.k, .int .i64 x.v.n, .string (str x.v.s), .slice (some ⟨b1, o1, none⟩) 2 z0, .slice e1 m1 z1] 40)).alloc (.cells #[.string (str tx), .int .i64 lv] 156)) from HB3.out _ _ _)
 have HK0 := hid (show WK H B w g (((w.alloc (.cells #[.pointer (some ⟨H, 0, none⟩)] 69)).alloc (.cells #[.int .i64 ↑k, .string (str x.tb), .string (str x.nm), .int .i64 x.v.k, .int .i64 x.v.n, .string (str x.v.s), .slice (some ⟨b1, o1, none⟩) 2 z0, .slice e1 m1 z1] 40)).alloc (.cells #[.string (str tx), .int .i64 lv] 156)) g from HK3.out _ _ _)
 go_enter Tryz.func110, Tryz.ntmps110
 go_wp2_with fail
 refine wp_region_held_drew (S := fun u => (u.heap[w.heap.size]? = some (.cells #[.pointer (some ⟨H, 0, none⟩)] 69 (0, 0)) ∧ u.heap[w.heap.size + 1]? = some (.cells #[.int .i64 ↑k, .string (str x.tb), .string (str x.nm), .int .i64 x.v.k, .int .i64 x.v.n, .string (str x.v.s), .slice (some ⟨b1, o1, none⟩) 2 z0, .slice e1 m1 z1] 40 (0, 0)) ∧ u.heap[w.heap.size + 2]? = some (.cells #[.string (str tx), .int .i64 lv] 156 (0, 0)) ∧ Below w0.heap.size w0 u)) (by kernel_rfl) (⟨HE1_0.out.at_, HE2_0.out.at_, HE3_0.out.at_, HB0.out.drew⟩) (fun hHeld => ?_)
 refine tk (i := 0) (oi := ⟨some 11, .load 69 (.tmp 2), 69, "writer.go:112", #[], none⟩) (v := ?_) (Or.inl ⟨by rfl, ?_⟩) ?_
 rotate_left 1
 ·(intro u hSw; obtain ⟨hs1, hs2, hs3, hs4⟩ := hSw; have c0 := cell_at hs1 0 rfl; have d0 := cell_at hs2 0 rfl; have d1 := cell_at hs2 1 rfl; have d2 := cell_at hs2 2 rfl; have d3 := cell_at hs2 3 rfl; have d4 := cell_at hs2 4 rfl; have d5 := cell_at hs2 5 rfl; have d6 := cell_at hs2 6 rfl; have d7 := cell_at hs2 7 rfl; have e0_ := cell_at hs3 0 rfl; have e1_ := cell_at hs3 1 rfl; obtain ⟨⟨rw0, rw1, rw2, rw3, rw4, rw5, rw6, rw7⟩, ⟨rz0, rz1, rz2, rz3, rz4, rz5, rz6, rz7⟩⟩ := HROW.out u hs4; have hbu : b1 < u.heap.size := (by have := hs4.size; omega); go_simp; try with_reducible rfl)
 try simp only [Act.put, sA, sB, sC]
 refine tk (i := 1) (oi := ⟨some 12, .load 156 (.tmp 4), 156, "writer.go:112", #[], none⟩) (v := ?_) (Or.inl ⟨by rfl, ?_⟩) ?_
 rotate_left 1
 ·(intro u hSw; obtain ⟨hs1, hs2, hs3, hs4⟩ := hSw; have c0 := cell_at hs1 0 rfl; have d0 := cell_at hs2 0 rfl; have d1 := cell_at hs2 1 rfl; have d2 := cell_at hs2 2 rfl; have d3 := cell_at hs2 3 rfl; have d4 := cell_at hs2 4 rfl; have d5 := cell_at hs2 5 rfl; have d6 := cell_at hs2 6 rfl; have d7 := cell_at hs2 7 rfl; have e0_ := cell_at hs3 0 rfl; have e1_ := cell_at hs3 1 rfl; obtain ⟨⟨rw0, rw1, rw2, rw3, rw4, rw5, rw6, rw7⟩, ⟨rz0, rz1, rz2, rz3, rz4, rz5, rz6, rz7⟩⟩ := HROW.out u hs4; have hbu : b1 < u.heap.size := (by have := hs4.size; omega); go_simp; try with_reducible rfl)
 try simp only [Act.put, sA, sB, sC]
 refine tk (i := 2) (oi := ⟨some 13, .fieldAddr 40 (.tmp 3) 4, 0, "writer.go:112", #[], none⟩) (v := ?_) (Or.inl ⟨by rfl, ?_⟩) ?_
 rotate_left 1
 ·(intro u hSw; go_simp; try with_reducible rfl)
 try simp only [Act.put, sA, sB, sC]
 refine tk (i := 3) (oi := ⟨some 14, .load 25 (.tmp 13), 25, "writer.go:112", #[⟨2, .data⟩], none⟩) (v := ?_) (Or.inl ⟨by rfl, ?_⟩) ?_
 rotate_left 1
 ·(intro u hSw; obtain ⟨hs1, hs2, hs3, hs4⟩ := hSw; have c0 := cell_at hs1 0 rfl; have d0 := cell_at hs2 0 rfl; have d1 := cell_at hs2 1 rfl; have d2 := cell_at hs2 2 rfl; have d3 := cell_at hs2 3 rfl; have d4 := cell_at hs2 4 rfl; have d5 := cell_at hs2 5 rfl; have d6 := cell_at hs2 6 rfl; have d7 := cell_at hs2 7 rfl; have e0_ := cell_at hs3 0 rfl; have e1_ := cell_at hs3 1 rfl; obtain ⟨⟨rw0, rw1, rw2, rw3, rw4, rw5, rw6, rw7⟩, ⟨rz0, rz1, rz2, rz3, rz4, rz5, rz6, rz7⟩⟩ := HROW.out u hs4; have hbu : b1 < u.heap.size := (by have := hs4.size; omega); go_simp; try with_reducible rfl)
 try simp only [Act.put, sA, sB, sC]
 refine tk (i := 4) (oi := ⟨some 15, .indexAddr 25 (.tmp 14) (.const (Value.int IntKind.i64 0)), 0, "writer.go:112", #[⟨3, .data⟩], none⟩) (v := ?_) (Or.inl ⟨by rfl, ?_⟩) ?_
 rotate_left 1
 ·(intro u hSw; go_simp; try with_reducible rfl)
 try simp only [Act.put, sA, sB, sC]
 refine tk (i := 5) (oi := ⟨some 16, .load 40 (.tmp 15), 40, "writer.go:112", #[⟨4, .data⟩], none⟩) (v := ?_) (Or.inl ⟨by rfl, ?_⟩) ?_
 rotate_left 1
 ·(intro u hSw; obtain ⟨hs1, hs2, hs3, hs4⟩ := hSw; have c0 := cell_at hs1 0 rfl; have d0 := cell_at hs2 0 rfl; have d1 := cell_at hs2 1 rfl; have d2 := cell_at hs2 2 rfl; have d3 := cell_at hs2 3 rfl; have d4 := cell_at hs2 4 rfl; have d5 := cell_at hs2 5 rfl; have d6 := cell_at hs2 6 rfl; have d7 := cell_at hs2 7 rfl; have e0_ := cell_at hs3 0 rfl; have e1_ := cell_at hs3 1 rfl; obtain ⟨⟨rw0, rw1, rw2, rw3, rw4, rw5, rw6, rw7⟩, ⟨rz0, rz1, rz2, rz3, rz4, rz5, rz6, rz7⟩⟩ := HROW.out u hs4; have hbu : b1 < u.heap.size := (by have := hs4.size; omega); go_simp; try with_reducible rfl)
 try simp only [Act.put, sA, sB, sC]
 refine tk (i := 6) (oi := ⟨some 17, .fieldAddr 40 (.tmp 3) 4, 0, "writer.go:112", #[], none⟩) (v := ?_) (Or.inl ⟨by rfl, ?_⟩) ?_
 rotate_left 1
 ·(intro u hSw; go_simp; try with_reducible rfl)
 try simp only [Act.put, sA, sB, sC]
 refine tk (i := 7) (oi := ⟨some 18, .load 25 (.tmp 17), 25, "writer.go:112", #[⟨6, .data⟩], none⟩) (v := ?_) (Or.inl ⟨by rfl, ?_⟩) ?_
 rotate_left 1
 ·(intro u hSw; obtain ⟨hs1, hs2, hs3, hs4⟩ := hSw; have c0 := cell_at hs1 0 rfl; have d0 := cell_at hs2 0 rfl; have d1 := cell_at hs2 1 rfl; have d2 := cell_at hs2 2 rfl; have d3 := cell_at hs2 3 rfl; have d4 := cell_at hs2 4 rfl; have d5 := cell_at hs2 5 rfl; have d6 := cell_at hs2 6 rfl; have d7 := cell_at hs2 7 rfl; have e0_ := cell_at hs3 0 rfl; have e1_ := cell_at hs3 1 rfl; obtain ⟨⟨rw0, rw1, rw2, rw3, rw4, rw5, rw6, rw7⟩, ⟨rz0, rz1, rz2, rz3, rz4, rz5, rz6, rz7⟩⟩ := HROW.out u hs4; have hbu : b1 < u.heap.size := (by have := hs4.size; omega); go_simp; try with_reducible rfl)
 try simp only [Act.put, sA, sB, sC]
 refine tk (i := 8) (oi := ⟨some 19, .indexAddr 25 (.tmp 18) (.const (Value.int IntKind.i64 1)), 0, "writer.go:112", #[⟨7, .data⟩], none⟩) (v := ?_) (Or.inl ⟨by rfl, ?_⟩) ?_
 rotate_left 1
 ·(intro u hSw; go_simp; try with_reducible rfl)
 try simp only [Act.put, sA, sB, sC]
 refine tk (i := 9) (oi := ⟨some 20, .load 40 (.tmp 19), 40, "writer.go:112", #[⟨8, .data⟩], none⟩) (v := ?_) (Or.inl ⟨by rfl, ?_⟩) ?_
 rotate_left 1
 ·(intro u hSw; obtain ⟨hs1, hs2, hs3, hs4⟩ := hSw; have c0 := cell_at hs1 0 rfl; have d0 := cell_at hs2 0 rfl; have d1 := cell_at hs2 1 rfl; have d2 := cell_at hs2 2 rfl; have d3 := cell_at hs2 3 rfl; have d4 := cell_at hs2 4 rfl; have d5 := cell_at hs2 5 rfl; have d6 := cell_at hs2 6 rfl; have d7 := cell_at hs2 7 rfl; have e0_ := cell_at hs3 0 rfl; have e1_ := cell_at hs3 1 rfl; obtain ⟨⟨rw0, rw1, rw2, rw3, rw4, rw5, rw6, rw7⟩, ⟨rz0, rz1, rz2, rz3, rz4, rz5, rz6, rz7⟩⟩ := HROW.out u hs4; have hbu : b1 < u.heap.size := (by have := hs4.size; omega); go_simp; try with_reducible rfl)
 try simp only [Act.put, sA, sB, sC]
 refine wpAnyH_ready (rs := [10]) (by kernel_rfl) (by simp) ?_
 refine AllReadyH.cons (o := ⟨some 21, .call ⟨.value (.func 124), #[.tmp 11, .tmp 12, .tmp 16, .tmp 20], #[69, 156, 40, 40]⟩, 0, "writer.go:112", #[⟨0, .data⟩, ⟨1, .data⟩, ⟨5, .data⟩, ⟨9, .data⟩], none⟩) rfl (fun K hK => ?_) AllReadyH.nil
 go_simp
 go_at_call 124
 refine (HBI.out _ _ (show WrC (((w.alloc (.cells #[.pointer (some ⟨H, 0, none⟩)] 69)).alloc (.cells #[.int .i64 ↑k, .string (str x.tb), .string (str x.nm), .int .i64 x.v.k, .int .i64 x.v.n, .string (str x.v.s), .slice (some ⟨b1, o1, none⟩) 2 z0, .slice e1 m1 z1] 40)).alloc (.cells #[.string (str tx), .int .i64 lv] 156)).drew A H B g _ from HS0.out.fresh (Below.refl _ _).drew) HB0.out.drew).mono ?_
 rintro e w1 ⟨rfl, g1, hc2, hk2⟩
 go_wp2_with fail
 have HE1_1 := hid ((show Els H B (((w.alloc (.cells #[.pointer (some ⟨H, 0, none⟩)] 69)).alloc (.cells #[.int .i64 ↑k, .string (str x.tb), .string (str x.nm), .int .i64 x.v.k, .int .i64 x.v.n, .string (str x.v.s), .slice (some ⟨b1, o1, none⟩) 2 z0, .slice e1 m1 z1] 40)).alloc (.cells #[.string (str tx), .int .i64 lv] 156)).drew g _ _ from ⟨HE1_0.out.at_, HE1_0.out.nh, HE1_0.out.nb, HE1_0.out.ng⟩).keep hk2)
 have HE2_1 := hid ((show Els H B (((w.alloc (.cells #[.pointer (some ⟨H, 0, none⟩)] 69)).alloc (.cells #[.int .i64 ↑k, .string (str x.tb), .string (str x.nm), .int .i64 x.v.k, .int .i64 x.v.n, .string (str x.v.s), .slice (some ⟨b1, o1, none⟩) 2 z0, .slice e1 m1 z1] 40)).alloc (.cells #[.string (str tx), .int .i64 lv] 156)).drew g _ _ from ⟨HE2_0.out.at_, HE2_0.out.nh, HE2_0.out.nb, HE2_0.out.ng⟩).keep hk2)
 have HE3_1 := hid ((show Els H B (((w.alloc (.cells #[.pointer (some ⟨H, 0, none⟩)] 69)).alloc (.cells #[.int .i64 ↑k, .string (str x.tb), .string (str x.nm), .int .i64 x.v.k, .int .i64 x.v.n, .string (str x.v.s), .slice (some ⟨b1, o1, none⟩) 2 z0, .slice e1 m1 z1] 40)).alloc (.cells #[.string (str tx), .int .i64 lv] 156)).drew g _ _ from ⟨HE3_0.out.at_, HE3_0.out.nh, HE3_0.out.nb, HE3_0.out.ng⟩).keep hk2)
 have HB1 := hid (hk2.low (show WrC (((w.alloc (.cells #[.pointer (some ⟨H, 0, none⟩)] 69)).alloc (.cells #[.int .i64 ↑k, .string (str x.tb), .string (str x.nm), .int .i64 x.v.k, .int .i64 x.v.n, .string (str x.v.s), .slice (some ⟨b1, o1, none⟩) 2 z0, .slice e1 m1 z1] 40)).alloc (.cells #[.string (str tx), .int .i64 lv] 156)).drew A H B g _ from HS0.out.fresh (Below.refl _ _).drew) hA HB0.out.drew)
 have HK1 := hid ((HK0.out.trans (WK.fresh (Below.refl _ _).drew)).trans hk2)
 have HS1 := hid hc2
 clear hc2 hk2
 refine hK.out _ _ ⟨HE1_1.out.at_, HE2_1.out.at_, HE3_1.out.at_, HB1.out⟩ (fun _ => ?_)
 clear hK K
 try simp only [Act.put, sA, sB, sC]
 refine wpAnyH_done (by kernel_rfl) ?_ _
 go_wp2_with fail
 refine bodyPost_ret (results_none rfl _ _ _) rfl ?_
 exact ⟨rfl, g1, HS1.out, HK1.out⟩
end Go.Proofs.YtegkbagnbnoopaaGreatDoor
