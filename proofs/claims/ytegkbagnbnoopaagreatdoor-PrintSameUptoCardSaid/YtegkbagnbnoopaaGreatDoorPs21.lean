/- the writer of print: query -/
import Derived.Test.YtegkbagnbnoopaaGreatDoorPs20
namespace Go.Proofs.YtegkbagnbnoopaaGreatDoor
open Go.ChangeShapes Go.WideShapes Go.ChangeAt Go.RowKit Go.Deep
open Go.Lib (hid)
set_option maxRecDepth 100000 in
set_option maxHeartbeats 6400000 in
theorem wquery_step {w0 : World} {x : Qu} (hT : Tabs w0) (hB : CBd w0 x) (hO : ∀ o ∈ x.ord, ∀ a, ObV w0 a o → W1 w0 49 a o.wr) (hM : ∀ o ∈ x.ord, Mo o.wr) (hn : x.ord.length ≤ 1073741823) (hi : I64 x.n) (a : Value) (ha : QuV w0 a x) : W1 w0 23 a x.wr := by
 intro A H B g s w hA hw hc hl
 obtain ⟨p0, p1, p2, p3, p4, p5, p6, rfl, h0, h1, h2, h3, h4, h5, h6⟩ := ha
 obtain ⟨a0, n0, k0, rfl⟩ := dis_slice h0
 obtain ⟨a1, n1, k1, rfl⟩ := dis_slice h1
 obtain ⟨a2, n2, k2, rfl⟩ := dis_slice h2
 obtain ⟨a3, n3, k3, rfl⟩ := dis_slice h3
 obtain ⟨a4, n4, k4, rfl⟩ := dis_slice h4
 obtain ⟨a5, n5, k5, rfl⟩ := dis_slice h5
 obtain ⟨a6, k6, rfl, -, -⟩ := obs_rows h6
 have HX := hid (new_els hc (.cells #[.int .i64 x.op, .slice a0 n0 k0, .bool x.sel.dist, .slice a1 n1 k1, .slice a2 n2 k2, .slice a3 n3 k3, .slice a4 n4 k4, .slice a5 n5 k5, .slice a6 x.ord.length k6, .bool x.lim, .int .i64 x.n] 30))
 have hmo : ∀ f ∈ x.ord.map Ob.wr, Mo f := fun f hf => by obtain ⟨o, ho, rfl⟩ := List.mem_map.1 hf; exact hM o ho
 have HFI := hid (fun (u : World) (hu : Below w0.heap.size w0 u) => Tryz.strconv_FormatInt_10 x.n hi.1 hi.2 u (hT.keep hu).pow)
 have HCC := hid (fun o => hc.alloc o)
 have HWA := hid (fun o => hw.alloc hw.size o)
 have E1 : x.wr s = if x.lim = true then (if x.ord = [] then x.bd s else listF true (obsWr x.ord) ((x.bd s).put [[111, 114, 100, 101, 114, 32, 98, 121]])).put [[108, 105, 109, 105, 116], byI (Lib.itoa x.n)] else (if x.ord = [] then x.bd s else listF true (obsWr x.ord) ((x.bd s).put [[111, 114, 100, 101, 114, 32, 98, 121]])) := rfl
 rw [E1, obsWr_map] at hl ⊢
 have hp2 := fun s2 => put_mono s2 [[108, 105, 109, 105, 116], byI (Lib.itoa x.n)]
 have hp1 := put_mono (x.bd s) [[111, 114, 100, 101, 114, 32, 98, 121]]
 have hlo := listF_mo (x.ord.map Ob.wr) true hmo ((x.bd s).put [[111, 114, 100, 101, 114, 32, 98, 121]])
 by_cases ho : x.ord = []
 ·have d0 : decide (0 < x.ord.length) = false := by rw [ho]; rfl
  rw [if_pos ho] at hl ⊢
  by_cases hlm : x.lim = true
  ·rw [if_pos hlm] at hl ⊢
   have hb1 : (x.bd s).tx.length ≤ 1099511627775 := by have := hp2 (x.bd s); omega
   have HBO := hid (fun (o : Obj) => hB (.agg #[.int .i64 x.op, .slice a0 n0 k0, .bool x.sel.dist, .slice a1 n1 k1, .slice a2 n2 k2, .slice a3 n3 k3, .slice a4 n4 k4, .slice a5 n5 k5, .slice a6 x.ord.length k6, .bool x.lim, .int .i64 x.n]) ⟨_, _, _, _, _, _, _, rfl, h0, h1, h2, h3, h4, h5, h6⟩ A H B g s (w.alloc o) hA (hw.alloc hw.size o) (hc.alloc o) hb1)
   have HPL := hid (fun (g1 : Option Nat) (u : World) (h : WrC u A H B g1 (x.bd s)) => put_two [108, 105, 109, 105, 116] (byI (Lib.itoa x.n)) ⟨#[108, 105, 109, 105, 116]⟩ ⟨(Lib.itoa x.n).toArray⟩ rfl (str_byI _).symm h (rngB rfl) (rng_byI _) hl)
   generalize x.ord.length = n6 at *
   generalize x.lim = bl at *
   subst hlm
   clear hT hB hO hM hn hi hw hc hl hmo E1 hp1 hp2 hlo ho hb1 h0 h1 h2 h3 h4 h5 h6
   go_enter Tryz.func23, Tryz.ntmps23
   go_wp2_with (first
    | (go_at_call 46; refine (HBO.out _).mono ?_; clear HBO; rintro e w1 ⟨rfl, g1, hc1, hk⟩; have HX1 := hid (HX.out.keep hk); have HS1 := hid hc1; have HB1 := hid (hk.low (HCC.out _) hA (HWA.out _)); have HK1 := hid (((WK.refl H B w g).alloc _).trans hk); clear hc1 hk; have y0 := cell_at HX1.out.at_ 0 rfl; have y1 := cell_at HX1.out.at_ 1 rfl; have y2 := cell_at HX1.out.at_ 2 rfl; have y3 := cell_at HX1.out.at_ 3 rfl; have y4 := cell_at HX1.out.at_ 4 rfl; have y5 := cell_at HX1.out.at_ 5 rfl; have y6 := cell_at HX1.out.at_ 6 rfl; have y7 := cell_at HX1.out.at_ 7 rfl; have y8 := cell_at HX1.out.at_ 8 rfl; have y9 := cell_at HX1.out.at_ 9 rfl; have y10 := cell_at HX1.out.at_ 10 rfl)
    | (go_at_call 50; refine (HFI.out _ HB1.out).mono ?_; clear HFI; rintro e w4 ⟨rfl, k, os, hw4⟩; have hb := grow_below w1 k os; rw [← hw4] at hb; have HS4 := hid (HS1.out.fresh hb); have HK4 := hid (HK1.out.trans (WK.fresh hb)); clear hw4 hb)
    | (go_at_call 47; refine (HPL.out _ _ HS4.out).mono ?_; clear HPL; rintro e w5 ⟨rfl, g5, hc5, hk⟩; have HS5 := hid hc5; have HK5 := hid (HK4.out.trans hk); clear hc5 hk)
    | fail)
   refine bodyPost_ret (results_none rfl _ _ _) rfl ?_
   exact ⟨rfl, g5, HS5.out, HK5.out⟩
  ·rw [if_neg hlm] at hl ⊢
   have hb1 : (x.bd s).tx.length ≤ 1099511627775 := hl
   have hlm : x.lim = false := by simpa using hlm
   have HBO := hid (fun (o : Obj) => hB (.agg #[.int .i64 x.op, .slice a0 n0 k0, .bool x.sel.dist, .slice a1 n1 k1, .slice a2 n2 k2, .slice a3 n3 k3, .slice a4 n4 k4, .slice a5 n5 k5, .slice a6 x.ord.length k6, .bool x.lim, .int .i64 x.n]) ⟨_, _, _, _, _, _, _, rfl, h0, h1, h2, h3, h4, h5, h6⟩ A H B g s (w.alloc o) hA (hw.alloc hw.size o) (hc.alloc o) hb1)
   generalize x.ord.length = n6 at *
   generalize x.lim = bl at *
   subst hlm
   clear hT hB hO hM hn hi hw hc hl hmo E1 hp1 hp2 hlo ho hb1 h0 h1 h2 h3 h4 h5 h6
   go_enter Tryz.func23, Tryz.ntmps23
   go_wp2_with (first
    | (go_at_call 46; refine (HBO.out _).mono ?_; clear HBO; rintro e w1 ⟨rfl, g1, hc1, hk⟩; have HX1 := hid (HX.out.keep hk); have HS1 := hid hc1; have HB1 := hid (hk.low (HCC.out _) hA (HWA.out _)); have HK1 := hid (((WK.refl H B w g).alloc _).trans hk); clear hc1 hk; have y0 := cell_at HX1.out.at_ 0 rfl; have y1 := cell_at HX1.out.at_ 1 rfl; have y2 := cell_at HX1.out.at_ 2 rfl; have y3 := cell_at HX1.out.at_ 3 rfl; have y4 := cell_at HX1.out.at_ 4 rfl; have y5 := cell_at HX1.out.at_ 5 rfl; have y6 := cell_at HX1.out.at_ 6 rfl; have y7 := cell_at HX1.out.at_ 7 rfl; have y8 := cell_at HX1.out.at_ 8 rfl; have y9 := cell_at HX1.out.at_ 9 rfl; have y10 := cell_at HX1.out.at_ 10 rfl)
    | fail)
   refine bodyPost_ret (results_none rfl _ _ _) rfl ?_
   exact ⟨rfl, g1, HS1.out, HK1.out⟩
 ·have d0 : decide (0 < x.ord.length) = true := decide_eq_true (List.length_pos_iff.2 ho)
  rw [if_neg ho] at hl ⊢
  by_cases hlm : x.lim = true
  ·rw [if_pos hlm] at hl ⊢
   have hb2 : (listF true (x.ord.map Ob.wr) ((x.bd s).put [[111, 114, 100, 101, 114, 32, 98, 121]])).tx.length ≤ 1099511627775 := by have := hp2 (listF true (x.ord.map Ob.wr) ((x.bd s).put [[111, 114, 100, 101, 114, 32, 98, 121]])); omega
   have hb1 : (x.bd s).tx.length ≤ 1099511627775 := by omega
   have HBO := hid (fun (o : Obj) => hB (.agg #[.int .i64 x.op, .slice a0 n0 k0, .bool x.sel.dist, .slice a1 n1 k1, .slice a2 n2 k2, .slice a3 n3 k3, .slice a4 n4 k4, .slice a5 n5 k5, .slice a6 x.ord.length k6, .bool x.lim, .int .i64 x.n]) ⟨_, _, _, _, _, _, _, rfl, h0, h1, h2, h3, h4, h5, h6⟩ A H B g s (w.alloc o) hA (hw.alloc hw.size o) (hc.alloc o) hb1)
   have HPO := hid (fun (g1 : Option Nat) (u : World) (h : WrC u A H B g1 (x.bd s)) => put_one [111, 114, 100, 101, 114, 32, 98, 121] ⟨#[111, 114, 100, 101, 114, 32, 98, 121]⟩ rfl h (rngB rfl) (by omega))
   have HLO := hid (fun (g1 : Option Nat) (u : World) (h : WrC u A H B g1 ((x.bd s).put [[111, 114, 100, 101, 114, 32, 98, 121]])) (hu : Below w0.heap.size w0 u) => list_ob Ob.wr 49 call_wkey hA hu h h6 hn (fun o ho b hb => hO o ho b hb) hM hb2)
   have HPL := hid (fun (g1 : Option Nat) (u : World) (h : WrC u A H B g1 (listF true (x.ord.map Ob.wr) ((x.bd s).put [[111, 114, 100, 101, 114, 32, 98, 121]]))) => put_two [108, 105, 109, 105, 116] (byI (Lib.itoa x.n)) ⟨#[108, 105, 109, 105, 116]⟩ ⟨(Lib.itoa x.n).toArray⟩ rfl (str_byI _).symm h (rngB rfl) (rng_byI _) hl)
   generalize x.ord.length = n6 at *
   generalize x.lim = bl at *
   subst hlm
   clear hT hB hO hM hn hi hw hc hl hmo E1 hp1 hp2 hlo ho hb1 hb2 h0 h1 h2 h3 h4 h5 h6
   go_enter Tryz.func23, Tryz.ntmps23
   go_wp2_with (first
    | (go_at_call 46; refine (HBO.out _).mono ?_; clear HBO; rintro e w1 ⟨rfl, g1, hc1, hk⟩; have HX1 := hid (HX.out.keep hk); have HS1 := hid hc1; have HB1 := hid (hk.low (HCC.out _) hA (HWA.out _)); have HK1 := hid (((WK.refl H B w g).alloc _).trans hk); clear hc1 hk; have y0 := cell_at HX1.out.at_ 0 rfl; have y1 := cell_at HX1.out.at_ 1 rfl; have y2 := cell_at HX1.out.at_ 2 rfl; have y3 := cell_at HX1.out.at_ 3 rfl; have y4 := cell_at HX1.out.at_ 4 rfl; have y5 := cell_at HX1.out.at_ 5 rfl; have y6 := cell_at HX1.out.at_ 6 rfl; have y7 := cell_at HX1.out.at_ 7 rfl; have y8 := cell_at HX1.out.at_ 8 rfl; have y9 := cell_at HX1.out.at_ 9 rfl; have y10 := cell_at HX1.out.at_ 10 rfl)
    | (go_at_call 47; refine (HPO.out _ _ HS1.out).mono ?_; clear HPO; rintro e w2 ⟨rfl, g2, hc2, hk⟩; have HX2 := hid (HX1.out.keep hk); have HS2 := hid hc2; have HB2 := hid (hk.low HS1.out hA HB1.out); have HK2 := hid (HK1.out.trans hk); clear hc2 hk; clear y0 y1 y2 y3 y4 y5 y6 y7 y8 y9 y10; have y0 := cell_at HX2.out.at_ 0 rfl; have y1 := cell_at HX2.out.at_ 1 rfl; have y2 := cell_at HX2.out.at_ 2 rfl; have y3 := cell_at HX2.out.at_ 3 rfl; have y4 := cell_at HX2.out.at_ 4 rfl; have y5 := cell_at HX2.out.at_ 5 rfl; have y6 := cell_at HX2.out.at_ 6 rfl; have y7 := cell_at HX2.out.at_ 7 rfl; have y8 := cell_at HX2.out.at_ 8 rfl; have y9 := cell_at HX2.out.at_ 9 rfl; have y10 := cell_at HX2.out.at_ 10 rfl)
    | (go_at_call 48; refine (HLO.out _ _ HS2.out HB2.out).mono ?_; clear HLO; rintro e w3 ⟨rfl, g3, hc3, hk⟩; have HX3 := hid (HX2.out.keep hk); have HS3 := hid hc3; have HB3 := hid (hk.low HS2.out hA HB2.out); have HK3 := hid (HK2.out.trans hk); clear hc3 hk; clear y0 y1 y2 y3 y4 y5 y6 y7 y8 y9 y10; have y0 := cell_at HX3.out.at_ 0 rfl; have y1 := cell_at HX3.out.at_ 1 rfl; have y2 := cell_at HX3.out.at_ 2 rfl; have y3 := cell_at HX3.out.at_ 3 rfl; have y4 := cell_at HX3.out.at_ 4 rfl; have y5 := cell_at HX3.out.at_ 5 rfl; have y6 := cell_at HX3.out.at_ 6 rfl; have y7 := cell_at HX3.out.at_ 7 rfl; have y8 := cell_at HX3.out.at_ 8 rfl; have y9 := cell_at HX3.out.at_ 9 rfl; have y10 := cell_at HX3.out.at_ 10 rfl)
    | (go_at_call 50; refine (HFI.out _ HB3.out).mono ?_; clear HFI; rintro e w4 ⟨rfl, k, os, hw4⟩; have hb := grow_below w3 k os; rw [← hw4] at hb; have HS4 := hid (HS3.out.fresh hb); have HK4 := hid (HK3.out.trans (WK.fresh hb)); clear hw4 hb)
    | (go_at_call 47; refine (HPL.out _ _ HS4.out).mono ?_; clear HPL; rintro e w5 ⟨rfl, g5, hc5, hk⟩; have HS5 := hid hc5; have HK5 := hid (HK4.out.trans hk); clear hc5 hk)
    | fail)
   refine bodyPost_ret (results_none rfl _ _ _) rfl ?_
   exact ⟨rfl, g5, HS5.out, HK5.out⟩
  ·rw [if_neg hlm] at hl ⊢
   have hb2 : (listF true (x.ord.map Ob.wr) ((x.bd s).put [[111, 114, 100, 101, 114, 32, 98, 121]])).tx.length ≤ 1099511627775 := hl
   have hb1 : (x.bd s).tx.length ≤ 1099511627775 := by omega
   have hlm : x.lim = false := by simpa using hlm
   have HBO := hid (fun (o : Obj) => hB (.agg #[.int .i64 x.op, .slice a0 n0 k0, .bool x.sel.dist, .slice a1 n1 k1, .slice a2 n2 k2, .slice a3 n3 k3, .slice a4 n4 k4, .slice a5 n5 k5, .slice a6 x.ord.length k6, .bool x.lim, .int .i64 x.n]) ⟨_, _, _, _, _, _, _, rfl, h0, h1, h2, h3, h4, h5, h6⟩ A H B g s (w.alloc o) hA (hw.alloc hw.size o) (hc.alloc o) hb1)
   have HPO := hid (fun (g1 : Option Nat) (u : World) (h : WrC u A H B g1 (x.bd s)) => put_one [111, 114, 100, 101, 114, 32, 98, 121] ⟨#[111, 114, 100, 101, 114, 32, 98, 121]⟩ rfl h (rngB rfl) (by omega))
   have HLO := hid (fun (g1 : Option Nat) (u : World) (h : WrC u A H B g1 ((x.bd s).put [[111, 114, 100, 101, 114, 32, 98, 121]])) (hu : Below w0.heap.size w0 u) => list_ob Ob.wr 49 call_wkey hA hu h h6 hn (fun o ho b hb => hO o ho b hb) hM hb2)
   generalize x.ord.length = n6 at *
   generalize x.lim = bl at *
   subst hlm
   clear hT hB hO hM hn hi hw hc hl hmo E1 hp1 hp2 hlo ho hb1 hb2 h0 h1 h2 h3 h4 h5 h6
   go_enter Tryz.func23, Tryz.ntmps23
   go_wp2_with (first
    | (go_at_call 46; refine (HBO.out _).mono ?_; clear HBO; rintro e w1 ⟨rfl, g1, hc1, hk⟩; have HX1 := hid (HX.out.keep hk); have HS1 := hid hc1; have HB1 := hid (hk.low (HCC.out _) hA (HWA.out _)); have HK1 := hid (((WK.refl H B w g).alloc _).trans hk); clear hc1 hk; have y0 := cell_at HX1.out.at_ 0 rfl; have y1 := cell_at HX1.out.at_ 1 rfl; have y2 := cell_at HX1.out.at_ 2 rfl; have y3 := cell_at HX1.out.at_ 3 rfl; have y4 := cell_at HX1.out.at_ 4 rfl; have y5 := cell_at HX1.out.at_ 5 rfl; have y6 := cell_at HX1.out.at_ 6 rfl; have y7 := cell_at HX1.out.at_ 7 rfl; have y8 := cell_at HX1.out.at_ 8 rfl; have y9 := cell_at HX1.out.at_ 9 rfl; have y10 := cell_at HX1.out.at_ 10 rfl)
    | (go_at_call 47; refine (HPO.out _ _ HS1.out).mono ?_; clear HPO; rintro e w2 ⟨rfl, g2, hc2, hk⟩; have HX2 := hid (HX1.out.keep hk); have HS2 := hid hc2; have HB2 := hid (hk.low HS1.out hA HB1.out); have HK2 := hid (HK1.out.trans hk); clear hc2 hk; clear y0 y1 y2 y3 y4 y5 y6 y7 y8 y9 y10; have y0 := cell_at HX2.out.at_ 0 rfl; have y1 := cell_at HX2.out.at_ 1 rfl; have y2 := cell_at HX2.out.at_ 2 rfl; have y3 := cell_at HX2.out.at_ 3 rfl; have y4 := cell_at HX2.out.at_ 4 rfl; have y5 := cell_at HX2.out.at_ 5 rfl; have y6 := cell_at HX2.out.at_ 6 rfl; have y7 := cell_at HX2.out.at_ 7 rfl; have y8 := cell_at HX2.out.at_ 8 rfl; have y9 := cell_at HX2.out.at_ 9 rfl; have y10 := cell_at HX2.out.at_ 10 rfl)
    | (go_at_call 48; refine (HLO.out _ _ HS2.out HB2.out).mono ?_; clear HLO; rintro e w3 ⟨rfl, g3, hc3, hk⟩; have HX3 := hid (HX2.out.keep hk); have HS3 := hid hc3; have HB3 := hid (hk.low HS2.out hA HB2.out); have HK3 := hid (HK2.out.trans hk); clear hc3 hk; clear y0 y1 y2 y3 y4 y5 y6 y7 y8 y9 y10; have y0 := cell_at HX3.out.at_ 0 rfl; have y1 := cell_at HX3.out.at_ 1 rfl; have y2 := cell_at HX3.out.at_ 2 rfl; have y3 := cell_at HX3.out.at_ 3 rfl; have y4 := cell_at HX3.out.at_ 4 rfl; have y5 := cell_at HX3.out.at_ 5 rfl; have y6 := cell_at HX3.out.at_ 6 rfl; have y7 := cell_at HX3.out.at_ 7 rfl; have y8 := cell_at HX3.out.at_ 8 rfl; have y9 := cell_at HX3.out.at_ 9 rfl; have y10 := cell_at HX3.out.at_ 10 rfl)
    | fail)
   refine bodyPost_ret (results_none rfl _ _ _) rfl ?_
   exact ⟨rfl, g3, HS3.out, HK3.out⟩
end Go.Proofs.YtegkbagnbnoopaaGreatDoor
/- the writer of print: source -/
namespace Go.Proofs.YtegkbagnbnoopaaGreatDoor
open Go.ChangeShapes Go.WideShapes Go.ChangeAt Go.RowKit Go.Deep
open Go.Lib (hid)
set_option maxRecDepth 100000 in
set_option maxHeartbeats 6400000 in
theorem source_0t {w0 : World} {x : So}  (ox : x.OK) (hkd : x.kind = 0) (htb : x.tb ≠ []) (hE : ∀ y ∈ x.on, XE w0 y) (hM : ∀ y ∈ x.on, Mo (y.wr 1)) (hn : x.on.length ≤ 1073741823) (a : Value) (ha : SoV w0 a x) : W1 w0 93 a x.wr := by
 intro A H B g s w hA hw hc hl
 obtain ⟨p0, p1, rfl, h0, h1⟩ := ha
 obtain ⟨a0, n0, k0, rfl⟩ := dis_slice h0
 obtain ⟨a1, n1, k1, rfl⟩ := dis_slice h1
 have HX := hid (new_els hc (.cells #[.int .i64 x.kind, .string (str x.tb), .slice a0 n0 k0, .string (str x.al), .slice a1 n1 k1] 44))
 have E1 : x.wr s = clauseF [111, 110] ((exsWr x.on).map (fun f => f 1)) (asF x.al (s.put [x.tb])) := by
  obtain ⟨kd, tb, q, al, on⟩ := x
  have hkd : kd = 0 := hkd
  have htb : tb ≠ [] := htb
  unfold So.wr
  rw [if_neg htb, if_pos hkd]
  rfl
 rw [E1] at hl ⊢
 have hcm := clauseF_mo [111, 110] ((exsWr x.on).map (fun f => f 1)) (fun f hf => by
  rw [exsWr_map, List.map_map] at hf
  obtain ⟨y, hy, rfl⟩ := List.mem_map.1 hf
  exact hM y hy) (asF x.al (s.put [x.tb]))
 have ham : (s.put [x.tb]).tx.length ≤ (asF x.al (s.put [x.tb])).tx.length := by
  unfold asF
  split
  ·exact Nat.le_refl _
  ·exact put_mono _ _
 have hsT := put_mono s [x.tb]
 have HCC := hid (fun o => hc.alloc o)
 have HWA := hid (fun o => hw.alloc hw.size o)
 have HAS := hid (fun (g1 : Option Nat) (u : World) (h : WrC u A H B g1 (s.put [x.tb])) => as_any x.al h (so_al ox) (by omega))
 have HCL := hid (fun (g1 : Option Nat) (u : World) (h : WrC u A H B g1 (asF x.al (s.put [x.tb]))) (hu : Below w0.heap.size w0 u) => clauseW [111, 110] ⟨#[111, 110]⟩ rfl (rngB rfl) h1 hn hE hM A H B g1 _ u hA hu h hl)
 have HPT := hid (fun o => put_oneB (w.heap.size + 1) (by simp) x.tb (str x.tb) rfl (hc.alloc o) (so_tb ox) (by omega))
 have fk : (x.kind != (0 : Int)) = false := by rw [hkd]; rfl
 have fe : ((str x.tb).toList == []) = false := (str_c x.tb [] (so_tb ox) (rngB rfl) [] rfl).trans (decide_eq_false htb)
 have fe2 : ((str x.tb).toList != []) = true := by rw [bne, fe]; rfl
 have hsz := hw.size
 generalize clauseF [111, 110] ((exsWr x.on).map (fun f => f 1)) (asF x.al (s.put [x.tb])) = sZ at *
 generalize asF x.al (s.put [x.tb]) = sA_ at *
 generalize s.put [x.tb] = sT_ at *
 clear ox hE hM hn hw hc hl E1 hcm ham hsT h1 h0 htb
 generalize x.kind = kd at *
 subst hkd
 go_enter Tryz.func93, Tryz.ntmps93
 go_wp2_with (first
  | (go_at_call 47; refine (HPT.out _).mono ?_; rintro e w1 ⟨rfl, g1, hc1, hk⟩; have HX1 := hid (HX.out.keep hk); have HS1 := hid hc1; have HB1 := hid (hk.low (HCC.out _) hA (HWA.out _)); have HK1 := hid (((WK.refl H B w g).alloc _).trans hk); clear hc1 hk HPT; have y0 := cell_at HX1.out.at_ 0 rfl; have y1 := cell_at HX1.out.at_ 1 rfl; have y2 := cell_at HX1.out.at_ 2 rfl; have y3 := cell_at HX1.out.at_ 3 rfl; have y4 := cell_at HX1.out.at_ 4 rfl)
  | (go_at_call 106; refine (HAS.out _ _ HS1.out).mono ?_; rintro e w2 ⟨rfl, g2, hc2, hk⟩; have HX2 := hid (HX1.out.keep hk); have HS2 := hid hc2; have HB2 := hid (hk.low HS1.out hA HB1.out); have HK2 := hid (HK1.out.trans hk); clear hc2 hk HAS; clear y0 y1 y2 y3 y4; have y0 := cell_at HX2.out.at_ 0 rfl; have y1 := cell_at HX2.out.at_ 1 rfl; have y2 := cell_at HX2.out.at_ 2 rfl; have y3 := cell_at HX2.out.at_ 3 rfl; have y4 := cell_at HX2.out.at_ 4 rfl)
  | (go_at_call 61; refine (HCL.out _ _ HS2.out HB2.out).mono ?_; rintro e w3 ⟨rfl, g3, hc3, hk⟩; have HX3 := hid (HX2.out.keep hk); have HS3 := hid hc3; have HB3 := hid (hk.low HS2.out hA HB2.out); have HK3 := hid (HK2.out.trans hk); clear hc3 hk HCL; clear y0 y1 y2 y3 y4; have y0 := cell_at HX3.out.at_ 0 rfl; have y1 := cell_at HX3.out.at_ 1 rfl; have y2 := cell_at HX3.out.at_ 2 rfl; have y3 := cell_at HX3.out.at_ 3 rfl; have y4 := cell_at HX3.out.at_ 4 rfl)
  | fail)
 refine bodyPost_ret (results_none rfl _ _ _) rfl ?_
 exact ⟨rfl, g3, HS3.out, HK3.out⟩
set_option maxRecDepth 100000 in
set_option maxHeartbeats 6400000 in
theorem source_1t {w0 : World} {x : So} (hT : Tabs w0) (ox : x.OK) (hkd : x.kind = 1) (htb : x.tb ≠ []) (hE : ∀ y ∈ x.on, XE w0 y) (hM : ∀ y ∈ x.on, Mo (y.wr 1)) (hn : x.on.length ≤ 1073741823) (a : Value) (ha : SoV w0 a x) : W1 w0 93 a x.wr := by
 intro A H B g s w hA hw hc hl
 obtain ⟨p0, p1, rfl, h0, h1⟩ := ha
 obtain ⟨a0, n0, k0, rfl⟩ := dis_slice h0
 obtain ⟨a1, n1, k1, rfl⟩ := dis_slice h1
 have HX := hid (new_els hc (.cells #[.int .i64 x.kind, .string (str x.tb), .slice a0 n0 k0, .string (str x.al), .slice a1 n1 k1] 44))
 have E1 : x.wr s = clauseF [111, 110] ((exsWr x.on).map (fun f => f 1)) (asF x.al ((s.put [joinT 1]).put [x.tb])) := by
  obtain ⟨kd, tb, q, al, on⟩ := x
  have hkd : kd = 1 := hkd
  have htb : tb ≠ [] := htb
  unfold So.wr
  rw [if_neg htb, if_neg (by omega)]
  rw [hkd]
  rfl
 rw [E1] at hl ⊢
 have hcm := clauseF_mo [111, 110] ((exsWr x.on).map (fun f => f 1)) (fun f hf => by
  rw [exsWr_map, List.map_map] at hf
  obtain ⟨y, hy, rfl⟩ := List.mem_map.1 hf
  exact hM y hy) (asF x.al ((s.put [joinT 1]).put [x.tb]))
 have ham : ((s.put [joinT 1]).put [x.tb]).tx.length ≤ (asF x.al ((s.put [joinT 1]).put [x.tb])).tx.length := by
  unfold asF
  split
  ·exact Nat.le_refl _
  ·exact put_mono _ _
 have hsT := put_mono (s.put [joinT 1]) [x.tb]
 have HCC := hid (fun o => hc.alloc o)
 have HWA := hid (fun o => hw.alloc hw.size o)
 have HAS := hid (fun (g1 : Option Nat) (u : World) (h : WrC u A H B g1 ((s.put [joinT 1]).put [x.tb])) => as_any x.al h (so_al ox) (by omega))
 have HCL := hid (fun (g1 : Option Nat) (u : World) (h : WrC u A H B g1 (asF x.al ((s.put [joinT 1]).put [x.tb]))) (hu : Below w0.heap.size w0 u) => clauseW [111, 110] ⟨#[111, 110]⟩ rfl (rngB rfl) h1 hn hE hM A H B g1 _ u hA hu h hl)
 have HPJ := hid (fun o => put_oneB (w.heap.size + 1) (by simp) (joinT 1) (str (joinT 1)) rfl (hc.alloc o) (rngB rfl) (by omega))
 have tj : w.cell? ⟨3, 1, none⟩ = some (.string (str (joinT 1))) := (hT.keep hw).joi 1 (by omega)
 have hgl := World.block_lt_of_cell? w _ tj
 have HPT := hid (fun (g1 : Option Nat) (u : World) (h : WrC u A H B g1 (s.put [joinT 1])) => put_one x.tb (str x.tb) rfl h (so_tb ox) (by omega))
 have fk : (x.kind != (0 : Int)) = true := by rw [hkd]; rfl
 have fe : ((str x.tb).toList == []) = false := (str_c x.tb [] (so_tb ox) (rngB rfl) [] rfl).trans (decide_eq_false htb)
 have fe2 : ((str x.tb).toList != []) = true := by rw [bne, fe]; rfl
 have hsz := hw.size
 generalize joinT 1 = jt at *
 generalize clauseF [111, 110] ((exsWr x.on).map (fun f => f 1)) (asF x.al ((s.put [jt]).put [x.tb])) = sZ at *
 generalize asF x.al ((s.put [jt]).put [x.tb]) = sA_ at *
 generalize (s.put [jt]).put [x.tb] = sT_ at *
 generalize s.put [jt] = sK_ at *
 clear hT ox hE hM hn hw hc hl E1 hcm ham hsT h1 h0 htb
 generalize x.kind = kd at *
 subst hkd
 go_enter Tryz.func93, Tryz.ntmps93
 go_wp2_with (first
  | (go_at_call 47; refine (HPJ.out _).mono ?_; rintro e w1 ⟨rfl, g1, hc1, hk⟩; have HX1 := hid (HX.out.keep hk); have HS1 := hid hc1; have HB1 := hid (hk.low (HCC.out _) hA (HWA.out _)); have HK1 := hid (((WK.refl H B w g).alloc _).trans hk); clear hc1 hk HPJ; have y0 := cell_at HX1.out.at_ 0 rfl; have y1 := cell_at HX1.out.at_ 1 rfl; have y2 := cell_at HX1.out.at_ 2 rfl; have y3 := cell_at HX1.out.at_ 3 rfl; have y4 := cell_at HX1.out.at_ 4 rfl)
  | (go_at_call 47; refine (HPT.out _ _ HS1.out).mono ?_; rintro e w2 ⟨rfl, g2, hc2, hk⟩; have HX2 := hid (HX1.out.keep hk); have HS2 := hid hc2; have HB2 := hid (hk.low HS1.out hA HB1.out); have HK2 := hid (HK1.out.trans hk); clear hc2 hk HPT; clear y0 y1 y2 y3 y4; have y0 := cell_at HX2.out.at_ 0 rfl; have y1 := cell_at HX2.out.at_ 1 rfl; have y2 := cell_at HX2.out.at_ 2 rfl; have y3 := cell_at HX2.out.at_ 3 rfl; have y4 := cell_at HX2.out.at_ 4 rfl)
  | (go_at_call 106; refine (HAS.out _ _ HS2.out).mono ?_; rintro e w3 ⟨rfl, g3, hc3, hk⟩; have HX3 := hid (HX2.out.keep hk); have HS3 := hid hc3; have HB3 := hid (hk.low HS2.out hA HB2.out); have HK3 := hid (HK2.out.trans hk); clear hc3 hk HAS; clear y0 y1 y2 y3 y4; have y0 := cell_at HX3.out.at_ 0 rfl; have y1 := cell_at HX3.out.at_ 1 rfl; have y2 := cell_at HX3.out.at_ 2 rfl; have y3 := cell_at HX3.out.at_ 3 rfl; have y4 := cell_at HX3.out.at_ 4 rfl)
  | (go_at_call 61; refine (HCL.out _ _ HS3.out HB3.out).mono ?_; rintro e w4 ⟨rfl, g4, hc4, hk⟩; have HX4 := hid (HX3.out.keep hk); have HS4 := hid hc4; have HB4 := hid (hk.low HS3.out hA HB3.out); have HK4 := hid (HK3.out.trans hk); clear hc4 hk HCL; clear y0 y1 y2 y3 y4; have y0 := cell_at HX4.out.at_ 0 rfl; have y1 := cell_at HX4.out.at_ 1 rfl; have y2 := cell_at HX4.out.at_ 2 rfl; have y3 := cell_at HX4.out.at_ 3 rfl; have y4 := cell_at HX4.out.at_ 4 rfl)
  | fail)
 refine bodyPost_ret (results_none rfl _ _ _) rfl ?_
 exact ⟨rfl, g4, HS4.out, HK4.out⟩
set_option maxRecDepth 100000 in
set_option maxHeartbeats 6400000 in
theorem source_2t {w0 : World} {x : So} (hT : Tabs w0) (ox : x.OK) (hkd : x.kind = 2) (htb : x.tb ≠ []) (hE : ∀ y ∈ x.on, XE w0 y) (hM : ∀ y ∈ x.on, Mo (y.wr 1)) (hn : x.on.length ≤ 1073741823) (a : Value) (ha : SoV w0 a x) : W1 w0 93 a x.wr := by
 intro A H B g s w hA hw hc hl
 obtain ⟨p0, p1, rfl, h0, h1⟩ := ha
 obtain ⟨a0, n0, k0, rfl⟩ := dis_slice h0
 obtain ⟨a1, n1, k1, rfl⟩ := dis_slice h1
 have HX := hid (new_els hc (.cells #[.int .i64 x.kind, .string (str x.tb), .slice a0 n0 k0, .string (str x.al), .slice a1 n1 k1] 44))
 have E1 : x.wr s = clauseF [111, 110] ((exsWr x.on).map (fun f => f 1)) (asF x.al ((s.put [joinT 2]).put [x.tb])) := by
  obtain ⟨kd, tb, q, al, on⟩ := x
  have hkd : kd = 2 := hkd
  have htb : tb ≠ [] := htb
  unfold So.wr
  rw [if_neg htb, if_neg (by omega)]
  rw [hkd]
  rfl
 rw [E1] at hl ⊢
 have hcm := clauseF_mo [111, 110] ((exsWr x.on).map (fun f => f 1)) (fun f hf => by
  rw [exsWr_map, List.map_map] at hf
  obtain ⟨y, hy, rfl⟩ := List.mem_map.1 hf
  exact hM y hy) (asF x.al ((s.put [joinT 2]).put [x.tb]))
 have ham : ((s.put [joinT 2]).put [x.tb]).tx.length ≤ (asF x.al ((s.put [joinT 2]).put [x.tb])).tx.length := by
  unfold asF
  split
  ·exact Nat.le_refl _
  ·exact put_mono _ _
 have hsT := put_mono (s.put [joinT 2]) [x.tb]
 have HCC := hid (fun o => hc.alloc o)
 have HWA := hid (fun o => hw.alloc hw.size o)
 have HAS := hid (fun (g1 : Option Nat) (u : World) (h : WrC u A H B g1 ((s.put [joinT 2]).put [x.tb])) => as_any x.al h (so_al ox) (by omega))
 have HCL := hid (fun (g1 : Option Nat) (u : World) (h : WrC u A H B g1 (asF x.al ((s.put [joinT 2]).put [x.tb]))) (hu : Below w0.heap.size w0 u) => clauseW [111, 110] ⟨#[111, 110]⟩ rfl (rngB rfl) h1 hn hE hM A H B g1 _ u hA hu h hl)
 have HPJ := hid (fun o => put_oneB (w.heap.size + 1) (by simp) (joinT 2) (str (joinT 2)) rfl (hc.alloc o) (rngB rfl) (by omega))
 have tj : w.cell? ⟨3, 2, none⟩ = some (.string (str (joinT 2))) := (hT.keep hw).joi 2 (by omega)
 have hgl := World.block_lt_of_cell? w _ tj
 have HPT := hid (fun (g1 : Option Nat) (u : World) (h : WrC u A H B g1 (s.put [joinT 2])) => put_one x.tb (str x.tb) rfl h (so_tb ox) (by omega))
 have fk : (x.kind != (0 : Int)) = true := by rw [hkd]; rfl
 have fe : ((str x.tb).toList == []) = false := (str_c x.tb [] (so_tb ox) (rngB rfl) [] rfl).trans (decide_eq_false htb)
 have fe2 : ((str x.tb).toList != []) = true := by rw [bne, fe]; rfl
 have hsz := hw.size
 generalize joinT 2 = jt at *
 generalize clauseF [111, 110] ((exsWr x.on).map (fun f => f 1)) (asF x.al ((s.put [jt]).put [x.tb])) = sZ at *
 generalize asF x.al ((s.put [jt]).put [x.tb]) = sA_ at *
 generalize (s.put [jt]).put [x.tb] = sT_ at *
 generalize s.put [jt] = sK_ at *
 clear hT ox hE hM hn hw hc hl E1 hcm ham hsT h1 h0 htb
 generalize x.kind = kd at *
 subst hkd
 go_enter Tryz.func93, Tryz.ntmps93
 go_wp2_with (first
  | (go_at_call 47; refine (HPJ.out _).mono ?_; rintro e w1 ⟨rfl, g1, hc1, hk⟩; have HX1 := hid (HX.out.keep hk); have HS1 := hid hc1; have HB1 := hid (hk.low (HCC.out _) hA (HWA.out _)); have HK1 := hid (((WK.refl H B w g).alloc _).trans hk); clear hc1 hk HPJ; have y0 := cell_at HX1.out.at_ 0 rfl; have y1 := cell_at HX1.out.at_ 1 rfl; have y2 := cell_at HX1.out.at_ 2 rfl; have y3 := cell_at HX1.out.at_ 3 rfl; have y4 := cell_at HX1.out.at_ 4 rfl)
  | (go_at_call 47; refine (HPT.out _ _ HS1.out).mono ?_; rintro e w2 ⟨rfl, g2, hc2, hk⟩; have HX2 := hid (HX1.out.keep hk); have HS2 := hid hc2; have HB2 := hid (hk.low HS1.out hA HB1.out); have HK2 := hid (HK1.out.trans hk); clear hc2 hk HPT; clear y0 y1 y2 y3 y4; have y0 := cell_at HX2.out.at_ 0 rfl; have y1 := cell_at HX2.out.at_ 1 rfl; have y2 := cell_at HX2.out.at_ 2 rfl; have y3 := cell_at HX2.out.at_ 3 rfl; have y4 := cell_at HX2.out.at_ 4 rfl)
  | (go_at_call 106; refine (HAS.out _ _ HS2.out).mono ?_; rintro e w3 ⟨rfl, g3, hc3, hk⟩; have HX3 := hid (HX2.out.keep hk); have HS3 := hid hc3; have HB3 := hid (hk.low HS2.out hA HB2.out); have HK3 := hid (HK2.out.trans hk); clear hc3 hk HAS; clear y0 y1 y2 y3 y4; have y0 := cell_at HX3.out.at_ 0 rfl; have y1 := cell_at HX3.out.at_ 1 rfl; have y2 := cell_at HX3.out.at_ 2 rfl; have y3 := cell_at HX3.out.at_ 3 rfl; have y4 := cell_at HX3.out.at_ 4 rfl)
  | (go_at_call 61; refine (HCL.out _ _ HS3.out HB3.out).mono ?_; rintro e w4 ⟨rfl, g4, hc4, hk⟩; have HX4 := hid (HX3.out.keep hk); have HS4 := hid hc4; have HB4 := hid (hk.low HS3.out hA HB3.out); have HK4 := hid (HK3.out.trans hk); clear hc4 hk HCL; clear y0 y1 y2 y3 y4; have y0 := cell_at HX4.out.at_ 0 rfl; have y1 := cell_at HX4.out.at_ 1 rfl; have y2 := cell_at HX4.out.at_ 2 rfl; have y3 := cell_at HX4.out.at_ 3 rfl; have y4 := cell_at HX4.out.at_ 4 rfl)
  | fail)
 refine bodyPost_ret (results_none rfl _ _ _) rfl ?_
 exact ⟨rfl, g4, HS4.out, HK4.out⟩
end Go.Proofs.YtegkbagnbnoopaaGreatDoor
/- the writer of print: source -/
namespace Go.Proofs.YtegkbagnbnoopaaGreatDoor
open Go.ChangeShapes Go.WideShapes Go.ChangeAt Go.RowKit Go.Deep
open Go.Lib (hid)
set_option maxRecDepth 100000 in
set_option maxHeartbeats 6400000 in
theorem source_0q {w0 : World} {x : So}  (ox : x.OK) (hkd : x.kind = 0) (htb : x.tb = []) {z : Qu} (hq : x.q = [z]) (hI : ∀ b, QuV w0 b z → W1 w0 94 b (Wr.par z.bd)) (hMz : Mo z.bd) (hE : ∀ y ∈ x.on, XE w0 y) (hM : ∀ y ∈ x.on, Mo (y.wr 1)) (hn : x.on.length ≤ 1073741823) (a : Value) (ha : SoV w0 a x) : W1 w0 93 a x.wr := by
 intro A H B g s w hA hw hc hl
 obtain ⟨p0, p1, rfl, h0, h1⟩ := ha
 obtain ⟨e1, z1, rfl, -, hcell1⟩ := qus_rows h0
 have hlen1 : x.q.length = 1 := by rw [hq]; rfl
 generalize x.q.length = m1 at *
 subst hlen1
 obtain ⟨b2, o2, rfl, hb2, hd2⟩ := hcell1 (by omega)
 obtain ⟨sq0, sq1, sq2, sq3, sq4, sq5, sq6, qc0, qc1, qc2, qc3, qc4, qc5, qc6, qc7, qc8, qc9, qc10, gq0, gq1, gq2, gq3, gq4, gq5, gq6⟩ := hd2 0 z (by rw [hq]; rfl)
 obtain ⟨u0, v0, w0_, rfl⟩ := dis_slice gq0
 obtain ⟨u1, v1, w1_, rfl⟩ := dis_slice gq1
 obtain ⟨u2, v2, w2_, rfl⟩ := dis_slice gq2
 obtain ⟨u3, v3, w3_, rfl⟩ := dis_slice gq3
 obtain ⟨u4, v4, w4_, rfl⟩ := dis_slice gq4
 obtain ⟨u5, v5, w5_, rfl⟩ := dis_slice gq5
 obtain ⟨u6, v6, w6_, rfl⟩ := dis_slice gq6
 have HQOW := hid (fun (u : World) (hu : Below w0.heap.size w0 u) => (⟨(hu.cell (p := ⟨b2, o2 + 0 * 11, none⟩) hb2).trans qc0, (hu.cell (p := ⟨b2, o2 + 0 * 11 + 1, none⟩) hb2).trans qc1, (hu.cell (p := ⟨b2, o2 + 0 * 11 + 2, none⟩) hb2).trans qc2, (hu.cell (p := ⟨b2, o2 + 0 * 11 + 3, none⟩) hb2).trans qc3, (hu.cell (p := ⟨b2, o2 + 0 * 11 + 4, none⟩) hb2).trans qc4, (hu.cell (p := ⟨b2, o2 + 0 * 11 + 5, none⟩) hb2).trans qc5, (hu.cell (p := ⟨b2, o2 + 0 * 11 + 6, none⟩) hb2).trans qc6, (hu.cell (p := ⟨b2, o2 + 0 * 11 + 7, none⟩) hb2).trans qc7, (hu.cell (p := ⟨b2, o2 + 0 * 11 + 8, none⟩) hb2).trans qc8, (hu.cell (p := ⟨b2, o2 + 0 * 11 + 9, none⟩) hb2).trans qc9, (hu.cell (p := ⟨b2, o2 + 0 * 11 + 10, none⟩) hb2).trans qc10⟩ : u.cell? ⟨b2, o2, none⟩ = some (.int .i64 z.op) ∧ u.cell? ⟨b2, o2 + 1, none⟩ = some (.slice u0 v0 w0_) ∧ u.cell? ⟨b2, o2 + 2, none⟩ = some (.bool z.sel.dist) ∧ u.cell? ⟨b2, o2 + 3, none⟩ = some (.slice u1 v1 w1_) ∧ u.cell? ⟨b2, o2 + 4, none⟩ = some (.slice u2 v2 w2_) ∧ u.cell? ⟨b2, o2 + 5, none⟩ = some (.slice u3 v3 w3_) ∧ u.cell? ⟨b2, o2 + 6, none⟩ = some (.slice u4 v4 w4_) ∧ u.cell? ⟨b2, o2 + 7, none⟩ = some (.slice u5 v5 w5_) ∧ u.cell? ⟨b2, o2 + 8, none⟩ = some (.slice u6 v6 w6_) ∧ u.cell? ⟨b2, o2 + 9, none⟩ = some (.bool z.lim) ∧ u.cell? ⟨b2, o2 + 10, none⟩ = some (.int .i64 z.n)))
 obtain ⟨a1, n1, k1, rfl⟩ := dis_slice h1
 have HX := hid (new_els hc (.cells #[.int .i64 x.kind, .string (str x.tb), .slice (some ⟨b2, o2, none⟩) 1 z1, .string (str x.al), .slice a1 n1 k1] 44))
 have E1 : x.wr s = clauseF [111, 110] ((exsWr x.on).map (fun f => f 1)) (asF x.al (Wr.par z.bd s)) := by
  obtain ⟨kd, tb, q, al, on⟩ := x
  have hq : q = [z] := hq
  subst hq
  have hkd : kd = 0 := hkd
  have htb : tb = [] := htb
  unfold So.wr
  rw [if_pos (show tb = [] from htb), if_pos hkd]
  rw [qusWr_map]
  rfl
 rw [E1] at hl ⊢
 have hcm := clauseF_mo [111, 110] ((exsWr x.on).map (fun f => f 1)) (fun f hf => by
  rw [exsWr_map, List.map_map] at hf
  obtain ⟨y, hy, rfl⟩ := List.mem_map.1 hf
  exact hM y hy) (asF x.al (Wr.par z.bd s))
 have ham : (Wr.par z.bd s).tx.length ≤ (asF x.al (Wr.par z.bd s)).tx.length := by
  unfold asF
  split
  ·exact Nat.le_refl _
  ·exact put_mono _ _
 have hsT := par_mo hMz s
 have HCC := hid (fun o => hc.alloc o)
 have HWA := hid (fun o => hw.alloc hw.size o)
 have HAS := hid (fun (g1 : Option Nat) (u : World) (h : WrC u A H B g1 (Wr.par z.bd s)) => as_any x.al h (so_al ox) (by omega))
 have HCL := hid (fun (g1 : Option Nat) (u : World) (h : WrC u A H B g1 (asF x.al (Wr.par z.bd s))) (hu : Below w0.heap.size w0 u) => clauseW [111, 110] ⟨#[111, 110]⟩ rfl (rngB rfl) h1 hn hE hM A H B g1 _ u hA hu h hl)
 have HIN := hid (fun (o : Obj) => hI (.agg #[.int .i64 z.op, .slice u0 v0 w0_, .bool z.sel.dist, .slice u1 v1 w1_, .slice u2 v2 w2_, .slice u3 v3 w3_, .slice u4 v4 w4_, .slice u5 v5 w5_, .slice u6 v6 w6_, .bool z.lim, .int .i64 z.n]) ⟨_, _, _, _, _, _, _, rfl, gq0, gq1, gq2, gq3, gq4, gq5, gq6⟩ A H B g s _ hA (hw.alloc hw.size o) (hc.alloc o) (by omega))
 have fk : (x.kind != (0 : Int)) = false := by rw [hkd]; rfl
 have fe : ((str x.tb).toList == []) = true := (str_c x.tb [] (so_tb ox) (rngB rfl) [] rfl).trans (decide_eq_true htb)
 have fe2 : ((str x.tb).toList != []) = false := by rw [bne, fe]; rfl
 have hsz := hw.size
 have hwq := hw
 generalize clauseF [111, 110] ((exsWr x.on).map (fun f => f 1)) (asF x.al (Wr.par z.bd s)) = sZ at *
 generalize asF x.al (Wr.par z.bd s) = sA_ at *
 generalize Wr.par z.bd s = sT_ at *
 clear ox hE hM hn hw hc hl E1 hcm ham hsT h1 hI hMz htb h0 hcell1 hd2 hq gq0 gq1 gq2 gq3 gq4 gq5 gq6 qc0 qc1 qc2 qc3 qc4 qc5 qc6 qc7 qc8 qc9 qc10
 generalize x.kind = kd at *
 subst hkd
 obtain ⟨qw0, qw1, qw2, qw3, qw4, qw5, qw6, qw7, qw8, qw9, qw10⟩ := HQOW.out w hwq
 have hb2w : b2 < w.heap.size := by omega
 go_enter Tryz.func93, Tryz.ntmps93
 go_wp2_with (first
  | (go_at_call 94; refine (HIN.out _).mono ?_; rintro e w1 ⟨rfl, g1, hc1, hk⟩; have HX1 := hid (HX.out.keep hk); have HS1 := hid hc1; have HB1 := hid (hk.low (HCC.out _) hA (HWA.out _)); have HK1 := hid (((WK.refl H B w g).alloc _).trans hk); clear hc1 hk HIN; have y0 := cell_at HX1.out.at_ 0 rfl; have y1 := cell_at HX1.out.at_ 1 rfl; have y2 := cell_at HX1.out.at_ 2 rfl; have y3 := cell_at HX1.out.at_ 3 rfl; have y4 := cell_at HX1.out.at_ 4 rfl)
  | (go_at_call 106; refine (HAS.out _ _ HS1.out).mono ?_; rintro e w2 ⟨rfl, g2, hc2, hk⟩; have HX2 := hid (HX1.out.keep hk); have HS2 := hid hc2; have HB2 := hid (hk.low HS1.out hA HB1.out); have HK2 := hid (HK1.out.trans hk); clear hc2 hk HAS; clear y0 y1 y2 y3 y4; have y0 := cell_at HX2.out.at_ 0 rfl; have y1 := cell_at HX2.out.at_ 1 rfl; have y2 := cell_at HX2.out.at_ 2 rfl; have y3 := cell_at HX2.out.at_ 3 rfl; have y4 := cell_at HX2.out.at_ 4 rfl)
  | (go_at_call 61; refine (HCL.out _ _ HS2.out HB2.out).mono ?_; rintro e w3 ⟨rfl, g3, hc3, hk⟩; have HX3 := hid (HX2.out.keep hk); have HS3 := hid hc3; have HB3 := hid (hk.low HS2.out hA HB2.out); have HK3 := hid (HK2.out.trans hk); clear hc3 hk HCL; clear y0 y1 y2 y3 y4; have y0 := cell_at HX3.out.at_ 0 rfl; have y1 := cell_at HX3.out.at_ 1 rfl; have y2 := cell_at HX3.out.at_ 2 rfl; have y3 := cell_at HX3.out.at_ 3 rfl; have y4 := cell_at HX3.out.at_ 4 rfl)
  | fail)
 refine bodyPost_ret (results_none rfl _ _ _) rfl ?_
 exact ⟨rfl, g3, HS3.out, HK3.out⟩
set_option maxRecDepth 100000 in
set_option maxHeartbeats 6400000 in
theorem source_1q {w0 : World} {x : So} (hT : Tabs w0) (ox : x.OK) (hkd : x.kind = 1) (htb : x.tb = []) {z : Qu} (hq : x.q = [z]) (hI : ∀ b, QuV w0 b z → W1 w0 94 b (Wr.par z.bd)) (hMz : Mo z.bd) (hE : ∀ y ∈ x.on, XE w0 y) (hM : ∀ y ∈ x.on, Mo (y.wr 1)) (hn : x.on.length ≤ 1073741823) (a : Value) (ha : SoV w0 a x) : W1 w0 93 a x.wr := by
 intro A H B g s w hA hw hc hl
 obtain ⟨p0, p1, rfl, h0, h1⟩ := ha
 obtain ⟨e1, z1, rfl, -, hcell1⟩ := qus_rows h0
 have hlen1 : x.q.length = 1 := by rw [hq]; rfl
 generalize x.q.length = m1 at *
 subst hlen1
 obtain ⟨b2, o2, rfl, hb2, hd2⟩ := hcell1 (by omega)
 obtain ⟨sq0, sq1, sq2, sq3, sq4, sq5, sq6, qc0, qc1, qc2, qc3, qc4, qc5, qc6, qc7, qc8, qc9, qc10, gq0, gq1, gq2, gq3, gq4, gq5, gq6⟩ := hd2 0 z (by rw [hq]; rfl)
 obtain ⟨u0, v0, w0_, rfl⟩ := dis_slice gq0
 obtain ⟨u1, v1, w1_, rfl⟩ := dis_slice gq1
 obtain ⟨u2, v2, w2_, rfl⟩ := dis_slice gq2
 obtain ⟨u3, v3, w3_, rfl⟩ := dis_slice gq3
 obtain ⟨u4, v4, w4_, rfl⟩ := dis_slice gq4
 obtain ⟨u5, v5, w5_, rfl⟩ := dis_slice gq5
 obtain ⟨u6, v6, w6_, rfl⟩ := dis_slice gq6
 have HQOW := hid (fun (u : World) (hu : Below w0.heap.size w0 u) => (⟨(hu.cell (p := ⟨b2, o2 + 0 * 11, none⟩) hb2).trans qc0, (hu.cell (p := ⟨b2, o2 + 0 * 11 + 1, none⟩) hb2).trans qc1, (hu.cell (p := ⟨b2, o2 + 0 * 11 + 2, none⟩) hb2).trans qc2, (hu.cell (p := ⟨b2, o2 + 0 * 11 + 3, none⟩) hb2).trans qc3, (hu.cell (p := ⟨b2, o2 + 0 * 11 + 4, none⟩) hb2).trans qc4, (hu.cell (p := ⟨b2, o2 + 0 * 11 + 5, none⟩) hb2).trans qc5, (hu.cell (p := ⟨b2, o2 + 0 * 11 + 6, none⟩) hb2).trans qc6, (hu.cell (p := ⟨b2, o2 + 0 * 11 + 7, none⟩) hb2).trans qc7, (hu.cell (p := ⟨b2, o2 + 0 * 11 + 8, none⟩) hb2).trans qc8, (hu.cell (p := ⟨b2, o2 + 0 * 11 + 9, none⟩) hb2).trans qc9, (hu.cell (p := ⟨b2, o2 + 0 * 11 + 10, none⟩) hb2).trans qc10⟩ : u.cell? ⟨b2, o2, none⟩ = some (.int .i64 z.op) ∧ u.cell? ⟨b2, o2 + 1, none⟩ = some (.slice u0 v0 w0_) ∧ u.cell? ⟨b2, o2 + 2, none⟩ = some (.bool z.sel.dist) ∧ u.cell? ⟨b2, o2 + 3, none⟩ = some (.slice u1 v1 w1_) ∧ u.cell? ⟨b2, o2 + 4, none⟩ = some (.slice u2 v2 w2_) ∧ u.cell? ⟨b2, o2 + 5, none⟩ = some (.slice u3 v3 w3_) ∧ u.cell? ⟨b2, o2 + 6, none⟩ = some (.slice u4 v4 w4_) ∧ u.cell? ⟨b2, o2 + 7, none⟩ = some (.slice u5 v5 w5_) ∧ u.cell? ⟨b2, o2 + 8, none⟩ = some (.slice u6 v6 w6_) ∧ u.cell? ⟨b2, o2 + 9, none⟩ = some (.bool z.lim) ∧ u.cell? ⟨b2, o2 + 10, none⟩ = some (.int .i64 z.n)))
 obtain ⟨a1, n1, k1, rfl⟩ := dis_slice h1
 have HX := hid (new_els hc (.cells #[.int .i64 x.kind, .string (str x.tb), .slice (some ⟨b2, o2, none⟩) 1 z1, .string (str x.al), .slice a1 n1 k1] 44))
 have E1 : x.wr s = clauseF [111, 110] ((exsWr x.on).map (fun f => f 1)) (asF x.al (Wr.par z.bd (s.put [joinT 1]))) := by
  obtain ⟨kd, tb, q, al, on⟩ := x
  have hq : q = [z] := hq
  subst hq
  have hkd : kd = 1 := hkd
  have htb : tb = [] := htb
  unfold So.wr
  rw [if_pos (show tb = [] from htb), if_neg (by omega)]
  rw [hkd]
  rw [qusWr_map]
  rfl
 rw [E1] at hl ⊢
 have hcm := clauseF_mo [111, 110] ((exsWr x.on).map (fun f => f 1)) (fun f hf => by
  rw [exsWr_map, List.map_map] at hf
  obtain ⟨y, hy, rfl⟩ := List.mem_map.1 hf
  exact hM y hy) (asF x.al (Wr.par z.bd (s.put [joinT 1])))
 have ham : (Wr.par z.bd (s.put [joinT 1])).tx.length ≤ (asF x.al (Wr.par z.bd (s.put [joinT 1]))).tx.length := by
  unfold asF
  split
  ·exact Nat.le_refl _
  ·exact put_mono _ _
 have hsT := par_mo hMz (s.put [joinT 1])
 have HCC := hid (fun o => hc.alloc o)
 have HWA := hid (fun o => hw.alloc hw.size o)
 have HAS := hid (fun (g1 : Option Nat) (u : World) (h : WrC u A H B g1 (Wr.par z.bd (s.put [joinT 1]))) => as_any x.al h (so_al ox) (by omega))
 have HCL := hid (fun (g1 : Option Nat) (u : World) (h : WrC u A H B g1 (asF x.al (Wr.par z.bd (s.put [joinT 1])))) (hu : Below w0.heap.size w0 u) => clauseW [111, 110] ⟨#[111, 110]⟩ rfl (rngB rfl) h1 hn hE hM A H B g1 _ u hA hu h hl)
 have HPJ := hid (fun o => put_oneB (w.heap.size + 1) (by simp) (joinT 1) (str (joinT 1)) rfl (hc.alloc o) (rngB rfl) (by omega))
 have tj : w.cell? ⟨3, 1, none⟩ = some (.string (str (joinT 1))) := (hT.keep hw).joi 1 (by omega)
 have hgl := World.block_lt_of_cell? w _ tj
 have HIN := hid (fun (g1 : Option Nat) (u : World) (h : WrC u A H B g1 (s.put [joinT 1])) (hu : Below w0.heap.size w0 u) => hI (.agg #[.int .i64 z.op, .slice u0 v0 w0_, .bool z.sel.dist, .slice u1 v1 w1_, .slice u2 v2 w2_, .slice u3 v3 w3_, .slice u4 v4 w4_, .slice u5 v5 w5_, .slice u6 v6 w6_, .bool z.lim, .int .i64 z.n]) ⟨_, _, _, _, _, _, _, rfl, gq0, gq1, gq2, gq3, gq4, gq5, gq6⟩ A H B g1 _ u hA hu h (by omega))
 have fk : (x.kind != (0 : Int)) = true := by rw [hkd]; rfl
 have fe : ((str x.tb).toList == []) = true := (str_c x.tb [] (so_tb ox) (rngB rfl) [] rfl).trans (decide_eq_true htb)
 have fe2 : ((str x.tb).toList != []) = false := by rw [bne, fe]; rfl
 have hsz := hw.size
 have hwq := hw
 generalize joinT 1 = jt at *
 generalize clauseF [111, 110] ((exsWr x.on).map (fun f => f 1)) (asF x.al (Wr.par z.bd (s.put [jt]))) = sZ at *
 generalize asF x.al (Wr.par z.bd (s.put [jt])) = sA_ at *
 generalize Wr.par z.bd (s.put [jt]) = sT_ at *
 generalize s.put [jt] = sK_ at *
 clear hT ox hE hM hn hw hc hl E1 hcm ham hsT h1 hI hMz htb h0 hcell1 hd2 hq gq0 gq1 gq2 gq3 gq4 gq5 gq6 qc0 qc1 qc2 qc3 qc4 qc5 qc6 qc7 qc8 qc9 qc10
 generalize x.kind = kd at *
 subst hkd
 go_enter Tryz.func93, Tryz.ntmps93
 go_wp2_with (first
  | (go_at_call 47; refine (HPJ.out _).mono ?_; rintro e w1 ⟨rfl, g1, hc1, hk⟩; have HX1 := hid (HX.out.keep hk); have HS1 := hid hc1; have HB1 := hid (hk.low (HCC.out _) hA (HWA.out _)); have HK1 := hid (((WK.refl H B w g).alloc _).trans hk); clear hc1 hk HPJ; have y0 := cell_at HX1.out.at_ 0 rfl; have y1 := cell_at HX1.out.at_ 1 rfl; have y2 := cell_at HX1.out.at_ 2 rfl; have y3 := cell_at HX1.out.at_ 3 rfl; have y4 := cell_at HX1.out.at_ 4 rfl; obtain ⟨qw0, qw1, qw2, qw3, qw4, qw5, qw6, qw7, qw8, qw9, qw10⟩ := HQOW.out w1 HB1.out; have hb2w : b2 < w1.heap.size := (by have := HB1.out.size; omega))
  | (go_at_call 94; refine (HIN.out _ _ HS1.out HB1.out).mono ?_; rintro e w2 ⟨rfl, g2, hc2, hk⟩; have HX2 := hid (HX1.out.keep hk); have HS2 := hid hc2; have HB2 := hid (hk.low HS1.out hA HB1.out); have HK2 := hid (HK1.out.trans hk); clear hc2 hk HIN; clear y0 y1 y2 y3 y4; have y0 := cell_at HX2.out.at_ 0 rfl; have y1 := cell_at HX2.out.at_ 1 rfl; have y2 := cell_at HX2.out.at_ 2 rfl; have y3 := cell_at HX2.out.at_ 3 rfl; have y4 := cell_at HX2.out.at_ 4 rfl)
  | (go_at_call 106; refine (HAS.out _ _ HS2.out).mono ?_; rintro e w3 ⟨rfl, g3, hc3, hk⟩; have HX3 := hid (HX2.out.keep hk); have HS3 := hid hc3; have HB3 := hid (hk.low HS2.out hA HB2.out); have HK3 := hid (HK2.out.trans hk); clear hc3 hk HAS; clear y0 y1 y2 y3 y4; have y0 := cell_at HX3.out.at_ 0 rfl; have y1 := cell_at HX3.out.at_ 1 rfl; have y2 := cell_at HX3.out.at_ 2 rfl; have y3 := cell_at HX3.out.at_ 3 rfl; have y4 := cell_at HX3.out.at_ 4 rfl)
  | (go_at_call 61; refine (HCL.out _ _ HS3.out HB3.out).mono ?_; rintro e w4 ⟨rfl, g4, hc4, hk⟩; have HX4 := hid (HX3.out.keep hk); have HS4 := hid hc4; have HB4 := hid (hk.low HS3.out hA HB3.out); have HK4 := hid (HK3.out.trans hk); clear hc4 hk HCL; clear y0 y1 y2 y3 y4; have y0 := cell_at HX4.out.at_ 0 rfl; have y1 := cell_at HX4.out.at_ 1 rfl; have y2 := cell_at HX4.out.at_ 2 rfl; have y3 := cell_at HX4.out.at_ 3 rfl; have y4 := cell_at HX4.out.at_ 4 rfl)
  | fail)
 refine bodyPost_ret (results_none rfl _ _ _) rfl ?_
 exact ⟨rfl, g4, HS4.out, HK4.out⟩
set_option maxRecDepth 100000 in
set_option maxHeartbeats 6400000 in
theorem source_2q {w0 : World} {x : So} (hT : Tabs w0) (ox : x.OK) (hkd : x.kind = 2) (htb : x.tb = []) {z : Qu} (hq : x.q = [z]) (hI : ∀ b, QuV w0 b z → W1 w0 94 b (Wr.par z.bd)) (hMz : Mo z.bd) (hE : ∀ y ∈ x.on, XE w0 y) (hM : ∀ y ∈ x.on, Mo (y.wr 1)) (hn : x.on.length ≤ 1073741823) (a : Value) (ha : SoV w0 a x) : W1 w0 93 a x.wr := by
 intro A H B g s w hA hw hc hl
 obtain ⟨p0, p1, rfl, h0, h1⟩ := ha
 obtain ⟨e1, z1, rfl, -, hcell1⟩ := qus_rows h0
 have hlen1 : x.q.length = 1 := by rw [hq]; rfl
 generalize x.q.length = m1 at *
 subst hlen1
 obtain ⟨b2, o2, rfl, hb2, hd2⟩ := hcell1 (by omega)
 obtain ⟨sq0, sq1, sq2, sq3, sq4, sq5, sq6, qc0, qc1, qc2, qc3, qc4, qc5, qc6, qc7, qc8, qc9, qc10, gq0, gq1, gq2, gq3, gq4, gq5, gq6⟩ := hd2 0 z (by rw [hq]; rfl)
 obtain ⟨u0, v0, w0_, rfl⟩ := dis_slice gq0
 obtain ⟨u1, v1, w1_, rfl⟩ := dis_slice gq1
 obtain ⟨u2, v2, w2_, rfl⟩ := dis_slice gq2
 obtain ⟨u3, v3, w3_, rfl⟩ := dis_slice gq3
 obtain ⟨u4, v4, w4_, rfl⟩ := dis_slice gq4
 obtain ⟨u5, v5, w5_, rfl⟩ := dis_slice gq5
 obtain ⟨u6, v6, w6_, rfl⟩ := dis_slice gq6
 have HQOW := hid (fun (u : World) (hu : Below w0.heap.size w0 u) => (⟨(hu.cell (p := ⟨b2, o2 + 0 * 11, none⟩) hb2).trans qc0, (hu.cell (p := ⟨b2, o2 + 0 * 11 + 1, none⟩) hb2).trans qc1, (hu.cell (p := ⟨b2, o2 + 0 * 11 + 2, none⟩) hb2).trans qc2, (hu.cell (p := ⟨b2, o2 + 0 * 11 + 3, none⟩) hb2).trans qc3, (hu.cell (p := ⟨b2, o2 + 0 * 11 + 4, none⟩) hb2).trans qc4, (hu.cell (p := ⟨b2, o2 + 0 * 11 + 5, none⟩) hb2).trans qc5, (hu.cell (p := ⟨b2, o2 + 0 * 11 + 6, none⟩) hb2).trans qc6, (hu.cell (p := ⟨b2, o2 + 0 * 11 + 7, none⟩) hb2).trans qc7, (hu.cell (p := ⟨b2, o2 + 0 * 11 + 8, none⟩) hb2).trans qc8, (hu.cell (p := ⟨b2, o2 + 0 * 11 + 9, none⟩) hb2).trans qc9, (hu.cell (p := ⟨b2, o2 + 0 * 11 + 10, none⟩) hb2).trans qc10⟩ : u.cell? ⟨b2, o2, none⟩ = some (.int .i64 z.op) ∧ u.cell? ⟨b2, o2 + 1, none⟩ = some (.slice u0 v0 w0_) ∧ u.cell? ⟨b2, o2 + 2, none⟩ = some (.bool z.sel.dist) ∧ u.cell? ⟨b2, o2 + 3, none⟩ = some (.slice u1 v1 w1_) ∧ u.cell? ⟨b2, o2 + 4, none⟩ = some (.slice u2 v2 w2_) ∧ u.cell? ⟨b2, o2 + 5, none⟩ = some (.slice u3 v3 w3_) ∧ u.cell? ⟨b2, o2 + 6, none⟩ = some (.slice u4 v4 w4_) ∧ u.cell? ⟨b2, o2 + 7, none⟩ = some (.slice u5 v5 w5_) ∧ u.cell? ⟨b2, o2 + 8, none⟩ = some (.slice u6 v6 w6_) ∧ u.cell? ⟨b2, o2 + 9, none⟩ = some (.bool z.lim) ∧ u.cell? ⟨b2, o2 + 10, none⟩ = some (.int .i64 z.n)))
 obtain ⟨a1, n1, k1, rfl⟩ := dis_slice h1
 have HX := hid (new_els hc (.cells #[.int .i64 x.kind, .string (str x.tb), .slice (some ⟨b2, o2, none⟩) 1 z1, .string (str x.al), .slice a1 n1 k1] 44))
 have E1 : x.wr s = clauseF [111, 110] ((exsWr x.on).map (fun f => f 1)) (asF x.al (Wr.par z.bd (s.put [joinT 2]))) := by
  obtain ⟨kd, tb, q, al, on⟩ := x
  have hq : q = [z] := hq
  subst hq
  have hkd : kd = 2 := hkd
  have htb : tb = [] := htb
  unfold So.wr
  rw [if_pos (show tb = [] from htb), if_neg (by omega)]
  rw [hkd]
  rw [qusWr_map]
  rfl
 rw [E1] at hl ⊢
 have hcm := clauseF_mo [111, 110] ((exsWr x.on).map (fun f => f 1)) (fun f hf => by
  rw [exsWr_map, List.map_map] at hf
  obtain ⟨y, hy, rfl⟩ := List.mem_map.1 hf
  exact hM y hy) (asF x.al (Wr.par z.bd (s.put [joinT 2])))
 have ham : (Wr.par z.bd (s.put [joinT 2])).tx.length ≤ (asF x.al (Wr.par z.bd (s.put [joinT 2]))).tx.length := by
  unfold asF
  split
  ·exact Nat.le_refl _
  ·exact put_mono _ _
 have hsT := par_mo hMz (s.put [joinT 2])
 have HCC := hid (fun o => hc.alloc o)
 have HWA := hid (fun o => hw.alloc hw.size o)
 have HAS := hid (fun (g1 : Option Nat) (u : World) (h : WrC u A H B g1 (Wr.par z.bd (s.put [joinT 2]))) => as_any x.al h (so_al ox) (by omega))
 have HCL := hid (fun (g1 : Option Nat) (u : World) (h : WrC u A H B g1 (asF x.al (Wr.par z.bd (s.put [joinT 2])))) (hu : Below w0.heap.size w0 u) => clauseW [111, 110] ⟨#[111, 110]⟩ rfl (rngB rfl) h1 hn hE hM A H B g1 _ u hA hu h hl)
 have HPJ := hid (fun o => put_oneB (w.heap.size + 1) (by simp) (joinT 2) (str (joinT 2)) rfl (hc.alloc o) (rngB rfl) (by omega))
 have tj : w.cell? ⟨3, 2, none⟩ = some (.string (str (joinT 2))) := (hT.keep hw).joi 2 (by omega)
 have hgl := World.block_lt_of_cell? w _ tj
 have HIN := hid (fun (g1 : Option Nat) (u : World) (h : WrC u A H B g1 (s.put [joinT 2])) (hu : Below w0.heap.size w0 u) => hI (.agg #[.int .i64 z.op, .slice u0 v0 w0_, .bool z.sel.dist, .slice u1 v1 w1_, .slice u2 v2 w2_, .slice u3 v3 w3_, .slice u4 v4 w4_, .slice u5 v5 w5_, .slice u6 v6 w6_, .bool z.lim, .int .i64 z.n]) ⟨_, _, _, _, _, _, _, rfl, gq0, gq1, gq2, gq3, gq4, gq5, gq6⟩ A H B g1 _ u hA hu h (by omega))
 have fk : (x.kind != (0 : Int)) = true := by rw [hkd]; rfl
 have fe : ((str x.tb).toList == []) = true := (str_c x.tb [] (so_tb ox) (rngB rfl) [] rfl).trans (decide_eq_true htb)
 have fe2 : ((str x.tb).toList != []) = false := by rw [bne, fe]; rfl
 have hsz := hw.size
 have hwq := hw
 generalize joinT 2 = jt at *
 generalize clauseF [111, 110] ((exsWr x.on).map (fun f => f 1)) (asF x.al (Wr.par z.bd (s.put [jt]))) = sZ at *
 generalize asF x.al (Wr.par z.bd (s.put [jt])) = sA_ at *
 generalize Wr.par z.bd (s.put [jt]) = sT_ at *
 generalize s.put [jt] = sK_ at *
 clear hT ox hE hM hn hw hc hl E1 hcm ham hsT h1 hI hMz htb h0 hcell1 hd2 hq gq0 gq1 gq2 gq3 gq4 gq5 gq6 qc0 qc1 qc2 qc3 qc4 qc5 qc6 qc7 qc8 qc9 qc10
 generalize x.kind = kd at *
 subst hkd
 go_enter Tryz.func93, Tryz.ntmps93
 go_wp2_with (first
  | (go_at_call 47; refine (HPJ.out _).mono ?_; rintro e w1 ⟨rfl, g1, hc1, hk⟩; have HX1 := hid (HX.out.keep hk); have HS1 := hid hc1; have HB1 := hid (hk.low (HCC.out _) hA (HWA.out _)); have HK1 := hid (((WK.refl H B w g).alloc _).trans hk); clear hc1 hk HPJ; have y0 := cell_at HX1.out.at_ 0 rfl; have y1 := cell_at HX1.out.at_ 1 rfl; have y2 := cell_at HX1.out.at_ 2 rfl; have y3 := cell_at HX1.out.at_ 3 rfl; have y4 := cell_at HX1.out.at_ 4 rfl; obtain ⟨qw0, qw1, qw2, qw3, qw4, qw5, qw6, qw7, qw8, qw9, qw10⟩ := HQOW.out w1 HB1.out; have hb2w : b2 < w1.heap.size := (by have := HB1.out.size; omega))
  | (go_at_call 94; refine (HIN.out _ _ HS1.out HB1.out).mono ?_; rintro e w2 ⟨rfl, g2, hc2, hk⟩; have HX2 := hid (HX1.out.keep hk); have HS2 := hid hc2; have HB2 := hid (hk.low HS1.out hA HB1.out); have HK2 := hid (HK1.out.trans hk); clear hc2 hk HIN; clear y0 y1 y2 y3 y4; have y0 := cell_at HX2.out.at_ 0 rfl; have y1 := cell_at HX2.out.at_ 1 rfl; have y2 := cell_at HX2.out.at_ 2 rfl; have y3 := cell_at HX2.out.at_ 3 rfl; have y4 := cell_at HX2.out.at_ 4 rfl)
  | (go_at_call 106; refine (HAS.out _ _ HS2.out).mono ?_; rintro e w3 ⟨rfl, g3, hc3, hk⟩; have HX3 := hid (HX2.out.keep hk); have HS3 := hid hc3; have HB3 := hid (hk.low HS2.out hA HB2.out); have HK3 := hid (HK2.out.trans hk); clear hc3 hk HAS; clear y0 y1 y2 y3 y4; have y0 := cell_at HX3.out.at_ 0 rfl; have y1 := cell_at HX3.out.at_ 1 rfl; have y2 := cell_at HX3.out.at_ 2 rfl; have y3 := cell_at HX3.out.at_ 3 rfl; have y4 := cell_at HX3.out.at_ 4 rfl)
  | (go_at_call 61; refine (HCL.out _ _ HS3.out HB3.out).mono ?_; rintro e w4 ⟨rfl, g4, hc4, hk⟩; have HX4 := hid (HX3.out.keep hk); have HS4 := hid hc4; have HB4 := hid (hk.low HS3.out hA HB3.out); have HK4 := hid (HK3.out.trans hk); clear hc4 hk HCL; clear y0 y1 y2 y3 y4; have y0 := cell_at HX4.out.at_ 0 rfl; have y1 := cell_at HX4.out.at_ 1 rfl; have y2 := cell_at HX4.out.at_ 2 rfl; have y3 := cell_at HX4.out.at_ 3 rfl; have y4 := cell_at HX4.out.at_ 4 rfl)
  | fail)
 refine bodyPost_ret (results_none rfl _ _ _) rfl ?_
 exact ⟨rfl, g4, HS4.out, HK4.out⟩
end Go.Proofs.YtegkbagnbnoopaaGreatDoor
