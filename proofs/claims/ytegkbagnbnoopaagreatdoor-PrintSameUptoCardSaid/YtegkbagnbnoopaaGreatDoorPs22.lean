/- the writer of print: selects -/
import Derived.Test.YtegkbagnbnoopaaGreatDoorPs21
import Derived.Lib.ItoaLen
namespace Go.Proofs.YtegkbagnbnoopaaGreatDoor
open Go.ChangeShapes Go.WideShapes Go.ChangeAt Go.RowKit Go.Deep
open Go.Lib (hid)
theorem sosWr_snoc : ∀ (l : List So) (k : Nat) (x : So) (s : Wr), l[k]? = some x → sosWr (l.take (k + 1)) s = x.wr (sosWr (l.take k) s)
 | [], _, _, _, h => by simp at h
 | y :: l, 0, x, s, h => by injection h with h; subst h; rfl
 | y :: l, k + 1, x, s, h => sosWr_snoc l k x (y.wr s) (by simpa using h)
theorem sosWr_mo : ∀ (l : List So), (∀ y ∈ l, Mo y.wr) → Mo (sosWr l)
 | [], _ => fun _ => Nat.le_refl _
 | y :: l, h => fun s => Nat.le_trans (h y List.mem_cons_self s) (sosWr_mo l (fun z hz => h z (List.mem_cons_of_mem _ hz)) (y.wr s))
theorem sosWr_part : ∀ (l : List So), (∀ y ∈ l, Mo y.wr) → ∀ (k : Nat) (s : Wr), (sosWr (l.take k) s).tx.length ≤ (sosWr l s).tx.length
 | [], _, _, _ => by simp
 | y :: l, h, 0, s => sosWr_mo (y :: l) h s
 | y :: l, h, k + 1, s => sosWr_part l (fun z hz => h z (List.mem_cons_of_mem _ hz)) k (y.wr s)
set_option maxRecDepth 100000 in
set_option maxHeartbeats 6400000 in
theorem selects_dt {w0 : World} {x : Se} (hd : x.dist = true) (hI : ∀ y ∈ x.items, ∀ a, ItV w0 a y → W1 w0 92 a y.wr) (hIM : ∀ y ∈ x.items, Mo y.wr) (hS : ∀ y ∈ x.fro, ∀ a, SoV w0 a y → W1 w0 93 a y.wr) (hSM : ∀ y ∈ x.fro, Mo y.wr)
  (hw3 : ∀ y ∈ x.wh, XE w0 y) (hwM : ∀ y ∈ x.wh, Mo (y.wr 1)) (hg3 : ∀ y ∈ x.gr, XE w0 y) (hgM : ∀ y ∈ x.gr, Mo (y.wr 1)) (hh3 : ∀ y ∈ x.hv, XE w0 y) (hhM : ∀ y ∈ x.hv, Mo (y.wr 1))
  (l0 : x.items.length ≤ 1073741823) (l1 : x.fro.length ≤ 1073741823) (l2 : x.wh.length ≤ 1073741823) (l3 : x.gr.length ≤ 1073741823) (l4 : x.hv.length ≤ 1073741823) : CSw w0 x := by
 intro a ha A H B g s w hA hw hc hl
 obtain ⟨p0, p1, p2, p3, p4, rfl, h0, h1, h2, h3, h4⟩ := ha
 obtain ⟨a0, n0, k0, rfl⟩ := dis_slice h0
 obtain ⟨a1, k1, rfl, -, hcell1⟩ := sos_rows h1
 obtain ⟨a2, n2, k2, rfl⟩ := dis_slice h2
 obtain ⟨a3, n3, k3, rfl⟩ := dis_slice h3
 obtain ⟨a4, n4, k4, rfl⟩ := dis_slice h4
 have HX := hid (new_els hc (.cells #[.bool x.dist, .slice a0 n0 k0, .slice a1 x.fro.length k1, .slice a2 n2 k2, .slice a3 n3 k3, .slice a4 n4 k4] 27))
 have E1 : x.wr s = clauseF [104, 97, 118, 105, 110, 103] ((exsWr x.hv).map (fun f => f 1)) (clauseF [103, 114, 111, 117, 112, 32, 98, 121] ((exsWr x.gr).map (fun f => f 1)) (clauseF [119, 104, 101, 114, 101] ((exsWr x.wh).map (fun f => f 1)) (sosWr x.fro ((listF true (x.items.map It.wr) ((s.put [[115, 101, 108, 101, 99, 116]]).put [[100, 105, 115, 116, 105, 110, 99, 116]])).put [[102, 114, 111, 109]])))) := by
  obtain ⟨dist, items, fro, wh, gr, hv⟩ := x
  have hd : dist = true := hd
  subst hd
  unfold Se.wr
  rw [itsWr_map]
  rfl
 rw [E1] at hl ⊢
 obtain ⟨sB, hB⟩ : ∃ q, q = listF true (x.items.map It.wr) ((s.put [[115, 101, 108, 101, 99, 116]]).put [[100, 105, 115, 116, 105, 110, 99, 116]]) := ⟨_, rfl⟩
 obtain ⟨sD, hD⟩ : ∃ q, q = sosWr x.fro (sB.put [[102, 114, 111, 109]]) := ⟨_, rfl⟩
 obtain ⟨sE, hE⟩ : ∃ q, q = clauseF [119, 104, 101, 114, 101] ((exsWr x.wh).map (fun f => f 1)) sD := ⟨_, rfl⟩
 obtain ⟨sF, hF⟩ : ∃ q, q = clauseF [103, 114, 111, 117, 112, 32, 98, 121] ((exsWr x.gr).map (fun f => f 1)) sE := ⟨_, rfl⟩
 obtain ⟨sG, hG⟩ : ∃ q, q = clauseF [104, 97, 118, 105, 110, 103] ((exsWr x.hv).map (fun f => f 1)) sF := ⟨_, rfl⟩
 rw [← hB, ← hD, ← hE, ← hF, ← hG] at hl ⊢
 have mc : ∀ (kw : List Int) (l : List Ex) (hm : ∀ y ∈ l, Mo (y.wr 1)), Mo (clauseF kw ((exsWr l).map (fun f => f 1))) := fun kw l hm => clauseF_mo kw _ (fun f hf => by
  rw [exsWr_map, List.map_map] at hf
  obtain ⟨y, hy, rfl⟩ := List.mem_map.1 hf
  exact hm y hy)
 have hmi : ∀ f ∈ x.items.map It.wr, Mo f := fun f hf => by obtain ⟨y, hy, rfl⟩ := List.mem_map.1 hf; exact hIM y hy
 have b5 : sF.tx.length ≤ sG.tx.length := by rw [hG]; exact mc _ _ hhM sF
 have b4 : sE.tx.length ≤ sF.tx.length := by rw [hF]; exact mc _ _ hgM sE
 have b3 : sD.tx.length ≤ sE.tx.length := by rw [hE]; exact mc _ _ hwM sD
 have b2 : (sB.put [[102, 114, 111, 109]]).tx.length ≤ sD.tx.length := by rw [hD]; exact sosWr_mo x.fro hSM _
 have b1 := put_mono sB [[102, 114, 111, 109]]
 have b0 : ((s.put [[115, 101, 108, 101, 99, 116]]).put [[100, 105, 115, 116, 105, 110, 99, 116]]).tx.length ≤ sB.tx.length := by rw [hB]; exact listF_mo _ true hmi ((s.put [[115, 101, 108, 101, 99, 116]]).put [[100, 105, 115, 116, 105, 110, 99, 116]])
 have bs := put_mono (s.put [[115, 101, 108, 101, 99, 116]]) [[100, 105, 115, 116, 105, 110, 99, 116]]
 have HCC := hid (fun o => hc.alloc o)
 have HWA := hid (fun o => hw.alloc hw.size o)
 have HP1 := hid (fun o => put_oneB (w.heap.size + 1) (by simp) [115, 101, 108, 101, 99, 116] ⟨#[115, 101, 108, 101, 99, 116]⟩ rfl (hc.alloc o) (rngB rfl) (by omega))
 have HP2 := hid (fun (g1 : Option Nat) (u : World) (h : WrC u A H B g1 (s.put [[115, 101, 108, 101, 99, 116]])) => put_one [100, 105, 115, 116, 105, 110, 99, 116] ⟨#[100, 105, 115, 116, 105, 110, 99, 116]⟩ rfl h (rngB rfl) (by omega))
 have HLI := hid (fun (g1 : Option Nat) (u : World) (h : WrC u A H B g1 ((s.put [[115, 101, 108, 101, 99, 116]]).put [[100, 105, 115, 116, 105, 110, 99, 116]])) (hu : Below w0.heap.size w0 u) => by
  have q := list_it It.wr 92 call_witem hA hu h h0 l0 hI hIM (by rw [← hB]; omega)
  rw [← hB] at q; exact q)
 have HP3 := hid (fun (g1 : Option Nat) (u : World) (h : WrC u A H B g1 sB) => put_one [102, 114, 111, 109] ⟨#[102, 114, 111, 109]⟩ rfl h (rngB rfl) (by omega))
 have HSO := hid (fun (k : Nat) (y : So) (hy : x.fro[k]? = some y) (g1 : Option Nat) (u : World) (a : Value) (h : WrC u A H B g1 (sosWr (x.fro.take k) (sB.put [[102, 114, 111, 109]]))) (hu : Below w0.heap.size w0 u) (ha : SoV w0 a y) => by
  have hp := sosWr_part x.fro hSM (k + 1) (sB.put [[102, 114, 111, 109]])
  rw [sosWr_snoc x.fro k y _ hy, ← hD] at hp
  have q := hS y (List.mem_of_getElem? hy) a ha A H B g1 _ u hA hu h (by omega)
  rw [← sosWr_snoc x.fro k y _ hy] at q; exact q)
 have HC3 := hid (fun (g1 : Option Nat) (u : World) (h : WrC u A H B g1 sD) (hu : Below w0.heap.size w0 u) => by
  have q := clauseW [119, 104, 101, 114, 101] ⟨#[119, 104, 101, 114, 101]⟩ rfl (rngB rfl) h2 l2 hw3 hwM A H B g1 _ u hA hu h (by rw [← hE]; omega)
  rw [← hE] at q; exact q)
 have HC4 := hid (fun (g1 : Option Nat) (u : World) (h : WrC u A H B g1 sE) (hu : Below w0.heap.size w0 u) => by
  have q := clauseW [103, 114, 111, 117, 112, 32, 98, 121] ⟨#[103, 114, 111, 117, 112, 32, 98, 121]⟩ rfl (rngB rfl) h3 l3 hg3 hgM A H B g1 _ u hA hu h (by rw [← hF]; omega)
  rw [← hF] at q; exact q)
 have HC5 := hid (fun (g1 : Option Nat) (u : World) (h : WrC u A H B g1 sF) (hu : Below w0.heap.size w0 u) => by
  have q := clauseW [104, 97, 118, 105, 110, 103] ⟨#[104, 97, 118, 105, 110, 103]⟩ rfl (rngB rfl) h4 l4 hh3 hhM A H B g1 _ u hA hu h (by rw [← hG]; omega)
  rw [← hG] at q; exact q)
 have HR := hid hcell1
 have HBE := hid hD
 have hb0 := hw.size
 generalize sB.put [[102, 114, 111, 109]] = sC at *
 generalize ((s.put [[115, 101, 108, 101, 99, 116]]).put [[100, 105, 115, 116, 105, 110, 99, 116]]) = sA_ at *
 generalize s.put [[115, 101, 108, 101, 99, 116]] = sQ at *
 generalize hn : x.fro.length = n at *
 have HN := hid hn
 generalize x.dist = xd at *
 subst hd
 clear hc hw hI hIM hS hSM hw3 hwM hg3 hgM hh3 hhM E1 hl hB hD hE hF hG mc hmi b0 b1 b2 b3 b4 b5 bs hn hcell1 l0 l2 l3 l4 h0 h1 h2 h3 h4
 go_enter Tryz.func72, Tryz.ntmps72
 go_wp2_with (first
  | (go_at_call 47; refine (HP1.out _).mono ?_; clear HP1; rintro e w1 ⟨rfl, g1, hc1, hk⟩; have HX1 := hid (HX.out.keep hk); have HS1 := hid hc1; have HB1 := hid (hk.low (HCC.out _) hA (HWA.out _)); have HK1 := hid (((WK.refl H B w g).alloc _).trans hk); clear hc1 hk; have y0 := cell_at HX1.out.at_ 0 rfl; have y1 := cell_at HX1.out.at_ 1 rfl; have y2 := cell_at HX1.out.at_ 2 rfl; have y3 := cell_at HX1.out.at_ 3 rfl; have y4 := cell_at HX1.out.at_ 4 rfl; have y5 := cell_at HX1.out.at_ 5 rfl)
  | (go_at_call 47; refine (HP2.out _ _ HS1.out).mono ?_; clear HP2; rintro e w2 ⟨rfl, g2, hc2, hk⟩; have HX2 := hid (HX1.out.keep hk); have HS2 := hid hc2; have HB2 := hid (hk.low HS1.out hA HB1.out); have HK2 := hid (HK1.out.trans hk); clear hc2 hk; clear y0 y1 y2 y3 y4 y5; have y0 := cell_at HX2.out.at_ 0 rfl; have y1 := cell_at HX2.out.at_ 1 rfl; have y2 := cell_at HX2.out.at_ 2 rfl; have y3 := cell_at HX2.out.at_ 3 rfl; have y4 := cell_at HX2.out.at_ 4 rfl; have y5 := cell_at HX2.out.at_ 5 rfl)
  | (go_at_call 91; refine (HLI.out _ _ HS2.out HB2.out).mono ?_; clear HLI; rintro e w3 ⟨rfl, g3, hc3, hk⟩; have HX3 := hid (HX2.out.keep hk); have HS3 := hid hc3; have HB3 := hid (hk.low HS2.out hA HB2.out); have HK3 := hid (HK2.out.trans hk); clear hc3 hk; clear y0 y1 y2 y3 y4 y5; have y0 := cell_at HX3.out.at_ 0 rfl; have y1 := cell_at HX3.out.at_ 1 rfl; have y2 := cell_at HX3.out.at_ 2 rfl; have y3 := cell_at HX3.out.at_ 3 rfl; have y4 := cell_at HX3.out.at_ 4 rfl; have y5 := cell_at HX3.out.at_ 5 rfl)
  | (go_at_call 47; refine (HP3.out _ _ HS3.out).mono ?_; clear HP3; rintro e w4 ⟨rfl, g4, hc4, hk⟩; have HX4 := hid (HX3.out.keep hk); have HS4 := hid hc4; have HB4 := hid (hk.low HS3.out hA HB3.out); have HK4 := hid (HK3.out.trans hk); clear hc4 hk; clear y0 y1 y2 y3 y4 y5; have y0 := cell_at HX4.out.at_ 0 rfl; have y1 := cell_at HX4.out.at_ 1 rfl; have y2 := cell_at HX4.out.at_ 2 rfl; have y3 := cell_at HX4.out.at_ 3 rfl; have y4 := cell_at HX4.out.at_ 4 rfl; have y5 := cell_at HX4.out.at_ 5 rfl)
  | fail)
 go_loopw [26] (fun i wr => ∃ k : Nat, k ≤ n ∧ i = .int .i64 k ∧ ∃ gk, Hid (WrC wr A H B gk (sosWr (x.fro.take k) sC)) ∧ Hid (WK H B w g wr gk) ∧ Hid (Els H B wr gk w.heap.size (.cells #[.bool true, .slice a0 n0 k0, .slice a1 n k1, .slice a2 n2 k2, .slice a3 n3 k3, .slice a4 n4 k4] 27)) ∧ Hid (Below w0.heap.size w0 wr)) (fun i _ => n - (intOf i).toNat)
 case atStart => exact ⟨0, Nat.zero_le _, rfl, g4, HS4, HK4, HX4, HB4⟩
 case round =>
  obtain ⟨k, hk1, rfl, gk, HS, HK, HXX, HBW⟩ := hrel
  have hsz := HBW.out.size
  by_cases hlt1 : k < n
  ·obtain ⟨b1, o1, rfl, hb1, hd1⟩ := HR.out (by omega)
   obtain ⟨y, hy⟩ : ∃ y, x.fro[k]? = some y := ⟨_, List.getElem?_eq_getElem (by rw [HN.out]; exact hlt1)⟩
   obtain ⟨s0_, s1_, p0, p1, p2, p3, p4, hh0, hh1⟩ := hd1 k y hy
   replace p0 := (HBW.out.cell (p := ⟨b1, o1 + k * 5, none⟩) hb1).trans p0
   replace p1 := (HBW.out.cell (p := ⟨b1, o1 + k * 5 + 1, none⟩) hb1).trans p1
   replace p2 := (HBW.out.cell (p := ⟨b1, o1 + k * 5 + 2, none⟩) hb1).trans p2
   replace p3 := (HBW.out.cell (p := ⟨b1, o1 + k * 5 + 3, none⟩) hb1).trans p3
   replace p4 := (HBW.out.cell (p := ⟨b1, o1 + k * 5 + 4, none⟩) hb1).trans p4
   obtain ⟨f0, r0, t0, rfl⟩ := dis_slice hh0
   obtain ⟨f1, r1, t1, rfl⟩ := dis_slice hh1
   have HSO1 := hid (fun (o : Obj) => HSO.out k y hy gk (wr.alloc o) (.agg #[.int .i64 y.kind, .string (str y.tb), .slice f0 r0 t0, .string (str y.al), .slice f1 r1 t1]) (HS.out.alloc o) (HBW.out.alloc HBW.out.size o) ⟨_, _, rfl, hh0, hh1⟩)
   have hb1r : b1 < wr.heap.size := by omega
   have HY := hid hy
   clear hd1 hy hh0 hh1 HSO
   go_wp2_with (go_at_call 93; refine (HSO1.out _).mono ?_; clear HSO1; rintro e wz ⟨rfl, gz, hcz, hkz⟩; have HSz := hid hcz; have HXz := hid ((HXX.out.keep ((WK.refl H B wr gk).alloc _)).keep hkz); have HBz := hid (hkz.low (HS.out.alloc _) hA (HBW.out.alloc HBW.out.size _)); have HKz := hid ((HK.out.alloc _).trans hkz); clear hcz hkz)
   go_roundw
   case rel => exact ⟨k + 1, by omega, by go_num, gz, HSz, HKz, HXz, HBz⟩
   case measure => simp [intOf]; omega
  ·have hkn : k = n := by omega
   subst hkn
   have hcn : decide ((k : Int) < (k : Int)) = false := decide_eq_false (by omega)
   have HTK := hid (show sosWr (x.fro.take k) sC = sD from by rw [HBE.out, List.take_of_length_le (by rw [HN.out]; omega)])
   have HS6 := hid (show WrC wr A H B gk sD from by have h := HS.out; rw [HTK.out] at h; exact h)
   have HX6 := HXX
   have HB6 := HBW
   have HK6 := HK
   have y0 := cell_at HXX.out.at_ 0 rfl
   have y1 := cell_at HXX.out.at_ 1 rfl
   have y2 := cell_at HXX.out.at_ 2 rfl
   have y3 := cell_at HXX.out.at_ 3 rfl
   have y4 := cell_at HXX.out.at_ 4 rfl
   have y5 := cell_at HXX.out.at_ 5 rfl
   go_wp2_with (first
    | (go_at_call 61; refine (HC3.out _ _ HS6.out HB6.out).mono ?_; clear HC3; rintro e w7 ⟨rfl, g7, hc7, hk⟩; have HX7 := hid (HX6.out.keep hk); have HS7 := hid hc7; have HB7 := hid (hk.low HS6.out hA HB6.out); have HK7 := hid (HK6.out.trans hk); clear hc7 hk; clear y0 y1 y2 y3 y4 y5; have y0 := cell_at HX7.out.at_ 0 rfl; have y1 := cell_at HX7.out.at_ 1 rfl; have y2 := cell_at HX7.out.at_ 2 rfl; have y3 := cell_at HX7.out.at_ 3 rfl; have y4 := cell_at HX7.out.at_ 4 rfl; have y5 := cell_at HX7.out.at_ 5 rfl)
    | (go_at_call 61; refine (HC4.out _ _ HS7.out HB7.out).mono ?_; clear HC4; rintro e w8 ⟨rfl, g8, hc8, hk⟩; have HX8 := hid (HX7.out.keep hk); have HS8 := hid hc8; have HB8 := hid (hk.low HS7.out hA HB7.out); have HK8 := hid (HK7.out.trans hk); clear hc8 hk; clear y0 y1 y2 y3 y4 y5; have y0 := cell_at HX8.out.at_ 0 rfl; have y1 := cell_at HX8.out.at_ 1 rfl; have y2 := cell_at HX8.out.at_ 2 rfl; have y3 := cell_at HX8.out.at_ 3 rfl; have y4 := cell_at HX8.out.at_ 4 rfl; have y5 := cell_at HX8.out.at_ 5 rfl)
    | (go_at_call 61; refine (HC5.out _ _ HS8.out HB8.out).mono ?_; clear HC5; rintro e w9 ⟨rfl, g9, hc9, hk⟩; have HX9 := hid (HX8.out.keep hk); have HS9 := hid hc9; have HB9 := hid (hk.low HS8.out hA HB8.out); have HK9 := hid (HK8.out.trans hk); clear hc9 hk; clear y0 y1 y2 y3 y4 y5; have y0 := cell_at HX9.out.at_ 0 rfl; have y1 := cell_at HX9.out.at_ 1 rfl; have y2 := cell_at HX9.out.at_ 2 rfl; have y3 := cell_at HX9.out.at_ 3 rfl; have y4 := cell_at HX9.out.at_ 4 rfl; have y5 := cell_at HX9.out.at_ 5 rfl)
    | fail)
   refine bodyPost_ret (results_none rfl _ _ _) rfl ?_
   exact ⟨rfl, g9, HS9.out, HK9.out⟩
set_option maxRecDepth 100000 in
set_option maxHeartbeats 6400000 in
theorem selects_df {w0 : World} {x : Se} (hd : x.dist = false) (hI : ∀ y ∈ x.items, ∀ a, ItV w0 a y → W1 w0 92 a y.wr) (hIM : ∀ y ∈ x.items, Mo y.wr) (hS : ∀ y ∈ x.fro, ∀ a, SoV w0 a y → W1 w0 93 a y.wr) (hSM : ∀ y ∈ x.fro, Mo y.wr)
  (hw3 : ∀ y ∈ x.wh, XE w0 y) (hwM : ∀ y ∈ x.wh, Mo (y.wr 1)) (hg3 : ∀ y ∈ x.gr, XE w0 y) (hgM : ∀ y ∈ x.gr, Mo (y.wr 1)) (hh3 : ∀ y ∈ x.hv, XE w0 y) (hhM : ∀ y ∈ x.hv, Mo (y.wr 1))
  (l0 : x.items.length ≤ 1073741823) (l1 : x.fro.length ≤ 1073741823) (l2 : x.wh.length ≤ 1073741823) (l3 : x.gr.length ≤ 1073741823) (l4 : x.hv.length ≤ 1073741823) : CSw w0 x := by
 intro a ha A H B g s w hA hw hc hl
 obtain ⟨p0, p1, p2, p3, p4, rfl, h0, h1, h2, h3, h4⟩ := ha
 obtain ⟨a0, n0, k0, rfl⟩ := dis_slice h0
 obtain ⟨a1, k1, rfl, -, hcell1⟩ := sos_rows h1
 obtain ⟨a2, n2, k2, rfl⟩ := dis_slice h2
 obtain ⟨a3, n3, k3, rfl⟩ := dis_slice h3
 obtain ⟨a4, n4, k4, rfl⟩ := dis_slice h4
 have HX := hid (new_els hc (.cells #[.bool x.dist, .slice a0 n0 k0, .slice a1 x.fro.length k1, .slice a2 n2 k2, .slice a3 n3 k3, .slice a4 n4 k4] 27))
 have E1 : x.wr s = clauseF [104, 97, 118, 105, 110, 103] ((exsWr x.hv).map (fun f => f 1)) (clauseF [103, 114, 111, 117, 112, 32, 98, 121] ((exsWr x.gr).map (fun f => f 1)) (clauseF [119, 104, 101, 114, 101] ((exsWr x.wh).map (fun f => f 1)) (sosWr x.fro ((listF true (x.items.map It.wr) (s.put [[115, 101, 108, 101, 99, 116]])).put [[102, 114, 111, 109]])))) := by
  obtain ⟨dist, items, fro, wh, gr, hv⟩ := x
  have hd : dist = false := hd
  subst hd
  unfold Se.wr
  rw [itsWr_map]
  rfl
 rw [E1] at hl ⊢
 obtain ⟨sB, hB⟩ : ∃ q, q = listF true (x.items.map It.wr) (s.put [[115, 101, 108, 101, 99, 116]]) := ⟨_, rfl⟩
 obtain ⟨sD, hD⟩ : ∃ q, q = sosWr x.fro (sB.put [[102, 114, 111, 109]]) := ⟨_, rfl⟩
 obtain ⟨sE, hE⟩ : ∃ q, q = clauseF [119, 104, 101, 114, 101] ((exsWr x.wh).map (fun f => f 1)) sD := ⟨_, rfl⟩
 obtain ⟨sF, hF⟩ : ∃ q, q = clauseF [103, 114, 111, 117, 112, 32, 98, 121] ((exsWr x.gr).map (fun f => f 1)) sE := ⟨_, rfl⟩
 obtain ⟨sG, hG⟩ : ∃ q, q = clauseF [104, 97, 118, 105, 110, 103] ((exsWr x.hv).map (fun f => f 1)) sF := ⟨_, rfl⟩
 rw [← hB, ← hD, ← hE, ← hF, ← hG] at hl ⊢
 have mc : ∀ (kw : List Int) (l : List Ex) (hm : ∀ y ∈ l, Mo (y.wr 1)), Mo (clauseF kw ((exsWr l).map (fun f => f 1))) := fun kw l hm => clauseF_mo kw _ (fun f hf => by
  rw [exsWr_map, List.map_map] at hf
  obtain ⟨y, hy, rfl⟩ := List.mem_map.1 hf
  exact hm y hy)
 have hmi : ∀ f ∈ x.items.map It.wr, Mo f := fun f hf => by obtain ⟨y, hy, rfl⟩ := List.mem_map.1 hf; exact hIM y hy
 have b5 : sF.tx.length ≤ sG.tx.length := by rw [hG]; exact mc _ _ hhM sF
 have b4 : sE.tx.length ≤ sF.tx.length := by rw [hF]; exact mc _ _ hgM sE
 have b3 : sD.tx.length ≤ sE.tx.length := by rw [hE]; exact mc _ _ hwM sD
 have b2 : (sB.put [[102, 114, 111, 109]]).tx.length ≤ sD.tx.length := by rw [hD]; exact sosWr_mo x.fro hSM _
 have b1 := put_mono sB [[102, 114, 111, 109]]
 have b0 : (s.put [[115, 101, 108, 101, 99, 116]]).tx.length ≤ sB.tx.length := by rw [hB]; exact listF_mo _ true hmi (s.put [[115, 101, 108, 101, 99, 116]])
 have bs := put_mono (s.put [[115, 101, 108, 101, 99, 116]]) [[100, 105, 115, 116, 105, 110, 99, 116]]
 have HCC := hid (fun o => hc.alloc o)
 have HWA := hid (fun o => hw.alloc hw.size o)
 have HP1 := hid (fun o => put_oneB (w.heap.size + 1) (by simp) [115, 101, 108, 101, 99, 116] ⟨#[115, 101, 108, 101, 99, 116]⟩ rfl (hc.alloc o) (rngB rfl) (by omega))
 have HLI := hid (fun (g1 : Option Nat) (u : World) (h : WrC u A H B g1 (s.put [[115, 101, 108, 101, 99, 116]])) (hu : Below w0.heap.size w0 u) => by
  have q := list_it It.wr 92 call_witem hA hu h h0 l0 hI hIM (by rw [← hB]; omega)
  rw [← hB] at q; exact q)
 have HP3 := hid (fun (g1 : Option Nat) (u : World) (h : WrC u A H B g1 sB) => put_one [102, 114, 111, 109] ⟨#[102, 114, 111, 109]⟩ rfl h (rngB rfl) (by omega))
 have HSO := hid (fun (k : Nat) (y : So) (hy : x.fro[k]? = some y) (g1 : Option Nat) (u : World) (a : Value) (h : WrC u A H B g1 (sosWr (x.fro.take k) (sB.put [[102, 114, 111, 109]]))) (hu : Below w0.heap.size w0 u) (ha : SoV w0 a y) => by
  have hp := sosWr_part x.fro hSM (k + 1) (sB.put [[102, 114, 111, 109]])
  rw [sosWr_snoc x.fro k y _ hy, ← hD] at hp
  have q := hS y (List.mem_of_getElem? hy) a ha A H B g1 _ u hA hu h (by omega)
  rw [← sosWr_snoc x.fro k y _ hy] at q; exact q)
 have HC3 := hid (fun (g1 : Option Nat) (u : World) (h : WrC u A H B g1 sD) (hu : Below w0.heap.size w0 u) => by
  have q := clauseW [119, 104, 101, 114, 101] ⟨#[119, 104, 101, 114, 101]⟩ rfl (rngB rfl) h2 l2 hw3 hwM A H B g1 _ u hA hu h (by rw [← hE]; omega)
  rw [← hE] at q; exact q)
 have HC4 := hid (fun (g1 : Option Nat) (u : World) (h : WrC u A H B g1 sE) (hu : Below w0.heap.size w0 u) => by
  have q := clauseW [103, 114, 111, 117, 112, 32, 98, 121] ⟨#[103, 114, 111, 117, 112, 32, 98, 121]⟩ rfl (rngB rfl) h3 l3 hg3 hgM A H B g1 _ u hA hu h (by rw [← hF]; omega)
  rw [← hF] at q; exact q)
 have HC5 := hid (fun (g1 : Option Nat) (u : World) (h : WrC u A H B g1 sF) (hu : Below w0.heap.size w0 u) => by
  have q := clauseW [104, 97, 118, 105, 110, 103] ⟨#[104, 97, 118, 105, 110, 103]⟩ rfl (rngB rfl) h4 l4 hh3 hhM A H B g1 _ u hA hu h (by rw [← hG]; omega)
  rw [← hG] at q; exact q)
 have HR := hid hcell1
 have HBE := hid hD
 have hb0 := hw.size
 generalize sB.put [[102, 114, 111, 109]] = sC at *
 generalize (s.put [[115, 101, 108, 101, 99, 116]]) = sA_ at *
 generalize hn : x.fro.length = n at *
 have HN := hid hn
 generalize x.dist = xd at *
 subst hd
 clear hc hw hI hIM hS hSM hw3 hwM hg3 hgM hh3 hhM E1 hl hB hD hE hF hG mc hmi b0 b1 b2 b3 b4 b5 bs hn hcell1 l0 l2 l3 l4 h0 h1 h2 h3 h4
 go_enter Tryz.func72, Tryz.ntmps72
 go_wp2_with (first
  | (go_at_call 47; refine (HP1.out _).mono ?_; clear HP1; rintro e w1 ⟨rfl, g1, hc1, hk⟩; have HX1 := hid (HX.out.keep hk); have HS1 := hid hc1; have HB1 := hid (hk.low (HCC.out _) hA (HWA.out _)); have HK1 := hid (((WK.refl H B w g).alloc _).trans hk); clear hc1 hk; have y0 := cell_at HX1.out.at_ 0 rfl; have y1 := cell_at HX1.out.at_ 1 rfl; have y2 := cell_at HX1.out.at_ 2 rfl; have y3 := cell_at HX1.out.at_ 3 rfl; have y4 := cell_at HX1.out.at_ 4 rfl; have y5 := cell_at HX1.out.at_ 5 rfl)
  | (go_at_call 91; refine (HLI.out _ _ HS1.out HB1.out).mono ?_; clear HLI; rintro e w2 ⟨rfl, g2, hc2, hk⟩; have HX2 := hid (HX1.out.keep hk); have HS2 := hid hc2; have HB2 := hid (hk.low HS1.out hA HB1.out); have HK2 := hid (HK1.out.trans hk); clear hc2 hk; clear y0 y1 y2 y3 y4 y5; have y0 := cell_at HX2.out.at_ 0 rfl; have y1 := cell_at HX2.out.at_ 1 rfl; have y2 := cell_at HX2.out.at_ 2 rfl; have y3 := cell_at HX2.out.at_ 3 rfl; have y4 := cell_at HX2.out.at_ 4 rfl; have y5 := cell_at HX2.out.at_ 5 rfl)
  | (go_at_call 47; refine (HP3.out _ _ HS2.out).mono ?_; clear HP3; rintro e w3 ⟨rfl, g3, hc3, hk⟩; have HX3 := hid (HX2.out.keep hk); have HS3 := hid hc3; have HB3 := hid (hk.low HS2.out hA HB2.out); have HK3 := hid (HK2.out.trans hk); clear hc3 hk; clear y0 y1 y2 y3 y4 y5; have y0 := cell_at HX3.out.at_ 0 rfl; have y1 := cell_at HX3.out.at_ 1 rfl; have y2 := cell_at HX3.out.at_ 2 rfl; have y3 := cell_at HX3.out.at_ 3 rfl; have y4 := cell_at HX3.out.at_ 4 rfl; have y5 := cell_at HX3.out.at_ 5 rfl)
  | fail)
 go_loopw [26] (fun i wr => ∃ k : Nat, k ≤ n ∧ i = .int .i64 k ∧ ∃ gk, Hid (WrC wr A H B gk (sosWr (x.fro.take k) sC)) ∧ Hid (WK H B w g wr gk) ∧ Hid (Els H B wr gk w.heap.size (.cells #[.bool false, .slice a0 n0 k0, .slice a1 n k1, .slice a2 n2 k2, .slice a3 n3 k3, .slice a4 n4 k4] 27)) ∧ Hid (Below w0.heap.size w0 wr)) (fun i _ => n - (intOf i).toNat)
 case atStart => exact ⟨0, Nat.zero_le _, rfl, g3, HS3, HK3, HX3, HB3⟩
 case round =>
  obtain ⟨k, hk1, rfl, gk, HS, HK, HXX, HBW⟩ := hrel
  have hsz := HBW.out.size
  by_cases hlt1 : k < n
  ·obtain ⟨b1, o1, rfl, hb1, hd1⟩ := HR.out (by omega)
   obtain ⟨y, hy⟩ : ∃ y, x.fro[k]? = some y := ⟨_, List.getElem?_eq_getElem (by rw [HN.out]; exact hlt1)⟩
   obtain ⟨s0_, s1_, p0, p1, p2, p3, p4, hh0, hh1⟩ := hd1 k y hy
   replace p0 := (HBW.out.cell (p := ⟨b1, o1 + k * 5, none⟩) hb1).trans p0
   replace p1 := (HBW.out.cell (p := ⟨b1, o1 + k * 5 + 1, none⟩) hb1).trans p1
   replace p2 := (HBW.out.cell (p := ⟨b1, o1 + k * 5 + 2, none⟩) hb1).trans p2
   replace p3 := (HBW.out.cell (p := ⟨b1, o1 + k * 5 + 3, none⟩) hb1).trans p3
   replace p4 := (HBW.out.cell (p := ⟨b1, o1 + k * 5 + 4, none⟩) hb1).trans p4
   obtain ⟨f0, r0, t0, rfl⟩ := dis_slice hh0
   obtain ⟨f1, r1, t1, rfl⟩ := dis_slice hh1
   have HSO1 := hid (fun (o : Obj) => HSO.out k y hy gk (wr.alloc o) (.agg #[.int .i64 y.kind, .string (str y.tb), .slice f0 r0 t0, .string (str y.al), .slice f1 r1 t1]) (HS.out.alloc o) (HBW.out.alloc HBW.out.size o) ⟨_, _, rfl, hh0, hh1⟩)
   have hb1r : b1 < wr.heap.size := by omega
   have HY := hid hy
   clear hd1 hy hh0 hh1 HSO
   go_wp2_with (go_at_call 93; refine (HSO1.out _).mono ?_; clear HSO1; rintro e wz ⟨rfl, gz, hcz, hkz⟩; have HSz := hid hcz; have HXz := hid ((HXX.out.keep ((WK.refl H B wr gk).alloc _)).keep hkz); have HBz := hid (hkz.low (HS.out.alloc _) hA (HBW.out.alloc HBW.out.size _)); have HKz := hid ((HK.out.alloc _).trans hkz); clear hcz hkz)
   go_roundw
   case rel => exact ⟨k + 1, by omega, by go_num, gz, HSz, HKz, HXz, HBz⟩
   case measure => simp [intOf]; omega
  ·have hkn : k = n := by omega
   subst hkn
   have hcn : decide ((k : Int) < (k : Int)) = false := decide_eq_false (by omega)
   have HTK := hid (show sosWr (x.fro.take k) sC = sD from by rw [HBE.out, List.take_of_length_le (by rw [HN.out]; omega)])
   have HS6 := hid (show WrC wr A H B gk sD from by have h := HS.out; rw [HTK.out] at h; exact h)
   have HX6 := HXX
   have HB6 := HBW
   have HK6 := HK
   have y0 := cell_at HXX.out.at_ 0 rfl
   have y1 := cell_at HXX.out.at_ 1 rfl
   have y2 := cell_at HXX.out.at_ 2 rfl
   have y3 := cell_at HXX.out.at_ 3 rfl
   have y4 := cell_at HXX.out.at_ 4 rfl
   have y5 := cell_at HXX.out.at_ 5 rfl
   go_wp2_with (first
    | (go_at_call 61; refine (HC3.out _ _ HS6.out HB6.out).mono ?_; clear HC3; rintro e w7 ⟨rfl, g7, hc7, hk⟩; have HX7 := hid (HX6.out.keep hk); have HS7 := hid hc7; have HB7 := hid (hk.low HS6.out hA HB6.out); have HK7 := hid (HK6.out.trans hk); clear hc7 hk; clear y0 y1 y2 y3 y4 y5; have y0 := cell_at HX7.out.at_ 0 rfl; have y1 := cell_at HX7.out.at_ 1 rfl; have y2 := cell_at HX7.out.at_ 2 rfl; have y3 := cell_at HX7.out.at_ 3 rfl; have y4 := cell_at HX7.out.at_ 4 rfl; have y5 := cell_at HX7.out.at_ 5 rfl)
    | (go_at_call 61; refine (HC4.out _ _ HS7.out HB7.out).mono ?_; clear HC4; rintro e w8 ⟨rfl, g8, hc8, hk⟩; have HX8 := hid (HX7.out.keep hk); have HS8 := hid hc8; have HB8 := hid (hk.low HS7.out hA HB7.out); have HK8 := hid (HK7.out.trans hk); clear hc8 hk; clear y0 y1 y2 y3 y4 y5; have y0 := cell_at HX8.out.at_ 0 rfl; have y1 := cell_at HX8.out.at_ 1 rfl; have y2 := cell_at HX8.out.at_ 2 rfl; have y3 := cell_at HX8.out.at_ 3 rfl; have y4 := cell_at HX8.out.at_ 4 rfl; have y5 := cell_at HX8.out.at_ 5 rfl)
    | (go_at_call 61; refine (HC5.out _ _ HS8.out HB8.out).mono ?_; clear HC5; rintro e w9 ⟨rfl, g9, hc9, hk⟩; have HX9 := hid (HX8.out.keep hk); have HS9 := hid hc9; have HB9 := hid (hk.low HS8.out hA HB8.out); have HK9 := hid (HK8.out.trans hk); clear hc9 hk; clear y0 y1 y2 y3 y4 y5; have y0 := cell_at HX9.out.at_ 0 rfl; have y1 := cell_at HX9.out.at_ 1 rfl; have y2 := cell_at HX9.out.at_ 2 rfl; have y3 := cell_at HX9.out.at_ 3 rfl; have y4 := cell_at HX9.out.at_ 4 rfl; have y5 := cell_at HX9.out.at_ 5 rfl)
    | fail)
   refine bodyPost_ret (results_none rfl _ _ _) rfl ?_
   exact ⟨rfl, g9, HS9.out, HK9.out⟩
end Go.Proofs.YtegkbagnbnoopaaGreatDoor
/- the writer of print, plainly: what it writes only grows the text -/
namespace Go.Proofs.YtegkbagnbnoopaaGreatDoor
theorem Mo.id : Mo (fun s => s) := fun _ => Nat.le_refl _
theorem Mo.put {f : Wr → Wr} (h : Mo f) (ts : List (List Int)) : Mo (fun s => (f s).put ts) := fun s => Nat.le_trans (h s) (put_mono _ _)
theorem Mo.comp {f g : Wr → Wr} (hf : Mo f) (hg : Mo g) : Mo (fun s => f (g s)) := fun s => Nat.le_trans (hg s) (hf _)
theorem put_mo (ts : List (List Int)) : Mo (fun s => s.put ts) := fun s => put_mono s ts
theorem tight_mo {f : Wr → Wr} (h : Mo f) : Mo (fun s => (f s).tight) := fun s => h s
theorem argF_mo {l : List (Int → Wr → Wr)} (h : ∀ f ∈ l, ∀ le, Mo (f le)) (k : Nat) (le : Int) : Mo (argF l k le) := fun s => by
 unfold argF
 rw [List.getD_eq_getElem?_getD]
 rcases hk : l[k]? with _ | f
 ·exact Nat.le_refl _
 ·exact h f (List.mem_of_getElem? hk) le s
theorem quF_mo {l : List (Int × (Wr → Wr))} (h : ∀ f ∈ l, Mo f.2) (k : Nat) : Mo (quF l k).2 := fun s => by
 unfold quF
 rw [List.getD_eq_getElem?_getD]
 rcases hk : l[k]? with _ | f
 ·exact Nat.le_refl _
 ·exact h f (List.mem_of_getElem? hk) s
theorem unitF_mo {p : Int × (Wr → Wr)} (h : Mo p.2) : Mo (unitF p) := fun s => by
 unfold unitF; split
 ·exact h s
 ·exact par_mo h s
theorem asF_mo (nm : List Int) : Mo (asF nm) := fun s => by
 unfold asF; split
 ·exact Nat.le_refl _
 ·exact put_mono _ _
theorem valF_mo (v : Val) : Mo (valF v) := fun s => by
 unfold valF; split
 ·exact put_mono _ _
 ·split
  ·exact put_mono _ _
  ·split <;> exact put_mono _ _
theorem refF_mo (tb nm : List Int) : Mo (refF tb nm) := fun s => by
 unfold refF; split
 ·exact put_mono _ _
 ·exact (put_mo [tb, [46]]).put [nm] s
theorem opF_mo {ar : List (Int → Wr → Wr)} {qs : List (Int × (Wr → Wr))} (op : Int) (tb nm : List Int) (v : Val) (ha : ∀ f ∈ ar, ∀ le, Mo (f le)) (hq : ∀ f ∈ qs, Mo f.2) : Mo (opF op tb nm v ar qs) := fun s => by
 have a := argF_mo ha
 have q := quF_mo hq
 unfold opF
 split
 ·exact valF_mo v s
 split
 ·exact refF_mo tb nm s
 split
 ·exact (a 0 7).comp (tight_mo (put_mo [opT op])) s
 split
 ·exact (a 0 3).comp (put_mo [opT op]) s
 split
 ·exact (a 0 5).put [opT op] s
 split
 ·exact (par_mo (f := fun s => s.put [[42]]) (put_mo [[42]])).comp (tight_mo (put_mo [opT op])) s
 split
 ·exact (par_mo (a 0 1)).comp (tight_mo (put_mo [opT op])) s
 split
 ·exact (par_mo (q 0)).comp (put_mo [opT op]) s
 split
 ·exact (par_mo (q 0)).comp ((a 0 5).put [opT op]) s
 ·exact (a 1 _).comp ((a 0 _).put [opT op]) s
theorem ones_mo {l : List (Int → Wr → Wr)} (h : ∀ f ∈ l, ∀ le, Mo (f le)) : ∀ f ∈ l.map (fun f => f 1), Mo f := fun f hf => by
 obtain ⟨g, hg, rfl⟩ := List.mem_map.1 hf
 exact h g hg 1
mutual
theorem Ex.mo : ∀ (x : Ex) (least : Int), Mo (x.wr least)
 | .mk op tb nm v args qs, least => fun s => by
  have ha := exs_mo args
  have hq := qus_mo qs
  unfold Ex.wr
  exact operF_mo (opF_mo op tb nm v ha hq) s
theorem exs_mo : ∀ (l : List Ex), ∀ f ∈ exsWr l, ∀ le, Mo (f le)
 | [], f, hf, _ => by unfold exsWr at hf; cases hf
 | x :: l, f, hf, le => by
  unfold exsWr at hf
  rcases List.mem_cons.1 hf with h | h
  ·subst h; exact Ex.mo x le
  ·exact exs_mo l f h le
theorem Qu.mo : ∀ (x : Qu), Mo x.bd
 | .mk op parts sel _ _ _ => fun s => by
  have hp := qus_mo parts
  have hs := Se.mo sel
  unfold Qu.bd
  split
  ·exact hs s
  ·exact (unitF_mo (quF_mo hp 1)).comp ((quF_mo hp 0).put [unionT op]) s
theorem qus_mo : ∀ (l : List Qu), ∀ f ∈ qusWr l, Mo f.2
 | [], f, hf => by unfold qusWr at hf; cases hf
 | x :: l, f, hf => by
  unfold qusWr at hf
  rcases List.mem_cons.1 hf with h | h
  ·subst h; exact Qu.mo x
  ·exact qus_mo l f h
theorem Se.mo : ∀ (x : Se), Mo x.wr
 | .mk dist items fro wh gr hv => fun s => by
  have h1 := its_mo items
  have h2 := sos_mo fro
  have h3 := ones_mo (exs_mo wh)
  have h4 := ones_mo (exs_mo gr)
  have h5 := ones_mo (exs_mo hv)
  unfold Se.wr
  refine Nat.le_trans ?_ ((clauseF_mo _ _ h5).comp ((clauseF_mo _ _ h4).comp ((clauseF_mo _ _ h3).comp (h2.comp ((listF_mo _ true h1).put [[102, 114, 111, 109]])))) _)
  split
  ·exact (put_mo [[115, 101, 108, 101, 99, 116]]).put [[100, 105, 115, 116, 105, 110, 99, 116]] s
  ·exact put_mono _ _
theorem It.mo : ∀ (x : It), Mo x.wr
 | .mk star x nm => fun s => by
  have h := Ex.mo x 1
  unfold It.wr
  split
  ·exact put_mono _ _
  ·exact (asF_mo nm).comp h s
theorem its_mo : ∀ (l : List It), ∀ f ∈ itsWr l, Mo f
 | [], f, hf => by unfold itsWr at hf; cases hf
 | x :: l, f, hf => by
  unfold itsWr at hf
  rcases List.mem_cons.1 hf with h | h
  ·subst h; exact It.mo x
  ·exact its_mo l f h
theorem So.mo : ∀ (x : So), Mo x.wr
 | .mk kind tb q al on => fun s => by
  have h1 := quF_mo (qus_mo q) 0
  have h2 := ones_mo (exs_mo on)
  unfold So.wr
  refine Nat.le_trans ?_ ((clauseF_mo _ _ h2).comp (asF_mo al) _)
  have hk : s.tx.length ≤ (if kind = 0 then s else s.put [joinT kind]).tx.length := by
   split
   ·exact Nat.le_refl _
   ·exact put_mono _ _
  split
  ·exact Nat.le_trans hk (par_mo h1 _)
  ·exact Nat.le_trans hk (put_mono _ _)
theorem sos_mo : ∀ (l : List So), Mo (sosWr l)
 | [] => fun s => by unfold sosWr; exact Nat.le_refl _
 | x :: l => fun s => by
  have h1 := So.mo x
  have h2 := sos_mo l
  unfold sosWr
  exact h2.comp h1 s
end
theorem Ob.mo : ∀ (x : Ob), Mo x.wr
 | .mk x down => fun s => by
  have h := Ex.mo x 1
  cases down
  ·exact h s
  ·exact h.put [[100, 101, 115, 99]] s
end Go.Proofs.YtegkbagnbnoopaaGreatDoor
/- the checker of print, plainly: what it has noted stays noted -/
namespace Go.Proofs.YtegkbagnbnoopaaGreatDoor
/-- t comes after s: no flag goes out, no node is lost, as deep as before -/
structure Up (s t : Ck) : Prop where
 dp : t.dp = false → s.dp = false
 ml : t.ml = false → s.ml = false
 ms : t.ms = false → s.ms = false
 iv : t.iv = false → s.iv = false
 nd : s.nd ≤ t.nd
 op : t.op = s.op
theorem Up.refl (s : Ck) : Up s s := ⟨id, id, id, id, Int.le_refl _, rfl⟩
theorem Up.trans {a b c : Ck} (h : Up a b) (k : Up b c) : Up a c := ⟨fun x => h.dp (k.dp x), fun x => h.ml (k.ml x), fun x => h.ms (k.ms x), fun x => h.iv (k.iv x), Int.le_trans h.nd k.nd, k.op.trans h.op⟩
theorem Up.req {s t : Ck} (h : Up s t) (b : Bool) : Up s (t.req b) := h.trans ⟨id, fun x => (Bool.or_eq_false_iff.1 x).1, id, id, Int.le_refl _, rfl⟩
theorem Up.nam {s t : Ck} (h : Up s t) (l : List Int) : Up s (t.nam l) := h.trans ⟨id, id, fun x => (Bool.or_eq_false_iff.1 x).1, id, Int.le_refl _, rfl⟩
theorem Up.inv {s t : Ck} (h : Up s t) (b : Bool) : Up s (t.inv b) := h.trans ⟨id, id, id, fun x => (Bool.or_eq_false_iff.1 x).1, Int.le_refl _, rfl⟩
theorem Up.opt {s t : Ck} (h : Up s t) (l : List Int) : Up s (t.opt l) := by
 unfold Ck.opt; split
 ·exact h
 ·exact h.nam l
theorem Up.more {s t : Ck} (h : Up s t) : Up s t.more := h.trans ⟨id, id, id, id, by show t.nd ≤ t.nd + 1; omega, rfl⟩
theorem Up.leave {s t : Ck} (h : Up s.enter t) : Up s t.leave := ⟨fun x => (Bool.or_eq_false_iff.1 (h.dp x)).1, h.ml, h.ms, h.iv, by have := h.nd; have e : s.enter.nd = s.nd + 1 := rfl; show s.nd ≤ t.nd; omega, by have := h.op; have e : s.enter.op = s.op + 1 := rfl; show t.op - 1 = s.op; omega⟩
mutual
theorem Ex.up : ∀ (x : Ex) (s : Ck), Up s (x.ck s)
 | .mk op tb nm v args qs, s => by
  have ha := exs_up args
  have hq := qus_up qs
  unfold Ex.ck
  refine Up.leave ?_
  split
  ·exact Up.refl _
  ·refine Up.trans ?_ (Up.trans (ha _) (hq _))
   split
   ·exact ((Up.refl _).req _).inv _
   ·split
    ·exact (((Up.refl _).req _).opt _).nam _
    ·exact (Up.refl _).req _
theorem exs_up : ∀ (l : List Ex) (s : Ck), Up s (exsCk l s)
 | [], s => by unfold exsCk; exact Up.refl _
 | x :: l, s => by
  unfold exsCk
  exact (Ex.up x s).trans (exs_up l _)
theorem Qu.up : ∀ (x : Qu) (s : Ck), Up s (x.ck s)
 | .mk op parts sel ord lim n, s => by
  have hp := qus_up parts
  have hs := Se.up sel
  have ho := obs_up ord
  unfold Qu.ck
  refine Up.leave ?_
  split
  ·exact Up.refl _
  ·exact Up.trans (((Up.refl _).req _).req _) ((hp _).trans ((hs _).trans (ho _)))
theorem qus_up : ∀ (l : List Qu) (s : Ck), Up s (qusCk l s)
 | [], s => by unfold qusCk; exact Up.refl _
 | x :: l, s => by
  unfold qusCk
  exact ((Up.refl s).req _).trans ((Qu.up x _).trans (qus_up l _))
theorem Se.up : ∀ (x : Se) (s : Ck), Up s (x.ck s)
 | .mk _ items fro wh gr hv, s => by
  have h1 := its_up items
  have h2 := sos_up fro
  have h3 := exs_up wh
  have h4 := exs_up gr
  have h5 := exs_up hv
  unfold Se.ck
  exact Up.trans (((((((h1 s).trans (h2 true _)).req _).trans (h3 _)).trans (h4 _)).req _)) (h5 _)
theorem It.up : ∀ (x : It) (s : Ck), Up s (x.ck s)
 | .mk star x nm, s => by
  have h := Ex.up x
  unfold It.ck
  split
  ·exact (((Up.refl s).more).opt nm).req _
  ·exact ((((Up.refl s).more).opt nm).req _).trans (h _)
theorem its_up : ∀ (l : List It) (s : Ck), Up s (itsCk l s)
 | [], s => by unfold itsCk; exact Up.refl _
 | x :: l, s => by
  unfold itsCk
  exact (It.up x s).trans (its_up l _)
theorem So.up : ∀ (x : So) (s : Ck), Up s (x.ck s)
 | .mk _ tb q al on, s => by
  have h1 := qus_up q
  have h2 := exs_up on
  unfold So.ck
  refine Up.trans (Up.trans (Up.opt ?_ al) (h1 _)) (h2 _)
  split
  ·exact (Up.refl s).more.nam tb
  ·exact (Up.refl s).more.req _
theorem sos_up : ∀ (l : List So) (f : Bool) (s : Ck), Up s (sosCk f l s)
 | [], f, s => by unfold sosCk; exact Up.refl _
 | x :: l, f, s => by
  unfold sosCk
  exact ((Up.refl s).req _).trans ((So.up x _).trans (sos_up l false _))
theorem Ob.up : ∀ (x : Ob) (s : Ck), Up s (x.ck s)
 | .mk x _, s => by
  have h := Ex.up x
  unfold Ob.ck
  exact (Up.refl s).more.trans (h _)
theorem obs_up : ∀ (l : List Ob) (s : Ck), Up s (obsCk l s)
 | [], s => by unfold obsCk; exact Up.refl _
 | x :: l, s => by
  unfold obsCk
  exact (Ob.up x s).trans (obs_up l _)
end
theorem first_zero {s : Ck} (h : s.first = 0) : s.dp = false ∧ s.nd ≤ 512 ∧ s.ml = false ∧ s.ms = false ∧ s.iv = false := by
 unfold Ck.first at h
 rcases hd : s.dp <;> rcases hm : s.ml <;> rcases hs : s.ms <;> rcases hi : s.iv <;> by_cases hn : 512 < s.nd <;> simp_all
end Go.Proofs.YtegkbagnbnoopaaGreatDoor
/- what a tree is like that the checker of print finds nothing wrong with -/
namespace Go.Proofs.YtegkbagnbnoopaaGreatDoor
def Okk (t : Ck) : Prop := t.dp = false ∧ t.ml = false ∧ t.ms = false ∧ t.iv = false
theorem Up.ok {s t : Ck} (h : Up s t) (k : Okk t) : Okk s := ⟨h.dp k.1, h.ml k.2.1, h.ms k.2.2.1, h.iv k.2.2.2⟩
theorem ok_of_first {s : Ck} (h : s.first = 0) : Okk s := ⟨(first_zero h).1, (first_zero h).2.2.1, (first_zero h).2.2.2.1, (first_zero h).2.2.2.2⟩
theorem ok_req {s : Ck} {b : Bool} (h : Okk (s.req b)) : Okk s ∧ b = true := ⟨((Up.refl s).req b).ok h, by have := (Bool.or_eq_false_iff.1 h.2.1).2; simpa using this⟩
theorem ok_inv {s : Ck} {b : Bool} (h : Okk (s.inv b)) : Okk s ∧ b = true := ⟨((Up.refl s).inv b).ok h, by have := (Bool.or_eq_false_iff.1 h.2.2.2).2; simpa using this⟩
theorem ok_nam {s : Ck} {l : List Int} (h : Okk (s.nam l)) : Okk s ∧ isName l = true := ⟨((Up.refl s).nam l).ok h, by have := (Bool.or_eq_false_iff.1 h.2.2.1).2; simpa using this⟩
theorem ok_opt {s : Ck} {l : List Int} (h : Okk (s.opt l)) : Okk s ∧ (l = [] ∨ isName l = true) := ⟨((Up.refl s).opt l).ok h, by
 unfold Ck.opt at h
 split at h
 ·exact .inl (by assumption)
 ·exact .inr (ok_nam h).2⟩
theorem ok_in {s t : Ck} (h : Okk (if s.enter.dp = true then s.enter else t).leave) : Okk t := by
  have h' : Okk (if s.enter.dp = true then s.enter else t) := h
  split at h'
  · rename_i hd
    have := h'.1
    rw [hd] at this; cases this
  · exact h'
def Ex.Good (x : Ex) : Prop := ∃ s, Okk (x.ck s)
def Qu.Good (x : Qu) : Prop := ∃ s, Okk (x.ck s)
def Qu.In (x : Qu) : Prop := x.Good ∧ x.ord = [] ∧ x.lim = false
def It.Good (x : It) : Prop := ∃ s, Okk (x.ck s)
def So.Good (x : So) : Prop := ∃ s, Okk (x.ck s)
def Ob.Good (x : Ob) : Prop := ∃ s, Okk (x.ck s)
def Se.Good (x : Se) : Prop := ∃ s, Okk (x.ck s)
theorem exs_good : ∀ (l : List Ex) (s : Ck), Okk (exsCk l s) → ∀ y ∈ l, y.Good
 | [], _, _, y, hy => by cases hy
 | x :: l, s, h, y, hy => by
  unfold exsCk at h
  rcases List.mem_cons.1 hy with e | e
  ·subst e; exact ⟨s, (exs_up l _).ok h⟩
  ·exact exs_good l _ h y e
theorem qus_good : ∀ (l : List Qu) (s : Ck), Okk (qusCk l s) → ∀ y ∈ l, y.In
 | [], _, _, y, hy => by cases hy
 | x :: l, s, h, y, hy => by
  unfold qusCk at h
  rcases List.mem_cons.1 hy with e | e
  ·subst e
   have h1 := (qus_up l _).ok h
   have h2 := (ok_req ((Qu.up y _).ok h1)).2
   simp at h2
   exact ⟨⟨_, h1⟩, h2.1, h2.2⟩
  ·exact qus_good l _ h y e
theorem its_good : ∀ (l : List It) (s : Ck), Okk (itsCk l s) → ∀ y ∈ l, y.Good
 | [], _, _, y, hy => by cases hy
 | x :: l, s, h, y, hy => by
  unfold itsCk at h
  rcases List.mem_cons.1 hy with e | e
  ·subst e; exact ⟨s, (its_up l _).ok h⟩
  ·exact its_good l _ h y e
theorem obs_good : ∀ (l : List Ob) (s : Ck), Okk (obsCk l s) → ∀ y ∈ l, y.Good
 | [], _, _, y, hy => by cases hy
 | x :: l, s, h, y, hy => by
  unfold obsCk at h
  rcases List.mem_cons.1 hy with e | e
  ·subst e; exact ⟨s, (obs_up l _).ok h⟩
  ·exact obs_good l _ h y e
/-- a source in a list: its kind, by its place -/
theorem sos_good : ∀ (l : List So) (f : Bool) (s : Ck), Okk (sosCk f l s) → ∀ y ∈ l, y.Good ∧ (joinsOK true y.kind y.on.length = true ∨ joinsOK false y.kind y.on.length = true)
 | [], _, _, _, y, hy => by cases hy
 | x :: l, f, s, h, y, hy => by
  unfold sosCk at h
  rcases List.mem_cons.1 hy with e | e
  ·subst e
   have h1 := (sos_up l false _).ok h
   have h2 := (ok_req ((So.up y _).ok h1)).2
   refine ⟨⟨_, h1⟩, ?_⟩
   cases f
   ·exact .inr h2
   ·exact .inl h2
  ·exact sos_good l false _ h y e
theorem Ex.good_mk {op : Int} {tb nm : List Int} {v : Val} {args : List Ex} {qs : List Qu} (h : (Ex.mk op tb nm v args qs).Good) : hasF op tb nm v args.length qs.length = true ∧ (∀ y ∈ args, y.Good) ∧ (∀ y ∈ qs, y.In) ∧ (op = 1 → mayV v = true) := by
 obtain ⟨s, h⟩ := h
 unfold Ex.ck at h
 have h := ok_in h
 have hq := qus_good _ _ h
 have h1 := (qus_up qs _).ok h
 have ha := exs_good _ _ h1
 have h2 := (exs_up args _).ok h1
 split at h2
 ·exact ⟨(ok_req (ok_inv h2).1).2, ha, hq, fun _ => (ok_inv h2).2⟩
 ·rename_i hn
  split at h2
  ·exact ⟨(ok_req (ok_opt (ok_nam h2).1).1).2, ha, hq, fun e => absurd e hn⟩
  ·exact ⟨(ok_req h2).2, ha, hq, fun e => absurd e hn⟩
theorem Qu.good_mk {op : Int} {parts : List Qu} {sel : Se} {ord : List Ob} {lim : Bool} {n : Int} (h : (Qu.mk op parts sel ord lim n).Good) : (∀ y ∈ parts, y.In) ∧ sel.Good ∧ (∀ y ∈ ord, y.Good) ∧ (n = 0 ∨ (lim = true ∧ 0 < n)) ∧ ((op = 1 ∧ parts = []) ∨ ((op = 2 ∨ op = 3) ∧ parts.length = 2)) := by
 obtain ⟨s, h⟩ := h
 unfold Qu.ck at h
 have h := ok_in h
 have ho := obs_good _ _ h
 have h1 := (obs_up ord _).ok h
 have h2 := (Se.up sel _).ok h1
 have hp := qus_good _ _ h2
 have h3 := ok_req ((qus_up parts _).ok h2)
 have h4 := (ok_req h3.1).2
 refine ⟨hp, ⟨_, h1⟩, ho, by simpa using h4, ?_⟩
 have h5 := h3.2
 split at h5
 ·rename_i e; simp at h5; exact .inl ⟨e, h5.1⟩
 ·split at h5
  ·rename_i e; simp at h5; exact .inr ⟨e, h5.1⟩
  ·cases h5
theorem Se.good_mk {d : Bool} {items : List It} {fro : List So} {wh gr hv : List Ex} (h : (Se.mk d items fro wh gr hv).Good) : (∀ y ∈ items, y.Good) ∧ (∀ y ∈ fro, y.Good ∧ (joinsOK true y.kind y.on.length = true ∨ joinsOK false y.kind y.on.length = true)) ∧ (∀ y ∈ wh, y.Good) ∧ (∀ y ∈ gr, y.Good) ∧ (∀ y ∈ hv, y.Good) ∧ wh.length ≤ 1 ∧ hv.length ≤ 1 := by
 obtain ⟨s, h⟩ := h
 unfold Se.ck at h
 have h5 := exs_good _ _ h
 have a := ok_req ((exs_up hv _).ok h)
 have h4 := exs_good _ _ a.1
 have b := (exs_up gr _).ok a.1
 have h3 := exs_good _ _ b
 have c := ok_req ((exs_up wh _).ok b)
 have h2 := sos_good _ _ _ c.1
 have h1 := its_good _ _ ((sos_up fro _ _).ok c.1)
 exact ⟨h1, h2, h3, h4, h5, by simpa using c.2, by simpa using a.2⟩
theorem It.good_mk {star : Bool} {x : Ex} {nm : List Int} (h : (It.mk star x nm).Good) : (star = true ∧ x.isZ = true ∧ nm = []) ∨ (star = false ∧ x.Good) := by
 obtain ⟨s, h⟩ := h
 unfold It.ck at h
 split at h
 ·rename_i e; exact .inl ⟨e.1, e.2, by simpa using (ok_req h).2⟩
 ·refine .inr ⟨by simpa using (ok_req ((Ex.up x _).ok h)).2, _, h⟩
theorem So.good_mk {kind : Int} {tb : List Int} {q : List Qu} {al : List Int} {on : List Ex} (h : (So.mk kind tb q al on).Good) : (∀ y ∈ q, y.In) ∧ (∀ y ∈ on, y.Good) ∧ ((q = [] ∧ tb ≠ []) ∨ (q.length = 1 ∧ tb = [] ∧ al ≠ [])) := by
  obtain ⟨s, h⟩ := h
  unfold So.ck at h
  have h2 := exs_good _ _ h
  have a := (exs_up on _).ok h
  have h1 := qus_good _ _ a
  have b := (ok_opt ((qus_up q _).ok a)).1
  refine ⟨h1, h2, ?_⟩
  split at b
  · rename_i e
    refine .inl ⟨e, fun ht => ?_⟩
    have := (ok_nam b).2
    rw [ht] at this; cases this
  · have := (ok_req b).2
    simp at this
    exact .inr ⟨this.2.1, this.1, this.2.2⟩
theorem Ob.good_mk {x : Ex} {down : Bool} (h : (Ob.mk x down).Good) : x.Good := by
 obtain ⟨s, h⟩ := h
 exact ⟨_, h⟩
end Go.Proofs.YtegkbagnbnoopaaGreatDoor
/- how much the writer of print adds: the parts -/
namespace Go.Proofs.YtegkbagnbnoopaaGreatDoor
/-- f adds at most c bytes -/
def Add (f : Wr → Wr) (c : Nat) : Prop := ∀ s, (f s).tx.length ≤ s.tx.length + c
theorem Add.le {f : Wr → Wr} {c d : Nat} (h : Add f c) (k : c ≤ d) : Add f d := fun s => Nat.le_trans (h s) (by omega)
theorem Add.comp {f g : Wr → Wr} {c d : Nat} (hf : Add f c) (hg : Add g d) : Add (fun s => f (g s)) (d + c) := fun s => by
 have h1 := hf (g s)
 have h2 := hg s
 show (f (g s)).tx.length ≤ _
 omega
theorem put_len : ∀ (ts : List (List Int)) (s : Wr), (s.put ts).tx.length ≤ s.tx.length + ((ts.map List.length).sum + ts.length)
 | [], s => Nat.le_refl _
 | t :: ts, s => by
  have h := put_len ts (s.put1 t)
  have k := (put1_len s t).2
  show ((s.put1 t).put ts).tx.length ≤ _
  simp only [List.map_cons, List.sum_cons, List.length_cons]
  omega
theorem put_add (ts : List (List Int)) : Add (fun s => s.put ts) ((ts.map List.length).sum + ts.length) := put_len ts
theorem Add.put {f : Wr → Wr} {c : Nat} (h : Add f c) (ts : List (List Int)) : Add (fun s => (f s).put ts) (c + ((ts.map List.length).sum + ts.length)) := fun s => by
 have h1 := put_len ts (f s)
 have h2 := h s
 show ((f s).put ts).tx.length ≤ _
 omega
theorem Add.tight {f : Wr → Wr} {c : Nat} (h : Add f c) : Add (fun s => (f s).tight) c := h
theorem par_add {f : Wr → Wr} {c : Nat} (h : Add f c) : Add (Wr.par f) (c + 4) := fun s => by
 have h1 := put_len [[41]] (f (s.put [[40]]))
 have h2 := h (s.put [[40]])
 have h3 := put_len [[40]] s
 unfold Wr.par
 simp at h1 h3 ⊢
 omega
theorem operF_add {op : Int} {v : Val} {f : Wr → Wr} {least : Int} {c : Nat} (h : Add f c) : Add (operF op v f least) (c + 4) := fun s => by
 unfold operF
 split
 ·exact par_add h s
 ·have := h s; omega
theorem unitF_add {p : Int × (Wr → Wr)} {c : Nat} (h : Add p.2 c) : Add (unitF p) (c + 4) := fun s => by
 unfold unitF; split
 ·have := h s; omega
 ·exact par_add h s
theorem asF_add (nm : List Int) : Add (asF nm) (nm.length + 4) := fun s => by
 unfold asF; split
 ·omega
 ·have := put_len [[97, 115], nm] s; simp at this; omega
theorem refF_add (tb nm : List Int) : Add (refF tb nm) (tb.length + nm.length + 4) := fun s => by
 unfold refF; split
 ·have := put_len [nm] s; simp at this; omega
 ·have h1 := put_len [nm] (s.put [tb, [46]])
  have h2 := put_len [tb, [46]] s
  simp at h1 h2; omega
/-- a list's elements, each with a comma at most -/
theorem listF_add : ∀ (l : List (Wr → Wr)) (cs : List Nat) (b : Bool), l.length = cs.length → (∀ (k : Nat) (f : Wr → Wr) (c : Nat), l[k]? = some f → cs[k]? = some c → Add f c) → Add (listF b l) (cs.sum + 2 * cs.length)
 | [], [], _, _, _, s => by unfold listF; simp
 | [], _ :: _, _, h, _, _ => by cases h
 | _ :: _, [], _, h, _, _ => by cases h
 | f :: l, c :: cs, b, h, H, s => by
  have h0 := H 0 f c rfl rfl (if b = true then s else s.put [[44]])
  have ih := listF_add l cs false (by simpa using h) (fun k g d h1 h2 => H (k + 1) g d h1 h2) (f (if b = true then s else s.put [[44]]))
  have hk : (if b = true then s else s.put [[44]]).tx.length ≤ s.tx.length + 2 := by
   split
   ·omega
   ·have := put_len [[44]] s; simp at this; omega
  unfold listF
  simp only [List.sum_cons, List.length_cons]
  omega
theorem clauseF_add {kw : List Int} {l : List (Wr → Wr)} {c : Nat} (h : Add (listF true l) c) : Add (clauseF kw l) (kw.length + 1 + c) := fun s => by
 unfold clauseF
 split
 ·omega
 ·have h1 := h (s.put [kw])
  have h2 := put_len [kw] s
  simp at h2; omega
end Go.Proofs.YtegkbagnbnoopaaGreatDoor
/- how much the writer of print adds: a value -/
namespace Go.Proofs.YtegkbagnbnoopaaGreatDoor
theorem replaceK_len (old new : List UInt8) : ∀ (k : Nat) (s : List UInt8), (Lib.replaceK old new k s).length ≤ s.length + k * new.length
 | 0, s => by unfold Lib.replaceK; omega
 | k + 1, s => by
  have h := replaceK_len old new k (s.drop ((Lib.index s old).toNat + old.length))
  have hm : (k + 1) * new.length = k * new.length + new.length := Nat.succ_mul k new.length
  unfold Lib.replaceK
  split
  ·omega
  ·simp only [List.length_append, List.length_take, List.length_drop] at h ⊢
   omega
theorem replaceAll_len (s : List UInt8) : (Lib.replaceAll s [39] [39, 39]).length ≤ 3 * s.length + 2 := by
 have h := Lib.count_le s [39]
 unfold Lib.replaceAll Lib.replace
 split
 ·omega
 ·have k := replaceK_len [39] [39, 39] (Lib.replaceNum s [39] (-1)) s
  have e : Lib.replaceNum s [39] (-1) = Lib.count s [39] := by unfold Lib.replaceNum; rw [if_pos (by omega)]
  rw [e] at k ⊢
  simp only [List.length_cons, List.length_nil] at k
  omega
theorem byI_len (l : List UInt8) : (byI l).length = l.length := List.length_map ..
theorem valF_add (v : Val) (h0 : -9223372036854775808 ≤ v.n) (h1 : v.n ≤ 9223372036854775807) : Add (valF v) (3 * v.s.length + 26) := fun s => by
 have hi := Lib.itoa_length_le v.n h0 h1
 have hr := replaceAll_len (v.s.map (fun c => UInt8.ofNat c.toNat))
 rw [List.length_map] at hr
 unfold valF
 split
 ·have := put_len [byI (Lib.itoa v.n)] s
  simp [byI_len] at this; omega
 split
 ·have := put_len [39 :: (byI (Lib.replaceAll (v.s.map (fun c => UInt8.ofNat c.toNat)) [39] [39, 39]) ++ [39])] s
  simp [byI_len] at this; omega
 split
 ·have := put_len [if v.n = 1 then [116, 114, 117, 101] else [102, 97, 108, 115, 101]] s
  have e : (if v.n = 1 then [116, 114, 117, 101] else [102, 97, 108, 115, 101] : List Int).length ≤ 5 := by split <;> decide
  simp only [List.map_cons, List.map_nil, List.sum_cons, List.sum_nil, List.length_cons, List.length_nil] at this
  omega
 ·have := put_len [[110, 117, 108, 108]] s
  simp at this; omega
end Go.Proofs.YtegkbagnbnoopaaGreatDoor
/- how much the writer of print adds: an expression's operation -/
namespace Go.Proofs.YtegkbagnbnoopaaGreatDoor
theorem opT_len (op : Int) : (opT op).length ≤ 31 := by
 have H : ∀ p ∈ opsL, p.1.length ≤ 31 := by decide
 unfold opT
 rw [List.getD_eq_getElem?_getD]
 rcases hk : opsL[op.toNat]? with _ | p
 ·exact Nat.zero_le _
 ·exact H p (List.mem_of_getElem? hk)
/-- the first two arguments and the first query of an expression -/
theorem opF_add {op : Int} {tb nm : List Int} {v : Val} {ar : List (Int → Wr → Wr)} {qs : List (Int × (Wr → Wr))} {a0 a1 q0 : Nat} (hv : Add (valF v) (3 * v.s.length + 26)) (h0 : ∀ le, Add (argF ar 0 le) a0) (h1 : ∀ le, Add (argF ar 1 le) a1) (hq : Add (quF qs 0).2 q0) : Add (opF op tb nm v ar qs) (3 * v.s.length + tb.length + nm.length + a0 + a1 + q0 + 64) := fun s => by
  have ht := opT_len op
  have hs : ∀ t : Wr, (t.put [opT op]).tx.length ≤ t.tx.length + 32 := fun t => by have := put_len [opT op] t; simp at this; omega
  have hg : ∀ t : Wr, t.tight.tx.length = t.tx.length := fun _ => rfl
  unfold opF
  split
  · have := hv s; omega
  split
  · have := refF_add tb nm s; omega
  split
  · have := h0 7 (s.put [opT op]).tight; have := hs s; have := hg (s.put [opT op]); omega
  split
  · have := h0 3 (s.put [opT op]); have := hs s; omega
  split
  · have := hs (argF ar 0 5 s); have := h0 5 s; omega
  split
  · have := par_add (put_add [[42]]) (s.put [opT op]).tight; have := hs s; have := hg (s.put [opT op]); have e : (([[42]] : List (List Int)).map List.length).sum + ([[42]] : List (List Int)).length = 2 := rfl; omega
  split
  · have := par_add (h0 1) (s.put [opT op]).tight; have := hs s; have := hg (s.put [opT op]); omega
  split
  · have := par_add hq (s.put [opT op]); have := hs s; omega
  split
  · have := par_add hq ((argF ar 0 5 s).put [opT op]); have := hs (argF ar 0 5 s); have := h0 5 s; omega
  · have := h1 (opL op + 1) ((argF ar 0 (if opL op = 4 then 5 else opL op) s).put [opT op])
    have := hs (argF ar 0 (if opL op = 4 then 5 else opL op) s)
    have := h0 (if opL op = 4 then 5 else opL op) s
    omega
end Go.Proofs.YtegkbagnbnoopaaGreatDoor
/- the sizes of the parts of a tree -/
namespace Go.Proofs.YtegkbagnbnoopaaGreatDoor
theorem ex_size (op : Int) (tb nm : List Int) (v : Val) (args : List Ex) (qs : List Qu) : Da.sizeR (Ex.mk op tb nm v args qs).da = 8 + tb.length + nm.length + v.s.length + Da.sizeK (exsDa args) + Da.sizeK (qusDa qs) := by
 unfold Ex.da
 simp only [Da.sizeR, Da.size, dI, dS, str_len]
 omega
theorem se_size (d : Bool) (items : List It) (fro : List So) (wh gr hv : List Ex) : Da.sizeR (Se.mk d items fro wh gr hv).da = 6 + Da.sizeK (itsDa items) + Da.sizeK (sosDa fro) + Da.sizeK (exsDa wh) + Da.sizeK (exsDa gr) + Da.sizeK (exsDa hv) := by
 unfold Se.da
 simp only [Da.sizeR, Da.size, dB]
 omega
theorem qu_size (op : Int) (parts : List Qu) (sel : Se) (ord : List Ob) (lim : Bool) (n : Int) : Da.sizeR (Qu.mk op parts sel ord lim n).da = 5 + Da.sizeK (qusDa parts) + Da.sizeR sel.da + Da.sizeK (obsDa ord) := by
 unfold Qu.da
 simp only [Da.sizeR, Da.size, dB, dI, sizeR_app]
 omega
theorem it_size (star : Bool) (x : Ex) (nm : List Int) : Da.sizeR (It.mk star x nm).da = 2 + Da.sizeR x.da + nm.length := by
 unfold It.da
 simp only [Da.sizeR, Da.size, dB, dS, str_len, sizeR_app]
 omega
theorem so_size (kind : Int) (tb : List Int) (q : List Qu) (al : List Int) (on : List Ex) : Da.sizeR (So.mk kind tb q al on).da = 5 + tb.length + al.length + Da.sizeK (qusDa q) + Da.sizeK (exsDa on) := by
 unfold So.da
 simp only [Da.sizeR, Da.size, dI, dS, str_len]
 omega
theorem ob_size (x : Ex) (down : Bool) : Da.sizeR (Ob.mk x down).da = 1 + Da.sizeR x.da := by
 unfold Ob.da
 simp only [Da.sizeR, Da.size, dB, sizeR_app]
 omega
end Go.Proofs.YtegkbagnbnoopaaGreatDoor
/- the text's bound, by a tree's size -/
namespace Go.Proofs.YtegkbagnbnoopaaGreatDoor
/-- the bounds of a list's elements, each with room for its comma -/
theorem list_add {α : Type} {l : List α} {F : α → Wr → Wr} {S : α → Nat} (b : Bool) (h : ∀ y ∈ l, Add (F y) (64 * S y - 2) ∧ 1 ≤ S y) : Add (listF b (l.map F)) (64 * (l.map S).sum) := by
  have H := listF_add (l.map F) (l.map (fun y => 64 * S y - 2)) b (by simp) (fun k f c h1 h2 => by
    rw [List.getElem?_map] at h1 h2
    rcases hy : l[k]? with _ | y
    · rw [hy] at h1; cases h1
    · rw [hy] at h1 h2
      injection h1 with h1; injection h2 with h2
      subst h1; subst h2
      exact (h y (List.mem_of_getElem? hy)).1)
  refine H.le ?_
  clear H
  induction l with
  | nil => simp
  | cons y l ih =>
    have := ih (fun z hz => h z (List.mem_cons_of_mem _ hz))
    have := (h y List.mem_cons_self).2
    simp only [List.map_cons, List.sum_cons, List.length_cons, List.length_map] at *
    omega
theorem exsDa_sum : ∀ l : List Ex, Da.sizeK (exsDa l) = (l.map (fun x => Da.sizeR x.da)).sum
 | [] => by unfold exsDa; rfl
 | x :: l => by unfold exsDa; simp only [Da.sizeK, List.map_cons, List.sum_cons, exsDa_sum l]
theorem itsDa_sum : ∀ l : List It, Da.sizeK (itsDa l) = (l.map (fun x => Da.sizeR x.da)).sum
 | [] => by unfold itsDa; rfl
 | x :: l => by unfold itsDa; simp only [Da.sizeK, List.map_cons, List.sum_cons, itsDa_sum l]
theorem obsDa_sum : ∀ l : List Ob, Da.sizeK (obsDa l) = (l.map (fun x => Da.sizeR x.da)).sum
 | [] => by unfold obsDa; rfl
 | x :: l => by unfold obsDa; simp only [Da.sizeK, List.map_cons, List.sum_cons, obsDa_sum l]
end Go.Proofs.YtegkbagnbnoopaaGreatDoor
/- the text's bound -/
namespace Go.Proofs.YtegkbagnbnoopaaGreatDoor
theorem two_args {l : List Ex} (h : ∀ y ∈ l, ∀ le, Add (y.wr le) (64 * Da.sizeR y.da - 4)) : ∃ a0 a1, (∀ le, Add (argF (exsWr l) 0 le) a0) ∧ (∀ le, Add (argF (exsWr l) 1 le) a1) ∧ a0 + a1 ≤ 64 * Da.sizeK (exsDa l) := by
 rcases l with _ | ⟨x, _ | ⟨y, l⟩⟩
 ·exact ⟨0, 0, fun le s => by unfold exsWr; exact Nat.le_refl _, fun le s => by unfold exsWr; exact Nat.le_refl _, by omega⟩
 ·refine ⟨_, 0, fun le => by unfold exsWr; exact h x (by simp) le, fun le s => by unfold exsWr exsWr; exact Nat.le_refl _, ?_⟩
  unfold exsDa; simp only [Da.sizeK]; omega
 ·refine ⟨_, _, fun le => by unfold exsWr; exact h x (by simp) le, fun le => by unfold exsWr exsWr; exact h y (by simp) le, ?_⟩
  unfold exsDa exsDa; simp only [Da.sizeK]; omega
theorem two_qs {l : List Qu} (h : ∀ y ∈ l, Add y.bd (64 * Da.sizeR y.da - 4)) : ∃ a0 a1, Add (quF (qusWr l) 0).2 a0 ∧ Add (quF (qusWr l) 1).2 a1 ∧ a0 + a1 ≤ 64 * Da.sizeK (qusDa l) := by
 rcases l with _ | ⟨x, _ | ⟨y, l⟩⟩
 ·exact ⟨0, 0, fun s => by unfold qusWr; exact Nat.le_refl _, fun s => by unfold qusWr; exact Nat.le_refl _, by omega⟩
 ·refine ⟨_, 0, by unfold qusWr; exact h x (by simp), fun s => by unfold qusWr qusWr; exact Nat.le_refl _, ?_⟩
  unfold qusDa; simp only [Da.sizeK]; omega
 ·refine ⟨_, _, by unfold qusWr; exact h x (by simp), by unfold qusWr qusWr; exact h y (by simp), ?_⟩
  unfold qusDa qusDa; simp only [Da.sizeK]; omega
theorem ex_pos (x : Ex) : 8 ≤ Da.sizeR x.da := by
 obtain ⟨op, tb, nm, v, args, qs⟩ := x
 rw [ex_size]; omega
theorem ones_add {l : List Ex} {kw : List Int} (h : ∀ y ∈ l, ∀ le, Add (y.wr le) (64 * Da.sizeR y.da - 4)) : Add (clauseF kw ((exsWr l).map (fun f => f 1))) (kw.length + 1 + 64 * Da.sizeK (exsDa l)) := by
 rw [exsWr_map, List.map_map, exsDa_sum]
 exact clauseF_add (list_add (F := fun y => y.wr 1) (S := fun y => Da.sizeR y.da) true (fun y hy => ⟨(h y hy 1).le (by omega), by have := ex_pos y; omega⟩))
end Go.Proofs.YtegkbagnbnoopaaGreatDoor
