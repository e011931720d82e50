/- the writer of print: list, over expressions, items, orders -/
import Derived.Test.YtegkbagnbnoopaaGreatDoorPs11
import Derived.Test.YtegkbagnbnoopaaGreatDoorPs12
namespace Go.Proofs.YtegkbagnbnoopaaGreatDoor
open Go.ChangeShapes Go.WideShapes Go.ChangeAt Go.RowKit Go.Deep
open Go.Lib (hid)
set_option maxRecDepth 100000 in
set_option maxHeartbeats 6400000 in
theorem list_ex (G : Ex → Wr → Wr) (q : FuncId) (hq : ∀ args u, (callFunc q args).run Tryz.prog u = .ok (.enter q args) u) {w0 w : World} {A H B : Nat} {g : Option Nat} {s : Wr} {l : List Ex} {v : Value} (hA : w0.heap.size ≤ A) (hw : Below w0.heap.size w0 w) (hc : WrC w A H B g s) (hv : DIs w0 v (.sl (exsDa l))) (hn : l.length ≤ 1073741823)
  (hE : ∀ x ∈ l, ∀ a, ExV w0 a x → W1 w0 q a (G x)) (hM : ∀ x ∈ l, Mo (G x)) (hl : (listF true (l.map G) s).tx.length ≤ 1099511627775) :
  Calls Tryz.prog 85 #[.pointer (some ⟨H, 0, none⟩), v, .func (.func q) #[.pointer (some ⟨H, 0, none⟩)] #[]] w (WrE w A H B g (listF true (l.map G) s)) := by
 obtain ⟨a1, c1, rfl, hc1, hcell1⟩ := exs_rows hv
 have HC1 := hid hcell1
 have HE := hid hE
 have HG := hid hq
 have HW := hid hw
 have HCK := hid hc
 have HMO := hid (show ∀ f ∈ l.map G, Mo f from fun f hf => by obtain ⟨x, hx, rfl⟩ := List.mem_map.1 hf; exact hM x hx)
 have HL := hid hl
 generalize hm : l.length = n at *
 have HN := hid hm
 have hs0 := hw.size
 clear hcell1 hm hv hE hq hw hc hM hl
 go_enter Tryz.func85, Tryz.ntmps85
 go_wp2_with fail
 go_loopw [10] (fun i wr => ∃ k : Nat, k ≤ n ∧ i = .int .i64 k ∧ ∃ gk, Hid (WrC wr A H B gk (listF true ((l.map G).take k) s)) ∧ Hid (WK H B w g wr gk)) (fun i _ => n - (intOf i).toNat)
 case atStart => exact ⟨0, Nat.zero_le _, rfl, g, hid HCK.out, hid (WK.refl H B w g)⟩
 case round =>
  obtain ⟨k, hk1, rfl, gk, HS, HK⟩ := hrel
  have HBW := hid (HK.out.low HCK.out hA HW.out)
  have hsz := HBW.out.size
  by_cases hlt1 : k < n
  ·obtain ⟨b1, o1, rfl, hb1, hd1⟩ := HC1.out (by omega)
   obtain ⟨x, hx⟩ : ∃ x, l[k]? = some x := ⟨_, List.getElem?_eq_getElem (by rw [HN.out]; exact hlt1)⟩
   obtain ⟨s0, s1, p0, p1, p2, p3, p4, p5, p6, p7, h0, h1⟩ := hd1 k x hx
   replace p0 := (HBW.out.cell (p := ⟨b1, o1 + k * 8, none⟩) hb1).trans p0
   replace p1 := (HBW.out.cell (p := ⟨b1, o1 + k * 8 + 1, none⟩) hb1).trans p1
   replace p2 := (HBW.out.cell (p := ⟨b1, o1 + k * 8 + 2, none⟩) hb1).trans p2
   replace p3 := (HBW.out.cell (p := ⟨b1, o1 + k * 8 + 3, none⟩) hb1).trans p3
   replace p4 := (HBW.out.cell (p := ⟨b1, o1 + k * 8 + 4, none⟩) hb1).trans p4
   replace p5 := (HBW.out.cell (p := ⟨b1, o1 + k * 8 + 5, none⟩) hb1).trans p5
   replace p6 := (HBW.out.cell (p := ⟨b1, o1 + k * 8 + 6, none⟩) hb1).trans p6
   replace p7 := (HBW.out.cell (p := ⟨b1, o1 + k * 8 + 7, none⟩) hb1).trans p7
   obtain ⟨e0, m0, z0, rfl⟩ := dis_slice h0
   obtain ⟨e1, m1, z1, rfl⟩ := dis_slice h1
   have hgx : (l.map G)[k]? = some (G x) := by rw [List.getElem?_map, hx]; rfl
   have HEL := hid (HE.out x (List.mem_of_getElem? hx) (.agg #[.int .i64 x.op, .string (str x.tb), .string (str x.nm), .int .i64 x.v.k, .int .i64 x.v.n, .string (str x.v.s), .slice e0 m0 z0, .slice e1 m1 z1]) ⟨_, _, rfl, h0, h1⟩)
   have HSN := hid (listF_snoc (l.map G) k (G x) true s hgx)
   have HPT := hid (listF_part (l.map G) (k + 1) true s HMO.out)
   have hmx := HMO.out (G x) (List.mem_of_getElem? hgx)
   have hb1r : b1 < wr.heap.size := by omega
   clear hd1 hx hgx h0 h1
   by_cases hk0 : k = 0
   ·have d0 : decide (0 < k) = false := decide_eq_false (by omega)
    have HSM := hid (HSN.out.trans (show _ = G x (listF true ((l.map G).take k) s) by rw [decide_eq_true hk0]; rfl))
    have HCA := hid (fun (o1 : Obj) => HEL.out A H B gk _ (wr.alloc o1) hA (HBW.out.alloc HBW.out.size _) (HS.out.alloc _) (by have h1 := HPT.out; have h2 := HL.out; rw [HSM.out] at h1; omega))
    clear HEL HSN HPT hmx hk0
    go_wp2_with fail
    rw [HG.out, Oper.upon_enter]
    refine (HCA.out _).mono ?_
    rintro e w1 ⟨rfl, g1, hc1, hk⟩
    have HS1 := hid hc1
    have HK1 := hid ((HK.out.alloc (.cells #[.int .i64 x.op, .string (str x.tb), .string (str x.nm), .int .i64 x.v.k, .int .i64 x.v.n, .string (str x.v.s), .slice e0 m0 z0, .slice e1 m1 z1] 40)).trans hk)
    clear hc1 hk HCA
    go_wp2_with fail
    go_roundw
    case rel => exact ⟨k + 1, by omega, by go_num, g1, hid (by rw [HSM.out]; exact HS1.out), HK1⟩
    case measure => simp [intOf]; omega
   ·have d0 : decide (0 < k) = true := decide_eq_true (by omega)
    have HSM := hid (HSN.out.trans (show _ = G x ((listF true ((l.map G).take k) s).put [[44]]) by rw [decide_eq_false hk0]; rfl))
    have hbd : (G x ((listF true ((l.map G).take k) s).put [[44]])).tx.length ≤ 1099511627775 := by have h1 := HPT.out; have h2 := HL.out; rw [HSM.out] at h1; omega
    have hbp := hmx ((listF true ((l.map G).take k) s).put [[44]])
    have HPU := hid (fun (o1 : Obj) => put_oneB (wr.heap.size + 1) (by simp) [44] ⟨#[44]⟩ rfl (HS.out.alloc o1) (rngB rfl) (by omega))
    have HXB := hid (new_els HS.out (.cells #[.int .i64 x.op, .string (str x.tb), .string (str x.nm), .int .i64 x.v.k, .int .i64 x.v.n, .string (str x.v.s), .slice e0 m0 z0, .slice e1 m1 z1] 40))
    have HCA := hid (fun (g1 : Option Nat) (u : World) (h : WrC u A H B g1 ((listF true ((l.map G).take k) s).put [[44]])) (hu : Below w0.heap.size w0 u) => HEL.out A H B g1 _ u hA hu h hbd)
    have HSL := hid (fun (o1 : Obj) => HS.out.alloc o1)
    clear HEL HSN HPT hmx hk0 hbd hbp
    go_wp2_with (go_at_call 47; refine (HPU.out _).mono ?_; clear HPU; rintro e w1 ⟨rfl, g1, hc1, hk⟩; have HX1 := hid (HXB.out.keep hk); have HS1 := hid hc1; have HB1 := hid (hk.low (HSL.out _) hA (HBW.out.alloc HBW.out.size _)); have HK1 := hid ((HK.out.alloc _).trans hk); clear hc1 hk; have y0 := cell_at HX1.out.at_ 0 rfl; have y1 := cell_at HX1.out.at_ 1 rfl; have y2 := cell_at HX1.out.at_ 2 rfl; have y3 := cell_at HX1.out.at_ 3 rfl; have y4 := cell_at HX1.out.at_ 4 rfl; have y5 := cell_at HX1.out.at_ 5 rfl; have y6 := cell_at HX1.out.at_ 6 rfl; have y7 := cell_at HX1.out.at_ 7 rfl)
    rw [HG.out, Oper.upon_enter]
    refine (HCA.out g1 w1 HS1.out HB1.out).mono ?_
    rintro e w2 ⟨rfl, g2, hc2, hk⟩
    have HS2 := hid hc2
    have HK2 := hid (HK1.out.trans hk)
    clear hc2 hk HCA
    go_wp2_with fail
    go_roundw
    case rel => exact ⟨k + 1, by omega, by go_num, g2, hid (by rw [HSM.out]; exact HS2.out), HK2⟩
    case measure => simp [intOf]; omega
  ·have hkn : k = n := by omega
   subst hkn
   have hcn : decide ((k : Int) < (k : Int)) = false := decide_eq_false (by omega)
   have HTK := hid (show (l.map G).take k = l.map G from List.take_of_length_le (by rw [List.length_map, HN.out]; omega))
   go_wp2_with fail
   refine bodyPost_ret (results_none rfl _ _ _) rfl ?_
   exact ⟨rfl, gk, by have h := HS.out; rw [HTK.out] at h; exact h, HK.out⟩
set_option maxRecDepth 100000 in
set_option maxHeartbeats 6400000 in
theorem list_it (G : It → Wr → Wr) (q : FuncId) (hq : ∀ args u, (callFunc q args).run Tryz.prog u = .ok (.enter q args) u) {w0 w : World} {A H B : Nat} {g : Option Nat} {s : Wr} {l : List It} {v : Value} (hA : w0.heap.size ≤ A) (hw : Below w0.heap.size w0 w) (hc : WrC w A H B g s) (hv : DIs w0 v (.sl (itsDa l))) (hn : l.length ≤ 1073741823)
  (hE : ∀ x ∈ l, ∀ a, ItV w0 a x → W1 w0 q a (G x)) (hM : ∀ x ∈ l, Mo (G x)) (hl : (listF true (l.map G) s).tx.length ≤ 1099511627775) :
  Calls Tryz.prog 91 #[.pointer (some ⟨H, 0, none⟩), v, .func (.func q) #[.pointer (some ⟨H, 0, none⟩)] #[]] w (WrE w A H B g (listF true (l.map G) s)) := by
 obtain ⟨a1, c1, rfl, hc1, hcell1⟩ := its_rows hv
 have HC1 := hid hcell1
 have HE := hid hE
 have HG := hid hq
 have HW := hid hw
 have HCK := hid hc
 have HMO := hid (show ∀ f ∈ l.map G, Mo f from fun f hf => by obtain ⟨x, hx, rfl⟩ := List.mem_map.1 hf; exact hM x hx)
 have HL := hid hl
 generalize hm : l.length = n at *
 have HN := hid hm
 have hs0 := hw.size
 clear hcell1 hm hv hE hq hw hc hM hl
 go_enter Tryz.func91, Tryz.ntmps91
 go_wp2_with fail
 go_loopw [10] (fun i wr => ∃ k : Nat, k ≤ n ∧ i = .int .i64 k ∧ ∃ gk, Hid (WrC wr A H B gk (listF true ((l.map G).take k) s)) ∧ Hid (WK H B w g wr gk)) (fun i _ => n - (intOf i).toNat)
 case atStart => exact ⟨0, Nat.zero_le _, rfl, g, hid HCK.out, hid (WK.refl H B w g)⟩
 case round =>
  obtain ⟨k, hk1, rfl, gk, HS, HK⟩ := hrel
  have HBW := hid (HK.out.low HCK.out hA HW.out)
  have hsz := HBW.out.size
  by_cases hlt1 : k < n
  ·obtain ⟨b1, o1, rfl, hb1, hd1⟩ := HC1.out (by omega)
   obtain ⟨x, hx⟩ : ∃ x, l[k]? = some x := ⟨_, List.getElem?_eq_getElem (by rw [HN.out]; exact hlt1)⟩
   obtain ⟨s0, s1, p0, p1, p2, p3, p4, p5, p6, p7, p8, p9, h0, h1⟩ := hd1 k x hx
   replace p0 := (HBW.out.cell (p := ⟨b1, o1 + k * 10, none⟩) hb1).trans p0
   replace p1 := (HBW.out.cell (p := ⟨b1, o1 + k * 10 + 1, none⟩) hb1).trans p1
   replace p2 := (HBW.out.cell (p := ⟨b1, o1 + k * 10 + 2, none⟩) hb1).trans p2
   replace p3 := (HBW.out.cell (p := ⟨b1, o1 + k * 10 + 3, none⟩) hb1).trans p3
   replace p4 := (HBW.out.cell (p := ⟨b1, o1 + k * 10 + 4, none⟩) hb1).trans p4
   replace p5 := (HBW.out.cell (p := ⟨b1, o1 + k * 10 + 5, none⟩) hb1).trans p5
   replace p6 := (HBW.out.cell (p := ⟨b1, o1 + k * 10 + 6, none⟩) hb1).trans p6
   replace p7 := (HBW.out.cell (p := ⟨b1, o1 + k * 10 + 7, none⟩) hb1).trans p7
   replace p8 := (HBW.out.cell (p := ⟨b1, o1 + k * 10 + 8, none⟩) hb1).trans p8
   replace p9 := (HBW.out.cell (p := ⟨b1, o1 + k * 10 + 9, none⟩) hb1).trans p9
   obtain ⟨e0, m0, z0, rfl⟩ := dis_slice h0
   obtain ⟨e1, m1, z1, rfl⟩ := dis_slice h1
   have hgx : (l.map G)[k]? = some (G x) := by rw [List.getElem?_map, hx]; rfl
   have HEL := hid (HE.out x (List.mem_of_getElem? hx) (.agg #[.bool x.star, .int .i64 x.x.op, .string (str x.x.tb), .string (str x.x.nm), .int .i64 x.x.v.k, .int .i64 x.x.v.n, .string (str x.x.v.s), .slice e0 m0 z0, .slice e1 m1 z1, .string (str x.nm)]) ⟨_, _, rfl, h0, h1⟩)
   have HSN := hid (listF_snoc (l.map G) k (G x) true s hgx)
   have HPT := hid (listF_part (l.map G) (k + 1) true s HMO.out)
   have hmx := HMO.out (G x) (List.mem_of_getElem? hgx)
   have hb1r : b1 < wr.heap.size := by omega
   clear hd1 hx hgx h0 h1
   by_cases hk0 : k = 0
   ·have d0 : decide (0 < k) = false := decide_eq_false (by omega)
    have HSM := hid (HSN.out.trans (show _ = G x (listF true ((l.map G).take k) s) by rw [decide_eq_true hk0]; rfl))
    have HCA := hid (fun (o1 : Obj) => HEL.out A H B gk _ (wr.alloc o1) hA (HBW.out.alloc HBW.out.size _) (HS.out.alloc _) (by have h1 := HPT.out; have h2 := HL.out; rw [HSM.out] at h1; omega))
    clear HEL HSN HPT hmx hk0
    go_wp2_with fail
    rw [HG.out, Oper.upon_enter]
    refine (HCA.out _).mono ?_
    rintro e w1 ⟨rfl, g1, hc1, hk⟩
    have HS1 := hid hc1
    have HK1 := hid ((HK.out.alloc (.cells #[.bool x.star, .int .i64 x.x.op, .string (str x.x.tb), .string (str x.x.nm), .int .i64 x.x.v.k, .int .i64 x.x.v.n, .string (str x.x.v.s), .slice e0 m0 z0, .slice e1 m1 z1, .string (str x.nm)] 42)).trans hk)
    clear hc1 hk HCA
    go_wp2_with fail
    go_roundw
    case rel => exact ⟨k + 1, by omega, by go_num, g1, hid (by rw [HSM.out]; exact HS1.out), HK1⟩
    case measure => simp [intOf]; omega
   ·have d0 : decide (0 < k) = true := decide_eq_true (by omega)
    have HSM := hid (HSN.out.trans (show _ = G x ((listF true ((l.map G).take k) s).put [[44]]) by rw [decide_eq_false hk0]; rfl))
    have hbd : (G x ((listF true ((l.map G).take k) s).put [[44]])).tx.length ≤ 1099511627775 := by have h1 := HPT.out; have h2 := HL.out; rw [HSM.out] at h1; omega
    have hbp := hmx ((listF true ((l.map G).take k) s).put [[44]])
    have HPU := hid (fun (o1 : Obj) => put_oneB (wr.heap.size + 1) (by simp) [44] ⟨#[44]⟩ rfl (HS.out.alloc o1) (rngB rfl) (by omega))
    have HXB := hid (new_els HS.out (.cells #[.bool x.star, .int .i64 x.x.op, .string (str x.x.tb), .string (str x.x.nm), .int .i64 x.x.v.k, .int .i64 x.x.v.n, .string (str x.x.v.s), .slice e0 m0 z0, .slice e1 m1 z1, .string (str x.nm)] 42))
    have HCA := hid (fun (g1 : Option Nat) (u : World) (h : WrC u A H B g1 ((listF true ((l.map G).take k) s).put [[44]])) (hu : Below w0.heap.size w0 u) => HEL.out A H B g1 _ u hA hu h hbd)
    have HSL := hid (fun (o1 : Obj) => HS.out.alloc o1)
    clear HEL HSN HPT hmx hk0 hbd hbp
    go_wp2_with (go_at_call 47; refine (HPU.out _).mono ?_; clear HPU; rintro e w1 ⟨rfl, g1, hc1, hk⟩; have HX1 := hid (HXB.out.keep hk); have HS1 := hid hc1; have HB1 := hid (hk.low (HSL.out _) hA (HBW.out.alloc HBW.out.size _)); have HK1 := hid ((HK.out.alloc _).trans hk); clear hc1 hk; have y0 := cell_at HX1.out.at_ 0 rfl; have y1 := cell_at HX1.out.at_ 1 rfl; have y2 := cell_at HX1.out.at_ 2 rfl; have y3 := cell_at HX1.out.at_ 3 rfl; have y4 := cell_at HX1.out.at_ 4 rfl; have y5 := cell_at HX1.out.at_ 5 rfl; have y6 := cell_at HX1.out.at_ 6 rfl; have y7 := cell_at HX1.out.at_ 7 rfl; have y8 := cell_at HX1.out.at_ 8 rfl; have y9 := cell_at HX1.out.at_ 9 rfl)
    rw [HG.out, Oper.upon_enter]
    refine (HCA.out g1 w1 HS1.out HB1.out).mono ?_
    rintro e w2 ⟨rfl, g2, hc2, hk⟩
    have HS2 := hid hc2
    have HK2 := hid (HK1.out.trans hk)
    clear hc2 hk HCA
    go_wp2_with fail
    go_roundw
    case rel => exact ⟨k + 1, by omega, by go_num, g2, hid (by rw [HSM.out]; exact HS2.out), HK2⟩
    case measure => simp [intOf]; omega
  ·have hkn : k = n := by omega
   subst hkn
   have hcn : decide ((k : Int) < (k : Int)) = false := decide_eq_false (by omega)
   have HTK := hid (show (l.map G).take k = l.map G from List.take_of_length_le (by rw [List.length_map, HN.out]; omega))
   go_wp2_with fail
   refine bodyPost_ret (results_none rfl _ _ _) rfl ?_
   exact ⟨rfl, gk, by have h := HS.out; rw [HTK.out] at h; exact h, HK.out⟩
set_option maxRecDepth 100000 in
set_option maxHeartbeats 6400000 in
theorem list_ob (G : Ob → Wr → Wr) (q : FuncId) (hq : ∀ args u, (callFunc q args).run Tryz.prog u = .ok (.enter q args) u) {w0 w : World} {A H B : Nat} {g : Option Nat} {s : Wr} {l : List Ob} {v : Value} (hA : w0.heap.size ≤ A) (hw : Below w0.heap.size w0 w) (hc : WrC w A H B g s) (hv : DIs w0 v (.sl (obsDa l))) (hn : l.length ≤ 1073741823)
  (hE : ∀ x ∈ l, ∀ a, ObV w0 a x → W1 w0 q a (G x)) (hM : ∀ x ∈ l, Mo (G x)) (hl : (listF true (l.map G) s).tx.length ≤ 1099511627775) :
  Calls Tryz.prog 48 #[.pointer (some ⟨H, 0, none⟩), v, .func (.func q) #[.pointer (some ⟨H, 0, none⟩)] #[]] w (WrE w A H B g (listF true (l.map G) s)) := by
 obtain ⟨a1, c1, rfl, hc1, hcell1⟩ := obs_rows hv
 have HC1 := hid hcell1
 have HE := hid hE
 have HG := hid hq
 have HW := hid hw
 have HCK := hid hc
 have HMO := hid (show ∀ f ∈ l.map G, Mo f from fun f hf => by obtain ⟨x, hx, rfl⟩ := List.mem_map.1 hf; exact hM x hx)
 have HL := hid hl
 generalize hm : l.length = n at *
 have HN := hid hm
 have hs0 := hw.size
 clear hcell1 hm hv hE hq hw hc hM hl
 go_enter Tryz.func48, Tryz.ntmps48
 go_wp2_with fail
 go_loopw [10] (fun i wr => ∃ k : Nat, k ≤ n ∧ i = .int .i64 k ∧ ∃ gk, Hid (WrC wr A H B gk (listF true ((l.map G).take k) s)) ∧ Hid (WK H B w g wr gk)) (fun i _ => n - (intOf i).toNat)
 case atStart => exact ⟨0, Nat.zero_le _, rfl, g, hid HCK.out, hid (WK.refl H B w g)⟩
 case round =>
  obtain ⟨k, hk1, rfl, gk, HS, HK⟩ := hrel
  have HBW := hid (HK.out.low HCK.out hA HW.out)
  have hsz := HBW.out.size
  by_cases hlt1 : k < n
  ·obtain ⟨b1, o1, rfl, hb1, hd1⟩ := HC1.out (by omega)
   obtain ⟨x, hx⟩ : ∃ x, l[k]? = some x := ⟨_, List.getElem?_eq_getElem (by rw [HN.out]; exact hlt1)⟩
   obtain ⟨s0, s1, p0, p1, p2, p3, p4, p5, p6, p7, p8, h0, h1⟩ := hd1 k x hx
   replace p0 := (HBW.out.cell (p := ⟨b1, o1 + k * 9, none⟩) hb1).trans p0
   replace p1 := (HBW.out.cell (p := ⟨b1, o1 + k * 9 + 1, none⟩) hb1).trans p1
   replace p2 := (HBW.out.cell (p := ⟨b1, o1 + k * 9 + 2, none⟩) hb1).trans p2
   replace p3 := (HBW.out.cell (p := ⟨b1, o1 + k * 9 + 3, none⟩) hb1).trans p3
   replace p4 := (HBW.out.cell (p := ⟨b1, o1 + k * 9 + 4, none⟩) hb1).trans p4
   replace p5 := (HBW.out.cell (p := ⟨b1, o1 + k * 9 + 5, none⟩) hb1).trans p5
   replace p6 := (HBW.out.cell (p := ⟨b1, o1 + k * 9 + 6, none⟩) hb1).trans p6
   replace p7 := (HBW.out.cell (p := ⟨b1, o1 + k * 9 + 7, none⟩) hb1).trans p7
   replace p8 := (HBW.out.cell (p := ⟨b1, o1 + k * 9 + 8, none⟩) hb1).trans p8
   obtain ⟨e0, m0, z0, rfl⟩ := dis_slice h0
   obtain ⟨e1, m1, z1, rfl⟩ := dis_slice h1
   have hgx : (l.map G)[k]? = some (G x) := by rw [List.getElem?_map, hx]; rfl
   have HEL := hid (HE.out x (List.mem_of_getElem? hx) (.agg #[.int .i64 x.x.op, .string (str x.x.tb), .string (str x.x.nm), .int .i64 x.x.v.k, .int .i64 x.x.v.n, .string (str x.x.v.s), .slice e0 m0 z0, .slice e1 m1 z1, .bool x.down]) ⟨_, _, rfl, h0, h1⟩)
   have HSN := hid (listF_snoc (l.map G) k (G x) true s hgx)
   have HPT := hid (listF_part (l.map G) (k + 1) true s HMO.out)
   have hmx := HMO.out (G x) (List.mem_of_getElem? hgx)
   have hb1r : b1 < wr.heap.size := by omega
   clear hd1 hx hgx h0 h1
   by_cases hk0 : k = 0
   ·have d0 : decide (0 < k) = false := decide_eq_false (by omega)
    have HSM := hid (HSN.out.trans (show _ = G x (listF true ((l.map G).take k) s) by rw [decide_eq_true hk0]; rfl))
    have HCA := hid (fun (o1 : Obj) => HEL.out A H B gk _ (wr.alloc o1) hA (HBW.out.alloc HBW.out.size _) (HS.out.alloc _) (by have h1 := HPT.out; have h2 := HL.out; rw [HSM.out] at h1; omega))
    clear HEL HSN HPT hmx hk0
    go_wp2_with fail
    rw [HG.out, Oper.upon_enter]
    refine (HCA.out _).mono ?_
    rintro e w1 ⟨rfl, g1, hc1, hk⟩
    have HS1 := hid hc1
    have HK1 := hid ((HK.out.alloc (.cells #[.int .i64 x.x.op, .string (str x.x.tb), .string (str x.x.nm), .int .i64 x.x.v.k, .int .i64 x.x.v.n, .string (str x.x.v.s), .slice e0 m0 z0, .slice e1 m1 z1, .bool x.down] 58)).trans hk)
    clear hc1 hk HCA
    go_wp2_with fail
    go_roundw
    case rel => exact ⟨k + 1, by omega, by go_num, g1, hid (by rw [HSM.out]; exact HS1.out), HK1⟩
    case measure => simp [intOf]; omega
   ·have d0 : decide (0 < k) = true := decide_eq_true (by omega)
    have HSM := hid (HSN.out.trans (show _ = G x ((listF true ((l.map G).take k) s).put [[44]]) by rw [decide_eq_false hk0]; rfl))
    have hbd : (G x ((listF true ((l.map G).take k) s).put [[44]])).tx.length ≤ 1099511627775 := by have h1 := HPT.out; have h2 := HL.out; rw [HSM.out] at h1; omega
    have hbp := hmx ((listF true ((l.map G).take k) s).put [[44]])
    have HPU := hid (fun (o1 : Obj) => put_oneB (wr.heap.size + 1) (by simp) [44] ⟨#[44]⟩ rfl (HS.out.alloc o1) (rngB rfl) (by omega))
    have HXB := hid (new_els HS.out (.cells #[.int .i64 x.x.op, .string (str x.x.tb), .string (str x.x.nm), .int .i64 x.x.v.k, .int .i64 x.x.v.n, .string (str x.x.v.s), .slice e0 m0 z0, .slice e1 m1 z1, .bool x.down] 58))
    have HCA := hid (fun (g1 : Option Nat) (u : World) (h : WrC u A H B g1 ((listF true ((l.map G).take k) s).put [[44]])) (hu : Below w0.heap.size w0 u) => HEL.out A H B g1 _ u hA hu h hbd)
    have HSL := hid (fun (o1 : Obj) => HS.out.alloc o1)
    clear HEL HSN HPT hmx hk0 hbd hbp
    go_wp2_with (go_at_call 47; refine (HPU.out _).mono ?_; clear HPU; rintro e w1 ⟨rfl, g1, hc1, hk⟩; have HX1 := hid (HXB.out.keep hk); have HS1 := hid hc1; have HB1 := hid (hk.low (HSL.out _) hA (HBW.out.alloc HBW.out.size _)); have HK1 := hid ((HK.out.alloc _).trans hk); clear hc1 hk; have y0 := cell_at HX1.out.at_ 0 rfl; have y1 := cell_at HX1.out.at_ 1 rfl; have y2 := cell_at HX1.out.at_ 2 rfl; have y3 := cell_at HX1.out.at_ 3 rfl; have y4 := cell_at HX1.out.at_ 4 rfl; have y5 := cell_at HX1.out.at_ 5 rfl; have y6 := cell_at HX1.out.at_ 6 rfl; have y7 := cell_at HX1.out.at_ 7 rfl; have y8 := cell_at HX1.out.at_ 8 rfl)
    rw [HG.out, Oper.upon_enter]
    refine (HCA.out g1 w1 HS1.out HB1.out).mono ?_
    rintro e w2 ⟨rfl, g2, hc2, hk⟩
    have HS2 := hid hc2
    have HK2 := hid (HK1.out.trans hk)
    clear hc2 hk HCA
    go_wp2_with fail
    go_roundw
    case rel => exact ⟨k + 1, by omega, by go_num, g2, hid (by rw [HSM.out]; exact HS2.out), HK2⟩
    case measure => simp [intOf]; omega
  ·have hkn : k = n := by omega
   subst hkn
   have hcn : decide ((k : Int) < (k : Int)) = false := decide_eq_false (by omega)
   have HTK := hid (show (l.map G).take k = l.map G from List.take_of_length_le (by rw [List.length_map, HN.out]; omega))
   go_wp2_with fail
   refine bodyPost_ret (results_none rfl _ _ _) rfl ?_
   exact ⟨rfl, gk, by have h := HS.out; rw [HTK.out] at h; exact h, HK.out⟩
end Go.Proofs.YtegkbagnbnoopaaGreatDoor
/- the checker of print: within -/
namespace Go.Proofs.YtegkbagnbnoopaaGreatDoor
open Go.ChangeShapes Go.WideShapes Go.ChangeAt Go.RowKit Go.Deep
open Go.Lib (hid)
theorem chs {H : Nat} {w u : World} (h : Chg (fun k => k = H) w u) (j : Nat) (v : Value) : Chg (fun k => k = H) w (u.setCell ⟨H, j, none⟩ v) := h.setCell ⟨H, j, none⟩ v (.inl rfl)
theorem lv_eq (op nd : Int) (dp ml ms iv : Bool) : (Ck.mk (op + 1) nd dp ml ms iv).leave = ⟨op, nd, dp, ml, ms, iv⟩ := by
 have e : (Ck.mk (op + 1) nd dp ml ms iv).leave = ⟨op + 1 - 1, nd, dp, ml, ms, iv⟩ := rfl
 rw [e, Int.add_sub_cancel]
theorem CkC.set0 {u : World} {H : Nat} {s : Ck} (h : CkC u H s) (v : Int) : CkC (u.setCell ⟨H, 0, none⟩ (.int .i64 v)) H ⟨v, s.nd, s.dp, s.ml, s.ms, s.iv⟩ := bx_set h
theorem CkC.set1 {u : World} {H : Nat} {s : Ck} (h : CkC u H s) (v : Int) : CkC (u.setCell ⟨H, 1, none⟩ (.int .i64 v)) H ⟨s.op, v, s.dp, s.ml, s.ms, s.iv⟩ := bx_set h
theorem CkC.set2 {u : World} {H : Nat} {s : Ck} (h : CkC u H s) (v : Bool) : CkC (u.setCell ⟨H, 2, none⟩ (.bool v)) H ⟨s.op, s.nd, v, s.ml, s.ms, s.iv⟩ := bx_set h
theorem CkC.set5 {u : World} {H : Nat} {s : Ck} (h : CkC u H s) (v : Bool) : CkC (u.setCell ⟨H, 5, none⟩ (.bool v)) H ⟨s.op, s.nd, s.dp, s.ml, s.ms, v⟩ := bx_set h
theorem ent_eq (op nd : Int) (dp ml ms iv : Bool) : (Ck.mk op nd dp ml ms iv).enter = ⟨op + 1, nd + 1, dp || decide (24 < op + 1), ml, ms, iv⟩ := rfl
theorem ent_t {op nd : Int} {dp ml ms iv : Bool} (d24 : decide ((24 : Int) < op + 1) = true) (s2 : Ck) : (if (Ck.mk op nd dp ml ms iv).enter.dp = true then (Ck.mk op nd dp ml ms iv).enter else s2) = ⟨op + 1, nd + 1, true, ml, ms, iv⟩ := by
 rw [ent_eq, d24, Bool.or_true]; exact if_pos rfl
theorem ent_tt (op nd : Int) (ml ms iv : Bool) (s2 : Ck) : (if (Ck.mk op nd true ml ms iv).enter.dp = true then (Ck.mk op nd true ml ms iv).enter else s2) = ⟨op + 1, nd + 1, true, ml, ms, iv⟩ := by
 rw [ent_eq, Bool.true_or]; exact if_pos rfl
theorem ent_f {op nd : Int} {ml ms iv : Bool} (d24 : decide ((24 : Int) < op + 1) = false) : (Ck.mk op nd false ml ms iv).enter = ⟨op + 1, nd + 1, false, ml, ms, iv⟩ := by rw [ent_eq, d24, Bool.or_false]
set_option maxRecDepth 100000 in
set_option maxHeartbeats 1600000 in
theorem within_any (H : Nat) (s s2 : Ck) (g : FuncId) (caps : Array Value) (w : World) (hc : CkC w H s) (h1 : 0 ≤ s.op) (h2 : s.op ≤ 24) (h3 : 0 ≤ s.nd) (h4 : s.nd ≤ 1099511627776)
  (hg : ∀ args u, (callFunc g args).run Tryz.prog u = .ok (.enter g args) u)
  (hP : s.enter.dp = false → ∀ u, CkC u H s.enter → Chg (fun k => k = H) w u → Calls Tryz.prog g caps u (CkE u H s2)) (hs : s.enter.dp = false → s2.op = s.op + 1) :
  Calls Tryz.prog 38 #[.pointer (some ⟨H, 0, none⟩), .func (.func g) #[] caps] w (CkE w H (if s.enter.dp = true then s.enter else s2).leave) := by
 obtain ⟨op, nd, dp, ml, ms, iv⟩ := s
 simp only at h1 h2 h3 h4
 obtain ⟨c0, c1, c2, c3, c4, c5, cf⟩ := hc.cells
 have f0 := cf 0
 have f1 := cf 1
 have f2 := cf 2
 have HC := hid hc
 have HP := hid hP
 have HG := hid hg
 have HS := hid hs
 clear cf hc hP hg hs
 by_cases h24 : 24 < op + 1
 ·have d24 : decide ((24 : Int) < op + 1) = true := decide_eq_true h24
  have HE := hid (ent_t (nd := nd) (dp := dp) (ml := ml) (ms := ms) (iv := iv) d24 s2)
  rw [HE.out]
  clear HE HP HG HS
  cases dp
  all_goals
   go_enter Tryz.func38, Tryz.ntmps38
   go_wp2_with fail
   refine bodyPost_ret (results_none rfl _ _ _) rfl ?_
   rw [lv_eq]; exact ⟨rfl, (((HC.out.set1 (nd + 1)).set0 (op + 1)).set2 true).set0 op, chs (chs (chs (chs (Chg.refl _ _) _ _) _ _) _ _) _ _⟩
 ·have d24 : decide ((24 : Int) < op + 1) = false := decide_eq_false h24
  cases dp with
  | true =>
   have HE := hid (ent_tt op nd ml ms iv s2)
   rw [HE.out]
   clear HE HP HG HS
   go_enter Tryz.func38, Tryz.ntmps38
   go_wp2_with fail
   refine bodyPost_ret (results_none rfl _ _ _) rfl ?_
   rw [lv_eq]; exact ⟨rfl, (((HC.out.set1 (nd + 1)).set0 (op + 1)).set2 true).set0 op, chs (chs (chs (chs (Chg.refl _ _) _ _) _ _) _ _) _ _⟩
  | false =>
   have HN := hid (ent_f (nd := nd) (ml := ml) (ms := ms) (iv := iv) d24)
   have HE := hid (show (if (Ck.mk op nd false ml ms iv).enter.dp = true then (Ck.mk op nd false ml ms iv).enter else s2) = s2 by
    rw [HN.out]; exact if_neg (by simp))
   rw [HE.out]
   rw [HN.out] at HP HS
   obtain ⟨op2, nd2, dp2, ml2, ms2, iv2⟩ := s2
   obtain rfl : op2 = op + 1 := HS.out rfl
   have HP := hid (HP.out rfl)
   have HCB := hid (show CkC (((w.setCell ⟨H, 1, none⟩ (.int .i64 (nd + 1))).setCell ⟨H, 0, none⟩ (.int .i64 (op + 1))).setCell ⟨H, 2, none⟩ (.bool false)) H ⟨op + 1, nd + 1, false, ml, ms, iv⟩ from
    ((HC.out.set1 (nd + 1)).set0 (op + 1)).set2 false)
   have HCH := hid (show Chg (fun k => k = H) w (((w.setCell ⟨H, 1, none⟩ (.int .i64 (nd + 1))).setCell ⟨H, 0, none⟩ (.int .i64 (op + 1))).setCell ⟨H, 2, none⟩ (.bool false)) from
    chs (chs (chs (Chg.refl _ _) _ _) _ _) _ _)
   have HPP := hid (HP.out _ HCB.out HCH.out)
   clear HE HN HP HCB HS
   go_enter Tryz.func38, Tryz.ntmps38
   go_wp2_with fail
   rw [HG.out, Oper.upon_enter]
   refine HPP.out.mono ?_
   rintro e w1 ⟨rfl, hc1, hb1⟩
   obtain ⟨c0', c1', c2', c3', c4', c5', cf'⟩ := hc1.cells
   have f0' := cf' 0
   have HC1 := hid hc1
   have HB1 := hid (chg1 HCH.out hb1)
   clear hc1 hb1 cf' HPP HCH HC c0 c1 c2 c3 c4 c5 f0 f1 f2
   go_wp2_with fail
   refine bodyPost_ret (results_none rfl _ _ _) rfl ?_
   rw [lv_eq]; exact ⟨rfl, HC1.out.set0 op, chs HB1.out _ _⟩
end Go.Proofs.YtegkbagnbnoopaaGreatDoor
/- the checker of print: parts, hasForm, first -/
namespace Go.Proofs.YtegkbagnbnoopaaGreatDoor
open Go.ChangeShapes Go.WideShapes Go.ChangeAt Go.RowKit Go.Deep
open Go.Lib (hid)
theorem parts_1 (w : World) : Calls Tryz.prog 104 #[.int .i64 1] w fun e w' => e = .returned (.tuple #[.int .i64 0, .int .i64 0, .bool true]) ∧ Below w.heap.size w w' := by
 go_enter Tryz.func104, Tryz.ntmps104
 go_wp2_with fail
 go_ret3
 exact ⟨rfl, Below.refl _ _⟩
theorem parts_2 (w : World) : Calls Tryz.prog 104 #[.int .i64 2] w fun e w' => e = .returned (.tuple #[.int .i64 0, .int .i64 0, .bool true]) ∧ Below w.heap.size w w' := by
 go_enter Tryz.func104, Tryz.ntmps104
 go_wp2_with fail
 go_ret3
 exact ⟨rfl, Below.refl _ _⟩
theorem parts_21 (w : World) : Calls Tryz.prog 104 #[.int .i64 21] w fun e w' => e = .returned (.tuple #[.int .i64 0, .int .i64 0, .bool true]) ∧ Below w.heap.size w w' := by
 go_enter Tryz.func104, Tryz.ntmps104
 go_wp2_with fail
 go_ret3
 exact ⟨rfl, Below.refl _ _⟩
theorem parts_4 (w : World) : Calls Tryz.prog 104 #[.int .i64 4] w fun e w' => e = .returned (.tuple #[.int .i64 1, .int .i64 0, .bool true]) ∧ Below w.heap.size w w' := by
 go_enter Tryz.func104, Tryz.ntmps104
 go_wp2_with fail
 go_ret3
 exact ⟨rfl, Below.refl _ _⟩
theorem parts_16 (w : World) : Calls Tryz.prog 104 #[.int .i64 16] w fun e w' => e = .returned (.tuple #[.int .i64 1, .int .i64 0, .bool true]) ∧ Below w.heap.size w w' := by
 go_enter Tryz.func104, Tryz.ntmps104
 go_wp2_with fail
 go_ret3
 exact ⟨rfl, Below.refl _ _⟩
theorem parts_19 (w : World) : Calls Tryz.prog 104 #[.int .i64 19] w fun e w' => e = .returned (.tuple #[.int .i64 1, .int .i64 0, .bool true]) ∧ Below w.heap.size w w' := by
 go_enter Tryz.func104, Tryz.ntmps104
 go_wp2_with fail
 go_ret3
 exact ⟨rfl, Below.refl _ _⟩
theorem parts_20 (w : World) : Calls Tryz.prog 104 #[.int .i64 20] w fun e w' => e = .returned (.tuple #[.int .i64 1, .int .i64 0, .bool true]) ∧ Below w.heap.size w w' := by
 go_enter Tryz.func104, Tryz.ntmps104
 go_wp2_with fail
 go_ret3
 exact ⟨rfl, Below.refl _ _⟩
theorem parts_22 (w : World) : Calls Tryz.prog 104 #[.int .i64 22] w fun e w' => e = .returned (.tuple #[.int .i64 1, .int .i64 0, .bool true]) ∧ Below w.heap.size w w' := by
 go_enter Tryz.func104, Tryz.ntmps104
 go_wp2_with fail
 go_ret3
 exact ⟨rfl, Below.refl _ _⟩
theorem parts_23 (w : World) : Calls Tryz.prog 104 #[.int .i64 23] w fun e w' => e = .returned (.tuple #[.int .i64 1, .int .i64 0, .bool true]) ∧ Below w.heap.size w w' := by
 go_enter Tryz.func104, Tryz.ntmps104
 go_wp2_with fail
 go_ret3
 exact ⟨rfl, Below.refl _ _⟩
theorem parts_24 (w : World) : Calls Tryz.prog 104 #[.int .i64 24] w fun e w' => e = .returned (.tuple #[.int .i64 1, .int .i64 0, .bool true]) ∧ Below w.heap.size w w' := by
 go_enter Tryz.func104, Tryz.ntmps104
 go_wp2_with fail
 go_ret3
 exact ⟨rfl, Below.refl _ _⟩
theorem parts_25 (w : World) : Calls Tryz.prog 104 #[.int .i64 25] w fun e w' => e = .returned (.tuple #[.int .i64 1, .int .i64 0, .bool true]) ∧ Below w.heap.size w w' := by
 go_enter Tryz.func104, Tryz.ntmps104
 go_wp2_with fail
 go_ret3
 exact ⟨rfl, Below.refl _ _⟩
theorem parts_5 (w : World) : Calls Tryz.prog 104 #[.int .i64 5] w fun e w' => e = .returned (.tuple #[.int .i64 2, .int .i64 0, .bool true]) ∧ Below w.heap.size w w' := by
 go_enter Tryz.func104, Tryz.ntmps104
 go_wp2_with fail
 go_ret3
 exact ⟨rfl, Below.refl _ _⟩
theorem parts_6 (w : World) : Calls Tryz.prog 104 #[.int .i64 6] w fun e w' => e = .returned (.tuple #[.int .i64 2, .int .i64 0, .bool true]) ∧ Below w.heap.size w w' := by
 go_enter Tryz.func104, Tryz.ntmps104
 go_wp2_with fail
 go_ret3
 exact ⟨rfl, Below.refl _ _⟩
theorem parts_7 (w : World) : Calls Tryz.prog 104 #[.int .i64 7] w fun e w' => e = .returned (.tuple #[.int .i64 2, .int .i64 0, .bool true]) ∧ Below w.heap.size w w' := by
 go_enter Tryz.func104, Tryz.ntmps104
 go_wp2_with fail
 go_ret3
 exact ⟨rfl, Below.refl _ _⟩
theorem parts_8 (w : World) : Calls Tryz.prog 104 #[.int .i64 8] w fun e w' => e = .returned (.tuple #[.int .i64 2, .int .i64 0, .bool true]) ∧ Below w.heap.size w w' := by
 go_enter Tryz.func104, Tryz.ntmps104
 go_wp2_with fail
 go_ret3
 exact ⟨rfl, Below.refl _ _⟩
theorem parts_9 (w : World) : Calls Tryz.prog 104 #[.int .i64 9] w fun e w' => e = .returned (.tuple #[.int .i64 2, .int .i64 0, .bool true]) ∧ Below w.heap.size w w' := by
 go_enter Tryz.func104, Tryz.ntmps104
 go_wp2_with fail
 go_ret3
 exact ⟨rfl, Below.refl _ _⟩
theorem parts_10 (w : World) : Calls Tryz.prog 104 #[.int .i64 10] w fun e w' => e = .returned (.tuple #[.int .i64 2, .int .i64 0, .bool true]) ∧ Below w.heap.size w w' := by
 go_enter Tryz.func104, Tryz.ntmps104
 go_wp2_with fail
 go_ret3
 exact ⟨rfl, Below.refl _ _⟩
theorem parts_11 (w : World) : Calls Tryz.prog 104 #[.int .i64 11] w fun e w' => e = .returned (.tuple #[.int .i64 2, .int .i64 0, .bool true]) ∧ Below w.heap.size w w' := by
 go_enter Tryz.func104, Tryz.ntmps104
 go_wp2_with fail
 go_ret3
 exact ⟨rfl, Below.refl _ _⟩
theorem parts_12 (w : World) : Calls Tryz.prog 104 #[.int .i64 12] w fun e w' => e = .returned (.tuple #[.int .i64 2, .int .i64 0, .bool true]) ∧ Below w.heap.size w w' := by
 go_enter Tryz.func104, Tryz.ntmps104
 go_wp2_with fail
 go_ret3
 exact ⟨rfl, Below.refl _ _⟩
theorem parts_13 (w : World) : Calls Tryz.prog 104 #[.int .i64 13] w fun e w' => e = .returned (.tuple #[.int .i64 2, .int .i64 0, .bool true]) ∧ Below w.heap.size w w' := by
 go_enter Tryz.func104, Tryz.ntmps104
 go_wp2_with fail
 go_ret3
 exact ⟨rfl, Below.refl _ _⟩
theorem parts_14 (w : World) : Calls Tryz.prog 104 #[.int .i64 14] w fun e w' => e = .returned (.tuple #[.int .i64 2, .int .i64 0, .bool true]) ∧ Below w.heap.size w w' := by
 go_enter Tryz.func104, Tryz.ntmps104
 go_wp2_with fail
 go_ret3
 exact ⟨rfl, Below.refl _ _⟩
theorem parts_15 (w : World) : Calls Tryz.prog 104 #[.int .i64 15] w fun e w' => e = .returned (.tuple #[.int .i64 2, .int .i64 0, .bool true]) ∧ Below w.heap.size w w' := by
 go_enter Tryz.func104, Tryz.ntmps104
 go_wp2_with fail
 go_ret3
 exact ⟨rfl, Below.refl _ _⟩
theorem parts_17 (w : World) : Calls Tryz.prog 104 #[.int .i64 17] w fun e w' => e = .returned (.tuple #[.int .i64 2, .int .i64 0, .bool true]) ∧ Below w.heap.size w w' := by
 go_enter Tryz.func104, Tryz.ntmps104
 go_wp2_with fail
 go_ret3
 exact ⟨rfl, Below.refl _ _⟩
theorem parts_18 (w : World) : Calls Tryz.prog 104 #[.int .i64 18] w fun e w' => e = .returned (.tuple #[.int .i64 2, .int .i64 0, .bool true]) ∧ Below w.heap.size w w' := by
 go_enter Tryz.func104, Tryz.ntmps104
 go_wp2_with fail
 go_ret3
 exact ⟨rfl, Below.refl _ _⟩
theorem parts_26 (w : World) : Calls Tryz.prog 104 #[.int .i64 26] w fun e w' => e = .returned (.tuple #[.int .i64 0, .int .i64 1, .bool true]) ∧ Below w.heap.size w w' := by
 go_enter Tryz.func104, Tryz.ntmps104
 go_wp2_with fail
 go_ret3
 exact ⟨rfl, Below.refl _ _⟩
theorem parts_27 (w : World) : Calls Tryz.prog 104 #[.int .i64 27] w fun e w' => e = .returned (.tuple #[.int .i64 0, .int .i64 1, .bool true]) ∧ Below w.heap.size w w' := by
 go_enter Tryz.func104, Tryz.ntmps104
 go_wp2_with fail
 go_ret3
 exact ⟨rfl, Below.refl _ _⟩
theorem parts_28 (w : World) : Calls Tryz.prog 104 #[.int .i64 28] w fun e w' => e = .returned (.tuple #[.int .i64 1, .int .i64 1, .bool true]) ∧ Below w.heap.size w w' := by
 go_enter Tryz.func104, Tryz.ntmps104
 go_wp2_with fail
 go_ret3
 exact ⟨rfl, Below.refl _ _⟩
theorem parts_29 (w : World) : Calls Tryz.prog 104 #[.int .i64 29] w fun e w' => e = .returned (.tuple #[.int .i64 1, .int .i64 1, .bool true]) ∧ Below w.heap.size w w' := by
 go_enter Tryz.func104, Tryz.ntmps104
 go_wp2_with fail
 go_ret3
 exact ⟨rfl, Below.refl _ _⟩
theorem parts_no (op : Int) (w : World) (h : op ≠ 1 ∧ op ≠ 2 ∧ op ≠ 21 ∧ op ≠ 4 ∧ op ≠ 16 ∧ op ≠ 19 ∧ op ≠ 20 ∧ op ≠ 22 ∧ op ≠ 23 ∧ op ≠ 24 ∧ op ≠ 25 ∧ op ≠ 5 ∧ op ≠ 6 ∧ op ≠ 7 ∧ op ≠ 8 ∧ op ≠ 9 ∧ op ≠ 10 ∧ op ≠ 11 ∧ op ≠ 12 ∧ op ≠ 13 ∧ op ≠ 14 ∧ op ≠ 15 ∧ op ≠ 17 ∧ op ≠ 18 ∧ op ≠ 26 ∧ op ≠ 27 ∧ op ≠ 28 ∧ op ≠ 29) : Calls Tryz.prog 104 #[.int .i64 op] w fun e w' => e = .returned (.tuple #[.int .i64 0, .int .i64 0, .bool false]) ∧ Below w.heap.size w w' := by
 obtain ⟨h1, h2, h21, h4, h16, h19, h20, h22, h23, h24, h25, h5, h6, h7, h8, h9, h10, h11, h12, h13, h14, h15, h17, h18, h26, h27, h28, h29⟩ := h
 have f1 : (op == (1 : Int)) = false := beq_eq_false_iff_ne.2 h1
 have f2 : (op == (2 : Int)) = false := beq_eq_false_iff_ne.2 h2
 have f21 : (op == (21 : Int)) = false := beq_eq_false_iff_ne.2 h21
 have f4 : (op == (4 : Int)) = false := beq_eq_false_iff_ne.2 h4
 have f16 : (op == (16 : Int)) = false := beq_eq_false_iff_ne.2 h16
 have f19 : (op == (19 : Int)) = false := beq_eq_false_iff_ne.2 h19
 have f20 : (op == (20 : Int)) = false := beq_eq_false_iff_ne.2 h20
 have f22 : (op == (22 : Int)) = false := beq_eq_false_iff_ne.2 h22
 have f23 : (op == (23 : Int)) = false := beq_eq_false_iff_ne.2 h23
 have f24 : (op == (24 : Int)) = false := beq_eq_false_iff_ne.2 h24
 have f25 : (op == (25 : Int)) = false := beq_eq_false_iff_ne.2 h25
 have f5 : (op == (5 : Int)) = false := beq_eq_false_iff_ne.2 h5
 have f6 : (op == (6 : Int)) = false := beq_eq_false_iff_ne.2 h6
 have f7 : (op == (7 : Int)) = false := beq_eq_false_iff_ne.2 h7
 have f8 : (op == (8 : Int)) = false := beq_eq_false_iff_ne.2 h8
 have f9 : (op == (9 : Int)) = false := beq_eq_false_iff_ne.2 h9
 have f10 : (op == (10 : Int)) = false := beq_eq_false_iff_ne.2 h10
 have f11 : (op == (11 : Int)) = false := beq_eq_false_iff_ne.2 h11
 have f12 : (op == (12 : Int)) = false := beq_eq_false_iff_ne.2 h12
 have f13 : (op == (13 : Int)) = false := beq_eq_false_iff_ne.2 h13
 have f14 : (op == (14 : Int)) = false := beq_eq_false_iff_ne.2 h14
 have f15 : (op == (15 : Int)) = false := beq_eq_false_iff_ne.2 h15
 have f17 : (op == (17 : Int)) = false := beq_eq_false_iff_ne.2 h17
 have f18 : (op == (18 : Int)) = false := beq_eq_false_iff_ne.2 h18
 have f26 : (op == (26 : Int)) = false := beq_eq_false_iff_ne.2 h26
 have f27 : (op == (27 : Int)) = false := beq_eq_false_iff_ne.2 h27
 have f28 : (op == (28 : Int)) = false := beq_eq_false_iff_ne.2 h28
 have f29 : (op == (29 : Int)) = false := beq_eq_false_iff_ne.2 h29
 clear h1 h2 h21 h4 h16 h19 h20 h22 h23 h24 h25 h5 h6 h7 h8 h9 h10 h11 h12 h13 h14 h15 h17 h18 h26 h27 h28 h29
 go_enter Tryz.func104, Tryz.ntmps104
 go_wp2_with fail
 go_ret3
 exact ⟨rfl, Below.refl _ _⟩
theorem parts_any (op : Int) (w : World) : Calls Tryz.prog 104 #[.int .i64 op] w fun e w' => e = .returned (.tuple #[.int .i64 (partsF op).1, .int .i64 (partsF op).2.1, .bool (partsF op).2.2]) ∧ Below w.heap.size w w' := by
 by_cases h1 : op = 1
 ·subst h1; exact parts_1 w
 by_cases h2 : op = 2
 ·subst h2; exact parts_2 w
 by_cases h21 : op = 21
 ·subst h21; exact parts_21 w
 by_cases h4 : op = 4
 ·subst h4; exact parts_4 w
 by_cases h16 : op = 16
 ·subst h16; exact parts_16 w
 by_cases h19 : op = 19
 ·subst h19; exact parts_19 w
 by_cases h20 : op = 20
 ·subst h20; exact parts_20 w
 by_cases h22 : op = 22
 ·subst h22; exact parts_22 w
 by_cases h23 : op = 23
 ·subst h23; exact parts_23 w
 by_cases h24 : op = 24
 ·subst h24; exact parts_24 w
 by_cases h25 : op = 25
 ·subst h25; exact parts_25 w
 by_cases h5 : op = 5
 ·subst h5; exact parts_5 w
 by_cases h6 : op = 6
 ·subst h6; exact parts_6 w
 by_cases h7 : op = 7
 ·subst h7; exact parts_7 w
 by_cases h8 : op = 8
 ·subst h8; exact parts_8 w
 by_cases h9 : op = 9
 ·subst h9; exact parts_9 w
 by_cases h10 : op = 10
 ·subst h10; exact parts_10 w
 by_cases h11 : op = 11
 ·subst h11; exact parts_11 w
 by_cases h12 : op = 12
 ·subst h12; exact parts_12 w
 by_cases h13 : op = 13
 ·subst h13; exact parts_13 w
 by_cases h14 : op = 14
 ·subst h14; exact parts_14 w
 by_cases h15 : op = 15
 ·subst h15; exact parts_15 w
 by_cases h17 : op = 17
 ·subst h17; exact parts_17 w
 by_cases h18 : op = 18
 ·subst h18; exact parts_18 w
 by_cases h26 : op = 26
 ·subst h26; exact parts_26 w
 by_cases h27 : op = 27
 ·subst h27; exact parts_27 w
 by_cases h28 : op = 28
 ·subst h28; exact parts_28 w
 by_cases h29 : op = 29
 ·subst h29; exact parts_29 w
 have e : partsF op = (0, 0, false) := by simp only [partsF, h1, h2, h21, h4, h16, h19, h20, h22, h23, h24, h25, h5, h6, h7, h8, h9, h10, h11, h12, h13, h14, h15, h17, h18, h26, h27, h28, h29, or_self, if_false]
 rw [e]
 exact parts_no op w ⟨h1, h2, h21, h4, h16, h19, h20, h22, h23, h24, h25, h5, h6, h7, h8, h9, h10, h11, h12, h13, h14, h15, h17, h18, h26, h27, h28, h29⟩
attribute [local go_sem ↓] eql32_eq neq32_eq
set_option maxRecDepth 100000 in
set_option maxHeartbeats 3200000 in
theorem hasForm_any (x : Ex) (w : World) (v : Value) (hx : ExV w v x) (h1 : Rng x.tb) (h2 : Rng x.nm) (h3 : Rng x.v.s) : Calls Tryz.prog 89 #[v] w (BO w (hasF x.op x.tb x.nm x.v x.args.length x.qs.length)) := by
 obtain ⟨q0, q1, rfl, g0, g1⟩ := hx
 obtain ⟨a0, c0, rfl, -, -⟩ := exs_rows g0
 obtain ⟨a1, c1, rfl, -, -⟩ := qus_rows g1
 have HP := hid (fun u => parts_any x.op u)
 have HX := hid (show hasF x.op x.tb x.nm x.v x.args.length x.qs.length = ((partsF x.op).2.2 && (decide ((x.args.length : Int) = (partsF x.op).1) && (decide ((x.qs.length : Int) = (partsF x.op).2.1) && ((decide (x.op = 1) || decide (x.v = vZ)) && (decide (x.op = 2) || (decide (x.tb = []) && decide (x.nm = []))))))) from rfl)
 have k1 : ((x.args.length : Int) == (partsF x.op).1) = decide ((x.args.length : Int) = (partsF x.op).1) := rfl
 have k2 : ((x.qs.length : Int) == (partsF x.op).2.1) = decide ((x.qs.length : Int) = (partsF x.op).2.1) := rfl
 have k3 : (x.op == (1 : Int)) = decide (x.op = 1) := rfl
 have he := fun (u : World) => run_eql32 u x.v vZ h3 (fun x hx => by simp [vZ] at hx)
 have k5 : (x.op == (2 : Int)) = decide (x.op = 2) := rfl
 have k6 : ((str x.tb).toList == []) = decide (x.tb = []) := (by rw [str_toL [] ]; rfl : ((str x.tb).toList == []) = ((str x.tb).toList == (str []).toList)).trans (str_beq h1 (rngB rfl))
 have k7 : ((str x.nm).toList == []) = decide (x.nm = []) := (by rw [str_toL [] ]; rfl : ((str x.nm).toList == []) = ((str x.nm).toList == (str []).toList)).trans (str_beq h2 (rngB rfl))
 rw [HX.out]
 clear h1 h2 h3 g0 g1 HX
 generalize decide (x.v = vZ) = b4 at *
 simp only [vZ, show str [] = ⟨#[]⟩ from rfl] at he
 generalize decide ((x.args.length : Int) = (partsF x.op).1) = b1 at *
 generalize decide ((x.qs.length : Int) = (partsF x.op).2.1) = b2 at *
 generalize decide (x.op = 1) = b3 at *
 generalize decide (x.op = 2) = b5 at *
 generalize decide (x.tb = []) = b6 at *
 generalize decide (x.nm = []) = b7 at *
 generalize x.args.length = n0 at *
 generalize x.qs.length = n1 at *
 generalize (partsF x.op).2.2 = b0 at *
 generalize (partsF x.op).1 = p0 at *
 generalize (partsF x.op).2.1 = p1 at *
 generalize x.op = o at *
 generalize x.v.s = vs at *
 generalize x.v.n = vn at *
 generalize x.v.k = vk at *
 generalize x.tb = tb at *
 generalize x.nm = nm at *
 cases b0 with
 | false =>
  go_enter Tryz.func89, Tryz.ntmps89
  go_wp2_with (go_at_call 104; refine (HP.out _).mono ?_; rintro e w1 ⟨rfl, hb⟩; have HB1 := hid (((Below.refl _ _).alloc (Nat.le_refl _) _).trans (hb.mono (by simp))); have x1 := (hb.block w.heap.size (by simp)).trans (heap_alloc_new _ _); have y0 := cell_at x1 0 rfl; have y1 := cell_at x1 1 rfl; have y2 := cell_at x1 2 rfl; have y3 := cell_at x1 3 rfl; have y4 := cell_at x1 4 rfl; have y5 := cell_at x1 5 rfl; have y6 := cell_at x1 6 rfl; have y7 := cell_at x1 7 rfl; clear hb x1 HP)
  go_ret
  exact ⟨rfl, HB1.out⟩
 | true =>
  cases b1 with
  | false =>
   go_enter Tryz.func89, Tryz.ntmps89
   go_wp2_with (go_at_call 104; refine (HP.out _).mono ?_; rintro e w1 ⟨rfl, hb⟩; have HB1 := hid (((Below.refl _ _).alloc (Nat.le_refl _) _).trans (hb.mono (by simp))); have x1 := (hb.block w.heap.size (by simp)).trans (heap_alloc_new _ _); have y0 := cell_at x1 0 rfl; have y1 := cell_at x1 1 rfl; have y2 := cell_at x1 2 rfl; have y3 := cell_at x1 3 rfl; have y4 := cell_at x1 4 rfl; have y5 := cell_at x1 5 rfl; have y6 := cell_at x1 6 rfl; have y7 := cell_at x1 7 rfl; clear hb x1 HP)
   go_ret
   exact ⟨rfl, HB1.out⟩
  | true =>
   cases b2 with
   | false =>
    go_enter Tryz.func89, Tryz.ntmps89
    go_wp2_with (go_at_call 104; refine (HP.out _).mono ?_; rintro e w1 ⟨rfl, hb⟩; have HB1 := hid (((Below.refl _ _).alloc (Nat.le_refl _) _).trans (hb.mono (by simp))); have x1 := (hb.block w.heap.size (by simp)).trans (heap_alloc_new _ _); have y0 := cell_at x1 0 rfl; have y1 := cell_at x1 1 rfl; have y2 := cell_at x1 2 rfl; have y3 := cell_at x1 3 rfl; have y4 := cell_at x1 4 rfl; have y5 := cell_at x1 5 rfl; have y6 := cell_at x1 6 rfl; have y7 := cell_at x1 7 rfl; clear hb x1 HP)
    go_ret
    exact ⟨rfl, HB1.out⟩
   | true =>
    cases b3 with
    | false =>
     cases b4 with
     | false =>
      go_enter Tryz.func89, Tryz.ntmps89
      go_wp2_with (go_at_call 104; refine (HP.out _).mono ?_; rintro e w1 ⟨rfl, hb⟩; have HB1 := hid (((Below.refl _ _).alloc (Nat.le_refl _) _).trans (hb.mono (by simp))); have x1 := (hb.block w.heap.size (by simp)).trans (heap_alloc_new _ _); have y0 := cell_at x1 0 rfl; have y1 := cell_at x1 1 rfl; have y2 := cell_at x1 2 rfl; have y3 := cell_at x1 3 rfl; have y4 := cell_at x1 4 rfl; have y5 := cell_at x1 5 rfl; have y6 := cell_at x1 6 rfl; have y7 := cell_at x1 7 rfl; clear hb x1 HP)
      go_ret
      exact ⟨rfl, HB1.out⟩
     | true =>
      cases b5 with
      | false =>
       cases b6 with
       | false =>
        go_enter Tryz.func89, Tryz.ntmps89
        go_wp2_with (go_at_call 104; refine (HP.out _).mono ?_; rintro e w1 ⟨rfl, hb⟩; have HB1 := hid (((Below.refl _ _).alloc (Nat.le_refl _) _).trans (hb.mono (by simp))); have x1 := (hb.block w.heap.size (by simp)).trans (heap_alloc_new _ _); have y0 := cell_at x1 0 rfl; have y1 := cell_at x1 1 rfl; have y2 := cell_at x1 2 rfl; have y3 := cell_at x1 3 rfl; have y4 := cell_at x1 4 rfl; have y5 := cell_at x1 5 rfl; have y6 := cell_at x1 6 rfl; have y7 := cell_at x1 7 rfl; clear hb x1 HP)
        go_ret
        exact ⟨rfl, HB1.out⟩
       | true =>
        cases b7 with
        | false =>
         go_enter Tryz.func89, Tryz.ntmps89
         go_wp2_with (go_at_call 104; refine (HP.out _).mono ?_; rintro e w1 ⟨rfl, hb⟩; have HB1 := hid (((Below.refl _ _).alloc (Nat.le_refl _) _).trans (hb.mono (by simp))); have x1 := (hb.block w.heap.size (by simp)).trans (heap_alloc_new _ _); have y0 := cell_at x1 0 rfl; have y1 := cell_at x1 1 rfl; have y2 := cell_at x1 2 rfl; have y3 := cell_at x1 3 rfl; have y4 := cell_at x1 4 rfl; have y5 := cell_at x1 5 rfl; have y6 := cell_at x1 6 rfl; have y7 := cell_at x1 7 rfl; clear hb x1 HP)
         go_ret
         exact ⟨rfl, HB1.out⟩
        | true =>
         go_enter Tryz.func89, Tryz.ntmps89
         go_wp2_with (go_at_call 104; refine (HP.out _).mono ?_; rintro e w1 ⟨rfl, hb⟩; have HB1 := hid (((Below.refl _ _).alloc (Nat.le_refl _) _).trans (hb.mono (by simp))); have x1 := (hb.block w.heap.size (by simp)).trans (heap_alloc_new _ _); have y0 := cell_at x1 0 rfl; have y1 := cell_at x1 1 rfl; have y2 := cell_at x1 2 rfl; have y3 := cell_at x1 3 rfl; have y4 := cell_at x1 4 rfl; have y5 := cell_at x1 5 rfl; have y6 := cell_at x1 6 rfl; have y7 := cell_at x1 7 rfl; clear hb x1 HP)
         go_ret
         exact ⟨rfl, HB1.out⟩
      | true =>
       go_enter Tryz.func89, Tryz.ntmps89
       go_wp2_with (go_at_call 104; refine (HP.out _).mono ?_; rintro e w1 ⟨rfl, hb⟩; have HB1 := hid (((Below.refl _ _).alloc (Nat.le_refl _) _).trans (hb.mono (by simp))); have x1 := (hb.block w.heap.size (by simp)).trans (heap_alloc_new _ _); have y0 := cell_at x1 0 rfl; have y1 := cell_at x1 1 rfl; have y2 := cell_at x1 2 rfl; have y3 := cell_at x1 3 rfl; have y4 := cell_at x1 4 rfl; have y5 := cell_at x1 5 rfl; have y6 := cell_at x1 6 rfl; have y7 := cell_at x1 7 rfl; clear hb x1 HP)
       go_ret
       exact ⟨rfl, HB1.out⟩
    | true =>
     cases b5 with
     | false =>
      cases b6 with
      | false =>
       go_enter Tryz.func89, Tryz.ntmps89
       go_wp2_with (go_at_call 104; refine (HP.out _).mono ?_; rintro e w1 ⟨rfl, hb⟩; have HB1 := hid (((Below.refl _ _).alloc (Nat.le_refl _) _).trans (hb.mono (by simp))); have x1 := (hb.block w.heap.size (by simp)).trans (heap_alloc_new _ _); have y0 := cell_at x1 0 rfl; have y1 := cell_at x1 1 rfl; have y2 := cell_at x1 2 rfl; have y3 := cell_at x1 3 rfl; have y4 := cell_at x1 4 rfl; have y5 := cell_at x1 5 rfl; have y6 := cell_at x1 6 rfl; have y7 := cell_at x1 7 rfl; clear hb x1 HP)
       go_ret
       exact ⟨rfl, HB1.out⟩
      | true =>
       cases b7 with
       | false =>
        go_enter Tryz.func89, Tryz.ntmps89
        go_wp2_with (go_at_call 104; refine (HP.out _).mono ?_; rintro e w1 ⟨rfl, hb⟩; have HB1 := hid (((Below.refl _ _).alloc (Nat.le_refl _) _).trans (hb.mono (by simp))); have x1 := (hb.block w.heap.size (by simp)).trans (heap_alloc_new _ _); have y0 := cell_at x1 0 rfl; have y1 := cell_at x1 1 rfl; have y2 := cell_at x1 2 rfl; have y3 := cell_at x1 3 rfl; have y4 := cell_at x1 4 rfl; have y5 := cell_at x1 5 rfl; have y6 := cell_at x1 6 rfl; have y7 := cell_at x1 7 rfl; clear hb x1 HP)
        go_ret
        exact ⟨rfl, HB1.out⟩
       | true =>
        go_enter Tryz.func89, Tryz.ntmps89
        go_wp2_with (go_at_call 104; refine (HP.out _).mono ?_; rintro e w1 ⟨rfl, hb⟩; have HB1 := hid (((Below.refl _ _).alloc (Nat.le_refl _) _).trans (hb.mono (by simp))); have x1 := (hb.block w.heap.size (by simp)).trans (heap_alloc_new _ _); have y0 := cell_at x1 0 rfl; have y1 := cell_at x1 1 rfl; have y2 := cell_at x1 2 rfl; have y3 := cell_at x1 3 rfl; have y4 := cell_at x1 4 rfl; have y5 := cell_at x1 5 rfl; have y6 := cell_at x1 6 rfl; have y7 := cell_at x1 7 rfl; clear hb x1 HP)
        go_ret
        exact ⟨rfl, HB1.out⟩
     | true =>
      go_enter Tryz.func89, Tryz.ntmps89
      go_wp2_with (go_at_call 104; refine (HP.out _).mono ?_; rintro e w1 ⟨rfl, hb⟩; have HB1 := hid (((Below.refl _ _).alloc (Nat.le_refl _) _).trans (hb.mono (by simp))); have x1 := (hb.block w.heap.size (by simp)).trans (heap_alloc_new _ _); have y0 := cell_at x1 0 rfl; have y1 := cell_at x1 1 rfl; have y2 := cell_at x1 2 rfl; have y3 := cell_at x1 3 rfl; have y4 := cell_at x1 4 rfl; have y5 := cell_at x1 5 rfl; have y6 := cell_at x1 6 rfl; have y7 := cell_at x1 7 rfl; clear hb x1 HP)
      go_ret
      exact ⟨rfl, HB1.out⟩
set_option maxRecDepth 100000 in
theorem first_any (H : Nat) (s : Ck) (w : World) (hc : CkC w H s) : Calls Tryz.prog 34 #[.pointer (some ⟨H, 0, none⟩)] w fun e w' => e = .returned (.int .i64 s.first) ∧ Below w.heap.size w w' := by
 obtain ⟨op, nd, dp, ml, ms, iv⟩ := s
 obtain ⟨c0, c1, c2, c3, c4, c5, -⟩ := hc.cells
 have e : (Ck.mk op nd dp ml ms iv).first = if dp = true then 13 else if 512 < nd then 3 else if ml = true then 5 else if ms = true then 20 else if iv = true then 22 else 0 := rfl
 rw [e]
 clear hc e
 by_cases h5 : 512 < nd
 ·have d5 : decide ((512 : Int) < nd) = true := decide_eq_true h5
  cases dp
  ·rw [if_neg (by simp), if_pos h5]
   go_enter Tryz.func34, Tryz.ntmps34
   go_wp2_with fail
   go_ret
   exact ⟨rfl, Below.refl _ _⟩
  ·rw [if_pos rfl]
   go_enter Tryz.func34, Tryz.ntmps34
   go_wp2_with fail
   go_ret
   exact ⟨rfl, Below.refl _ _⟩
 ·have d5 : decide ((512 : Int) < nd) = false := decide_eq_false h5
  cases dp
  ·rw [if_neg (by simp), if_neg h5]
   cases ml
   ·cases ms
    ·cases iv
     all_goals
      go_enter Tryz.func34, Tryz.ntmps34
      go_wp2_with fail
      go_ret
      exact ⟨rfl, Below.refl _ _⟩
    ·cases iv
     all_goals
      go_enter Tryz.func34, Tryz.ntmps34
      go_wp2_with fail
      go_ret
      exact ⟨rfl, Below.refl _ _⟩
   ·cases ms <;> cases iv
    all_goals
     go_enter Tryz.func34, Tryz.ntmps34
     go_wp2_with fail
     go_ret
     exact ⟨rfl, Below.refl _ _⟩
  ·rw [if_pos rfl]
   go_enter Tryz.func34, Tryz.ntmps34
   go_wp2_with fail
   go_ret
   exact ⟨rfl, Below.refl _ _⟩

end Go.Proofs.YtegkbagnbnoopaaGreatDoor
