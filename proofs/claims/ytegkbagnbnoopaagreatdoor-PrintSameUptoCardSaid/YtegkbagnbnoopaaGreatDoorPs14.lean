/- the checker of print: each, over expressions, queries, items, orders -/
import Derived.Test.YtegkbagnbnoopaaGreatDoorPs07
import Derived.Test.YtegkbagnbnoopaaGreatDoorPs13
namespace Go.Proofs.YtegkbagnbnoopaaGreatDoor
open Go.ChangeShapes Go.WideShapes Go.ChangeAt Go.RowKit Go.Deep
open Go.Lib (hid)
theorem fold_snoc {α : Type} (f : α → Ck → Ck) (l : List α) (k : Nat) (x : α) (s : Ck) (h : l[k]? = some x) : (l.take (k + 1)).foldl (fun s x => f x s) s = f x ((l.take k).foldl (fun s x => f x s) s) := by
 rw [List.take_add_one, h, List.foldl_append]; rfl
set_option maxRecDepth 100000 in
set_option maxHeartbeats 6400000 in
theorem each_ex (f : Ex → Ck → Ck) (g : FuncId) (hg : ∀ args u, (callFunc g args).run Tryz.prog u = .ok (.enter g args) u) (w0 w : World) (H : Nat) (s : Ck) (l : List Ex) (v : Value) (hw : Below w0.heap.size w0 w) (hH : w0.heap.size ≤ H) (hc : CkC w H s) (hv : DIs w0 v (.sl (exsDa l))) (hl : l.length ≤ 1073741823)
  (hE : ∀ (k : Nat) (x : Ex), l[k]? = some x → ∀ (u : World) (a : Value), Below w0.heap.size w0 u → CkC u H ((l.take k).foldl (fun s x => f x s) s) → ExV w0 a x → Calls Tryz.prog g #[.pointer (some ⟨H, 0, none⟩), a] u (CkE u H (f x ((l.take k).foldl (fun s x => f x s) s)))) :
  Calls Tryz.prog 70 #[v, .func (.func g) #[.pointer (some ⟨H, 0, none⟩)] #[]] w (CkE w H (l.foldl (fun s x => f x s) s)) := by
 obtain ⟨a1, c1, rfl, hc1, hcell1⟩ := exs_rows hv
 have HC1 := hid hcell1
 have HE := hid hE
 have HG := hid hg
 have HW := hid hw
 have HCK := hid hc
 generalize hn : l.length = n at *
 have HN := hid hn
 clear hcell1 hn hv hE hg hw hc
 go_enter Tryz.func70, Tryz.ntmps70
 go_wp2_with fail
 go_loopw [8] (fun i wr => ∃ k : Nat, k ≤ n ∧ i = .int .i64 k ∧ Chg (fun k => k = H) w wr ∧ Hid (CkC wr H ((l.take k).foldl (fun s x => f x s) s))) (fun i _ => n - (intOf i).toNat)
 case atStart => exact ⟨0, Nat.zero_le _, rfl, Chg.refl _ _, hid HCK.out⟩
 case round =>
  obtain ⟨k, hk1, rfl, hbw, HS⟩ := hrel
  have hsz := hbw.size
  have HBC := hid hbw
  have HBW := hid (HW.out.trans (hbw.below (B := w0.heap.size) (fun k hk => by omega) HW.out.size))
  clear hbw
  by_cases hlt1 : k < n
  ·obtain ⟨b1, o1, rfl, hb1, hd1⟩ := HC1.out (by omega)
   obtain ⟨x, hx⟩ : ∃ x, l[k]? = some x := ⟨_, List.getElem?_eq_getElem (by rw [HN.out]; exact hlt1)⟩
   obtain ⟨s0, s1, p0, p1, p2, p3, p4, p5, p6, p7, h0, h1⟩ := hd1 k x hx
   replace p0 := (HBW.out.cell (p := ⟨b1, o1 + k * 8, none⟩) hb1).trans p0
   replace p1 := (HBW.out.cell (p := ⟨b1, o1 + k * 8 + 1, none⟩) hb1).trans p1
   replace p2 := (HBW.out.cell (p := ⟨b1, o1 + k * 8 + 2, none⟩) hb1).trans p2
   replace p3 := (HBW.out.cell (p := ⟨b1, o1 + k * 8 + 3, none⟩) hb1).trans p3
   replace p4 := (HBW.out.cell (p := ⟨b1, o1 + k * 8 + 4, none⟩) hb1).trans p4
   replace p5 := (HBW.out.cell (p := ⟨b1, o1 + k * 8 + 5, none⟩) hb1).trans p5
   replace p6 := (HBW.out.cell (p := ⟨b1, o1 + k * 8 + 6, none⟩) hb1).trans p6
   replace p7 := (HBW.out.cell (p := ⟨b1, o1 + k * 8 + 7, none⟩) hb1).trans p7
   obtain ⟨e0, m0, z0, rfl⟩ := dis_slice h0
   obtain ⟨e1, m1, z1, rfl⟩ := dis_slice h1
   have HCA := hid (fun (o1 : Obj) => HE.out k x hx (wr.alloc o1) _ (HBW.out.alloc HBW.out.size _) ((hp_al HS.out _)) ⟨_, _, rfl, h0, h1⟩)
   have HX := hid hx
   have hb1r : b1 < wr.heap.size := by have := HBW.out.size; omega
   clear hd1 hx h0 h1
   go_wp2_with fail
   rw [HG.out, Oper.upon_enter]
   refine (HCA.out _).mono ?_
   rintro e w1 ⟨rfl, hc1, hb⟩
   have HB1 := hid ((HBC.out.alloc (.cells #[.int .i64 x.op, .string (str x.tb), .string (str x.nm), .int .i64 x.v.k, .int .i64 x.v.n, .string (str x.v.s), .slice e0 m0 z0, .slice e1 m1 z1] 40)).trans hb (fun i hi => .inl hi))
   have HS1 := hid hc1
   have hz1 := hb.size
   clear hb hc1 HCA
   go_wp2_with fail
   go_roundw
   case rel => exact ⟨k + 1, by omega, by go_num, HB1.out, hid (by rw [fold_snoc f l k x s HX.out]; exact HS1.out)⟩
   case measure => simp [intOf]; omega
  ·have hkn : k = n := by omega
   subst hkn
   have hcn : decide ((k : Int) < (k : Int)) = false := decide_eq_false (by omega)
   have HTK := hid (show l.take k = l from List.take_of_length_le (by rw [HN.out]; omega))
   go_wp2_with fail
   refine bodyPost_ret (results_none rfl _ _ _) rfl ?_
   exact ⟨rfl, by have h := HS.out; rw [HTK.out] at h; exact h, HBC.out⟩
set_option maxRecDepth 100000 in
set_option maxHeartbeats 6400000 in
theorem each_qu (f : Qu → Ck → Ck) (g : FuncId) (hg : ∀ args u, (callFunc g args).run Tryz.prog u = .ok (.enter g args) u) (w0 w : World) (H : Nat) (s : Ck) (l : List Qu) (v : Value) (hw : Below w0.heap.size w0 w) (hH : w0.heap.size ≤ H) (hc : CkC w H s) (hv : DIs w0 v (.sl (qusDa l))) (hl : l.length ≤ 1073741823)
  (hE : ∀ (k : Nat) (x : Qu), l[k]? = some x → ∀ (u : World) (a : Value), Below w0.heap.size w0 u → CkC u H ((l.take k).foldl (fun s x => f x s) s) → QuV w0 a x → Calls Tryz.prog g #[.pointer (some ⟨H, 0, none⟩), a] u (CkE u H (f x ((l.take k).foldl (fun s x => f x s) s)))) :
  Calls Tryz.prog 41 #[v, .func (.func g) #[.pointer (some ⟨H, 0, none⟩)] #[]] w (CkE w H (l.foldl (fun s x => f x s) s)) := by
 obtain ⟨a1, c1, rfl, hc1, hcell1⟩ := qus_rows hv
 have HC1 := hid hcell1
 have HE := hid hE
 have HG := hid hg
 have HW := hid hw
 have HCK := hid hc
 generalize hn : l.length = n at *
 have HN := hid hn
 clear hcell1 hn hv hE hg hw hc
 go_enter Tryz.func41, Tryz.ntmps41
 go_wp2_with fail
 go_loopw [8] (fun i wr => ∃ k : Nat, k ≤ n ∧ i = .int .i64 k ∧ Chg (fun k => k = H) w wr ∧ Hid (CkC wr H ((l.take k).foldl (fun s x => f x s) s))) (fun i _ => n - (intOf i).toNat)
 case atStart => exact ⟨0, Nat.zero_le _, rfl, Chg.refl _ _, hid HCK.out⟩
 case round =>
  obtain ⟨k, hk1, rfl, hbw, HS⟩ := hrel
  have hsz := hbw.size
  have HBC := hid hbw
  have HBW := hid (HW.out.trans (hbw.below (B := w0.heap.size) (fun k hk => by omega) HW.out.size))
  clear hbw
  by_cases hlt1 : k < n
  ·obtain ⟨b1, o1, rfl, hb1, hd1⟩ := HC1.out (by omega)
   obtain ⟨x, hx⟩ : ∃ x, l[k]? = some x := ⟨_, List.getElem?_eq_getElem (by rw [HN.out]; exact hlt1)⟩
   obtain ⟨s0, s1, s2, s3, s4, s5, s6, p0, p1, p2, p3, p4, p5, p6, p7, p8, p9, p10, h0, h1, h2, h3, h4, h5, h6⟩ := hd1 k x hx
   replace p0 := (HBW.out.cell (p := ⟨b1, o1 + k * 11, none⟩) hb1).trans p0
   replace p1 := (HBW.out.cell (p := ⟨b1, o1 + k * 11 + 1, none⟩) hb1).trans p1
   replace p2 := (HBW.out.cell (p := ⟨b1, o1 + k * 11 + 2, none⟩) hb1).trans p2
   replace p3 := (HBW.out.cell (p := ⟨b1, o1 + k * 11 + 3, none⟩) hb1).trans p3
   replace p4 := (HBW.out.cell (p := ⟨b1, o1 + k * 11 + 4, none⟩) hb1).trans p4
   replace p5 := (HBW.out.cell (p := ⟨b1, o1 + k * 11 + 5, none⟩) hb1).trans p5
   replace p6 := (HBW.out.cell (p := ⟨b1, o1 + k * 11 + 6, none⟩) hb1).trans p6
   replace p7 := (HBW.out.cell (p := ⟨b1, o1 + k * 11 + 7, none⟩) hb1).trans p7
   replace p8 := (HBW.out.cell (p := ⟨b1, o1 + k * 11 + 8, none⟩) hb1).trans p8
   replace p9 := (HBW.out.cell (p := ⟨b1, o1 + k * 11 + 9, none⟩) hb1).trans p9
   replace p10 := (HBW.out.cell (p := ⟨b1, o1 + k * 11 + 10, none⟩) hb1).trans p10
   obtain ⟨e0, m0, z0, rfl⟩ := dis_slice h0
   obtain ⟨e1, m1, z1, rfl⟩ := dis_slice h1
   obtain ⟨e2, m2, z2, rfl⟩ := dis_slice h2
   obtain ⟨e3, m3, z3, rfl⟩ := dis_slice h3
   obtain ⟨e4, m4, z4, rfl⟩ := dis_slice h4
   obtain ⟨e5, m5, z5, rfl⟩ := dis_slice h5
   obtain ⟨e6, m6, z6, rfl⟩ := dis_slice h6
   have HCA := hid (fun (o1 : Obj) => HE.out k x hx (wr.alloc o1) _ (HBW.out.alloc HBW.out.size _) ((hp_al HS.out _)) ⟨_, _, _, _, _, _, _, rfl, h0, h1, h2, h3, h4, h5, h6⟩)
   have HX := hid hx
   have hb1r : b1 < wr.heap.size := by have := HBW.out.size; omega
   clear hd1 hx h0 h1 h2 h3 h4 h5 h6
   go_wp2_with fail
   rw [HG.out, Oper.upon_enter]
   refine (HCA.out _).mono ?_
   rintro e w1 ⟨rfl, hc1, hb⟩
   have HB1 := hid ((HBC.out.alloc (.cells #[.int .i64 x.op, .slice e0 m0 z0, .bool x.sel.dist, .slice e1 m1 z1, .slice e2 m2 z2, .slice e3 m3 z3, .slice e4 m4 z4, .slice e5 m5 z5, .slice e6 m6 z6, .bool x.lim, .int .i64 x.n] 30)).trans hb (fun i hi => .inl hi))
   have HS1 := hid hc1
   have hz1 := hb.size
   clear hb hc1 HCA
   go_wp2_with fail
   go_roundw
   case rel => exact ⟨k + 1, by omega, by go_num, HB1.out, hid (by rw [fold_snoc f l k x s HX.out]; exact HS1.out)⟩
   case measure => simp [intOf]; omega
  ·have hkn : k = n := by omega
   subst hkn
   have hcn : decide ((k : Int) < (k : Int)) = false := decide_eq_false (by omega)
   have HTK := hid (show l.take k = l from List.take_of_length_le (by rw [HN.out]; omega))
   go_wp2_with fail
   refine bodyPost_ret (results_none rfl _ _ _) rfl ?_
   exact ⟨rfl, by have h := HS.out; rw [HTK.out] at h; exact h, HBC.out⟩
set_option maxRecDepth 100000 in
set_option maxHeartbeats 6400000 in
theorem each_it (f : It → Ck → Ck) (g : FuncId) (hg : ∀ args u, (callFunc g args).run Tryz.prog u = .ok (.enter g args) u) (w0 w : World) (H : Nat) (s : Ck) (l : List It) (v : Value) (hw : Below w0.heap.size w0 w) (hH : w0.heap.size ≤ H) (hc : CkC w H s) (hv : DIs w0 v (.sl (itsDa l))) (hl : l.length ≤ 1073741823)
  (hE : ∀ (k : Nat) (x : It), l[k]? = some x → ∀ (u : World) (a : Value), Below w0.heap.size w0 u → CkC u H ((l.take k).foldl (fun s x => f x s) s) → ItV w0 a x → Calls Tryz.prog g #[.pointer (some ⟨H, 0, none⟩), a] u (CkE u H (f x ((l.take k).foldl (fun s x => f x s) s)))) :
  Calls Tryz.prog 66 #[v, .func (.func g) #[.pointer (some ⟨H, 0, none⟩)] #[]] w (CkE w H (l.foldl (fun s x => f x s) s)) := by
 obtain ⟨a1, c1, rfl, hc1, hcell1⟩ := its_rows hv
 have HC1 := hid hcell1
 have HE := hid hE
 have HG := hid hg
 have HW := hid hw
 have HCK := hid hc
 generalize hn : l.length = n at *
 have HN := hid hn
 clear hcell1 hn hv hE hg hw hc
 go_enter Tryz.func66, Tryz.ntmps66
 go_wp2_with fail
 go_loopw [8] (fun i wr => ∃ k : Nat, k ≤ n ∧ i = .int .i64 k ∧ Chg (fun k => k = H) w wr ∧ Hid (CkC wr H ((l.take k).foldl (fun s x => f x s) s))) (fun i _ => n - (intOf i).toNat)
 case atStart => exact ⟨0, Nat.zero_le _, rfl, Chg.refl _ _, hid HCK.out⟩
 case round =>
  obtain ⟨k, hk1, rfl, hbw, HS⟩ := hrel
  have hsz := hbw.size
  have HBC := hid hbw
  have HBW := hid (HW.out.trans (hbw.below (B := w0.heap.size) (fun k hk => by omega) HW.out.size))
  clear hbw
  by_cases hlt1 : k < n
  ·obtain ⟨b1, o1, rfl, hb1, hd1⟩ := HC1.out (by omega)
   obtain ⟨x, hx⟩ : ∃ x, l[k]? = some x := ⟨_, List.getElem?_eq_getElem (by rw [HN.out]; exact hlt1)⟩
   obtain ⟨s0, s1, p0, p1, p2, p3, p4, p5, p6, p7, p8, p9, h0, h1⟩ := hd1 k x hx
   replace p0 := (HBW.out.cell (p := ⟨b1, o1 + k * 10, none⟩) hb1).trans p0
   replace p1 := (HBW.out.cell (p := ⟨b1, o1 + k * 10 + 1, none⟩) hb1).trans p1
   replace p2 := (HBW.out.cell (p := ⟨b1, o1 + k * 10 + 2, none⟩) hb1).trans p2
   replace p3 := (HBW.out.cell (p := ⟨b1, o1 + k * 10 + 3, none⟩) hb1).trans p3
   replace p4 := (HBW.out.cell (p := ⟨b1, o1 + k * 10 + 4, none⟩) hb1).trans p4
   replace p5 := (HBW.out.cell (p := ⟨b1, o1 + k * 10 + 5, none⟩) hb1).trans p5
   replace p6 := (HBW.out.cell (p := ⟨b1, o1 + k * 10 + 6, none⟩) hb1).trans p6
   replace p7 := (HBW.out.cell (p := ⟨b1, o1 + k * 10 + 7, none⟩) hb1).trans p7
   replace p8 := (HBW.out.cell (p := ⟨b1, o1 + k * 10 + 8, none⟩) hb1).trans p8
   replace p9 := (HBW.out.cell (p := ⟨b1, o1 + k * 10 + 9, none⟩) hb1).trans p9
   obtain ⟨e0, m0, z0, rfl⟩ := dis_slice h0
   obtain ⟨e1, m1, z1, rfl⟩ := dis_slice h1
   have HCA := hid (fun (o1 : Obj) => HE.out k x hx (wr.alloc o1) _ (HBW.out.alloc HBW.out.size _) ((hp_al HS.out _)) ⟨_, _, rfl, h0, h1⟩)
   have HX := hid hx
   have hb1r : b1 < wr.heap.size := by have := HBW.out.size; omega
   clear hd1 hx h0 h1
   go_wp2_with fail
   rw [HG.out, Oper.upon_enter]
   refine (HCA.out _).mono ?_
   rintro e w1 ⟨rfl, hc1, hb⟩
   have HB1 := hid ((HBC.out.alloc (.cells #[.bool x.star, .int .i64 x.x.op, .string (str x.x.tb), .string (str x.x.nm), .int .i64 x.x.v.k, .int .i64 x.x.v.n, .string (str x.x.v.s), .slice e0 m0 z0, .slice e1 m1 z1, .string (str x.nm)] 42)).trans hb (fun i hi => .inl hi))
   have HS1 := hid hc1
   have hz1 := hb.size
   clear hb hc1 HCA
   go_wp2_with fail
   go_roundw
   case rel => exact ⟨k + 1, by omega, by go_num, HB1.out, hid (by rw [fold_snoc f l k x s HX.out]; exact HS1.out)⟩
   case measure => simp [intOf]; omega
  ·have hkn : k = n := by omega
   subst hkn
   have hcn : decide ((k : Int) < (k : Int)) = false := decide_eq_false (by omega)
   have HTK := hid (show l.take k = l from List.take_of_length_le (by rw [HN.out]; omega))
   go_wp2_with fail
   refine bodyPost_ret (results_none rfl _ _ _) rfl ?_
   exact ⟨rfl, by have h := HS.out; rw [HTK.out] at h; exact h, HBC.out⟩
set_option maxRecDepth 100000 in
set_option maxHeartbeats 6400000 in
theorem each_ob (f : Ob → Ck → Ck) (g : FuncId) (hg : ∀ args u, (callFunc g args).run Tryz.prog u = .ok (.enter g args) u) (w0 w : World) (H : Nat) (s : Ck) (l : List Ob) (v : Value) (hw : Below w0.heap.size w0 w) (hH : w0.heap.size ≤ H) (hc : CkC w H s) (hv : DIs w0 v (.sl (obsDa l))) (hl : l.length ≤ 1073741823)
  (hE : ∀ (k : Nat) (x : Ob), l[k]? = some x → ∀ (u : World) (a : Value), Below w0.heap.size w0 u → CkC u H ((l.take k).foldl (fun s x => f x s) s) → ObV w0 a x → Calls Tryz.prog g #[.pointer (some ⟨H, 0, none⟩), a] u (CkE u H (f x ((l.take k).foldl (fun s x => f x s) s)))) :
  Calls Tryz.prog 44 #[v, .func (.func g) #[.pointer (some ⟨H, 0, none⟩)] #[]] w (CkE w H (l.foldl (fun s x => f x s) s)) := by
 obtain ⟨a1, c1, rfl, hc1, hcell1⟩ := obs_rows hv
 have HC1 := hid hcell1
 have HE := hid hE
 have HG := hid hg
 have HW := hid hw
 have HCK := hid hc
 generalize hn : l.length = n at *
 have HN := hid hn
 clear hcell1 hn hv hE hg hw hc
 go_enter Tryz.func44, Tryz.ntmps44
 go_wp2_with fail
 go_loopw [8] (fun i wr => ∃ k : Nat, k ≤ n ∧ i = .int .i64 k ∧ Chg (fun k => k = H) w wr ∧ Hid (CkC wr H ((l.take k).foldl (fun s x => f x s) s))) (fun i _ => n - (intOf i).toNat)
 case atStart => exact ⟨0, Nat.zero_le _, rfl, Chg.refl _ _, hid HCK.out⟩
 case round =>
  obtain ⟨k, hk1, rfl, hbw, HS⟩ := hrel
  have hsz := hbw.size
  have HBC := hid hbw
  have HBW := hid (HW.out.trans (hbw.below (B := w0.heap.size) (fun k hk => by omega) HW.out.size))
  clear hbw
  by_cases hlt1 : k < n
  ·obtain ⟨b1, o1, rfl, hb1, hd1⟩ := HC1.out (by omega)
   obtain ⟨x, hx⟩ : ∃ x, l[k]? = some x := ⟨_, List.getElem?_eq_getElem (by rw [HN.out]; exact hlt1)⟩
   obtain ⟨s0, s1, p0, p1, p2, p3, p4, p5, p6, p7, p8, h0, h1⟩ := hd1 k x hx
   replace p0 := (HBW.out.cell (p := ⟨b1, o1 + k * 9, none⟩) hb1).trans p0
   replace p1 := (HBW.out.cell (p := ⟨b1, o1 + k * 9 + 1, none⟩) hb1).trans p1
   replace p2 := (HBW.out.cell (p := ⟨b1, o1 + k * 9 + 2, none⟩) hb1).trans p2
   replace p3 := (HBW.out.cell (p := ⟨b1, o1 + k * 9 + 3, none⟩) hb1).trans p3
   replace p4 := (HBW.out.cell (p := ⟨b1, o1 + k * 9 + 4, none⟩) hb1).trans p4
   replace p5 := (HBW.out.cell (p := ⟨b1, o1 + k * 9 + 5, none⟩) hb1).trans p5
   replace p6 := (HBW.out.cell (p := ⟨b1, o1 + k * 9 + 6, none⟩) hb1).trans p6
   replace p7 := (HBW.out.cell (p := ⟨b1, o1 + k * 9 + 7, none⟩) hb1).trans p7
   replace p8 := (HBW.out.cell (p := ⟨b1, o1 + k * 9 + 8, none⟩) hb1).trans p8
   obtain ⟨e0, m0, z0, rfl⟩ := dis_slice h0
   obtain ⟨e1, m1, z1, rfl⟩ := dis_slice h1
   have HCA := hid (fun (o1 : Obj) => HE.out k x hx (wr.alloc o1) _ (HBW.out.alloc HBW.out.size _) ((hp_al HS.out _)) ⟨_, _, rfl, h0, h1⟩)
   have HX := hid hx
   have hb1r : b1 < wr.heap.size := by have := HBW.out.size; omega
   clear hd1 hx h0 h1
   go_wp2_with fail
   rw [HG.out, Oper.upon_enter]
   refine (HCA.out _).mono ?_
   rintro e w1 ⟨rfl, hc1, hb⟩
   have HB1 := hid ((HBC.out.alloc (.cells #[.int .i64 x.x.op, .string (str x.x.tb), .string (str x.x.nm), .int .i64 x.x.v.k, .int .i64 x.x.v.n, .string (str x.x.v.s), .slice e0 m0 z0, .slice e1 m1 z1, .bool x.down] 58)).trans hb (fun i hi => .inl hi))
   have HS1 := hid hc1
   have hz1 := hb.size
   clear hb hc1 HCA
   go_wp2_with fail
   go_roundw
   case rel => exact ⟨k + 1, by omega, by go_num, HB1.out, hid (by rw [fold_snoc f l k x s HX.out]; exact HS1.out)⟩
   case measure => simp [intOf]; omega
  ·have hkn : k = n := by omega
   subst hkn
   have hcn : decide ((k : Int) < (k : Int)) = false := decide_eq_false (by omega)
   have HTK := hid (show l.take k = l from List.take_of_length_le (by rw [HN.out]; omega))
   go_wp2_with fail
   refine bodyPost_ret (results_none rfl _ _ _) rfl ?_
   exact ⟨rfl, by have h := HS.out; rw [HTK.out] at h; exact h, HBC.out⟩
end Go.Proofs.YtegkbagnbnoopaaGreatDoor
/- the checker of print: what its plain function keeps -/
namespace Go.Proofs.YtegkbagnbnoopaaGreatDoor
open Go.ChangeShapes Go.WideShapes Go.ChangeAt Go.RowKit Go.Deep
open Go.Lib (hid)
structure Pr (s s' : Ck) : Prop where
 op : s'.op = s.op
 nd : s.nd ≤ s'.nd
theorem Pr.refl (s : Ck) : Pr s s := ⟨rfl, Int.le_refl _⟩
theorem Pr.trans {a b c : Ck} (h : Pr a b) (k : Pr b c) : Pr a c := ⟨k.op.trans h.op, Int.le_trans h.nd k.nd⟩
theorem pr_req (s : Ck) (b : Bool) : Pr s (s.req b) := ⟨rfl, Int.le_refl _⟩
theorem pr_nam (s : Ck) (l : List Int) : Pr s (s.nam l) := ⟨rfl, Int.le_refl _⟩
theorem pr_opt (s : Ck) (l : List Int) : Pr s (s.opt l) := by unfold Ck.opt; split; exact Pr.refl _; exact pr_nam _ _
theorem pr_inv (s : Ck) (b : Bool) : Pr s (s.inv b) := ⟨rfl, Int.le_refl _⟩
theorem pr_more (s : Ck) : Pr s s.more := ⟨rfl, by show s.nd ≤ s.nd + 1; omega⟩
theorem pr_lv {s s' : Ck} (h : Pr s.enter s') : Pr s s'.leave := ⟨by show s'.op - 1 = s.op; rw [h.op]; show s.op + 1 - 1 = s.op; omega, by have := h.nd; show s.nd ≤ s'.nd; have e : s.enter.nd = s.nd + 1 := rfl; omega⟩
theorem pr_if {s a b : Ck} {c : Prop} [Decidable c] (h1 : c → Pr s a) (h2 : ¬ c → Pr s b) : Pr s (if c then a else b) := by split; exact h1 ‹_›; exact h2 ‹_›
/-- an expression within -/
def exB (op : Int) (tb nm : List Int) (v : Val) (args : List Ex) (qs : List Qu) (s : Ck) : Ck := if op = 1 then (s.req (hasF op tb nm v args.length qs.length)).inv (mayV v) else if op = 2 then ((s.req (hasF op tb nm v args.length qs.length)).opt tb).nam nm else s.req (hasF op tb nm v args.length qs.length)
theorem pr_exB (op : Int) (tb nm : List Int) (v : Val) (args : List Ex) (qs : List Qu) (s : Ck) : Pr s (exB op tb nm v args qs s) :=
 pr_if (fun _ => (pr_req _ _).trans (pr_inv _ _)) (fun _ => pr_if (fun _ => ((pr_req _ _).trans (pr_opt _ _)).trans (pr_nam _ _)) (fun _ => pr_req _ _))
mutual
theorem Ex.pr : ∀ (x : Ex) (s : Ck), Pr s (x.ck s)
 | .mk op tb nm v args qs, s => by
  unfold Ex.ck
  exact pr_lv (pr_if (fun _ => Pr.refl _) (fun _ => ((pr_exB op tb nm v args qs s.enter).trans (exs_pr args _)).trans (qus_pr qs _)))
theorem exs_pr : ∀ (l : List Ex) (s : Ck), Pr s (exsCk l s)
 | [], _ => Pr.refl _
 | x :: l, s => by unfold exsCk; exact (x.pr s).trans (exs_pr l _)
theorem Qu.pr : ∀ (x : Qu) (s : Ck), Pr s (x.ck s)
 | .mk op parts sel ord lim n, s => by
  unfold Qu.ck
  exact pr_lv (pr_if (fun _ => Pr.refl _) (fun _ => ((((pr_req _ _).trans (pr_req _ _)).trans (qus_pr parts _)).trans (sel.pr _)).trans (obs_pr ord _)))
theorem qus_pr : ∀ (l : List Qu) (s : Ck), Pr s (qusCk l s)
 | [], _ => Pr.refl _
 | x :: l, s => by unfold qusCk; exact ((pr_req _ _).trans (x.pr _)).trans (qus_pr l _)
theorem Se.pr : ∀ (x : Se) (s : Ck), Pr s (x.ck s)
 | .mk _ items fro wh gr hv, s => by
  unfold Se.ck
  exact ((((((its_pr items s).trans (sos_pr true fro _)).trans (pr_req _ _)).trans (exs_pr wh _)).trans (exs_pr gr _)).trans (pr_req _ _)).trans (exs_pr hv _)
theorem It.pr : ∀ (x : It) (s : Ck), Pr s (x.ck s)
 | .mk star x nm, s => by
  unfold It.ck
  exact pr_if (fun _ => ((pr_more _).trans (pr_opt _ _)).trans (pr_req _ _)) (fun _ => (((pr_more _).trans (pr_opt _ _)).trans (pr_req _ _)).trans (x.pr _))
theorem its_pr : ∀ (l : List It) (s : Ck), Pr s (itsCk l s)
 | [], _ => Pr.refl _
 | x :: l, s => by unfold itsCk; exact (x.pr s).trans (its_pr l _)
theorem So.pr : ∀ (x : So) (s : Ck), Pr s (x.ck s)
 | .mk kind tb q al on, s => by
  unfold So.ck
  exact (((pr_if (fun _ => (pr_more _).trans (pr_nam _ _)) (fun _ => (pr_more _).trans (pr_req _ _))).trans (pr_opt _ _)).trans (qus_pr q _)).trans (exs_pr on _)
theorem sos_pr : ∀ (f : Bool) (l : List So) (s : Ck), Pr s (sosCk f l s)
 | _, [], _ => Pr.refl _
 | f, x :: l, s => by unfold sosCk; exact ((pr_req _ _).trans (x.pr _)).trans (sos_pr false l _)
theorem Ob.pr : ∀ (x : Ob) (s : Ck), Pr s (x.ck s)
 | .mk x _, s => by unfold Ob.ck; exact (pr_more _).trans (x.pr _)
theorem obs_pr : ∀ (l : List Ob) (s : Ck), Pr s (obsCk l s)
 | [], _ => Pr.refl _
 | x :: l, s => by unfold obsCk; exact (x.pr s).trans (obs_pr l _)
end
theorem exs_fold : ∀ (l : List Ex) (s : Ck), exsCk l s = l.foldl (fun s x => x.ck s) s
 | [], _ => rfl
 | x :: l, s => by unfold exsCk; rw [List.foldl_cons]; exact exs_fold l _
def Qu.ckI (x : Qu) (s : Ck) : Ck := x.ck (s.req (x.ord.isEmpty && !x.lim))
theorem qus_fold : ∀ (l : List Qu) (s : Ck), qusCk l s = l.foldl (fun s x => x.ckI s) s
 | [], _ => rfl
 | x :: l, s => by unfold qusCk; rw [List.foldl_cons]; exact qus_fold l _
theorem its_fold : ∀ (l : List It) (s : Ck), itsCk l s = l.foldl (fun s x => x.ck s) s
 | [], _ => rfl
 | x :: l, s => by unfold itsCk; rw [List.foldl_cons]; exact its_fold l _
theorem obs_fold : ∀ (l : List Ob) (s : Ck), obsCk l s = l.foldl (fun s x => x.ck s) s
 | [], _ => rfl
 | x :: l, s => by unfold obsCk; rw [List.foldl_cons]; exact obs_fold l _
theorem fold_pr {α : Type} (f : α → Ck → Ck) (hf : ∀ x s, Pr s (f x s)) : ∀ (l : List α) (s : Ck), Pr s (l.foldl (fun s x => f x s) s)
 | [], _ => Pr.refl _
 | x :: l, s => (hf x s).trans (fold_pr f hf l _)
theorem fold_split {α : Type} (f : α → Ck → Ck) (l : List α) (k : Nat) (x : α) (s : Ck) (h : l[k]? = some x) : l.foldl (fun s x => f x s) s = (l.drop (k + 1)).foldl (fun s x => f x s) (f x ((l.take k).foldl (fun s x => f x s) s)) := by
 rw [← fold_snoc f l k x s h, ← List.foldl_append, List.take_append_drop]
/-- what a state must meet, and what comes of it -/
structure Gd (s s' : Ck) : Prop where
 o1 : 0 ≤ s.op
 o2 : s.op ≤ 24
 n1 : 0 ≤ s.nd
 n2 : s'.nd ≤ 1099511627776
/-- a part of what is done -/
theorem Gd.part {s s' a b : Ck} (h : Gd s s') (h1 : Pr s a) (h2 : Pr b s') : Gd a b := ⟨by rw [h1.op]; exact h.o1, by rw [h1.op]; exact h.o2, Int.le_trans h.n1 h1.nd, Int.le_trans h2.nd h.n2⟩
theorem Gd.nd {s s' : Ck} (h : Gd s s') (h2 : Pr s s') : s.nd ≤ 1099511627776 := Int.le_trans h2.nd h.n2
theorem Gd.fold {α : Type} {f : α → Ck → Ck} (hf : ∀ x s, Pr s (f x s)) {l : List α} {k : Nat} {x : α} {s : Ck} (h : Gd s (l.foldl (fun s x => f x s) s)) (hx : l[k]? = some x) : Gd ((l.take k).foldl (fun s x => f x s) s) (f x ((l.take k).foldl (fun s x => f x s) s)) :=
 h.part (fold_pr f hf _ _) (by rw [fold_split f l k x s hx]; exact fold_pr f hf _ _)
theorem bw {w0 w u : World} {H : Nat} (hw : Below w0.heap.size w0 w) (h : Chg (fun k => k = H) w u) (hH : w0.heap.size ≤ H) : Below w0.heap.size w0 u := hw.trans (h.below (B := w0.heap.size) (fun k hk => by omega) hw.size)
theorem len0 {α : Type} (l : List α) : ((l.length : Int) == 0) = l.isEmpty := by cases l <;> simp <;> omega
end Go.Proofs.YtegkbagnbnoopaaGreatDoor
/- the checker of print: one step of each method -/
namespace Go.Proofs.YtegkbagnbnoopaaGreatDoor
open Go.ChangeShapes Go.WideShapes Go.ChangeAt Go.RowKit Go.Deep
open Go.Lib (hid)
def CEx (w0 : World) (x : Ex) : Prop := ∀ (H : Nat) (s : Ck) (u : World) (v : Value), w0.heap.size ≤ H → Below w0.heap.size w0 u → CkC u H s → ExV w0 v x → Gd s (x.ck s) → Calls Tryz.prog 71 #[.pointer (some ⟨H, 0, none⟩), v] u (CkE u H (x.ck s))
def CQu (w0 : World) (x : Qu) : Prop := ∀ (H : Nat) (s : Ck) (u : World) (v : Value), w0.heap.size ≤ H → Below w0.heap.size w0 u → CkC u H s → QuV w0 v x → Gd s (x.ck s) → Calls Tryz.prog 22 #[.pointer (some ⟨H, 0, none⟩), v] u (CkE u H (x.ck s))
def CIt (w0 : World) (x : It) : Prop := ∀ (H : Nat) (s : Ck) (u : World) (v : Value), w0.heap.size ≤ H → Below w0.heap.size w0 u → CkC u H s → ItV w0 v x → Gd s (x.ck s) → Calls Tryz.prog 67 #[.pointer (some ⟨H, 0, none⟩), v] u (CkE u H (x.ck s))
def CSo (w0 : World) (x : So) : Prop := ∀ (H : Nat) (s : Ck) (u : World) (v : Value), w0.heap.size ≤ H → Below w0.heap.size w0 u → CkC u H s → SoV w0 v x → Gd s (x.ck s) → Calls Tryz.prog 69 #[.pointer (some ⟨H, 0, none⟩), v] u (CkE u H (x.ck s))
def CSe (w0 : World) (x : Se) : Prop := ∀ (H : Nat) (s : Ck) (u : World) (v : Value), w0.heap.size ≤ H → Below w0.heap.size w0 u → CkC u H s → SeV w0 v x → Gd s (x.ck s) → Calls Tryz.prog 43 #[.pointer (some ⟨H, 0, none⟩), v] u (CkE u H (x.ck s))
def COb (w0 : World) (x : Ob) : Prop := ∀ (H : Nat) (s : Ck) (u : World) (v : Value), w0.heap.size ≤ H → Below w0.heap.size w0 u → CkC u H s → ObV w0 v x → Gd s (x.ck s) → Calls Tryz.prog 45 #[.pointer (some ⟨H, 0, none⟩), v] u (CkE u H (x.ck s))
def CIn (w0 : World) (x : Qu) : Prop := ∀ (H : Nat) (s : Ck) (u : World) (v : Value), w0.heap.size ≤ H → Below w0.heap.size w0 u → CkC u H s → QuV w0 v x → Gd s (x.ckI s) → Calls Tryz.prog 42 #[.pointer (some ⟨H, 0, none⟩), v] u (CkE u H (x.ckI s))
theorem call_expr (args : Array Value) (u : World) : (callFunc 71 args).run Tryz.prog u = .ok (.enter 71 args) u := by kernel_rfl
theorem call_inner (args : Array Value) (u : World) : (callFunc 42 args).run Tryz.prog u = .ok (.enter 42 args) u := by kernel_rfl
theorem call_item (args : Array Value) (u : World) : (callFunc 67 args).run Tryz.prog u = .ok (.enter 67 args) u := by kernel_rfl
theorem call_order (args : Array Value) (u : World) : (callFunc 45 args).run Tryz.prog u = .ok (.enter 45 args) u := by kernel_rfl
theorem qu_prI (x : Qu) (s : Ck) : Pr s (x.ckI s) := (pr_req _ _).trans (x.pr _)
theorem eachEx {w0 w : World} {H : Nat} {s : Ck} {l : List Ex} {v : Value} (hw : Below w0.heap.size w0 w) (hH : w0.heap.size ≤ H) (hc : CkC w H s) (hv : DIs w0 v (.sl (exsDa l))) (hl : l.length ≤ 1073741823) (hE : ∀ x ∈ l, CEx w0 x) (g : Gd s (exsCk l s)) :
  Calls Tryz.prog 70 #[v, .func (.func 71) #[.pointer (some ⟨H, 0, none⟩)] #[]] w (CkE w H (exsCk l s)) := by
 rw [exs_fold] at g ⊢
 exact each_ex Ex.ck 71 call_expr w0 w H s l v hw hH hc hv hl (fun k x hx u a hu hcu ha => hE x (List.mem_of_getElem? hx) H _ u a hH hu hcu ha (g.fold Ex.pr hx))
theorem eachQu {w0 w : World} {H : Nat} {s : Ck} {l : List Qu} {v : Value} (hw : Below w0.heap.size w0 w) (hH : w0.heap.size ≤ H) (hc : CkC w H s) (hv : DIs w0 v (.sl (qusDa l))) (hl : l.length ≤ 1073741823) (hE : ∀ x ∈ l, CIn w0 x) (g : Gd s (qusCk l s)) :
  Calls Tryz.prog 41 #[v, .func (.func 42) #[.pointer (some ⟨H, 0, none⟩)] #[]] w (CkE w H (qusCk l s)) := by
 rw [qus_fold] at g ⊢
 exact each_qu Qu.ckI 42 call_inner w0 w H s l v hw hH hc hv hl (fun k x hx u a hu hcu ha => hE x (List.mem_of_getElem? hx) H _ u a hH hu hcu ha (g.fold qu_prI hx))
theorem eachIt {w0 w : World} {H : Nat} {s : Ck} {l : List It} {v : Value} (hw : Below w0.heap.size w0 w) (hH : w0.heap.size ≤ H) (hc : CkC w H s) (hv : DIs w0 v (.sl (itsDa l))) (hl : l.length ≤ 1073741823) (hE : ∀ x ∈ l, CIt w0 x) (g : Gd s (itsCk l s)) :
  Calls Tryz.prog 66 #[v, .func (.func 67) #[.pointer (some ⟨H, 0, none⟩)] #[]] w (CkE w H (itsCk l s)) := by
 rw [its_fold] at g ⊢
 exact each_it It.ck 67 call_item w0 w H s l v hw hH hc hv hl (fun k x hx u a hu hcu ha => hE x (List.mem_of_getElem? hx) H _ u a hH hu hcu ha (g.fold It.pr hx))
theorem eachOb {w0 w : World} {H : Nat} {s : Ck} {l : List Ob} {v : Value} (hw : Below w0.heap.size w0 w) (hH : w0.heap.size ≤ H) (hc : CkC w H s) (hv : DIs w0 v (.sl (obsDa l))) (hl : l.length ≤ 1073741823) (hE : ∀ x ∈ l, COb w0 x) (g : Gd s (obsCk l s)) :
  Calls Tryz.prog 44 #[v, .func (.func 45) #[.pointer (some ⟨H, 0, none⟩)] #[]] w (CkE w H (obsCk l s)) := by
 rw [obs_fold] at g ⊢
 exact each_ob Ob.ck 45 call_order w0 w H s l v hw hH hc hv hl (fun k x hx u a hu hcu ha => hE x (List.mem_of_getElem? hx) H _ u a hH hu hcu ha (g.fold Ob.pr hx))
set_option maxRecDepth 100000 in
set_option maxHeartbeats 6400000 in
theorem clause_step {w0 w : World} {H : Nat} {s : Ck} {l : List Ex} {v : Value} (hw : Below w0.heap.size w0 w) (hH : w0.heap.size ≤ H) (hc : CkC w H s) (hv : DIs w0 v (.sl (exsDa l))) (hl : l.length ≤ 1073741823) (hE : ∀ x ∈ l, CEx w0 x) (g : Gd s (exsCk l (s.req (decide (l.length ≤ 1))))) :
  Calls Tryz.prog 57 #[.pointer (some ⟨H, 0, none⟩), v] w (CkE w H (exsCk l (s.req (decide (l.length ≤ 1))))) := by
 have HC1 := hid (fun (u : World) (b : Bool) (h : CkC u H s) => req_any H s b u h)
 have HC2 := hid (fun (u : World) (h : CkC u H (s.req (decide (l.length ≤ 1)))) (hb : Below w0.heap.size w0 u) => eachEx hb hH h hv hl hE (g.part (pr_req _ _) (Pr.refl _)))
 obtain ⟨a, c, rfl, -, -⟩ := exs_rows hv
 have HS0 := hid hc
 have HB0 := hid (Chg.refl (fun k => k = H) w)
 have HW := hid hw
 clear hv hE g hc hw
 generalize exsCk l (s.req (decide (l.length ≤ 1))) = s' at *
 generalize hn : l.length = n at *
 clear hn
 by_cases h1 : n ≤ 1
 ·have d1 : decide ((n : Int) ≤ 1) = true := decide_eq_true (by omega)
  rw [decide_eq_true h1] at HC2
  go_enter Tryz.func57, Tryz.ntmps57
  go_wp2_with (first
   | (go_at_call 40; refine (HC1.out _ _ HS0.out).mono ?_; clear HC1; rintro e w1 ⟨rfl, hc, hb⟩; have HS1 := hid hc; have HB1 := hid (chg1 HB0.out hb); clear hb hc)
   | (go_at_call 70; refine (HC2.out _ HS1.out (bw HW.out HB1.out hH)).mono ?_; clear HC2; rintro e w2 ⟨rfl, hc, hb⟩; have HS2 := hid hc; have HB2 := hid (chg1 HB1.out hb); clear hb hc))
  refine bodyPost_ret (results_none rfl _ _ _) rfl ?_
  exact ⟨rfl, HS2.out, HB2.out⟩
 ·have d1 : decide ((n : Int) ≤ 1) = false := decide_eq_false (by omega)
  rw [decide_eq_false h1] at HC2
  go_enter Tryz.func57, Tryz.ntmps57
  go_wp2_with (first
   | (go_at_call 40; refine (HC1.out _ _ HS0.out).mono ?_; clear HC1; rintro e w1 ⟨rfl, hc, hb⟩; have HS1 := hid hc; have HB1 := hid (chg1 HB0.out hb); clear hb hc)
   | (go_at_call 70; refine (HC2.out _ HS1.out (bw HW.out HB1.out hH)).mono ?_; clear HC2; rintro e w2 ⟨rfl, hc, hb⟩; have HS2 := hid hc; have HB2 := hid (chg1 HB1.out hb); clear hb hc))
  refine bodyPost_ret (results_none rfl _ _ _) rfl ?_
  exact ⟨rfl, HS2.out, HB2.out⟩
set_option maxRecDepth 100000 in
set_option maxHeartbeats 6400000 in
theorem inner_step {w0 : World} {x : Qu} (hQ : CQu w0 x) : CIn w0 x := by
 intro H s w v hH hw hc hv g
 have HV := hid hv
 obtain ⟨p0, p1, p2, p3, p4, p5, p6, rfl, h0, h1, h2, h3, h4, h5, h6⟩ := hv
 obtain ⟨a8, c8, rfl, -, -⟩ := obs_rows h6
 obtain ⟨e0, m0, z0, rfl⟩ := dis_slice h0
 obtain ⟨e1, m1, z1, rfl⟩ := dis_slice h1
 obtain ⟨e2, m2, z2, rfl⟩ := dis_slice h2
 obtain ⟨e3, m3, z3, rfl⟩ := dis_slice h3
 obtain ⟨e4, m4, z4, rfl⟩ := dis_slice h4
 obtain ⟨e5, m5, z5, rfl⟩ := dis_slice h5
 have HC1 := hid (fun (u : World) (b : Bool) (h : CkC u H s) => req_any H s b u h)
 have HC2 := hid (fun (u : World) (h : CkC u H (s.req (x.ord.isEmpty && !x.lim))) (hb : Below w0.heap.size w0 u) => hQ H _ u _ hH hb h HV.out (g.part (pr_req _ _) (Pr.refl _)))
 have HS0 := hid (fun o => hp_al hc o)
 have HB0 := hid (fun o => (Chg.refl (fun k => k = H) w).alloc o)
 have HX0 := hid (heap_alloc_new w (.cells #[.int .i64 x.op, .slice e0 m0 z0, .bool x.sel.dist, .slice e1 m1 z1, .slice e2 m2 z2, .slice e3 m3 z3, .slice e4 m4 z4, .slice e5 m5 z5, .slice a8 x.ord.length c8, .bool x.lim, .int .i64 x.n] 30))
 have HNE := hid (show w.heap.size ≠ H from by have := hc.lt; omega)
 have HW := hid hw
 have b1 := len0 x.ord
 have e1 : x.ckI s = x.ck (s.req (x.ord.isEmpty && !x.lim)) := rfl
 rw [e1]
 clear h0 h1 h2 h3 h4 h5 h6 HV hc g hw hQ e1
 generalize x.ck (s.req (x.ord.isEmpty && !x.lim)) = s' at *
 generalize x.ord.isEmpty = be at *
 generalize x.ord.length = n8 at *
 generalize x.lim = bl at *
 generalize x.op = o0 at *
 generalize x.n = o1 at *
 generalize x.sel.dist = o2 at *
 cases be <;> cases bl
 all_goals
  go_enter Tryz.func42, Tryz.ntmps42
  go_wp2_with (first
   | (go_at_call 40; refine (HC1.out _ _ (HS0.out _)).mono ?_; clear HC1; rintro e w1 ⟨rfl, hc, hb⟩; have x1 := chg1_blk hb HX0.out HNE.out; have c1_0 := cell_at x1 0 rfl; have c1_1 := cell_at x1 1 rfl; have c1_2 := cell_at x1 2 rfl; have c1_3 := cell_at x1 3 rfl; have c1_4 := cell_at x1 4 rfl; have c1_5 := cell_at x1 5 rfl; have c1_6 := cell_at x1 6 rfl; have c1_7 := cell_at x1 7 rfl; have c1_8 := cell_at x1 8 rfl; have c1_9 := cell_at x1 9 rfl; have c1_10 := cell_at x1 10 rfl; have HS1 := hid hc; have HB1 := hid (chg1 (HB0.out _) hb); clear hb hc x1)
   | (go_at_call 22; refine (HC2.out _ HS1.out (bw HW.out HB1.out hH)).mono ?_; clear HC2; rintro e w2 ⟨rfl, hc, hb⟩; have HS2 := hid hc; have HB2 := hid (chg1 HB1.out hb); clear hb hc))
  refine bodyPost_ret (results_none rfl _ _ _) rfl ?_
  exact ⟨rfl, HS2.out, HB2.out⟩
end Go.Proofs.YtegkbagnbnoopaaGreatDoor
/- the checker of print: one step of joins, order -/
namespace Go.Proofs.YtegkbagnbnoopaaGreatDoor
open Go.ChangeShapes Go.WideShapes Go.ChangeAt Go.RowKit Go.Deep
open Go.Lib (hid)
set_option maxRecDepth 100000 in
set_option maxHeartbeats 6400000 in
theorem joins_step {w0 w : World} {H : Nat} {s : Ck} {x : So} {v : Value} (b : Bool) (hc : CkC w H s) (hv : SoV w0 v x) : Calls Tryz.prog 68 #[.pointer (some ⟨H, 0, none⟩), .bool b, v] w (CkE w H (s.req (joinsOK b x.kind x.on.length))) := by
 obtain ⟨p0, p1, rfl, h0, h1⟩ := hv
 obtain ⟨e0, m0, z0, rfl⟩ := dis_slice h0
 obtain ⟨a1, k1, rfl, -, -⟩ := exs_rows h1
 have HS0 := hid (fun o => hp_al hc o)
 have HB0 := hid (fun o => (Chg.refl (fun k => k = H) w).alloc o)
 have HX0 := hid (heap_alloc_new w (.cells #[.int .i64 x.kind, .string (str x.tb), .slice e0 m0 z0, .string (str x.al), .slice a1 x.on.length k1] 44))
 have HNE := hid (show w.heap.size ≠ H from by have := hc.lt; omega)
 have HC1 := hid (fun (u : World) (b : Bool) (h : CkC u H s) => req_any H s b u h)
 have HJ := hid (show joinsOK b x.kind x.on.length = (if b = true then decide (x.kind = 0) && decide (x.on.length = 0) else (decide (x.kind = 1) || decide (x.kind = 2)) && decide (x.on.length = 1)) from rfl)
 rw [HJ.out]
 have k0 : (x.kind == (0 : Int)) = decide (x.kind = 0) := rfl
 have k1 : (x.kind == (1 : Int)) = decide (x.kind = 1) := rfl
 have k2 : (x.kind == (2 : Int)) = decide (x.kind = 2) := rfl
 have l0 : ((x.on.length : Int) == 0) = decide (x.on.length = 0) := by rw [Bool.eq_iff_iff, beq_iff_eq, decide_eq_true_eq]; omega
 have l1 : ((x.on.length : Int) == 1) = decide (x.on.length = 1) := by rw [Bool.eq_iff_iff, beq_iff_eq, decide_eq_true_eq]; omega
 clear HJ hc h0 h1
 generalize decide (x.kind = 0) = d0 at *
 generalize decide (x.kind = 1) = d1 at *
 generalize decide (x.kind = 2) = d2 at *
 generalize decide (x.on.length = 0) = g0 at *
 generalize decide (x.on.length = 1) = g1 at *
 generalize x.kind = o0 at *
 generalize x.tb = o1 at *
 generalize x.al = o2 at *
 generalize x.on.length = o3 at *
 cases b with
 | true =>
  cases d0 <;> cases g0
  all_goals
   go_enter Tryz.func68, Tryz.ntmps68
   go_wp2_with (first
    | (go_at_call 40; refine (HC1.out _ _ (HS0.out _)).mono ?_; clear HC1; rintro e w1 ⟨rfl, hc, hb⟩; have x1 := chg1_blk hb HX0.out HNE.out; have c1_0 := cell_at x1 0 rfl; have c1_1 := cell_at x1 1 rfl; have c1_2 := cell_at x1 2 rfl; have c1_3 := cell_at x1 3 rfl; have c1_4 := cell_at x1 4 rfl; have HX1 := hid x1; have HS1 := hid hc; have HB1 := hid (chg1 (HB0.out _) hb); clear hb hc x1)
    | fail)
   refine bodyPost_ret (results_none rfl _ _ _) rfl ?_
   exact ⟨rfl, HS1.out, HB1.out⟩
 | false =>
  cases d1 <;> cases d2 <;> cases g1
  all_goals
   go_enter Tryz.func68, Tryz.ntmps68
   go_wp2_with (first
    | (go_at_call 40; refine (HC1.out _ _ (HS0.out _)).mono ?_; clear HC1; rintro e w1 ⟨rfl, hc, hb⟩; have x1 := chg1_blk hb HX0.out HNE.out; have c1_0 := cell_at x1 0 rfl; have c1_1 := cell_at x1 1 rfl; have c1_2 := cell_at x1 2 rfl; have c1_3 := cell_at x1 3 rfl; have c1_4 := cell_at x1 4 rfl; have HX1 := hid x1; have HS1 := hid hc; have HB1 := hid (chg1 (HB0.out _) hb); clear hb hc x1)
    | fail)
   refine bodyPost_ret (results_none rfl _ _ _) rfl ?_
   exact ⟨rfl, HS1.out, HB1.out⟩
set_option maxRecDepth 100000 in
set_option maxHeartbeats 6400000 in
theorem order_step {w0 : World} {x : Ob} (hE : CEx w0 x.x) : COb w0 x := by
 intro H s w v hH hw hc hv g
 obtain ⟨p0, p1, rfl, h0, h1⟩ := hv
 obtain ⟨e0, m0, z0, rfl⟩ := dis_slice h0
 obtain ⟨e1, m1, z1, rfl⟩ := dis_slice h1
 obtain ⟨c0, c1, c2, c3, c4, c5, cf⟩ := hc.cells
 have f1 := cf 1
 have hn1 := g.n1
 have hn2 := g.nd (x.pr s)
 have hH2 := hc.lt
 have HS0 := hid (fun o => hp_al (CkC.set1 hc (s.nd + 1)) o)
 have HB0 := hid (fun o => (chs (Chg.refl (fun k => k = H) w) 1 (.int .i64 (s.nd + 1))).alloc o)
 have HX0 := hid (show ((w.setCell ⟨H, 1, none⟩ (.int .i64 (s.nd + 1))).alloc (.cells #[.int .i64 x.x.op, .string (str x.x.tb), .string (str x.x.nm), .int .i64 x.x.v.k, .int .i64 x.x.v.n, .string (str x.x.v.s), .slice e0 m0 z0, .slice e1 m1 z1, .bool x.down] 58)).heap[w.heap.size]? = some (.cells #[.int .i64 x.x.op, .string (str x.x.tb), .string (str x.x.nm), .int .i64 x.x.v.k, .int .i64 x.x.v.n, .string (str x.x.v.s), .slice e0 m0 z0, .slice e1 m1 z1, .bool x.down] 58) from by
  have h := heap_alloc_new (w.setCell ⟨H, 1, none⟩ (.int .i64 (s.nd + 1))) (.cells #[.int .i64 x.x.op, .string (str x.x.tb), .string (str x.x.nm), .int .i64 x.x.v.k, .int .i64 x.x.v.n, .string (str x.x.v.s), .slice e0 m0 z0, .slice e1 m1 z1, .bool x.down] 58)
  rwa [show (w.setCell ⟨H, 1, none⟩ (.int .i64 (s.nd + 1))).heap.size = w.heap.size from by simp] at h)
 have HNE := hid (show w.heap.size ≠ H from by omega)
 have HW := hid hw
 have e1 : x.ck s = x.x.ck s.more := by cases x; unfold Ob.ck; rfl
 have HC1 := hid (fun (u : World) (h : CkC u H s.more) (hb : Below w0.heap.size w0 u) => hE H s.more u _ hH hb h ⟨_, _, rfl, h0, h1⟩ (by have g2 := g; rw [e1] at g2; exact g2.part (pr_more _) (Pr.refl _)))
 rw [e1]
 clear cf hc g hw hE e1 h0 h1
 go_enter Tryz.func45, Tryz.ntmps45
 go_wp2_with (first
  | (go_at_call 71; refine (HC1.out _ (HS0.out _) (bw HW.out (HB0.out _) hH)).mono ?_; clear HC1; rintro e w1 ⟨rfl, hc, hb⟩; have x1 := chg1_blk hb HX0.out HNE.out; have c1_0 := cell_at x1 0 rfl; have c1_1 := cell_at x1 1 rfl; have c1_2 := cell_at x1 2 rfl; have c1_3 := cell_at x1 3 rfl; have c1_4 := cell_at x1 4 rfl; have c1_5 := cell_at x1 5 rfl; have c1_6 := cell_at x1 6 rfl; have c1_7 := cell_at x1 7 rfl; have c1_8 := cell_at x1 8 rfl; have HX1 := hid x1; have HS1 := hid hc; have HB1 := hid (chg1 (HB0.out _) hb); clear hb hc x1)
  | fail)
 refine bodyPost_ret (results_none rfl _ _ _) rfl ?_
 exact ⟨rfl, HS1.out, HB1.out⟩
end Go.Proofs.YtegkbagnbnoopaaGreatDoor
/- the checker of print: one step of item -/
namespace Go.Proofs.YtegkbagnbnoopaaGreatDoor
open Go.ChangeShapes Go.WideShapes Go.ChangeAt Go.RowKit Go.Deep
open Go.Lib (hid)
theorem sizeR_mem {r : List Da} {d : Da} (h : d ∈ r) : Da.size d ≤ Da.sizeR r := by
 induction r with
 | nil => cases h
 | cons y r ih =>
  rw [sizeR_cons]
  rcases List.mem_cons.1 h with rfl | h
  ·omega
  ·have := ih h; omega
theorem str_in {r : List Da} {l : List Int} (h : dS l ∈ r) : l.length ≤ Da.sizeR r := by
 have h1 := sizeR_mem h
 have h2 : Da.size (dS l) = (str l).size + 1 := rfl
 rw [str_len] at h2
 omega
theorem ex_tb_len (x : Ex) : x.tb.length ≤ Da.sizeR x.da := by cases x; exact str_in (by simp [Ex.da, Ex.tb])
theorem ex_nm_len (x : Ex) : x.nm.length ≤ Da.sizeR x.da := by cases x; exact str_in (by simp [Ex.da, Ex.nm])
theorem it_nm_len (x : It) : x.nm.length ≤ Da.sizeR x.da := by cases x; exact str_in (by simp [It.da, It.nm])
theorem so_tb_len (x : So) : x.tb.length ≤ Da.sizeR x.da := by cases x; exact str_in (by simp [So.da, So.tb])
theorem so_al_len (x : So) : x.al.length ≤ Da.sizeR x.da := by cases x; exact str_in (by simp [So.da, So.al])
theorem nil_dis {w : World} : DIs w (.slice none 0 0) (.sl []) := .sl none 0 0 0 [] (fun _ _ => undef) rfl (Nat.le_refl 0) (fun r hr => by cases hr) (fun h0 => absurd h0 (Nat.lt_irrefl 0)) (fun i j r x hi => by simp at hi) (fun i j r x hi => by simp at hi)
theorem zE_V (w : World) : ExV w (.agg #[.int .i64 0, .string ⟨#[]⟩, .string ⟨#[]⟩, .int .i64 0, .int .i64 0, .string ⟨#[]⟩, .slice none 0 0, .slice none 0 0]) zE := ⟨_, _, rfl, nil_dis, nil_dis⟩
theorem zS_V (w : World) : SeV w (.agg #[.bool false, .slice none 0 0, .slice none 0 0, .slice none 0 0, .slice none 0 0, .slice none 0 0]) zS := ⟨_, _, _, _, _, rfl, nil_dis, nil_dis, nil_dis, nil_dis, nil_dis⟩
theorem zE_OK : zE.OK := ⟨⟨by decide, by decide⟩, (fun x h => by cases h), (fun x h => by cases h), ⟨(fun x h => by cases h), by decide, by decide, by decide, by decide⟩, trivial, trivial⟩
theorem zS_OK : zS.OK := ⟨trivial, trivial, trivial, trivial, trivial⟩
theorem isZ_iff (x : Ex) : x = zE ↔ x.isZ = true := by
 obtain ⟨op, tb, nm, v, args, qs⟩ := x
 simp [zE, Ex.isZ, List.isEmpty_iff]
theorem se_isZ_iff (x : Se) : x = zS ↔ x.isZ = true := by
 obtain ⟨d, i, f, w, g, h⟩ := x
 simp [zS, Se.isZ, List.isEmpty_iff]
theorem bo_of {w : World} {p : Prop} {b : Bool} (h : p ↔ b = true) {e : Ending} {w' : World} (hq : EQ w p e w') : BO w b e w' := by
 obtain ⟨c, rfl, hc, hb⟩ := hq
 have : c = b := by rw [Bool.eq_iff_iff, hc, h]
 rw [this]
 exact ⟨rfl, hb⟩
theorem sameExprZ (x : Ex) (w : World) (v : Value) (hz : Da.sizeR x.da ≤ 1073741824) (ox : x.OK) (hx : ExV w v x) : Calls Tryz.prog 32 #[v, .agg #[.int .i64 0, .string ⟨#[]⟩, .string ⟨#[]⟩, .int .i64 0, .int .i64 0, .string ⟨#[]⟩, .slice none 0 0, .slice none 0 0]] w (BO w x.isZ) :=
 ((same_all _).1 x zE w v _ (Nat.lt_succ_self _) hz (by decide) ox zE_OK hx (zE_V w)).mono (fun _ _ h => bo_of (isZ_iff x) h)
theorem sameSelZ (x : Se) (w : World) (v : Value) (h0 : Da.sizeK (itsDa x.items) ≤ 1073741824) (h1 : Da.sizeK (sosDa x.fro) ≤ 1073741824) (h2 : Da.sizeK (exsDa x.wh) ≤ 1073741824) (h3 : Da.sizeK (exsDa x.gr) ≤ 1073741824) (h4 : Da.sizeK (exsDa x.hv) ≤ 1073741824) (ox : x.OK) (hx : SeV w v x) : Calls Tryz.prog 13 #[v, .agg #[.bool false, .slice none 0 0, .slice none 0 0, .slice none 0 0, .slice none 0 0, .slice none 0 0]] w (BO w x.isZ) := by
 obtain ⟨iE, iQ, iI, iS, iO⟩ := same_all 1073741825
 have z : Da.sizeK [] ≤ 1073741824 := by decide
 exact (sameSelect_step x zS w v _ hx (zS_V w) ox zS_OK (fun u a b _ ha hb => its_same iI _ _ u a b (by omega) h0 z (se_items_ok ox) trivial ha hb) (fun u a b _ ha hb => sos_same iS _ _ u a b (by omega) h1 z (se_fro_ok ox) trivial ha hb)
  (fun u a b _ ha hb => exprs_same iE _ _ u a b (by omega) h2 z (se_wh_ok ox) trivial ha hb) (fun u a b _ ha hb => exprs_same iE _ _ u a b (by omega) h3 z (se_gr_ok ox) trivial ha hb) (fun u a b _ ha hb => exprs_same iE _ _ u a b (by omega) h4 z (se_hv_ok ox) trivial ha hb)).mono (fun _ _ h => bo_of (se_isZ_iff x) h)
set_option maxRecDepth 100000 in
set_option maxHeartbeats 6400000 in
theorem item_step {w0 : World} {x : It} (hE : CEx w0 x.x) (ox : x.OK) (hz : Da.sizeR x.da ≤ 1073741823) : CIt w0 x := by
 intro H s w v hH hw hc hv g
 obtain ⟨p0, p1, rfl, h0, h1⟩ := hv
 obtain ⟨e0, m0, z0, rfl⟩ := dis_slice h0
 obtain ⟨e1, m1, z1, rfl⟩ := dis_slice h1
 obtain ⟨c0, c1, c2, c3, c4, c5, cf⟩ := hc.cells
 have f1 := cf 1
 have hn1 := g.n1
 have hn2 := g.nd (x.pr s)
 have hH2 := hc.lt
 have HS0 := hid (fun o => hp_al (CkC.set1 hc (s.nd + 1)) o)
 have HB0 := hid (fun o => (chs (Chg.refl (fun k => k = H) w) 1 (.int .i64 (s.nd + 1))).alloc o)
 have HX0 := hid (show ((w.setCell ⟨H, 1, none⟩ (.int .i64 (s.nd + 1))).alloc (.cells #[.bool x.star, .int .i64 x.x.op, .string (str x.x.tb), .string (str x.x.nm), .int .i64 x.x.v.k, .int .i64 x.x.v.n, .string (str x.x.v.s), .slice e0 m0 z0, .slice e1 m1 z1, .string (str x.nm)] 42)).heap[w.heap.size]? = some (.cells #[.bool x.star, .int .i64 x.x.op, .string (str x.x.tb), .string (str x.x.nm), .int .i64 x.x.v.k, .int .i64 x.x.v.n, .string (str x.x.v.s), .slice e0 m0 z0, .slice e1 m1 z1, .string (str x.nm)] 42) from by
  have h := heap_alloc_new (w.setCell ⟨H, 1, none⟩ (.int .i64 (s.nd + 1))) (.cells #[.bool x.star, .int .i64 x.x.op, .string (str x.x.tb), .string (str x.x.nm), .int .i64 x.x.v.k, .int .i64 x.x.v.n, .string (str x.x.v.s), .slice e0 m0 z0, .slice e1 m1 z1, .string (str x.nm)] 42)
  rwa [show (w.setCell ⟨H, 1, none⟩ (.int .i64 (s.nd + 1))).heap.size = w.heap.size from by simp] at h)
 have HNE := hid (show w.heap.size ≠ H from by omega)
 have HW := hid hw
 have HEV := hid (show ExV w0 (.agg #[.int .i64 x.x.op, .string (str x.x.tb), .string (str x.x.nm), .int .i64 x.x.v.k, .int .i64 x.x.v.n, .string (str x.x.v.s), .slice e0 m0 z0, .slice e1 m1 z1]) x.x from ⟨_, _, rfl, h0, h1⟩)
 have hzx := it_x_lt x
 have hnl : x.nm.length ≤ 1073741824 := by have := it_nm_len x; omega
 have E1 : x.ck s = if x.star = true ∧ x.x.isZ = true then (s.more.opt x.nm).req (decide (x.nm = [])) else x.x.ck ((s.more.opt x.nm).req (!x.star)) := by cases x; unfold It.ck; rfl
 have ht : ((str x.nm).toList == []) = decide (x.nm = []) := (by rw [str_toL [] ]; rfl : ((str x.nm).toList == []) = ((str x.nm).toList == (str []).toList)).trans (str_beq (it_nm ox) (rngB rfl))
 have HC1 := hid (fun (u : World) (h : CkC u H s.more) => opt_any H s.more x.nm u h (it_nm ox) hnl)
 have HC2 := hid (fun (u : World) (hb : Below w0.heap.size w0 u) => sameExprZ x.x u (.agg #[.int .i64 x.x.op, .string (str x.x.tb), .string (str x.x.nm), .int .i64 x.x.v.k, .int .i64 x.x.v.n, .string (str x.x.v.s), .slice e0 m0 z0, .slice e1 m1 z1]) (by omega) (it_x_ok ox) (HEV.out.keep hb))
 have HC3 := hid (fun (u : World) (b : Bool) (h : CkC u H (s.more.opt x.nm)) => req_any H _ b u h)
 cases hst : x.star with
 | false =>
  have e2 : x.ck s = x.x.ck ((s.more.opt x.nm).req true) := by rw [E1, hst]; rfl
  have HC4 := hid (fun (u : World) (h : CkC u H ((s.more.opt x.nm).req true)) (hb : Below w0.heap.size w0 u) => hE H _ u _ hH hb h HEV.out (by have g2 := g; rw [e2] at g2; exact g2.part (((pr_more _).trans (pr_opt _ _)).trans (pr_req _ _)) (Pr.refl _)))
  rw [e2]
  clear cf hc g hw hE E1 e2 ox hz hzx hnl h0 h1 HEV ht HC2
  generalize x.star = sb at *
  subst hst
  go_enter Tryz.func67, Tryz.ntmps67
  go_wp2_with (first
   | (go_at_call 87; refine (HC1.out _ (HS0.out _)).mono ?_; clear HC1; rintro e w1 ⟨rfl, hc, hb⟩; have x1 := chg1_blk hb HX0.out HNE.out; have c1_0 := cell_at x1 0 rfl; have c1_1 := cell_at x1 1 rfl; have c1_2 := cell_at x1 2 rfl; have c1_3 := cell_at x1 3 rfl; have c1_4 := cell_at x1 4 rfl; have c1_5 := cell_at x1 5 rfl; have c1_6 := cell_at x1 6 rfl; have c1_7 := cell_at x1 7 rfl; have c1_8 := cell_at x1 8 rfl; have c1_9 := cell_at x1 9 rfl; have HX1 := hid x1; have HS1 := hid hc; have HB1 := hid (chg1 (HB0.out _) hb); clear hb hc x1)
   | (go_at_call 40; refine (HC3.out _ _ HS1.out).mono ?_; clear HC3; rintro e w2 ⟨rfl, hc, hb⟩; have x1 := chg1_blk hb HX1.out HNE.out; clear c1_0 c1_1 c1_2 c1_3 c1_4 c1_5 c1_6 c1_7 c1_8 c1_9; have c2_0 := cell_at x1 0 rfl; have c2_1 := cell_at x1 1 rfl; have c2_2 := cell_at x1 2 rfl; have c2_3 := cell_at x1 3 rfl; have c2_4 := cell_at x1 4 rfl; have c2_5 := cell_at x1 5 rfl; have c2_6 := cell_at x1 6 rfl; have c2_7 := cell_at x1 7 rfl; have c2_8 := cell_at x1 8 rfl; have c2_9 := cell_at x1 9 rfl; have HX2 := hid x1; have HS2 := hid hc; have HB2 := hid (chg1 HB1.out hb); clear hb hc x1)
   | (go_at_call 71; refine (HC4.out _ HS2.out (bw HW.out HB2.out hH)).mono ?_; clear HC4; rintro e w3 ⟨rfl, hc, hb⟩; have x1 := chg1_blk hb HX2.out HNE.out; clear c2_0 c2_1 c2_2 c2_3 c2_4 c2_5 c2_6 c2_7 c2_8 c2_9; have c3_0 := cell_at x1 0 rfl; have c3_1 := cell_at x1 1 rfl; have c3_2 := cell_at x1 2 rfl; have c3_3 := cell_at x1 3 rfl; have c3_4 := cell_at x1 4 rfl; have c3_5 := cell_at x1 5 rfl; have c3_6 := cell_at x1 6 rfl; have c3_7 := cell_at x1 7 rfl; have c3_8 := cell_at x1 8 rfl; have c3_9 := cell_at x1 9 rfl; have HX3 := hid x1; have HS3 := hid hc; have HB3 := hid (chg1 HB2.out hb); clear hb hc x1)
   | fail)
  refine bodyPost_ret (results_none rfl _ _ _) rfl ?_
  exact ⟨rfl, HS3.out, HB3.out⟩
 | true =>
  cases hiz : x.x.isZ with
  | true =>
   have e2 : x.ck s = (s.more.opt x.nm).req (decide (x.nm = [])) := by rw [E1, hst, hiz]; rfl
   rw [e2]
   rw [hiz] at HC2
   clear cf hc g hw hE E1 e2 ox hz hzx hnl h0 h1 HEV hiz
   generalize x.star = sb at *
   subst hst
   generalize decide (x.nm = []) = b at *
   cases b
   all_goals
   go_enter Tryz.func67, Tryz.ntmps67
   go_wp2_with (first
    | (go_at_call 87; refine (HC1.out _ (HS0.out _)).mono ?_; clear HC1; rintro e w1 ⟨rfl, hc, hb⟩; have x1 := chg1_blk hb HX0.out HNE.out; have c1_0 := cell_at x1 0 rfl; have c1_1 := cell_at x1 1 rfl; have c1_2 := cell_at x1 2 rfl; have c1_3 := cell_at x1 3 rfl; have c1_4 := cell_at x1 4 rfl; have c1_5 := cell_at x1 5 rfl; have c1_6 := cell_at x1 6 rfl; have c1_7 := cell_at x1 7 rfl; have c1_8 := cell_at x1 8 rfl; have c1_9 := cell_at x1 9 rfl; have HX1 := hid x1; have HS1 := hid hc; have HB1 := hid (chg1 (HB0.out _) hb); clear hb hc x1)
    | (go_at_call 32; refine (HC2.out _ (bw HW.out HB1.out hH)).mono ?_; clear HC2; rintro e w2 ⟨rfl, hb⟩; have x1 := (hb.block w.heap.size (bx_lt HX1.out)).trans HX1.out; have hc := (hb.block H (bx_lt HS1.out)).trans HS1.out; clear c1_0 c1_1 c1_2 c1_3 c1_4 c1_5 c1_6 c1_7 c1_8 c1_9; have c2_0 := cell_at x1 0 rfl; have c2_1 := cell_at x1 1 rfl; have c2_2 := cell_at x1 2 rfl; have c2_3 := cell_at x1 3 rfl; have c2_4 := cell_at x1 4 rfl; have c2_5 := cell_at x1 5 rfl; have c2_6 := cell_at x1 6 rfl; have c2_7 := cell_at x1 7 rfl; have c2_8 := cell_at x1 8 rfl; have c2_9 := cell_at x1 9 rfl; have HX2 := hid x1; have HS2 := hid hc; have HB2 := hid (chg1 HB1.out (Chg.fresh (F := fun k => k = H) hb)); clear hb hc x1)
    | (go_at_call 40; refine (HC3.out _ _ HS2.out).mono ?_; clear HC3; rintro e w3 ⟨rfl, hc, hb⟩; have x1 := chg1_blk hb HX2.out HNE.out; clear c2_0 c2_1 c2_2 c2_3 c2_4 c2_5 c2_6 c2_7 c2_8 c2_9; have c3_0 := cell_at x1 0 rfl; have c3_1 := cell_at x1 1 rfl; have c3_2 := cell_at x1 2 rfl; have c3_3 := cell_at x1 3 rfl; have c3_4 := cell_at x1 4 rfl; have c3_5 := cell_at x1 5 rfl; have c3_6 := cell_at x1 6 rfl; have c3_7 := cell_at x1 7 rfl; have c3_8 := cell_at x1 8 rfl; have c3_9 := cell_at x1 9 rfl; have HX3 := hid x1; have HS3 := hid hc; have HB3 := hid (chg1 HB2.out hb); clear hb hc x1)
    | fail)
   refine bodyPost_ret (results_none rfl _ _ _) rfl ?_
   exact ⟨rfl, HS3.out, HB3.out⟩
  | false =>
   have e2 : x.ck s = x.x.ck ((s.more.opt x.nm).req false) := by rw [E1, hst, hiz]; rfl
   have HC4 := hid (fun (u : World) (h : CkC u H ((s.more.opt x.nm).req false)) (hb : Below w0.heap.size w0 u) => hE H _ u _ hH hb h HEV.out (by have g2 := g; rw [e2] at g2; exact g2.part (((pr_more _).trans (pr_opt _ _)).trans (pr_req _ _)) (Pr.refl _)))
   rw [e2]
   rw [hiz] at HC2
   clear cf hc g hw hE E1 e2 ox hz hzx hnl h0 h1 HEV ht hiz
   generalize x.star = sb at *
   subst hst
   go_enter Tryz.func67, Tryz.ntmps67
   go_wp2_with (first
    | (go_at_call 87; refine (HC1.out _ (HS0.out _)).mono ?_; clear HC1; rintro e w1 ⟨rfl, hc, hb⟩; have x1 := chg1_blk hb HX0.out HNE.out; have c1_0 := cell_at x1 0 rfl; have c1_1 := cell_at x1 1 rfl; have c1_2 := cell_at x1 2 rfl; have c1_3 := cell_at x1 3 rfl; have c1_4 := cell_at x1 4 rfl; have c1_5 := cell_at x1 5 rfl; have c1_6 := cell_at x1 6 rfl; have c1_7 := cell_at x1 7 rfl; have c1_8 := cell_at x1 8 rfl; have c1_9 := cell_at x1 9 rfl; have HX1 := hid x1; have HS1 := hid hc; have HB1 := hid (chg1 (HB0.out _) hb); clear hb hc x1)
    | (go_at_call 32; refine (HC2.out _ (bw HW.out HB1.out hH)).mono ?_; clear HC2; rintro e w2 ⟨rfl, hb⟩; have x1 := (hb.block w.heap.size (bx_lt HX1.out)).trans HX1.out; have hc := (hb.block H (bx_lt HS1.out)).trans HS1.out; clear c1_0 c1_1 c1_2 c1_3 c1_4 c1_5 c1_6 c1_7 c1_8 c1_9; have c2_0 := cell_at x1 0 rfl; have c2_1 := cell_at x1 1 rfl; have c2_2 := cell_at x1 2 rfl; have c2_3 := cell_at x1 3 rfl; have c2_4 := cell_at x1 4 rfl; have c2_5 := cell_at x1 5 rfl; have c2_6 := cell_at x1 6 rfl; have c2_7 := cell_at x1 7 rfl; have c2_8 := cell_at x1 8 rfl; have c2_9 := cell_at x1 9 rfl; have HX2 := hid x1; have HS2 := hid hc; have HB2 := hid (chg1 HB1.out (Chg.fresh (F := fun k => k = H) hb)); clear hb hc x1)
    | (go_at_call 40; refine (HC3.out _ _ HS2.out).mono ?_; clear HC3; rintro e w3 ⟨rfl, hc, hb⟩; have x1 := chg1_blk hb HX2.out HNE.out; clear c2_0 c2_1 c2_2 c2_3 c2_4 c2_5 c2_6 c2_7 c2_8 c2_9; have c3_0 := cell_at x1 0 rfl; have c3_1 := cell_at x1 1 rfl; have c3_2 := cell_at x1 2 rfl; have c3_3 := cell_at x1 3 rfl; have c3_4 := cell_at x1 4 rfl; have c3_5 := cell_at x1 5 rfl; have c3_6 := cell_at x1 6 rfl; have c3_7 := cell_at x1 7 rfl; have c3_8 := cell_at x1 8 rfl; have c3_9 := cell_at x1 9 rfl; have HX3 := hid x1; have HS3 := hid hc; have HB3 := hid (chg1 HB2.out hb); clear hb hc x1)
    | (go_at_call 71; refine (HC4.out _ HS3.out (bw HW.out HB3.out hH)).mono ?_; clear HC4; rintro e w4 ⟨rfl, hc, hb⟩; have x1 := chg1_blk hb HX3.out HNE.out; clear c3_0 c3_1 c3_2 c3_3 c3_4 c3_5 c3_6 c3_7 c3_8 c3_9; have c4_0 := cell_at x1 0 rfl; have c4_1 := cell_at x1 1 rfl; have c4_2 := cell_at x1 2 rfl; have c4_3 := cell_at x1 3 rfl; have c4_4 := cell_at x1 4 rfl; have c4_5 := cell_at x1 5 rfl; have c4_6 := cell_at x1 6 rfl; have c4_7 := cell_at x1 7 rfl; have c4_8 := cell_at x1 8 rfl; have c4_9 := cell_at x1 9 rfl; have HX4 := hid x1; have HS4 := hid hc; have HB4 := hid (chg1 HB3.out hb); clear hb hc x1)
    | fail)
   refine bodyPost_ret (results_none rfl _ _ _) rfl ?_
   exact ⟨rfl, HS4.out, HB4.out⟩
end Go.Proofs.YtegkbagnbnoopaaGreatDoor
