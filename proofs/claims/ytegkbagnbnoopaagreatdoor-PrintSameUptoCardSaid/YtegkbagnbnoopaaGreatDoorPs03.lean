/- the reference's copyQueries -/
import Derived.Test.YtegkbagnbnoopaaGreatDoorPs02
namespace Go.Proofs.YtegkbagnbnoopaaGreatDoor
open Go.ChangeShapes Go.WideShapes Go.ChangeAt Go.RowKit Go.Deep
open Go.Lib (hid)
/-- a value that holds a query whose memory lies in blocks S -/
def QuN (w : World) (S : Nat → Prop) (v : Value) (x : Qu) : Prop := ∃ p0 p1 p2 p3 p4 p5 p6, v = .agg #[.int .i64 x.op, p0, .bool x.sel.dist, p1, p2, p3, p4, p5, p6, .bool x.lim, .int .i64 x.n] ∧ DIn w S (p0) (.sl (qusDa x.parts)) ∧ DIn w S (p1) (.sl (itsDa x.sel.items)) ∧ DIn w S (p2) (.sl (sosDa x.sel.fro)) ∧ DIn w S (p3) (.sl (exsDa x.sel.wh)) ∧ DIn w S (p4) (.sl (exsDa x.sel.gr)) ∧ DIn w S (p5) (.sl (exsDa x.sel.hv)) ∧ DIn w S (p6) (.sl (obsDa x.ord))
def CQ (w : World) (x : Qu) : Ending → World → Prop := fun e w' => ∃ v, e = .returned v ∧ QuN w' (fun g => w.heap.size ≤ g) v x ∧ Below w.heap.size w w'
theorem qu_row_din {u : World} {S : Nat → Prop} {x : Qu} {p0 p1 p2 p3 p4 p5 p6 : Value} (h0 : DIn u S p0 (.sl (qusDa x.parts))) (h1 : DIn u S p1 (.sl (itsDa x.sel.items))) (h2 : DIn u S p2 (.sl (sosDa x.sel.fro))) (h3 : DIn u S p3 (.sl (exsDa x.sel.wh))) (h4 : DIn u S p4 (.sl (exsDa x.sel.gr))) (h5 : DIn u S p5 (.sl (exsDa x.sel.hv))) (h6 : DIn u S p6 (.sl (obsDa x.ord))) : ∀ (j : Nat) (v : Value) (d : Da), [Value.int .i64 x.op, p0, .bool x.sel.dist, p1, p2, p3, p4, p5, p6, .bool x.lim, .int .i64 x.n][j]? = some v → x.da[j]? = some d → DIn u S v d := by
 intro j v d hv hd
 obtain ⟨op, ps, ⟨_, _, _, _, _, _⟩, _, _, _⟩ := x
 have hj8 := (List.getElem?_eq_some_iff.1 hd).1
 have hj8 : j < 11 := hj8
 match j, hj8, hv, hd with
 | 0, _, hv, hd => injection hv with hv; injection hd with hd; subst hv hd; exact .sc _
 | 1, _, hv, hd => injection hv with hv; injection hd with hd; subst hv hd; exact h0
 | 2, _, hv, hd => injection hv with hv; injection hd with hd; subst hv hd; exact .sc _
 | 3, _, hv, hd => injection hv with hv; injection hd with hd; subst hv hd; exact h1
 | 4, _, hv, hd => injection hv with hv; injection hd with hd; subst hv hd; exact h2
 | 5, _, hv, hd => injection hv with hv; injection hd with hd; subst hv hd; exact h3
 | 6, _, hv, hd => injection hv with hv; injection hd with hd; subst hv hd; exact h4
 | 7, _, hv, hd => injection hv with hv; injection hd with hd; subst hv hd; exact h5
 | 8, _, hv, hd => injection hv with hv; injection hd with hd; subst hv hd; exact h6
 | 9, _, hv, hd => injection hv with hv; injection hd with hd; subst hv hd; exact .sc _
 | 10, _, hv, hd => injection hv with hv; injection hd with hd; subst hv hd; exact .sc _
theorem qu_row_one (x : Qu) (a0_ : Option Addr) (n0_ c0_ : Nat) (a1_ : Option Addr) (n1_ c1_ : Nat) (a2_ : Option Addr) (n2_ c2_ : Nat) (a3_ : Option Addr) (n3_ c3_ : Nat) (a4_ : Option Addr) (n4_ c4_ : Nat) (a5_ : Option Addr) (n5_ c5_ : Nat) (a6_ : Option Addr) (n6_ c6_ : Nat) : ∀ u ∈ [Value.int .i64 x.op, .slice a0_ n0_ c0_, .bool x.sel.dist, .slice a1_ n1_ c1_, .slice a2_ n2_ c2_, .slice a3_ n3_ c3_, .slice a4_ n4_ c4_, .slice a5_ n5_ c5_, .slice a6_ n6_ c6_, .bool x.lim, .int .i64 x.n], u.oneCell' = true := by
 intro u hu
 simp only [List.mem_cons, List.not_mem_nil, or_false] at hu
 rcases hu with rfl | rfl | rfl | rfl | rfl | rfl | rfl | rfl | rfl | rfl | rfl <;> rfl
theorem qus_snoc (l : List Qu) (k : Nat) (x : Qu) (h : l[k]? = some x) : qusDa (l.take (k + 1)) = qusDa (l.take k) ++ [x.da] := by
 rw [qusDa_map, qusDa_map, List.take_add_one, h, List.map_append]; rfl
set_option maxRecDepth 100000 in
set_option maxHeartbeats 6400000 in
theorem rcopyQueries_step (v1 : Value) (r : List Qu) (w : World) (hv1 : DIs w v1 (.sl (qusDa r))) (hl : r.length ≤ 1073741823)
  (hA : ∀ x ∈ r, ∀ (u : World) (a : Value), Below w.heap.size w u → QuV u a x → Calls Tryz.prog 8 #[a] u (CQ u x)) :
  Calls Tryz.prog 19 #[v1] w (CP w (qusDa r)) := by
 obtain ⟨a1, c1, rfl, hc1, hcell1⟩ := qus_rows hv1
 have HC1 := hid hcell1
 have HA := hid hA
 generalize hn : r.length = n at *
 have HN := hid hn
 have hmk : (Instr.buildSlice 22 0 #[]).run Tryz.prog w = .ok (.slice (some ⟨w.heap.size, 0, none⟩) 0 0) (w.alloc (.cells #[] 30)) := by kernel_rfl
 have HM := hid (RwD.made (w := w.alloc (.cells #[] 30)) (B := w.heap.size) (S := fun _ => False) (T := 30) (s := 11) (n := 0) (heap_alloc_new _ _) rfl (Nat.le_refl _) id (Nat.zero_le _))
 clear hcell1 hn hv1 hA
 go_enter Tryz.func19, Tryz.ntmps19
 go_wp2_with fail
 go_loopw [3, 4] (fun o i wr => ∃ (k : Nat) (a : Option Addr) (c : Nat) (S : Nat → Prop), k ≤ n ∧ i = .int .i64 k ∧ o = .slice a k c ∧ Below w.heap.size w wr ∧ Hid (RwD wr w.heap.size S 30 11 (.slice a k c) (qusDa (r.take k))) ∧ Hid (∀ q, S q → w.heap.size ≤ q ∧ q < wr.heap.size)) (fun _ i _ => n - (intOf i).toNat)
 case atStart => exact ⟨0, _, _, fun _ => False, Nat.zero_le _, rfl, rfl, (Below.refl _ _).alloc (Nat.le_refl _) _, HM, hid (fun q h => h.elim)⟩
 case round =>
  obtain ⟨k, a, c, S, hk1, rfl, rfl, hbw, HRW, HS⟩ := hrel
  have hsz := hbw.size
  have HBW := hid hbw
  clear hbw
  have hkl : (qusDa (r.take k)).length = k := by rw [qusDa_len, List.length_take, HN.out]; omega
  have HKL := hid hkl
  clear hkl
  by_cases hlt1 : k < n
  ·obtain ⟨b1, o1, rfl, hb1, hd1⟩ := HC1.out (by omega)
   obtain ⟨x, hx⟩ : ∃ x, r[k]? = some x := ⟨_, List.getElem?_eq_getElem (by rw [HN.out]; exact hlt1)⟩
   obtain ⟨s0, s1, s2, s3, s4, s5, s6, p0, p1, p2, p3, p4, p5, p6, p7, p8, p9, p10, h0, h1, h2, h3, h4, h5, h6⟩ := hd1 k x hx
   replace p0 := (HBW.out.cell (p := ⟨b1, o1 + k * 11, none⟩) hb1).trans p0
   replace p1 := (HBW.out.cell (p := ⟨b1, o1 + k * 11 + 1, none⟩) hb1).trans p1
   replace p2 := (HBW.out.cell (p := ⟨b1, o1 + k * 11 + 2, none⟩) hb1).trans p2
   replace p3 := (HBW.out.cell (p := ⟨b1, o1 + k * 11 + 3, none⟩) hb1).trans p3
   replace p4 := (HBW.out.cell (p := ⟨b1, o1 + k * 11 + 4, none⟩) hb1).trans p4
   replace p5 := (HBW.out.cell (p := ⟨b1, o1 + k * 11 + 5, none⟩) hb1).trans p5
   replace p6 := (HBW.out.cell (p := ⟨b1, o1 + k * 11 + 6, none⟩) hb1).trans p6
   replace p7 := (HBW.out.cell (p := ⟨b1, o1 + k * 11 + 7, none⟩) hb1).trans p7
   replace p8 := (HBW.out.cell (p := ⟨b1, o1 + k * 11 + 8, none⟩) hb1).trans p8
   replace p9 := (HBW.out.cell (p := ⟨b1, o1 + k * 11 + 9, none⟩) hb1).trans p9
   replace p10 := (HBW.out.cell (p := ⟨b1, o1 + k * 11 + 10, none⟩) hb1).trans p10
   obtain ⟨e0, m0, z0, rfl⟩ := dis_slice h0
   obtain ⟨e1, m1, z1, rfl⟩ := dis_slice h1
   obtain ⟨e2, m2, z2, rfl⟩ := dis_slice h2
   obtain ⟨e3, m3, z3, rfl⟩ := dis_slice h3
   obtain ⟨e4, m4, z4, rfl⟩ := dis_slice h4
   obtain ⟨e5, m5, z5, rfl⟩ := dis_slice h5
   obtain ⟨e6, m6, z6, rfl⟩ := dis_slice h6
   have HCA := hid (HA.out x (List.mem_of_getElem? hx) wr _ HBW.out ⟨_, _, _, _, _, _, _, rfl, h0.keep HBW.out, h1.keep HBW.out, h2.keep HBW.out, h3.keep HBW.out, h4.keep HBW.out, h5.keep HBW.out, h6.keep HBW.out⟩)
   have HX := hid hx
   have hb1r : b1 < wr.heap.size := by omega
   clear hd1 hx h0 h1 h2 h3 h4 h5 h6
   go_wp2_with (first
    | (
      go_at_call 8; refine HCA.out.mono ?_; clear HCA; rintro e w1 ⟨v2, rfl, ⟨y0, y1, y2, y3, y4, y5, y6, rfl, d0, d1, d2, d3, d4, d5, d6⟩, hb⟩
      obtain ⟨a0_, n0_, c0_, rfl⟩ := d0.slc
      obtain ⟨a1_, n1_, c1_, rfl⟩ := d1.slc
      obtain ⟨a2_, n2_, c2_, rfl⟩ := d2.slc
      obtain ⟨a3_, n3_, c3_, rfl⟩ := d3.slc
      obtain ⟨a4_, n4_, c4_, rfl⟩ := d4.slc
      obtain ⟨a5_, n5_, c5_, rfl⟩ := d5.slc
      obtain ⟨a6_, n6_, c6_, rfl⟩ := d6.slc
      have hz1 := hb.size
      have HR1 := hid (HRW.out.below hb)
      have HK1 := hid (HBW.out.trans (hb.mono hsz))
      have HD0 := hid (((d0.mono (S' := fun q => S q ∨ (wr.heap.size ≤ q ∧ q < w1.heap.size)) (fun g hg h => .inr ⟨h, hg⟩))))
      have HD1 := hid (((d1.mono (S' := fun q => S q ∨ (wr.heap.size ≤ q ∧ q < w1.heap.size)) (fun g hg h => .inr ⟨h, hg⟩))))
      have HD2 := hid (((d2.mono (S' := fun q => S q ∨ (wr.heap.size ≤ q ∧ q < w1.heap.size)) (fun g hg h => .inr ⟨h, hg⟩))))
      have HD3 := hid (((d3.mono (S' := fun q => S q ∨ (wr.heap.size ≤ q ∧ q < w1.heap.size)) (fun g hg h => .inr ⟨h, hg⟩))))
      have HD4 := hid (((d4.mono (S' := fun q => S q ∨ (wr.heap.size ≤ q ∧ q < w1.heap.size)) (fun g hg h => .inr ⟨h, hg⟩))))
      have HD5 := hid (((d5.mono (S' := fun q => S q ∨ (wr.heap.size ≤ q ∧ q < w1.heap.size)) (fun g hg h => .inr ⟨h, hg⟩))))
      have HD6 := hid (((d6.mono (S' := fun q => S q ∨ (wr.heap.size ≤ q ∧ q < w1.heap.size)) (fun g hg h => .inr ⟨h, hg⟩))))
      clear hb d0 d1 d2 d3 d4 d5 d6)
    | (
      at_builtin; refine wpList_append_rd (o := ⟨some 19, _, _, _, _, _⟩) rowQu rfl (Operand.tmp 12) (Operand.tmp 18) rfl w.heap.size (fun q => S q ∨ (wr.heap.size ≤ q ∧ q < w1.heap.size)) (fun q => S q ∨ (wr.heap.size ≤ q ∧ q < w1.heap.size)) (.slice a k c) (qusDa (r.take k)) rfl
       ((HR1.out.below ((Below.refl _ _).alloc (Nat.le_refl _) _)).more (fun g _ h => .inl h) (fun g hg h => by
        rcases h with h | h
        ·exact HRW.out.notin g hg h
        ·have := HRW.out.lt g hg; omega))
       w1.heap.size [Value.int .i64 x.op, .slice a0_ n0_ c0_, .bool x.sel.dist, .slice a1_ n1_ c1_, .slice a2_ n2_ c2_, .slice a3_ n3_ c3_, .slice a4_ n4_ c4_, .slice a5_ n5_ c5_, .slice a6_ n6_ c6_, .bool x.lim, .int .i64 x.n] x.da rfl (heap_alloc_new _ _) rfl (quda_len x)
       (qu_row_din (HD0.out.bel ((Below.refl _ _).alloc (Nat.le_refl _) _)) (HD1.out.bel ((Below.refl _ _).alloc (Nat.le_refl _) _)) (HD2.out.bel ((Below.refl _ _).alloc (Nat.le_refl _) _)) (HD3.out.bel ((Below.refl _ _).alloc (Nat.le_refl _) _)) (HD4.out.bel ((Below.refl _ _).alloc (Nat.le_refl _) _)) (HD5.out.bel ((Below.refl _ _).alloc (Nat.le_refl _) _)) (HD6.out.bel ((Below.refl _ _).alloc (Nat.le_refl _) _)))
       (qu_row_one x _ _ _ _ _ _ _ _ _ _ _ _ _ _ _ _ _ _ _ _ _) (by rw [HKL.out]; omega) (by simp; omega) (fun q h _ => h) (fun g hg h => by
        rcases h with h | h
        ·exact HRW.out.notin g hg h
        ·have := HRW.out.lt g hg; omega) (fun h => by
        rcases h with h | h
        ·have := HS.out _ h; simp at this; omega
        ·simp at h; omega) ?_
      intro a4 c4 w4 hr4 hg4
      rw [HKL.out] at hr4
      rw [HKL.out]
      have hz4 := hg4.size
      have hz4 : w1.heap.size + 1 ≤ w4.heap.size := by simpa using hz4
      have HR4 := hid hr4
      have HG4 := hid hg4
      clear hr4 hg4))
   go_roundw
   case rel => exact ⟨k + 1, a4, c4, _, by omega, by go_num, rfl, (HK1.out.alloc (by omega) _).trans (grown_below HG4.out (fun g hg => (HRW.out.lt g hg).1) (by simp; omega)), hid (by rw [qus_snoc r k x HX.out]; exact HR4.out), hid (fun q h => by
    rcases h with h | h
    ·have := HS.out q h; omega
    ·omega)⟩
   case measure => simp [intOf]; omega
  ·have hkn : k = n := by omega
   subst hkn
   have hcn : decide ((k : Int) < (k : Int)) = false := decide_eq_false (by omega)
   have HTK := hid (show r.take k = r from List.take_of_length_le (by rw [HN.out]; omega))
   go_wp2_with fail
   go_ret
   exact ⟨_, rfl, by
    have h := HRW.out.din (S' := fun g => w.heap.size ≤ g) (fun g h => (HS.out g h).1) (fun g hg => (HRW.out.lt g hg).1)
    rw [HTK.out] at h
    exact h, HBW.out⟩
end Go.Proofs.YtegkbagnbnoopaaGreatDoor
/- the reference's Copy: its rows -/
namespace Go.Proofs.YtegkbagnbnoopaaGreatDoor
open Go.ChangeShapes Go.WideShapes Go.ChangeAt Go.RowKit Go.Deep
open Go.Lib (hid)
theorem rng_of {u : World} {b : Nat} {cs : List Value} {T : TypeId} (h : u.heap[b]? = some (.cells cs.toArray T (0, 0))) : u.rangeAt b 0 cs := fun j x hj => by
 rw [cell_of_row _ b _ _ _ _ h, Nat.zero_add]
 simpa using hj
theorem there_of {u : World} {b o n : Nat} {C : Array Value} {T : TypeId} (h : u.heap[b]? = some (.cells C T (0, 0))) (hn : o + n ≤ C.size) : u.there b o n := fun j hj => by
 refine ⟨?_, frozen_of_row u b _ _ _ h⟩
 rw [cell_of_row _ b _ _ _ _ h, Array.getElem?_eq_getElem (by omega)]
 rfl
theorem din_sc {w : World} {S : Nat → Prop} {v v' : Value} (h : DIn w S v (.sc v')) : v = v' := by cases h; rfl
/-- the one expression of a slice that was made -/
theorem ex_of_din {w : World} {S : Nat → Prop} {v : Value} {x : Ex} (h : DIn w S v (.sl (exsDa [x]))) : ∃ b o c q0 q1, v = .slice (some ⟨b, o, none⟩) 1 c ∧ b < w.heap.size ∧ 1 ≤ c ∧ w.rangeAt b o [.int .i64 x.op, .string (str x.tb), .string (str x.nm), .int .i64 x.v.k, .int .i64 x.v.n, .string (str x.v.s), q0, q1] ∧ DIn w S q0 (.sl (exsDa x.args)) ∧ DIn w S q1 (.sl (qusDa x.qs)) := by
 obtain ⟨op, tb, nm, v, args, qs⟩ := x
 cases h with
 | sl a n c s kids vals hn hc hs hg h1 h2 =>
  have hn1 : n = 1 := hn.symm
  subst hn1
  obtain ⟨g, o, rfl, hl, hS⟩ := hg (by decide)
  have h8 : s = 8 := (hs (Ex.mk op tb nm v args qs).da List.mem_cons_self).symm
  subst h8
  have r := fun j d (hj : (Ex.mk op tb nm v args qs).da[j]? = some d) => (⟨h1 0 j _ d rfl hj g o rfl, h2 0 j _ d rfl hj⟩ : _ ∧ _)
  refine ⟨g, o, c, vals 0 6, vals 0 7, rfl, hl, hc, fun j y hj => ?_, (r 6 _ rfl).2, (r 7 _ rfl).2⟩
  have hj8 := (List.getElem?_eq_some_iff.1 hj).1
  have hj8 : j < 8 := hj8
  match j, hj8, hj with
  | 0, _, hj => injection hj with hj; subst hj; have k := r 0 _ rfl; rw [din_sc k.2, Nat.zero_mul, Nat.zero_add] at k; exact k.1
  | 1, _, hj => injection hj with hj; subst hj; have k := r 1 _ rfl; rw [din_sc k.2, Nat.zero_mul, Nat.zero_add] at k; exact k.1
  | 2, _, hj => injection hj with hj; subst hj; have k := r 2 _ rfl; rw [din_sc k.2, Nat.zero_mul, Nat.zero_add] at k; exact k.1
  | 3, _, hj => injection hj with hj; subst hj; have k := r 3 _ rfl; rw [din_sc k.2, Nat.zero_mul, Nat.zero_add] at k; exact k.1
  | 4, _, hj => injection hj with hj; subst hj; have k := r 4 _ rfl; rw [din_sc k.2, Nat.zero_mul, Nat.zero_add] at k; exact k.1
  | 5, _, hj => injection hj with hj; subst hj; have k := r 5 _ rfl; rw [din_sc k.2, Nat.zero_mul, Nat.zero_add] at k; exact k.1
  | 6, _, hj => injection hj with hj; subst hj; have k := r 6 _ rfl; rw [Nat.zero_mul, Nat.zero_add] at k; exact k.1
  | 7, _, hj => injection hj with hj; subst hj; have k := r 7 _ rfl; rw [Nat.zero_mul, Nat.zero_add] at k; exact k.1
theorem it_row_din {u : World} {S : Nat → Prop} {x : It} {p q : Value} (h1 : DIn u S p (.sl (exsDa x.x.args))) (h2 : DIn u S q (.sl (qusDa x.x.qs))) : ∀ (j : Nat) (v : Value) (d : Da), [Value.bool x.star, .int .i64 x.x.op, .string (str x.x.tb), .string (str x.x.nm), .int .i64 x.x.v.k, .int .i64 x.x.v.n, .string (str x.x.v.s), p, q, .string (str x.nm)][j]? = some v → x.da[j]? = some d → DIn u S v d := by
 intro j v d hv hd
 obtain ⟨st, ⟨op, tb, nm, vv, args, qs⟩, nm2⟩ := x
 have hj8 := (List.getElem?_eq_some_iff.1 hd).1
 have hj8 : j < 10 := hj8
 match j, hj8, hv, hd with
 | 0, _, hv, hd => injection hv with hv; injection hd with hd; subst hv hd; exact .sc _
 | 1, _, hv, hd => injection hv with hv; injection hd with hd; subst hv hd; exact .sc _
 | 2, _, hv, hd => injection hv with hv; injection hd with hd; subst hv hd; exact .sc _
 | 3, _, hv, hd => injection hv with hv; injection hd with hd; subst hv hd; exact .sc _
 | 4, _, hv, hd => injection hv with hv; injection hd with hd; subst hv hd; exact .sc _
 | 5, _, hv, hd => injection hv with hv; injection hd with hd; subst hv hd; exact .sc _
 | 6, _, hv, hd => injection hv with hv; injection hd with hd; subst hv hd; exact .sc _
 | 7, _, hv, hd => injection hv with hv; injection hd with hd; subst hv hd; exact h1
 | 8, _, hv, hd => injection hv with hv; injection hd with hd; subst hv hd; exact h2
 | 9, _, hv, hd => injection hv with hv; injection hd with hd; subst hv hd; exact .sc _
theorem it_row_one (x : It) (a1 : Option Addr) (n1 c1 : Nat) (a2 : Option Addr) (n2 c2 : Nat) : ∀ u ∈ [Value.bool x.star, .int .i64 x.x.op, .string (str x.x.tb), .string (str x.x.nm), .int .i64 x.x.v.k, .int .i64 x.x.v.n, .string (str x.x.v.s), .slice a1 n1 c1, .slice a2 n2 c2, .string (str x.nm)], u.oneCell' = true := by
 intro u hu
 simp only [List.mem_cons, List.not_mem_nil, or_false] at hu
 rcases hu with rfl | rfl | rfl | rfl | rfl | rfl | rfl | rfl | rfl | rfl <;> rfl
theorem cp_its_snoc (l : List It) (k : Nat) (x : It) (h : l[k]? = some x) : itsDa (l.take (k + 1)) = itsDa (l.take k) ++ [x.da] := by
 rw [itsDa_map, itsDa_map, List.take_add_one, h, List.map_append]; rfl
theorem so_row_din {u : World} {S : Nat → Prop} {x : So} {p q : Value} (h1 : DIn u S p (.sl (qusDa x.q))) (h2 : DIn u S q (.sl (exsDa x.on))) : ∀ (j : Nat) (v : Value) (d : Da), [Value.int .i64 x.kind, .string (str x.tb), p, .string (str x.al), q][j]? = some v → x.da[j]? = some d → DIn u S v d := by
 intro j v d hv hd
 obtain ⟨kd, tb, qq, al, on⟩ := x
 have hj8 := (List.getElem?_eq_some_iff.1 hd).1
 have hj8 : j < 5 := hj8
 match j, hj8, hv, hd with
 | 0, _, hv, hd => injection hv with hv; injection hd with hd; subst hv hd; exact .sc _
 | 1, _, hv, hd => injection hv with hv; injection hd with hd; subst hv hd; exact .sc _
 | 2, _, hv, hd => injection hv with hv; injection hd with hd; subst hv hd; exact h1
 | 3, _, hv, hd => injection hv with hv; injection hd with hd; subst hv hd; exact .sc _
 | 4, _, hv, hd => injection hv with hv; injection hd with hd; subst hv hd; exact h2
theorem so_row_one (x : So) (a1 : Option Addr) (n1 c1 : Nat) (a2 : Option Addr) (n2 c2 : Nat) : ∀ u ∈ [Value.int .i64 x.kind, .string (str x.tb), .slice a1 n1 c1, .string (str x.al), .slice a2 n2 c2], u.oneCell' = true := by
 intro u hu
 simp only [List.mem_cons, List.not_mem_nil, or_false] at hu
 rcases hu with rfl | rfl | rfl | rfl | rfl <;> rfl
theorem cp_sos_snoc (l : List So) (k : Nat) (x : So) (h : l[k]? = some x) : sosDa (l.take (k + 1)) = sosDa (l.take k) ++ [x.da] := by
 rw [sosDa_map, sosDa_map, List.take_add_one, h, List.map_append]; rfl
theorem ob_row_din {u : World} {S : Nat → Prop} {x : Ob} {p q : Value} (h1 : DIn u S p (.sl (exsDa x.x.args))) (h2 : DIn u S q (.sl (qusDa x.x.qs))) : ∀ (j : Nat) (v : Value) (d : Da), [Value.int .i64 x.x.op, .string (str x.x.tb), .string (str x.x.nm), .int .i64 x.x.v.k, .int .i64 x.x.v.n, .string (str x.x.v.s), p, q, .bool x.down][j]? = some v → x.da[j]? = some d → DIn u S v d := by
 intro j v d hv hd
 obtain ⟨⟨op, tb, nm, vv, args, qs⟩, dn⟩ := x
 have hj8 := (List.getElem?_eq_some_iff.1 hd).1
 have hj8 : j < 9 := hj8
 match j, hj8, hv, hd with
 | 0, _, hv, hd => injection hv with hv; injection hd with hd; subst hv hd; exact .sc _
 | 1, _, hv, hd => injection hv with hv; injection hd with hd; subst hv hd; exact .sc _
 | 2, _, hv, hd => injection hv with hv; injection hd with hd; subst hv hd; exact .sc _
 | 3, _, hv, hd => injection hv with hv; injection hd with hd; subst hv hd; exact .sc _
 | 4, _, hv, hd => injection hv with hv; injection hd with hd; subst hv hd; exact .sc _
 | 5, _, hv, hd => injection hv with hv; injection hd with hd; subst hv hd; exact .sc _
 | 6, _, hv, hd => injection hv with hv; injection hd with hd; subst hv hd; exact h1
 | 7, _, hv, hd => injection hv with hv; injection hd with hd; subst hv hd; exact h2
 | 8, _, hv, hd => injection hv with hv; injection hd with hd; subst hv hd; exact .sc _
theorem ob_row_one (x : Ob) (a1 : Option Addr) (n1 c1 : Nat) (a2 : Option Addr) (n2 c2 : Nat) : ∀ u ∈ [Value.int .i64 x.x.op, .string (str x.x.tb), .string (str x.x.nm), .int .i64 x.x.v.k, .int .i64 x.x.v.n, .string (str x.x.v.s), .slice a1 n1 c1, .slice a2 n2 c2, .bool x.down], u.oneCell' = true := by
 intro u hu
 simp only [List.mem_cons, List.not_mem_nil, or_false] at hu
 rcases hu with rfl | rfl | rfl | rfl | rfl | rfl | rfl | rfl | rfl <;> rfl
theorem cp_obs_snoc (l : List Ob) (k : Nat) (x : Ob) (h : l[k]? = some x) : obsDa (l.take (k + 1)) = obsDa (l.take k) ++ [x.da] := by
 rw [obsDa_map, obsDa_map, List.take_add_one, h, List.map_append]; rfl
end Go.Proofs.YtegkbagnbnoopaaGreatDoor
/- the reference's exprs -/
namespace Go.Proofs.YtegkbagnbnoopaaGreatDoor
open Go.ChangeShapes Go.WideShapes Go.ChangeAt Go.RowKit Go.Deep
open Go.Lib (hid)
attribute [local go_sem ↓] eql32_eq neq32_eq
theorem at_ne {α : Type} {r s : List α} {k : Nat} {x y : α} (hx : r[k]? = some x) (hy : s[k]? = some y) (h : x ≠ y) : ((false : Bool) = true ↔ r = s) := by
 constructor
 ·intro h0; cases h0
 ·intro h0
  subst h0
  have e := hx.symm.trans hy
  injection e with e
  exact absurd e h
set_option maxRecDepth 100000 in
set_option maxHeartbeats 6400000 in
theorem rexprs_step (v1 v2 : Value) (r s : List Ex) (w : World) (hv1 : DIs w v1 (.sl (exsDa r))) (hv2 : DIs w v2 (.sl (exsDa s))) (hl : r.length ≤ 1073741824) (hm : s.length ≤ 1073741824) (okr : exsOK r) (oks : exsOK s)
  (hA : ∀ x ∈ r, ∀ y ∈ s, ∀ (u : World) (a b : Value), Below w.heap.size w u → DIs u a (.sl (exsDa x.args)) → DIs u b (.sl (exsDa y.args)) → Calls Tryz.prog 16 #[a, b] u (EQ u (x.args = y.args)))
  (hQ : ∀ x ∈ r, ∀ y ∈ s, ∀ (u : World) (a b : Value), Below w.heap.size w u → DIs u a (.sl (qusDa x.qs)) → DIs u b (.sl (qusDa y.qs)) → Calls Tryz.prog 17 #[a, b] u (EQ u (x.qs = y.qs))) :
  Calls Tryz.prog 16 #[v1, v2] w (EQ w (r = s)) := by
 obtain ⟨a1, c1, rfl, hc1, hcell1⟩ := exs_rows hv1
 obtain ⟨a2, c2, rfl, hc2, hcell2⟩ := exs_rows hv2
 have HC1 := hid hcell1
 have HC2 := hid hcell2
 have HA := hid hA
 have HQ := hid hQ
 have HOR := hid okr
 have HOS := hid oks
 generalize hn : r.length = n at *
 generalize ho : s.length = o at *
 have HN := hid hn
 have HO := hid ho
 clear hcell1 hcell2 hn ho hv1 hv2 hA hQ okr oks
 go_enter Tryz.func16, Tryz.ntmps16
 by_cases hno : n = o
 ·subst hno
  go_wp2_with fail
  go_loopw [5] (fun i wr => ∃ k : Nat, k ≤ n ∧ i = .int .i64 k ∧ Below w.heap.size w wr ∧ Hid (r.take k = s.take k)) (fun i _ => n - (intOf i).toNat)
  case atStart => exact ⟨0, Nat.zero_le _, rfl, Below.refl _ _, hid rfl⟩
  case round =>
   obtain ⟨k, hk1, rfl, hbw, heq⟩ := hrel
   have hsz := hbw.size
   have HBW := hid hbw
   clear hbw
   by_cases hlt1 : k < n
   ·obtain ⟨b1, o1, rfl, hb1, hd1⟩ := HC1.out (by omega)
    obtain ⟨b2, o2, rfl, hb2, hd2⟩ := HC2.out (by omega)
    obtain ⟨x, hx⟩ : ∃ x, r[k]? = some x := ⟨_, List.getElem?_eq_getElem (by rw [HN.out]; exact hlt1)⟩
    obtain ⟨y, hy⟩ : ∃ y, s[k]? = some y := ⟨_, List.getElem?_eq_getElem (by rw [HO.out]; exact hlt1)⟩
    obtain ⟨s0, s1, p0, p1, p2, p3, p4, p5, p6, p7, h0, h1⟩ := hd1 k x hx
    obtain ⟨t0, t1, q0, q1, q2, q3, q4, q5, q6, q7, g0, g1⟩ := hd2 k y hy
    replace p0 := (HBW.out.cell (p := ⟨b1, o1 + k * 8, none⟩) hb1).trans p0
    replace q0 := (HBW.out.cell (p := ⟨b2, o2 + k * 8, none⟩) hb2).trans q0
    replace p1 := (HBW.out.cell (p := ⟨b1, o1 + k * 8 + 1, none⟩) hb1).trans p1
    replace q1 := (HBW.out.cell (p := ⟨b2, o2 + k * 8 + 1, none⟩) hb2).trans q1
    replace p2 := (HBW.out.cell (p := ⟨b1, o1 + k * 8 + 2, none⟩) hb1).trans p2
    replace q2 := (HBW.out.cell (p := ⟨b2, o2 + k * 8 + 2, none⟩) hb2).trans q2
    replace p3 := (HBW.out.cell (p := ⟨b1, o1 + k * 8 + 3, none⟩) hb1).trans p3
    replace q3 := (HBW.out.cell (p := ⟨b2, o2 + k * 8 + 3, none⟩) hb2).trans q3
    replace p4 := (HBW.out.cell (p := ⟨b1, o1 + k * 8 + 4, none⟩) hb1).trans p4
    replace q4 := (HBW.out.cell (p := ⟨b2, o2 + k * 8 + 4, none⟩) hb2).trans q4
    replace p5 := (HBW.out.cell (p := ⟨b1, o1 + k * 8 + 5, none⟩) hb1).trans p5
    replace q5 := (HBW.out.cell (p := ⟨b2, o2 + k * 8 + 5, none⟩) hb2).trans q5
    replace p6 := (HBW.out.cell (p := ⟨b1, o1 + k * 8 + 6, none⟩) hb1).trans p6
    replace q6 := (HBW.out.cell (p := ⟨b2, o2 + k * 8 + 6, none⟩) hb2).trans q6
    replace p7 := (HBW.out.cell (p := ⟨b1, o1 + k * 8 + 7, none⟩) hb1).trans p7
    replace q7 := (HBW.out.cell (p := ⟨b2, o2 + k * 8 + 7, none⟩) hb2).trans q7
    obtain ⟨e0, m0, n0, rfl⟩ := dis_slice h0
    obtain ⟨e10, m10, n10, rfl⟩ := dis_slice g0
    obtain ⟨e1, m1, n1, rfl⟩ := dis_slice h1
    obtain ⟨e11, m11, n11, rfl⟩ := dis_slice g1
    have HCA := hid (fun (u : World) (hu : Below w.heap.size w u) => HA.out x (List.mem_of_getElem? hx) y (List.mem_of_getElem? hy) u _ _ hu (h0.keep hu) (g0.keep hu))
    have HCQ := hid (fun (u : World) (hu : Below w.heap.size w u) => HQ.out x (List.mem_of_getElem? hx) y (List.mem_of_getElem? hy) u _ _ hu (h1.keep hu) (g1.keep hu))
    have HX := hid hx
    have HY := hid hy
    have ox := exsOK_mem HOR.out x (List.mem_of_getElem? hx)
    have oy := exsOK_mem HOS.out y (List.mem_of_getElem? hy)
    have HRtb := hid (str_beq (l := x.tb) (m := y.tb) (ex_tb ox) (ex_tb oy))
    have HRnm := hid (str_beq (l := x.nm) (m := y.nm) (ex_nm ox) (ex_nm oy))
    have he := fun (u : World) => run_neq32 u x.v y.v (ex_v ox) (ex_v oy)
    have hb1r : b1 < wr.heap.size := by omega
    have hb2r : b2 < wr.heap.size := by omega
    clear hd1 hd2 hx hy h0 h1 g0 g1 ox oy
    have HB2 := hid (fun (o1 o2 : Obj) => (HBW.out.alloc (by omega) o1).alloc (by simp; omega) o2)
    by_cases k_op : x.op = y.op
    ·have b_op : (x.op != y.op) = false := by simp [k_op]
     have K_op := hid k_op
     clear k_op
     by_cases k_tb : x.tb = y.tb
     ·have b_tb : (str x.tb).toList = (str y.tb).toList := by rw [k_tb]
      have K_tb := hid k_tb
      clear k_tb
      by_cases k_nm : x.nm = y.nm
      ·have b_nm : (str x.nm).toList = (str y.nm).toList := by rw [k_nm]
       have K_nm := hid k_nm
       clear k_nm
       by_cases k_v : x.v = y.v
       ·rw [decide_eq_true k_v] at he; have he : ∀ u : World, (neq32 (.agg #[.int .i64 x.v.k, .int .i64 x.v.n, .string (str x.v.s)]) (.agg #[.int .i64 y.v.k, .int .i64 y.v.n, .string (str y.v.s)])).run Tryz.prog u = .ok (.bool false) u := he
        have K_v := hid k_v
        clear k_v
        go_wp2_with (first | (go_at_call 16; refine (HCA.out _ (HB2.out _ _)).mono ?_; rintro e w1 ⟨c0, rfl, hc, hb⟩; obtain ⟨x1, x2⟩ := two_kept hb; have HK0 := hid ((HB2.out _ _).trans (hb.mono (by simp; omega))); have p0_7 := cell_at x1 7 rfl; have q0_7 := cell_at x2 7 rfl; have HE0 := hid hc; clear hb hc x1 x2; cases c0) | (go_at_call 17; refine (HCQ.out _ HK0.out).mono ?_; rintro e w2 ⟨c1, rfl, hc, hb⟩; have HK1 := hid (HK0.out.trans (hb.mono HK0.out.size)); have HE1 := hid hc; clear hb hc; cases c1))
        ·go_ret
         exact ⟨false, rfl, at_ne HX.out HY.out (by have f0 := HE0.out; rw [Ne, ex_eq_iff]; simp at f0; simp [K_op.out, K_tb.out, K_nm.out, K_v.out, f0]), HK0.out⟩
        ·go_ret
         exact ⟨false, rfl, at_ne HX.out HY.out (by have f0 := HE1.out; rw [Ne, ex_eq_iff]; simp at f0; simp [K_op.out, K_tb.out, K_nm.out, K_v.out, f0]), HK1.out⟩
        ·go_roundw
         case rel => exact ⟨k + 1, by omega, by go_num, HK1.out, hid (by
          have e : x = y := by have f0 := HE0.out; have f1 := HE1.out; rw [ex_eq_iff]; simp at f0 f1; simp [K_op.out, K_tb.out, K_nm.out, K_v.out, f0, f1]
          rw [List.take_add_one, List.take_add_one, heq.out, HX.out, HY.out, e])⟩
         case measure => simp [intOf]; omega
       ·rw [decide_eq_false k_v] at he; have he : ∀ u : World, (neq32 (.agg #[.int .i64 x.v.k, .int .i64 x.v.n, .string (str x.v.s)]) (.agg #[.int .i64 y.v.k, .int .i64 y.v.n, .string (str y.v.s)])).run Tryz.prog u = .ok (.bool true) u := he
        have K_v := hid k_v
        clear k_v
        go_wp2_with fail
        go_ret
        exact ⟨false, rfl, at_ne HX.out HY.out (by rw [Ne, ex_eq_iff]; simp [K_v.out]), HB2.out _ _⟩
      ·have b_nm : ¬ (str x.nm).toList = (str y.nm).toList := beq_eq_false_iff_ne.1 (HRnm.out.trans (decide_eq_false k_nm))
       have K_nm := hid k_nm
       clear k_nm
       go_wp2_with fail
       go_ret
       exact ⟨false, rfl, at_ne HX.out HY.out (by rw [Ne, ex_eq_iff]; simp [K_nm.out]), HB2.out _ _⟩
     ·have b_tb : ¬ (str x.tb).toList = (str y.tb).toList := beq_eq_false_iff_ne.1 (HRtb.out.trans (decide_eq_false k_tb))
      have K_tb := hid k_tb
      clear k_tb
      go_wp2_with fail
      go_ret
      exact ⟨false, rfl, at_ne HX.out HY.out (by rw [Ne, ex_eq_iff]; simp [K_tb.out]), HB2.out _ _⟩
    ·have b_op : (x.op != y.op) = true := bne_iff_ne.2 k_op
     have K_op := hid k_op
     clear k_op
     go_wp2_with fail
     go_ret
     exact ⟨false, rfl, at_ne HX.out HY.out (by rw [Ne, ex_eq_iff]; simp [K_op.out]), HB2.out _ _⟩
   ·have hkn : k = n := by omega
    subst hkn
    have hcn : decide ((k : Int) < (k : Int)) = false := decide_eq_false (by omega)
    go_wp2_with fail
    go_ret
    exact ⟨true, rfl, by
     have e := heq.out
     rw [List.take_of_length_le (by rw [HN.out]; omega), List.take_of_length_le (by rw [HO.out]; omega)] at e
     exact ⟨fun _ => e, fun _ => rfl⟩, HBW.out⟩
 ·have hne : ((n : Int) != (o : Int)) = true := bne_iff_ne.2 (by omega)
  go_wp2_with fail
  go_ret
  exact ⟨false, rfl, by
   constructor
   ·intro h0; cases h0
   ·intro h0
    subst h0
    exact absurd (HN.out.symm.trans HO.out) hno, Below.refl _ _⟩
end Go.Proofs.YtegkbagnbnoopaaGreatDoor
/- the reference's queries -/
namespace Go.Proofs.YtegkbagnbnoopaaGreatDoor
open Go.ChangeShapes Go.WideShapes Go.ChangeAt Go.RowKit Go.Deep
open Go.Lib (hid)
set_option maxRecDepth 100000 in
set_option maxHeartbeats 6400000 in
theorem rqueries_step (v1 v2 : Value) (r s : List Qu) (w : World) (hv1 : DIs w v1 (.sl (qusDa r))) (hv2 : DIs w v2 (.sl (qusDa s))) (hl : r.length ≤ 1073741824) (hm : s.length ≤ 1073741824)
  (hf : ∀ x ∈ r, ∀ y ∈ s, ∀ (u : World) (a b : Value), Below w.heap.size w u → QuV u a x → QuV u b y → Calls Tryz.prog 7 #[a, b] u (EQ u (x = y))) :
  Calls Tryz.prog 17 #[v1, v2] w (EQ w (r = s)) := by
 obtain ⟨a1, c1, rfl, hc1, hcell1⟩ := qus_rows hv1
 obtain ⟨a2, c2, rfl, hc2, hcell2⟩ := qus_rows hv2
 have HC1 := hid hcell1
 have HC2 := hid hcell2
 have HF := hid hf
 generalize hn : r.length = n at *
 generalize ho : s.length = o at *
 have HN := hid hn
 have HO := hid ho
 clear hcell1 hcell2 hn ho hv1 hv2 hf
 go_enter Tryz.func17, Tryz.ntmps17
 by_cases hno : n = o
 ·subst hno
  go_wp2_with fail
  go_loopw [5] (fun i wr => ∃ k : Nat, k ≤ n ∧ i = .int .i64 k ∧ Below w.heap.size w wr ∧ Hid (r.take k = s.take k)) (fun i _ => n - (intOf i).toNat)
  case atStart => exact ⟨0, Nat.zero_le _, rfl, Below.refl _ _, hid rfl⟩
  case round =>
   obtain ⟨k, hk1, rfl, hbw, heq⟩ := hrel
   have hsz := hbw.size
   have HBW := hid hbw
   clear hbw
   by_cases hlt1 : k < n
   ·obtain ⟨b1, o1, rfl, hb1, hd1⟩ := HC1.out (by omega)
    obtain ⟨b2, o2, rfl, hb2, hd2⟩ := HC2.out (by omega)
    obtain ⟨x, hx⟩ : ∃ x, r[k]? = some x := ⟨_, List.getElem?_eq_getElem (by rw [HN.out]; exact hlt1)⟩
    obtain ⟨y, hy⟩ : ∃ y, s[k]? = some y := ⟨_, List.getElem?_eq_getElem (by rw [HO.out]; exact hlt1)⟩
    obtain ⟨s0, s1, s2, s3, s4, s5, s6, p0, p1, p2, p3, p4, p5, p6, p7, p8, p9, p10, h0, h1, h2, h3, h4, h5, h6⟩ := hd1 k x hx
    obtain ⟨t0, t1, t2, t3, t4, t5, t6, q0, q1, q2, q3, q4, q5, q6, q7, q8, q9, q10, g0, g1, g2, g3, g4, g5, g6⟩ := hd2 k y hy
    obtain ⟨e0, m0, n0, rfl⟩ := dis_slice h0
    obtain ⟨e10, m10, n10, rfl⟩ := dis_slice g0
    obtain ⟨e1, m1, n1, rfl⟩ := dis_slice h1
    obtain ⟨e11, m11, n11, rfl⟩ := dis_slice g1
    obtain ⟨e2, m2, n2, rfl⟩ := dis_slice h2
    obtain ⟨e12, m12, n12, rfl⟩ := dis_slice g2
    obtain ⟨e3, m3, n3, rfl⟩ := dis_slice h3
    obtain ⟨e13, m13, n13, rfl⟩ := dis_slice g3
    obtain ⟨e4, m4, n4, rfl⟩ := dis_slice h4
    obtain ⟨e14, m14, n14, rfl⟩ := dis_slice g4
    obtain ⟨e5, m5, n5, rfl⟩ := dis_slice h5
    obtain ⟨e15, m15, n15, rfl⟩ := dis_slice g5
    obtain ⟨e6, m6, n6, rfl⟩ := dis_slice h6
    obtain ⟨e16, m16, n16, rfl⟩ := dis_slice g6
    have HCS := hid (fun (u : World) (hu : Below w.heap.size w u) => HF.out x (List.mem_of_getElem? hx) y (List.mem_of_getElem? hy) u _ _ hu ⟨_, _, _, _, _, _, _, rfl, h0.keep hu, h1.keep hu, h2.keep hu, h3.keep hu, h4.keep hu, h5.keep hu, h6.keep hu⟩ ⟨_, _, _, _, _, _, _, rfl, g0.keep hu, g1.keep hu, g2.keep hu, g3.keep hu, g4.keep hu, g5.keep hu, g6.keep hu⟩)
    have HX := hid hx
    have HY := hid hy
    have P0 := hid p0
    have Q0 := hid q0
    have P1 := hid p1
    have Q1 := hid q1
    have P2 := hid p2
    have Q2 := hid q2
    have P3 := hid p3
    have Q3 := hid q3
    have P4 := hid p4
    have Q4 := hid q4
    have P5 := hid p5
    have Q5 := hid q5
    have P6 := hid p6
    have Q6 := hid q6
    have P7 := hid p7
    have Q7 := hid q7
    have P8 := hid p8
    have Q8 := hid q8
    have P9 := hid p9
    have Q9 := hid q9
    have P10 := hid p10
    have Q10 := hid q10
    have hkn : (k : Int) < (n : Int) := by omega
    have hcn1 : (n : Int) ≤ (c1 : Int) := by omega
    have hcn2 : (n : Int) ≤ (c2 : Int) := by omega
    clear hd1 hd2 hx hy h0 g0 h1 g1 h2 g2 h3 g3 h4 g4 h5 g5 h6 g6 p0 q0 p1 q1 p2 q2 p3 q3 p4 q4 p5 q5 p6 q6 p7 q7 p8 q8 p9 q9 p10 q10
    go_wp2_with fail
    refine wp_region_held_drew (S := fun u => Below w.heap.size w u) (by kernel_rfl) (HBW.out.drew) (fun hHeld => ?_)
    refine tk (i := 0) (oi := ⟨some 17, .move (.tmp 0), 22, "same.go:29", #[], none⟩) (v := ?_) (Or.inl ⟨by rfl, ?_⟩) ?_
    rotate_left 1
    ·(intro u hSw; go_simp; try with_reducible rfl)
    try simp only [Act.put, sA, sB, sC]
    refine tk (i := 1) (oi := ⟨some 18, .move (.tmp 5), 3, "same.go:29", #[], none⟩) (v := ?_) (Or.inl ⟨by rfl, ?_⟩) ?_
    rotate_left 1
    ·(intro u hSw; go_simp; try with_reducible rfl)
    try simp only [Act.put, sA, sB, sC]
    refine tk (i := 2) (oi := ⟨some 19, .indexAddr 22 (.tmp 17) (.tmp 18), 0, "same.go:29", #[⟨0, .data⟩, ⟨1, .data⟩], none⟩) (v := ?_) (Or.inl ⟨by rfl, ?_⟩) ?_
    rotate_left 1
    ·(intro u hSw; go_simp; try with_reducible rfl)
    try simp only [Act.put, sA, sB, sC]
    refine tk (i := 3) (oi := ⟨some 20, .load 30 (.tmp 19), 30, "same.go:29", #[⟨2, .data⟩], none⟩) (v := ?_) (Or.inl ⟨by rfl, ?_⟩) ?_
    rotate_left 1
    ·(intro u hSw; have p0 := (hSw.cell (p := ⟨b1, o1 + k * 11, none⟩) hb1).trans P0.out; have q0 := (hSw.cell (p := ⟨b2, o2 + k * 11, none⟩) hb2).trans Q0.out; have p1 := (hSw.cell (p := ⟨b1, o1 + k * 11 + 1, none⟩) hb1).trans P1.out; have q1 := (hSw.cell (p := ⟨b2, o2 + k * 11 + 1, none⟩) hb2).trans Q1.out; have p2 := (hSw.cell (p := ⟨b1, o1 + k * 11 + 2, none⟩) hb1).trans P2.out; have q2 := (hSw.cell (p := ⟨b2, o2 + k * 11 + 2, none⟩) hb2).trans Q2.out; have p3 := (hSw.cell (p := ⟨b1, o1 + k * 11 + 3, none⟩) hb1).trans P3.out; have q3 := (hSw.cell (p := ⟨b2, o2 + k * 11 + 3, none⟩) hb2).trans Q3.out; have p4 := (hSw.cell (p := ⟨b1, o1 + k * 11 + 4, none⟩) hb1).trans P4.out; have q4 := (hSw.cell (p := ⟨b2, o2 + k * 11 + 4, none⟩) hb2).trans Q4.out; have p5 := (hSw.cell (p := ⟨b1, o1 + k * 11 + 5, none⟩) hb1).trans P5.out; have q5 := (hSw.cell (p := ⟨b2, o2 + k * 11 + 5, none⟩) hb2).trans Q5.out; have p6 := (hSw.cell (p := ⟨b1, o1 + k * 11 + 6, none⟩) hb1).trans P6.out; have q6 := (hSw.cell (p := ⟨b2, o2 + k * 11 + 6, none⟩) hb2).trans Q6.out; have p7 := (hSw.cell (p := ⟨b1, o1 + k * 11 + 7, none⟩) hb1).trans P7.out; have q7 := (hSw.cell (p := ⟨b2, o2 + k * 11 + 7, none⟩) hb2).trans Q7.out; have p8 := (hSw.cell (p := ⟨b1, o1 + k * 11 + 8, none⟩) hb1).trans P8.out; have q8 := (hSw.cell (p := ⟨b2, o2 + k * 11 + 8, none⟩) hb2).trans Q8.out; have p9 := (hSw.cell (p := ⟨b1, o1 + k * 11 + 9, none⟩) hb1).trans P9.out; have q9 := (hSw.cell (p := ⟨b2, o2 + k * 11 + 9, none⟩) hb2).trans Q9.out; have p10 := (hSw.cell (p := ⟨b1, o1 + k * 11 + 10, none⟩) hb1).trans P10.out; have q10 := (hSw.cell (p := ⟨b2, o2 + k * 11 + 10, none⟩) hb2).trans Q10.out; go_simp; try with_reducible rfl)
    try simp only [Act.put, sA, sB, sC]
    refine tk (i := 4) (oi := ⟨some 21, .move (.tmp 1), 22, "same.go:29", #[], none⟩) (v := ?_) (Or.inl ⟨by rfl, ?_⟩) ?_
    rotate_left 1
    ·(intro u hSw; go_simp; try with_reducible rfl)
    try simp only [Act.put, sA, sB, sC]
    refine tk (i := 5) (oi := ⟨some 22, .move (.tmp 5), 3, "same.go:29", #[], none⟩) (v := ?_) (Or.inl ⟨by rfl, ?_⟩) ?_
    rotate_left 1
    ·(intro u hSw; go_simp; try with_reducible rfl)
    try simp only [Act.put, sA, sB, sC]
    refine tk (i := 6) (oi := ⟨some 23, .indexAddr 22 (.tmp 21) (.tmp 22), 0, "same.go:29", #[⟨4, .data⟩, ⟨5, .data⟩], none⟩) (v := ?_) (Or.inl ⟨by rfl, ?_⟩) ?_
    rotate_left 1
    ·(intro u hSw; go_simp; try with_reducible rfl)
    try simp only [Act.put, sA, sB, sC]
    refine tk (i := 7) (oi := ⟨some 24, .load 30 (.tmp 23), 30, "same.go:29", #[⟨6, .data⟩], none⟩) (v := ?_) (Or.inl ⟨by rfl, ?_⟩) ?_
    rotate_left 1
    ·(intro u hSw; have p0 := (hSw.cell (p := ⟨b1, o1 + k * 11, none⟩) hb1).trans P0.out; have q0 := (hSw.cell (p := ⟨b2, o2 + k * 11, none⟩) hb2).trans Q0.out; have p1 := (hSw.cell (p := ⟨b1, o1 + k * 11 + 1, none⟩) hb1).trans P1.out; have q1 := (hSw.cell (p := ⟨b2, o2 + k * 11 + 1, none⟩) hb2).trans Q1.out; have p2 := (hSw.cell (p := ⟨b1, o1 + k * 11 + 2, none⟩) hb1).trans P2.out; have q2 := (hSw.cell (p := ⟨b2, o2 + k * 11 + 2, none⟩) hb2).trans Q2.out; have p3 := (hSw.cell (p := ⟨b1, o1 + k * 11 + 3, none⟩) hb1).trans P3.out; have q3 := (hSw.cell (p := ⟨b2, o2 + k * 11 + 3, none⟩) hb2).trans Q3.out; have p4 := (hSw.cell (p := ⟨b1, o1 + k * 11 + 4, none⟩) hb1).trans P4.out; have q4 := (hSw.cell (p := ⟨b2, o2 + k * 11 + 4, none⟩) hb2).trans Q4.out; have p5 := (hSw.cell (p := ⟨b1, o1 + k * 11 + 5, none⟩) hb1).trans P5.out; have q5 := (hSw.cell (p := ⟨b2, o2 + k * 11 + 5, none⟩) hb2).trans Q5.out; have p6 := (hSw.cell (p := ⟨b1, o1 + k * 11 + 6, none⟩) hb1).trans P6.out; have q6 := (hSw.cell (p := ⟨b2, o2 + k * 11 + 6, none⟩) hb2).trans Q6.out; have p7 := (hSw.cell (p := ⟨b1, o1 + k * 11 + 7, none⟩) hb1).trans P7.out; have q7 := (hSw.cell (p := ⟨b2, o2 + k * 11 + 7, none⟩) hb2).trans Q7.out; have p8 := (hSw.cell (p := ⟨b1, o1 + k * 11 + 8, none⟩) hb1).trans P8.out; have q8 := (hSw.cell (p := ⟨b2, o2 + k * 11 + 8, none⟩) hb2).trans Q8.out; have p9 := (hSw.cell (p := ⟨b1, o1 + k * 11 + 9, none⟩) hb1).trans P9.out; have q9 := (hSw.cell (p := ⟨b2, o2 + k * 11 + 9, none⟩) hb2).trans Q9.out; have p10 := (hSw.cell (p := ⟨b1, o1 + k * 11 + 10, none⟩) hb1).trans P10.out; have q10 := (hSw.cell (p := ⟨b2, o2 + k * 11 + 10, none⟩) hb2).trans Q10.out; go_simp; try with_reducible rfl)
    try simp only [Act.put, sA, sB, sC]
    refine wpAnyH_ready (rs := [8]) (by kernel_rfl) (by simp) ?_
    refine AllReadyH.cons (o := ⟨some 25, .call ⟨.value (.func 7), #[.tmp 20, .tmp 24], #[30, 30]⟩, 4, "same.go:29", #[⟨3, .data⟩, ⟨7, .data⟩], none⟩) rfl (fun K hK => ?_) AllReadyH.nil
    go_simp
    go_at_call 7
    refine (HCS.out _ hHeld).mono ?_
    rintro e w' ⟨c, rfl, hc, hb⟩
    have HE := hid hc
    clear hc
    go_wp2_with fail
    refine hK.out _ _ (hHeld.trans (hb.mono hHeld.size)) (fun hHeld => ?_)
    clear hK K
    try simp only [Act.put, sA, sB, sC]
    refine tk (i := 9) (oi := ⟨some 26, .unOp UnOp.not 4 (.tmp 25), 4, "same.go:29", #[⟨8, .data⟩], none⟩) (v := ?_) (Or.inl ⟨by rfl, ?_⟩) ?_
    rotate_left 1
    ·(intro u hSw; go_simp; try with_reducible rfl)
    try simp only [Act.put, sA, sB, sC]
    refine wpAnyH_done (by kernel_rfl) ?_ _
    have HH := hid hHeld
    clear hHeld
    cases c
    ·go_wp2_with fail
     go_ret
     exact ⟨false, rfl, at_ne HX.out HY.out (fun e => by have := HE.out.2 e; cases this), HH.out⟩
    ·go_wp2_with fail
     go_roundw
     case rel => exact ⟨k + 1, by omega, by go_num, HH.out, hid (by rw [List.take_add_one, List.take_add_one, heq.out, HX.out, HY.out, HE.out.1 rfl])⟩
     case measure => simp [intOf]; omega
   ·have hkn : k = n := by omega
    subst hkn
    have hcn : decide ((k : Int) < (k : Int)) = false := decide_eq_false (by omega)
    go_wp2_with fail
    go_ret
    exact ⟨true, rfl, by
     have e := heq.out
     rw [List.take_of_length_le (by rw [HN.out]; omega), List.take_of_length_le (by rw [HO.out]; omega)] at e
     exact ⟨fun _ => e, fun _ => rfl⟩, HBW.out⟩
 ·have hne : ((n : Int) != (o : Int)) = true := bne_iff_ne.2 (by omega)
  go_wp2_with fail
  go_ret
  exact ⟨false, rfl, by
   constructor
   ·intro h0; cases h0
   ·intro h0
    subst h0
    exact absurd (HN.out.symm.trans HO.out) hno, Below.refl _ _⟩
end Go.Proofs.YtegkbagnbnoopaaGreatDoor
