/- stage 7: a proof's bytes grow: enter -/
import Derived.Test.YtbmlkocpjboodaaDoorMv10
import Derived.Maps.AppendAt
namespace Go.Proofs.YtbmlkocpjboodaaDoor
open Go.RowKit
open Go.Lib (hid)
def Own (w : World) (B : Nat) (v : Value) (l : List Int) : Prop := w.ownsRow B 5 1 v l.length (l.map (Value.int .u8))
theorem Own.bs {w : World} {B : Nat} {v : Value} {l : List Int} (h : Own w B v l) : Bs w v l := Bs_of_own h
theorem Own.below {w w' : World} {B B' : Nat} {v : Value} {l : List Int} (h : Own w B v l) (hb : Below B' w w') (hB : w.heap.size ≤ B') : Own w' B v l := by
 have hg : w.grownBy w' none := ⟨hb.os, hb.tape, hb.output, hb.size, fun k hk _ => hb.block k (by omega)⟩
 refine World.ownsRow.kept h hg ?_
 cases hv : v.ownBlock with
 | none => exact .inl rfl
 | some g => exact .inr (by simp)
theorem Own.alloc {w : World} {B : Nat} {v : Value} {l : List Int} (h : Own w B v l) (o : Obj) : Own (w.alloc o) B v l := World.ownsRow.alloc h o
theorem Own.nil (w : World) (B : Nat) : Own w B (.slice none 0 0) [] := World.ownsRow_nil _ _ _ _
/-- a row's block stays, or is new -/
def OwnTo (w : World) (v v' : Value) : Prop := ∀ g, v'.ownBlock = some g → v.ownBlock = some g ∨ w.heap.size ≤ g
theorem OwnTo.refl (w : World) (v : Value) : OwnTo w v v := fun _ h => .inl h
theorem OwnTo.trans {w w1 : World} {v v1 v2 : Value} (h : OwnTo w v v1) (k : OwnTo w1 v1 v2) (hs : w.heap.size ≤ w1.heap.size) : OwnTo w v v2 := fun g hg => by
 rcases k g hg with h1 | h1
 ·exact h g h1
 ·exact .inr (by omega)
theorem Chg.own {w w1 w2 : World} {v v1 : Value} (h : Chg (fun g => v.ownBlock = some g) w w1) (ho : OwnTo w v v1) (k : Chg (fun g => v1.ownBlock = some g) w1 w2) : Chg (fun g => v.ownBlock = some g) w w2 :=
 h.trans k (fun g hg => ho g hg)
set_option maxRecDepth 100000 in
theorem run_append_OwnT {w : World} {B : Nat} {v : Value} {l : List Int} (hown : Own w B v l) {v2 : Value} {m : List Int} (hbs : Bs w v2 m) (h63 : l.length + m.length ≤ 1099511627776) (hbase : B ≤ w.heap.size) (ty : TypeId) :
  ∃ v' w', (Builtin.append_ #[31, 31] ty #[v, v2]).run Tryd.prog w = .ok v' w' ∧ Own w' B v' (l ++ m) ∧ Chg (fun g => v.ownBlock = some g) w w' ∧ OwnTo w v v' := by
 obtain ⟨i0, hi, hz0, hz1, hz2⟩ := info_parts info5
 obtain ⟨ad, cap, rfl, hcap, hc⟩ := hbs
 cases ad with
 | none =>
  have h0 : cap = 0 := hcap.2 rfl
  have h1 : m = [] := List.eq_nil_of_length_eq_zero (by omega)
  subst h0 h1
  refine ⟨v, w, run_append_owned_none (P := Tryd.prog) (w := w) B 31 ty 5 i0 1 Tryd.underlying31 hi v _ _ hown, by simpa using hown, Chg.refl _ _, OwnTo.refl _ _⟩
 | some ad =>
  obtain ⟨v', w', h1, h2, h3, _, h5⟩ := run_append_own_at (P := Tryd.prog) w B 31 ty 5 i0 (.int .u8 0) 1 1 Tryd.underlying31 hi hz0 hz1 hz2 rfl (by decide) v l.length (l.map (Value.int .u8)) hown ad m.length cap (m.map (Value.int .u8)) (by simp) (by
   intro q u hu
   rw [List.getElem?_map, Option.map_eq_some_iff] at hu
   obtain ⟨y, hy, rfl⟩ := hu
   have hq : q < m.length := (List.getElem?_eq_some_iff.1 hy).1
   obtain ⟨pb, po, e1, e2, e3⟩ := hc (by omega)
   injection e1 with e1
   have e4 := e3 q hq
   rw [hy] at e4
   rw [e1, Addr.add_mid]
   exact e4) (by intro v hv; obtain ⟨x, _, rfl⟩ := List.mem_map.1 hv; rfl) (by unfold maxLen; omega) (by omega) hbase
  refine ⟨v', w', h1, by unfold Own; rw [List.length_append, List.map_append]; exact h2, Chg.grown h3 (fun k hk => hk), fun g hg => ?_⟩
  rcases h5 with h5 | h5
  ·exact .inl (by rw [← h5]; exact hg)
  ·rw [h5] at hg; injection hg with hg; exact .inr (by omega)
theorem wpList_append_OwnT {ops : Array Oper} {rest : List Oper} {o : Oper} {a : Act} {w : World} {Q : Exit → Act → World → Prop} (hgd : o.guard = none) (s x : Operand)
  (ho : o.op = .call { callee := .builtin .append, args := #[s, x], argTypes := #[31, 31] }) (B : Nat)
  (v : Value) (l : List Int) (hs : a.eval s = v) (hown : Own w B v l) (v2 : Value) (m : List Int) (hx : a.eval x = v2) (hbs : Bs w v2 m) (h63 : l.length + m.length ≤ 1099511627776) (hbase : B ≤ w.heap.size)
  (h : ∀ v' w', Own w' B v' (l ++ m) → Chg (fun g => v.ownBlock = some g) w w' → OwnTo w v v' → wpList Tryd.prog ops Q rest (a.put o.dst v') w') : wpList Tryd.prog ops Q (o :: rest) a w := by
 obtain ⟨v', w', h1, h2, h3, h4⟩ := run_append_OwnT hown hbs h63 hbase o.type
 refine wpList_plain hgd fun K hK => ?_
 unfold Oper.wp
 simp [execOp, ho, resolve, invoke, builtin, hs, hx, h1, Result.andThen]
 exact hK _ _ (h v' w' h2 h3 h4)
/-- what enter does to a proof's bytes -/
def prE (fr to : List Int) (e : Bool) (s : List Int) (t : MT) (lo hi : Option (List Int)) : List Int × Bool :=
 match t with
 | .nil => (s ++ [0], false)
 | t => if outQ fr to e lo hi = true then ((s ++ [1]) ++ t.dg, false) else (s ++ [2], true)
/-- what meet does -/
def prM (s : List Int) (k : List Int) (n : Nat) : List Int := ((s ++ [(k.length : Int) / 256, (k.length : Int) % 256]) ++ k) ++ be8 n
/-- a proof under way: its box Pb, the range's box Sb -/
structure PI (B Pb Sb : Nat) (S : Nat → Prop) (fv tv : Value) (fr to : List Int) (e : Bool) (w : World) (s : List Int) (J : Nat → Prop) : Prop where
 box : ∃ sv, w.heap[Pb]? = some (.cells #[sv] 31 (0, 0)) ∧ Own w B sv s ∧ (∀ g, sv.ownBlock = some g → g ≠ Pb ∧ g ≠ Sb) ∧ ∀ q, J q ↔ q = Pb ∨ sv.ownBlock = some q
 span : w.heap[Sb]? = some (.cells #[fv, tv, .bool e] 74 (0, 0))
 fr' : KIs w S fv fr
 to' : KIs w S tv to
 ne : Pb ≠ Sb
 lo : B ≤ Pb ∧ B ≤ Sb
 s : ∀ q, S q → q < B
theorem PI.keep {B Pb Sb : Nat} {S : Nat → Prop} {fv tv : Value} {fr to : List Int} {e : Bool} {w w' : World} {s : List Int} {J : Nat → Prop} (h : PI B Pb Sb S fv tv fr to e w s J) (hb : Below w.heap.size w w') : PI B Pb Sb S fv tv fr to e w' s J := by
 obtain ⟨⟨sv, h1, h2, h3, h4⟩, h5, h6, h7, h8, h9, h10⟩ := h
 exact ⟨⟨sv, (hb.block _ (blk_lt h1)).trans h1, h2.below hb (Nat.le_refl _), h3, h4⟩, (hb.block _ (blk_lt h5)).trans h5, h6.below hb, h7.below hb, h8, h9, h10⟩
theorem PI.low {B Pb Sb : Nat} {S : Nat → Prop} {fv tv : Value} {fr to : List Int} {e : Bool} {w : World} {s : List Int} {J : Nat → Prop} (h : PI B Pb Sb S fv tv fr to e w s J) : ∀ b, J b → b < w.heap.size ∧ ¬ S b := by
 obtain ⟨⟨sv, h1, h2, h3, h4⟩, h5, h6, h7, h8, h9, h10⟩ := h
 intro b hb
 rcases (h4 b).1 hb with rfl | hb
 ·exact ⟨blk_lt h1, fun hs => by have := h10 _ hs; omega⟩
 ·have := h2.lt b hb
  exact ⟨this.2, fun hs => by have := h10 _ hs; omega⟩
/-- bytes are appended and the slice is stored -/
theorem PI.app {B Pb Sb : Nat} {S : Nat → Prop} {fv tv : Value} {fr to : List Int} {e : Bool} {w w1 w2 : World} {s m : List Int} {J : Nat → Prop} {sv v' : Value} (h : PI B Pb Sb S fv tv fr to e w s J) (hx : w.heap[Pb]? = some (.cells #[sv] 31 (0, 0)))
    (hb : Below w.heap.size w w1) (ho : Own w2 B v' (s ++ m)) (hc : Chg (fun g => sv.ownBlock = some g) w1 w2) (ht : OwnTo w1 sv v') : Stp (PI B Pb Sb S fv tv fr to e) J w (w2.setCell ⟨Pb, 0, none⟩ v') (s ++ m) := by
  obtain ⟨⟨sv', h1, h2, h3, h4⟩, h5, h6, h7, h8, h9, h10⟩ := h
  obtain rfl : sv = sv' := by rw [hx] at h1; injection h1 with h1; injection h1 with h1; injection h1 with h1; injection h1 with h1
  have hP1 : w1.heap[Pb]? = some (.cells #[sv] 31 (0, 0)) := (hb.block _ (blk_lt hx)).trans hx
  have hP2 : w2.heap[Pb]? = some (.cells #[sv] 31 (0, 0)) := (hc.block _ (blk_lt hP1) (fun hh => (h3 Pb hh).1 rfl)).trans hP1
  have hS1 : w1.heap[Sb]? = _ := (hb.block _ (blk_lt h5)).trans h5
  have hS2 : w2.heap[Sb]? = _ := (hc.block _ (blk_lt hS1) (fun hh => (h3 Sb hh).2 rfl)).trans hS1
  have hcs : Chg (fun q => q = Pb) w2 (w2.setCell ⟨Pb, 0, none⟩ v') := cell_chg _ hP2
  have hlt := blk_lt hP1
  have hlts := blk_lt hS1
  have hne : ∀ g, v'.ownBlock = some g → g ≠ Pb ∧ g ≠ Sb := fun g hg => by
    rcases ht g hg with hh | hh
    · exact h3 g hh
    · exact ⟨by omega, by omega⟩
  have hnS : ∀ q, S q → ¬ sv.ownBlock = some q := fun q hq hh => by
    have := (h2.lt q hh).1
    have := h10 q hq
    omega
  have hall : Chg J w (w2.setCell ⟨Pb, 0, none⟩ v') := ((Chg.fresh (F := J) hb).trans hc (fun i hi => .inl ((h4 i).2 (.inr hi)))).trans hcs (fun i hi => .inl ((h4 i).2 (.inl hi)))
  have hk : ∀ {v : Value} {l : List Int}, KIs w S v l → KIs (w2.setCell ⟨Pb, 0, none⟩ v') S v l := fun hk => hk.cg hall (fun q _ hq hj => ((h4 q).1 hj).elim (fun hh => by have := h10 q hq; omega) (fun hh => hnS q hq hh))
  refine ⟨fun q => q = Pb ∨ v'.ownBlock = some q, ⟨⟨v', one_setCell hP2, ?_, hne, fun q => Iff.rfl⟩, (hcs.block _ (blk_lt hS2) (fun hh => h8 hh.symm)).trans hS2, hk h6, hk h7, h8, h9, h10⟩, hall, fun q hq => ?_⟩
  · exact World.ownsRow.kept ho (grownBy_setCell w2 ⟨Pb, 0, none⟩ v') (by
      cases hv : v'.ownBlock with
      | none => exact .inl rfl
      | some g => exact .inr (fun hh => (hne g hv).1 (by injection hh)))
  · rcases hq with rfl | hq
    · exact .inl ((h4 _).2 (.inl rfl))
    · rcases ht q hq with hh | hh
      · exact .inl ((h4 q).2 (.inr hh))
      · exact .inr (Nat.le_trans hb.size hh)
end Go.Proofs.YtbmlkocpjboodaaDoor
/- stage 7: a proof's bytes grow: enter's walk -/
namespace Go.Proofs.YtbmlkocpjboodaaDoor
open Go.RowKit
open Go.Lib (hid)
theorem Own.slc {w : World} {B : Nat} {v : Value} {l : List Int} (h : Own w B v l) : ∃ a n c, v = .slice a n c := by
 obtain ⟨a, c, e, -⟩ := h.bs
 exact ⟨_, _, _, e⟩
set_option maxRecDepth 100000 in
set_option maxHeartbeats 4000000 in
theorem prNil_any {B Pb Sb : Nat} {S : Nat → Prop} {fv tv : Value} {fr to : List Int} {e : Bool} (w : World) (s : List Int) (J : Nat → Prop) (alo ahi : Option Addr) (h : PI B Pb Sb S fv tv fr to e w s J) (hbd : (s ++ [0]).length ≤ 1099511627776) :
  Calls Tryd.prog 84 #[.pointer none, .agg #[.pointer alo, .pointer ahi], .pointer (some ⟨Pb, 0, none⟩), .pointer (some ⟨Sb, 0, none⟩)] w fun d w' => d = .returned (.bool false) ∧ Stp (PI B Pb Sb S fv tv fr to e) J w w' (s ++ [0]) := by
 obtain ⟨sv, h1, h2, h3, h4⟩ := id h.box
 have hPb := blk_lt h1
 have c0 : w.cell? ⟨Pb, 0, none⟩ = some sv := cell_of_row w Pb 0 _ _ _ h1
 have hbb : Below w.heap.size w ((w.alloc (.cells #[.pointer alo, .pointer ahi] 142)).alloc (.cells #[.int .u8 0] 5)) := ((Below.refl _ _).alloc (Nat.le_refl _) _).alloc (by simp) _
 have LB : Bs ((w.alloc (.cells #[.pointer alo, .pointer ahi] 142)).alloc (.cells #[.int .u8 0] 5)) (.slice (some ⟨w.heap.size + 1, 0, none⟩) 1 1) [0] := by
  have q := lit_bs (w.alloc (.cells #[.pointer alo, .pointer ahi] 142)) 5 [0] (0, 0) 1 1 rfl (Nat.le_refl _)
  rwa [World.size_alloc] at q
 have HLB := hid LB
 have HO := hid h2
 have HH := hid (And.intro h (And.intro h1 hbb))
 have HP := hid (fun w2 (hc : Chg (fun g => sv.ownBlock = some g) ((w.alloc (.cells #[.pointer alo, .pointer ahi] 142)).alloc (.cells #[.int .u8 0] 5)) w2) => (show w2.heap[Pb]? = some (.cells #[sv] 31 (0, 0)) from (hc.block _ (blk_lt ((hbb.block _ hPb).trans h1)) (fun hh => (h3 Pb hh).1 rfl)).trans ((hbb.block _ hPb).trans h1)))
 have HLEN := hid (show s.length + [(0 : Int)].length ≤ 1099511627776 by rw [List.length_append] at hbd; exact hbd)
 have HBW := hid (show B ≤ ((w.alloc (.cells #[.pointer alo, .pointer ahi] 142)).alloc (.cells #[.int .u8 0] 5)).heap.size by have := h.lo.1; have := hbb.size; omega)
 clear h h1 h2 h3 h4 hbb LB hbd
 go_enter Tryd.func84, Tryd.ntmps84
 go_wp2_with (at_builtin; refine wpList_append_OwnT (o := ⟨some 15, _, _, _, _, _⟩) rfl (Operand.tmp 13) (Operand.tmp 14) rfl B sv s rfl ((HO.out.alloc _).alloc _) _ [0] rfl HLB.out HLEN.out HBW.out ?_; intro v2 w2 ho hc ht; obtain ⟨av, nv, cv, rfl⟩ := ho.slc; have hp2 := HP.out w2 hc; have c2 := cell_of_row _ Pb 0 _ _ _ hp2; have f2 := frozen_of_row _ Pb 0 _ _ hp2; have HA := hid (And.intro ho (And.intro hc ht)); clear ho hc ht hp2)
 go_ret
 exact ⟨rfl, HH.out.1.app HH.out.2.1 HH.out.2.2 HA.out.1 HA.out.2.1 HA.out.2.2⟩
theorem step_append_OwnT {ops : Array Oper} {o : Oper} {a : Act} {w : World} {K : Act → World → Prop} {Q : Exit → Act → World → Prop} {E : Prop}
  (hg : o.guard = none) (s x : Operand) (hop : o.op = Op.call { callee := Callee.builtin Builtin.append, args := #[s, x], argTypes := #[31, 31] }) (B : Nat)
  (v : Value) (l : List Int) (hs : a.eval s = v) (hown : Own w B v l) (v2 : Value) (m : List Int) (hx : a.eval x = v2) (hbs : Bs w v2 m) (h63 : l.length + m.length ≤ 1099511627776) (hbase : B ≤ w.heap.size)
  (hK : ∀ v' w', Own w' B v' (l ++ m) → Chg (fun g => v.ownBlock = some g) w w' → OwnTo w v v' → K (a.put o.dst v') w') :
  if Region.wanted o (yielded ops a.tmps) = true then Oper.wp Tryd.prog o a w K Q else E := by
 have hw : Region.wanted o (yielded ops a.tmps) = true := by simp [Region.wanted, hg]
 rw [if_pos hw]
 obtain ⟨v', w', h1, h2, h3, h4⟩ := run_append_OwnT hown hbs h63 hbase o.type
 unfold Oper.wp
 simp [execOp, hop, resolve, invoke, builtin, hs, hx, h1, Result.andThen]
 exact hK v' w' h2 h3 h4
theorem dg_bs {u : World} {b : Nat} {kv lp rp : Value} {n : Nat} {rk dg : List Int} {pr : Bool} {T : TypeId} (h : u.heap[b]? = some (.cells (ndC kv n rk lp rp dg pr) T (0, 0))) (h1 : rk.length = 32) (h2 : dg.length = 32) : Bs u (.slice (some ⟨b, 36, none⟩) 32 32) dg := by
 refine ⟨some ⟨b, 36, none⟩, 32, by rw [h2], ⟨by omega, fun e => by cases e⟩, fun _ => ⟨b, 36, rfl, blk_lt h, fun i hi => ?_⟩⟩
 rw [cell_of_row _ b _ _ _ _ h, ndC_dg h1 h2 i (by omega)]
 simp [hi]
set_option maxRecDepth 100000 in
set_option maxHeartbeats 8000000 in
theorem prBlk_any {B Pb Sb : Nat} {S : Nat → Prop} {fv tv : Value} {fr to : List Int} {e : Bool} (gf : Rng fr) (gt : Rng to) (w : World) (s : List Int) (J : Nat → Prop) (b : Nat) (kv lp rp : Value) (n : Nat) (rk dg : List Int) (pr : Bool) (plo phi : Value) (lo hi : Option (List Int)) (h : PI B Pb Sb S fv tv fr to e w s J) (hx : w.heap[b]? = some (.cells (ndC kv n rk lp rp dg pr) 115 (0, 0))) (hSb : S b) (hrk : rk.length = 32) (hdg : dg.length = 32) (hlo : BK w S plo lo) (hhi : BK w S phi hi) (hbd : (if outQ fr to e lo hi = true then (s ++ [1]) ++ dg else s ++ [2]).length ≤ 1099511627776) :
  Calls Tryd.prog 84 #[.pointer (some ⟨b, 0, none⟩), .agg #[plo, phi], .pointer (some ⟨Pb, 0, none⟩), .pointer (some ⟨Sb, 0, none⟩)] w fun d w' => d = .returned (.bool (!outQ fr to e lo hi)) ∧ Stp (PI B Pb Sb S fv tv fr to e) J w w' (if outQ fr to e lo hi = true then (s ++ [1]) ++ dg else s ++ [2]) := by
 obtain ⟨alo, rfl⟩ := hlo.form
 obtain ⟨ahi, rfl⟩ := hhi.form
 obtain ⟨sv, h1, h2, h3, h4⟩ := id h.box
 have hbb : Below w.heap.size w (w.alloc (.cells #[.pointer alo, .pointer ahi] 142)) := (Below.refl _ _).alloc (Nat.le_refl _) _
 have HB5 := hid (heap_alloc_new w (.cells #[.pointer alo, .pointer ahi] 142))
 have HS5 := hid ((hbb.block _ (blk_lt h.span)).trans h.span)
 have HOU := hid (outside_any fv tv (.pointer alo) (.pointer ahi) fr to e lo hi (w.alloc (.cells #[.pointer alo, .pointer ahi] 142)) (h.fr'.below hbb).1 (h.to'.below hbb).1 gf gt (hlo.chg (Chg.fresh (F := fun _ => False) hbb) (fun _ _ h => h)) (hhi.chg (Chg.fresh (F := fun _ => False) hbb) (fun _ _ h => h)))
 have HH := hid (And.intro h (And.intro h1 (And.intro h2 (And.intro h3 (And.intro hbb (And.intro hx (And.intro hSb (And.intro hrk hdg))))))))
 have HLO := hid h.lo.1
 have HBD := hid hbd
 clear h h1 h2 h3 h4 hbb hx hSb hrk hdg hlo hhi hbd
 generalize hq : outQ fr to e lo hi = q at *
 clear hq
 go_enter Tryd.func84, Tryd.ntmps84
 go_wp2_with (first
  | (refine wpList_load_row rfl 142 (Operand.tmp 5) rfl w.heap.size rfl 142 _ (0, 0) _ HB5.out Tryd.underlyingBT rfl (by kernel_rfl) ?_)
  | (refine wpList_load_row rfl 74 (Operand.tmp 3) rfl Sb rfl 74 _ (0, 0) _ HS5.out Tryd.underlying74 rfl (by kernel_rfl) ?_))
 refine HOU.out.mono ?_
 rintro d w1 ⟨rfl, hb1⟩
 have hb01 := HH.out.2.2.2.2.1.trans (hb1.mono HH.out.2.2.2.2.1.size)
 have hp1 := (hb01.block _ (blk_lt HH.out.2.1)).trans HH.out.2.1
 have c1 : w1.cell? ⟨Pb, 0, none⟩ = some sv := cell_of_row w1 Pb 0 _ _ _ hp1
 have hPb := blk_lt hp1
 have ho1 := HH.out.2.2.1.below hb01 (Nat.le_refl _)
 have HO := hid ho1
 have HL : ∀ x : Int, Below w.heap.size w (w1.alloc (.cells #[.int .u8 x] 5)) := fun x => hb01.alloc hb01.size _
 have HLB := hid (fun x : Int => lit_bs w1 5 [x] (0, 0) 1 1 rfl (Nat.le_refl _))
 have HP := hid (fun x w2 (hc : Chg (fun g => sv.ownBlock = some g) (w1.alloc (.cells #[.int .u8 x] 5)) w2) => (show w2.heap[Pb]? = some (.cells #[sv] 31 (0, 0)) from (hc.block _ (by rw [World.size_alloc]; omega) (fun hh => (HH.out.2.2.2.1 Pb hh).1 rfl)).trans ((heap_alloc_old _ _ hPb).trans hp1)))
 have HBL := hid HL
 have HBW := hid (fun x : Int => (show B ≤ (w1.alloc (.cells #[.int .u8 x] 5)).heap.size by have := HLO.out; rw [World.size_alloc]; omega))
 clear hb1 hb01 hp1 ho1 HL
 cases q with
 | false =>
  have HLEN := hid (show s.length + [(2 : Int)].length ≤ 1099511627776 by have q := HBD.out; rw [if_neg (by decide), List.length_append] at q; exact q)
  go_wp2_with (at_builtin; refine wpList_append_OwnT (o := ⟨some 9, _, _, _, _, _⟩) rfl (Operand.tmp 7) (Operand.tmp 8) rfl B sv s rfl (HO.out.alloc _) _ [2] rfl (HLB.out 2) HLEN.out (HBW.out 2) ?_; intro v2 w2 ho hc ht; obtain ⟨av, nv, cv, rfl⟩ := ho.slc; have hp2 := HP.out 2 w2 hc; have c2 := cell_of_row _ Pb 0 _ _ _ hp2; have f2 := frozen_of_row _ Pb 0 _ _ hp2; have HA := hid (And.intro ho (And.intro hc ht)); have HP2 := hid hp2; clear ho hc ht hp2)
  go_ret
  exact ⟨rfl, HH.out.1.app HH.out.2.1 (HBL.out 2) HA.out.1 HA.out.2.1 HA.out.2.2⟩
 | true =>
  have HLEN4 := hid (show (s ++ [(1 : Int)]).length + dg.length ≤ 1099511627776 by have q := HBD.out; rw [if_pos rfl, List.length_append] at q; exact q)
  have HLEN := hid (show s.length + [(1 : Int)].length ≤ 1099511627776 by have q := HBD.out; rw [if_pos rfl, List.length_append, List.length_append] at q; simp only [List.length_cons, List.length_nil] at q ⊢; omega)
  go_wp2_with (at_builtin; refine wpList_append_OwnT (o := ⟨some 22, _, _, _, _, _⟩) rfl (Operand.tmp 20) (Operand.tmp 21) rfl B sv s rfl (HO.out.alloc _) _ [1] rfl (HLB.out 1) HLEN.out (HBW.out 1) ?_; intro v2 w2 ho hc ht; obtain ⟨av, nv, cv, rfl⟩ := ho.slc; have hp2 := HP.out 1 w2 hc; have c2 := cell_of_row _ Pb 0 _ _ _ hp2; have f2 := frozen_of_row _ Pb 0 _ _ hp2; have HA := hid (And.intro ho (And.intro hc ht)); have HP2 := hid hp2; clear ho hc ht hp2)
  have hst := HH.out.1.app HH.out.2.1 (HBL.out 1) HA.out.1 HA.out.2.1 HA.out.2.2
  have hx3 : (w2.setCell ⟨Pb, 0, none⟩ (.slice av nv cv)).heap[Pb]? = some (.cells #[.slice av nv cv] 31 (0, 0)) := one_setCell HP2.out
  clear c1 c2 f2
  generalize w2.setCell ⟨Pb, 0, none⟩ (.slice av nv cv) = w3 at *
  replace hst := Stp.below (I := PI B Pb Sb S fv tv fr to e) (fun _ _ _ _ h hb => PI.keep h hb) hst (Below.refl w3.heap.size w3).drew
  have hx4 : w3.drew.heap[Pb]? = some (.cells #[.slice av nv cv] 31 (0, 0)) := hx3
  have hdb := dg_bs (hst.blk HH.out.2.2.2.2.2.1 (fun hj => (HH.out.1.low b hj).2 HH.out.2.2.2.2.2.2.1)) HH.out.2.2.2.2.2.2.2.1 HH.out.2.2.2.2.2.2.2.2
  obtain ⟨J3, hI3, hc3, hJ3⟩ := hst
  obtain ⟨sv3, k1, k2, k3, k4⟩ := id hI3.box
  have e3 : sv3 = .slice av nv cv := by
   rw [hx4] at k1
   injection k1 with k1
   injection k1 with k1
   injection k1 with k1
   injection k1 with k1
   exact k1.symm
  subst e3
  have c4 : w3.drew.cell? ⟨Pb, 0, none⟩ = some (.slice av nv cv) := cell_of_row _ Pb 0 _ _ _ hx4
  have HI3 := hid (And.intro hI3 (And.intro k1 (And.intro hc3 hJ3)))
  have HO3 := hid (And.intro k2 hdb)
  have HP4 := hid (fun w4 (hc : Chg (fun g => (Value.slice av nv cv).ownBlock = some g) w3.drew w4) => (show w4.heap[Pb]? = some (.cells #[.slice av nv cv] 31 (0, 0)) from (hc.block _ (blk_lt hx4) (fun hh => (k3 Pb hh).1 rfl)).trans hx4))
  have HBW4 := hid (show B ≤ w3.drew.heap.size by have := blk_lt hx4; have := HLO.out; omega)
  have SA := fun (u : World) (X o : Nat) => slice32_at u X o
  clear hx3 hx4 hdb hI3 k1 k2 k3 k4 hc3 hJ3
  refine wp_region_held_drew (S := fun _ => True) (by kernel_rfl) (trivial) (fun hHeld => ?_)
  refine tk (i := 1) (oi := ⟨some 24, .move (.tmp 0), 68, "proof.go:81", #[], none⟩) (v := ?_) (Or.inl ⟨by rfl, ?_⟩) ?_
  rotate_left 1
  ·(intro u hSw; go_simp; try with_reducible rfl)
  try simp only [Act.put, sA, sB, sC]
  refine tk (i := 2) (oi := ⟨some 25, .nilCheck (.tmp 24), 0, "proof.go:81", #[⟨1, .data⟩], none⟩) (v := ?_) (Or.inl ⟨by rfl, ?_⟩) ?_
  rotate_left 1
  ·(intro u hSw; go_simp; try with_reducible rfl)
  try simp only [Act.put, sA, sB, sC]
  refine tk (i := 3) (oi := ⟨some 26, .fieldAddr 115 (.tmp 25) 3, 0, "proof.go:81", #[⟨2, .data⟩], none⟩) (v := ?_) (Or.inl ⟨by rfl, ?_⟩) ?_
  rotate_left 1
  ·(intro u hSw; go_simp; try with_reducible rfl)
  try simp only [Act.put, sA, sB, sC]
  refine tk (i := 4) (oi := ⟨some 27, .slice 36 (.tmp 26) none none none, 31, "proof.go:81", #[⟨3, .data⟩], none⟩) (v := ?_) (Or.inl ⟨by rfl, ?_⟩) ?_
  rotate_left 1
  ·(intro u hSw; go_simp; try with_reducible rfl)
  try simp only [Act.put, sA, sB, sC]
  refine wpAnyH_ready (rs := [0]) (by kernel_rfl) (by simp) ?_
  refine (AllReadyH.cons (o := ⟨some 23, .load 31 (.tmp 2), 31, "proof.go:81", #[], none⟩) rfl (fun K hK => ?_) AllReadyH.nil)
  go_simp
  refine hK.out _ _ trivial (fun hHeld => ?_)
  clear hK K
  try simp only [Act.put, sA, sB, sC]
  refine wpAnyH_ready (rs := [5]) (by kernel_rfl) (by simp) ?_
  refine (AllReadyH.cons (o := ⟨some 28, .call ⟨.builtin .append, #[.tmp 23, .tmp 27], #[31, 31]⟩, 31, "proof.go:81", #[⟨0, .data⟩, ⟨4, .data⟩], none⟩) rfl (fun K hK => ?_) AllReadyH.nil)
  refine step_append_OwnT (by rfl) (Operand.tmp 23) (Operand.tmp 27) (by rfl) B (.slice av nv cv) (s ++ [1]) (by rfl) HO3.out.1 (.slice (some ⟨b, 36, none⟩) 32 32) dg (by rfl) HO3.out.2 HLEN4.out HBW4.out (fun v4 w4 ho hc ht => ?_)
  obtain ⟨a4, n4, c4', rfl⟩ := ho.slc
  have hp4 := HP4.out w4 hc
  have HA4 := hid (And.intro ho (And.intro hc ht))
  have g4 := cell_of_row _ Pb 0 _ _ _ hp4
  have f4 := frozen_of_row _ Pb 0 _ _ hp4
  clear ho hc ht hp4
  refine hK.out _ _ trivial (fun hHeld => ?_)
  clear hK K
  try simp only [Act.put, sA, sB, sC]
  refine wpAnyH_ready (rs := [6]) (by kernel_rfl) (by simp) ?_
  refine (AllReadyH.cons (o := ⟨none, .store 31 (.tmp 2) (.tmp 28), 0, "proof.go:81", #[⟨5, .data⟩, ⟨5, .chain⟩, ⟨0, .phase⟩, ⟨1, .phase⟩, ⟨2, .phase⟩, ⟨3, .phase⟩, ⟨4, .phase⟩, ⟨5, .phase⟩], none⟩) rfl (fun K hK => ?_) AllReadyH.nil)
  go_simp
  refine hK.out _ _ trivial (fun hHeld => ?_)
  clear hK K
  try simp only [Act.put]
  refine wpAnyH_done (by kernel_rfl) ?_ _
  go_wp2_with fail
  go_ret
  have hfin := Stp.join HI3.out.2.2.1 HI3.out.2.2.2 (HI3.out.1.app HI3.out.2.1 (Below.refl _ _) HA4.out.1 HA4.out.2.1 HA4.out.2.2)
  rw [List.append_assoc] at hfin
  exact ⟨rfl, hfin⟩
end Go.Proofs.YtbmlkocpjboodaaDoor
