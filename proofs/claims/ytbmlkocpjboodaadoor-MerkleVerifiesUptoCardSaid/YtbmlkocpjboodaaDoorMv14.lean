/- stage 7: ascends -/
import Derived.Test.YtbmlkocpjboodaaDoorMv13
namespace Go.Proofs.YtbmlkocpjboodaaDoor
open Go.RowKit
open Go.Lib (hid)
/-- what ascends' meet does to the last key and its answer -/
def asM (s : Option (List Int) × Bool) (k : List Int) (_ : Nat) : Option (List Int) × Bool := (some k, s.2 && s.1.elim true (fun l => decide (cmpI l k < 0)))
/-- ascends under way: its answer's box Ob, the last node's box Lb -/
structure AI (B Ob Lb : Nat) (S : Nat → Prop) (w : World) (s : Option (List Int) × Bool) (J : Nat → Prop) : Prop where
 box : w.heap[Ob]? = some (.cells #[.bool s.2] 4 (0, 0))
 last : ∃ v, w.heap[Lb]? = some (.cells #[v] 68 (0, 0)) ∧ BK w S v s.1
 ne : Ob ≠ Lb
 lo : B ≤ Ob ∧ B ≤ Lb
 s : ∀ q, S q → q < B
 j : ∀ q, J q ↔ q = Ob ∨ q = Lb
theorem AI.keep {B Ob Lb : Nat} {S : Nat → Prop} {w w' : World} {s : Option (List Int) × Bool} {J : Nat → Prop} (h : AI B Ob Lb S w s J) (hb : Below w.heap.size w w') : AI B Ob Lb S w' s J := by
 obtain ⟨h1, ⟨v, h2, h3⟩, h8, h9, h10, h11⟩ := h
 exact ⟨(hb.block _ (blk_lt h1)).trans h1, ⟨v, (hb.block _ (blk_lt h2)).trans h2, h3.chg (Chg.fresh (F := fun _ => False) hb) (fun _ _ h => h)⟩, h8, h9, h10, h11⟩
theorem AI.low {B Ob Lb : Nat} {S : Nat → Prop} {w : World} {s : Option (List Int) × Bool} {J : Nat → Prop} (h : AI B Ob Lb S w s J) : ∀ b, J b → b < w.heap.size ∧ ¬ S b := by
 intro b hb
 obtain ⟨v, h2, h3⟩ := h.last
 rcases (h.j b).1 hb with rfl | rfl
 ·exact ⟨blk_lt h.box, fun hs => by have := h.s _ hs; have := h.lo.1; omega⟩
 ·exact ⟨blk_lt h2, fun hs => by have := h.s _ hs; have := h.lo.2; omega⟩
theorem AI.set {B Ob Lb : Nat} {S : Nat → Prop} {w : World} {s : Option (List Int) × Bool} {J : Nat → Prop} (h : AI B Ob Lb S w s J) (x : Bool) (v' : Value) (k : List Int) (hk : BK w S v' (some k)) :
    (w.drew.setCell ⟨Ob, 0, none⟩ (.bool x)).heap[Lb]? = w.heap[Lb]? ∧ Stp (AI B Ob Lb S) J w ((w.drew.setCell ⟨Ob, 0, none⟩ (.bool x)).setCell ⟨Lb, 0, none⟩ v') (some k, x) := by
  have hbd : Below w.heap.size w w.drew := (Below.refl _ _).drew
  obtain ⟨h1, ⟨v, h2, h3⟩, h8, h9, h10, h11⟩ := h.keep hbd
  have hcs : Chg (fun q => q = Ob) w.drew (w.drew.setCell ⟨Ob, 0, none⟩ (.bool x)) := cell_chg _ h1
  have e1 := one_setCell (u := .bool x) h1
  have e2 := (hcs.block _ (blk_lt h2) (fun hh => h8 hh.symm)).trans h2
  have hcl : Chg (fun q => q = Lb) (w.drew.setCell ⟨Ob, 0, none⟩ (.bool x)) ((w.drew.setCell ⟨Ob, 0, none⟩ (.bool x)).setCell ⟨Lb, 0, none⟩ v') := cell_chg _ e2
  have hall : Chg J w ((w.drew.setCell ⟨Ob, 0, none⟩ (.bool x)).setCell ⟨Lb, 0, none⟩ v') := ((Chg.fresh (F := J) hbd).trans hcs (fun i hi => .inl ((h11 i).2 (.inl hi)))).trans hcl (fun i hi => .inl ((h11 i).2 (.inr hi)))
  have hnJ : ∀ q, S q → ¬ J q := fun q hq hj => by
    have := h10 q hq
    rcases (h11 q).1 hj with rfl | rfl <;> omega
  refine ⟨(hcs.block _ (blk_lt h2) (fun hh => h8 hh.symm)).trans (hbd.block _ (blk_lt (h2.symm.symm))), J, ⟨(hcl.block _ (blk_lt e1) h8).trans e1, ⟨v', one_setCell e2, hk.chg hall hnJ⟩, h8, h9, h10, h11⟩, hall, fun b hb => .inl hb⟩
set_option maxRecDepth 100000 in
theorem goA1 (args : Array Value) (u : World) : (callFunc 88 args).run Tryd.prog u = .ok (.enter 88 args) u := by kernel_rfl
set_option maxRecDepth 100000 in
set_option maxHeartbeats 8000000 in
theorem asMeet_any {B Ob Lb : Nat} {S : Nat → Prop} (w : World) (s : Option (List Int) × Bool) (J : Nat → Prop) (p : Value) (k : List Int) (n : Nat) (rk dg : List Int) (l r : MT) (h : AI B Ob Lb S w s J) (hp : MIs w S p (.nd k n rk dg l r)) (gk : Rng k) :
  Calls Tryd.prog 88 #[p, .pointer (some ⟨Ob, 0, none⟩), .pointer (some ⟨Lb, 0, none⟩)] w fun d w' => d = .returned (.tuple #[]) ∧ Stp (AI B Ob Lb S) J w w' (asM s k n) := by
 obtain ⟨last, ok⟩ := s
 obtain ⟨b, kv, lp, rp, rfl, hSb, h1, h2, hx, hk, -, -⟩ := hp
 obtain ⟨ak, ck, rfl⟩ := hk.form
 obtain ⟨v, e2, e3⟩ := h.last
 obtain ⟨av, rfl⟩ := e3.form
 have hbk : BK w S (.pointer (some ⟨b, 0, none⟩)) (some k) := ⟨b, .slice ak k.length ck, rfl, hSb, blk_lt hx, (cell_of_row _ b 0 _ _ _ hx).trans ndC_0, hk, gk⟩
 have HF := hid (fun x : Bool => (show (w.setCell ⟨Ob, 0, none⟩ (.bool x)).drew.heap[Lb]? = some (.cells #[.pointer av] 68 (0, 0)) ∧ Stp (AI B Ob Lb S) J w ((w.setCell ⟨Ob, 0, none⟩ (.bool x)).drew.setCell ⟨Lb, 0, none⟩ (.pointer (some ⟨b, 0, none⟩))) (some k, x) from ⟨(h.set x (.pointer (some ⟨b, 0, none⟩)) k hbk).1.trans e2, (h.set x (.pointer (some ⟨b, 0, none⟩)) k hbk).2⟩))
 have hnb : ∀ q, S q → ¬ q = Ob := fun q hq hh => by have := h.s q hq; have := h.lo.1; omega
 have hwd : Chg (fun q => q = Ob) w w.drew := (Chg.refl _ _).drew
 have HO := hid (show w.drew.heap[Ob]? = some (.cells #[.bool ok] 4 (0, 0)) from h.box)
 have HL := hid (fun u (hu : Chg (fun q => q = Ob) w.drew u) => (show u.cell? ⟨Lb, 0, none⟩ = some (.pointer av) from cell_of_row u Lb 0 _ _ _ ((hu.block Lb (blk_lt e2) (fun hh => h.ne hh.symm)).trans e2)))
 have HN := hid (fun u (hu : Chg (fun q => q = Ob) w.drew u) => (show u.cell? ⟨b, 0, none⟩ = some (.slice ak k.length ck) from (cell_of_row u b 0 _ _ _ ((hu.block b (blk_lt hx) (hnb b hSb)).trans hx)).trans ndC_0))
 have hch : Chg (fun q => q = Ob) w.drew w.drew := Chg.refl _ _
 have cO : w.drew.cell? ⟨Ob, 0, none⟩ = some (.bool ok) := cell_of_row _ Ob 0 _ _ _ h.box
 have fO : w.drew.frozen? ⟨Ob, 0, none⟩ = false := frozen_of_row _ Ob 0 _ _ (show w.drew.heap[Ob]? = _ from h.box)
 cases ok with
 | false =>
  rw [show asM (last, false) k n = (some k, false) from rfl]
  clear h hx hk e2 e3 hbk hnb hwd h1 h2 hSb gk
  go_enter Tryd.func88, Tryd.ntmps88
  go_wp2_with fail
  refine wp_region_held_drew (S := fun u => Chg (fun q => q = Ob) w.drew u) (by kernel_rfl) (hch) (fun hHeld => ?_)
  refine wpAnyH_ready (rs := [0]) (by kernel_rfl) (by simp) ?_
  refine (AllReadyH.cons (o := ⟨some 4, .load 4 (.tmp 1), 4, "visit.go:63", #[], none⟩) rfl (fun K hK => ?_) AllReadyH.nil)
  go_simp
  refine hK.out _ _ hch (fun hHeld => ?_)
  clear hK K
  try simp only [Act.put, sA, sB, sC]
  refine tk (i := 1) (oi := ⟨some 5, .move (.tmp 4), 4, "visit.go:63", #[⟨0, .data⟩], none⟩) (v := ?_) (Or.inl ⟨by rfl, ?_⟩) ?_
  rotate_left 1
  ·(intro u hSw; go_simp; try with_reducible rfl)
  try simp only [Act.put, sA, sB, sC]
  refine tk (i := 2) (oi := ⟨some 6, .load 68 (.tmp 2), 68, "visit.go:63", #[⟨1, .guard⟩], some (1, true)⟩) (v := undef) (by exact .inr ⟨by rfl, rfl⟩) ?_
  try simp only [Act.put, sA, sB, sC]
  refine tk (i := 3) (oi := ⟨some 7, .binOp BinOp.eql 68 (.tmp 6) (.const (Value.pointer none)) 68, 4, "visit.go:63", #[⟨2, .data⟩, ⟨1, .guard⟩], some (1, true)⟩) (v := undef) (by exact .inr ⟨by rfl, rfl⟩) ?_
  try simp only [Act.put, sA, sB, sC]
  refine tk (i := 4) (oi := ⟨some 8, .move (.tmp 7), 4, "visit.go:63", #[⟨3, .data⟩, ⟨1, .chain⟩, ⟨1, .guard⟩], some (1, true)⟩) (v := undef) (by exact .inr ⟨by rfl, rfl⟩) ?_
  try simp only [Act.put, sA, sB, sC]
  refine tk (i := 5) (oi := ⟨some 9, .load 68 (.tmp 2), 68, "visit.go:63", #[⟨4, .guard⟩], some (4, false)⟩) (v := undef) (by exact .inr ⟨by rfl, rfl⟩) ?_
  try simp only [Act.put, sA, sB, sC]
  refine tk (i := 6) (oi := ⟨some 10, .nilCheck (.tmp 9), 0, "visit.go:63", #[⟨5, .data⟩, ⟨4, .guard⟩], some (4, false)⟩) (v := undef) (by exact .inr ⟨by rfl, rfl⟩) ?_
  try simp only [Act.put, sA, sB, sC]
  refine tk (i := 7) (oi := ⟨some 11, .fieldAddr 115 (.tmp 10) 0, 0, "visit.go:63", #[⟨6, .data⟩, ⟨4, .guard⟩], some (4, false)⟩) (v := undef) (by exact .inr ⟨by rfl, rfl⟩) ?_
  try simp only [Act.put, sA, sB, sC]
  refine tk (i := 8) (oi := ⟨some 12, .fieldAddr 66 (.tmp 11) 0, 0, "visit.go:63", #[⟨7, .data⟩, ⟨4, .guard⟩], some (4, false)⟩) (v := undef) (by exact .inr ⟨by rfl, rfl⟩) ?_
  try simp only [Act.put, sA, sB, sC]
  refine tk (i := 9) (oi := ⟨some 13, .fieldAddr 33 (.tmp 12) 0, 0, "visit.go:63", #[⟨8, .data⟩, ⟨4, .guard⟩], some (4, false)⟩) (v := undef) (by exact .inr ⟨by rfl, rfl⟩) ?_
  try simp only [Act.put, sA, sB, sC]
  refine tk (i := 10) (oi := ⟨some 14, .load 31 (.tmp 13), 31, "visit.go:63", #[⟨9, .data⟩, ⟨4, .guard⟩], some (4, false)⟩) (v := undef) (by exact .inr ⟨by rfl, rfl⟩) ?_
  try simp only [Act.put, sA, sB, sC]
  refine tk (i := 11) (oi := ⟨some 15, .move (.tmp 0), 68, "visit.go:63", #[⟨4, .guard⟩], some (4, false)⟩) (v := undef) (by exact .inr ⟨by rfl, rfl⟩) ?_
  try simp only [Act.put, sA, sB, sC]
  refine tk (i := 12) (oi := ⟨some 16, .nilCheck (.tmp 15), 0, "visit.go:63", #[⟨11, .data⟩, ⟨4, .guard⟩], some (4, false)⟩) (v := undef) (by exact .inr ⟨by rfl, rfl⟩) ?_
  try simp only [Act.put, sA, sB, sC]
  refine tk (i := 13) (oi := ⟨some 17, .fieldAddr 115 (.tmp 16) 0, 0, "visit.go:63", #[⟨12, .data⟩, ⟨4, .guard⟩], some (4, false)⟩) (v := undef) (by exact .inr ⟨by rfl, rfl⟩) ?_
  try simp only [Act.put, sA, sB, sC]
  refine tk (i := 14) (oi := ⟨some 18, .fieldAddr 66 (.tmp 17) 0, 0, "visit.go:63", #[⟨13, .data⟩, ⟨4, .guard⟩], some (4, false)⟩) (v := undef) (by exact .inr ⟨by rfl, rfl⟩) ?_
  try simp only [Act.put, sA, sB, sC]
  refine tk (i := 15) (oi := ⟨some 19, .fieldAddr 33 (.tmp 18) 0, 0, "visit.go:63", #[⟨14, .data⟩, ⟨4, .guard⟩], some (4, false)⟩) (v := undef) (by exact .inr ⟨by rfl, rfl⟩) ?_
  try simp only [Act.put, sA, sB, sC]
  refine tk (i := 16) (oi := ⟨some 20, .load 31 (.tmp 19), 31, "visit.go:63", #[⟨15, .data⟩, ⟨4, .guard⟩], some (4, false)⟩) (v := undef) (by exact .inr ⟨by rfl, rfl⟩) ?_
  try simp only [Act.put, sA, sB, sC]
  refine tk (i := 17) (oi := ⟨some 21, .call ⟨.value (.func 56), #[.tmp 14, .tmp 20], #[31, 31]⟩, 3, "visit.go:63", #[⟨10, .data⟩, ⟨16, .data⟩, ⟨4, .chain⟩, ⟨4, .guard⟩], some (4, false)⟩) (v := undef) (by exact .inr ⟨by rfl, rfl⟩) ?_
  try simp only [Act.put, sA, sB, sC]
  refine tk (i := 18) (oi := ⟨some 22, .binOp BinOp.lss 3 (.tmp 21) (.const (Value.int IntKind.i64 0)) 3, 4, "visit.go:63", #[⟨17, .data⟩, ⟨4, .guard⟩], some (4, false)⟩) (v := undef) (by exact .inr ⟨by rfl, rfl⟩) ?_
  try simp only [Act.put, sA, sB, sC]
  refine tk (i := 19) (oi := ⟨some 23, .pick (.tmp 8) (.const (Value.bool true)) (.tmp 22), 4, "visit.go:63", #[⟨4, .data⟩, ⟨18, .data⟩, ⟨1, .guard⟩], some (1, true)⟩) (v := undef) (by exact .inr ⟨by rfl, rfl⟩) ?_
  try simp only [Act.put, sA, sB, sC]
  refine tk (i := 20) (oi := ⟨some 24, .pick (.tmp 5) (.tmp 23) (.const (Value.bool false)), 4, "visit.go:63", #[⟨1, .data⟩, ⟨19, .data⟩], none⟩) (v := ?_) (Or.inl ⟨by rfl, ?_⟩) ?_
  rotate_left 1
  ·(intro u hSw; go_simp; try with_reducible rfl)
  try simp only [Act.put, sA, sB, sC]
  refine wpAnyH_ready (rs := [21]) (by kernel_rfl) (by simp) ?_
  refine (AllReadyH.cons (o := ⟨none, .store 4 (.tmp 1) (.tmp 24), 0, "visit.go:63", #[⟨20, .data⟩, ⟨17, .chain⟩, ⟨0, .phase⟩, ⟨1, .phase⟩, ⟨2, .phase⟩, ⟨3, .phase⟩, ⟨4, .phase⟩, ⟨5, .phase⟩, ⟨6, .phase⟩, ⟨7, .phase⟩, ⟨8, .phase⟩, ⟨9, .phase⟩, ⟨10, .phase⟩, ⟨11, .phase⟩, ⟨12, .phase⟩, ⟨13, .phase⟩, ⟨14, .phase⟩, ⟨15, .phase⟩, ⟨16, .phase⟩, ⟨17, .phase⟩, ⟨18, .phase⟩, ⟨19, .phase⟩, ⟨20, .phase⟩], none⟩) rfl (fun K hK => ?_) AllReadyH.nil)
  go_simp
  refine hK.out _ _ (hch.setCell ⟨Ob, 0, none⟩ _ (.inl rfl)) (fun hHeld => ?_)
  clear hK K
  try simp only [Act.put]
  refine wpAnyH_done (by kernel_rfl) ?_ _
  have hf := HF.out false
  generalize (w.setCell ⟨Ob, 0, none⟩ (.bool false)).drew = w5 at *
  have cL := cell_of_row _ Lb 0 _ _ _ hf.1
  have fL := frozen_of_row _ Lb 0 _ _ hf.1
  have HST := hid hf.2
  clear hf
  go_wp2_with fail
  go_end0
  exact ⟨rfl, HST.out⟩
 | true =>
  cases last with
  | none =>
   obtain rfl : av = none := by injection (show Value.pointer av = .pointer none from e3)
   rw [show asM (none, true) k n = (some k, true) from rfl]
   clear h hx hk e2 e3 hbk hnb hwd h1 h2 hSb gk
   go_enter Tryd.func88, Tryd.ntmps88
   go_wp2_with fail
   refine wp_region_held_drew (S := fun u => Chg (fun q => q = Ob) w.drew u) (by kernel_rfl) (hch) (fun hHeld => ?_)
   refine wpAnyH_ready (rs := [0]) (by kernel_rfl) (by simp) ?_
   refine (AllReadyH.cons (o := ⟨some 4, .load 4 (.tmp 1), 4, "visit.go:63", #[], none⟩) rfl (fun K hK => ?_) AllReadyH.nil)
   go_simp
   refine hK.out _ _ hch (fun hHeld => ?_)
   clear hK K
   try simp only [Act.put, sA, sB, sC]
   refine tk (i := 1) (oi := ⟨some 5, .move (.tmp 4), 4, "visit.go:63", #[⟨0, .data⟩], none⟩) (v := ?_) (Or.inl ⟨by rfl, ?_⟩) ?_
   rotate_left 1
   ·(intro u hSw; go_simp; try with_reducible rfl)
   try simp only [Act.put, sA, sB, sC]
   refine tk (i := 2) (oi := ⟨some 6, .load 68 (.tmp 2), 68, "visit.go:63", #[⟨1, .guard⟩], some (1, true)⟩) (v := ?_) (Or.inl ⟨by rfl, ?_⟩) ?_
   rotate_left 1
   ·(intro u hSw; have y0 := HL.out _ hSw; go_simp; try with_reducible rfl)
   try simp only [Act.put, sA, sB, sC]
   refine tk (i := 3) (oi := ⟨some 7, .binOp BinOp.eql 68 (.tmp 6) (.const (Value.pointer none)) 68, 4, "visit.go:63", #[⟨2, .data⟩, ⟨1, .guard⟩], some (1, true)⟩) (v := ?_) (Or.inl ⟨by rfl, ?_⟩) ?_
   rotate_left 1
   ·(intro u hSw; go_simp; try with_reducible rfl)
   try simp only [Act.put, sA, sB, sC]
   refine tk (i := 4) (oi := ⟨some 8, .move (.tmp 7), 4, "visit.go:63", #[⟨3, .data⟩, ⟨1, .chain⟩, ⟨1, .guard⟩], some (1, true)⟩) (v := ?_) (Or.inl ⟨by rfl, ?_⟩) ?_
   rotate_left 1
   ·(intro u hSw; go_simp; try with_reducible rfl)
   try simp only [Act.put, sA, sB, sC]
   refine tk (i := 5) (oi := ⟨some 9, .load 68 (.tmp 2), 68, "visit.go:63", #[⟨4, .guard⟩], some (4, false)⟩) (v := undef) (by exact .inr ⟨by rfl, rfl⟩) ?_
   try simp only [Act.put, sA, sB, sC]
   refine tk (i := 6) (oi := ⟨some 10, .nilCheck (.tmp 9), 0, "visit.go:63", #[⟨5, .data⟩, ⟨4, .guard⟩], some (4, false)⟩) (v := undef) (by exact .inr ⟨by rfl, rfl⟩) ?_
   try simp only [Act.put, sA, sB, sC]
   refine tk (i := 7) (oi := ⟨some 11, .fieldAddr 115 (.tmp 10) 0, 0, "visit.go:63", #[⟨6, .data⟩, ⟨4, .guard⟩], some (4, false)⟩) (v := undef) (by exact .inr ⟨by rfl, rfl⟩) ?_
   try simp only [Act.put, sA, sB, sC]
   refine tk (i := 8) (oi := ⟨some 12, .fieldAddr 66 (.tmp 11) 0, 0, "visit.go:63", #[⟨7, .data⟩, ⟨4, .guard⟩], some (4, false)⟩) (v := undef) (by exact .inr ⟨by rfl, rfl⟩) ?_
   try simp only [Act.put, sA, sB, sC]
   refine tk (i := 9) (oi := ⟨some 13, .fieldAddr 33 (.tmp 12) 0, 0, "visit.go:63", #[⟨8, .data⟩, ⟨4, .guard⟩], some (4, false)⟩) (v := undef) (by exact .inr ⟨by rfl, rfl⟩) ?_
   try simp only [Act.put, sA, sB, sC]
   refine tk (i := 10) (oi := ⟨some 14, .load 31 (.tmp 13), 31, "visit.go:63", #[⟨9, .data⟩, ⟨4, .guard⟩], some (4, false)⟩) (v := undef) (by exact .inr ⟨by rfl, rfl⟩) ?_
   try simp only [Act.put, sA, sB, sC]
   refine tk (i := 11) (oi := ⟨some 15, .move (.tmp 0), 68, "visit.go:63", #[⟨4, .guard⟩], some (4, false)⟩) (v := undef) (by exact .inr ⟨by rfl, rfl⟩) ?_
   try simp only [Act.put, sA, sB, sC]
   refine tk (i := 12) (oi := ⟨some 16, .nilCheck (.tmp 15), 0, "visit.go:63", #[⟨11, .data⟩, ⟨4, .guard⟩], some (4, false)⟩) (v := undef) (by exact .inr ⟨by rfl, rfl⟩) ?_
   try simp only [Act.put, sA, sB, sC]
   refine tk (i := 13) (oi := ⟨some 17, .fieldAddr 115 (.tmp 16) 0, 0, "visit.go:63", #[⟨12, .data⟩, ⟨4, .guard⟩], some (4, false)⟩) (v := undef) (by exact .inr ⟨by rfl, rfl⟩) ?_
   try simp only [Act.put, sA, sB, sC]
   refine tk (i := 14) (oi := ⟨some 18, .fieldAddr 66 (.tmp 17) 0, 0, "visit.go:63", #[⟨13, .data⟩, ⟨4, .guard⟩], some (4, false)⟩) (v := undef) (by exact .inr ⟨by rfl, rfl⟩) ?_
   try simp only [Act.put, sA, sB, sC]
   refine tk (i := 15) (oi := ⟨some 19, .fieldAddr 33 (.tmp 18) 0, 0, "visit.go:63", #[⟨14, .data⟩, ⟨4, .guard⟩], some (4, false)⟩) (v := undef) (by exact .inr ⟨by rfl, rfl⟩) ?_
   try simp only [Act.put, sA, sB, sC]
   refine tk (i := 16) (oi := ⟨some 20, .load 31 (.tmp 19), 31, "visit.go:63", #[⟨15, .data⟩, ⟨4, .guard⟩], some (4, false)⟩) (v := undef) (by exact .inr ⟨by rfl, rfl⟩) ?_
   try simp only [Act.put, sA, sB, sC]
   refine tk (i := 17) (oi := ⟨some 21, .call ⟨.value (.func 56), #[.tmp 14, .tmp 20], #[31, 31]⟩, 3, "visit.go:63", #[⟨10, .data⟩, ⟨16, .data⟩, ⟨4, .chain⟩, ⟨4, .guard⟩], some (4, false)⟩) (v := undef) (by exact .inr ⟨by rfl, rfl⟩) ?_
   try simp only [Act.put, sA, sB, sC]
   refine tk (i := 18) (oi := ⟨some 22, .binOp BinOp.lss 3 (.tmp 21) (.const (Value.int IntKind.i64 0)) 3, 4, "visit.go:63", #[⟨17, .data⟩, ⟨4, .guard⟩], some (4, false)⟩) (v := undef) (by exact .inr ⟨by rfl, rfl⟩) ?_
   try simp only [Act.put, sA, sB, sC]
   refine tk (i := 19) (oi := ⟨some 23, .pick (.tmp 8) (.const (Value.bool true)) (.tmp 22), 4, "visit.go:63", #[⟨4, .data⟩, ⟨18, .data⟩, ⟨1, .guard⟩], some (1, true)⟩) (v := ?_) (Or.inl ⟨by rfl, ?_⟩) ?_
   rotate_left 1
   ·(intro u hSw; go_simp; try with_reducible rfl)
   try simp only [Act.put, sA, sB, sC]
   refine tk (i := 20) (oi := ⟨some 24, .pick (.tmp 5) (.tmp 23) (.const (Value.bool false)), 4, "visit.go:63", #[⟨1, .data⟩, ⟨19, .data⟩], none⟩) (v := ?_) (Or.inl ⟨by rfl, ?_⟩) ?_
   rotate_left 1
   ·(intro u hSw; go_simp; try with_reducible rfl)
   try simp only [Act.put, sA, sB, sC]
   refine wpAnyH_ready (rs := [21]) (by kernel_rfl) (by simp) ?_
   refine (AllReadyH.cons (o := ⟨none, .store 4 (.tmp 1) (.tmp 24), 0, "visit.go:63", #[⟨20, .data⟩, ⟨17, .chain⟩, ⟨0, .phase⟩, ⟨1, .phase⟩, ⟨2, .phase⟩, ⟨3, .phase⟩, ⟨4, .phase⟩, ⟨5, .phase⟩, ⟨6, .phase⟩, ⟨7, .phase⟩, ⟨8, .phase⟩, ⟨9, .phase⟩, ⟨10, .phase⟩, ⟨11, .phase⟩, ⟨12, .phase⟩, ⟨13, .phase⟩, ⟨14, .phase⟩, ⟨15, .phase⟩, ⟨16, .phase⟩, ⟨17, .phase⟩, ⟨18, .phase⟩, ⟨19, .phase⟩, ⟨20, .phase⟩], none⟩) rfl (fun K hK => ?_) AllReadyH.nil)
   go_simp
   refine hK.out _ _ (hch.setCell ⟨Ob, 0, none⟩ _ (.inl rfl)) (fun hHeld => ?_)
   clear hK K
   try simp only [Act.put]
   refine wpAnyH_done (by kernel_rfl) ?_ _
   have hf := HF.out true
   generalize (w.setCell ⟨Ob, 0, none⟩ (.bool true)).drew = w5 at *
   have cL := cell_of_row _ Lb 0 _ _ _ hf.1
   have fL := frozen_of_row _ Lb 0 _ _ hf.1
   have HST := hid hf.2
   clear hf
   go_wp2_with fail
   go_end0
   exact ⟨rfl, HST.out⟩
  | some lk =>
   obtain ⟨bl, kvl, e1, hSl, hll, hcl, hkl, grl⟩ := e3
   obtain ⟨al, cl, rfl⟩ := hkl.form
   injection e1 with e1
   subst e1
   have HQ := hid (fun u (hu : Chg (fun q => q = Ob) w.drew u) => (show u.cell? ⟨bl, 0, none⟩ = some (.slice al lk.length cl) from (World.cell?_of_block (a := ⟨bl, 0, none⟩) (hu.block bl hll (hnb bl hSl))).trans hcl))
   have HC := hid (fun u (hu : Chg (fun q => q = Ob) w.drew u) => compare_any (.slice al lk.length cl) (.slice ak k.length ck) lk k u ((hkl.cg hwd (fun q _ hq => hnb q hq)).cg hu (fun q _ hq => hnb q hq)).1 ((hk.cg hwd (fun q _ hq => hnb q hq)).cg hu (fun q _ hq => hnb q hq)).1 grl gk)
   rw [show asM (some lk, true) k n = (some k, decide (cmpI lk k < 0)) from rfl]
   generalize cmpI lk k = cm at *
   clear h hx hk e2 hbk hnb hwd h1 h2 hSb gk hSl hll hcl hkl grl
   by_cases hcm : cm < 0
   ·rw [decide_eq_true hcm]
    have HCM := hid (decide_eq_true hcm)
    go_enter Tryd.func88, Tryd.ntmps88
    go_wp2_with fail
    refine wp_region_held_drew (S := fun u => Chg (fun q => q = Ob) w.drew u) (by kernel_rfl) (hch) (fun hHeld => ?_)
    refine wpAnyH_ready (rs := [0]) (by kernel_rfl) (by simp) ?_
    refine (AllReadyH.cons (o := ⟨some 4, .load 4 (.tmp 1), 4, "visit.go:63", #[], none⟩) rfl (fun K hK => ?_) AllReadyH.nil)
    go_simp
    refine hK.out _ _ hch (fun hHeld => ?_)
    clear hK K
    try simp only [Act.put, sA, sB, sC]
    refine tk (i := 1) (oi := ⟨some 5, .move (.tmp 4), 4, "visit.go:63", #[⟨0, .data⟩], none⟩) (v := ?_) (Or.inl ⟨by rfl, ?_⟩) ?_
    rotate_left 1
    ·(intro u hSw; go_simp; try with_reducible rfl)
    try simp only [Act.put, sA, sB, sC]
    refine tk (i := 2) (oi := ⟨some 6, .load 68 (.tmp 2), 68, "visit.go:63", #[⟨1, .guard⟩], some (1, true)⟩) (v := ?_) (Or.inl ⟨by rfl, ?_⟩) ?_
    rotate_left 1
    ·(intro u hSw; have y0 := HL.out _ hSw; have y1 := HN.out _ hSw; have y2 := HQ.out _ hSw; go_simp; try with_reducible rfl)
    try simp only [Act.put, sA, sB, sC]
    refine tk (i := 3) (oi := ⟨some 7, .binOp BinOp.eql 68 (.tmp 6) (.const (Value.pointer none)) 68, 4, "visit.go:63", #[⟨2, .data⟩, ⟨1, .guard⟩], some (1, true)⟩) (v := ?_) (Or.inl ⟨by rfl, ?_⟩) ?_
    rotate_left 1
    ·(intro u hSw; go_simp; try with_reducible rfl)
    try simp only [Act.put, sA, sB, sC]
    refine tk (i := 4) (oi := ⟨some 8, .move (.tmp 7), 4, "visit.go:63", #[⟨3, .data⟩, ⟨1, .chain⟩, ⟨1, .guard⟩], some (1, true)⟩) (v := ?_) (Or.inl ⟨by rfl, ?_⟩) ?_
    rotate_left 1
    ·(intro u hSw; go_simp; try with_reducible rfl)
    try simp only [Act.put, sA, sB, sC]
    refine tk (i := 5) (oi := ⟨some 9, .load 68 (.tmp 2), 68, "visit.go:63", #[⟨4, .guard⟩], some (4, false)⟩) (v := ?_) (Or.inl ⟨by rfl, ?_⟩) ?_
    rotate_left 1
    ·(intro u hSw; have y0 := HL.out _ hSw; have y1 := HN.out _ hSw; have y2 := HQ.out _ hSw; go_simp; try with_reducible rfl)
    try simp only [Act.put, sA, sB, sC]
    refine tk (i := 6) (oi := ⟨some 10, .nilCheck (.tmp 9), 0, "visit.go:63", #[⟨5, .data⟩, ⟨4, .guard⟩], some (4, false)⟩) (v := ?_) (Or.inl ⟨by rfl, ?_⟩) ?_
    rotate_left 1
    ·(intro u hSw; go_simp; try with_reducible rfl)
    try simp only [Act.put, sA, sB, sC]
    refine tk (i := 7) (oi := ⟨some 11, .fieldAddr 115 (.tmp 10) 0, 0, "visit.go:63", #[⟨6, .data⟩, ⟨4, .guard⟩], some (4, false)⟩) (v := ?_) (Or.inl ⟨by rfl, ?_⟩) ?_
    rotate_left 1
    ·(intro u hSw; go_simp; try with_reducible rfl)
    try simp only [Act.put, sA, sB, sC]
    refine tk (i := 8) (oi := ⟨some 12, .fieldAddr 66 (.tmp 11) 0, 0, "visit.go:63", #[⟨7, .data⟩, ⟨4, .guard⟩], some (4, false)⟩) (v := ?_) (Or.inl ⟨by rfl, ?_⟩) ?_
    rotate_left 1
    ·(intro u hSw; go_simp; try with_reducible rfl)
    try simp only [Act.put, sA, sB, sC]
    refine tk (i := 9) (oi := ⟨some 13, .fieldAddr 33 (.tmp 12) 0, 0, "visit.go:63", #[⟨8, .data⟩, ⟨4, .guard⟩], some (4, false)⟩) (v := ?_) (Or.inl ⟨by rfl, ?_⟩) ?_
    rotate_left 1
    ·(intro u hSw; go_simp; try with_reducible rfl)
    try simp only [Act.put, sA, sB, sC]
    refine tk (i := 10) (oi := ⟨some 14, .load 31 (.tmp 13), 31, "visit.go:63", #[⟨9, .data⟩, ⟨4, .guard⟩], some (4, false)⟩) (v := ?_) (Or.inl ⟨by rfl, ?_⟩) ?_
    rotate_left 1
    ·(intro u hSw; have y0 := HL.out _ hSw; have y1 := HN.out _ hSw; have y2 := HQ.out _ hSw; go_simp; try with_reducible rfl)
    try simp only [Act.put, sA, sB, sC]
    refine tk (i := 11) (oi := ⟨some 15, .move (.tmp 0), 68, "visit.go:63", #[⟨4, .guard⟩], some (4, false)⟩) (v := ?_) (Or.inl ⟨by rfl, ?_⟩) ?_
    rotate_left 1
    ·(intro u hSw; go_simp; try with_reducible rfl)
    try simp only [Act.put, sA, sB, sC]
    refine tk (i := 12) (oi := ⟨some 16, .nilCheck (.tmp 15), 0, "visit.go:63", #[⟨11, .data⟩, ⟨4, .guard⟩], some (4, false)⟩) (v := ?_) (Or.inl ⟨by rfl, ?_⟩) ?_
    rotate_left 1
    ·(intro u hSw; go_simp; try with_reducible rfl)
    try simp only [Act.put, sA, sB, sC]
    refine tk (i := 13) (oi := ⟨some 17, .fieldAddr 115 (.tmp 16) 0, 0, "visit.go:63", #[⟨12, .data⟩, ⟨4, .guard⟩], some (4, false)⟩) (v := ?_) (Or.inl ⟨by rfl, ?_⟩) ?_
    rotate_left 1
    ·(intro u hSw; go_simp; try with_reducible rfl)
    try simp only [Act.put, sA, sB, sC]
    refine tk (i := 14) (oi := ⟨some 18, .fieldAddr 66 (.tmp 17) 0, 0, "visit.go:63", #[⟨13, .data⟩, ⟨4, .guard⟩], some (4, false)⟩) (v := ?_) (Or.inl ⟨by rfl, ?_⟩) ?_
    rotate_left 1
    ·(intro u hSw; go_simp; try with_reducible rfl)
    try simp only [Act.put, sA, sB, sC]
    refine tk (i := 15) (oi := ⟨some 19, .fieldAddr 33 (.tmp 18) 0, 0, "visit.go:63", #[⟨14, .data⟩, ⟨4, .guard⟩], some (4, false)⟩) (v := ?_) (Or.inl ⟨by rfl, ?_⟩) ?_
    rotate_left 1
    ·(intro u hSw; go_simp; try with_reducible rfl)
    try simp only [Act.put, sA, sB, sC]
    refine tk (i := 16) (oi := ⟨some 20, .load 31 (.tmp 19), 31, "visit.go:63", #[⟨15, .data⟩, ⟨4, .guard⟩], some (4, false)⟩) (v := ?_) (Or.inl ⟨by rfl, ?_⟩) ?_
    rotate_left 1
    ·(intro u hSw; have y0 := HL.out _ hSw; have y1 := HN.out _ hSw; have y2 := HQ.out _ hSw; go_simp; try with_reducible rfl)
    try simp only [Act.put, sA, sB, sC]
    refine wpAnyH_ready (rs := [17]) (by kernel_rfl) (by simp) ?_
    refine (AllReadyH.cons (o := ⟨some 21, .call ⟨.value (.func 56), #[.tmp 14, .tmp 20], #[31, 31]⟩, 3, "visit.go:63", #[⟨10, .data⟩, ⟨16, .data⟩, ⟨4, .chain⟩, ⟨4, .guard⟩], some (4, false)⟩) rfl (fun K hK => ?_) AllReadyH.nil)
    go_simp
    refine (HC.out _ hch).mono ?_
    rintro d w1 ⟨rfl, hw1⟩
    have hch : Chg (fun q => q = Ob) w.drew w1 := by rw [hw1]; exact hch
    have cO := cell_of_row w1 Ob 0 _ _ _ (show w1.heap[Ob]? = _ by rw [hw1]; exact HO.out)
    have fO := frozen_of_row w1 Ob 0 _ _ (show w1.heap[Ob]? = _ by rw [hw1]; exact HO.out)
    have HW1 := hid hw1
    clear hw1
    go_wp2_with fail
    refine hK.out _ _ hch (fun hHeld => ?_)
    clear hK K
    try simp only [Act.put, sA, sB, sC]
    refine tk (i := 18) (oi := ⟨some 22, .binOp BinOp.lss 3 (.tmp 21) (.const (Value.int IntKind.i64 0)) 3, 4, "visit.go:63", #[⟨17, .data⟩, ⟨4, .guard⟩], some (4, false)⟩) (v := .bool true) (Or.inl ⟨by rfl, ?_⟩) ?_
    ·intro u hSw
     (go_simp; first | done | omega | (rw [HCM.out]) | (have := HCM.out; simp_all))
    try simp only [Act.put, sA, sB, sC]
    refine tk (i := 19) (oi := ⟨some 23, .pick (.tmp 8) (.const (Value.bool true)) (.tmp 22), 4, "visit.go:63", #[⟨4, .data⟩, ⟨18, .data⟩, ⟨1, .guard⟩], some (1, true)⟩) (v := ?_) (Or.inl ⟨by rfl, ?_⟩) ?_
    rotate_left 1
    ·(intro u hSw; go_simp; try with_reducible rfl)
    try simp only [Act.put, sA, sB, sC]
    refine tk (i := 20) (oi := ⟨some 24, .pick (.tmp 5) (.tmp 23) (.const (Value.bool false)), 4, "visit.go:63", #[⟨1, .data⟩, ⟨19, .data⟩], none⟩) (v := ?_) (Or.inl ⟨by rfl, ?_⟩) ?_
    rotate_left 1
    ·(intro u hSw; go_simp; try with_reducible rfl)
    try simp only [Act.put, sA, sB, sC]
    refine wpAnyH_ready (rs := [21]) (by kernel_rfl) (by simp) ?_
    refine (AllReadyH.cons (o := ⟨none, .store 4 (.tmp 1) (.tmp 24), 0, "visit.go:63", #[⟨20, .data⟩, ⟨17, .chain⟩, ⟨0, .phase⟩, ⟨1, .phase⟩, ⟨2, .phase⟩, ⟨3, .phase⟩, ⟨4, .phase⟩, ⟨5, .phase⟩, ⟨6, .phase⟩, ⟨7, .phase⟩, ⟨8, .phase⟩, ⟨9, .phase⟩, ⟨10, .phase⟩, ⟨11, .phase⟩, ⟨12, .phase⟩, ⟨13, .phase⟩, ⟨14, .phase⟩, ⟨15, .phase⟩, ⟨16, .phase⟩, ⟨17, .phase⟩, ⟨18, .phase⟩, ⟨19, .phase⟩, ⟨20, .phase⟩], none⟩) rfl (fun K hK => ?_) AllReadyH.nil)
    go_simp
    refine hK.out _ _ (hch.setCell ⟨Ob, 0, none⟩ _ (.inl rfl)) (fun hHeld => ?_)
    clear hK K
    try simp only [Act.put]
    refine wpAnyH_done (by kernel_rfl) ?_ _
    have hf := HF.out true
    rw [show (w.setCell ⟨Ob, 0, none⟩ (.bool true)).drew = w1.setCell ⟨Ob, 0, none⟩ (.bool true) by rw [HW1.out]; rfl] at hf
    generalize w1.setCell ⟨Ob, 0, none⟩ (.bool true) = w5 at *
    have cL := cell_of_row _ Lb 0 _ _ _ hf.1
    have fL := frozen_of_row _ Lb 0 _ _ hf.1
    have HST := hid hf.2
    clear hf
    go_wp2_with fail
    go_end0
    exact ⟨rfl, HST.out⟩
   ·rw [decide_eq_false hcm]
    have HCM := hid (decide_eq_false hcm)
    go_enter Tryd.func88, Tryd.ntmps88
    go_wp2_with fail
    refine wp_region_held_drew (S := fun u => Chg (fun q => q = Ob) w.drew u) (by kernel_rfl) (hch) (fun hHeld => ?_)
    refine wpAnyH_ready (rs := [0]) (by kernel_rfl) (by simp) ?_
    refine (AllReadyH.cons (o := ⟨some 4, .load 4 (.tmp 1), 4, "visit.go:63", #[], none⟩) rfl (fun K hK => ?_) AllReadyH.nil)
    go_simp
    refine hK.out _ _ hch (fun hHeld => ?_)
    clear hK K
    try simp only [Act.put, sA, sB, sC]
    refine tk (i := 1) (oi := ⟨some 5, .move (.tmp 4), 4, "visit.go:63", #[⟨0, .data⟩], none⟩) (v := ?_) (Or.inl ⟨by rfl, ?_⟩) ?_
    rotate_left 1
    ·(intro u hSw; go_simp; try with_reducible rfl)
    try simp only [Act.put, sA, sB, sC]
    refine tk (i := 2) (oi := ⟨some 6, .load 68 (.tmp 2), 68, "visit.go:63", #[⟨1, .guard⟩], some (1, true)⟩) (v := ?_) (Or.inl ⟨by rfl, ?_⟩) ?_
    rotate_left 1
    ·(intro u hSw; have y0 := HL.out _ hSw; have y1 := HN.out _ hSw; have y2 := HQ.out _ hSw; go_simp; try with_reducible rfl)
    try simp only [Act.put, sA, sB, sC]
    refine tk (i := 3) (oi := ⟨some 7, .binOp BinOp.eql 68 (.tmp 6) (.const (Value.pointer none)) 68, 4, "visit.go:63", #[⟨2, .data⟩, ⟨1, .guard⟩], some (1, true)⟩) (v := ?_) (Or.inl ⟨by rfl, ?_⟩) ?_
    rotate_left 1
    ·(intro u hSw; go_simp; try with_reducible rfl)
    try simp only [Act.put, sA, sB, sC]
    refine tk (i := 4) (oi := ⟨some 8, .move (.tmp 7), 4, "visit.go:63", #[⟨3, .data⟩, ⟨1, .chain⟩, ⟨1, .guard⟩], some (1, true)⟩) (v := ?_) (Or.inl ⟨by rfl, ?_⟩) ?_
    rotate_left 1
    ·(intro u hSw; go_simp; try with_reducible rfl)
    try simp only [Act.put, sA, sB, sC]
    refine tk (i := 5) (oi := ⟨some 9, .load 68 (.tmp 2), 68, "visit.go:63", #[⟨4, .guard⟩], some (4, false)⟩) (v := ?_) (Or.inl ⟨by rfl, ?_⟩) ?_
    rotate_left 1
    ·(intro u hSw; have y0 := HL.out _ hSw; have y1 := HN.out _ hSw; have y2 := HQ.out _ hSw; go_simp; try with_reducible rfl)
    try simp only [Act.put, sA, sB, sC]
    refine tk (i := 6) (oi := ⟨some 10, .nilCheck (.tmp 9), 0, "visit.go:63", #[⟨5, .data⟩, ⟨4, .guard⟩], some (4, false)⟩) (v := ?_) (Or.inl ⟨by rfl, ?_⟩) ?_
    rotate_left 1
    ·(intro u hSw; go_simp; try with_reducible rfl)
    try simp only [Act.put, sA, sB, sC]
    refine tk (i := 7) (oi := ⟨some 11, .fieldAddr 115 (.tmp 10) 0, 0, "visit.go:63", #[⟨6, .data⟩, ⟨4, .guard⟩], some (4, false)⟩) (v := ?_) (Or.inl ⟨by rfl, ?_⟩) ?_
    rotate_left 1
    ·(intro u hSw; go_simp; try with_reducible rfl)
    try simp only [Act.put, sA, sB, sC]
    refine tk (i := 8) (oi := ⟨some 12, .fieldAddr 66 (.tmp 11) 0, 0, "visit.go:63", #[⟨7, .data⟩, ⟨4, .guard⟩], some (4, false)⟩) (v := ?_) (Or.inl ⟨by rfl, ?_⟩) ?_
    rotate_left 1
    ·(intro u hSw; go_simp; try with_reducible rfl)
    try simp only [Act.put, sA, sB, sC]
    refine tk (i := 9) (oi := ⟨some 13, .fieldAddr 33 (.tmp 12) 0, 0, "visit.go:63", #[⟨8, .data⟩, ⟨4, .guard⟩], some (4, false)⟩) (v := ?_) (Or.inl ⟨by rfl, ?_⟩) ?_
    rotate_left 1
    ·(intro u hSw; go_simp; try with_reducible rfl)
    try simp only [Act.put, sA, sB, sC]
    refine tk (i := 10) (oi := ⟨some 14, .load 31 (.tmp 13), 31, "visit.go:63", #[⟨9, .data⟩, ⟨4, .guard⟩], some (4, false)⟩) (v := ?_) (Or.inl ⟨by rfl, ?_⟩) ?_
    rotate_left 1
    ·(intro u hSw; have y0 := HL.out _ hSw; have y1 := HN.out _ hSw; have y2 := HQ.out _ hSw; go_simp; try with_reducible rfl)
    try simp only [Act.put, sA, sB, sC]
    refine tk (i := 11) (oi := ⟨some 15, .move (.tmp 0), 68, "visit.go:63", #[⟨4, .guard⟩], some (4, false)⟩) (v := ?_) (Or.inl ⟨by rfl, ?_⟩) ?_
    rotate_left 1
    ·(intro u hSw; go_simp; try with_reducible rfl)
    try simp only [Act.put, sA, sB, sC]
    refine tk (i := 12) (oi := ⟨some 16, .nilCheck (.tmp 15), 0, "visit.go:63", #[⟨11, .data⟩, ⟨4, .guard⟩], some (4, false)⟩) (v := ?_) (Or.inl ⟨by rfl, ?_⟩) ?_
    rotate_left 1
    ·(intro u hSw; go_simp; try with_reducible rfl)
    try simp only [Act.put, sA, sB, sC]
    refine tk (i := 13) (oi := ⟨some 17, .fieldAddr 115 (.tmp 16) 0, 0, "visit.go:63", #[⟨12, .data⟩, ⟨4, .guard⟩], some (4, false)⟩) (v := ?_) (Or.inl ⟨by rfl, ?_⟩) ?_
    rotate_left 1
    ·(intro u hSw; go_simp; try with_reducible rfl)
    try simp only [Act.put, sA, sB, sC]
    refine tk (i := 14) (oi := ⟨some 18, .fieldAddr 66 (.tmp 17) 0, 0, "visit.go:63", #[⟨13, .data⟩, ⟨4, .guard⟩], some (4, false)⟩) (v := ?_) (Or.inl ⟨by rfl, ?_⟩) ?_
    rotate_left 1
    ·(intro u hSw; go_simp; try with_reducible rfl)
    try simp only [Act.put, sA, sB, sC]
    refine tk (i := 15) (oi := ⟨some 19, .fieldAddr 33 (.tmp 18) 0, 0, "visit.go:63", #[⟨14, .data⟩, ⟨4, .guard⟩], some (4, false)⟩) (v := ?_) (Or.inl ⟨by rfl, ?_⟩) ?_
    rotate_left 1
    ·(intro u hSw; go_simp; try with_reducible rfl)
    try simp only [Act.put, sA, sB, sC]
    refine tk (i := 16) (oi := ⟨some 20, .load 31 (.tmp 19), 31, "visit.go:63", #[⟨15, .data⟩, ⟨4, .guard⟩], some (4, false)⟩) (v := ?_) (Or.inl ⟨by rfl, ?_⟩) ?_
    rotate_left 1
    ·(intro u hSw; have y0 := HL.out _ hSw; have y1 := HN.out _ hSw; have y2 := HQ.out _ hSw; go_simp; try with_reducible rfl)
    try simp only [Act.put, sA, sB, sC]
    refine wpAnyH_ready (rs := [17]) (by kernel_rfl) (by simp) ?_
    refine (AllReadyH.cons (o := ⟨some 21, .call ⟨.value (.func 56), #[.tmp 14, .tmp 20], #[31, 31]⟩, 3, "visit.go:63", #[⟨10, .data⟩, ⟨16, .data⟩, ⟨4, .chain⟩, ⟨4, .guard⟩], some (4, false)⟩) rfl (fun K hK => ?_) AllReadyH.nil)
    go_simp
    refine (HC.out _ hch).mono ?_
    rintro d w1 ⟨rfl, hw1⟩
    have hch : Chg (fun q => q = Ob) w.drew w1 := by rw [hw1]; exact hch
    have cO := cell_of_row w1 Ob 0 _ _ _ (show w1.heap[Ob]? = _ by rw [hw1]; exact HO.out)
    have fO := frozen_of_row w1 Ob 0 _ _ (show w1.heap[Ob]? = _ by rw [hw1]; exact HO.out)
    have HW1 := hid hw1
    clear hw1
    go_wp2_with fail
    refine hK.out _ _ hch (fun hHeld => ?_)
    clear hK K
    try simp only [Act.put, sA, sB, sC]
    refine tk (i := 18) (oi := ⟨some 22, .binOp BinOp.lss 3 (.tmp 21) (.const (Value.int IntKind.i64 0)) 3, 4, "visit.go:63", #[⟨17, .data⟩, ⟨4, .guard⟩], some (4, false)⟩) (v := .bool false) (Or.inl ⟨by rfl, ?_⟩) ?_
    ·intro u hSw
     (go_simp; first | done | omega | (rw [HCM.out]) | (have := HCM.out; simp_all))
    try simp only [Act.put, sA, sB, sC]
    refine tk (i := 19) (oi := ⟨some 23, .pick (.tmp 8) (.const (Value.bool true)) (.tmp 22), 4, "visit.go:63", #[⟨4, .data⟩, ⟨18, .data⟩, ⟨1, .guard⟩], some (1, true)⟩) (v := ?_) (Or.inl ⟨by rfl, ?_⟩) ?_
    rotate_left 1
    ·(intro u hSw; go_simp; try with_reducible rfl)
    try simp only [Act.put, sA, sB, sC]
    refine tk (i := 20) (oi := ⟨some 24, .pick (.tmp 5) (.tmp 23) (.const (Value.bool false)), 4, "visit.go:63", #[⟨1, .data⟩, ⟨19, .data⟩], none⟩) (v := ?_) (Or.inl ⟨by rfl, ?_⟩) ?_
    rotate_left 1
    ·(intro u hSw; go_simp; try with_reducible rfl)
    try simp only [Act.put, sA, sB, sC]
    refine wpAnyH_ready (rs := [21]) (by kernel_rfl) (by simp) ?_
    refine (AllReadyH.cons (o := ⟨none, .store 4 (.tmp 1) (.tmp 24), 0, "visit.go:63", #[⟨20, .data⟩, ⟨17, .chain⟩, ⟨0, .phase⟩, ⟨1, .phase⟩, ⟨2, .phase⟩, ⟨3, .phase⟩, ⟨4, .phase⟩, ⟨5, .phase⟩, ⟨6, .phase⟩, ⟨7, .phase⟩, ⟨8, .phase⟩, ⟨9, .phase⟩, ⟨10, .phase⟩, ⟨11, .phase⟩, ⟨12, .phase⟩, ⟨13, .phase⟩, ⟨14, .phase⟩, ⟨15, .phase⟩, ⟨16, .phase⟩, ⟨17, .phase⟩, ⟨18, .phase⟩, ⟨19, .phase⟩, ⟨20, .phase⟩], none⟩) rfl (fun K hK => ?_) AllReadyH.nil)
    go_simp
    refine hK.out _ _ (hch.setCell ⟨Ob, 0, none⟩ _ (.inl rfl)) (fun hHeld => ?_)
    clear hK K
    try simp only [Act.put]
    refine wpAnyH_done (by kernel_rfl) ?_ _
    have hf := HF.out false
    rw [show (w.setCell ⟨Ob, 0, none⟩ (.bool false)).drew = w1.setCell ⟨Ob, 0, none⟩ (.bool false) by rw [HW1.out]; rfl] at hf
    generalize w1.setCell ⟨Ob, 0, none⟩ (.bool false) = w5 at *
    have cL := cell_of_row _ Lb 0 _ _ _ hf.1
    have fL := frozen_of_row _ Lb 0 _ _ hf.1
    have HST := hid hf.2
    clear hf
    go_wp2_with fail
    go_end0
    exact ⟨rfl, HST.out⟩
end Go.Proofs.YtbmlkocpjboodaaDoor
