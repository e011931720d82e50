/- the writer of print, whole: every method at any tree in which the checker finds nothing -/
import Derived.Test.YtegkbagnbnoopaaGreatDoorPs23
import Derived.Test.YtegkbagnbnoopaaGreatDoorPs24
import Derived.Test.YtegkbagnbnoopaaGreatDoorPs25
import Derived.Test.YtegkbagnbnoopaaGreatDoorPs26
namespace Go.Proofs.YtegkbagnbnoopaaGreatDoor
open Go.ChangeShapes Go.WideShapes Go.ChangeAt Go.RowKit Go.Deep
open Go.Lib (hid)
theorem len_two {α : Type} : ∀ {l : List α}, l.length = 2 → ∃ a b, l = [a, b]
 | [a, b], _ => ⟨a, b, rfl⟩
theorem hasF_parts {op : Int} {tb nm : List Int} {v : Val} {na nq : Nat} (h : hasF op tb nm v na nq = true) :
  ((op = 1 ∨ op = 2 ∨ op = 21) ∧ na = 0 ∧ nq = 0) ∨ ((op = 4 ∨ op = 16 ∨ op = 19 ∨ op = 20 ∨ op = 22 ∨ op = 23 ∨ op = 24 ∨ op = 25) ∧ na = 1 ∧ nq = 0) ∨ ((op = 5 ∨ op = 6 ∨ op = 7 ∨ op = 8 ∨ op = 9 ∨ op = 10 ∨ op = 11 ∨ op = 12 ∨ op = 13 ∨ op = 14 ∨ op = 15 ∨ op = 17 ∨ op = 18) ∧ na = 2 ∧ nq = 0) ∨ ((op = 26 ∨ op = 27) ∧ na = 0 ∧ nq = 1) ∨ ((op = 28 ∨ op = 29) ∧ na = 1 ∧ nq = 1) := by
 have h1 : (partsF op).2.2 = true ∧ (na : Int) = (partsF op).1 ∧ (nq : Int) = (partsF op).2.1 := by
  simp only [hasF, Bool.and_eq_true, decide_eq_true_eq] at h
  exact ⟨h.1, h.2.1, h.2.2.1⟩
 clear h
 unfold partsF at h1
 by_cases c1 : op = 1 ∨ op = 2 ∨ op = 21
 ·rw [if_pos c1] at h1; obtain ⟨-, a, b⟩ := h1; dsimp only at a b; exact .inl ⟨c1, by omega, by omega⟩
 rw [if_neg c1] at h1
 by_cases c2 : op = 4 ∨ op = 16 ∨ op = 19 ∨ op = 20 ∨ op = 22 ∨ op = 23 ∨ op = 24 ∨ op = 25
 ·rw [if_pos c2] at h1; obtain ⟨-, a, b⟩ := h1; dsimp only at a b; exact .inr (.inl ⟨c2, by omega, by omega⟩)
 rw [if_neg c2] at h1
 by_cases c3 : op = 5 ∨ op = 6 ∨ op = 7 ∨ op = 8 ∨ op = 9 ∨ op = 10 ∨ op = 11 ∨ op = 12 ∨ op = 13 ∨ op = 14 ∨ op = 15 ∨ op = 17 ∨ op = 18
 ·rw [if_pos c3] at h1; obtain ⟨-, a, b⟩ := h1; dsimp only at a b; exact .inr (.inr (.inl ⟨c3, by omega, by omega⟩))
 rw [if_neg c3] at h1
 by_cases c4 : op = 26 ∨ op = 27
 ·rw [if_pos c4] at h1; obtain ⟨-, a, b⟩ := h1; dsimp only at a b; exact .inr (.inr (.inr (.inl ⟨c4, by omega, by omega⟩)))
 rw [if_neg c4] at h1
 by_cases c5 : op = 28 ∨ op = 29
 ·rw [if_pos c5] at h1; obtain ⟨-, a, b⟩ := h1; dsimp only at a b; exact .inr (.inr (.inr (.inr ⟨c5, by omega, by omega⟩)))
 rw [if_neg c5] at h1
 cases h1.1
def OpE (w0 : World) (x : Ex) : Prop := ∀ (l : Int) (b : Value), ExV w0 b x → W2 w0 95 b (.int .i64 l) (x.wr l)
def InE (w0 : World) (z : Qu) : Prop := ∀ b, QuV w0 b z → W1 w0 94 b (Wr.par z.bd)
theorem xe_of {w0 : World} {x : Ex} (h : OpE w0 x) : XE w0 x := wexpr_step (h 1)
theorem ex_wall {w0 : World} {x : Ex} (hT : Tabs w0) (ox : x.OK) (hz : Da.sizeR x.da ≤ 1073741823) (hG : x.Good) (hE : ∀ y ∈ x.args, OpE w0 y) (hI : ∀ z ∈ x.qs, InE w0 z) : OpE w0 x := by
 have hg : hasF x.op x.tb x.nm x.v x.args.length x.qs.length = true := by cases x; exact (Ex.good_mk hG).1
 have hM : Mo (opx x) := opF_mo _ _ _ _ (exs_mo x.args) (qus_mo x.qs)
 have hp := hasF_parts hg
 have hop : ∀ a, ExV w0 a x → W1 w0 110 a (opx x) := by
  intro a ha
  rcases hp with ⟨h, n1, n2⟩ | ⟨h, n1, n2⟩ | ⟨h, n1, n2⟩ | ⟨h, n1, n2⟩ | ⟨h, n1, n2⟩
  ·rcases h with h | h | h
   ·exact opn_1 hT ox hz h a ha
   ·exact opn_2 hT ox h a ha
   ·exact opn_21 hT h a ha
  ·obtain ⟨y, hy⟩ := List.length_eq_one_iff.1 n1
   have hO : OpE w0 y := hE y (by rw [hy]; exact List.mem_singleton.2 rfl)
   rcases h with h | h | h | h | h | h | h | h
   ·exact opn_4 hT hy hO y.mo h a ha
   ·exact opn_16 hT hy hO y.mo h a ha
   ·exact opn_19 hT hy hO h a ha
   ·exact opn_20 hT hy hO h a ha
   ·exact opn_22 hT hy (xe_of hO) (y.mo 1) h a ha
   ·exact opn_23 hT hy (xe_of hO) (y.mo 1) h a ha
   ·exact opn_24 hT hy (xe_of hO) (y.mo 1) h a ha
   ·exact opn_25 hT hy (xe_of hO) (y.mo 1) h a ha
  ·obtain ⟨y, z, hy⟩ := len_two n1
   have hY : OpE w0 y := hE y (by rw [hy]; exact List.mem_cons_self)
   have hZ : OpE w0 z := hE z (by rw [hy]; exact List.mem_cons_of_mem _ (List.mem_singleton.2 rfl))
   exact opn_b hT hy hY hZ z.mo (by omega) h a ha
  ·obtain ⟨z, hq⟩ := List.length_eq_one_iff.1 n2
   have hJ : InE w0 z := hI z (by rw [hq]; exact List.mem_singleton.2 rfl)
   rcases h with h | h
   ·exact opn_26 hT hq hJ z.mo h a ha
   ·exact opn_27 hT hq hJ z.mo h a ha
  ·obtain ⟨y, hy⟩ := List.length_eq_one_iff.1 n1
   obtain ⟨z, hq⟩ := List.length_eq_one_iff.1 n2
   have hO : OpE w0 y := hE y (by rw [hy]; exact List.mem_singleton.2 rfl)
   have hJ : InE w0 z := hI z (by rw [hq]; exact List.mem_singleton.2 rfl)
   rcases h with h | h
   ·exact opn_28 hT hy hO hq hJ z.mo h a ha
   ·exact opn_29 hT hy hO hq hJ z.mo h a ha
 exact fun l b hb => operand_step hT hop hM (by omega) (by omega) l b hb
theorem qu_good (x : Qu) (h : x.Good) : (∀ y ∈ x.parts, y.In) ∧ ((∀ y ∈ x.sel.items, y.Good) ∧ (∀ y ∈ x.sel.fro, y.Good ∧ (joinsOK true y.kind y.on.length = true ∨ joinsOK false y.kind y.on.length = true)) ∧ (∀ y ∈ x.sel.wh, y.Good) ∧ (∀ y ∈ x.sel.gr, y.Good) ∧ (∀ y ∈ x.sel.hv, y.Good)) ∧ (∀ y ∈ x.ord, y.Good) ∧ ((x.op = 1 ∧ x.parts = []) ∨ ((x.op = 2 ∨ x.op = 3) ∧ x.parts.length = 2)) := by
 obtain ⟨op, parts, sel, ord, lim, n⟩ := x
 obtain ⟨d, items, fro, wh, gr, hv⟩ := sel
 obtain ⟨a, b, c, -, e⟩ := Qu.good_mk h
 obtain ⟨b1, b2, b3, b4, b5, -, -⟩ := Se.good_mk b
 exact ⟨a, ⟨b1, b2, b3, b4, b5⟩, c, e⟩
theorem qu_wall {w0 : World} {x : Qu} (hT : Tabs w0) (hG : x.Good) (hS : CSw w0 x.sel) (hB : ∀ p ∈ x.parts, CBd w0 p ∧ CSw w0 p.sel) : CBd w0 x := by
 have hg := (qu_good x hG).2.2.2
 refine fun a ha => body_step hT (fun _ => hS) (fun h1 => ?_) (fun p hp => (hB p hp).1) (fun p hp a ha => unit_step (hB p hp).1 (fun _ => (hB p hp).2) p.mo a ha) (fun p _ => unitF_mo p.mo) a ha
 rcases hg with hg | hg
 ·exact absurd hg.1 h1
 ·exact ⟨hg.1, len_two hg.2⟩
theorem se_wall {w0 : World} {x : Se} (hI : ∀ y ∈ x.items, ∀ a, ItV w0 a y → W1 w0 92 a y.wr) (hS : ∀ y ∈ x.fro, ∀ a, SoV w0 a y → W1 w0 93 a y.wr)
  (hw3 : ∀ y ∈ x.wh, XE w0 y) (hg3 : ∀ y ∈ x.gr, XE w0 y) (hh3 : ∀ y ∈ x.hv, XE w0 y)
  (l0 : x.items.length ≤ 1073741823) (l1 : x.fro.length ≤ 1073741823) (l2 : x.wh.length ≤ 1073741823) (l3 : x.gr.length ≤ 1073741823) (l4 : x.hv.length ≤ 1073741823) : CSw w0 x := by
 cases hd : x.dist
 ·exact selects_df hd hI (fun y _ => y.mo) hS (fun y _ => y.mo) hw3 (fun y _ => y.mo 1) hg3 (fun y _ => y.mo 1) hh3 (fun y _ => y.mo 1) l0 l1 l2 l3 l4
 ·exact selects_dt hd hI (fun y _ => y.mo) hS (fun y _ => y.mo) hw3 (fun y _ => y.mo 1) hg3 (fun y _ => y.mo 1) hh3 (fun y _ => y.mo 1) l0 l1 l2 l3 l4
theorem so_wall {w0 : World} {x : So} (hT : Tabs w0) (ox : x.OK) (hG : x.Good) (hk : joinsOK true x.kind x.on.length = true ∨ joinsOK false x.kind x.on.length = true) (hE : ∀ y ∈ x.on, XE w0 y) (hI : ∀ z ∈ x.q, InE w0 z) (hn : x.on.length ≤ 1073741823) (a : Value) (ha : SoV w0 a x) : W1 w0 93 a x.wr := by
 have hk : x.kind = 0 ∨ x.kind = 1 ∨ x.kind = 2 := by
  rcases hk with hk | hk
  ·simp [joinsOK] at hk; exact .inl hk.1
  ·simp [joinsOK] at hk; exact .inr hk.1
 have hg : (x.q = [] ∧ x.tb ≠ []) ∨ (x.q.length = 1 ∧ x.tb = [] ∧ x.al ≠ []) := by cases x; exact (So.good_mk hG).2.2
 have hM : ∀ y ∈ x.on, Mo (y.wr 1) := fun y _ => y.mo 1
 rcases hg with ⟨-, ht⟩ | ⟨hq, ht, -⟩
 ·rcases hk with hk | hk | hk
  ·exact source_0t ox hk ht hE hM hn a ha
  ·exact source_1t hT ox hk ht hE hM hn a ha
  ·exact source_2t hT ox hk ht hE hM hn a ha
 ·obtain ⟨z, hq⟩ := List.length_eq_one_iff.1 hq
  have hJ : InE w0 z := hI z (by rw [hq]; exact List.mem_singleton.2 rfl)
  rcases hk with hk | hk | hk
  ·exact source_0q ox hk ht hq hJ z.mo hE hM hn a ha
  ·exact source_1q hT ox hk ht hq hJ z.mo hE hM hn a ha
  ·exact source_2q hT ox hk ht hq hJ z.mo hE hM hn a ha
theorem so_good (x : So) (h : x.Good) : (∀ y ∈ x.q, y.In) ∧ (∀ y ∈ x.on, y.Good) := by
 cases x; exact ⟨(So.good_mk h).1, (So.good_mk h).2.1⟩
theorem ex_good (x : Ex) (h : x.Good) : (∀ y ∈ x.args, y.Good) ∧ (∀ y ∈ x.qs, y.In) := by
 cases x; exact ⟨(Ex.good_mk h).2.1, (Ex.good_mk h).2.2.1⟩
theorem it_good (x : It) (h : x.Good) : x.star = false → x.x.Good := by
 cases x; intro e
 rcases It.good_mk h with a | a
 ·exact absurd (a.1.symm.trans e) (by decide)
 ·exact a.2
theorem it_nm_rng {x : It} (h : x.OK) : Rng x.nm := by cases x; unfold It.OK at h; exact h.2
theorem wr_all (w0 : World) (hT : Tabs w0) : ∀ n : Nat, (∀ x : Ex, Da.sizeR x.da < n → Da.sizeR x.da ≤ 1073741823 → x.OK → x.Good → OpE w0 x) ∧ (∀ x : Qu, Da.sizeR x.da < n → Da.sizeR x.da ≤ 1073741823 → x.OK → x.Good → CBd w0 x ∧ CSw w0 x.sel) ∧ (∀ x : It, Da.sizeR x.da < n → Da.sizeR x.da ≤ 1073741823 → x.OK → x.Good → ∀ a, ItV w0 a x → W1 w0 92 a x.wr) ∧ (∀ x : So, Da.sizeR x.da < n → Da.sizeR x.da ≤ 1073741823 → x.OK → x.Good → (joinsOK true x.kind x.on.length = true ∨ joinsOK false x.kind x.on.length = true) → ∀ a, SoV w0 a x → W1 w0 93 a x.wr) := by
 intro n
 induction n with
 | zero => exact ⟨fun x h => absurd h (Nat.not_lt_zero _), fun x h => absurd h (Nat.not_lt_zero _), fun x h => absurd h (Nat.not_lt_zero _), fun x h => absurd h (Nat.not_lt_zero _)⟩
 | succ n ih =>
  obtain ⟨iE, iQ, iI, iS⟩ := ih
  have lE : ∀ l : List Ex, Da.sizeK (exsDa l) < n → Da.sizeK (exsDa l) ≤ 1073741823 → exsOK l → (∀ y ∈ l, y.Good) → ∀ y ∈ l, OpE w0 y := fun l h1 h2 h3 h4 y hy => by have := exs_mem hy; exact iE y (by omega) (by omega) (exsOK_mem h3 y hy) (h4 y hy)
  have lQ : ∀ l : List Qu, Da.sizeK (qusDa l) < n → Da.sizeK (qusDa l) ≤ 1073741823 → qusOK l → (∀ y ∈ l, y.In) → ∀ y ∈ l, CBd w0 y ∧ CSw w0 y.sel := fun l h1 h2 h3 h4 y hy => by have := qus_mem hy; exact iQ y (by omega) (by omega) (qusOK_mem h3 y hy) (h4 y hy).1
  have lN : ∀ l : List Qu, Da.sizeK (qusDa l) < n → Da.sizeK (qusDa l) ≤ 1073741823 → qusOK l → (∀ y ∈ l, y.In) → ∀ y ∈ l, InE w0 y := fun l h1 h2 h3 h4 y hy => winner_step (lQ l h1 h2 h3 h4 y hy).1 y.mo
  have lI : ∀ l : List It, Da.sizeK (itsDa l) < n → Da.sizeK (itsDa l) ≤ 1073741823 → itsOK l → (∀ y ∈ l, y.Good) → ∀ y ∈ l, ∀ a, ItV w0 a y → W1 w0 92 a y.wr := fun l h1 h2 h3 h4 y hy => by have := its_mem hy; exact iI y (by omega) (by omega) (itsOK_mem h3 y hy) (h4 y hy)
  have lS : ∀ l : List So, Da.sizeK (sosDa l) < n → Da.sizeK (sosDa l) ≤ 1073741823 → sosOK l → (∀ y ∈ l, y.Good ∧ (joinsOK true y.kind y.on.length = true ∨ joinsOK false y.kind y.on.length = true)) → ∀ y ∈ l, ∀ a, SoV w0 a y → W1 w0 93 a y.wr := fun l h1 h2 h3 h4 y hy => by have := sos_mem hy; exact iS y (by omega) (by omega) (sosOK_mem h3 y hy) (h4 y hy).1 (h4 y hy).2
  refine ⟨fun x hn hz ox hG => ?_, fun x hn hz ox hG => ?_, fun x hn hz ox hG => ?_, fun x hn hz ox hG hk => ?_⟩
  ·have a := ex_args_lt x
   have b := ex_qs_lt x
   have g := ex_good x hG
   exact ex_wall hT ox hz hG (lE _ (by omega) (by omega) (ex_args_ok ox) g.1) (lN _ (by omega) (by omega) (ex_qs_ok ox) g.2)
  ·have a0 := qu_parts_lt x
   have a1 := qu_sel_items_lt x
   have a2 := qu_sel_fro_lt x
   have a3 := qu_sel_wh_lt x
   have a4 := qu_sel_gr_lt x
   have a5 := qu_sel_hv_lt x
   have os := qu_sel_ok ox
   have m1 := its_len (Nat.le_of_lt a1)
   have m2 := sos_len (Nat.le_of_lt a2)
   have m3 := exs_len (Nat.le_of_lt a3)
   have m4 := exs_len (Nat.le_of_lt a4)
   have m5 := exs_len (Nat.le_of_lt a5)
   obtain ⟨g0, ⟨g1, g2, g3, g4, g5⟩, -, -⟩ := qu_good x hG
   have hS : CSw w0 x.sel := se_wall (lI _ (by omega) (by omega) (se_items_ok os) g1) (lS _ (by omega) (by omega) (se_fro_ok os) g2) (fun y hy => xe_of (lE _ (by omega) (by omega) (se_wh_ok os) g3 y hy)) (fun y hy => xe_of (lE _ (by omega) (by omega) (se_gr_ok os) g4 y hy)) (fun y hy => xe_of (lE _ (by omega) (by omega) (se_hv_ok os) g5 y hy)) (by omega) (by omega) (by omega) (by omega) (by omega)
   exact ⟨qu_wall hT hG hS (lQ _ (by omega) (by omega) (qu_parts_ok ox) g0), hS⟩
  ·exact fun a ha => witem_step (fun e => xe_of (iE x.x (by have := it_x_lt x; omega) (by have := it_x_lt x; omega) (it_x_ok ox) (it_good x hG e))) (it_nm_rng ox) a ha
  ·have a := so_q_lt x
   have b := so_on_lt x
   have g := so_good x hG
   have m := exs_len (Nat.le_of_lt b)
   exact fun v hv => so_wall hT ox hG hk (fun y hy => xe_of (lE _ (by omega) (by omega) (so_on_ok ox) g.2 y hy)) (lN _ (by omega) (by omega) (so_q_ok ox) g.1) (by omega) v hv
theorem qu_n_ok {x : Qu} (h : x.OK) : I64 x.n := by cases x; unfold Qu.OK at h; exact h.2.2.2.2
/-- the writer's query, at any tree in which the checker finds nothing -/
theorem wquery_any (w0 : World) (hT : Tabs w0) (x : Qu) (hz : Da.sizeR x.da ≤ 1073741823) (ox : x.OK) (hG : x.Good) (a : Value) (ha : QuV w0 a x) : W1 w0 23 a x.wr := by
 obtain ⟨E, Q, -, -⟩ := wr_all w0 hT (Da.sizeR x.da + 1)
 have b := qu_ord_lt x
 have m := obs_len (Nat.le_of_lt b)
 have g := (qu_good x hG).2.2.1
 refine wquery_step hT (Q x (by omega) hz ox hG).1 (fun o ho v hv => key_step (xe_of (E o.x ?_ ?_ ?_ ?_)) (o.x.mo 1) v hv) (fun o _ => o.mo) (by omega) (qu_n_ok ox) a ha
 ·have := obs_mem ho; have := ob_x_lt o; omega
 ·have := obs_mem ho; have := ob_x_lt o; omega
 ·exact ob_x_ok (obsOK_mem (qu_ord_ok ox) o ho)
 ·have := g o ho; cases o; exact Ob.good_mk this
theorem ob_wr_t (y : Ex) (s : Wr) : Ob.wr (.mk y true) s = (y.wr 1 s).put [[100, 101, 115, 99]] := by rw [Ob.wr, if_pos rfl]
theorem ob_wr_f (y : Ex) (s : Wr) : Ob.wr (.mk y false) s = y.wr 1 s := by rw [Ob.wr, if_neg (by decide)]
theorem Ob.add (x : Ob) (h : x.OK) : Add x.wr (64 * Da.sizeR x.da - 2) ∧ 1 ≤ Da.sizeR x.da := by
 obtain ⟨y, down⟩ := x
 have h : y.OK := by unfold Ob.OK at h; exact h
 have e := ob_size y down
 refine ⟨fun s => ?_, by omega⟩
 have k := Ex.add y h 1 s
 cases down
 ·rw [ob_wr_f]; omega
 ·rw [ob_wr_t]
  have p := put_len [[100, 101, 115, 99]] (y.wr 1 s)
  simp only [List.map_cons, List.map_nil, List.sum_cons, List.sum_nil, List.length_cons, List.length_nil] at p
  omega
theorem Qu.wr_add (x : Qu) (h : x.OK) : Add x.wr (128 * Da.sizeR x.da + 100) := by
 intro s
 have hb := Qu.add x h s
 have hi := Lib.itoa_length_le x.n (qu_n_ok h).1 (qu_n_ok h).2
 have hl := list_add true (l := x.ord) (F := Ob.wr) (S := fun o => Da.sizeR o.da) (fun o ho => Ob.add o (obsOK_mem (qu_ord_ok h) o ho))
 rw [← obsWr_map, ← obsDa_sum] at hl
 have o1 := hl ((x.bd s).put [[111, 114, 100, 101, 114, 32, 98, 121]])
 have o2 := put_len [[111, 114, 100, 101, 114, 32, 98, 121]] (x.bd s)
 have a := qu_ord_lt x
 have hm : (if x.ord = [] then x.bd s else listF true (obsWr x.ord) ((x.bd s).put [[111, 114, 100, 101, 114, 32, 98, 121]])).tx.length ≤ s.tx.length + 128 * Da.sizeR x.da + 20 := by
  simp only [List.map_cons, List.map_nil, List.sum_cons, List.sum_nil, List.length_cons, List.length_nil] at o2
  split <;> omega
 unfold Qu.wr
 split
 ·have p := put_len [[108, 105, 109, 105, 116], byI (Lib.itoa x.n)] (if x.ord = [] then x.bd s else listF true (obsWr x.ord) ((x.bd s).put [[111, 114, 100, 101, 114, 32, 98, 121]]))
  simp only [List.map_cons, List.map_nil, List.sum_cons, List.sum_nil, List.length_cons, List.length_nil, byI_len] at p
  omega
 ·omega
end Go.Proofs.YtegkbagnbnoopaaGreatDoor
/- print.Query, whole: its plain function is Qu.text -/
namespace Go.Proofs.YtegkbagnbnoopaaGreatDoor
open Go.ChangeShapes Go.WideShapes Go.ChangeAt Go.RowKit Go.Deep Go.Shelf
open Go.Lib (hid)
theorem nd_opt (s : Ck) (l : List Int) : (s.opt l).nd = s.nd := by unfold Ck.opt; split <;> rfl
mutual
theorem Ex.nd : ∀ (x : Ex) (s : Ck), (x.ck s).nd ≤ s.nd + (Da.sizeR x.da : Int)
 | .mk op tb nm v args qs, s => by
  have ha := exs_nd args
  have hq := qus_nd qs
  have e := ex_size op tb nm v args qs
  have e0 : s.enter.nd = s.nd + 1 := rfl
  unfold Ex.ck
  show (if s.enter.dp = true then s.enter else _ : Ck).nd ≤ _
  split
  ·omega
  ·refine Int.le_trans (hq _) ?_
   refine Int.le_trans (Int.add_le_add_right (ha _) _) ?_
   have k : (if op = 1 then (s.enter.req (hasF op tb nm v args.length qs.length)).inv (mayV v) else if op = 2 then ((s.enter.req (hasF op tb nm v args.length qs.length)).opt tb).nam nm else s.enter.req (hasF op tb nm v args.length qs.length)).nd = s.nd + 1 := by
    split
    ·rfl
    ·split
     ·show ((s.enter.req (hasF op tb nm v args.length qs.length)).opt tb).nd = _
      rw [nd_opt]; rfl
     ·rfl
   rw [k]
   omega
theorem exs_nd : ∀ (l : List Ex) (s : Ck), (exsCk l s).nd ≤ s.nd + (Da.sizeK (exsDa l) : Int)
 | [], s => by unfold exsCk; omega
 | x :: l, s => by
  have h1 := exs_nd l (x.ck s)
  have h2 := Ex.nd x s
  have e : Da.sizeK (exsDa (x :: l)) = Da.sizeR x.da + Da.sizeK (exsDa l) := rfl
  unfold exsCk
  omega
theorem Qu.nd : ∀ (x : Qu) (s : Ck), (x.ck s).nd ≤ s.nd + (Da.sizeR x.da : Int)
 | .mk op parts sel ord lim n, s => by
  have hp := qus_nd parts
  have hs := Se.nd sel
  have ho := obs_nd ord
  have e := qu_size op parts sel ord lim n
  have e0 : s.enter.nd = s.nd + 1 := rfl
  unfold Qu.ck
  show (if s.enter.dp = true then s.enter else _ : Ck).nd ≤ _
  split
  ·omega
  ·refine Int.le_trans (ho _) ?_
   refine Int.le_trans (Int.add_le_add_right (hs _) _) ?_
   refine Int.le_trans (Int.add_le_add_right (Int.add_le_add_right (hp _) _) _) ?_
   show s.enter.nd + _ + _ + _ ≤ _
   omega
theorem qus_nd : ∀ (l : List Qu) (s : Ck), (qusCk l s).nd ≤ s.nd + (Da.sizeK (qusDa l) : Int)
 | [], s => by unfold qusCk; omega
 | x :: l, s => by
  have h1 := qus_nd l (x.ck (s.req (x.ord.isEmpty && !x.lim)))
  have h2 := Qu.nd x (s.req (x.ord.isEmpty && !x.lim))
  have h3 : (s.req (x.ord.isEmpty && !x.lim)).nd = s.nd := rfl
  have e : Da.sizeK (qusDa (x :: l)) = Da.sizeR x.da + Da.sizeK (qusDa l) := rfl
  unfold qusCk
  omega
theorem Se.nd : ∀ (x : Se) (s : Ck), (x.ck s).nd ≤ s.nd + (Da.sizeR x.da : Int)
 | .mk d items fro wh gr hv, s => by
  have h1 := its_nd items s
  have h2 := sos_nd fro true (itsCk items s)
  have h3 := exs_nd wh ((sosCk true fro (itsCk items s)).req (decide (wh.length ≤ 1)))
  have h4 := exs_nd gr (exsCk wh ((sosCk true fro (itsCk items s)).req (decide (wh.length ≤ 1))))
  have h5 := exs_nd hv ((exsCk gr (exsCk wh ((sosCk true fro (itsCk items s)).req (decide (wh.length ≤ 1))))).req (decide (hv.length ≤ 1)))
  have k1 : ((sosCk true fro (itsCk items s)).req (decide (wh.length ≤ 1))).nd = (sosCk true fro (itsCk items s)).nd := rfl
  have k2 : ((exsCk gr (exsCk wh ((sosCk true fro (itsCk items s)).req (decide (wh.length ≤ 1))))).req (decide (hv.length ≤ 1))).nd = (exsCk gr (exsCk wh ((sosCk true fro (itsCk items s)).req (decide (wh.length ≤ 1))))).nd := rfl
  have e := se_size d items fro wh gr hv
  unfold Se.ck
  omega
theorem It.nd : ∀ (x : It) (s : Ck), (x.ck s).nd ≤ s.nd + (Da.sizeR x.da : Int)
 | .mk star x nm, s => by
  have h := Ex.nd x ((s.more.opt nm).req (!star))
  have e := it_size star x nm
  have k : (s.more.opt nm).nd = s.nd + 1 := by rw [nd_opt]; rfl
  have k1 : ((s.more.opt nm).req (!star)).nd = (s.more.opt nm).nd := rfl
  have k2 : ((s.more.opt nm).req (decide (nm = []))).nd = (s.more.opt nm).nd := rfl
  unfold It.ck
  split <;> omega
theorem its_nd : ∀ (l : List It) (s : Ck), (itsCk l s).nd ≤ s.nd + (Da.sizeK (itsDa l) : Int)
 | [], s => by unfold itsCk; omega
 | x :: l, s => by
  have h1 := its_nd l (x.ck s)
  have h2 := It.nd x s
  have e : Da.sizeK (itsDa (x :: l)) = Da.sizeR x.da + Da.sizeK (itsDa l) := rfl
  unfold itsCk
  omega
theorem So.nd : ∀ (x : So) (s : Ck), (x.ck s).nd ≤ s.nd + (Da.sizeR x.da : Int)
 | .mk kind tb q al on, s => by
  have h1 := qus_nd q
  have h2 := exs_nd on
  have e := so_size kind tb q al on
  unfold So.ck
  refine Int.le_trans (h2 _) ?_
  refine Int.le_trans (Int.add_le_add_right (h1 _) _) ?_
  rw [nd_opt]
  have k : (if q = [] then s.more.nam tb else s.more.req (decide (tb = []) && (decide (q.length = 1) && decide (al ≠ [])))).nd = s.nd + 1 := by split <;> rfl
  rw [k]
  omega
theorem sos_nd : ∀ (l : List So) (f : Bool) (s : Ck), (sosCk f l s).nd ≤ s.nd + (Da.sizeK (sosDa l) : Int)
 | [], f, s => by unfold sosCk; omega
 | x :: l, f, s => by
  have h1 := sos_nd l false (x.ck (s.req (joinsOK f x.kind x.on.length)))
  have h2 := So.nd x (s.req (joinsOK f x.kind x.on.length))
  have h3 : (s.req (joinsOK f x.kind x.on.length)).nd = s.nd := rfl
  have e : Da.sizeK (sosDa (x :: l)) = Da.sizeR x.da + Da.sizeK (sosDa l) := rfl
  unfold sosCk
  omega
theorem Ob.nd : ∀ (x : Ob) (s : Ck), (x.ck s).nd ≤ s.nd + (Da.sizeR x.da : Int)
 | .mk x d, s => by
  have h := Ex.nd x s.more
  have e := ob_size x d
  have k : s.more.nd = s.nd + 1 := rfl
  unfold Ob.ck
  omega
theorem obs_nd : ∀ (l : List Ob) (s : Ck), (obsCk l s).nd ≤ s.nd + (Da.sizeK (obsDa l) : Int)
 | [], s => by unfold obsCk; omega
 | x :: l, s => by
  have h1 := obs_nd l (x.ck s)
  have h2 := Ob.nd x s
  have e : Da.sizeK (obsDa (x :: l)) = Da.sizeR x.da + Da.sizeK (obsDa l) := rfl
  unfold obsCk
  omega
end
theorem ck0_gd {x : Qu} (hz : Da.sizeR x.da ≤ 1073741823) : Gd ck0 (x.ck ck0) := by
 have h := Qu.nd x ck0
 have e : ck0.nd = 0 := rfl
 exact ⟨by decide, by decide, by decide, by omega⟩
theorem cellsB_bytes {l : List Int} (h : Rng l) : cellsB l = Lib.byteCells (l.map (fun x => UInt8.ofNat x.toNat)) := by
  unfold cellsB Lib.byteCells
  rw [List.map_map]
  refine List.map_congr_left (fun c hc => ?_)
  have := h c hc
  show Value.int .u8 c = Value.int .u8 ((UInt8.ofNat c.toNat).toNat : Int)
  congr 1
  simp
  omega
theorem fresh_wr {w : World} (o : Obj) (ho : o = .cells #[.pointer none, .slice none 0 0] 86) (o2 : Obj) (ho2 : o2 = .cells #[.func (.func 35) #[.pointer (some ⟨w.heap.size, 0, none⟩)] #[], .string (str []), .bool true] 89) :
  WrC ((w.alloc o).alloc o2) w.heap.size (w.heap.size + 1) w.heap.size none wr0 := by
 subst ho ho2
 have hb := hp_al (heap_alloc_new w (.cells #[.pointer none, .slice none 0 0] 86)) (.cells #[.func (.func 35) #[.pointer (some ⟨w.heap.size, 0, none⟩)] #[], .string (str []), .bool true] 89)
 have hx := heap_alloc_new (w.alloc (.cells #[.pointer none, .slice none 0 0] 86)) (.cells #[.func (.func 35) #[.pointer (some ⟨w.heap.size, 0, none⟩)] #[], .string (str []), .bool true] 89)
 rw [show (w.alloc (.cells #[.pointer none, .slice none 0 0] 86)).heap.size = w.heap.size + 1 from by simp] at hx
 exact ⟨hx, ⟨Nat.le_refl _, none, .slice none 0 0, .inl rfl, hb, ⟨rfl, .inl ⟨rfl, rfl⟩⟩, rfl, by simp⟩, by omega, by simp, by omega, (fun c h => by cases h), (fun c h => by cases h)⟩
set_option maxRecDepth 100000 in
set_option maxHeartbeats 6400000 in
theorem whole_any {w0 : World} (hT : Tabs w0) (x : Qu) (hz : Da.sizeR x.da ≤ 1073741823) (ox : x.OK) (a : Value) (ha : QuV w0 a x) (w : World) (hw : Below w0.heap.size w0 w) :
  Calls Tryz.prog 21 #[a, .func (.func 22) #[] #[], .func (.func 23) #[] #[]] w (fun e w' => e = .returned (.tuple #[.string (str x.text.1), .int .i64 x.text.2]) ∧ Below w.heap.size w w') := by
 have HV := hid ha
 obtain ⟨p0, p1, p2, p3, p4, p5, p6, rfl, h0, h1, h2, h3, h4, h5, h6⟩ := ha
 obtain ⟨a0, n0, k0, rfl⟩ := dis_slice h0
 obtain ⟨a1, n1, k1, rfl⟩ := dis_slice h1
 obtain ⟨a2, n2, k2, rfl⟩ := dis_slice h2
 obtain ⟨a3, n3, k3, rfl⟩ := dis_slice h3
 obtain ⟨a4, n4, k4, rfl⟩ := dis_slice h4
 obtain ⟨a5, n5, k5, rfl⟩ := dis_slice h5
 obtain ⟨a6, n6, k6, rfl⟩ := dis_slice h6
 clear h0 h1 h2 h3 h4 h5 h6
 have hw1 : w0.heap.size ≤ w.heap.size := hw.size
 have HC1 := hid (fun (u : World) (h : Below w0.heap.size w0 u ∧ CkC u (w.heap.size + 1) ck0) => (ck_all w0 (Da.sizeR x.da + 1)).2.1 x (by omega) hz ox (w.heap.size + 1) ck0 u _ (by omega) h.1 h.2 HV.out (ck0_gd hz))
 have HC2 := hid (fun (u : World) (h : CkC u (w.heap.size + 1) (x.ck ck0)) => first_any _ _ u h)
 have HS0 := hid (show Below w0.heap.size w0 ((w.alloc (.cells #[.int .i64 x.op, .slice a0 n0 k0, .bool x.sel.dist, .slice a1 n1 k1, .slice a2 n2 k2, .slice a3 n3 k3, .slice a4 n4 k4, .slice a5 n5 k5, .slice a6 n6 k6, .bool x.lim, .int .i64 x.n] 30)).alloc (.cells #[.int .i64 0, .int .i64 0, .bool false, .bool false, .bool false, .bool false] 81)) ∧ CkC ((w.alloc (.cells #[.int .i64 x.op, .slice a0 n0 k0, .bool x.sel.dist, .slice a1 n1 k1, .slice a2 n2 k2, .slice a3 n3 k3, .slice a4 n4 k4, .slice a5 n5 k5, .slice a6 n6 k6, .bool x.lim, .int .i64 x.n] 30)).alloc (.cells #[.int .i64 0, .int .i64 0, .bool false, .bool false, .bool false, .bool false] 81)) (w.heap.size + 1) ck0 from ⟨(hw.alloc hw.size _).alloc (by have := hw.size; simp; omega) _, by
  have h := heap_alloc_new (w.alloc (.cells #[.int .i64 x.op, .slice a0 n0 k0, .bool x.sel.dist, .slice a1 n1 k1, .slice a2 n2 k2, .slice a3 n3 k3, .slice a4 n4 k4, .slice a5 n5 k5, .slice a6 n6 k6, .bool x.lim, .int .i64 x.n] 30)) (.cells #[.int .i64 0, .int .i64 0, .bool false, .bool false, .bool false, .bool false] 81)
  rwa [show (w.alloc (.cells #[.int .i64 x.op, .slice a0 n0 k0, .bool x.sel.dist, .slice a1 n1 k1, .slice a2 n2 k2, .slice a3 n3 k3, .slice a4 n4 k4, .slice a5 n5 k5, .slice a6 n6 k6, .bool x.lim, .int .i64 x.n] 30)).heap.size = w.heap.size + 1 from by simp] at h⟩)
 have HX0 := hid (hp_al (heap_alloc_new w (.cells #[.int .i64 x.op, .slice a0 n0 k0, .bool x.sel.dist, .slice a1 n1 k1, .slice a2 n2 k2, .slice a3 n3 k3, .slice a4 n4 k4, .slice a5 n5 k5, .slice a6 n6 k6, .bool x.lim, .int .i64 x.n] 30)) (.cells #[.int .i64 0, .int .i64 0, .bool false, .bool false, .bool false, .bool false] 81))
 have HNE := hid (show w.heap.size ≠ w.heap.size + 1 by omega)
 have HBK := hid (fun (u : World) (h : Chg (fun k => k = w.heap.size + 1) ((w.alloc (.cells #[.int .i64 x.op, .slice a0 n0 k0, .bool x.sel.dist, .slice a1 n1 k1, .slice a2 n2 k2, .slice a3 n3 k3, .slice a4 n4 k4, .slice a5 n5 k5, .slice a6 n6 k6, .bool x.lim, .int .i64 x.n] 30)).alloc (.cells #[.int .i64 0, .int .i64 0, .bool false, .bool false, .bool false, .bool false] 81)) u) => (((Below.refl w.heap.size w).alloc (Nat.le_refl _) (.cells #[.int .i64 x.op, .slice a0 n0 k0, .bool x.sel.dist, .slice a1 n1 k1, .slice a2 n2 k2, .slice a3 n3 k3, .slice a4 n4 k4, .slice a5 n5 k5, .slice a6 n6 k6, .bool x.lim, .int .i64 x.n] 30)).alloc (by simp) (.cells #[.int .i64 0, .int .i64 0, .bool false, .bool false, .bool false, .bool false] 81)).trans (h.below (B := w.heap.size) (fun i hi => by omega) (by simp; omega)))
 by_cases hf : (x.ck ck0).first = 0
 ·have hG : x.Good := ⟨ck0, ok_of_first hf⟩
  have hlen : (x.wr wr0).tx.length ≤ 1099511627775 := by have := Qu.wr_add x ox wr0; have e : wr0.tx.length = 0 := rfl; omega
  have HWQ := hid (fun (u : World) (A : Nat) (hA : w0.heap.size ≤ A) (hb : Below w0.heap.size w0 u) (h : WrC u A (A + 1) A none wr0) => wquery_any w0 hT x hz ox hG _ HV.out A (A + 1) A none wr0 u hA hb h hlen)
  have HL := hid (fun (u : World) (A : Nat) (g : Option Nat) (h : WrC u A (A + 1) A g (x.wr wr0)) => (by
   have k := Tryz.Builder_Len A A (cellsB (x.wr wr0).tx) u h.bld.is
   rwa [show (cellsB (x.wr wr0).tx).length = (x.wr wr0).tx.length from by simp [cellsB]] at k : Calls Tryz.prog 36 #[.pointer (some ⟨A, 0, none⟩)] u fun e w' => e = .returned (.int .i64 (x.wr wr0).tx.length) ∧ w' = u))
  have HST := hid (fun (u : World) (A : Nat) (g : Option Nat) (h : WrC u A (A + 1) A g (x.wr wr0)) => (by
   have k := h.bld.is
   rw [cellsB_bytes h.rt] at k
   exact Tryz.Builder_String_any A A _ u k (by obtain ⟨-, p, v, -, hb, -⟩ := h.bld; have := bx_lt hb; omega) : Calls Tryz.prog 37 #[.pointer (some ⟨A, 0, none⟩)] u fun e w' => e = .returned (.string (str (x.wr wr0).tx)) ∧ Below A u w'))
  rw [hf] at HC2
  by_cases hm : 4096 < (x.wr wr0).tx.length
  ·have ht : x.text = ([], 4) := by unfold Qu.text; rw [if_neg (by simp [hf]), if_pos hm]
   rw [ht]
   have d1 : decide ((4096 : Int) < ((x.wr wr0).tx.length : Int)) = true := decide_eq_true (by omega)
   generalize x.wr wr0 = sw at *
   generalize x.ck ck0 = s1 at *
   clear ht HV hT hz ox hG hlen HST hf
   go_enter Tryz.func21, Tryz.ntmps21
   go_wp2_with (first
    | (go_at_call 22; refine (HC1.out _ HS0.out).mono ?_; clear HC1; rintro e w1 ⟨rfl, hc, hb⟩; have HS1 := hid hc; have HB1 := hid (HBK.out w1 hb); have HX1 := hid (chg1_blk hb HX0.out HNE.out); clear hb hc)
    | (go_at_call 34; refine (HC2.out _ HS1.out).mono ?_; clear HC2; rintro e w2 ⟨rfl, hb⟩; have HB2 := hid (HB1.out.trans (hb.mono HB1.out.size)); have HA := hid (Nat.le_trans hw1 HB2.out.size); have hlt := bx_lt ((hb.block w.heap.size (bx_lt HX1.out)).trans HX1.out); have HBL := hid (fun (o1 o2 : Obj) => ((hw.trans (HB2.out.mono hw1)).alloc HA.out o1).alloc (by have := HA.out; simp; omega) o2); have hx := (hb.block w.heap.size (bx_lt HX1.out)).trans HX1.out; have y2_0 := cell_at hx 0 rfl; have y2_1 := cell_at hx 1 rfl; have y2_2 := cell_at hx 2 rfl; have y2_3 := cell_at hx 3 rfl; have y2_4 := cell_at hx 4 rfl; have y2_5 := cell_at hx 5 rfl; have y2_6 := cell_at hx 6 rfl; have y2_7 := cell_at hx 7 rfl; have y2_8 := cell_at hx 8 rfl; have y2_9 := cell_at hx 9 rfl; have y2_10 := cell_at hx 10 rfl; clear hx; clear hb)
    | (go_at_call 23; refine (HWQ.out _ _ HA.out (HBL.out _ _) (fresh_wr _ rfl _ rfl)).mono ?_; clear HWQ; rintro e w3 ⟨rfl, g, hc, hk⟩; have HS3 := hid hc; have HB3 := hid (((HB2.out.alloc HB2.out.size _).alloc (by have := HB2.out.size; simp; omega) _).trans (hk.chg.below (B := w.heap.size) (fun i hi => by have := HB2.out.size; rcases hi with rfl | rfl | hi <;> first | omega | cases hi) (by have := HB2.out.size; simp; omega))); clear hc hk)
    | (go_at_call 36; refine (HL.out _ _ _ HS3.out).mono ?_; clear HL; rintro e w4 ⟨rfl, rfl⟩))
   go_ret2
   exact ⟨rfl, HB3.out⟩
  ·have ht : x.text = ((x.wr wr0).tx, 0) := by unfold Qu.text; rw [if_neg (by simp [hf]), if_neg hm]
   rw [ht]
   have d1 : decide ((4096 : Int) < ((x.wr wr0).tx.length : Int)) = false := decide_eq_false (by omega)
   generalize x.wr wr0 = sw at *
   generalize x.ck ck0 = s1 at *
   clear ht HV hT hz ox hG hlen hf
   go_enter Tryz.func21, Tryz.ntmps21
   go_wp2_with (first
    | (go_at_call 22; refine (HC1.out _ HS0.out).mono ?_; clear HC1; rintro e w1 ⟨rfl, hc, hb⟩; have HS1 := hid hc; have HB1 := hid (HBK.out w1 hb); have HX1 := hid (chg1_blk hb HX0.out HNE.out); clear hb hc)
    | (go_at_call 34; refine (HC2.out _ HS1.out).mono ?_; clear HC2; rintro e w2 ⟨rfl, hb⟩; have HB2 := hid (HB1.out.trans (hb.mono HB1.out.size)); have HA := hid (Nat.le_trans hw1 HB2.out.size); have hlt := bx_lt ((hb.block w.heap.size (bx_lt HX1.out)).trans HX1.out); have HBL := hid (fun (o1 o2 : Obj) => ((hw.trans (HB2.out.mono hw1)).alloc HA.out o1).alloc (by have := HA.out; simp; omega) o2); have hx := (hb.block w.heap.size (bx_lt HX1.out)).trans HX1.out; have y2_0 := cell_at hx 0 rfl; have y2_1 := cell_at hx 1 rfl; have y2_2 := cell_at hx 2 rfl; have y2_3 := cell_at hx 3 rfl; have y2_4 := cell_at hx 4 rfl; have y2_5 := cell_at hx 5 rfl; have y2_6 := cell_at hx 6 rfl; have y2_7 := cell_at hx 7 rfl; have y2_8 := cell_at hx 8 rfl; have y2_9 := cell_at hx 9 rfl; have y2_10 := cell_at hx 10 rfl; clear hx; clear hb)
    | (go_at_call 23; refine (HWQ.out _ _ HA.out (HBL.out _ _) (fresh_wr _ rfl _ rfl)).mono ?_; clear HWQ; rintro e w3 ⟨rfl, g, hc, hk⟩; have HS3 := hid hc; have HB3 := hid (((HB2.out.alloc HB2.out.size _).alloc (by have := HB2.out.size; simp; omega) _).trans (hk.chg.below (B := w.heap.size) (fun i hi => by have := HB2.out.size; rcases hi with rfl | rfl | hi <;> first | omega | cases hi) (by have := HB2.out.size; simp; omega))); clear hc hk)
    | (go_at_call 36; refine (HL.out _ _ _ HS3.out).mono ?_; clear HL; rintro e w4 ⟨rfl, rfl⟩)
    | (go_at_call 37; refine (HST.out _ _ _ HS3.out).mono ?_; clear HST; rintro e w5 ⟨rfl, hb⟩; have HB5 := hid (HB3.out.trans (hb.mono HB2.out.size)); clear hb))
   go_ret2
   exact ⟨rfl, HB5.out⟩
 ·have ht : x.text = ([], (x.ck ck0).first) := by unfold Qu.text; rw [if_pos hf]
  rw [ht]
  generalize (x.ck ck0).first = f at *
  have hne : (f != 0) = true := by simp [hf]
  generalize x.ck ck0 = s1 at *
  clear ht hw hw1 HV hT hz ox
  go_enter Tryz.func21, Tryz.ntmps21
  go_wp2_with (first
   | (go_at_call 22; refine (HC1.out _ HS0.out).mono ?_; clear HC1; rintro e w1 ⟨rfl, hc, hb⟩; have HS1 := hid hc; have HB1 := hid (HBK.out w1 hb); have HX1 := hid (chg1_blk hb HX0.out HNE.out); clear hb hc)
   | (go_at_call 34; refine (HC2.out _ HS1.out).mono ?_; clear HC2; rintro e w2 ⟨rfl, hb⟩; have HB2 := hid (HB1.out.trans (hb.mono HB1.out.size)); have hx := (hb.block w.heap.size (bx_lt HX1.out)).trans HX1.out; have y2_0 := cell_at hx 0 rfl; have y2_1 := cell_at hx 1 rfl; have y2_2 := cell_at hx 2 rfl; have y2_3 := cell_at hx 3 rfl; have y2_4 := cell_at hx 4 rfl; have y2_5 := cell_at hx 5 rfl; have y2_6 := cell_at hx 6 rfl; have y2_7 := cell_at hx 7 rfl; have y2_8 := cell_at hx 8 rfl; have y2_9 := cell_at hx 9 rfl; have y2_10 := cell_at hx 10 rfl; clear hx; clear hb))
  go_ret2
  exact ⟨rfl, HB2.out⟩
end Go.Proofs.YtegkbagnbnoopaaGreatDoor
/- print.Query and print.CheckQuery at any query: the plain function Qu.text -/
namespace Go.Proofs.YtegkbagnbnoopaaGreatDoor
open Go.ChangeShapes Go.WideShapes Go.ChangeAt Go.RowKit Go.Deep Go.Shelf
open Go.Lib (hid)
set_option maxRecDepth 100000 in
set_option maxHeartbeats 3200000 in
theorem query_any {w0 : World} (hT : Tabs w0) (x : Qu) (hz : Da.sizeR x.da ≤ 1073741823) (ox : x.OK) (a : Value) (ha : QuV w0 a x) (w : World) (hw : Below w0.heap.size w0 w) :
  Calls Tryz.prog 9 #[a] w (fun e w' => e = .returned (.tuple #[.string (str x.text.1), .int .i64 x.text.2]) ∧ Below w.heap.size w w') := by
 have HV := hid ha
 obtain ⟨p0, p1, p2, p3, p4, p5, p6, rfl, h0, h1, h2, h3, h4, h5, h6⟩ := ha
 obtain ⟨a0, n0, k0, rfl⟩ := dis_slice h0
 obtain ⟨a1, n1, k1, rfl⟩ := dis_slice h1
 obtain ⟨a2, n2, k2, rfl⟩ := dis_slice h2
 obtain ⟨a3, n3, k3, rfl⟩ := dis_slice h3
 obtain ⟨a4, n4, k4, rfl⟩ := dis_slice h4
 obtain ⟨a5, n5, k5, rfl⟩ := dis_slice h5
 obtain ⟨a6, n6, k6, rfl⟩ := dis_slice h6
 clear h0 h1 h2 h3 h4 h5 h6
 have HC := hid (fun (o : Obj) => whole_any hT x hz ox _ HV.out (w.alloc o) (hw.alloc hw.size o))
 have HB := hid (fun (o : Obj) => (Below.refl w.heap.size w).alloc (Nat.le_refl _) o)
 have HZ := hid (fun (o : Obj) => (show w.heap.size ≤ (w.alloc o).heap.size by simp))
 clear hT hz ox HV hw
 generalize x.text = tx at *
 obtain ⟨tx, er⟩ := tx
 go_enter Tryz.func9, Tryz.ntmps9
 go_wp2_with (go_at_call 21; refine (HC.out _).mono ?_; clear HC; rintro e w1 ⟨rfl, hb⟩; have HB1 := hid ((HB.out _).trans (hb.mono (HZ.out _))); clear hb)
 go_ret2
 exact ⟨rfl, HB1.out⟩
set_option maxRecDepth 100000 in
set_option maxHeartbeats 3200000 in
theorem checkQuery_any {w0 : World} (hT : Tabs w0) (x : Qu) (hz : Da.sizeR x.da ≤ 1073741823) (ox : x.OK) (a : Value) (ha : QuV w0 a x) (w : World) (hw : Below w0.heap.size w0 w) :
  Calls Tryz.prog 11 #[a] w (fun e w' => e = .returned (.int .i64 x.text.2) ∧ Below w.heap.size w w') := by
 have HV := hid ha
 obtain ⟨p0, p1, p2, p3, p4, p5, p6, rfl, h0, h1, h2, h3, h4, h5, h6⟩ := ha
 obtain ⟨a0, n0, k0, rfl⟩ := dis_slice h0
 obtain ⟨a1, n1, k1, rfl⟩ := dis_slice h1
 obtain ⟨a2, n2, k2, rfl⟩ := dis_slice h2
 obtain ⟨a3, n3, k3, rfl⟩ := dis_slice h3
 obtain ⟨a4, n4, k4, rfl⟩ := dis_slice h4
 obtain ⟨a5, n5, k5, rfl⟩ := dis_slice h5
 obtain ⟨a6, n6, k6, rfl⟩ := dis_slice h6
 clear h0 h1 h2 h3 h4 h5 h6
 have HC := hid (fun (o : Obj) => query_any hT x hz ox _ HV.out (w.alloc o) (hw.alloc hw.size o))
 have HB := hid (fun (o : Obj) => (Below.refl w.heap.size w).alloc (Nat.le_refl _) o)
 have HZ := hid (fun (o : Obj) => (show w.heap.size ≤ (w.alloc o).heap.size by simp))
 clear hT hz ox HV hw
 generalize x.text = tx at *
 obtain ⟨tx, er⟩ := tx
 go_enter Tryz.func11, Tryz.ntmps11
 go_wp2_with (go_at_call 9; refine (HC.out _).mono ?_; clear HC; rintro e w1 ⟨rfl, hb⟩; have HB1 := hid ((HB.out _).trans (hb.mono (HZ.out _))); clear hb)
 go_ret
 exact ⟨rfl, HB1.out⟩
end Go.Proofs.YtegkbagnbnoopaaGreatDoor
