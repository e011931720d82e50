import Derived.Test.YtboadlhpanpljaaDoorJoRf2
import Derived.WalkKit
import Derived.ProofKit
import Derived.BigQuiet
import Derived.Deep.QuietTactic
import Derived.WalkSpells
import Derived.WalkLawsBesides
import Derived.Lib.Hide
import Derived.Deep.MidRow
import Derived.Deep.RegionLaw
import Derived.BigRegion
import Derived.Laws.AppendOwnNone
import Derived.Deep.DeepMust
import Derived.Deep.AppendLies
import Derived.RegionTactic
import Derived.Deep.WholeRow
import Derived.BigFrame
import Derived.Deep.RegionWith
import Derived.Deep.RegionHeld3
import Derived.Maps.RangeWalk
import Derived.Laws.CopyOwn
import Derived.StillTailTactics
namespace Go.Proofs.YtboadlhpanpljaaDoor
open Go.RowKit
theorem split_rng {l : List Int} {ps : List (List Int)} (hr : Rng l) (h : splitL l = some ps) : ∀ p ∈ ps, Rng p := by
  intro p hp x hx
  apply hr
  rw [← splitL_back hr h, joined]
  refine List.mem_append_right _ ?_
  simp only [joinB, List.mem_flatMap]
  exact ⟨p, hp, List.mem_append_right _ hx⟩
def parts (l : List Int) : List (List Int) := (splitL l).getD []
theorem parts_rng {l : List Int} (hr : Rng l) : ∀ p ∈ parts l, Rng p := by
  intro p hp
  unfold parts at hp
  cases h : splitL l with
  | none => rw [h] at hp; simp at hp
  | some ps => rw [h] at hp; exact split_rng hr h p hp
theorem parts_jlen {l : List Int} (hr : Rng l) : jlen (parts l) ≤ l.length := by
  unfold parts
  cases h : splitL l with
  | none => simp [jlen]
  | some ps =>
    have h1 := splitL_back hr h
    have h2 := joined_len ps
    rw [h1] at h2
    simp only [Option.getD_some]
    omega
theorem split_all (v : Value) (cs : List Int) (w : World) (hv : Bs w v cs) (hr : Rng cs) (hl : cs.length ≤ 1099511627776) :
    Calls Tryd.prog 11 #[v] w fun e w' => Below w.heap.size w w' ∧ ∃ vl, e = .returned (.tuple #[vl, .bool (splitL cs).isSome]) ∧ OwnPs 22 5 w' w.heap.size vl (parts cs) := by
  obtain ⟨ca, cc, rfl, hcc, hcell⟩ := hv
  by_cases h8 : cs.length < 8
  · have hn : splitL cs = none := by rw [splitL, if_pos h8]
    refine (split_short ca cs.length cc w h8).mono ?_
    rintro e w' ⟨rfl, rfl⟩
    unfold parts
    rw [hn]
    exact ⟨Below.refl _ _, _, rfl, OwnPs.nil _ _ _ _⟩
  · obtain ⟨cb, co, rfl, hcb, hcc2⟩ := hcell (by omega)
    refine (split_any cb co cs.length cc cs w rfl (by omega) hcc.1 hr hl hcb hcc2).mono ?_
    rintro e w' ⟨hb, hp⟩
    unfold parts
    cases hsp : splitL cs with
    | none => rw [hsp] at hp; exact ⟨hb, _, hp, OwnPs.nil _ _ _ _⟩
    | some ms => rw [hsp] at hp; obtain ⟨vm, he, hm⟩ := hp; exact ⟨hb, vm, he, hm⟩
theorem refSplit_all (v : Value) (cs : List Int) (w : World) (hv : Bs w v cs) (hr : Rng cs) (hl : cs.length ≤ 1099511627776) :
    Calls Tryd.prog 12 #[v] w fun e w' => Below w.heap.size w w' ∧ ∃ vl, e = .returned (.tuple #[vl, .bool (splitL cs).isSome]) ∧ OwnPs 22 5 w' w.heap.size vl (parts cs) := by
  obtain ⟨ca, cc, rfl, hcc, hcell⟩ := hv
  by_cases h8 : cs.length < 8
  · have hn : splitL cs = none := by rw [splitL, if_pos h8]
    refine (refSplit_short ca cs.length cc w h8).mono ?_
    rintro e w' ⟨hb, rfl⟩
    unfold parts
    rw [hn]
    exact ⟨hb, _, rfl, OwnPs.nil _ _ _ _⟩
  · obtain ⟨cb, co, rfl, hcb, hcc2⟩ := hcell (by omega)
    refine (refSplit_any cb co cs.length cc cs w rfl (by omega) hcc.1 hr hl hcb hcc2).mono ?_
    rintro e w' ⟨hb, hp⟩
    unfold parts
    cases hsp : splitL cs with
    | none => rw [hsp] at hp; exact ⟨hb, _, hp, OwnPs.nil _ _ _ _⟩
    | some ms => rw [hsp] at hp; obtain ⟨vm, he, hm⟩ := hp; exact ⟨hb, vm, he, hm⟩
theorem ownsRow_same {w w' : World} {B e size n : Nat} {v : Value} {xs : List Value} (h : w.ownsRow B e size v n xs) (hk : ∀ q, B ≤ q → w'.heap[q]? = w.heap[q]?) : w'.ownsRow B e size v n xs :=
  ⟨h.1, h.2.imp id (fun ⟨g, cap, cur, a, b, c, d⟩ => ⟨g, cap, cur, a, b, (hk g b).trans c, d⟩)⟩
theorem OwnPs.same {T E : TypeId} {w w' : World} {B : Nat} {v : Value} {ps : List (List Int)} (h : OwnPs T E w B v ps) (hk : ∀ q, B ≤ q → w'.heap[q]? = w.heap[q]?) : OwnPs T E w' B v ps := by
  obtain ⟨xs, h1, h2⟩ := h
  exact ⟨xs, ownsRow_same h1 hk, fun i hi => by obtain ⟨x, a, b, c⟩ := h2 i hi; exact ⟨x, a, ownsRow_same b hk, c⟩⟩
/-- a part that may be written: its cells are bytes, whichever -/
def PartOK (B E : Nat) (w : World) (x : Value) (n : Nat) : Prop :=
  (n = 0 ∧ ∃ a c, x = .slice a 0 c) ∨ ∃ g cap cur, x = .slice (some ⟨g, 0, none⟩) n cap ∧ B ≤ g ∧ g < E ∧ w.heap[g]? = some (.cells cur 5 (0, 0)) ∧ n ≤ cap ∧ cur.size = cap ∧ ∀ j, j < n → ∃ z, cur[j]? = some (.int .u8 z)
theorem PartOK.of_own {B n : Nat} {w : World} {x : Value} {p : List Int} (h : w.ownsRow B 5 1 x n (p.map (Value.int .u8))) : PartOK B w.heap.size w x n := by
  have hl := h.1
  rcases h.2 with ⟨rfl, h0⟩ | ⟨g, cap, cur, rfl, hg, hh, hle, _, hsz, htk⟩
  · exact .inl ⟨h0, _, _, rfl⟩
  · refine .inr ⟨g, cap, cur, rfl, hg, (h.lt g rfl).2, hh, hle, by omega, fun j hj => ⟨p[j]?.getD 0, ?_⟩⟩
    rw [Nat.mul_one] at htk hl
    have h1 : (cur.toList.take n)[j]? = some (.int .u8 (p[j]?.getD 0)) := by
      rw [htk, List.getElem?_map, List.getElem?_eq_getElem (by rw [List.length_map] at hl; omega)]; rfl
    rw [List.getElem?_take_of_lt hj] at h1
    simpa using h1
theorem PartOK.setCell {B E n : Nat} {w : World} {x : Value} (h : PartOK B E w x n) (g k : Nat) (z : Int) : PartOK B E (w.setCell ⟨g, k, none⟩ (.int .u8 z)) x n := by
  rcases h with h | ⟨g', cap, cur, rfl, h1, h2, h3, h4, h5, h6⟩
  · exact .inl h
  · by_cases he : g' = g
    · subst he
      refine .inr ⟨g', cap, cur.setIfInBounds k (.int .u8 z), rfl, h1, h2, heap_setCell_same w g' k cur 5 _ h3, h4, by simpa using h5, fun j hj => ?_⟩
      obtain ⟨y, hy⟩ := h6 j hj
      rw [Array.getElem?_setIfInBounds]
      by_cases hkj : k = j
      · subst hkj
        rw [if_pos rfl, if_pos (by omega)]
        exact ⟨z, rfl⟩
      · rw [if_neg hkj]; exact ⟨y, hy⟩
    · exact .inr ⟨g', cap, cur, rfl, h1, h2, (heap_setCell_other w ⟨g, k, none⟩ g' _ he).trans h3, h4, h5, h6⟩
/-- what stays while the parts are written -/
structure Mut (B E : Nat) (wS wx : World) (vl : Value) (ms : List (List Int)) (xs : List Value) : Prop where
  os : wx.os = wS.os
  tape : wx.tape = wS.tape
  output : wx.output = wS.output
  size : wS.heap.size ≤ wx.heap.size
  keep : ∀ q, (q < B ∨ E ≤ q) → wx.heap[q]? = wS.heap[q]?
  top : wx.ownsRow B 22 1 vl ms.length xs
  parts : ∀ i, i < ms.length → ∃ x, xs[i]? = some x ∧ PartOK B E wx x (ms[i]?.getD []).length ∧ (x.ownBlock = none ∨ x.ownBlock ≠ vl.ownBlock)
theorem Mut.store {B E : Nat} {wS wx : World} {vl : Value} {ms : List (List Int)} {xs : List Value} (h : Mut B E wS wx vl ms xs) {g : Nat} (k : Nat) (z : Int) (hg : B ≤ g ∧ g < E) (hne : vl.ownBlock ≠ some g) :
    Mut B E wS (wx.setCell ⟨g, k, none⟩ (.int .u8 z)) vl ms xs :=
  ⟨h.os, h.tape, h.output, by simpa using h.size, fun q hq => (heap_setCell_other wx ⟨g, k, none⟩ q _ (by intro e; simp at e; omega)).trans (h.keep q hq),
    ownsRow_setCell_other h.top hne _, fun i hi => by obtain ⟨x, a, b, c⟩ := h.parts i hi; exact ⟨x, a, b.setCell g k z, c⟩⟩
end Go.Proofs.YtboadlhpanpljaaDoor
