import Derived.Test.YtaibminomehppaaDkx
import Derived.Laws.MakeOwn
import Derived.WalkKit
import Derived.ProofKit
import Derived.BigQuiet
import Derived.Deep.QuietTactic
import Derived.WalkSpells
import Derived.WalkLawsBesides
import Derived.Lib.Hide
import Derived.Deep.MidRow
import Derived.Deep.RegionLaw
import Derived.BigRegion
import Derived.Laws.AppendOwnNone
import Derived.Deep.DeepMust
import Derived.Deep.AppendLies
import Derived.RegionTactic
import Derived.Deep.WholeRow
import Derived.BigFrame
import Derived.Deep.RegionWith
import Derived.Deep.RegionHeld3
import Derived.Maps.RangeWalk
import Derived.Laws.CopyOwn
import Derived.StillTailTactics
namespace Go.Proofs.Ytaibminomehppaa
open Go.RowKit
/-- a slice of blocks -/
def BkC (w : World) (B : Nat) (g : Nat) (v : Value) (bs : List (List Int)) : Prop := (∃ cap, v = .slice (some ⟨g, 0, none⟩) bs.length cap) ∧ B ≤ g ∧ g < w.heap.size ∧ (∀ (i : Nat) (l : List Int), bs[i]? = some l → l.length = 256 ∧ w.rangeAt g (i * 256) (l.map (Value.int .u8))) ∧ w.there g 0 (bs.length * 256)
theorem BkC.of {w w' : World} {B g : Nat} {v : Value} {bs : List (List Int)} (h : BkC w B g v bs) (he : w'.heap[g]? = w.heap[g]?) (hs : g < w'.heap.size) : BkC w' B g v bs := by
  obtain ⟨h1, h2, h3, h4, h5⟩ := h
  refine ⟨h1, h2, hs, fun i l hl => ⟨(h4 i l hl).1, fun j v hv => (World.cell?_of_block (a := ⟨g, i * 256 + j, none⟩) he).trans ((h4 i l hl).2 j v hv)⟩, fun j hj => ?_⟩
  rw [World.cell?_of_block (a := ⟨g, 0 + j, none⟩) he, World.frozen?_of_block (a := ⟨g, 0 + j, none⟩) he]
  exact h5 j hj
theorem BkC.set {w : World} {B g : Nat} {v : Value} {bs : List (List Int)} (h : BkC w B g v bs) (i : Nat) (hi : i < bs.length) (l : List Int) (hl : l.length = 256) : BkC (w.setCells g (i * 256) (l.map (Value.int .u8))) B g v (bs.set i l) := by
  obtain ⟨h1, h2, h3, h4, h5⟩ := h
  have hmul : i * 256 + 256 ≤ bs.length * 256 := by omega
  have hth : w.there g (i * 256) (l.map (Value.int .u8)).length := fun j hj => by
    rw [List.length_map, hl] at hj
    have := h5 (i * 256 + j) (by omega)
    rwa [Nat.zero_add] at this
  refine ⟨by simpa using h1, h2, by rw [setCells_size]; exact h3, fun k m hk => ?_, fun j hj => ?_⟩
  · rw [List.getElem?_set] at hk
    by_cases hik : i = k
    · subst hik
      rw [if_pos rfl, if_pos hi] at hk
      injection hk with hk
      subst hk
      exact ⟨hl, World.rangeAt_setCells_same w g (i * 256) _ hth⟩
    · rw [if_neg hik] at hk
      obtain ⟨a1, a2⟩ := h4 k m hk
      refine ⟨a1, fun j v hv => ?_⟩
      have hj : j < 256 := by have := (List.getElem?_eq_some_iff.1 hv).1; simpa [a1] using this
      rw [World.cell?_setCells_out _ _ _ _ _ (fun _ _ => by
        show k * 256 + j < i * 256 ∨ i * 256 + _ ≤ k * 256 + j
        rw [List.length_map, hl]; omega)]
      exact a2 j v hv
  · rw [List.length_set] at hj
    have := h5 j hj
    rw [World.frozen?_setCells]
    refine ⟨?_, this.2⟩
    by_cases hin : i * 256 ≤ j ∧ j < i * 256 + 256
    · obtain ⟨k, rfl⟩ : ∃ k, j = i * 256 + k := ⟨j - i * 256, by omega⟩
      rw [Nat.zero_add, World.cell?_setCells_in _ _ _ _ (fun q hq => (hth q hq).1) k (by simp [hl]; omega)]
      rfl
    · rw [World.cell?_setCells_out _ _ _ _ _ (fun _ _ => by
        show 0 + j < i * 256 ∨ i * 256 + _ ≤ 0 + j
        rw [List.length_map, hl]; omega)]
      exact this.1
def flatB (bs : List (List Int)) : List Value := bs.flatMap fun l => l.map (Value.int .u8)
theorem flatB_len : ∀ (bs : List (List Int)), (∀ l ∈ bs, l.length = 256) → (flatB bs).length = bs.length * 256
  | [], _ => rfl
  | l :: bs, h => by
    have ih := flatB_len bs (fun m hm => h m (List.mem_cons_of_mem _ hm))
    have h1 := h l List.mem_cons_self
    show (l.map (Value.int .u8) ++ flatB bs).length = _
    rw [List.length_append, List.length_map, h1, ih, List.length_cons]
    omega
theorem flatB_get : ∀ (bs : List (List Int)), (∀ l ∈ bs, l.length = 256) → ∀ (i : Nat) (l : List Int), bs[i]? = some l → ∀ (j : Nat) (v : Value), (l.map (Value.int .u8))[j]? = some v → (flatB bs)[i * 256 + j]? = some v
  | [], _, i, l, h, _, _, _ => by simp at h
  | m :: bs, hb, 0, l, h, j, v, hv => by
    simp only [List.getElem?_cons_zero, Option.some.injEq] at h
    subst h
    show (m.map (Value.int .u8) ++ flatB bs)[0 * 256 + j]? = _
    rw [Nat.zero_mul, Nat.zero_add, List.getElem?_append_left (List.getElem?_eq_some_iff.1 hv).1]
    exact hv
  | m :: bs, hb, i + 1, l, h, j, v, hv => by
    have h1 := hb m List.mem_cons_self
    have ih := flatB_get bs (fun k hk => hb k (List.mem_cons_of_mem _ hk)) i l (by simpa using h) j v hv
    show (m.map (Value.int .u8) ++ flatB bs)[(i + 1) * 256 + j]? = _
    rw [List.getElem?_append_right (by simp [h1]; omega)]
    rw [List.length_map, h1, show (i + 1) * 256 + j - 256 = i * 256 + j by omega]
    exact ih
/-- where the k-th cell of the blocks lies -/
theorem flatB_at (bs : List (List Int)) (hb : ∀ l ∈ bs, l.length = 256) (k : Nat) (v : Value) (h : (flatB bs)[k]? = some v) : ∃ i j l, k = i * 256 + j ∧ bs[i]? = some l ∧ (l.map (Value.int .u8))[j]? = some v := by
  have hk := (List.getElem?_eq_some_iff.1 h).1
  rw [flatB_len bs hb] at hk
  have hi : k / 256 < bs.length := by omega
  have hl : bs[k / 256]? = some (bs[k / 256]'hi) := List.getElem?_eq_getElem hi
  have hl2 := hb _ (List.mem_of_getElem? hl)
  refine ⟨k / 256, k % 256, _, by omega, hl, ?_⟩
  have hj : k % 256 < ((bs[k / 256]'hi).map (Value.int .u8)).length := by rw [List.length_map, hl2]; omega
  have h2 := flatB_get bs hb (k / 256) _ hl (k % 256) _ (List.getElem?_eq_getElem hj)
  rw [show k / 256 * 256 + k % 256 = k by omega, h] at h2
  rw [List.getElem?_eq_getElem hj, h2]
theorem BkC.cells {w : World} {B g : Nat} {v : Value} {bs : List (List Int)} (h : BkC w B g v bs) : ∀ k u, (flatB bs)[k]? = some u → w.cell? ((⟨g, 0, none⟩ : Addr).add k) = some u := by
  intro k u hu
  obtain ⟨_, _, _, h4, _⟩ := h
  obtain ⟨i, j, l, rfl, hl, hv⟩ := flatB_at bs (fun l hl => by obtain ⟨i, hi⟩ := List.mem_iff_getElem?.1 hl; exact (h4 i l hi).1) k u hu
  rw [Addr.add_mid, Nat.zero_add]
  exact (h4 i l hl).2 j u hv
theorem BkC.owned {w : World} {B : Nat} {v : Value} {bs : List (List Int)} (hb : ∀ l ∈ bs, l.length = 256) (h0 : 0 < bs.length) (h : w.ownsRow B 52 256 v bs.length (flatB bs)) : ∃ g, BkC w B g v bs := by
  rcases h.2 with ⟨_, e⟩ | ⟨g, cap, cur, rfl, hbg, hg, hn, hc, hcs, ht⟩
  · omega
  · refine ⟨g, ⟨cap, rfl⟩, hbg, (Array.getElem?_eq_some_iff.1 hg).1, fun i l hl => ⟨hb l (List.mem_of_getElem? hl), fun j v hv => ?_⟩, fun j hj => ?_⟩
    · have := h.cells (g := g) rfl (i * 256 + j) v (flatB_get bs hb i l hl j v hv)
      rwa [Addr.add_mid, Nat.zero_add] at this
    · refine ⟨?_, frozen_of_row w _ _ _ _ hg⟩
      have hfl := flatB_len bs hb
      have hj2 : j < (flatB bs).length := by omega
      have := h.cells (g := g) rfl j _ (List.getElem?_eq_getElem hj2)
      rw [Addr.add_mid] at this
      rw [this]; rfl
end Go.Proofs.Ytaibminomehppaa
