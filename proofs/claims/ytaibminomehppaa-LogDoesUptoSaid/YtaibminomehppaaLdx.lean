import Derived.Test.YtaibminomehppaaLogR
import Derived.WalkKit
import Derived.ProofKit
import Derived.BigQuiet
import Derived.Deep.QuietTactic
import Derived.WalkSpells
import Derived.WalkLawsBesides
import Derived.Lib.Hide
import Derived.Deep.MidRow
import Derived.Deep.RegionLaw
import Derived.BigRegion
import Derived.Laws.AppendOwnNone
import Derived.Deep.DeepMust
import Derived.Deep.AppendLies
import Derived.RegionTactic
import Derived.Deep.WholeRow
import Derived.BigFrame
import Derived.Deep.RegionWith
import Derived.Deep.RegionHeld3
import Derived.Maps.RangeWalk
import Derived.Laws.CopyOwn
import Derived.StillTailTactics
namespace Go.Proofs.Ytaibminomehppaa
open Go.RowKit
theorem encs_ge : ∀ (rs : List (List Int)), 8 * rs.length ≤ (encs rs).length
  | [] => Nat.le_refl _
  | r :: rs => by
    have := encs_ge rs
    rw [encs_cons]
    simp [be8_len]
    omega
theorem OwnPs.base {T E : TypeId} {w : World} {B B' : Nat} {v : Value} {ps : List (List Int)} (h : OwnPs T E w B' v ps) (hB : B ≤ B') : OwnPs T E w B v ps := by
  obtain ⟨xs, h1, h2⟩ := h
  exact ⟨xs, own_base' h1 hB, fun i hi => by
    obtain ⟨x, hx, ho, hn⟩ := h2 i hi
    exact ⟨x, hx, own_base' ho hB, hn⟩⟩
theorem zeros_mb : zeros 256 = mb 0 0 0 := by
  have h8 : be8 0 = zeros 8 := by decide
  have hz : ∀ m n, zeros m ++ zeros n = zeros (m + n) := fun m n => by simp [zeros]
  unfold mb mnums
  simp only [List.flatMap_cons, List.flatMap_nil, List.append_nil, h8, hz]
theorem format_exact (f : Int → List Int) (fi : Int) : fputs f (fw fi) (fi + (1 % 2 : Nat)) = mb 1 1 0 ∧ fputs f (fw fi) (fi + ((1 + 1) % 2 : Nat)) = mb 0 0 0 := by
  have e1 : ((1 % 2 : Nat) : Int) = 1 := rfl
  have e2 : (((1 + 1) % 2 : Nat) : Int) = 0 := rfl
  rw [e1, e2, Int.add_zero]
  refine ⟨?_, ?_⟩
  · show fput (fput f (fi + 1) (mb 1 1 0)) fi (zeros 256) (fi + 1) = _
    rw [fput_ne _ _ _ _ (by omega), fput_at]
  · show fput (fput f (fi + 1) (mb 1 1 0)) fi (zeros 256) fi = _
    rw [fput_at, zeros_mb]
theorem info62 : (Try.prog.info? 39).map (fun i => (i.zero, i.size, i.bytes)) = some (some (.slice none 0 0), 1, 24) := info22
theorem BsI.under {w w' : World} {B : Nat} {v : Value} {l : List Int} (h : BsI w 0 B v l) (hb : Below B w w') : BsI w' 0 B v l :=
  ⟨h.1.chg (F := fun k => B ≤ k) ⟨hb.os, hb.tape, hb.output, hb.size, fun k _ hn => hb.block k (by omega)⟩ (fun ad n c e h0 => by have := (h.2 ad n c e h0).2; omega), h.2⟩
end Go.Proofs.Ytaibminomehppaa
