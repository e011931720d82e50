import Derived.Test.YtaibminomehppaaDiskY
import Derived.WalkKit
import Derived.ProofKit
import Derived.BigQuiet
import Derived.Deep.QuietTactic
import Derived.WalkSpells
import Derived.WalkLawsBesides
import Derived.Lib.Hide
import Derived.Deep.MidRow
import Derived.Deep.RegionLaw
import Derived.BigRegion
import Derived.Laws.AppendOwnNone
import Derived.Deep.DeepMust
import Derived.Deep.AppendLies
import Derived.RegionTactic
import Derived.Deep.WholeRow
import Derived.BigFrame
import Derived.Deep.RegionWith
import Derived.Deep.RegionHeld3
import Derived.Maps.RangeWalk
import Derived.Laws.CopyOwn
import Derived.StillTailTactics
namespace Go.Proofs.Ytaibminomehppaa
open Go.RowKit
theorem BkC.lower {w : World} {B B' g : Nat} {v : Value} {bs : List (List Int)} (h : BkC w B g v bs) (hB : B' ≤ B) : BkC w B' g v bs :=
  ⟨h.1, by have := h.2.1; omega, h.2.2⟩
theorem RS.lower {w : World} {B B' R gf nb fcap : Nat} {rv : Value} {rm fz : Int} {dn : Bool} {bs : List (List Int)} {K : List RW} (h : RS w B R gf nb fcap rv rm fz dn bs K) (hB : B' ≤ B) : RS w B' R gf nb fcap rv rm fz dn bs K := by
  obtain ⟨h1, h2, h3, h4, h5, h6, h7, h8, h9⟩ := h
  exact ⟨h1, h2.lower hB, h3.lower hB, h4, h5, h6, h7, by omega, h9⟩
/-- both disks, in one state -/
def Both (w : World) (B D M R gf nb fcap : Nat) (rm fz : Int) (dn : Bool) (f : Int → List Int) (L : List WR) (lv rv : Value) (bs : List (List Int)) (K : List RW) : Prop :=
  Dk w B D M nb rm fz dn f L lv ∧ RS w B R gf nb fcap rv rm fz dn bs K ∧ Rel nb f L bs K ∧ ∀ k, Foot D M lv k → ¬ RFoot R gf rv k
def BFoot (D M R gf : Nat) (lv rv : Value) (k : Nat) : Prop := Foot D M lv k ∨ RFoot R gf rv k
section
variable {w w1 w2 w3 : World} {B D M R gf nb fcap : Nat} {rm fz rm' fz' : Int} {dn dn' : Bool} {f f' : Int → List Int} {L L' : List WR} {lv rv lv' rv' : Value} {bs bs' : List (List Int)} {K K' : List RW}
theorem Both.foot (h : Both w B D M R gf nb fcap rm fz dn f L lv rv bs K) : ∀ k, BFoot D M R gf lv rv k → B ≤ k ∧ k < w.heap.size := fun k hk => hk.elim (h.1.foot k) (h.2.1.foot k)
theorem Both.fresh (h : Both w B D M R gf nb fcap rm fz dn f L lv rv bs K) (hb : Below w.heap.size w w1) : Both w1 B D M R gf nb fcap rm fz dn f L lv rv bs K :=
  ⟨h.1.chg (Chg.fresh (F := fun _ => False) hb) (fun _ _ h => h), h.2.1.chg (Chg.fresh (F := fun _ => False) hb) (fun _ _ h => h), h.2.2⟩
theorem Both.rs (h : Both w B D M R gf nb fcap rm fz dn f L lv rv bs K) {F : Nat → Prop} (hc : Chg F w w1) (hF : ∀ k, F k → Foot D M lv k) (hb : Below w1.heap.size w1 w2) : RS w2 B R gf nb fcap rv rm fz dn bs K :=
  (h.2.1.chg hc (fun k hk e => h.2.2.2 k (hF k e) hk)).chg (Chg.fresh (F := fun _ => False) hb) (fun _ _ h => h)
/-- a step of both -/
theorem Both.next (h : Both w B D M R gf nb fcap rm fz dn f L lv rv bs K) {F G : Nat → Prop} (hd : Dk w1 B D M nb rm' fz' dn' f' L' lv') (hc : Chg F w w1) (hF : ∀ k, F k → Foot D M lv k) (hf : ∀ k, Foot D M lv' k → Foot D M lv k ∨ w.heap.size ≤ k)
    (hb : Below w1.heap.size w1 w2) (hr : RS w3 B R gf nb fcap rv' rm' fz' dn' bs' K') (hg : Chg G w2 w3) (hG : ∀ k, G k → RFoot R gf rv k) (hrf : ∀ k, RFoot R gf rv' k → RFoot R gf rv k ∨ w2.heap.size ≤ k) (hrel : Rel nb f' L' bs' K') :
    Both w3 B D M R gf nb fcap rm' fz' dn' f' L' lv' rv' bs' K' ∧ Below B w w3 := by
  have hs1 := hc.size
  have hs2 := hb.size
  have hB : B ≤ w.heap.size := by have := h.1.foot D (.inl rfl); omega
  refine ⟨⟨(hd.chg (Chg.fresh (F := fun _ => False) hb) (fun _ _ h => h)).chg hg (fun k hk e => ?_), hr, hrel, fun k hk e => ?_⟩, ?_⟩
  · rcases hf k hk with h1 | h1
    · exact h.2.2.2 k h1 (hG k e)
    · have := (h.2.1.foot k (hG k e)).2; omega
  · have hk1 := (hd.foot k hk).2
    rcases hrf k e with h2 | h2
    · rcases hf k hk with h1 | h1
      · exact h.2.2.2 k h1 h2
      · have := (h.2.1.foot k h2).2; omega
    · omega
  · exact ((hc.below (fun k hk => (h.1.foot k (hF k hk)).1) hB).trans (hb.mono (by omega))).trans (hg.below (fun k hk => (h.2.1.foot k (hG k hk)).1) (by omega))
theorem Both.blocks (h : Both w B D M R gf nb fcap rm fz dn f L lv rv bs K) : bs.length = nb := h.2.1.2.2.2.2.2.2.2.2.2
theorem Both.len (h : Both w B D M R gf nb fcap rm fz dn f L lv rv bs K) : K.length = L.length := h.2.2.1.len
end
theorem below_drewN {B : Nat} {a w : World} (h : Below B a w) (n : Nat) : Below B a (w.drewN n) := ⟨h.os, h.tape, h.output, h.size, h.block⟩
theorem Both.drewN {w : World} {B D M R gf nb fcap : Nat} {rm fz : Int} {dn : Bool} {f : Int → List Int} {L : List WR} {lv rv : Value} {bs : List (List Int)} {K : List RW} (h : Both w B D M R gf nb fcap rm fz dn f L lv rv bs K) (n : Nat) : Both (w.drewN n) B D M R gf nb fcap rm fz dn f L lv rv bs K :=
  ⟨h.1.kept (fun _ _ => rfl), h.2.1.kept (fun _ _ => rfl) (Nat.le_refl _), h.2.2⟩
theorem Rel.writes {nb : Nat} {f : Int → List Int} {L : List WR} {bs : List (List Int)} {K : List RW} (h : Rel nb f L bs K) (n : Int) (b : List Int) (E : Int) (hE : E = 0 → 0 ≤ n ∧ n < nb) : Rel nb (if E = 0 then fput f n b else f) (if E = 0 then L ++ [(n, f n, b)] else L) bs (if E = 0 then K ++ [(n, b)] else K) := by
  by_cases he : E = 0
  · rw [if_pos he, if_pos he, if_pos he]; exact h.write n b (hE he)
  · rw [if_neg he, if_neg he, if_neg he]; exact h
theorem Rel.syncs {nb : Nat} {f : Int → List Int} {L : List WR} {bs : List (List Int)} {K : List RW} (h : Rel nb f L bs K) (c : Bool) : Rel nb f (if c = true then [] else L) (if c = true then firmL bs K else bs) (if c = true then [] else K) := by
  cases c
  · exact h
  · exact h.sync
theorem Bools.cg {w w' : World} {v : Value} {ks : List Bool} {F : Nat → Prop} (h : Bools w v ks) (hc : Chg F w w') (hF : ∀ b o n c, v = .slice (some ⟨b, o, none⟩) n c → 0 < ks.length → ¬ F b) : Bools w' v ks := by
  obtain ⟨a, cap, h1, h2⟩ := h
  refine ⟨a, cap, h1, fun h0 => ?_⟩
  obtain ⟨b, off, h3, h4, h5⟩ := h2 h0
  subst h3
  exact ⟨b, off, rfl, Nat.lt_of_lt_of_le h4 hc.size, fun i hi => (World.cell?_of_block (a := ⟨b, off + i, none⟩) (hc.block b h4 (hF b off _ _ h1 h0))).trans (h5 i hi)⟩
theorem rroom_rs (B R gf nb fcap : Nat) (rv : Value) (rm fz n : Int) (dn : Bool) (bs : List (List Int)) (K : List RW) (w : World) (h : RS w B R gf nb fcap rv rm fz dn bs K) :
    Calls Try.prog 53 #[.pointer (some ⟨R, 0, none⟩), .int .i64 n] w fun e w' => e = .returned (.tuple #[]) ∧ RS w' B R gf nb fcap rv (if 0 ≤ n then n else 0) fz dn bs K ∧ Chg (fun k => k = R) w w' := by
  obtain ⟨h1, h2, h3, h4, h5, h6, h7, h8, h9, h10⟩ := h
  refine (rroom_any R _ rv rm fz n dn w h1).mono ?_
  rintro e w' ⟨rfl, hd, hg, hs⟩
  have hch : Chg (fun k => k = R) w w' := Chg.grown hg (fun k hk => by injection hk with hk; exact hk.symm)
  exact ⟨rfl, ⟨hd, h2.cg hch (fun e => h6 e.symm), h3.kept (fun k hk => hch.block k (h3.own k hk).2 (h7 k hk).2), h4, h5, h6, h7, h8, h9, h10⟩, hch⟩
theorem rarm_rs (B R gf nb fcap : Nat) (rv : Value) (rm fz n : Int) (dn : Bool) (bs : List (List Int)) (K : List RW) (w : World) (h : RS w B R gf nb fcap rv rm fz dn bs K) (hn : n ≤ 9223372036854775807) :
    Calls Try.prog 55 #[.pointer (some ⟨R, 0, none⟩), .int .i64 n] w fun e w' => e = .returned (.tuple #[]) ∧ RS w' B R gf nb fcap rv rm (if 0 ≤ n then n else -1) dn bs K ∧ Chg (fun k => k = R) w w' := by
  obtain ⟨h1, h2, h3, h4, h5, h6, h7, h8, h9, h10⟩ := h
  refine (rarm_any R _ rv rm fz n dn w h1).mono ?_
  rintro e w' ⟨rfl, hd, hg, hs⟩
  have hch : Chg (fun k => k = R) w w' := Chg.grown hg (fun k hk => by injection hk with hk; exact hk.symm)
  exact ⟨rfl, ⟨hd, h2.cg hch (fun e => h6 e.symm), h3.kept (fun k hk => hch.block k (h3.own k hk).2 (h7 k hk).2), h4, h5, h6, h7, h8, by split <;> omega, h10⟩, hch⟩
end Go.Proofs.Ytaibminomehppaa
