import Derived.Test.YtaibminomehppaaLogI
import Derived.WalkKit
import Derived.ProofKit
import Derived.BigQuiet
import Derived.Deep.QuietTactic
import Derived.WalkSpells
import Derived.WalkLawsBesides
import Derived.Lib.Hide
import Derived.Deep.MidRow
import Derived.Deep.RegionLaw
import Derived.BigRegion
import Derived.Laws.AppendOwnNone
import Derived.Deep.DeepMust
import Derived.Deep.AppendLies
import Derived.RegionTactic
import Derived.Deep.WholeRow
import Derived.BigFrame
import Derived.Deep.RegionWith
import Derived.Deep.RegionHeld3
import Derived.Maps.RangeWalk
import Derived.Laws.CopyOwn
import Derived.StillTailTactics

namespace Go.Proofs.Ytaibminomehppaa
open Go.RowKit
theorem dk_lower {w : World} {B D M : Nat} {nb rm fz : Int} {dn : Bool} {f : Int → List Int} {L : List WR} {lv : Value} (h : Dk w B D M nb rm fz dn f L lv) {B' : Nat} (hB : B' ≤ B) : Dk w B' D M nb rm fz dn f L lv := by
  obtain ⟨h1, h2, h3, h4, h5, h6⟩ := h
  refine ⟨h1, h2, ⟨h3.1, ?_⟩, by omega, by omega, h6⟩
  rcases h3.2 with h | ⟨g, cap, cur, e, hb, hr⟩
  · exact .inl h
  · exact .inr ⟨g, cap, cur, e, by omega, hr⟩
theorem bsI_of {w : World} {v : Value} {l : List Int} (h : Bs w v l) : BsI w 0 w.heap.size v l := ⟨h, fun ad n c e h0 => by
  obtain ⟨a, cap, hv, _, hx⟩ := h
  obtain ⟨b, off, ha, hb, _⟩ := hx h0
  rw [hv, ha] at e
  injection e with e _ _
  injection e with e
  rw [← e]
  exact ⟨Nat.zero_le _, hb⟩⟩
theorem recs_of_pss {w : World} {v : Value} {ps : List (List Int)} (h : Pss0 w v ps) : Recs w 0 w.heap.size v ps := by
  obtain ⟨a, cap, hv, h⟩ := h
  refine ⟨a, cap, hv, fun hl => ?_⟩
  obtain ⟨b, off, ha, hb, hc⟩ := h hl
  exact ⟨b, off, ha, hb, Nat.zero_le _, hb, fun i hi => by
    obtain ⟨x, hx, hbs⟩ := hc i hi
    exact ⟨x, hx, bsI_of hbs⟩⟩
theorem Recs.under {w w' : World} {B : Nat} {v : Value} {ps : List (List Int)} (h : Recs w 0 B v ps) (hb : Below B w w') : Recs w' 0 B v ps :=
  h.chg (F := fun k => B ≤ k) ⟨hb.os, hb.tape, hb.output, hb.size, fun k _ hn => hb.block k (by omega)⟩ (fun _ _ h1 h2 => by omega)
section
variable {w w' : World} {B D M : Nat} {nb rm : Int} {f : Int → List Int} {lv : Value} {P : Nat} {fi sz : Int} {a b c : Nat} {rs : List (List Int)} {av : Value} {pe : List (List Int)}
theorem LgS.below (h : LgS w B D M nb rm f lv P fi sz a b c rs av pe) (hc : Chg (LFoot D M lv P av) w w') : Below B w w' := hc.below (fun k hk => (h.lt k hk).1) h.hB
theorem ls_room (h : LgS w B D M nb rm f lv P fi sz a b c rs av pe) (n : Int) :
    Calls Try.prog 52 #[.pointer (some ⟨D, 0, none⟩), .int .i64 n] w fun e w' => e = .returned (.tuple #[]) ∧ LgS w' B D M nb (if 0 ≤ n then n else 0) f lv P fi sz a b c rs av pe ∧ Chg (fun k => k = D) w w' := by
  refine (room_dk B D M nb rm (-1) n false f [] lv w h.dk).mono ?_
  rintro e w' ⟨rfl, hd, hc⟩
  have hDf : Foot D M lv D := .inl rfl
  refine ⟨rfl, { h with dk := hd, box := h.box.chg hc (fun e => h.nf (by rw [e]; exact hDf)), own := h.own.chg hc (fun g hg e => h.af g hg (by rw [e]; exact hDf)) }, hc⟩
end
end Go.Proofs.Ytaibminomehppaa
