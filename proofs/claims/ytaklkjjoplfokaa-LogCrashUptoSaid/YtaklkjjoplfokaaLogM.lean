import Derived.Test.YtaklkjjoplfokaaLogJ
import Derived.WalkKit
import Derived.ProofKit
import Derived.BigQuiet
import Derived.Deep.QuietTactic
import Derived.WalkSpells
import Derived.WalkLawsBesides
import Derived.Lib.Hide
import Derived.Deep.MidRow
import Derived.Deep.RegionLaw
import Derived.BigRegion
import Derived.Laws.AppendOwnNone
import Derived.Deep.DeepMust
import Derived.Deep.AppendLies
import Derived.RegionTactic
import Derived.Deep.WholeRow
import Derived.BigFrame
import Derived.Deep.RegionWith
import Derived.Deep.RegionHeld3
import Derived.Maps.RangeWalk
import Derived.Laws.CopyOwn
import Derived.StillTailTactics

namespace Go.Proofs.Ytaklkjjoplfokaa
open Go.RowKit
section
variable {w w' : World} {B D M : Nat} {nb rm : Int} {f : Int → List Int} {lv : Value} {P : Nat} {fi sz : Int} {a b c : Nat} {rs : List (List Int)} {av : Value} {pe : List (List Int)}
theorem ld_formatL {L : List WR} (hd : Dk w B D M nb rm (-1) false f L lv) (hr : ∀ n, Rng (f n)) (h1 : 0 ≤ fi) (h2 : 3 ≤ sz) (h3 : fi ≤ nb - sz) (h4 : nb ≤ 4096) (hrm : fi + 1 < rm) (hL : L.length ≤ 4096) :
    Calls Try.prog 30 #[.pointer (some ⟨D, 0, none⟩), .int .i64 fi, .int .i64 sz] w (FmEnds B D M nb rm f lv fi sz w) := by
  refine (format_yes B D M nb rm fi sz ⟨-1, false, f, L⟩ lv w hd h1 h2 h3 h4 (by show L.length ≤ _; omega)).mono ?_
  obtain ⟨g1, g2⟩ := wsy_calm (nb := nb) (rm := rm) (fw fi) (s := ⟨-1, false, f, L⟩) ⟨rfl, rfl⟩ (fun x hx => by
    rw [fw, List.mem_cons, List.mem_singleton] at hx
    rcases hx with rfl | rfl
    · show 0 ≤ fi + 1 ∧ fi + 1 < nb ∧ fi + 1 < rm; omega
    · show 0 ≤ fi ∧ fi < nb ∧ fi < rm; omega)
  rw [g1, g2]
  rintro e w' ⟨rfl, lv', hdk, hc, hf⟩
  refine ⟨rfl, fputs f (fw fi), lv', ⟨hdk, mk_format f fi, rfl, by omega, fputs_rng _ _ hr (fun x hx => ?_), (fun r hr => by cases hr), h1, h2, h3, h4, by decide, by decide⟩, hc, hf⟩
  rw [fw, List.mem_cons, List.mem_singleton] at hx
  rcases hx with rfl | rfl
  · exact mb_rng _ _ _
  · exact zeros_rng _
def RsEnds (B D M : Nat) (nb rm : Int) (lv : Value) (P : Nat) (fi sz : Int) (a b : Nat) (av : Value) (w : World) (e : Ending) (w' : World) : Prop :=
  e = .returned (.int .i64 0) ∧ ∃ f' lv', LgS w' B D M nb rm f' lv' P fi sz (a + 1) (b + 1) 0 [] av [] ∧ Chg (LFoot D M lv P av) w w' ∧ (∀ k, LFoot D M lv' P av k → LFoot D M lv P av k ∨ w.heap.size ≤ k)
theorem ls_restart (h : LgS w B D M nb rm f lv P fi sz a b c rs av []) (hrm : fi + 2 ≤ rm) (ha1 : a + 1 < 1099511627776) (hb1 : b + 1 < 1099511627776) :
    Calls Try.prog 38 #[.pointer (some ⟨P, 0, none⟩)] w (RsEnds B D M nb rm lv P fi sz a b av w) := by
  have h1 := h.h1; have h2 := h.h2; have h3 := h.h3; have h4 := h.h4
  obtain ⟨sa, sc, hav⟩ := own_form h.own
  have hbx := h.box
  rw [hav, show (encs ([] : List (List Int))).length = 0 from rfl] at hbx
  refine (restart_nil B D M nb rm P fi sz a b c sa sc ⟨-1, false, f, []⟩ lv w h.dk hbx h.nf ⟨h1, by omega⟩ h.ha h.hb (by simp)).mono ?_
  obtain ⟨g3, g4⟩ := wsy_calm (nb := nb) (rm := rm) (mw fi (a + 1) (b + 1) 0) (s := ⟨-1, false, f, []⟩) ⟨rfl, rfl⟩ (fun x hx => by
    rw [mw, List.mem_singleton] at hx
    subst hx
    show 0 ≤ fi + (((a + 1) % 2 : Nat) : Int) ∧ fi + (((a + 1) % 2 : Nat) : Int) < nb ∧ fi + (((a + 1) % 2 : Nat) : Int) < rm
    omega)
  rw [g3, g4]
  rintro e w' ⟨rfl, lv', hd, hp, hc, hf⟩
  rw [if_pos rfl, if_pos rfl, if_pos rfl] at hp
  have hp2 : LgIs w' P D fi sz (a + 1) (b + 1) 0 av := by rw [hav, show (encs ([] : List (List Int))).length = 0 from rfl]; exact hp
  have hnf : ¬ Foot D M lv' P := fun e => (hf P e).elim h.nf (fun h' => by have := h.box.lt; omega)
  refine ⟨rfl, _, lv', { dk := hd, box := hp2, own := h.own.chg hc (fun g hg e => e.elim (h.af g hg) (fun e => h.ne (by rw [hg, e]))), nf := hnf, ne := h.ne, af := fun g hg hk => (hf g hk).elim (h.af g hg) (fun h' => by have := (h.own.lt g hg).2; omega), base := h.base, mkf := h.mkf.next (b + 1) 0 (by omega) (by omega) (by decide), area := rfl, fits := (by rw [show encs ([] : List (List Int)) = [] from rfl, List.length_nil]; omega), rng := fputs_rng _ _ h.rng (fun x hx => by rw [mw, List.mem_singleton] at hx; subst hx; exact mb_rng _ _ _), rrs := (fun r hr => by cases hr), rpe := (fun r hr => by cases hr), h1 := h1, h2 := h2, h3 := h3, h4 := h4, ha := ha1, hb := hb1 }, hc.mono (fun k hk => hk.elim .inl (fun h => .inr (.inl h))), fun k hk => ?_⟩
  rcases hk with hk | hk | hk
  · exact (hf k hk).imp .inl id
  · exact .inl (.inr (.inl hk))
  · exact .inl (.inr (.inr hk))
end
/-- a list of slices of one's own, whose bytes lie below a block -/
def OwnW (w : World) (B : Nat) (v : Value) (ws : List (List Int)) : Prop :=
  ∃ xs : List Value, w.ownsRow B 62 1 v ws.length xs ∧ ∀ i, i < ws.length → ∃ x, xs[i]? = some x ∧ BsI w 0 B x (ws[i]?.getD [])
theorem row_chg {w w' : World} {B e size n : Nat} {v : Value} {xs : List Value} {F : Nat → Prop} (h : w.ownsRow B e size v n xs) (hc : Chg F w w') (hF : ∀ g, v.ownBlock = some g → ¬ F g) : w'.ownsRow B e size v n xs := by
  obtain ⟨h1, h2⟩ := h
  refine ⟨h1, h2.imp id ?_⟩
  rintro ⟨g, cap, cur, hv, hb, hg, hr⟩
  exact ⟨g, cap, cur, hv, hb, (hc.block g (Array.getElem?_eq_some_iff.1 hg).1 (hF g (by rw [hv]; rfl))).trans hg, hr⟩
theorem BsI.under {w w' : World} {B : Nat} {v : Value} {l : List Int} (h : BsI w 0 B v l) (hb : Below B w w') : BsI w' 0 B v l :=
  ⟨h.1.chg (F := fun k => B ≤ k) ⟨hb.os, hb.tape, hb.output, hb.size, fun k _ hn => hb.block k (by omega)⟩ (fun ad n c e h0 => by have := (h.2 ad n c e h0).2; omega), h.2⟩
theorem OwnW.chg {w w' : World} {B : Nat} {v : Value} {ws : List (List Int)} {F : Nat → Prop} (h : OwnW w B v ws) (hc : Chg F w w') (hF : ∀ g, v.ownBlock = some g → ¬ F g) (hb : Below B w w') : OwnW w' B v ws := by
  obtain ⟨xs, h1, h2⟩ := h
  exact ⟨xs, row_chg h1 hc hF, fun i hi => by
    obtain ⟨x, hx, hbs⟩ := h2 i hi
    exact ⟨x, hx, hbs.under hb⟩⟩
theorem OwnW.pss {w : World} {B : Nat} {v : Value} {ws : List (List Int)} (h : OwnW w B v ws) : Pss0 w v ws := by
  obtain ⟨xs, h1, h2⟩ := h
  rcases h1.2 with ⟨rfl, h0⟩ | ⟨g, cap, cur, rfl, hg, hh, hle, _, _, _⟩
  · have : ws = [] := List.eq_nil_of_length_eq_zero h0
    subst this
    exact ⟨none, 0, rfl, fun h => by simp at h⟩
  · refine ⟨some ⟨g, 0, none⟩, cap, rfl, fun _ => ⟨g, 0, rfl, (h1.lt g rfl).2, fun i hi => ?_⟩⟩
    obtain ⟨x, hx, ho, _⟩ := h2 i hi
    have := h1.cells (g := g) rfl i x hx
    rw [Addr.add_mid] at this
    exact ⟨x, this, ho⟩
theorem OwnW.snoc {w w' : World} {B g cap : Nat} {x : Value} {ws : List (List Int)} {m : List Int} {xs : List Value} (h2 : ∀ i, i < ws.length → ∃ x, xs[i]? = some x ∧ BsI w 0 B x (ws[i]?.getD [])) (hl : xs.length = ws.length) (hx : BsI w 0 B x m)
    (hown : w'.ownsRow B 62 1 (.slice (some ⟨g, 0, none⟩) (ws.length + 1) cap) (ws.length + 1) (xs ++ [x])) (hb : Below B w w') : OwnW w' B (.slice (some ⟨g, 0, none⟩) (ws.length + 1) cap) (ws ++ [m]) := by
  refine ⟨xs ++ [x], by simpa using hown, fun i hi => ?_⟩
  by_cases hi2 : i < ws.length
  · obtain ⟨y, hy, ho⟩ := h2 i hi2
    rw [List.getElem?_append_left (by omega), List.getElem?_append_left hi2]
    exact ⟨y, hy, ho.under hb⟩
  · have hi3 : i = ws.length := by simp at hi; omega
    subst hi3
    refine ⟨x, by rw [List.getElem?_append_right (by omega), hl]; simp, ?_⟩
    rw [List.getElem?_append_right (by omega), Nat.sub_self]
    exact hx.under hb
end Go.Proofs.Ytaklkjjoplfokaa
