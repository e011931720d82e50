import Derived.Test.YtaklkjjoplfokaaLogT
import Derived.WalkKit
import Derived.ProofKit
import Derived.BigQuiet
import Derived.Deep.QuietTactic
import Derived.WalkSpells
import Derived.WalkLawsBesides
import Derived.Lib.Hide
import Derived.Deep.MidRow
import Derived.Deep.RegionLaw
import Derived.BigRegion
import Derived.Laws.AppendOwnNone
import Derived.Deep.DeepMust
import Derived.Deep.AppendLies
import Derived.RegionTactic
import Derived.Deep.WholeRow
import Derived.BigFrame
import Derived.Deep.RegionWith
import Derived.Deep.RegionHeld3
import Derived.Maps.RangeWalk
import Derived.Laws.CopyOwn
import Derived.StillTailTactics

namespace Go.Proofs.Ytaklkjjoplfokaa
open Go.RowKit
theorem zeros_mb : zeros 256 = mb 0 0 0 := by
  have h8 : be8 0 = zeros 8 := by decide
  have hz : ∀ m n, zeros m ++ zeros n = zeros (m + n) := fun m n => by simp [zeros]
  unfold mb mnums
  simp only [List.flatMap_cons, List.flatMap_nil, List.append_nil, h8, hz]
theorem format_exact (f : Int → List Int) (fi : Int) : fputs f (fw fi) (fi + (1 % 2 : Nat)) = mb 1 1 0 ∧ fputs f (fw fi) (fi + ((1 + 1) % 2 : Nat)) = mb 0 0 0 := by
  have e1 : ((1 % 2 : Nat) : Int) = 1 := rfl
  have e2 : (((1 + 1) % 2 : Nat) : Int) = 0 := rfl
  rw [e1, e2, Int.add_zero]
  refine ⟨?_, ?_⟩
  · show fput (fput f (fi + 1) (mb 1 1 0)) fi (zeros 256) (fi + 1) = _
    rw [fput_ne _ _ _ _ (by omega), fput_at]
  · show fput (fput f (fi + 1) (mb 1 1 0)) fi (zeros 256) fi = _
    rw [fput_at, zeros_mb]
section
variable {w w' : World} {B D M : Nat} {nb fz : Int} {f : Int → List Int} {lv : Value} {P : Nat} {fi sz : Int} {a b c : Nat} {rs : List (List Int)} {av : Value} {pe : List (List Int)}
def FfEnds (B D M : Nat) (nb : Int) (lv : Value) (fi sz : Int) (w : World) (e : Ending) (w' : World) : Prop :=
  e = .returned (.int .i64 0) ∧ ∃ f' lv', LgD w' B D M nb nb f' lv' fi sz 1 1 0 [] ∧ f' (fi + (1 % 2 : Nat)) = mb 1 1 0 ∧ f' (fi + ((1 + 1) % 2 : Nat)) = mb 0 0 0 ∧ Chg (Foot D M lv) w w' ∧ (∀ k, Foot D M lv' k → Foot D M lv k ∨ w.heap.size ≤ k)
theorem lf_format (hd : Dk w B D M nb nb (-1) false f [] lv) (hr : ∀ n, Rng (f n)) (h1 : 0 ≤ fi) (h2 : 3 ≤ sz) (h3 : fi ≤ nb - sz) (h4 : nb ≤ 4096) :
    Calls Try.prog 30 #[.pointer (some ⟨D, 0, none⟩), .int .i64 fi, .int .i64 sz] w (FfEnds B D M nb lv fi sz w) := by
  refine (format_yes B D M nb nb fi sz ⟨-1, false, f, []⟩ lv w hd h1 h2 h3 h4 (by simp)).mono ?_
  obtain ⟨g1, g2⟩ := wsy_calm (nb := nb) (rm := nb) (fw fi) (s := ⟨-1, false, f, []⟩) ⟨rfl, rfl⟩ (fun x hx => by
    rw [fw, List.mem_cons, List.mem_singleton] at hx
    rcases hx with rfl | rfl
    · show 0 ≤ fi + 1 ∧ fi + 1 < nb ∧ fi + 1 < nb; omega
    · show 0 ≤ fi ∧ fi < nb ∧ fi < nb; omega)
  rw [g1, g2]
  rintro e w' ⟨rfl, lv', hdk, hc, hf⟩
  refine ⟨rfl, fputs f (fw fi), lv', ⟨hdk, mk_format f fi, rfl, by omega, fputs_rng _ _ hr (fun x hx => ?_), (fun r hr => by cases hr), h1, h2, h3, h4, by decide, by decide⟩, (format_exact f fi).1, (format_exact f fi).2, hc, hf⟩
  rw [fw, List.mem_cons, List.mem_singleton] at hx
  rcases hx with rfl | rfl
  · exact mb_rng _ _ _
  · exact zeros_rng _
theorem LgS.toF (h : LgS w B D M nb nb f lv P fi sz a b c rs av pe) (h1 : f (fi + (a % 2 : Nat)) = mb a b c) (h2 : ∃ x y z, f (fi + ((a + 1) % 2 : Nat)) = mb x y z ∧ x < a) : LgF w B D M nb (-1) f lv P fi sz a b c rs av pe :=
  ⟨h.dk, h.box, h.own, h.nf, h.ne, h.af, h.base, h.mkf, h1, h2, h.area, h.fits, h.rng, h.rrs, h.rpe, h.h1, h.h2, h.h3, h.h4, h.ha, h.hb⟩
theorem lf_arm (h : LgF w B D M nb fz f lv P fi sz a b c rs av pe) (n : Int) (hn : n ≤ 9223372036854775807) :
    Calls Try.prog 27 #[.pointer (some ⟨D, 0, none⟩), .int .i64 n] w fun e w' => e = .returned (.tuple #[]) ∧ LgF w' B D M nb (if 0 ≤ n then n else -1) f lv P fi sz a b c rs av pe ∧ Chg (fun k => k = D) w w' := by
  refine (arm_dk B D M nb nb fz n false f [] lv w h.dk hn).mono ?_
  rintro e w' ⟨rfl, hd, hc⟩
  have hDf : Foot D M lv D := .inl rfl
  exact ⟨rfl, { h with dk := hd, box := h.box.chg hc (fun e => h.nf (by rw [e]; exact hDf)), own := h.own.chg hc (fun g hg e => h.af g hg (by rw [e]; exact hDf)) }, hc⟩
/-- a disk that never went down comes up as it was -/
theorem lf_up {kv : Value} {ks : List Bool} {t : Int} (h : LgF w B D M nb fz f lv P fi sz a b c rs av pe) (hkb : Bools w kv ks) (hkd : ∀ b o n c, kv = .slice (some ⟨b, o, none⟩) n c → 0 < ks.length → b ≠ M) (hkl : ks.length ≤ 1048576) :
    Calls Try.prog 21 #[.pointer (some ⟨D, 0, none⟩), kv, .int .i64 t] w fun e w' => e = .returned (.tuple #[]) ∧ LgD w' B D M nb nb f (.slice none 0 0) fi sz a b c rs ∧ Chg (fun k => k = D ∨ k = M) w w' := by
  refine (up_any B D M nb nb fz t false f [] lv kv ks w h.dk hkb hkd (by decide) (by omega)).mono ?_
  rintro e w' ⟨rfl, hd, hc⟩
  have hu : upF f [] ks t = f := by
    unfold upF
    rw [show survL [] ks = [] by cases ks <;> rfl]
    rfl
  rw [hu] at hd
  exact ⟨rfl, ⟨hd, h.mkf, h.area, by have := h.fits; omega, h.rng, h.rrs, h.h1, h.h2, h.h3, h.h4, h.ha, h.hb⟩, hc⟩
/-- what came up is a log: with the one list of records, or with the other -/
theorem up2_ld {b' c' : Nat} {rs' : List (List Int)} (hd : Dk w B D M nb nb (-1) false f [] lv) (hu : Up2 f fi a b c rs b' c' rs') (hr : ∀ n, Rng (f n)) (hc : (c : Int) ≤ (sz - 2) * 256) (hc' : (c' : Int) ≤ (sz - 2) * 256) (hrs : ∀ r ∈ rs, Rng r) (hrs' : ∀ r ∈ rs', Rng r)
    (h1 : 0 ≤ fi) (h2 : 3 ≤ sz) (h3 : fi ≤ nb - sz) (h4 : nb ≤ 4096) (ha : a + 1 < 1099511627776) (hb : b < 1099511627776) (hb' : b' < 1099511627776) :
    ∃ a2 b2 c2 rs2, LgD w B D M nb nb f lv fi sz a2 b2 c2 rs2 ∧ (rs2 = rs ∨ rs2 = rs') ∧ a2 ≤ a + 1 := by
  rcases hu with ⟨hm, har⟩ | ⟨hm, har⟩
  · exact ⟨a, b, c, rs, ⟨hd, hm, har, hc, hr, hrs, h1, h2, h3, h4, by omega, hb⟩, .inl rfl, by omega⟩
  · exact ⟨a + 1, b', c', rs', ⟨hd, hm, har, hc', hr, hrs', h1, h2, h3, h4, ha, hb'⟩, .inr rfl, Nat.le_refl _⟩
end
end Go.Proofs.Ytaklkjjoplfokaa
