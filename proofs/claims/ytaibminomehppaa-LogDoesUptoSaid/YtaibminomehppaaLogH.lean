import Derived.Test.YtaibminomehppaaLogG
import Derived.WalkKit
import Derived.ProofKit
import Derived.BigQuiet
import Derived.Deep.QuietTactic
import Derived.WalkSpells
import Derived.WalkLawsBesides
import Derived.Lib.Hide
import Derived.Deep.MidRow
import Derived.Deep.RegionLaw
import Derived.BigRegion
import Derived.Laws.AppendOwnNone
import Derived.Deep.DeepMust
import Derived.Deep.AppendLies
import Derived.RegionTactic
import Derived.Deep.WholeRow
import Derived.BigFrame
import Derived.Deep.RegionWith
import Derived.Deep.RegionHeld3
import Derived.Maps.RangeWalk
import Derived.Laws.CopyOwn
import Derived.StillTailTactics

namespace Go.Proofs.Ytaibminomehppaa
open Go.RowKit
/-- a log on a disk that does not fail -/
structure LgS (w : World) (B D M : Nat) (nb rm : Int) (f : Int → List Int) (lv : Value) (P : Nat) (fi sz : Int) (a b c : Nat) (rs : List (List Int)) (av : Value) (pe : List (List Int)) : Prop where
  dk : Dk w B D M nb rm (-1) false f [] lv
  box : LgIs w P D fi sz a b c av
  own : Own w B av (encs pe)
  nf : ¬ Foot D M lv P
  ne : av.ownBlock ≠ some P
  af : ∀ g, av.ownBlock = some g → ¬ Foot D M lv g
  base : B ≤ P
  mkf : Mk f fi a b c
  area : areaB f (fi + 2) c = encs rs
  fits : ((c + (encs pe).length : Nat) : Int) ≤ (sz - 2) * 256
  rng : ∀ n, Rng (f n)
  rrs : ∀ r ∈ rs, Rng r
  rpe : ∀ r ∈ pe, Rng r
  h1 : 0 ≤ fi
  h2 : 3 ≤ sz
  h3 : fi ≤ nb - sz
  h4 : nb ≤ 4096
  ha : a < 1099511627776
  hb : b < 1099511627776
def LFoot (D M : Nat) (lv : Value) (P : Nat) (av : Value) (k : Nat) : Prop := Foot D M lv k ∨ k = P ∨ av.ownBlock = some k
section
variable {w w' : World} {B D M : Nat} {nb rm : Int} {f : Int → List Int} {lv : Value} {P : Nat} {fi sz : Int} {a b c : Nat} {rs : List (List Int)} {av : Value} {pe : List (List Int)}
theorem LgS.lt (h : LgS w B D M nb rm f lv P fi sz a b c rs av pe) : ∀ k, LFoot D M lv P av k → B ≤ k ∧ k < w.heap.size := by
  intro k hk
  rcases hk with hk | rfl | hk
  · exact h.dk.foot k hk
  · exact ⟨h.base, h.box.lt⟩
  · exact h.own.lt k hk
theorem LgS.chg (h : LgS w B D M nb rm f lv P fi sz a b c rs av pe) {F : Nat → Prop} (hc : Chg F w w') (hF : ∀ k, LFoot D M lv P av k → ¬ F k) : LgS w' B D M nb rm f lv P fi sz a b c rs av pe :=
  { h with dk := h.dk.chg hc (fun k hk => hF k (.inl hk)), box := h.box.chg hc (hF P (.inr (.inl rfl))), own := h.own.chg hc (fun g hg => hF g (.inr (.inr hg))) }
theorem LgS.fresh (h : LgS w B D M nb rm f lv P fi sz a b c rs av pe) (hb : Below w.heap.size w w') : LgS w' B D M nb rm f lv P fi sz a b c rs av pe := h.chg (Chg.fresh (F := fun _ => False) hb) (fun _ _ h => h)
theorem LgS.hB (h : LgS w B D M nb rm f lv P fi sz a b c rs av pe) : B ≤ w.heap.size := by have := h.lt P (.inr (.inl rfl)); omega
theorem LgS.small (h : LgS w B D M nb rm f lv P fi sz a b c rs av pe) : c ≤ 1048576 ∧ (encs pe).length ≤ 1048576 := by
  have := h.fits; have := h.h1; have := h.h2; have := h.h3; have := h.h4; omega
def ApEnds (B D M : Nat) (nb rm : Int) (f : Int → List Int) (lv : Value) (P : Nat) (fi sz : Int) (a b c : Nat) (rs : List (List Int)) (av : Value) (pe : List (List Int)) (m : List Int) (w : World) (e : Ending) (w' : World) : Prop :=
  e = .returned (.int .i64 (if fitsL sz c (encs pe).length m.length = true then 0 else 42)) ∧ ∃ av', LgS w' B D M nb rm f lv P fi sz a b c rs av' (if fitsL sz c (encs pe).length m.length = true then pe ++ [m] else pe) ∧ Chg (LFoot D M lv P av) w w' ∧ (∀ k, LFoot D M lv P av' k → LFoot D M lv P av k ∨ w.heap.size ≤ k)
theorem ls_append (h : LgS w B D M nb rm f lv P fi sz a b c rs av pe) (v2 : Value) (m : List Int) (hbs : Bs w v2 m) (hnb : ∀ ad n c, v2 = .slice (some ad) n c → 0 < m.length → av.ownBlock ≠ some ad.block) (hm : m.length ≤ 16777216) (hr : Rng m) :
    Calls Try.prog 31 #[.pointer (some ⟨P, 0, none⟩), v2] w (ApEnds B D M nb rm f lv P fi sz a b c rs av pe m w) := by
  have hs := h.small
  have h1 := h.h1; have h2 := h.h2; have h3 := h.h3; have h4 := h.h4
  refine (append_any B P D fi sz a b c av v2 (encs pe) m w h.box h.own h.ne h.hB hbs hnb h2 (by omega) hs.1 hs.2 hm).mono ?_
  rintro e w' ⟨rfl, av', hp, ho, hc, ht⟩
  have hfoot : ∀ k, LFoot D M lv P av' k → LFoot D M lv P av k ∨ w.heap.size ≤ k := by
    intro k hk
    rcases hk with hk | hk | hk
    · exact .inl (.inl hk)
    · exact .inl (.inr (.inl hk))
    · exact (ht k hk).imp (fun h => .inr (.inr h)) id
  refine ⟨rfl, av', ?_, hc.mono (fun k hk => hk.elim (fun h => .inr (.inl h)) (fun h => .inr (.inr h))), hfoot⟩
  have hap : ∀ k, Foot D M lv k → ¬ (k = P ∨ av.ownBlock = some k) := fun k hk e => e.elim (fun e => h.nf (by rw [← e]; exact hk)) (fun e => h.af k e hk)
  have hne : av'.ownBlock ≠ some P := fun e => (ht P e).elim h.ne (fun h' => by have := h.box.lt; omega)
  have haf : ∀ g, av'.ownBlock = some g → ¬ Foot D M lv g := fun g hg hk => (ht g hg).elim (fun e => h.af g e hk) (fun h' => by have := (h.dk.foot g hk).2; omega)
  by_cases hf : fitsL sz c (encs pe).length m.length = true
  · rw [if_pos hf] at ho ⊢
    have hf2 : 8 + (m.length : Int) ≤ (sz - 2) * 256 - c - (encs pe).length := of_decide_eq_true hf
    exact { h with dk := h.dk.chg hc hap, box := hp, own := (by rw [encs_snoc]; exact ho), ne := hne, af := haf, fits := (by rw [encs_snoc]; simp [be8_len]; omega), rpe := fun r hr' => (List.mem_append.1 hr').elim (h.rpe r) (fun e => by rw [List.mem_singleton.1 e]; exact hr) }
  · rw [if_neg hf] at ho ⊢
    exact { h with dk := h.dk.chg hc hap, box := hp, own := ho, ne := hne, af := haf }
theorem ls_open (h : LgS w B D M nb rm f lv P fi sz a b c rs av pe) : Calls Try.prog 28 #[.pointer (some ⟨D, 0, none⟩), .int .i64 fi, .int .i64 sz] w (OpEnds D fi sz a b c rs w) :=
  open_yes B D M nb rm (-1) fi sz f [] lv a b c rs w h.dk h.h1 h.h2 h.h3 h.h4 h.rng (nst_mk h.mkf) h.mkf.2.1 (by have := h.fits; omega) h.area h.rrs
theorem fputs_rng (l : List (Int × List Int)) : ∀ (f : Int → List Int), (∀ n, Rng (f n)) → (∀ x ∈ l, Rng x.2) → ∀ n, Rng (fputs f l n) := by
  induction l with
  | nil => intro f h _; exact h
  | cons x r ih =>
    intro f h hx
    refine ih _ (fun n => ?_) (fun y hy => hx y (List.mem_cons_of_mem _ hy))
    by_cases hn : n = x.1
    · rw [hn, fput_at]; exact hx x (List.mem_cons_self ..)
    · rw [fput_ne _ _ _ _ hn]; exact h n
theorem wl_rng {n : Int} {all : List Int} (h : Rng all) : ∀ k, ∀ x ∈ wl n all k, Rng x.2
  | 0, x, hx => by cases hx
  | k + 1, x, hx => by
    rcases List.mem_cons.1 hx with hx | hx
    · subst hx; exact padB_rng (h.drop _)
    · exact wl_rng h k x hx
theorem fputs_len (l : List (Int × List Int)) : ∀ (f : Int → List Int), (∀ n, (f n).length = 256) → (∀ x ∈ l, x.2.length = 256) → ∀ n, (fputs f l n).length = 256 := by
  induction l with
  | nil => intro f h _; exact h
  | cons x r ih =>
    intro f h hx
    refine ih _ (fun n => ?_) (fun y hy => hx y (List.mem_cons_of_mem _ hy))
    by_cases hn : n = x.1
    · rw [hn, fput_at]; exact hx x (List.mem_cons_self ..)
    · rw [fput_ne _ _ _ _ hn]; exact h n
theorem wl_len {n : Int} {all : List Int} : ∀ {k : Nat} {x : Int × List Int}, x ∈ wl n all k → x.2.length = 256
  | 0, x, hx => by cases hx
  | k + 1, x, hx => by
    rcases List.mem_cons.1 hx with hx | hx
    · subst hx; exact padB_len _
    · exact wl_len hx
def SEnds (B D M : Nat) (nb rm : Int) (_f : Int → List Int) (lv : Value) (P : Nat) (fi sz : Int) (a b _c : Nat) (rs : List (List Int)) (av : Value) (pe : List (List Int)) (w : World) (e : Ending) (w' : World) : Prop :=
  ∃ f' lv' a' c' rs' av', LgS w' B D M nb rm f' lv' P fi sz a' b c' rs' av' [] ∧ Chg (LFoot D M lv P av) w w' ∧ (∀ k, LFoot D M lv' P av' k → LFoot D M lv P av k ∨ w.heap.size ≤ k) ∧
    ((e = .returned (.int .i64 0) ∧ rs' = rs ++ pe ∧ a' ≤ a + 1) ∨ (e = .returned (.int .i64 42) ∧ rs' = rs ∧ a' = a ∧ rm < nb ∧ pe ≠ []))
theorem ls_sync (h : LgS w B D M nb rm f lv P fi sz a b c rs av pe) (ha1 : a + 1 < 1099511627776) :
    Calls Try.prog 32 #[.pointer (some ⟨P, 0, none⟩)] w (SEnds B D M nb rm f lv P fi sz a b c rs av pe w) := by
  have hs := h.small
  have h1 := h.h1; have h2 := h.h2; have h3 := h.h3; have h4 := h.h4; have hb' := h.hb
  by_cases hpe : pe = []
  · subst hpe
    obtain ⟨sa, sc, hav⟩ := own_form h.own
    have hb := h.box
    rw [hav, show (encs ([] : List (List Int))).length = 0 from rfl] at hb
    refine (sync_nil P D fi sz a b c sa sc w hb).mono ?_
    rintro e w' ⟨rfl, rfl⟩
    exact ⟨f, lv, a, c, rs, av, h, Chg.refl _ _, fun k hk => .inl hk, .inl ⟨rfl, by rw [List.append_nil], by omega⟩⟩
  · have hlen : 0 < (encs pe).length := by
      obtain ⟨r, pe', rfl⟩ := List.exists_cons_of_ne_nil hpe
      rw [encs_cons]; simp [be8_len]; omega
    refine (sync_some B D M nb rm P fi sz a b c av (encs pe) ⟨-1, false, f, []⟩ lv w h.dk h.box h.own h.nf h.ne rfl h1 (by omega) h2 h4 hlen h.fits h.ha h.hb (by simp)).mono ?_
    rintro e w' ⟨sF, E, aF, bF, cF, lv', rfl, hd, hp, hc, hf, hcase⟩
    have hch : Chg (LFoot D M lv P av) w w' := hc.mono (fun k hk => hk.elim .inl (fun h => .inr (.inl h)))
    have hft : ∀ k, LFoot D M lv' P (.slice none 0 0) k → LFoot D M lv P av k ∨ w.heap.size ≤ k := by
      intro k hk
      rcases hk with hk | hk | hk
      · exact (hf k hk).imp .inl id
      · exact .inl (.inr (.inl hk))
      · cases hk
    have hnf : ¬ Foot D M lv' P := fun e => (hf P e).elim h.nf (fun h' => by have := h.box.lt; omega)
    have hfl := h.dk.2.2.2.2.2.2.1
    have hcd : c = 256 * (c / 256) + c % 256 := (Nat.div_add_mod _ _).symm
    have hcl : c % 256 < 256 := Nat.mod_lt _ (by decide)
    have hfit := h.fits
    obtain ⟨q, hq⟩ : ∃ q, c / 256 = q := ⟨_, rfl⟩
    obtain ⟨cnt, hcnt⟩ : ∃ cnt, (c % 256 + (encs pe).length - 1) / 256 = cnt := ⟨_, rfl⟩
    have hk1 : 256 * cnt ≤ c % 256 + (encs pe).length - 1 := by rw [← hcnt]; exact Nat.mul_div_le _ _
    have haw : aw fi ⟨-1, false, f, []⟩ c (encs pe) = wl (fi + (2 + (q : Int))) ((f (fi + (2 + (q : Int)))).take (c % 256) ++ encs pe) (cnt + 1) := by unfold aw; rw [hq, hcnt]
    rw [haw] at hcase
    by_cases hrm : rm ≤ fi + (2 + (q : Int)) + (cnt : Int)
    · obtain ⟨g1, g2⟩ := wsy_full (nb := nb) (rm := rm) (fi + (2 + (q : Int)) + (cnt : Int), padB (((f (fi + (2 + (q : Int)))).take (c % 256) ++ encs pe).drop (256 * cnt))) (wl (fi + (2 + (q : Int))) ((f (fi + (2 + (q : Int)))).take (c % 256) ++ encs pe) cnt) (s := ⟨-1, false, f, []⟩) ⟨rfl, rfl⟩ (by show 0 ≤ fi + (2 + (q : Int)) + (cnt : Int); omega) (by show fi + (2 + (q : Int)) + (cnt : Int) < nb; omega) hrm
      change (DS.wsy nb rm ⟨-1, false, f, []⟩ (wl (fi + (2 + (q : Int))) ((f (fi + (2 + (q : Int)))).take (c % 256) ++ encs pe) (cnt + 1))).2 = 42 at g1
      change (DS.wsy nb rm ⟨-1, false, f, []⟩ (wl (fi + (2 + (q : Int))) ((f (fi + (2 + (q : Int)))).take (c % 256) ++ encs pe) (cnt + 1))).1 = _ at g2
      rw [g1, g2] at hcase
      rcases hcase with ⟨_, rfl, rfl, rfl, rfl, rfl⟩ | ⟨h0, _⟩
      · exact ⟨f, lv', aF, cF, rs, _, { h with dk := hd, box := hp, own := Own.nil _ _, nf := hnf, ne := (fun e => by cases e), af := (fun g hg => by cases hg), fits := (by simp [encs]; omega), rpe := (fun r hr => by cases hr) }, hch, hft, .inr ⟨rfl, rfl, rfl, by omega, hpe⟩⟩
      · exact absurd h0 (by decide)
    · obtain ⟨g1, g2⟩ := wsy_calm (nb := nb) (rm := rm) (wl (fi + (2 + (q : Int))) ((f (fi + (2 + (q : Int)))).take (c % 256) ++ encs pe) (cnt + 1)) (s := ⟨-1, false, f, []⟩) ⟨rfl, rfl⟩ (fun x hx => by have := wl_mem hx; omega)
      obtain ⟨g3, g4⟩ := wsy_calm (nb := nb) (rm := rm) (mw fi (a + 1) b (c + (encs pe).length)) (s := ⟨-1, false, fputs f (wl (fi + (2 + (q : Int))) ((f (fi + (2 + (q : Int)))).take (c % 256) ++ encs pe) (cnt + 1)), []⟩) ⟨rfl, rfl⟩ (fun x hx => by
        rw [mw, List.mem_singleton] at hx
        subst hx
        show 0 ≤ fi + (((a + 1) % 2 : Nat) : Int) ∧ fi + (((a + 1) % 2 : Nat) : Int) < nb ∧ fi + (((a + 1) % 2 : Nat) : Int) < rm
        omega)
      rw [g1, g2, g3, g4] at hcase
      rcases hcase with ⟨h0, _⟩ | ⟨_, rfl, rfl, rfl, rfl, rfl⟩
      · exact absurd rfl h0
      · rw [if_pos rfl, if_pos rfl] at hp
        have hall : Rng ((f (fi + (2 + (q : Int)))).take (c % 256) ++ encs pe) := rng_append ((h.rng _).take _) (encs_rng h.rpe)
        generalize hg : fputs f (wl (fi + (2 + (q : Int))) ((f (fi + (2 + (q : Int)))).take (c % 256) ++ encs pe) (cnt + 1)) = g at *
        have hgr : ∀ n, Rng (g n) := by rw [← hg]; exact fputs_rng _ _ h.rng (wl_rng hall _)
        have hmk : Mk g fi a bF c := h.mkf.away (by rw [← hg]; exact fputs_far _ _ _ (fun x hx => by have := wl_mem hx; omega)) (by rw [← hg]; exact fputs_far _ _ _ (fun x hx => by have := wl_mem hx; omega))
        have hdf : ∀ n, (fputs g (mw fi (a + 1) bF (c + (encs pe).length)) n).length = 256 := hd.2.2.2.2.2.2.1
        have hfar : ∀ n, fi + 2 ≤ n → fputs g (mw fi (a + 1) bF (c + (encs pe).length)) n = g n := fun n hn => fputs_far _ _ _ (fun x hx => by
          rw [mw, List.mem_singleton] at hx
          subst hx
          show fi + (((a + 1) % 2 : Nat) : Int) ≠ n
          omega)
        have hgl : ∀ n, (g n).length = 256 := fun n => by
          rw [← hg]; exact fputs_len _ _ hfl (fun x hx => wl_len hx) n
        have har : areaB (fputs g (mw fi (a + 1) bF (c + (encs pe).length))) (fi + 2) (c + (encs pe).length) = encs (rs ++ pe) := by
          have e1 : areaB (fputs g (mw fi (a + 1) bF (c + (encs pe).length))) (fi + 2) (c + (encs pe).length) = areaB g (fi + 2) (c + (encs pe).length) := by
            unfold areaB
            rw [arB_same _ g _ _ (fun i hi => hfar _ (by omega))]
          rw [e1, area_sync f (fi + 2) c (encs pe) hfl hlen g (by rw [← hg, hq, hcnt]; rw [show fi + (2 + (q : Int)) = fi + 2 + (q : Int) by omega]) hgl, h.area, encs_append]
        exact ⟨_, lv', a + 1, c + (encs pe).length, rs ++ pe, _, { dk := hd, box := hp, own := Own.nil _ _, nf := hnf, ne := (fun e => by cases e), af := (fun g hg => by cases hg), base := h.base, mkf := hmk.next bF (c + (encs pe).length) (by omega) (by omega) (by omega), area := har, fits := (by rw [show encs ([] : List (List Int)) = [] from rfl, List.length_nil]; omega), rng := fputs_rng _ _ hgr (fun x hx => by rw [mw, List.mem_singleton] at hx; subst hx; exact mb_rng _ _ _), rrs := fun r hr => (List.mem_append.1 hr).elim (h.rrs r) (h.rpe r), rpe := (fun r hr => by cases hr), h1 := h1, h2 := h2, h3 := h3, h4 := h4, ha := ha1, hb := hb' }, hch, hft, .inl ⟨rfl, rfl, Nat.le_refl _⟩⟩
end
end Go.Proofs.Ytaibminomehppaa
