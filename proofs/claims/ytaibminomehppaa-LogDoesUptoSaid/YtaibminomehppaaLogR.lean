import Derived.Test.YtaibminomehppaaLogQ
import Derived.WalkKit
import Derived.ProofKit
import Derived.BigQuiet
import Derived.Deep.QuietTactic
import Derived.WalkSpells
import Derived.WalkLawsBesides
import Derived.Lib.Hide
import Derived.Deep.MidRow
import Derived.Deep.RegionLaw
import Derived.BigRegion
import Derived.Laws.AppendOwnNone
import Derived.Deep.DeepMust
import Derived.Deep.AppendLies
import Derived.RegionTactic
import Derived.Deep.WholeRow
import Derived.BigFrame
import Derived.Deep.RegionWith
import Derived.Deep.RegionHeld3
import Derived.Maps.RangeWalk
import Derived.Laws.CopyOwn
import Derived.StillTailTactics

namespace Go.Proofs.Ytaibminomehppaa
open Go.RowKit
theorem wErr_in {nb rm fz n : Int} {dn : Bool} (h0 : 0 ≤ n) (h1 : n < nb) (h2 : n < rm) : wErr nb rm fz n dn = if opOk fz dn = true then 0 else 44 := by
  unfold wErr
  split
  · rw [if_pos (by simp [hasB]; omega), if_neg (by omega)]
  · rfl
theorem opDn_not (fz : Int) (dn : Bool) (h : ¬ opOk fz dn = true) : opDn fz dn = true := by
  have : opDn fz dn = !opOk fz dn := by simp [opDn, opOk]
  rw [this]
  cases hh : opOk fz dn
  · rfl
  · exact absurd hh h
theorem ws_down (nb rm : Int) : ∀ (l : List (Int × List Int)) (s : DS), (∀ x ∈ l, 0 ≤ x.1 ∧ x.1 < nb ∧ x.1 < rm) → (s.ws nb rm l).2 ≠ 0 → (s.ws nb rm l).1.dn = true
  | [], s, _, h => absurd rfl h
  | y :: r, s, hx, h => by
    obtain ⟨h0, h1, h2⟩ := hx y (List.mem_cons_self ..)
    unfold DS.ws at h ⊢
    by_cases he : s.we nb rm y.1 = 0
    · rw [if_pos he] at h ⊢
      exact ws_down nb rm r _ (fun z hz => hx z (List.mem_cons_of_mem _ hz)) h
    · rw [if_neg he]
      show opDn s.fz s.dn = true
      apply opDn_not
      intro ho
      exact he (by unfold DS.we; rw [wErr_in h0 h1 h2, if_pos ho])
theorem wsy_down {nb rm : Int} {l : List (Int × List Int)} {s : DS} (hx : ∀ x ∈ l, 0 ≤ x.1 ∧ x.1 < nb ∧ x.1 < rm) (h : (s.wsy nb rm l).2 ≠ 0) : (s.wsy nb rm l).1.dn = true := by
  unfold DS.wsy at h ⊢
  by_cases he : (s.ws nb rm l).2 = 0
  · rw [if_pos he] at h ⊢
    show opDn _ _ = true
    apply opDn_not
    intro ho
    exact h (by dsimp only; unfold DS.se; rw [if_pos ho])
  · rw [if_neg he]
    exact ws_down nb rm l s hx he
theorem tear_rng {b a : List Int} {t : Int} (hb : Rng b) (ha : Rng a) : Rng (tearL b a t) := by
  unfold tearL
  split
  · exact ha
  · exact rng_append (ha.take _) (hb.drop _)
theorem up_rng {nb rm : Int} {l : List (Int × List Int)} {s : DS} (hL : s.L = []) (hr : ∀ n, Rng (s.f n)) (hl : ∀ y ∈ l, Rng y.2) (h : (s.wsy nb rm l).2 ≠ 0) (ks : List Bool) (t : Int) (n : Int) : Rng (upF (s.wsy nb rm l).1.f (s.wsy nb rm l).1.L ks t n) := by
  obtain ⟨e1, e2⟩ := wsy_bad h
  obtain ⟨u1, u2⟩ := ws_undo nb rm l s
  rw [hL] at u1 u2
  rw [e1, e2]
  refine upF_every (S := fun _ b => Rng b) (fun n => by rw [u1]; exact hr n) (fun x hx => ?_) (fun x hx b hb => ?_) ks n
  · rcases u2 x hx with h | ⟨y, hy, _, h2⟩
    · cases h
    · rw [h2]; exact hl y hy
  · rcases u2 x hx with h | ⟨y, hy, _, h2⟩
    · cases h
    · rw [h2]; exact tear_rng hb (hl y hy)
/-- a log on a disk that may fail, and has not yet -/
structure LgF (w : World) (B D M : Nat) (nb fz : Int) (f : Int → List Int) (lv : Value) (P : Nat) (fi sz : Int) (a b c : Nat) (rs : List (List Int)) (av : Value) (pe : List (List Int)) : Prop where
  dk : Dk w B D M nb nb fz false f [] lv
  box : LgIs w P D fi sz a b c av
  own : Own w B av (encs pe)
  nf : ¬ Foot D M lv P
  ne : av.ownBlock ≠ some P
  af : ∀ g, av.ownBlock = some g → ¬ Foot D M lv g
  base : B ≤ P
  mkf : Mk f fi a b c
  ex : f (fi + (a % 2 : Nat)) = mb a b c
  clean : ∃ x y z, f (fi + ((a + 1) % 2 : Nat)) = mb x y z ∧ x < a
  area : areaB f (fi + 2) c = encs rs
  fits : ((c + (encs pe).length : Nat) : Int) ≤ (sz - 2) * 256
  rng : ∀ n, Rng (f n)
  rrs : ∀ r ∈ rs, Rng r
  rpe : ∀ r ∈ pe, Rng r
  h1 : 0 ≤ fi
  h2 : 3 ≤ sz
  h3 : fi ≤ nb - sz
  h4 : nb ≤ 4096
  ha : a < 1099511627776
  hb : b < 1099511627776
/-- a disk that went down: what comes up is the log as it was, or as it was to be -/
def Fallen (w : World) (B D M : Nat) (nb : Int) (fi : Int) (a b c : Nat) (rs : List (List Int)) (b' c' : Nat) (rs' : List (List Int)) (lv : Value) : Prop :=
  ∃ fz f L, Dk w B D M nb nb fz true f L lv ∧ L.length ≤ 8192 ∧ ∀ ks t, Up2 (upF f L ks t) fi a b c rs b' c' rs' ∧ ∀ n, Rng (upF f L ks t n)
section
variable {w w' : World} {B D M : Nat} {nb fz : Int} {f : Int → List Int} {lv : Value} {P : Nat} {fi sz : Int} {a b c : Nat} {rs : List (List Int)} {av : Value} {pe : List (List Int)}
theorem LgF.lt (h : LgF w B D M nb fz f lv P fi sz a b c rs av pe) : ∀ k, LFoot D M lv P av k → B ≤ k ∧ k < w.heap.size := by
  intro k hk
  rcases hk with hk | rfl | hk
  · exact h.dk.foot k hk
  · exact ⟨h.base, h.box.lt⟩
  · exact h.own.lt k hk
theorem LgF.chg (h : LgF w B D M nb fz f lv P fi sz a b c rs av pe) {F : Nat → Prop} (hc : Chg F w w') (hF : ∀ k, LFoot D M lv P av k → ¬ F k) : LgF w' B D M nb fz f lv P fi sz a b c rs av pe :=
  { h with dk := h.dk.chg hc (fun k hk => hF k (.inl hk)), box := h.box.chg hc (hF P (.inr (.inl rfl))), own := h.own.chg hc (fun g hg => hF g (.inr (.inr hg))) }
def SfEnds (B D M : Nat) (nb : Int) (lv : Value) (P : Nat) (fi sz : Int) (a b c : Nat) (rs : List (List Int)) (av : Value) (pe : List (List Int)) (w : World) (e : Ending) (w' : World) : Prop :=
  ∃ (E : Int) (lv' : Value), e = .returned (.int .i64 E) ∧ Chg (LFoot D M lv P av) w w' ∧ (∀ k, LFoot D M lv' P (.slice none 0 0) k → LFoot D M lv P av k ∨ w.heap.size ≤ k) ∧
    ((E = 0 ∧ ∃ fz' f', LgF w' B D M nb fz' f' lv' P fi sz (a + 1) b (c + (encs pe).length) (rs ++ pe) (.slice none 0 0) []) ∨ (E ≠ 0 ∧ Fallen w' B D M nb fi a b c rs b (c + (encs pe).length) (rs ++ pe) lv'))
theorem lf_sync (h : LgF w B D M nb fz f lv P fi sz a b c rs av pe) (hpe : pe ≠ []) (ha1 : a + 1 < 1099511627776) :
    Calls Try.prog 32 #[.pointer (some ⟨P, 0, none⟩)] w (SfEnds B D M nb lv P fi sz a b c rs av pe w) := by
  have h1 := h.h1; have h2 := h.h2; have h3 := h.h3; have h4 := h.h4; have hb' := h.hb
  obtain ⟨x, y, z, hcl, hxa⟩ := h.clean
  have hlen : 0 < (encs pe).length := by
    obtain ⟨r, pe', rfl⟩ := List.exists_cons_of_ne_nil hpe
    rw [encs_cons]; simp [be8_len]; omega
  have hfl := h.dk.2.2.2.2.2.2.1
  have hfit := h.fits
  refine (sync_some B D M nb nb P fi sz a b c av (encs pe) ⟨fz, false, f, []⟩ lv w h.dk h.box h.own h.nf h.ne rfl h1 (by omega) h2 h4 hlen h.fits h.ha h.hb (by simp)).mono ?_
  rintro e w' ⟨sF, E, aF, bF, cF, lv', rfl, hd, hp, hc, hf, hcase⟩
  have hch : Chg (LFoot D M lv P av) w w' := hc.mono (fun k hk => hk.elim .inl (fun h => .inr (.inl h)))
  have hft : ∀ k, LFoot D M lv' P (.slice none 0 0) k → LFoot D M lv P av k ∨ w.heap.size ≤ k := by
    intro k hk
    rcases hk with hk | hk | hk
    · exact (hf k hk).imp .inl id
    · exact .inl (.inr (.inl hk))
    · cases hk
  have hnf : ¬ Foot D M lv' P := fun e => (hf P e).elim h.nf (fun h' => by have := h.box.lt; omega)
  have hcd : c = 256 * (c / 256) + c % 256 := (Nat.div_add_mod _ _).symm
  have hcl2 : c % 256 < 256 := Nat.mod_lt _ (by decide)
  have hk1 : 256 * ((c % 256 + (encs pe).length - 1) / 256) ≤ c % 256 + (encs pe).length - 1 := Nat.mul_div_le _ _
  have hawx : ∀ y ∈ aw fi ⟨fz, false, f, []⟩ c (encs pe), fi + 2 ≤ y.1 ∧ y.1 < nb ∧ y.1 < nb := fun y hy => by
    unfold aw at hy
    have := wl_mem hy
    omega
  have hmwx : ∀ y ∈ mw fi (a + 1) b (c + (encs pe).length), 0 ≤ y.1 ∧ y.1 < nb ∧ y.1 < nb := fun y hy => by
    rw [mw, List.mem_singleton] at hy
    subst hy
    show 0 ≤ fi + (((a + 1) % 2 : Nat) : Int) ∧ fi + (((a + 1) % 2 : Nat) : Int) < nb ∧ fi + (((a + 1) % 2 : Nat) : Int) < nb
    omega
  have hall : Rng ((f (fi + (2 + (c / 256 : Nat)))).take (c % 256) ++ encs pe) := rng_append ((h.rng _).take _) (encs_rng h.rpe)
  have hawr : ∀ y ∈ aw fi ⟨fz, false, f, []⟩ c (encs pe), Rng y.2 := fun y hy => by unfold aw at hy; exact wl_rng hall _ y hy
  have hawl : ∀ y ∈ aw fi ⟨fz, false, f, []⟩ c (encs pe), y.2.length = 256 := fun y hy => by unfold aw at hy; exact wl_len hy
  have hmwr : ∀ y ∈ mw fi (a + 1) b (c + (encs pe).length), Rng y.2 := fun y hy => by rw [mw, List.mem_singleton] at hy; subst hy; exact mb_rng _ _ _
  have hlen1 := wsy_L nb nb (aw fi ⟨fz, false, f, []⟩ c (encs pe)) ⟨fz, false, f, []⟩
  have hawn : (aw fi ⟨fz, false, f, []⟩ c (encs pe)).length ≤ 4100 := by rw [aw, wl_length]; omega
  have hcs := fun ks t hw hfl' => crash_sync (nb := nb) (rm := nb) (fi := fi) (s := ⟨fz, false, f, []⟩) (a := a) (b := b) (c := c) (rs := rs) (pe := pe) rfl hfl h.mkf hcl hxa (by omega) (by omega) (by omega) h.area hlen ks t hw hfl'
  by_cases hE1 : (DS.wsy nb nb ⟨fz, false, f, []⟩ (aw fi ⟨fz, false, f, []⟩ c (encs pe))).2 = 0
  · obtain ⟨k1, k2, k3⟩ := wsy_ok hE1
    have hw1 : WOK (DS.wsy nb nb ⟨fz, false, f, []⟩ (aw fi ⟨fz, false, f, []⟩ c (encs pe))).1.L := by rw [k2]; intro x hx; cases hx
    have hl1 : ∀ n, ((DS.wsy nb nb ⟨fz, false, f, []⟩ (aw fi ⟨fz, false, f, []⟩ c (encs pe))).1.f n).length = 256 := fun n => by rw [k1]; exact fputs_len _ _ hfl hawl n
    have hr1 : ∀ n, Rng ((DS.wsy nb nb ⟨fz, false, f, []⟩ (aw fi ⟨fz, false, f, []⟩ c (encs pe))).1.f n) := fun n => by rw [k1]; exact fputs_rng _ _ h.rng hawr n
    have hcs2 := fun ks t => (hcs ks t hw1 hl1).2 hE1
    rcases hcase with ⟨hne, _⟩ | ⟨_, e1, e2, e3, e4, e5⟩
    · exact absurd hE1 hne
    · have hfar : ∀ n, n < fi + 2 → (DS.wsy nb nb ⟨fz, false, f, []⟩ (aw fi ⟨fz, false, f, []⟩ c (encs pe))).1.f n = f n := fun n hn => by
        rw [k1]
        exact fputs_far _ _ _ (fun y hy => by have := hawx y hy; omega)
      have har : areaB (DS.wsy nb nb ⟨fz, false, f, []⟩ (aw fi ⟨fz, false, f, []⟩ c (encs pe))).1.f (fi + 2) (c + (encs pe).length) = encs (rs ++ pe) := by
        rw [area_sync f (fi + 2) c (encs pe) hfl hlen _ (by rw [k1]; unfold aw; rw [show fi + (2 + ((c / 256 : Nat) : Int)) = fi + 2 + ((c / 256 : Nat) : Int) by omega]) hl1, h.area, encs_append]
      generalize hs1 : (DS.wsy nb nb ⟨fz, false, f, []⟩ (aw fi ⟨fz, false, f, []⟩ c (encs pe))).1 = s1 at *
      by_cases hE2 : (s1.wsy nb nb (mw fi (a + 1) b (c + (encs pe).length))).2 = 0
      · obtain ⟨m1, m2, m3⟩ := wsy_ok hE2
        have hE : E = 0 := e2.trans hE2
        rw [if_pos hE] at e3 e5
        subst e1 e3 e4 e5
        have hd' : Dk w' B D M nb nb (s1.wsy nb nb (mw fi (a + 1) bF (c + (encs pe).length))).1.fz false (s1.wsy nb nb (mw fi (a + 1) bF (c + (encs pe).length))).1.f [] lv' := by
          have := hd
          unfold DkS at this
          rw [m2, m3] at this
          exact this
        have hn2 : ((a + 1) % 2 : Nat) < 2 := Nat.mod_lt _ (by decide)
        have hn3 : (a % 2 : Nat) < 2 := Nat.mod_lt _ (by decide)
        have hne2 : fi + ((a % 2 : Nat) : Int) ≠ fi + (((a + 1) % 2 : Nat) : Int) := by omega
        refine ⟨E, lv', rfl, hch, hft, .inl ⟨hE, _, _, { dk := hd', box := hp, own := Own.nil _ _, nf := hnf, ne := (fun e => by cases e), af := (fun g hg => by cases hg), base := h.base, mkf := ?_, ex := ?_, clean := ?_, area := ?_, fits := ?_, rng := ?_, rrs := (fun r hr => (List.mem_append.1 hr).elim (h.rrs r) (h.rpe r)), rpe := (fun r hr => by cases hr), h1 := h1, h2 := h2, h3 := h3, h4 := h4, ha := ha1, hb := hb' }⟩⟩
        · rw [m1]
          exact (h.mkf.away (hfar _ (by omega)) (hfar _ (by omega))).next bF (c + (encs pe).length) (by omega) (by omega) (by omega)
        · rw [m1]
          exact fput_at _ _ _
        · refine ⟨a, bF, c, ?_, by omega⟩
          rw [m1, show (a + 1 + 1) % 2 = a % 2 by omega]
          show fput s1.f _ _ _ = _
          rw [fput_ne _ _ _ _ hne2, hfar _ (by omega)]
          exact h.ex
        · rw [m1, ← har]
          unfold areaB
          rw [arB_same (fputs s1.f (mw fi (a + 1) bF (c + (encs pe).length))) s1.f (fi + 2) _ (fun i _ => (fput_ne s1.f (fi + ((a + 1) % 2 : Nat)) (fi + 2 + (i : Int)) (mb (a + 1) bF (c + (encs pe).length)) (by omega) : fputs s1.f (mw fi (a + 1) bF (c + (encs pe).length)) (fi + 2 + (i : Int)) = s1.f (fi + 2 + (i : Int))))]
        · rw [show encs ([] : List (List Int)) = [] from rfl, List.length_nil]; omega
        · intro n; rw [m1]; exact fputs_rng _ _ hr1 hmwr n
      · have hE : E ≠ 0 := fun e => hE2 (e2.symm.trans e)
        subst e1
        have hdn := wsy_down hmwx hE2
        have hlen2 := wsy_L nb nb (mw fi (a + 1) b (c + (encs pe).length)) s1
        refine ⟨E, lv', rfl, hch, hft, .inr ⟨hE, _, _, _, by have := hd; unfold DkS at this; rw [hdn] at this; exact this, ?_, fun ks t => ⟨hcs2 ks t hE2, up_rng k2 hr1 hmwr hE2 ks t⟩⟩⟩
        rw [k2] at hlen2
        have : (mw fi (a + 1) b (c + (encs pe).length)).length = 1 := rfl
        simp at hlen2
        omega
  · rcases hcase with ⟨_, e1, e2, _⟩ | ⟨h0, _⟩
    · have hE : E ≠ 0 := fun e => hE1 (e2.symm.trans e)
      subst e1
      have hdn := wsy_down (nb := nb) (rm := nb) (fun y hy => ⟨by have := hawx y hy; omega, (hawx y hy).2⟩) hE1
      refine ⟨E, lv', rfl, hch, hft, .inr ⟨hE, _, _, _, by have := hd; unfold DkS at this; rw [hdn] at this; exact this, ?_, fun ks t => ⟨(hcs ks t hd.2.2.2.2.2.2.2 hd.2.2.2.2.2.2.1).1 hE1, up_rng rfl h.rng hawr hE1 ks t⟩⟩⟩
      simp only [List.length_nil] at hlen1
      omega
    · exact absurd h0 hE1
end
end Go.Proofs.Ytaibminomehppaa
