import Derived.Test.YtaklkjjoplfokaaLogR
import Derived.WalkKit
import Derived.ProofKit
import Derived.BigQuiet
import Derived.Deep.QuietTactic
import Derived.WalkSpells
import Derived.WalkLawsBesides
import Derived.Lib.Hide
import Derived.Deep.MidRow
import Derived.Deep.RegionLaw
import Derived.BigRegion
import Derived.Laws.AppendOwnNone
import Derived.Deep.DeepMust
import Derived.Deep.AppendLies
import Derived.RegionTactic
import Derived.Deep.WholeRow
import Derived.BigFrame
import Derived.Deep.RegionWith
import Derived.Deep.RegionHeld3
import Derived.Maps.RangeWalk
import Derived.Laws.CopyOwn
import Derived.StillTailTactics

namespace Go.Proofs.Ytaklkjjoplfokaa
open Go.RowKit
section
variable {w w' : World} {B D M : Nat} {nb fz : Int} {f : Int → List Int} {lv : Value} {P : Nat} {fi sz : Int} {a b c : Nat} {rs : List (List Int)} {av : Value} {pe : List (List Int)}
theorem LgF.fresh (h : LgF w B D M nb fz f lv P fi sz a b c rs av pe) (hb : Below w.heap.size w w') : LgF w' B D M nb fz f lv P fi sz a b c rs av pe := h.chg (Chg.fresh (F := fun _ => False) hb) (fun _ _ h => h)
theorem LgF.hB (h : LgF w B D M nb fz f lv P fi sz a b c rs av pe) : B ≤ w.heap.size := by have := h.lt P (.inr (.inl rfl)); omega
theorem LgF.small (h : LgF w B D M nb fz f lv P fi sz a b c rs av pe) : c ≤ 1048576 ∧ (encs pe).length ≤ 1048576 := by
  have := h.fits; have := h.h1; have := h.h2; have := h.h3; have := h.h4; omega
def AfEnds (B D M : Nat) (nb fz : Int) (f : Int → List Int) (lv : Value) (P : Nat) (fi sz : Int) (a b c : Nat) (rs : List (List Int)) (av : Value) (pe : List (List Int)) (m : List Int) (w : World) (e : Ending) (w' : World) : Prop :=
  e = .returned (.int .i64 (if fitsL sz c (encs pe).length m.length = true then 0 else 42)) ∧ ∃ av', LgF w' B D M nb fz f lv P fi sz a b c rs av' (if fitsL sz c (encs pe).length m.length = true then pe ++ [m] else pe) ∧ Chg (LFoot D M lv P av) w w' ∧ (∀ k, LFoot D M lv P av' k → LFoot D M lv P av k ∨ w.heap.size ≤ k)
theorem lf_append (h : LgF w B D M nb fz f lv P fi sz a b c rs av pe) (v2 : Value) (m : List Int) (hbs : Bs w v2 m) (hnb : ∀ ad n c, v2 = .slice (some ad) n c → 0 < m.length → av.ownBlock ≠ some ad.block) (hm : m.length ≤ 16777216) (hr : Rng m) :
    Calls Try.prog 36 #[.pointer (some ⟨P, 0, none⟩), v2] w (AfEnds B D M nb fz f lv P fi sz a b c rs av pe m w) := by
  have hs := h.small
  have h1 := h.h1; have h2 := h.h2; have h3 := h.h3; have h4 := h.h4
  refine (append_any B P D fi sz a b c av v2 (encs pe) m w h.box h.own h.ne h.hB hbs hnb h2 (by omega) hs.1 hs.2 hm).mono ?_
  rintro e w' ⟨rfl, av', hp, ho, hc, ht⟩
  have hfoot : ∀ k, LFoot D M lv P av' k → LFoot D M lv P av k ∨ w.heap.size ≤ k := by
    intro k hk
    rcases hk with hk | hk | hk
    · exact .inl (.inl hk)
    · exact .inl (.inr (.inl hk))
    · exact (ht k hk).imp (fun h => .inr (.inr h)) id
  refine ⟨rfl, av', ?_, hc.mono (fun k hk => hk.elim (fun h => .inr (.inl h)) (fun h => .inr (.inr h))), hfoot⟩
  have hap : ∀ k, Foot D M lv k → ¬ (k = P ∨ av.ownBlock = some k) := fun k hk e => e.elim (fun e => h.nf (by rw [← e]; exact hk)) (fun e => h.af k e hk)
  have hne : av'.ownBlock ≠ some P := fun e => (ht P e).elim h.ne (fun h' => by have := h.box.lt; omega)
  have haf : ∀ g, av'.ownBlock = some g → ¬ Foot D M lv g := fun g hg hk => (ht g hg).elim (fun e => h.af g e hk) (fun h' => by have := (h.dk.foot g hk).2; omega)
  by_cases hf : fitsL sz c (encs pe).length m.length = true
  · rw [if_pos hf] at ho ⊢
    have hf2 : 8 + (m.length : Int) ≤ (sz - 2) * 256 - c - (encs pe).length := of_decide_eq_true hf
    exact { h with dk := h.dk.chg hc hap, box := hp, own := (by rw [encs_snoc]; exact ho), ne := hne, af := haf, fits := (by rw [encs_snoc]; simp [be8_len]; omega), rpe := fun r hr' => (List.mem_append.1 hr').elim (h.rpe r) (fun e => by rw [List.mem_singleton.1 e]; exact hr) }
  · rw [if_neg hf] at ho ⊢
    exact { h with dk := h.dk.chg hc hap, box := hp, own := ho, ne := hne, af := haf }
def RfEnds (B D M : Nat) (nb : Int) (lv : Value) (P : Nat) (fi sz : Int) (a b c : Nat) (rs : List (List Int)) (av : Value) (w : World) (e : Ending) (w' : World) : Prop :=
  ∃ (E : Int) (lv' : Value), e = .returned (.int .i64 E) ∧ Chg (LFoot D M lv P av) w w' ∧ (∀ k, LFoot D M lv' P av k → LFoot D M lv P av k ∨ w.heap.size ≤ k) ∧
    ((E = 0 ∧ ∃ fz' f', LgF w' B D M nb fz' f' lv' P fi sz (a + 1) (b + 1) 0 [] av []) ∨ (E ≠ 0 ∧ Fallen w' B D M nb fi a b c rs (b + 1) 0 [] lv'))
theorem lf_restart (h : LgF w B D M nb fz f lv P fi sz a b c rs av []) (ha1 : a + 1 < 1099511627776) (hb1 : b + 1 < 1099511627776) :
    Calls Try.prog 38 #[.pointer (some ⟨P, 0, none⟩)] w (RfEnds B D M nb lv P fi sz a b c rs av w) := by
  have h1 := h.h1; have h2 := h.h2; have h3 := h.h3; have h4 := h.h4
  obtain ⟨x, y, z, hcl, hxa⟩ := h.clean
  have hfl := h.dk.2.2.2.2.2.2.1
  obtain ⟨sa, sc, hav⟩ := own_form h.own
  have hbx := h.box
  rw [hav, show (encs ([] : List (List Int))).length = 0 from rfl] at hbx
  refine (restart_nil B D M nb nb P fi sz a b c sa sc ⟨fz, false, f, []⟩ lv w h.dk hbx h.nf ⟨h1, by omega⟩ h.ha h.hb (by simp)).mono ?_
  rintro e w' ⟨rfl, lv', hd, hp, hc, hf⟩
  have hch : Chg (LFoot D M lv P av) w w' := hc.mono (fun k hk => hk.elim .inl (fun h => .inr (.inl h)))
  have hft : ∀ k, LFoot D M lv' P av k → LFoot D M lv P av k ∨ w.heap.size ≤ k := by
    intro k hk
    rcases hk with hk | hk | hk
    · exact (hf k hk).imp .inl id
    · exact .inl (.inr (.inl hk))
    · exact .inl (.inr (.inr hk))
  have hnf : ¬ Foot D M lv' P := fun e => (hf P e).elim h.nf (fun h' => by have := h.box.lt; omega)
  have hmwx : ∀ y ∈ mw fi (a + 1) (b + 1) 0, 0 ≤ y.1 ∧ y.1 < nb ∧ y.1 < nb := fun y hy => by
    rw [mw, List.mem_singleton] at hy
    subst hy
    show 0 ≤ fi + (((a + 1) % 2 : Nat) : Int) ∧ fi + (((a + 1) % 2 : Nat) : Int) < nb ∧ fi + (((a + 1) % 2 : Nat) : Int) < nb
    omega
  have hmwr : ∀ y ∈ mw fi (a + 1) (b + 1) 0, Rng y.2 := fun y hy => by rw [mw, List.mem_singleton] at hy; subst hy; exact mb_rng _ _ _
  have hlen := wsy_L nb nb (mw fi (a + 1) (b + 1) 0) ⟨fz, false, f, []⟩
  have hn2 : ((a + 1) % 2 : Nat) < 2 := Nat.mod_lt _ (by decide)
  have hn3 : (a % 2 : Nat) < 2 := Nat.mod_lt _ (by decide)
  have hne2 : fi + ((a % 2 : Nat) : Int) ≠ fi + (((a + 1) % 2 : Nat) : Int) := by omega
  have hp2 : ∀ a' b' c' : Nat, LgIs w' P D fi sz a' b' c' (.slice sa 0 sc) → LgIs w' P D fi sz a' b' c' av := fun _ _ _ hh => by rw [hav, show (encs ([] : List (List Int))).length = 0 from rfl]; exact hh
  by_cases hE : (DS.wsy nb nb ⟨fz, false, f, []⟩ (mw fi (a + 1) (b + 1) 0)).2 = 0
  · obtain ⟨m1, m2, m3⟩ := wsy_ok hE
    rw [if_pos hE, if_pos hE, if_pos hE] at hp
    have hd' : Dk w' B D M nb nb (DS.wsy nb nb ⟨fz, false, f, []⟩ (mw fi (a + 1) (b + 1) 0)).1.fz false (DS.wsy nb nb ⟨fz, false, f, []⟩ (mw fi (a + 1) (b + 1) 0)).1.f [] lv' := by
      have := hd
      unfold DkS at this
      rw [m2, m3] at this
      exact this
    refine ⟨_, lv', rfl, hch, hft, .inl ⟨hE, _, _, { dk := hd', box := hp2 _ _ _ hp, own := h.own.chg hc (fun g hg e => e.elim (h.af g hg) (fun e => h.ne (by rw [hg, e]))), nf := hnf, ne := h.ne, af := (fun g hg hk => (hf g hk).elim (h.af g hg) (fun h' => by have := (h.own.lt g hg).2; omega)), base := h.base, mkf := ?_, ex := ?_, clean := ?_, area := rfl, fits := (by rw [show encs ([] : List (List Int)) = [] from rfl, List.length_nil]; omega), rng := ?_, rrs := (fun r hr => by cases hr), rpe := (fun r hr => by cases hr), h1 := h1, h2 := h2, h3 := h3, h4 := h4, ha := ha1, hb := hb1 }⟩⟩
    · rw [m1]
      exact h.mkf.next (b + 1) 0 (by omega) (by omega) (by decide)
    · rw [m1]
      exact fput_at _ _ _
    · refine ⟨a, b, c, ?_, by omega⟩
      rw [m1, show (a + 1 + 1) % 2 = a % 2 by omega]
      show fput f _ _ _ = _
      rw [fput_ne _ _ _ _ hne2]
      exact h.ex
    · intro n; rw [m1]; exact fputs_rng _ _ h.rng hmwr n
  · have hdn := wsy_down hmwx hE
    refine ⟨_, lv', rfl, hch, hft, .inr ⟨hE, _, _, _, by have := hd; unfold DkS at this; rw [hdn] at this; exact this, ?_, fun ks t => ⟨crash_mark rfl h.mkf hcl hxa (by omega) (by omega) (by decide) h.area rfl hE ks t, up_rng rfl h.rng hmwr hE ks t⟩⟩⟩
    have : (mw fi (a + 1) (b + 1) 0).length = 1 := rfl
    simp at hlen
    omega
/-- behind a fall, the disk comes up with the log as it was or as it was to be -/
theorem fallen_up {b' c' : Nat} {rs' : List (List Int)} {kv : Value} {ks : List Bool} {t : Int} (h : Fallen w B D M nb fi a b c rs b' c' rs' lv) (hkb : Bools w kv ks) (hkd : ∀ b o n c, kv = .slice (some ⟨b, o, none⟩) n c → 0 < ks.length → b ≠ M) (hkl : ks.length ≤ 1048576) :
    Calls Try.prog 21 #[.pointer (some ⟨D, 0, none⟩), kv, .int .i64 t] w fun e w' => e = .returned (.tuple #[]) ∧ (∃ g, Dk w' B D M nb nb (-1) false g [] (.slice none 0 0) ∧ Up2 g fi a b c rs b' c' rs' ∧ ∀ n, Rng (g n)) ∧ Chg (fun k => k = D ∨ k = M) w w' := by
  obtain ⟨fz, f, L, hd, hl, hu⟩ := h
  refine (up_any B D M nb nb fz t true f L lv kv ks w hd hkb hkd (by omega) (by omega)).mono ?_
  rintro e w' ⟨rfl, hd', hc⟩
  exact ⟨rfl, ⟨_, hd', (hu ks t).1, (hu ks t).2⟩, hc⟩
end
end Go.Proofs.Ytaklkjjoplfokaa
