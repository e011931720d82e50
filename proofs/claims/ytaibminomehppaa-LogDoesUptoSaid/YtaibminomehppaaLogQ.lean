import Derived.Test.YtaibminomehppaaLogP
import Derived.WalkKit
import Derived.ProofKit
import Derived.BigQuiet
import Derived.Deep.QuietTactic
import Derived.WalkSpells
import Derived.WalkLawsBesides
import Derived.Lib.Hide
import Derived.Deep.MidRow
import Derived.Deep.RegionLaw
import Derived.BigRegion
import Derived.Laws.AppendOwnNone
import Derived.Deep.DeepMust
import Derived.Deep.AppendLies
import Derived.RegionTactic
import Derived.Deep.WholeRow
import Derived.BigFrame
import Derived.Deep.RegionWith
import Derived.Deep.RegionHeld3
import Derived.Maps.RangeWalk
import Derived.Laws.CopyOwn
import Derived.StillTailTactics

namespace Go.Proofs.Ytaibminomehppaa
open Go.RowKit
theorem ws_ok (nb rm : Int) : ∀ (l : List (Int × List Int)) (s : DS), (s.ws nb rm l).2 = 0 → (s.ws nb rm l).1.f = fputs s.f l
  | [], _, _ => rfl
  | y :: r, s, h => by
    unfold DS.ws at h ⊢
    by_cases he : s.we nb rm y.1 = 0
    · rw [if_pos he] at h ⊢
      rw [ws_ok nb rm r _ h]
      show fputs (s.wr nb rm y.1 y.2).f r = fputs (fput s.f y.1 y.2) r
      rw [show (s.wr nb rm y.1 y.2).f = fput s.f y.1 y.2 from if_pos he]
    · rw [if_neg he] at h
      exact absurd h he
theorem wsy_ok {nb rm : Int} {l : List (Int × List Int)} {s : DS} (h : (s.wsy nb rm l).2 = 0) : (s.wsy nb rm l).1.f = fputs s.f l ∧ (s.wsy nb rm l).1.L = [] ∧ (s.wsy nb rm l).1.dn = false := by
  unfold DS.wsy at h ⊢
  by_cases he : (s.ws nb rm l).2 = 0
  · rw [if_pos he] at h ⊢
    have hok : opOk (s.ws nb rm l).1.fz (s.ws nb rm l).1.dn = true := by
      dsimp only at h
      unfold DS.se at h
      by_cases ho : opOk (s.ws nb rm l).1.fz (s.ws nb rm l).1.dn = true
      · exact ho
      · rw [if_neg ho] at h; exact absurd h (by decide)
    refine ⟨ws_ok nb rm l s he, ?_, ?_⟩
    · unfold DS.sy; simp only [hok, if_true]
    · show opDn _ _ = false
      have : opDn (s.ws nb rm l).1.fz (s.ws nb rm l).1.dn = !opOk (s.ws nb rm l).1.fz (s.ws nb rm l).1.dn := by simp [opDn, opOk]
      rw [this, hok]; rfl
  · rw [if_neg he] at h
    exact absurd h he
theorem wsy_bad {nb rm : Int} {l : List (Int × List Int)} {s : DS} (h : (s.wsy nb rm l).2 ≠ 0) : (s.wsy nb rm l).1.f = (s.ws nb rm l).1.f ∧ (s.wsy nb rm l).1.L = (s.ws nb rm l).1.L := by
  unfold DS.wsy at h ⊢
  by_cases he : (s.ws nb rm l).2 = 0
  · rw [if_pos he] at h ⊢
    have hok : ¬ opOk (s.ws nb rm l).1.fz (s.ws nb rm l).1.dn = true := fun ho => h (by dsimp only; unfold DS.se; rw [if_pos ho])
    refine ⟨rfl, ?_⟩
    unfold DS.sy; simp only [if_neg hok]
  · rw [if_neg he]
    exact ⟨rfl, rfl⟩
/-- the first block's head stays -/
theorem wl_head {n : Int} {l0 al : List Int} {ins : Nat} : ∀ {k : Nat} {x : Int × List Int}, x ∈ wl n (l0 ++ al) k → x.1 = n → l0.length = ins → ins ≤ 256 → x.2.take ins = l0
  | 0, x, h, _, _, _ => by cases h
  | k + 1, x, h, hn, hl, hi => by
    rcases List.mem_cons.1 h with h | h
    · subst h
      have hk : k = 0 := by
        have : n + (k : Int) = n := hn
        omega
      subst hk
      show (padB ((l0 ++ al).drop (256 * 0))).take ins = l0
      rw [Nat.mul_zero, List.drop_zero, padB, List.take_append_of_le_length (by rw [List.length_take, List.length_append]; omega), List.take_take, Nat.min_eq_left hi, List.take_append_of_le_length (by omega), List.take_of_length_le (by omega)]
    · exact wl_head h hn hl hi
/-- A CRASH AMONG THE WRITES OF THE RECORDS: the marks and the area's bytes are as before, whichever writes survive, the last one torn -/
theorem crash_area {nb rm fi : Int} {s : DS} {c : Nat} {al : List Int} (hL : s.L = []) (hf : ∀ n, (s.f n).length = 256) (hbad : (s.wsy nb rm (aw fi s c al)).2 ≠ 0) (ks : List Bool) (t : Int) (hgl : ∀ n, (upF (s.wsy nb rm (aw fi s c al)).1.f (s.wsy nb rm (aw fi s c al)).1.L ks t n).length = 256) :
    (∀ n, n < fi + 2 → upF (s.wsy nb rm (aw fi s c al)).1.f (s.wsy nb rm (aw fi s c al)).1.L ks t n = s.f n) ∧ areaB (upF (s.wsy nb rm (aw fi s c al)).1.f (s.wsy nb rm (aw fi s c al)).1.L ks t) (fi + 2) c = areaB s.f (fi + 2) c := by
  obtain ⟨e1, e2⟩ := wsy_bad hbad
  obtain ⟨u1, u2⟩ := ws_undo nb rm (aw fi s c al) s
  rw [hL] at u1 u2
  have hund : undoF (s.ws nb rm (aw fi s c al)).1.f (s.ws nb rm (aw fi s c al)).1.L = s.f := u1
  rw [e1, e2] at hgl ⊢
  have hcd : c = 256 * (c / 256) + c % 256 := (Nat.div_add_mod _ _).symm
  have hlt : c % 256 < 256 := Nat.mod_lt _ (by decide)
  obtain ⟨q, hq⟩ : ∃ q, c / 256 = q := ⟨_, rfl⟩
  obtain ⟨ins, hins⟩ : ∃ ins, c % 256 = ins := ⟨_, rfl⟩
  have haw : aw fi s c al = wl (fi + (2 + (q : Int))) ((s.f (fi + (2 + (q : Int)))).take ins ++ al) ((ins + al.length - 1) / 256 + 1) := by unfold aw; rw [hq, hins]
  rw [hq, hins] at hcd
  rw [hins] at hlt
  have hll : ((s.f (fi + (2 + (q : Int)))).take ins).length = ins := by rw [List.length_take, hf]; omega
  have key := upF_every (f := (s.ws nb rm (aw fi s c al)).1.f) (L := (s.ws nb rm (aw fi s c al)).1.L) (t := t)
    (S := fun n b => b.length = 256 ∧ (n < fi + (2 + (q : Int)) → b = s.f n) ∧ (n = fi + (2 + (q : Int)) → b.take ins = (s.f n).take ins))
    (fun n => by rw [hund]; exact ⟨hf n, fun _ => rfl, fun _ => rfl⟩)
    (fun x hx => by
      rcases u2 x hx with h | ⟨y, hy, h1, h2⟩
      · cases h
      · rw [haw] at hy
        rw [h1, h2]
        exact ⟨wl_len hy, fun h => by have := wl_mem hy; omega, fun h => (wl_head hy h hll (by omega)).trans (by rw [h])⟩)
    (fun x hx b hb => by
      rcases u2 x hx with h | ⟨y, hy, h1, h2⟩
      · cases h
      · rw [haw] at hy
        rw [h1] at hb ⊢
        rw [h2]
        obtain ⟨hb1, hb2, hb3⟩ := hb
        have hyl : y.2.length = 256 := wl_len hy
        refine ⟨?_, fun h => by have := wl_mem hy; omega, fun h => ?_⟩
        · unfold tearL
          split
          · exact hyl
          · rw [List.length_append, List.length_take, List.length_drop]; omega
        · have hh := wl_head hy h hll (by omega)
          rw [take_tear b y.2 t ins (by rw [hb3 h, hh, h]) (by omega)]
          exact hb3 h)
    ks
  refine ⟨fun n hn => (key n).2.1 (by omega), ?_⟩
  obtain ⟨g, hg⟩ : ∃ g, upF (s.ws nb rm (aw fi s c al)).1.f (s.ws nb rm (aw fi s c al)).1.L ks t = g := ⟨_, rfl⟩
  rw [hg] at key hgl ⊢
  rw [← areaB_eq g (fi + 2) hgl (q + 1) c (by omega), ← areaB_eq s.f (fi + 2) hf (q + 1) c (by omega), arB, arB, List.take_append, List.take_append, arB_len g _ hgl, arB_len s.f _ hf, arB_same g s.f (fi + 2) q (fun i hi => (key _).2.1 (by omega))]
  congr 1
  rw [show c - 256 * q = ins by omega, show fi + 2 + (q : Int) = fi + (2 + (q : Int)) by omega]
  exact (key _).2.2 rfl
theorem areaB_take (f : Int → List Int) (b : Int) (hf : ∀ n, (f n).length = 256) (k m : Nat) (h : k ≤ m) : (areaB f b m).take k = areaB f b k := by
  unfold areaB
  rw [List.take_take, Nat.min_eq_left h]
  exact areaB_eq f b hf m k (by omega)
/-- what comes up behind a crash: the log as it was, or as it was to be -/
def Up2 (g : Int → List Int) (fi : Int) (a b c : Nat) (rs : List (List Int)) (b' c' : Nat) (rs' : List (List Int)) : Prop :=
  (Mk g fi a b c ∧ areaB g (fi + 2) c = encs rs) ∨ (Mk g fi (a + 1) b' c' ∧ areaB g (fi + 2) c' = encs rs')
/-- A CRASH AT A MARK -/
theorem crash_mark {nb rm fi : Int} {s : DS} {a b c b' c' x y z : Nat} {rs rs' : List (List Int)} (hL : s.L = []) (hmk : Mk s.f fi a b c) (ho : s.f (fi + ((a + 1) % 2 : Nat)) = mb x y z) (hx : x < a) (ha : a + 1 < 18446744073709551616) (hb : b' < 18446744073709551616) (hc : c' < 18446744073709551616)
    (hA : areaB s.f (fi + 2) c = encs rs) (hA' : areaB s.f (fi + 2) c' = encs rs') (hbad : (s.wsy nb rm (mw fi (a + 1) b' c')).2 ≠ 0) (ks : List Bool) (t : Int) : Up2 (upF (s.wsy nb rm (mw fi (a + 1) b' c')).1.f (s.wsy nb rm (mw fi (a + 1) b' c')).1.L ks t) fi a b c rs b' c' rs' := by
  obtain ⟨e1, e2⟩ := wsy_bad hbad
  rw [e1, e2]
  have hn2 : ((a + 1) % 2 : Nat) < 2 := Nat.mod_lt _ (by decide)
  have hfar : ∀ (o : List Int) (k : Nat), areaB (fput s.f (fi + ((a + 1) % 2 : Nat)) o) (fi + 2) k = areaB s.f (fi + 2) k := fun o k => by
    unfold areaB
    rw [arB_same _ s.f _ _ (fun i _ => fput_ne _ _ _ _ (by omega))]
  have hws : ((s.ws nb rm (mw fi (a + 1) b' c')).1.f = s.f ∧ (s.ws nb rm (mw fi (a + 1) b' c')).1.L = []) ∨ ((s.ws nb rm (mw fi (a + 1) b' c')).1.f = fput s.f (fi + ((a + 1) % 2 : Nat)) (mb (a + 1) b' c') ∧ (s.ws nb rm (mw fi (a + 1) b' c')).1.L = [(fi + ((a + 1) % 2 : Nat), s.f (fi + ((a + 1) % 2 : Nat)), mb (a + 1) b' c')]) := by
    unfold mw DS.ws
    by_cases h : s.we nb rm (fi + ((a + 1) % 2 : Nat)) = 0
    · right
      simp only [if_pos h, DS.ws]
      refine ⟨if_pos h, ?_⟩
      show (if _ = 0 then _ else _) = _
      rw [if_pos h, hL, List.nil_append]
    · left
      simp only [if_neg h]
      refine ⟨if_neg h, ?_⟩
      show (if _ = 0 then _ else _) = _
      rw [if_neg h, hL]
  rcases hws with ⟨w1, w2⟩ | ⟨w1, w2⟩
  · rw [w1, w2]
    exact .inl ⟨hmk, hA⟩
  · rw [w1, w2]
    rcases upF_one s.f (fi + ((a + 1) % 2 : Nat)) (mb (a + 1) b' c') ks t with h | h
    · rw [h]; exact .inl ⟨hmk, hA⟩
    · rw [h, ho]
      rcases hmk.torn b' c' x y z t hx ha hb hc with h1 | h1
      · exact .inl ⟨h1, by rw [hfar]; exact hA⟩
      · exact .inr ⟨h1, by rw [hfar]; exact hA'⟩
/-- A CRASH IN A SYNC -/
theorem crash_sync {nb rm fi : Int} {s : DS} {a b c x y z : Nat} {rs pe : List (List Int)} (hL : s.L = []) (hf : ∀ n, (s.f n).length = 256) (hmk : Mk s.f fi a b c) (ho : s.f (fi + ((a + 1) % 2 : Nat)) = mb x y z) (hx : x < a) (ha : a + 1 < 18446744073709551616) (hb : b < 18446744073709551616) (hc : c + (encs pe).length < 18446744073709551616)
    (hA : areaB s.f (fi + 2) c = encs rs) (h0 : 0 < (encs pe).length) (ks : List Bool) (t : Int) (hw : WOK (s.wsy nb rm (aw fi s c (encs pe))).1.L) (hfl : ∀ n, ((s.wsy nb rm (aw fi s c (encs pe))).1.f n).length = 256) :
    ((s.wsy nb rm (aw fi s c (encs pe))).2 ≠ 0 → Up2 (upF (s.wsy nb rm (aw fi s c (encs pe))).1.f (s.wsy nb rm (aw fi s c (encs pe))).1.L ks t) fi a b c rs b (c + (encs pe).length) (rs ++ pe)) ∧
    ((s.wsy nb rm (aw fi s c (encs pe))).2 = 0 → ((s.wsy nb rm (aw fi s c (encs pe))).1.wsy nb rm (mw fi (a + 1) b (c + (encs pe).length))).2 ≠ 0 → Up2 (upF ((s.wsy nb rm (aw fi s c (encs pe))).1.wsy nb rm (mw fi (a + 1) b (c + (encs pe).length))).1.f ((s.wsy nb rm (aw fi s c (encs pe))).1.wsy nb rm (mw fi (a + 1) b (c + (encs pe).length))).1.L ks t) fi a b c rs b (c + (encs pe).length) (rs ++ pe)) := by
  refine ⟨fun h => ?_, fun h h' => ?_⟩
  · have hgl : ∀ n, (upF (s.wsy nb rm (aw fi s c (encs pe))).1.f (s.wsy nb rm (aw fi s c (encs pe))).1.L ks t n).length = 256 := fun n => redoF_len (undoF_len hfl _ hw) _ (fun y hy => hw y (survL_memL _ _ _ hy)) _ _ n
    obtain ⟨k1, k2⟩ := crash_area (nb := nb) (rm := rm) hL hf h ks t hgl
    exact .inl ⟨hmk.away (k1 _ (by omega)) (k1 _ (by omega)), by rw [k2]; exact hA⟩
  · obtain ⟨g1, g2, _⟩ := wsy_ok h
    generalize hs1 : (s.wsy nb rm (aw fi s c (encs pe))).1 = s1 at *
    have hfar : ∀ n, n < fi + 2 → s1.f n = s.f n := fun n hn => by
      rw [g1]
      exact fputs_far _ _ _ (fun y hy => by unfold aw at hy; have := wl_mem hy; omega)
    have har : areaB s1.f (fi + 2) (c + (encs pe).length) = areaB s.f (fi + 2) c ++ encs pe := area_sync s.f (fi + 2) c (encs pe) hf h0 s1.f (by rw [g1]; unfold aw; rw [show fi + (2 + ((c / 256 : Nat) : Int)) = fi + 2 + ((c / 256 : Nat) : Int) by omega]) hfl
    have harc : areaB s1.f (fi + 2) c = encs rs := by
      rw [← areaB_take s1.f (fi + 2) hfl c (c + (encs pe).length) (by omega), har, List.take_left' (areaB_len _ _ hf _)]
      exact hA
    have hn2 : ((a + 1) % 2 : Nat) < 2 := Nat.mod_lt _ (by decide)
    exact crash_mark g2 (hmk.away (hfar _ (by omega)) (hfar _ (by omega))) (by rw [hfar _ (by omega)]; exact ho) hx ha hb hc harc (by rw [har, hA, encs_append]) h' ks t
end Go.Proofs.Ytaibminomehppaa
