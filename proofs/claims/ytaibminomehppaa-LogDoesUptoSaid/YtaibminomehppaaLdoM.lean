import Derived.Test.YtaibminomehppaaRlgM
import Derived.WalkKit
import Derived.ProofKit
import Derived.BigQuiet
import Derived.Deep.QuietTactic
import Derived.WalkSpells
import Derived.WalkLawsBesides
import Derived.Lib.Hide
import Derived.Deep.MidRow
import Derived.Deep.RegionLaw
import Derived.BigRegion
import Derived.Laws.AppendOwnNone
import Derived.Deep.DeepMust
import Derived.Deep.AppendLies
import Derived.RegionTactic
import Derived.Deep.WholeRow
import Derived.BigFrame
import Derived.Deep.RegionWith
import Derived.Deep.RegionHeld3
import Derived.Maps.RangeWalk
import Derived.Laws.CopyOwn
import Derived.StillTailTactics
namespace Go.Proofs.Ytaibminomehppaa
open Go.RowKit
theorem upF_nil (f : Int → List Int) (ks : List Bool) (t : Int) : upF f [] ks t = f := by
  unfold upF
  rw [show survL [] ks = [] by cases ks <;> rfl]
  rfl
/-- the other mark's block: whatever is torn into it next, it is no later mark than the next one -/
def Cl (o : List Int) (a : Nat) : Prop := nAt o 5 ≤ a ∨ (nAt o 0 = a + 1 ∧ nAt o 5 ≠ a + 1)
theorem mb_take8 (a b c : Nat) : (mb a b c).take 8 = be8 a := by
  unfold mb mnums
  rw [List.flatMap_cons, List.append_assoc, List.take_left' (be8_len _)]
theorem Mk.torn2 {f : Int → List Int} {fi : Int} {a b c : Nat} (h : Mk f fi a b c) (b' c' : Nat) (t : Int) (o : List Int) (hol : o.length = 256) (hor : Rng o) (hcl : Cl o a) (ha : a + 1 < 18446744073709551616) (hb : b' < 18446744073709551616) (hc : c' < 18446744073709551616) :
    (Mk (fput f (fi + ((a + 1) % 2 : Nat)) (tearL o (mb (a + 1) b' c') t)) fi a b c ∧ Cl (tearL o (mb (a + 1) b' c') t) a) ∨ Mk (fput f (fi + ((a + 1) % 2 : Nat)) (tearL o (mb (a + 1) b' c') t)) fi (a + 1) b' c' := by
  have e1 : (a + 1 + 1) % 2 = a % 2 := by omega
  have hne : fi + ((a % 2 : Nat) : Int) ≠ fi + (((a + 1) % 2 : Nat) : Int) := by omega
  have hmt := take_tear o (mb (a + 1) b' c') t 8
  obtain ⟨o', hoe⟩ : ∃ o', tearL o (mb (a + 1) b' c') t = o' := ⟨_, rfl⟩
  rw [hoe] at hmt ⊢
  have hkeep : ¬ (okB o' = true ∧ nAt o' 0 % 2 = (a + 1) % 2 ∧ a < nAt o' 0) → Mk (fput f (fi + ((a + 1) % 2 : Nat)) o') fi a b c := fun hn => by
    refine ⟨?_, h.2.1, ?_⟩
    · rw [fput_ne _ _ _ _ hne]; exact h.1
    · rw [fput_at]; exact hn
  have hnew : okB o' = true → nAt o' 0 = a + 1 → nAt o' 1 = b' → nAt o' 2 = c' → Mk (fput f (fi + ((a + 1) % 2 : Nat)) o') fi (a + 1) b' c' := fun h1 h2 h3 h4 => by
    refine ⟨by rw [fput_at]; exact ⟨h1, h2, h3, h4⟩, by omega, ?_⟩
    rw [e1, fput_ne _ _ _ _ hne, h.1.2.1]
    omega
  have h05 : okB o' = true → nAt o' 0 = nAt o' 5 := fun hok => (of_decide_eq_true hok).1
  by_cases ht : 0 ≤ t ∧ t ≤ 40
  · have h5 : nAt o' 5 = nAt o 5 := by
      rw [← hoe, tearL, if_neg (by omega), nAt_back _ _ _ _ (by omega) (by rw [mb_len]; omega)]
    left
    rcases hcl with h6 | ⟨h6, h7⟩
    · exact ⟨hkeep (fun hh => by have := h05 hh.1; omega), .inl (by omega)⟩
    · have h8 : o.take 8 = (mb (a + 1) b' c').take 8 := by
        rw [mb_take8, ← h6]
        unfold nAt
        rw [Nat.mul_zero, List.drop_zero, be8_beI (by rw [List.length_take]; omega) (hor.take _)]
      have h9 : nAt o' 0 = a + 1 := by
        rw [← h6]
        unfold nAt
        rw [Nat.mul_zero, List.drop_zero, List.drop_zero, hmt h8 (by rw [mb_len, hol])]
      exact ⟨hkeep (fun hh => by have := h05 hh.1; omega), .inr ⟨h9, by omega⟩⟩
  · have hfr : ∀ j, j < 5 → nAt o' j = nAt (mb (a + 1) b' c') j := fun j hj => by
      rw [← hoe, tearL]
      split
      · rfl
      · exact nAt_front _ _ _ _ (by omega) (by rw [mb_len]; omega)
    have n0 : nAt o' 0 = a + 1 := by rw [hfr 0 (by decide)]; exact nAt_mb _ _ _ 0 _ rfl ha
    have n1 : nAt o' 1 = b' := by rw [hfr 1 (by decide)]; exact nAt_mb _ _ _ 1 _ rfl hb
    have n2 : nAt o' 2 = c' := by rw [hfr 2 (by decide)]; exact nAt_mb _ _ _ 2 _ rfl hc
    have n3 : nAt o' 3 = c' := by rw [hfr 3 (by decide)]; exact nAt_mb _ _ _ 3 _ rfl hc
    have n4 : nAt o' 4 = b' := by rw [hfr 4 (by decide)]; exact nAt_mb _ _ _ 4 _ rfl hb
    by_cases h5 : nAt o' 5 = a + 1
    · right
      exact hnew (decide_eq_true ⟨by rw [n0, h5], by rw [n1, n4], by rw [n2, n3]⟩) n0 n1 n2
    · left
      exact ⟨hkeep (fun hh => h5 (by rw [← h05 hh.1, n0])), .inr ⟨n0, h5⟩⟩
/-- what comes up behind a crash: the log as it was, or as it was to be; what can come next is known -/
def Up3 (g : Int → List Int) (fi : Int) (a b c : Nat) (rs : List (List Int)) (b' c' : Nat) (rs' : List (List Int)) : Prop :=
  (Mk g fi a b c ∧ Cl (g (fi + ((a + 1) % 2 : Nat))) a ∧ areaB g (fi + 2) c = encs rs) ∨ (Mk g fi (a + 1) b' c' ∧ Cl (g (fi + ((a + 1 + 1) % 2 : Nat))) (a + 1) ∧ areaB g (fi + 2) c' = encs rs')
theorem Mk.five {f : Int → List Int} {fi : Int} {a b c : Nat} (h : Mk f fi a b c) : nAt (f (fi + (a % 2 : Nat))) 5 = a := by
  rw [← (of_decide_eq_true h.1.1).1]
  exact h.1.2.1
theorem crash_mark3 {nb rm fi : Int} {s : DS} {a b c b' c' : Nat} {rs rs' : List (List Int)} (hL : s.L = []) (hmk : Mk s.f fi a b c) (hcl : Cl (s.f (fi + ((a + 1) % 2 : Nat))) a) (hfl : ∀ n, (s.f n).length = 256) (hfr : ∀ n, Rng (s.f n)) (ha : a + 1 < 18446744073709551616) (hb : b' < 18446744073709551616) (hc : c' < 18446744073709551616)
    (hA : areaB s.f (fi + 2) c = encs rs) (hA' : areaB s.f (fi + 2) c' = encs rs') (hbad : (s.wsy nb rm (mw fi (a + 1) b' c')).2 ≠ 0) (ks : List Bool) (t : Int) : Up3 (upF (s.wsy nb rm (mw fi (a + 1) b' c')).1.f (s.wsy nb rm (mw fi (a + 1) b' c')).1.L ks t) fi a b c rs b' c' rs' := by
  obtain ⟨e1, e2⟩ := wsy_bad hbad
  rw [e1, e2]
  have hn2 : ((a + 1) % 2 : Nat) < 2 := Nat.mod_lt _ (by decide)
  have hfar : ∀ (o : List Int) (k : Nat), areaB (fput s.f (fi + ((a + 1) % 2 : Nat)) o) (fi + 2) k = areaB s.f (fi + 2) k := fun o k => by
    unfold areaB
    rw [arB_same _ s.f _ _ (fun i _ => fput_ne _ _ _ _ (by omega))]
  have hws : ((s.ws nb rm (mw fi (a + 1) b' c')).1.f = s.f ∧ (s.ws nb rm (mw fi (a + 1) b' c')).1.L = []) ∨ ((s.ws nb rm (mw fi (a + 1) b' c')).1.f = fput s.f (fi + ((a + 1) % 2 : Nat)) (mb (a + 1) b' c') ∧ (s.ws nb rm (mw fi (a + 1) b' c')).1.L = [(fi + ((a + 1) % 2 : Nat), s.f (fi + ((a + 1) % 2 : Nat)), mb (a + 1) b' c')]) := by
    unfold mw DS.ws
    by_cases h : s.we nb rm (fi + ((a + 1) % 2 : Nat)) = 0
    · right
      simp only [if_pos h, DS.ws]
      refine ⟨if_pos h, ?_⟩
      show (if _ = 0 then _ else _) = _
      rw [if_pos h, hL, List.nil_append]
    · left
      simp only [if_neg h]
      refine ⟨if_neg h, ?_⟩
      show (if _ = 0 then _ else _) = _
      rw [if_neg h, hL]
  rcases hws with ⟨w1, w2⟩ | ⟨w1, w2⟩
  · rw [w1, w2, upF_nil]
    exact .inl ⟨hmk, hcl, hA⟩
  · rw [w1, w2]
    rcases upF_one s.f (fi + ((a + 1) % 2 : Nat)) (mb (a + 1) b' c') ks t with h | h
    · rw [h]; exact .inl ⟨hmk, hcl, hA⟩
    · rw [h]
      rcases hmk.torn2 b' c' t _ (hfl _) (hfr _) hcl ha hb hc with ⟨h1, h2⟩ | h1
      · exact .inl ⟨h1, by rw [fput_at]; exact h2, by rw [hfar]; exact hA⟩
      · refine .inr ⟨h1, .inl ?_, by rw [hfar]; exact hA'⟩
        rw [show (a + 1 + 1) % 2 = a % 2 by omega, fput_ne _ _ _ _ (by omega), hmk.five]
        omega
theorem crash_sync3 {nb rm fi : Int} {s : DS} {a b c : Nat} {rs pe : List (List Int)} (hL : s.L = []) (hf : ∀ n, (s.f n).length = 256) (hmk : Mk s.f fi a b c) (hcl : Cl (s.f (fi + ((a + 1) % 2 : Nat))) a) (hfr1 : ∀ n, Rng ((s.wsy nb rm (aw fi s c (encs pe))).1.f n)) (ha : a + 1 < 18446744073709551616) (hb : b < 18446744073709551616) (hc : c + (encs pe).length < 18446744073709551616)
    (hA : areaB s.f (fi + 2) c = encs rs) (h0 : 0 < (encs pe).length) (ks : List Bool) (t : Int) (hw : WOK (s.wsy nb rm (aw fi s c (encs pe))).1.L) (hfl : ∀ n, ((s.wsy nb rm (aw fi s c (encs pe))).1.f n).length = 256) :
    ((s.wsy nb rm (aw fi s c (encs pe))).2 ≠ 0 → Up3 (upF (s.wsy nb rm (aw fi s c (encs pe))).1.f (s.wsy nb rm (aw fi s c (encs pe))).1.L ks t) fi a b c rs b (c + (encs pe).length) (rs ++ pe)) ∧
    ((s.wsy nb rm (aw fi s c (encs pe))).2 = 0 → ((s.wsy nb rm (aw fi s c (encs pe))).1.wsy nb rm (mw fi (a + 1) b (c + (encs pe).length))).2 ≠ 0 → Up3 (upF ((s.wsy nb rm (aw fi s c (encs pe))).1.wsy nb rm (mw fi (a + 1) b (c + (encs pe).length))).1.f ((s.wsy nb rm (aw fi s c (encs pe))).1.wsy nb rm (mw fi (a + 1) b (c + (encs pe).length))).1.L ks t) fi a b c rs b (c + (encs pe).length) (rs ++ pe)) := by
  refine ⟨fun h => ?_, fun h h' => ?_⟩
  · have hgl : ∀ n, (upF (s.wsy nb rm (aw fi s c (encs pe))).1.f (s.wsy nb rm (aw fi s c (encs pe))).1.L ks t n).length = 256 := fun n => redoF_len (undoF_len hfl _ hw) _ (fun y hy => hw y (survL_memL _ _ _ hy)) _ _ n
    obtain ⟨k1, k2⟩ := crash_area (nb := nb) (rm := rm) hL hf h ks t hgl
    have hn2 : ((a + 1) % 2 : Nat) < 2 := Nat.mod_lt _ (by decide)
    exact .inl ⟨hmk.away (k1 _ (by omega)) (k1 _ (by omega)), by rw [k1 _ (by omega)]; exact hcl, by rw [k2]; exact hA⟩
  · obtain ⟨g1, g2, _⟩ := wsy_ok h
    generalize hs1 : (s.wsy nb rm (aw fi s c (encs pe))).1 = s1 at *
    have hfar : ∀ n, n < fi + 2 → s1.f n = s.f n := fun n hn => by
      rw [g1]
      exact fputs_far _ _ _ (fun y hy => by unfold aw at hy; have := wl_mem hy; omega)
    have har : areaB s1.f (fi + 2) (c + (encs pe).length) = areaB s.f (fi + 2) c ++ encs pe := area_sync s.f (fi + 2) c (encs pe) hf h0 s1.f (by rw [g1]; unfold aw; rw [show fi + (2 + ((c / 256 : Nat) : Int)) = fi + 2 + ((c / 256 : Nat) : Int) by omega]) hfl
    have harc : areaB s1.f (fi + 2) c = encs rs := by
      rw [← areaB_take s1.f (fi + 2) hfl c (c + (encs pe).length) (by omega), har, List.take_left' (areaB_len _ _ hf _)]
      exact hA
    have hn2 : ((a + 1) % 2 : Nat) < 2 := Nat.mod_lt _ (by decide)
    exact crash_mark3 g2 (hmk.away (hfar _ (by omega)) (hfar _ (by omega))) (by rw [hfar _ (by omega)]; exact hcl) hfl hfr1 ha hb hc harc (by rw [har, hA, encs_append]) h' ks t
/-- what is so of a log on a disk that has not failed: plain -/
structure Good (nb rm fz : Int) (f : Int → List Int) (fi sz : Int) (a b c : Nat) (rs pe : List (List Int)) : Prop where
  mkf : Mk f fi a b c
  clean : Cl (f (fi + ((a + 1) % 2 : Nat))) a
  area : areaB f (fi + 2) c = encs rs
  fits : ((c + (encs pe).length : Nat) : Int) ≤ (sz - 2) * 256
  rng : ∀ n, Rng (f n)
  fl : ∀ n, (f n).length = 256
  rrs : ∀ r ∈ rs, Rng r
  rpe : ∀ r ∈ pe, Rng r
  h1 : 0 ≤ fi
  h2 : 3 ≤ sz
  h3 : fi ≤ nb - sz
  h4 : nb ≤ 4096
  ha : a < 1099511627776
  hb : b < 1099511627776
section
variable {nb rm fz : Int} {f : Int → List Int} {fi sz : Int} {a b c : Nat} {rs pe : List (List Int)}
theorem Good.small (h : Good nb rm fz f fi sz a b c rs pe) : c ≤ 1048576 ∧ (encs pe).length ≤ 1048576 ∧ c + (encs pe).length ≤ 1048576 := by
  have := h.fits; have := h.h1; have := h.h2; have := h.h3; have := h.h4; omega
theorem Good.clen (h : Good nb rm fz f fi sz a b c rs pe) : (encs rs).length = c := by rw [← h.area]; exact areaB_len _ _ h.fl c
theorem Good.drop (h : Good nb rm fz f fi sz a b c rs pe) : Good nb rm fz f fi sz a b c rs [] :=
  { h with fits := (by rw [show encs ([] : List (List Int)) = [] from rfl, List.length_nil]; have := h.fits; omega), rpe := fun r hr => by cases hr }
theorem Good.other (h : Good nb rm fz f fi sz a b c rs pe) (rm' fz' : Int) : Good nb rm' fz' f fi sz a b c rs pe := { h with }
theorem Good.add (h : Good nb rm fz f fi sz a b c rs pe) (m : List Int) (hm : Rng m) (hf : fitsL sz c (encs pe).length m.length = true) : Good nb rm fz f fi sz a b c rs (pe ++ [m]) := by
  have hf2 : 8 + (m.length : Int) ≤ (sz - 2) * 256 - c - (encs pe).length := of_decide_eq_true hf
  exact { h with fits := (by rw [encs_snoc]; simp [be8_len]; omega), rpe := fun r hr' => (List.mem_append.1 hr').elim (h.rpe r) (fun e => by rw [List.mem_singleton.1 e]; exact hm) }
/-- the reference's writes are the program's -/
theorem Good.aR (h : Good nb rm fz f fi sz a b c rs pe) : aR fi (encs rs).length (encs rs ++ encs pe) = aw fi ⟨fz, false, f, []⟩ c (encs pe) := by
  rw [h.clen]
  unfold Go.Proofs.Ytaibminomehppaa.aR aw
  have hcd : c = 256 * (c / 256) + c % 256 := (Nat.div_add_mod _ _).symm
  have hlt : c % 256 < 256 := Nat.mod_lt _ (by decide)
  have hlen := h.clen
  have e1 : (encs rs ++ encs pe).drop (256 * (c / 256)) = (f (fi + (2 + (c / 256 : Nat)))).take (c % 256) ++ encs pe := by
    rw [List.drop_append_of_le_length (by rw [hlen]; omega)]
    congr 1
    rw [← h.area, ← areaB_eq f (fi + 2) h.fl (c / 256 + 1) c (by omega), arB, List.take_append, arB_len f _ h.fl, List.take_of_length_le (by rw [arB_len f _ h.fl]; omega), List.drop_append_of_le_length (by rw [arB_len f _ h.fl]; exact Nat.le_refl _), List.drop_of_length_le (by rw [arB_len f _ h.fl]; exact Nat.le_refl _), List.nil_append, show c - 256 * (c / 256) = c % 256 by omega, Int.add_assoc]
  rw [e1]
  congr 1
  rw [List.length_append, hlen]
  rcases Nat.eq_zero_or_pos (encs pe).length with h0 | h0
  · rw [h0]
    rcases Nat.eq_zero_or_pos (c % 256) with h5 | h5 <;> omega
  · omega
theorem ws_44 (nb rm : Int) : ∀ (l : List (Int × List Int)) (s : DS), (∀ x ∈ l, 0 ≤ x.1 ∧ x.1 < nb ∧ x.1 < rm) → (s.ws nb rm l).2 ≠ 0 → (s.ws nb rm l).2 = 44
  | [], s, _, h => absurd rfl h
  | y :: r, s, hx, h => by
    obtain ⟨h0, h1, h2⟩ := hx y (List.mem_cons_self ..)
    unfold DS.ws at h ⊢
    by_cases he : s.we nb rm y.1 = 0
    · rw [if_pos he] at h ⊢
      exact ws_44 nb rm r _ (fun z hz => hx z (List.mem_cons_of_mem _ hz)) h
    · rw [if_neg he]
      show s.we nb rm y.1 = 44
      unfold DS.we at he ⊢
      rw [wErr_in h0 h1 h2] at he ⊢
      split
      · rename_i ho; rw [if_pos ho] at he; exact absurd rfl he
      · rfl
theorem wsy_44 {nb rm : Int} {l : List (Int × List Int)} {s : DS} (hx : ∀ x ∈ l, 0 ≤ x.1 ∧ x.1 < nb ∧ x.1 < rm) (h : (s.wsy nb rm l).2 ≠ 0) : (s.wsy nb rm l).2 = 44 := by
  unfold DS.wsy at h ⊢
  by_cases he : (s.ws nb rm l).2 = 0
  · rw [if_pos he] at h ⊢
    dsimp only at h ⊢
    unfold DS.se at h ⊢
    split
    · rename_i ho; rw [if_pos ho] at h; exact absurd rfl h
    · rfl
  · rw [if_neg he]
    exact ws_44 nb rm l s hx he
/-- a first write that finds no room -/
theorem wsy_none {nb rm : Int} (x : Int × List Int) (l : List (Int × List Int)) {s : DS} (h0 : 0 ≤ x.1) (h1 : x.1 < nb) (h2 : rm ≤ x.1) :
    (s.wsy nb rm (x :: l)).1.f = s.f ∧ (s.wsy nb rm (x :: l)).1.L = s.L ∧ (((s.wsy nb rm (x :: l)).2 = 42 ∧ (s.wsy nb rm (x :: l)).1.dn = false) ∨ ((s.wsy nb rm (x :: l)).2 = 44 ∧ (s.wsy nb rm (x :: l)).1.dn = true)) := by
  have hb : hasB nb x.1 = true := by simp [hasB]; omega
  have he : s.we nb rm x.1 = if opOk s.fz s.dn = true then 42 else 44 := by
    unfold DS.we wErr
    by_cases ho : opOk s.fz s.dn = true
    · rw [if_pos ho, if_pos ho, if_pos hb, if_pos h2]
    · rw [if_neg ho, if_neg ho]
  have hne : s.we nb rm x.1 ≠ 0 := by rw [he]; split <;> decide
  rw [wsy_cons, if_neg hne]
  have hf : (s.wr nb rm x.1 x.2).f = s.f := by unfold DS.wr; dsimp only; rw [if_neg hne]
  have hL : (s.wr nb rm x.1 x.2).L = s.L := by unfold DS.wr; dsimp only; rw [if_neg hne]
  refine ⟨hf, hL, ?_⟩
  show (s.we nb rm x.1 = 42 ∧ opDn s.fz s.dn = false) ∨ (s.we nb rm x.1 = 44 ∧ opDn s.fz s.dn = true)
  rw [he, opDn_ok]
  by_cases ho : opOk s.fz s.dn = true
  · rw [if_pos ho, ho]; exact .inl ⟨rfl, rfl⟩
  · rw [if_neg ho, Bool.eq_false_iff.2 ho]; exact .inr ⟨rfl, rfl⟩
def SyRes (nb rm fi : Int) (a b c n : Nat) (s : DS) (A : List (Int × List Int)) (sF : DS) (E : Int) (aF cF : Nat) : Prop :=
  ((s.wsy nb rm A).2 ≠ 0 ∧ sF = (s.wsy nb rm A).1 ∧ E = (s.wsy nb rm A).2 ∧ aF = a ∧ cF = c) ∨
  ((s.wsy nb rm A).2 = 0 ∧ sF = ((s.wsy nb rm A).1.wsy nb rm (mw fi (a + 1) b (c + n))).1 ∧ E = ((s.wsy nb rm A).1.wsy nb rm (mw fi (a + 1) b (c + n))).2 ∧ aF = (if E = 0 then a + 1 else a) ∧ cF = (if E = 0 then c + n else c))
/-- what comes up behind a fall -/
def Fell (sF : DS) (fi : Int) (a b c : Nat) (rs : List (List Int)) (b' c' : Nat) (rs' : List (List Int)) : Prop :=
  sF.dn = true ∧ sF.L.length ≤ 8192 ∧ ∀ ks t, Up3 (upF sF.f sF.L ks t) fi a b c rs b' c' rs' ∧ ∀ n, Rng (upF sF.f sF.L ks t n)
theorem ws_rng {nb rm : Int} : ∀ {l : List (Int × List Int)} {s : DS}, (∀ y ∈ l, Rng y.2) → (∀ n, Rng (s.f n)) → ∀ n, Rng ((s.ws nb rm l).1.f n)
  | [], _, _, h => h
  | y :: r, s, hl, h => by
    have hw : ∀ n, Rng ((s.wr nb rm y.1 y.2).f n) := fun n => by
      unfold DS.wr
      dsimp only
      split
      · by_cases hn : n = y.1
        · rw [hn, fput_at]; exact hl y (List.mem_cons_self ..)
        · rw [fput_ne _ _ _ _ hn]; exact h n
      · exact h n
    unfold DS.ws
    split
    · exact ws_rng (fun z hz => hl z (List.mem_cons_of_mem _ hz)) hw
    · exact hw
theorem Good.sync (h : Good nb rm fz f fi sz a b c rs pe) (hpe : pe ≠ []) (ha1 : a + 1 < 1099511627776) {sF : DS} {E : Int} {aF cF : Nat} (hr : SyRes nb rm fi a b c (encs pe).length ⟨fz, false, f, []⟩ (aw fi ⟨fz, false, f, []⟩ c (encs pe)) sF E aF cF) (hLF : sF.L.length ≤ 8192) (hWF : WOK sF.L) (hFF : ∀ n, (sF.f n).length = 256) :
    (E = 0 ∧ sF.dn = false ∧ sF.L = [] ∧ aF = a + 1 ∧ cF = c + (encs pe).length ∧ Good nb rm sF.fz sF.f fi sz (a + 1) b (c + (encs pe).length) (rs ++ pe) []) ∨
    (E = 42 ∧ sF.dn = false ∧ sF.L = [] ∧ sF.f = f ∧ aF = a ∧ cF = c) ∨
    (E = 44 ∧ Fell sF fi a b c rs b (c + (encs pe).length) (rs ++ pe)) := by
  unfold SyRes at hr
  have h1 := h.h1; have h2 := h.h2; have h3 := h.h3; have h4 := h.h4; have hb' := h.hb
  have hcl := h.clean
  have hlen : 0 < (encs pe).length := by
    obtain ⟨r, pe', rfl⟩ := List.exists_cons_of_ne_nil hpe
    rw [encs_cons]; simp [be8_len]; omega
  have hfl := h.fl
  have hfit := h.fits
  have hcd : c = 256 * (c / 256) + c % 256 := (Nat.div_add_mod _ _).symm
  have hcl2 : c % 256 < 256 := Nat.mod_lt _ (by decide)
  have hk1 : 256 * ((c % 256 + (encs pe).length - 1) / 256) ≤ c % 256 + (encs pe).length - 1 := Nat.mul_div_le _ _
  have hN : fi + (2 + ((c / 256 : Nat) : Int)) + ((((c % 256 + (encs pe).length - 1) / 256 : Nat) : Nat) : Int) < nb := by omega
  have hall : Rng ((f (fi + (2 + (c / 256 : Nat)))).take (c % 256) ++ encs pe) := rng_append ((h.rng _).take _) (encs_rng h.rpe)
  have hawr : ∀ y ∈ aw fi ⟨fz, false, f, []⟩ c (encs pe), Rng y.2 := fun y hy => by unfold aw at hy; exact wl_rng hall _ y hy
  have hawl : ∀ y ∈ aw fi ⟨fz, false, f, []⟩ c (encs pe), y.2.length = 256 := fun y hy => by unfold aw at hy; exact wl_len hy
  by_cases hrm : rm ≤ fi + (2 + ((c / 256 : Nat) : Int)) + ((((c % 256 + (encs pe).length - 1) / 256 : Nat) : Nat) : Int)
  · obtain ⟨x0, tl, haw, hx0⟩ : ∃ x0 tl, aw fi ⟨fz, false, f, []⟩ c (encs pe) = x0 :: tl ∧ x0.1 = fi + (2 + ((c / 256 : Nat) : Int)) + ((((c % 256 + (encs pe).length - 1) / 256 : Nat) : Nat) : Int) := ⟨_, _, rfl, rfl⟩
    rw [haw] at hr
    obtain ⟨g1, g2, g3⟩ := wsy_none (nb := nb) (rm := rm) x0 tl (s := ⟨fz, false, f, []⟩) (by rw [hx0]; omega) (by rw [hx0]; exact hN) (by rw [hx0]; exact hrm)
    generalize DS.wsy nb rm ⟨fz, false, f, []⟩ (x0 :: tl) = W at *
    dsimp only at g1 g2
    rcases hr with ⟨_, rfl, rfl, e3, e4⟩ | ⟨h0, _⟩
    · rcases g3 with ⟨g3, g4⟩ | ⟨g3, g4⟩
      · exact .inr (.inl ⟨g3, g4, g2, g1, e3, e4⟩)
      · refine .inr (.inr ⟨g3, g4, hLF, fun ks t => ?_⟩)
        rw [g1, g2]
        rw [upF_nil]
        exact ⟨.inl ⟨h.mkf, h.clean, h.area⟩, h.rng⟩
    · exfalso
      rcases g3 with ⟨g3, _⟩ | ⟨g3, _⟩ <;> rw [g3] at h0 <;> exact absurd h0 (by decide)
  · have hawx : ∀ y ∈ aw fi ⟨fz, false, f, []⟩ c (encs pe), fi + 2 ≤ y.1 ∧ y.1 < nb ∧ y.1 < rm := fun y hy => by
      unfold aw at hy
      have := wl_mem hy
      omega
    have hmwx : ∀ y ∈ mw fi (a + 1) b (c + (encs pe).length), 0 ≤ y.1 ∧ y.1 < nb ∧ y.1 < rm := fun y hy => by
      rw [mw, List.mem_singleton] at hy
      subst hy
      show 0 ≤ fi + (((a + 1) % 2 : Nat) : Int) ∧ fi + (((a + 1) % 2 : Nat) : Int) < nb ∧ fi + (((a + 1) % 2 : Nat) : Int) < rm
      omega
    have hmwr : ∀ y ∈ mw fi (a + 1) b (c + (encs pe).length), Rng y.2 := fun y hy => by rw [mw, List.mem_singleton] at hy; subst hy; exact mb_rng _ _ _
    have hcs := fun ks t hfr1 hw hfl' => crash_sync3 (nb := nb) (rm := rm) (fi := fi) (s := ⟨fz, false, f, []⟩) (a := a) (b := b) (c := c) (rs := rs) (pe := pe) rfl hfl h.mkf hcl hfr1 (by omega) (by omega) (by omega) h.area hlen ks t hw hfl'
    by_cases hE1 : (DS.wsy nb rm ⟨fz, false, f, []⟩ (aw fi ⟨fz, false, f, []⟩ c (encs pe))).2 = 0
    · obtain ⟨k1, k2, k3⟩ := wsy_ok hE1
      have hw1 : WOK (DS.wsy nb rm ⟨fz, false, f, []⟩ (aw fi ⟨fz, false, f, []⟩ c (encs pe))).1.L := by rw [k2]; intro x hx; cases hx
      have hl1 : ∀ n, ((DS.wsy nb rm ⟨fz, false, f, []⟩ (aw fi ⟨fz, false, f, []⟩ c (encs pe))).1.f n).length = 256 := fun n => by rw [k1]; exact fputs_len _ _ hfl hawl n
      have hr1 : ∀ n, Rng ((DS.wsy nb rm ⟨fz, false, f, []⟩ (aw fi ⟨fz, false, f, []⟩ c (encs pe))).1.f n) := fun n => by rw [k1]; exact fputs_rng _ _ h.rng hawr n
      have hcs2 := fun ks t => (hcs ks t hr1 hw1 hl1).2 hE1
      rcases hr with ⟨hne, _⟩ | ⟨_, e1, e2, e3, e5⟩
      · exact absurd hE1 hne
      · have hfar : ∀ n, n < fi + 2 → (DS.wsy nb rm ⟨fz, false, f, []⟩ (aw fi ⟨fz, false, f, []⟩ c (encs pe))).1.f n = f n := fun n hn => by
          rw [k1]
          exact fputs_far _ _ _ (fun y hy => by have := hawx y hy; omega)
        have har : areaB (DS.wsy nb rm ⟨fz, false, f, []⟩ (aw fi ⟨fz, false, f, []⟩ c (encs pe))).1.f (fi + 2) (c + (encs pe).length) = encs (rs ++ pe) := by
          rw [area_sync f (fi + 2) c (encs pe) hfl hlen _ (by rw [k1]; unfold aw; rw [show fi + (2 + ((c / 256 : Nat) : Int)) = fi + 2 + ((c / 256 : Nat) : Int) by omega]) hl1, h.area, encs_append]
        generalize hs1 : (DS.wsy nb rm ⟨fz, false, f, []⟩ (aw fi ⟨fz, false, f, []⟩ c (encs pe))).1 = s1 at *
        by_cases hE2 : (s1.wsy nb rm (mw fi (a + 1) b (c + (encs pe).length))).2 = 0
        · obtain ⟨m1, m2, m3⟩ := wsy_ok hE2
          have hE : E = 0 := e2.trans hE2
          rw [if_pos hE] at e3 e5
          subst e1 e3 e5
          have hn2 : ((a + 1) % 2 : Nat) < 2 := Nat.mod_lt _ (by decide)
          have hn3 : (a % 2 : Nat) < 2 := Nat.mod_lt _ (by decide)
          have hne2 : fi + ((a % 2 : Nat) : Int) ≠ fi + (((a + 1) % 2 : Nat) : Int) := by omega
          refine .inl ⟨hE, m3, m2, rfl, rfl, { mkf := ?_, clean := ?_, area := ?_, fits := ?_, rng := ?_, fl := ?_, rrs := (fun r hr => (List.mem_append.1 hr).elim (h.rrs r) (h.rpe r)), rpe := (fun r hr => by cases hr), h1 := h1, h2 := h2, h3 := h3, h4 := h4, ha := ha1, hb := hb' }⟩
          · rw [m1]
            exact (h.mkf.away (hfar _ (by omega)) (hfar _ (by omega))).next b (c + (encs pe).length) (by omega) (by omega) (by omega)
          · left
            rw [m1, show (a + 1 + 1) % 2 = a % 2 by omega]
            show nAt (fput s1.f _ _ _) 5 ≤ _
            rw [fput_ne _ _ _ _ hne2, hfar _ (by omega), h.mkf.five]
            omega
          · rw [m1, ← har]
            unfold areaB
            rw [arB_same (fputs s1.f (mw fi (a + 1) b (c + (encs pe).length))) s1.f (fi + 2) _ (fun i _ => (fput_ne s1.f (fi + ((a + 1) % 2 : Nat)) (fi + 2 + (i : Int)) (mb (a + 1) b (c + (encs pe).length)) (by omega) : fputs s1.f (mw fi (a + 1) b (c + (encs pe).length)) (fi + 2 + (i : Int)) = s1.f (fi + 2 + (i : Int))))]
          · rw [show encs ([] : List (List Int)) = [] from rfl, List.length_nil]; omega
          · intro n; rw [m1]; exact fputs_rng _ _ hr1 hmwr n
          · intro n; rw [m1]; exact fputs_len _ _ hl1 (fun x hx => by rw [mw, List.mem_singleton] at hx; subst hx; exact mb_len _ _ _) n
        · have hE : E = 44 := e2.trans (wsy_44 hmwx hE2)
          subst e1
          exact .inr (.inr ⟨hE, wsy_down hmwx hE2, hLF, fun ks t => ⟨hcs2 ks t hE2, up_rng k2 hr1 hmwr hE2 ks t⟩⟩)
    · rcases hr with ⟨_, e1, e2, _⟩ | ⟨h0, _⟩
      · have hE : E = 44 := e2.trans (wsy_44 (fun y hy => ⟨by have := hawx y hy; omega, (hawx y hy).2⟩) hE1)
        have hdn := wsy_down (nb := nb) (rm := rm) (fun y hy => ⟨by have := hawx y hy; omega, (hawx y hy).2⟩) hE1
        obtain ⟨b1, b2⟩ := wsy_bad hE1
        obtain ⟨u1, u2⟩ := ws_undo nb rm (aw fi ⟨fz, false, f, []⟩ c (encs pe)) ⟨fz, false, f, []⟩
        subst e1
        refine .inr (.inr ⟨hE, hdn, hLF, fun ks t => ⟨(hcs ks t ?_ ?_ ?_).1 hE1, up_rng rfl h.rng hawr hE1 ks t⟩⟩)
        · intro n; rw [b1]; exact ws_rng hawr h.rng n
        · exact hWF
        · exact hFF
      · exact absurd h0 hE1
end
end Go.Proofs.Ytaibminomehppaa
namespace Go.Proofs.Ytaibminomehppaa
open Go.RowKit
open Go.RowKit
section
variable {nb rm fz : Int} {f : Int → List Int} {fi sz : Int} {a b c : Nat} {rs pe : List (List Int)}
theorem Good.restart (h : Good nb rm fz f fi sz a b c rs []) (ha1 : a + 1 < 1099511627776) (hb1 : b + 1 < 1099511627776) {sF : DS} {E : Int} {aF bF cF : Nat}
    (hs : sF = (DS.wsy nb rm ⟨fz, false, f, []⟩ (mw fi (a + 1) (b + 1) 0)).1) (hE : E = (DS.wsy nb rm ⟨fz, false, f, []⟩ (mw fi (a + 1) (b + 1) 0)).2) (e1 : aF = if E = 0 then a + 1 else a) (e2 : bF = if E = 0 then b + 1 else b) (e3 : cF = if E = 0 then 0 else c) (hLF : sF.L.length ≤ 8192) :
    (E = 0 ∧ sF.dn = false ∧ sF.L = [] ∧ aF = a + 1 ∧ bF = b + 1 ∧ cF = 0 ∧ Good nb rm sF.fz sF.f fi sz (a + 1) (b + 1) 0 [] []) ∨
    (E = 42 ∧ sF.dn = false ∧ sF.L = [] ∧ sF.f = f ∧ aF = a ∧ bF = b ∧ cF = c) ∨
    (E = 44 ∧ Fell sF fi a b c rs (b + 1) 0 []) := by
  have h1 := h.h1; have h2 := h.h2; have h3 := h.h3; have h4 := h.h4
  have hn2 : ((a + 1) % 2 : Nat) < 2 := Nat.mod_lt _ (by decide)
  have hn3 : (a % 2 : Nat) < 2 := Nat.mod_lt _ (by decide)
  have hne2 : fi + ((a % 2 : Nat) : Int) ≠ fi + (((a + 1) % 2 : Nat) : Int) := by omega
  have hmwr : ∀ y ∈ mw fi (a + 1) (b + 1) 0, Rng y.2 := fun y hy => by rw [mw, List.mem_singleton] at hy; subst hy; exact mb_rng _ _ _
  by_cases hrm : rm ≤ fi + (((a + 1) % 2 : Nat) : Int)
  · obtain ⟨g1, g2, g3⟩ := wsy_none (nb := nb) (rm := rm) (fi + (((a + 1) % 2 : Nat) : Int), mb (a + 1) (b + 1) 0) [] (s := ⟨fz, false, f, []⟩) (by dsimp only; omega) (by dsimp only; omega) hrm
    rw [show [(fi + (((a + 1) % 2 : Nat) : Int), mb (a + 1) (b + 1) 0)] = mw fi (a + 1) (b + 1) 0 from rfl] at g1 g2 g3
    generalize DS.wsy nb rm ⟨fz, false, f, []⟩ (mw fi (a + 1) (b + 1) 0) = W at *
    dsimp only at g1 g2
    subst hs hE
    rcases g3 with ⟨g3, g4⟩ | ⟨g3, g4⟩
    · have hn : W.2 ≠ 0 := by rw [g3]; decide
      rw [if_neg hn] at e1 e2 e3
      exact .inr (.inl ⟨g3, g4, g2, g1, e1, e2, e3⟩)
    · refine .inr (.inr ⟨g3, g4, hLF, fun ks t => ?_⟩)
      rw [g1, g2, upF_nil]
      exact ⟨.inl ⟨h.mkf, h.clean, h.area⟩, h.rng⟩
  · have hmwx : ∀ y ∈ mw fi (a + 1) (b + 1) 0, 0 ≤ y.1 ∧ y.1 < nb ∧ y.1 < rm := fun y hy => by
      rw [mw, List.mem_singleton] at hy
      subst hy
      show 0 ≤ fi + (((a + 1) % 2 : Nat) : Int) ∧ fi + (((a + 1) % 2 : Nat) : Int) < nb ∧ fi + (((a + 1) % 2 : Nat) : Int) < rm
      omega
    by_cases hE2 : (DS.wsy nb rm ⟨fz, false, f, []⟩ (mw fi (a + 1) (b + 1) 0)).2 = 0
    · obtain ⟨m1, m2, m3⟩ := wsy_ok hE2
      have hE0 : E = 0 := hE.trans hE2
      rw [if_pos hE0] at e1 e2 e3
      subst hs
      dsimp only at m1
      refine .inl ⟨hE0, m3, m2, e1, e2, e3, { mkf := ?_, clean := ?_, area := ?_, fits := ?_, rng := ?_, fl := ?_, rrs := (fun r hr => by cases hr), rpe := (fun r hr => by cases hr), h1 := h1, h2 := h2, h3 := h3, h4 := h4, ha := ha1, hb := hb1 }⟩
      · rw [m1]
        exact h.mkf.next (b + 1) 0 (by omega) (by omega) (by omega)
      · left
        rw [m1, show (a + 1 + 1) % 2 = a % 2 by omega]
        show nAt (fput f _ _ _) 5 ≤ _
        rw [fput_ne _ _ _ _ hne2, h.mkf.five]
        omega
      · rfl
      · rw [show encs ([] : List (List Int)) = [] from rfl, List.length_nil]; omega
      · intro n; rw [m1]; exact fputs_rng _ _ h.rng hmwr n
      · intro n; rw [m1]; exact fputs_len _ _ h.fl (fun x hx => by rw [mw, List.mem_singleton] at hx; subst hx; exact mb_len _ _ _) n
    · subst hs
      have hc := fun ks t => crash_mark3 (nb := nb) (rm := rm) (fi := fi) (s := ⟨fz, false, f, []⟩) (a := a) (b := b) (c := c) (b' := b + 1) (c' := 0) (rs := rs) (rs' := []) rfl h.mkf h.clean h.fl h.rng (by omega) (by omega) (by omega) h.area rfl hE2 ks t
      exact .inr (.inr ⟨hE.trans (wsy_44 hmwx hE2), wsy_down hmwx hE2, hLF, fun ks t => ⟨hc ks t, up_rng rfl h.rng hmwr hE2 ks t⟩⟩)
/-- what stands on the disk that came up -/
theorem Good.up3 {g : Int → List Int} {b' c' : Nat} {rs' : List (List Int)} (h : Good nb rm fz f fi sz a b c rs pe) (hu : Up3 g fi a b c rs b' c' rs') (hr : ∀ n, Rng (g n)) (hg : ∀ n, (g n).length = 256) (ha1 : a + 1 < 1099511627776) (hb1 : b' < 1099511627776) (hf : (c' : Int) ≤ (sz - 2) * 256) (hrs' : ∀ r ∈ rs', Rng r) (rm' fz' : Int) :
    Good nb rm' fz' g fi sz a b c rs [] ∨ Good nb rm' fz' g fi sz (a + 1) b' c' rs' [] := by
  rcases hu with ⟨u1, u2, u3⟩ | ⟨u1, u2, u3⟩
  · exact .inl { mkf := u1, clean := u2, area := u3, fits := (by rw [show encs ([] : List (List Int)) = [] from rfl, List.length_nil]; have := h.fits; omega), rng := hr, fl := hg, rrs := h.rrs, rpe := (fun r hr => by cases hr), h1 := h.h1, h2 := h.h2, h3 := h.h3, h4 := h.h4, ha := h.ha, hb := h.hb }
  · exact .inr { mkf := u1, clean := u2, area := u3, fits := (by rw [show encs ([] : List (List Int)) = [] from rfl, List.length_nil]; omega), rng := hr, fl := hg, rrs := hrs', rpe := (fun r hr => by cases hr), h1 := h.h1, h2 := h.h2, h3 := h.h3, h4 := h.h4, ha := ha1, hb := hb1 }
end
end Go.Proofs.Ytaibminomehppaa
namespace Go.Proofs.Ytaibminomehppaa
open Go.RowKit
open Go.RowKit
theorem open_no (B D M : Nat) (nb rm fz fi sz : Int) (dn : Bool) (f : Int → List Int) (L : List WR) (lv : Value) (w : World) (h : Dk w B D M nb rm fz dn f L lv) (h1 : fi < 0 ∨ sz < 3 ∨ nb - sz < fi) (hnb : nb ≤ 4096) (h0 : 0 ≤ nb) (hs : sz ≤ 9223372036854775807) :
    Calls Try.prog 28 #[.pointer (some ⟨D, 0, none⟩), .int .i64 fi, .int .i64 sz] w fun e w' => e = .returned (.tuple #[.pointer none, .slice none 0 0, .int .i64 1]) ∧ Below w.heap.size w w' := by
  have hz := zero102
  have HBO := Lib.hid (blocksOf_no B D M nb rm fz fi sz dn f L lv w h h1 hnb h0 hs)
  clear h h1 hnb h0 hs
  go_enter Try.func28, Try.ntmps28
  go_wp2_with fail
  refine HBO.out.mono ?_
  rintro e wa ⟨rfl, hb⟩
  have XA := Lib.hid hb
  clear hb
  go_wp2_with fail
  go_ret3
  exact ⟨rfl, XA.out.alloc XA.out.size _⟩
set_option maxRecDepth 100000 in
theorem ropen_no (B R gf nb fcap : Nat) (rm fi sz : Int) (s : DS) (rv : Value) (w : World) (hd : RD w B R gf nb fcap rm s rv) (hn : ¬ (0 ≤ fi ∧ 3 ≤ sz ∧ sz ≤ nb ∧ fi ≤ nb - sz)) (hfi : -9223372036854775808 ≤ fi ∧ fi ≤ 9223372036854775807) (hnb : nb ≤ 4096) :
    Calls Try.prog 45 #[.pointer (some ⟨R, 0, none⟩), .int .i64 fi, .int .i64 sz] w fun e w' => w = w' ∧ e = .returned (.tuple #[.pointer none, .slice none 0 0, .int .i64 1]) := by
  have hfit := rd_fits hd hnb fi sz hfi
  rw [show decide (0 ≤ fi ∧ 3 ≤ sz ∧ sz ≤ nb ∧ fi ≤ nb - sz) = false from decide_eq_false hn] at hfit
  have HF := Lib.hid hfit
  clear hfit hn hd
  go_enter Try.func45, Try.ntmps45
  go_wp2_with fail
  refine HF.out.mono ?_
  rintro e w' ⟨rfl, rfl⟩
  go_wp2_with fail
  go_ret3
  exact ⟨rfl, rfl⟩
theorem restart_busy (P D n sc : Nat) (fi sz : Int) (a b c : Nat) (sa : Option Addr) (w : World) (h : LgIs w P D fi sz a b c (.slice sa n sc)) (hn : 0 < n) (hn2 : n ≤ 1099511627776) :
    Calls Try.prog 50 #[.pointer (some ⟨P, 0, none⟩)] w fun e w' => w = w' ∧ e = .returned (.int .i64 43) := by
  have k6 := (cell_of_row _ (P) 6 _ _ _ h).trans (show (#[Value.pointer (some ⟨D, 0, none⟩), .int .i64 fi, .int .i64 sz, .int .u64 (a : Int), .int .u64 (b : Int), .int .u64 (c : Int), .slice sa n sc] : Array Value)[6]? = some (.slice sa n sc) from rfl)
  have hni : (0 : Int) < (n : Int) := by omega
  clear h
  go_enter Try.func50, Try.ntmps50
  go_wp2_with fail
  go_ret
  exact ⟨rfl, rfl⟩
end Go.Proofs.Ytaibminomehppaa
namespace Go.Proofs.Ytaibminomehppaa
open Go.RowKit
open Go.RowKit
/-- the program's log on a disk in any state -/
structure LS (w : World) (B D M : Nat) (nb rm : Int) (s : DS) (lv : Value) (P : Nat) (fi sz : Int) (a b c : Nat) (av : Value) (pe : List (List Int)) : Prop where
  dk : DkS w B D M nb rm s lv
  box : LgIs w P D fi sz a b c av
  own : Own w B av (encs pe)
  nf : ¬ Foot D M lv P
  ne : av.ownBlock ≠ some P
  af : ∀ g, av.ownBlock = some g → ¬ Foot D M lv g
  base : B ≤ P
def QFoot (R gf : Nat) (rv : Value) (Q : Nat) (bv mv : Value) (k : Nat) : Prop := RFoot R gf rv k ∨ k = Q ∨ bv.ownBlock = some k ∨ mv.ownBlock = some k
/-- the reference's -/
structure QS (w : World) (B R gf nb fcap : Nat) (rm : Int) (s : DS) (rv : Value) (Q : Nat) (fi sz : Int) (a b c : Nat) (bv mv : Value) (rs pe : List (List Int)) : Prop where
  rd : RD w B R gf nb fcap rm s rv
  box : RLgIs w Q (RLg R fi sz a b c bv mv)
  bo : Own w B bv (encs rs)
  mo : Own w B mv (encs pe)
  nf : ¬ RFoot R gf rv Q
  bq : bv.ownBlock ≠ some Q
  mq : mv.ownBlock ≠ some Q
  bf : ∀ g, bv.ownBlock = some g → ¬ RFoot R gf rv g
  mf : ∀ g, mv.ownBlock = some g → ¬ RFoot R gf rv g
  base : B ≤ Q
section
variable {w w' : World} {B D M : Nat} {nb rm : Int} {s : DS} {lv : Value} {P : Nat} {fi sz : Int} {a b c : Nat} {av : Value} {pe rs : List (List Int)}
theorem LS.lt (h : LS w B D M nb rm s lv P fi sz a b c av pe) : ∀ k, LFoot D M lv P av k → B ≤ k ∧ k < w.heap.size := by
  intro k hk
  rcases hk with hk | rfl | hk
  · exact h.dk.foot k hk
  · exact ⟨h.base, h.box.lt⟩
  · exact h.own.lt k hk
theorem LS.chg (h : LS w B D M nb rm s lv P fi sz a b c av pe) {F : Nat → Prop} (hc : Chg F w w') (hF : ∀ k, LFoot D M lv P av k → ¬ F k) : LS w' B D M nb rm s lv P fi sz a b c av pe :=
  { h with dk := Dk.chg h.dk hc (fun k hk => hF k (.inl hk)), box := h.box.chg hc (hF P (.inr (.inl rfl))), own := h.own.chg hc (fun g hg => hF g (.inr (.inr hg))) }
theorem LS.hB (h : LS w B D M nb rm s lv P fi sz a b c av pe) : B ≤ w.heap.size := by have := h.lt P (.inr (.inl rfl)); omega
def LE (B D M : Nat) (nb rm : Int) (s' : DS) (lv : Value) (P : Nat) (fi sz : Int) (a' b' c' : Nat) (av : Value) (pe' : List (List Int)) (w w' : World) : Prop :=
  ∃ lv' av', LS w' B D M nb rm s' lv' P fi sz a' b' c' av' pe' ∧ Chg (LFoot D M lv P av) w w' ∧ (∀ k, LFoot D M lv' P av' k → LFoot D M lv P av k ∨ w.heap.size ≤ k)
theorem LS.append (h : LS w B D M nb rm s lv P fi sz a b c av pe) (v2 : Value) (m : List Int) (hbs : Bs w v2 m) (hnb : ∀ ad n c, v2 = .slice (some ad) n c → 0 < m.length → av.ownBlock ≠ some ad.block) (h2 : 3 ≤ sz) (h4 : sz ≤ 4096) (hc : c ≤ 1048576) (hp : (encs pe).length ≤ 1048576) (hm : m.length ≤ 16777216) :
    Calls Try.prog 31 #[.pointer (some ⟨P, 0, none⟩), v2] w fun e w' => e = .returned (.int .i64 (if fitsL sz c (encs pe).length m.length = true then 0 else 42)) ∧ LE B D M nb rm s lv P fi sz a b c av (if fitsL sz c (encs pe).length m.length = true then pe ++ [m] else pe) w w' := by
  refine (append_any B P D fi sz a b c av v2 (encs pe) m w h.box h.own h.ne h.hB hbs hnb h2 h4 hc hp hm).mono ?_
  rintro e w' ⟨rfl, av', hp, ho, hc, ht⟩
  have hfoot : ∀ k, LFoot D M lv P av' k → LFoot D M lv P av k ∨ w.heap.size ≤ k := by
    intro k hk
    rcases hk with hk | hk | hk
    · exact .inl (.inl hk)
    · exact .inl (.inr (.inl hk))
    · exact (ht k hk).imp (fun h => .inr (.inr h)) id
  have hap : ∀ k, Foot D M lv k → ¬ (k = P ∨ av.ownBlock = some k) := fun k hk e => e.elim (fun e => h.nf (by rw [← e]; exact hk)) (fun e => h.af k e hk)
  have hne : av'.ownBlock ≠ some P := fun e => (ht P e).elim h.ne (fun h' => by have := h.box.lt; omega)
  have haf : ∀ g, av'.ownBlock = some g → ¬ Foot D M lv g := fun g hg hk => (ht g hg).elim (fun e => h.af g e hk) (fun h' => by have := (h.dk.foot g hk).2; omega)
  refine ⟨rfl, lv, av', ?_, hc.mono (fun k hk => hk.elim (fun h => .inr (.inl h)) (fun h => .inr (.inr h))), hfoot⟩
  refine { h with dk := Dk.chg h.dk hc hap, box := hp, own := ?_, ne := hne, af := haf }
  by_cases hf : fitsL sz c (encs pe).length m.length = true
  · rw [if_pos hf] at ho ⊢
    rw [encs_snoc]; exact ho
  · rw [if_neg hf] at ho ⊢
    exact ho
theorem LS.sync (h : LS w B D M nb rm s lv P fi sz a b c av pe) (hdn : s.dn = false) (h1 : 0 ≤ fi) (h2 : 3 ≤ sz) (h3 : fi ≤ nb - sz) (h4 : nb ≤ 4096) (hne : pe ≠ []) (hen : ((c + (encs pe).length : Nat) : Int) ≤ (sz - 2) * 256) (ha : a < 1099511627776) (hb : b < 1099511627776) (hL : s.L.length ≤ 268421000) :
    Calls Try.prog 32 #[.pointer (some ⟨P, 0, none⟩)] w fun e w' => ∃ sF E aF cF, e = .returned (.int .i64 E) ∧ LE B D M nb rm sF lv P fi sz aF b cF av [] w w' ∧ SyRes nb rm fi a b c (encs pe).length s (aw fi s c (encs pe)) sF E aF cF := by
  have hlen : 0 < (encs pe).length := by
    obtain ⟨r, pe', rfl⟩ := List.exists_cons_of_ne_nil hne
    rw [encs_cons]; simp [be8_len]; omega
  refine (sync_some B D M nb rm P fi sz a b c av (encs pe) s lv w h.dk h.box h.own h.nf h.ne hdn h1 (by omega) h2 h4 hlen hen ha hb hL).mono ?_
  rintro e w' ⟨sF, E, aF, bF, cF, lv', rfl, hd, hp, hc, hf, hres⟩
  have hbF : bF = b := hres.elim (fun h => h.2.2.2.2.1) (fun h => h.2.2.2.2.1)
  subst hbF
  refine ⟨sF, E, aF, cF, rfl, ⟨lv', .slice none 0 0, { dk := hd, box := hp, own := Own.nil _ _, nf := fun e => (hf P e).elim h.nf (fun h' => by have := h.box.lt; omega), ne := (fun e => by cases e), af := (fun g e => by cases e), base := h.base }, hc.mono (fun k hk => hk.elim .inl (fun h => .inr (.inl h))), fun k hk => ?_⟩, hres.imp (fun h => ⟨h.1, h.2.1, h.2.2.1, h.2.2.2.1, h.2.2.2.2.2⟩) (fun h => ⟨h.1, h.2.1, h.2.2.1, h.2.2.2.1, h.2.2.2.2.2⟩)⟩
  rcases hk with hk | hk | hk
  · exact (hf k hk).imp .inl id
  · exact .inl (.inr (.inl hk))
  · cases hk
theorem LS.nosync (h : LS w B D M nb rm s lv P fi sz a b c av []) :
    Calls Try.prog 32 #[.pointer (some ⟨P, 0, none⟩)] w fun e w' => w = w' ∧ e = .returned (.int .i64 0) := by
  obtain ⟨sa, sc, e⟩ := own_form h.own
  have hb := h.box
  rw [e] at hb
  exact sync_nil P D fi sz a b c sa sc w hb
theorem LS.restart (h : LS w B D M nb rm s lv P fi sz a b c av []) (h1 : 0 ≤ fi) (h2 : fi ≤ 4096) (ha : a < 1099511627776) (hb : b < 1099511627776) (hL : s.L.length ≤ 268421000) :
    Calls Try.prog 50 #[.pointer (some ⟨P, 0, none⟩)] w fun e w' => e = .returned (.int .i64 (s.wsy nb rm (mw fi (a + 1) (b + 1) 0)).2) ∧ LE B D M nb rm (s.wsy nb rm (mw fi (a + 1) (b + 1) 0)).1 lv P fi sz (if (s.wsy nb rm (mw fi (a + 1) (b + 1) 0)).2 = 0 then a + 1 else a) (if (s.wsy nb rm (mw fi (a + 1) (b + 1) 0)).2 = 0 then b + 1 else b) (if (s.wsy nb rm (mw fi (a + 1) (b + 1) 0)).2 = 0 then 0 else c) av [] w w' := by
  obtain ⟨sa, sc, e⟩ := own_form h.own
  have hbx := h.box
  rw [e] at hbx
  refine (restart_nil B D M nb rm P fi sz a b c sa sc s lv w h.dk hbx h.nf ⟨h1, h2⟩ ha hb (by omega)).mono ?_
  rintro e' w' ⟨rfl, lv', hd, hp, hc, hf⟩
  rw [show (encs ([] : List (List Int))).length = 0 from rfl] at e
  refine ⟨rfl, lv', av, { dk := hd, box := by rw [e]; exact hp, own := h.own.chg hc (fun g hg => fun e' => e'.elim (h.af g hg) (fun e' => h.ne (by rw [hg, e']))), nf := fun e => (hf P e).elim h.nf (fun h' => by have := h.box.lt; omega), ne := h.ne, af := fun g hg e' => (hf g e').elim (h.af g hg) (fun h' => by have := h.own.lt g hg; omega), base := h.base }, hc.mono (fun k hk => hk.elim .inl (fun h => .inr (.inl h))), fun k hk => ?_⟩
  rcases hk with hk | hk | hk
  · exact (hf k hk).imp .inl id
  · exact .inl (.inr (.inl hk))
  · exact .inl (.inr (.inr hk))
theorem LS.busy (h : LS w B D M nb rm s lv P fi sz a b c av pe) (hne : pe ≠ []) (hp : (encs pe).length ≤ 1048576) :
    Calls Try.prog 50 #[.pointer (some ⟨P, 0, none⟩)] w fun e w' => w = w' ∧ e = .returned (.int .i64 43) := by
  have hlen : 0 < (encs pe).length := by
    obtain ⟨r, pe', rfl⟩ := List.exists_cons_of_ne_nil hne
    rw [encs_cons]; simp [be8_len]; omega
  obtain ⟨sa, sc, e⟩ := own_form h.own
  have hbx := h.box
  rw [e] at hbx
  exact restart_busy P D _ sc fi sz a b c sa w hbx hlen (by omega)
theorem LS.drop (h : LS w B D M nb rm s lv P fi sz a b c av pe) :
    Calls Try.prog 48 #[.pointer (some ⟨P, 0, none⟩)] w fun e w' => e = .returned (.tuple #[]) ∧ LE B D M nb rm s lv P fi sz a b c av [] w w' := by
  refine (drop_any P D fi sz a b c av w h.box).mono ?_
  rintro e w' ⟨rfl, hp, hc, hs⟩
  refine ⟨rfl, lv, .slice none 0 0, { dk := Dk.chg h.dk hc (fun k hk e => h.nf (by rw [← e]; exact hk)), box := hp, own := Own.nil _ _, nf := h.nf, ne := (fun e => by cases e), af := (fun g e => by cases e), base := h.base }, hc.mono (fun k hk => .inr (.inl hk)), fun k hk => ?_⟩
  rcases hk with hk | hk | hk
  · exact .inl (.inl hk)
  · exact .inl (.inr (.inl hk))
  · cases hk
theorem LS.room (h : LS w B D M nb rm s lv P fi sz a b c av pe) (n : Int) :
    Calls Try.prog 52 #[.pointer (some ⟨D, 0, none⟩), .int .i64 n] w fun e w' => e = .returned (.tuple #[]) ∧ LE B D M nb (if 0 ≤ n then n else 0) s lv P fi sz a b c av pe w w' := by
  refine (room_dk B D M nb rm s.fz n s.dn s.f s.L lv w h.dk).mono ?_
  rintro e w' ⟨rfl, hd, hc⟩
  have hDn : ∀ k, k = P ∨ av.ownBlock = some k → ¬ k = D := fun k hk e => hk.elim (fun e' => h.nf (by rw [← e', e]; exact .inl rfl)) (fun e' => h.af k e' (by rw [e]; exact .inl rfl))
  exact ⟨rfl, lv, av, { h with dk := hd, box := h.box.chg hc (hDn P (.inl rfl)), own := h.own.chg hc (fun g hg => hDn g (.inr hg)) }, hc.mono (fun k hk => .inl (.inl hk)), fun k hk => .inl hk⟩
theorem LS.arm (h : LS w B D M nb rm s lv P fi sz a b c av pe) (n : Int) (hn : n ≤ 9223372036854775807) :
    Calls Try.prog 54 #[.pointer (some ⟨D, 0, none⟩), .int .i64 n] w fun e w' => e = .returned (.tuple #[]) ∧ LE B D M nb rm ⟨if 0 ≤ n then n else -1, s.dn, s.f, s.L⟩ lv P fi sz a b c av pe w w' := by
  refine (arm_dk B D M nb rm s.fz n s.dn s.f s.L lv w h.dk hn).mono ?_
  rintro e w' ⟨rfl, hd, hc⟩
  have hDn : ∀ k, k = P ∨ av.ownBlock = some k → ¬ k = D := fun k hk e => hk.elim (fun e' => h.nf (by rw [← e', e]; exact .inl rfl)) (fun e' => h.af k e' (by rw [e]; exact .inl rfl))
  exact ⟨rfl, lv, av, { h with dk := hd, box := h.box.chg hc (hDn P (.inl rfl)), own := h.own.chg hc (fun g hg => hDn g (.inr hg)) }, hc.mono (fun k hk => .inl (.inl hk)), fun k hk => .inl hk⟩
theorem LS.left (h : LS w B D M nb rm s lv P fi sz a b c av pe) (h2 : 3 ≤ sz) (h4 : sz ≤ 4096) (hc : c ≤ 1048576) (hp : (encs pe).length ≤ 1048576) :
    Calls Try.prog 29 #[.pointer (some ⟨P, 0, none⟩)] w fun e w' => e = .returned (.int .i64 (if 0 ≤ (sz - 2) * 256 - c - ((encs pe).length : Int) - 8 then (sz - 2) * 256 - c - ((encs pe).length : Int) - 8 else 0)) ∧ Below w.heap.size w w' := by
  obtain ⟨sa, sc, e⟩ := own_form h.own
  have hbx := h.box
  rw [e] at hbx
  exact left_any P D fi sz a b c sa _ sc w hbx (by omega) h4 (by omega) (by omega)
end
end Go.Proofs.Ytaibminomehppaa
namespace Go.Proofs.Ytaibminomehppaa
open Go.RowKit
open Go.RowKit
section
variable {w w' : World} {B R gf nb fcap : Nat} {rm : Int} {s : DS} {rv : Value} {Q : Nat} {fi sz : Int} {a b c : Nat} {bv mv : Value} {rs pe : List (List Int)}
theorem QS.lt (h : QS w B R gf nb fcap rm s rv Q fi sz a b c bv mv rs pe) : ∀ k, QFoot R gf rv Q bv mv k → B ≤ k ∧ k < w.heap.size := by
  intro k hk
  rcases hk with hk | rfl | hk | hk
  · exact h.rd.foot k hk
  · exact ⟨h.base, h.box.lt⟩
  · exact h.bo.lt k hk
  · exact h.mo.lt k hk
theorem QS.chg (h : QS w B R gf nb fcap rm s rv Q fi sz a b c bv mv rs pe) {F : Nat → Prop} (hc : Chg F w w') (hF : ∀ k, QFoot R gf rv Q bv mv k → ¬ F k) : QS w' B R gf nb fcap rm s rv Q fi sz a b c bv mv rs pe :=
  { h with rd := h.rd.chg hc (fun k hk => hF k (.inl hk)), box := h.box.chg hc (hF Q (.inr (.inl rfl))), bo := h.bo.chg hc (fun g hg => hF g (.inr (.inr (.inl hg)))), mo := h.mo.chg hc (fun g hg => hF g (.inr (.inr (.inr hg)))) }
theorem QS.hB (h : QS w B R gf nb fcap rm s rv Q fi sz a b c bv mv rs pe) : B ≤ w.heap.size := by have := h.lt Q (.inr (.inl rfl)); omega
def QE (B R gf nb fcap : Nat) (rm : Int) (s' : DS) (rv : Value) (Q : Nat) (fi sz : Int) (a' b' c' : Nat) (bv mv : Value) (rs' pe' : List (List Int)) (w w' : World) : Prop :=
  ∃ rv' bv' mv', QS w' B R gf nb fcap rm s' rv' Q fi sz a' b' c' bv' mv' rs' pe' ∧ Chg (QFoot R gf rv Q bv mv) w w' ∧ (∀ k, QFoot R gf rv' Q bv' mv' k → QFoot R gf rv Q bv mv k ∨ w.heap.size ≤ k)
theorem QS.append (h : QS w B R gf nb fcap rm s rv Q fi sz a b c bv mv rs pe) (v2 : Value) (m : List Int) (hbs : Bs w v2 m) (hnb : ∀ ad n c, v2 = .slice (some ad) n c → 0 < m.length → ad.block ≠ Q) (h2 : 3 ≤ sz) (h4 : sz ≤ 4096) (hcl : (encs rs).length = c) (hc : c ≤ 1048576) (hp : (encs pe).length ≤ 1048576) (hm : m.length ≤ 16777216) :
    Calls Try.prog 46 #[.pointer (some ⟨Q, 0, none⟩), v2] w fun e w' => e = .returned (.int .i64 (if fitsL sz c (encs pe).length m.length = true then 0 else 42)) ∧ QE B R gf nb fcap rm s rv Q fi sz a b c bv mv rs (if fitsL sz c (encs pe).length m.length = true then pe ++ [m] else pe) w w' := by
  refine (rappend_any B R Q fi sz a b c bv mv v2 (encs rs) (encs pe) m w h.box h.bo h.mo h.mq h.hB hbs hnb h2 h4 (by omega) hp hm).mono ?_
  rintro e w' ⟨rfl, mv', hp, ho, hch, ht⟩
  rw [hcl] at ho ⊢
  have hQn : ∀ k, RFoot R gf rv k → ¬ k = Q := fun k hk e => h.nf (by rw [← e]; exact hk)
  refine ⟨rfl, rv, bv, mv', { rd := h.rd.chg hch hQn, box := hp, bo := h.bo.chg hch (fun g hg e => h.bq (by rw [hg, e])), mo := ?_, nf := h.nf, bq := h.bq, mq := fun e => (ht Q e).elim h.mq (fun h' => by have := h.box.lt; omega), bf := h.bf, mf := fun g hg hk => (ht g hg).elim (fun e => h.mf g e hk) (fun h' => by have := (h.rd.foot g hk).2; omega), base := h.base }, hch.mono (fun k hk => .inr (.inl hk)), fun k hk => ?_⟩
  · by_cases hf : fitsL sz c (encs pe).length m.length = true
    · rw [if_pos hf] at ho ⊢
      rw [encs_snoc]; exact ho
    · rw [if_neg hf] at ho ⊢
      exact ho
  · rcases hk with hk | hk | hk | hk
    · exact .inl (.inl hk)
    · exact .inl (.inr (.inl hk))
    · exact .inl (.inr (.inr (.inl hk)))
    · exact (ht k hk).imp (fun h => .inr (.inr (.inr h))) id
theorem QS.sync (h : QS w B R gf nb fcap rm s rv Q fi sz a b c bv mv rs pe) (h1 : 0 ≤ fi) (h2 : fi ≤ 4096) (hne : pe ≠ []) (hcl : (encs rs).length = c) (hal : c + (encs pe).length ≤ 1048576) (hbb : Rng (encs rs ++ encs pe)) (ha : a < 1099511627776) (hb : b < 1099511627776) (hL : s.L.length ≤ 268400000) {A : List (Int × List Int)} (hA : aR fi (encs rs).length (encs rs ++ encs pe) = A) :
    Calls Try.prog 47 #[.pointer (some ⟨Q, 0, none⟩)] w fun e w' => ∃ sF E aF cF, e = .returned (.int .i64 E) ∧ QE B R gf nb fcap rm sF rv Q fi sz aF b cF bv mv (if E = 0 then rs ++ pe else rs) [] w w' ∧ SyRes nb rm fi a b c (encs pe).length s A sF E aF cF := by
  have hlen : 0 < (encs pe).length := by
    obtain ⟨r, pe', rfl⟩ := List.exists_cons_of_ne_nil hne
    rw [encs_cons]; simp [be8_len]; omega
  refine (rsync4_any B R gf nb fcap rm Q fi sz a b c bv mv (encs rs) (encs pe) s rv w h.rd h.box h.nf h.bo h.mo (fun g hg => ⟨h.bf g hg, fun e => h.bq (by rw [hg, e])⟩) h.hB ⟨h1, h2⟩ hlen (by omega) (by omega) (by omega) hL).mono ?_
  rintro e w' ⟨sF, E, aF, cF, rv', bv', rfl, hd, hp, hc, hf, hres⟩
  rw [hA, List.length_append, hcl] at hres
  have hbase : ∀ k, bv.ownBlock = some k → ¬ (RFoot R gf rv k ∨ k = Q) := fun k hk e => e.elim (h.bf k hk) (fun e => h.bq (by rw [hk, e]))
  have hov : (Own w' B bv' (encs (if E = 0 then rs ++ pe else rs))) ∧ ∀ k, bv'.ownBlock = some k → bv.ownBlock = some k ∨ (w.heap.size ≤ k ∧ ¬ RFoot R gf rv' k) := by
    rcases hres with ⟨e1, e2, e3, e4, e5, e6⟩ | ⟨e1, e2, e3, e4, e5, e6⟩
    · have : E ≠ 0 := by rw [e3]; exact e1
      rw [if_neg this, e6]
      exact ⟨h.bo.chg hc hbase, fun k hk => .inl hk⟩
    · by_cases hE : E = 0
      · rw [if_pos hE] at e6 ⊢
        rw [encs_append]
        exact ⟨e6.1, fun k hk => .inr (e6.2 k hk)⟩
      · rw [if_neg hE] at e6 ⊢
        rw [e6]
        exact ⟨h.bo.chg hc hbase, fun k hk => .inl hk⟩
  refine ⟨sF, E, aF, cF, rfl, ⟨rv', bv', .slice none 0 0, { rd := hd, box := hp, bo := hov.1, mo := Own.nil _ _, nf := fun e => (hf Q e).elim h.nf (fun h' => by have := h.box.lt; omega), bq := fun e => (hov.2 Q e).elim h.bq (fun h' => by have := h.box.lt; have := h'.1; omega), mq := (fun e => by cases e), bf := ?_, mf := (fun g e => by cases e), base := h.base }, hc.mono (fun k hk => hk.elim .inl (fun h => .inr (.inl h))), fun k hk => ?_⟩, hres.imp (fun h => ⟨h.1, h.2.1, h.2.2.1, h.2.2.2.1, h.2.2.2.2.1⟩) (fun h => ⟨h.1, h.2.1, h.2.2.1, h.2.2.2.1, h.2.2.2.2.1⟩)⟩
  · intro g hg hk
    rcases hov.2 g hg with h1 | h1
    · exact (hf g hk).elim (h.bf g h1) (fun h' => by have := h.bo.lt g h1; omega)
    · exact h1.2 hk
  · rcases hk with hk | hk | hk | hk
    · exact (hf k hk).imp .inl id
    · exact .inl (.inr (.inl hk))
    · exact (hov.2 k hk).imp (fun h => .inr (.inr (.inl h))) And.left
    · cases hk
theorem QS.nosync (h : QS w B R gf nb fcap rm s rv Q fi sz a b c bv mv rs []) :
    Calls Try.prog 47 #[.pointer (some ⟨Q, 0, none⟩)] w fun e w' => w = w' ∧ e = .returned (.int .i64 0) := by
  obtain ⟨ma, mc, hm⟩ := own_form h.mo
  have c7 : w.cell? ⟨Q, 7, none⟩ = some (.slice ma 0 mc) := by rw [h.box.cell 7]; exact congrArg some hm
  clear h hm
  go_enter Try.func47, Try.ntmps47
  go_wp2_with fail
  go_ret
  exact ⟨rfl, rfl⟩
theorem QS.restart (h : QS w B R gf nb fcap rm s rv Q fi sz a b c bv mv rs []) (h1 : 0 ≤ fi) (h2 : fi ≤ 4096) (ha : a < 1099511627776) (hb : b < 1099511627776) (hL : s.L.length ≤ 268421000) :
    Calls Try.prog 51 #[.pointer (some ⟨Q, 0, none⟩)] w fun e w' => e = .returned (.int .i64 (s.wsy nb rm (mw fi (a + 1) (b + 1) 0)).2) ∧ QE B R gf nb fcap rm (s.wsy nb rm (mw fi (a + 1) (b + 1) 0)).1 rv Q fi sz (if (s.wsy nb rm (mw fi (a + 1) (b + 1) 0)).2 = 0 then a + 1 else a) (if (s.wsy nb rm (mw fi (a + 1) (b + 1) 0)).2 = 0 then b + 1 else b) (if (s.wsy nb rm (mw fi (a + 1) (b + 1) 0)).2 = 0 then 0 else c) bv mv (if (s.wsy nb rm (mw fi (a + 1) (b + 1) 0)).2 = 0 then [] else rs) [] w w' := by
  obtain ⟨ma, mc, e⟩ := own_form h.mo
  have hbx := h.box
  rw [e] at hbx
  refine (rrestart_any B R gf nb fcap rm Q fi sz a b c bv ma mc s rv w h.rd hbx h.nf ⟨h1, h2⟩ (by omega) (by omega) (by omega)).mono ?_
  rintro e' w' ⟨rfl, rv', hd, hp, hc, hf⟩
  rw [show (encs ([] : List (List Int))).length = 0 from rfl] at e
  rw [← e] at hp
  have hmq : ∀ g, mv.ownBlock = some g → ¬ (RFoot R gf rv g ∨ g = Q) := fun g hg e' => e'.elim (h.mf g hg) (fun e' => h.mq (by rw [hg, e']))
  have hbq : ∀ g, bv.ownBlock = some g → ¬ (RFoot R gf rv g ∨ g = Q) := fun g hg e' => e'.elim (h.bf g hg) (fun e' => h.bq (by rw [hg, e']))
  refine ⟨rfl, rv', (if (s.wsy nb rm (mw fi (a + 1) (b + 1) 0)).2 = 0 then .slice none 0 0 else bv), mv, ?_, hc.mono (fun k hk => hk.elim .inl (fun h => .inr (.inl h))), fun k hk => ?_⟩
  · refine { rd := hd, box := hp, bo := ?_, mo := h.mo.chg hc hmq, nf := fun e => (hf Q e).elim h.nf (fun h' => by have := h.box.lt; omega), bq := ?_, mq := h.mq, bf := ?_, mf := fun g hg e' => (hf g e').elim (h.mf g hg) (fun h' => by have := h.mo.lt g hg; omega), base := h.base }
    · split
      · exact Own.nil _ _
      · exact h.bo.chg hc hbq
    · split
      · intro e; cases e
      · exact h.bq
    · split
      · intro g e; cases e
      · exact fun g hg e' => (hf g e').elim (h.bf g hg) (fun h' => by have := h.bo.lt g hg; omega)
  · rcases hk with hk | hk | hk | hk
    · exact (hf k hk).imp .inl id
    · exact .inl (.inr (.inl hk))
    · refine .inl (.inr (.inr (.inl ?_)))
      split at hk
      · cases hk
      · exact hk
    · exact .inl (.inr (.inr (.inr hk)))
theorem QS.busy (h : QS w B R gf nb fcap rm s rv Q fi sz a b c bv mv rs pe) (hne : pe ≠ []) (hp : (encs pe).length ≤ 1048576) :
    Calls Try.prog 51 #[.pointer (some ⟨Q, 0, none⟩)] w fun e w' => w = w' ∧ e = .returned (.int .i64 43) := by
  have hlen : 0 < (encs pe).length := by
    obtain ⟨r, pe', rfl⟩ := List.exists_cons_of_ne_nil hne
    rw [encs_cons]; simp [be8_len]; omega
  obtain ⟨ma, mc, e⟩ := own_form h.mo
  have hbx := h.box
  rw [e] at hbx
  exact rrestart_busy Q R fi sz a b c _ mc bv ma w hbx hlen (by omega)
theorem QS.drop (h : QS w B R gf nb fcap rm s rv Q fi sz a b c bv mv rs pe) :
    Calls Try.prog 49 #[.pointer (some ⟨Q, 0, none⟩)] w fun e w' => e = .returned (.tuple #[]) ∧ QE B R gf nb fcap rm s rv Q fi sz a b c bv mv rs [] w w' := by
  refine (rgdrop_any Q R fi sz a b c bv mv w h.box).mono ?_
  rintro e w' ⟨rfl, hp, hc⟩
  refine ⟨rfl, rv, bv, .slice none 0 0, { h with rd := h.rd.chg hc (fun k hk e => h.nf (by rw [← e]; exact hk)), box := hp, bo := h.bo.chg hc (fun g hg e => h.bq (by rw [hg, e])), mo := Own.nil _ _, mq := (fun e => by cases e), mf := (fun g e => by cases e) }, hc.mono (fun k hk => .inr (.inl hk)), fun k hk => ?_⟩
  rcases hk with hk | hk | hk | hk
  · exact .inl (.inl hk)
  · exact .inl (.inr (.inl hk))
  · exact .inl (.inr (.inr (.inl hk)))
  · cases hk
theorem QS.room (h : QS w B R gf nb fcap rm s rv Q fi sz a b c bv mv rs pe) (n : Int) :
    Calls Try.prog 53 #[.pointer (some ⟨R, 0, none⟩), .int .i64 n] w fun e w' => e = .returned (.tuple #[]) ∧ QE B R gf nb fcap (if 0 ≤ n then n else 0) s rv Q fi sz a b c bv mv rs pe w w' := by
  obtain ⟨bs, K, h1, h2, h3⟩ := h.rd
  refine (rroom_rs B R gf nb fcap rv rm s.fz n s.dn bs K w h1).mono ?_
  rintro e w' ⟨rfl, hd, hc⟩
  have hR : RFoot R gf rv R := .inl rfl
  exact ⟨rfl, rv, bv, mv, { h with rd := ⟨bs, K, hd, h2, h3⟩, box := h.box.chg hc (fun e => h.nf (by rw [e]; exact hR)), bo := h.bo.chg hc (fun g hg e => h.bf g hg (by rw [e]; exact hR)), mo := h.mo.chg hc (fun g hg e => h.mf g hg (by rw [e]; exact hR)) }, hc.mono (fun k hk => .inl (.inl hk)), fun k hk => .inl hk⟩
theorem QS.arm (h : QS w B R gf nb fcap rm s rv Q fi sz a b c bv mv rs pe) (n : Int) (hn : n ≤ 9223372036854775807) :
    Calls Try.prog 55 #[.pointer (some ⟨R, 0, none⟩), .int .i64 n] w fun e w' => e = .returned (.tuple #[]) ∧ QE B R gf nb fcap rm ⟨if 0 ≤ n then n else -1, s.dn, s.f, s.L⟩ rv Q fi sz a b c bv mv rs pe w w' := by
  obtain ⟨bs, K, h1, h2, h3⟩ := h.rd
  refine (rarm_rs B R gf nb fcap rv rm s.fz n s.dn bs K w h1 hn).mono ?_
  rintro e w' ⟨rfl, hd, hc⟩
  have hR : RFoot R gf rv R := .inl rfl
  exact ⟨rfl, rv, bv, mv, { h with rd := ⟨bs, K, hd, h2, h3⟩, box := h.box.chg hc (fun e => h.nf (by rw [e]; exact hR)), bo := h.bo.chg hc (fun g hg e => h.bf g hg (by rw [e]; exact hR)), mo := h.mo.chg hc (fun g hg e => h.mf g hg (by rw [e]; exact hR)) }, hc.mono (fun k hk => .inl (.inl hk)), fun k hk => .inl hk⟩
theorem QS.left (h : QS w B R gf nb fcap rm s rv Q fi sz a b c bv mv rs pe) (h2 : 3 ≤ sz) (h4 : sz ≤ 4096) (hcl : (encs rs).length = c) (hc : c ≤ 1048576) (hp : (encs pe).length ≤ 1048576) :
    Calls Try.prog 58 #[.pointer (some ⟨Q, 0, none⟩)] w fun e w' => e = .returned (.int .i64 (if 0 ≤ (sz - 2) * 256 - c - ((encs pe).length : Int) - 8 then (sz - 2) * 256 - c - ((encs pe).length : Int) - 8 else 0)) ∧ Below w.heap.size w w' := by
  obtain ⟨ma, mc, e⟩ := own_form h.mo
  obtain ⟨ba, bc, e2⟩ := own_form h.bo
  have hbx := h.box
  rw [e, e2] at hbx
  refine (rgleft_any Q R fi sz a b c _ _ bc mc ba ma w hbx (by omega) h4 (by omega) (by omega)).mono ?_
  rintro e w' ⟨hb, rfl⟩
  rw [hcl, Int.mul_comm 256]
  exact ⟨rfl, hb⟩
end
end Go.Proofs.Ytaibminomehppaa
namespace Go.Proofs.Ytaibminomehppaa
open Go.RowKit
open Go.RowKit
theorem wpList_load_rowG {P : Program} {ops : Array Oper} {rest : List Oper} {o : Oper} {a : Act} {w : World} {Q : Exit → Act → World → Prop} (hw : Region.wanted o (yielded ops a.tmps) = true) (ty : TypeId) (x : Operand) (ho : o.op = .load ty x)
    (g : Nat) (hx : a.eval x = .pointer (some ⟨g, 0, none⟩)) (t : TypeId) (cs : Array Value) (fr : Nat × Nat) (d : TypeDesc) (hg : w.heap[g]? = some (.cells cs t fr))
    (hu : P.underlying ty = some d) (hd : (match d with | .struct _ | .array _ _ => true | _ => false) = true) (hi : (P.info? ty).map (·.size) = some cs.size)
    (h : wpList P ops Q rest (a.put o.dst (.agg cs)) w) : wpList P ops Q (o :: rest) a w :=
  wpList_step fun K hK => by
    rw [if_pos hw]
    exact wp_load_row ty x ho g hx t cs fr d hg hu hd hi (hK _ _ h)
theorem wpList_of_runG {P : Program} {ops : Array Oper} {rest : List Oper} {o : Oper} {a : Act} {w w' : World} {v : Value} {Q : Exit → Act → World → Prop} (hw : Region.wanted o (yielded ops a.tmps) = true) (hr : (execOp a.eval o).run P w = .ok (.value v) w') (h : wpList P ops Q rest (a.put o.dst v) w') : wpList P ops Q (o :: rest) a w :=
  wpList_step fun K hK => by
    rw [if_pos hw]
    unfold Oper.wp
    simp [hr]
    exact hK _ _ h
/-- a pair of disks and of logs -/
def PrIs (w : World) (Z D R : Nat) (lp mp : Value) : Prop := w.heap[Z]? = some (.cells #[.pointer (some ⟨D, 0, none⟩), .pointer (some ⟨R, 0, none⟩), lp, mp] 32 (0, 0))
section
variable {w w' : World} {Z D R : Nat} {lp mp : Value}
theorem PrIs.lt (h : PrIs w Z D R lp mp) : Z < w.heap.size := (Array.getElem?_eq_some_iff.1 h).1
theorem PrIs.chg {F : Nat → Prop} (h : PrIs w Z D R lp mp) (hc : Chg F w w') (hF : ¬ F Z) : PrIs w' Z D R lp mp := (hc.block Z h.lt hF).trans h
theorem PrIs.fresh (h : PrIs w Z D R lp mp) (hb : Below w.heap.size w w') : PrIs w' Z D R lp mp := (hb.block Z h.lt).trans h
theorem PrIs.cell (h : PrIs w Z D R lp mp) (i : Nat) : w.cell? ⟨Z, i, none⟩ = (#[Value.pointer (some ⟨D, 0, none⟩), .pointer (some ⟨R, 0, none⟩), lp, mp] : Array Value)[i]? := cell_of_row w Z i _ 32 (0, 0) h
theorem PrIs.frozen (h : PrIs w Z D R lp mp) (i : Nat) : w.frozen? ⟨Z, i, none⟩ = false := frozen_of_row w Z i _ 32 h
end
set_option maxRecDepth 100000 in
set_option maxHeartbeats 8000000 in
theorem same_any (B Z D M R gf nb fcap : Nat) (rm : Int) (s : DS) (lv rv lp mp : Value) (w : World) (hd : DkS w B D M nb rm s lv) (hr : RD w B R gf nb fcap rm s rv) (hp : PrIs w Z D R lp mp) (hnb : nb ≤ 4096) :
    Calls Try.prog 10 #[.pointer (some ⟨Z, 0, none⟩)] w fun e w' => e = .returned (.bool true) ∧ Below w.heap.size w w' := by
  obtain ⟨bs, K, hrs, hrel, hKl⟩ := id hr
  have hlen := hrel.len
  have HD := Lib.hid hd
  have HR := Lib.hid hr
  have HP := Lib.hid hp
  have z0 : w.cell? ⟨Z, 0, none⟩ = some (.pointer (some ⟨D, 0, none⟩)) := hp.cell 0
  have z1 : w.cell? ⟨Z, 1, none⟩ = some (.pointer (some ⟨R, 0, none⟩)) := hp.cell 1
  obtain ⟨ra, rc, hrv⟩ := hrs.2.2.1.shape
  subst hrv
  have r0 : w.cell? ⟨R, 0, none⟩ = some (.slice (some ⟨gf, 0, none⟩) nb fcap) := hrs.1.cell 0
  have r1 : w.cell? ⟨R, 1, none⟩ = some (.slice ra K.length rc) := hrs.1.cell 1
  have r4 : w.cell? ⟨R, 4, none⟩ = some (.bool s.dn) := hrs.1.cell 4
  rw [hlen] at r1
  have HRL := Lib.hid (show R < w.heap.size from (hrs.foot R (.inl rfl)).2)
  have HZL := Lib.hid hp.lt
  have HR0 := Lib.hid r0
  have HR1 := Lib.hid r1
  have HR4 := Lib.hid r4
  have HZ0 := Lib.hid z0
  have HZ1 := Lib.hid z1
  have HNB := Lib.hid hnb
  clear hd hr hp hrs hrel hKl hlen r0 r1 hnb
  go_enter Try.func10, Try.ntmps10
  go_wp2_with fail
  obtain ⟨fz, dn, f, L⟩ := s
  dsimp only at r4 HR4 HR1
  have HDN := Lib.hid (show ∀ _ : Nat, DiskIs w D _ from fun _ => HD.out.1)
  cases dn
  · have hz := zero35
    have HI35 := Lib.hid (show (Try.prog.info? 52).map (·.size) = some 256 by kernel_rfl)
    have SZ := Lib.hid (show (ArrU8 (zeros 256)).size = 256 by rw [ArrU8_size, zeros, List.length_replicate])
    refine (down_any D _ _ _ _ _ _ _ (HDN.out 0)).mono ?_
    rintro e w' ⟨rfl, rfl⟩
    go_wp2_with fail
    clear z0 z1 r4
    go_loopw [3] (fun iv wr => ∃ j : Nat, j ≤ nb ∧ iv = .int .i64 (j : Int) ∧ Below w.heap.size w wr) (fun iv _ => nb - (intOf iv).toNat)
    case atStart => exact ⟨0, by omega, rfl, Below.refl _ _⟩
    case round =>
      obtain ⟨j, hj, rfl, hb⟩ := hrel
      have HY := Lib.hid hb
      have hnb := HNB.out
      have r0 := (hb.cell (p := ⟨R, 0, none⟩) HRL.out).trans HR0.out
      have z0 := (hb.cell (p := ⟨Z, 0, none⟩) HZL.out).trans HZ0.out
      have z1 := (hb.cell (p := ⟨Z, 1, none⟩) HZL.out).trans HZ1.out
      clear hb
      by_cases hjm : j < nb
      · have HG := Lib.hid (rdF_len nb (j : Int) false f HD.out.2.2.2.2.2.2.1)
        have HRD := fun u (h : Below w.heap.size w u) => read_dk B D M nb rm fz (j : Int) false f L lv u (Dk.chg HD.out (Chg.fresh (F := fun _ => False) h) (fun _ _ h => h))
        have HRR := fun u (h : Below w.heap.size w u) => rd_read (HR.out.fresh h) (j : Int)
        dsimp only at HRR
        generalize rdF nb (j : Int) false f = g at *
        generalize readErr nb (j : Int) false = E at *
        have SG := Lib.hid (show (ArrU8 g).size = 256 by rw [ArrU8_size, HG.out])
        have HRD := Lib.hid HRD
        have HRR := Lib.hid HRR
        have Y0 := Lib.hid z0
        have Y1 := Lib.hid z1
        have HZR := Lib.hid (show Z < wr.heap.size from by have := HY.out.size; have := HZL.out; omega)
        have hji : (j : Int) < (nb : Int) := by omega
        have HJ := Lib.hid hjm
        go_wp2_with fail
        refine (HRD.out wr HY.out).mono ?_
        rintro e wa ⟨rfl, hb⟩
        have XA := Lib.hid hb
        clear z1
        have z1 := (hb.cell (p := ⟨Z, 1, none⟩) HZR.out).trans Y1.out
        have ZA1 := Lib.hid z1
        clear hb z0 r0 z1
        go_wp2_with (refine wpList_store_nw rfl 52 (Operand.tmp 4) (Operand.tmp 54) rfl wa _ 52 rfl wa.heap.size (ArrU8 g) rfl rfl rfl (by rw [HI35.out, SG.out]) (by rw [SZ.out, SG.out]) (ArrU8_one _) ?_; intro wb hd hb hs; have QB := Lib.hid hd; have XB := Lib.hid hb; have SB := Lib.hid hs; have z1 := (hb.cell (p := ⟨Z, 1, none⟩) (by have := XA.out.size; have := HZR.out; show Z < _; omega)).trans ZA1.out; clear hd hb hs)
        refine (HRR.out wb ((HY.out.trans (XA.out.mono HY.out.size)).trans (XB.out.mono (by have := HY.out.size; have := XA.out.size; omega)))).mono ?_
        rintro e wc ⟨rfl, hb⟩
        have XC := Lib.hid hb
        clear hb z1
        go_wp2_with (first
          | (refine wpList_store_nw rfl 52 (Operand.tmp 6) (Operand.tmp 63) rfl wc _ 52 rfl wc.heap.size (ArrU8 g) rfl rfl rfl (by rw [HI35.out, SG.out]) (by rw [SZ.out, SG.out]) (ArrU8_one _) ?_; intro wd hd hb hs; have QD := Lib.hid hd; have XD := Lib.hid hb; have SD := Lib.hid hs; clear hd hb hs)
          | (refine wpList_load_rowG (by rfl) 52 (Operand.tmp 4) rfl wa.heap.size rfl 52 (ArrU8 g) (0, 0) _ ((XD.out.block wa.heap.size (by have := XC.out.size; have := SB.out; omega)).trans ((XC.out.block wa.heap.size (by have := SB.out; omega)).trans QB.out)) Try.underlying52 rfl (by rw [HI35.out, SG.out]) ?_)
          | (refine wpList_load_rowG (by rfl) 52 (Operand.tmp 6) rfl wc.heap.size rfl 52 (ArrU8 g) (0, 0) _ QD.out Try.underlying52 rfl (by rw [HI35.out, SG.out]) ?_)
          | (refine wpList_of_runG (by rfl) (exec_neq_blk (Operand.tmp 69) (Operand.tmp 70) 52 rfl g g rfl rfl HG.out HG.out false (by simp)) ?_))
        go_roundw
        case rel =>
          have hy : Below wr.heap.size wr wd := ((XA.out.trans (XB.out.mono XA.out.size)).trans (XC.out.mono (by have := XA.out.size; have := XB.out.size; omega))).trans (XD.out.mono (by have := XA.out.size; have := XB.out.size; have := XC.out.size; omega))
          exact ⟨j + 1, by have := HJ.out; omega, by go_num, HY.out.trans (hy.mono HY.out.size)⟩
        case measure => have := HJ.out; simp [intOf]; omega
      · have hji : ¬ (j : Int) < (nb : Int) := by omega
        have r1 := (HY.out.cell (p := ⟨R, 1, none⟩) HRL.out).trans HR1.out
        have HLO := Lib.hid (fun n => loose_dk B D M nb rm fz false f L lv (wr.drewN n) (Dk.chg HD.out (Chg.fresh (F := fun _ => False) (below_drewN HY.out n)) (fun _ _ h => h)))
        go_wp2_with fail
        go_quiet (first | (go_at_call 44; refine Calls.quiet_of_same ((HLO.out _).mono (fun e w' h => ⟨h.2, h.1.symm⟩))))
        go_wp2_with fail
        go_ret
        exact ⟨rfl, below_drewN HY.out _⟩
  · refine (down_any D _ _ _ _ _ _ _ (HDN.out 0)).mono ?_
    rintro e w' ⟨rfl, rfl⟩
    go_wp2_with fail
    go_quiet (first | (go_at_call 13; refine Calls.quiet_of_same ((down_any D _ _ _ _ _ _ _ (show DiskIs (w.drewN _) D _ from HD.out.1)).mono (fun e w' h => ⟨h.2, h.1.symm⟩))))
    go_wp2_with fail
    go_ret
    exact ⟨rfl, below_drewN (Below.refl _ _) _⟩
end Go.Proofs.Ytaibminomehppaa
namespace Go.Proofs.Ytaibminomehppaa
open Go.RowKit
open Go.RowKit
/-- both disks and both logs; the two sides may be in different states -/
structure PR (w : World) (B Z D R nb : Nat) (fi sz : Int) (M : Nat) (rm : Int) (s : DS) (lv : Value) (P a b c : Nat) (av : Value) (pe : List (List Int)) (gf fcap : Nat) (rm' : Int) (s' : DS) (rv : Value) (Q a' b' c' : Nat) (bv mv : Value) (rs' pe' : List (List Int)) : Prop where
  l : LS w B D M nb rm s lv P fi sz a b c av pe
  q : QS w B R gf nb fcap rm' s' rv Q fi sz a' b' c' bv mv rs' pe'
  ap : ∀ k, LFoot D M lv P av k → ¬ QFoot R gf rv Q bv mv k
  p : PrIs w Z D R (.pointer (some ⟨P, 0, none⟩)) (.pointer (some ⟨Q, 0, none⟩))
  zl : ¬ LFoot D M lv P av Z
  zq : ¬ QFoot R gf rv Q bv mv Z
  base : B ≤ Z
section
variable {w w1 : World} {B Z D R nb : Nat} {fi sz : Int} {M : Nat} {rm : Int} {s : DS} {lv : Value} {P a b c : Nat} {av : Value} {pe : List (List Int)} {gf fcap : Nat} {rm' : Int} {s' : DS} {rv : Value} {Q a' b' c' : Nat} {bv mv : Value} {rs' pe' : List (List Int)}
theorem PR.hB (h : PR w B Z D R nb fi sz M rm s lv P a b c av pe gf fcap rm' s' rv Q a' b' c' bv mv rs' pe') : B ≤ w.heap.size := h.l.hB
theorem PR.fresh (h : PR w B Z D R nb fi sz M rm s lv P a b c av pe gf fcap rm' s' rv Q a' b' c' bv mv rs' pe') (hb : Below w.heap.size w w1) : PR w1 B Z D R nb fi sz M rm s lv P a b c av pe gf fcap rm' s' rv Q a' b' c' bv mv rs' pe' :=
  { h with l := h.l.chg (Chg.fresh (F := fun _ => False) hb) (fun _ _ h => h), q := h.q.chg (Chg.fresh (F := fun _ => False) hb) (fun _ _ h => h), p := h.p.fresh hb }
theorem PR.left {rm2 : Int} {s2 : DS} {a2 b2 c2 : Nat} {pe2 : List (List Int)} (h : PR w B Z D R nb fi sz M rm s lv P a b c av pe gf fcap rm' s' rv Q a' b' c' bv mv rs' pe') (he : LE B D M nb rm2 s2 lv P fi sz a2 b2 c2 av pe2 w w1) :
    ∃ lv2 av2, PR w1 B Z D R nb fi sz M rm2 s2 lv2 P a2 b2 c2 av2 pe2 gf fcap rm' s' rv Q a' b' c' bv mv rs' pe' ∧ Below B w w1 ∧ Chg (LFoot D M lv P av) w w1 := by
  obtain ⟨lv2, av2, h1, h2, h3⟩ := he
  refine ⟨lv2, av2, { l := h1, q := h.q.chg h2 (fun k hk hl => h.ap k hl hk), ap := fun k hk hq => (h3 k hk).elim (fun e => h.ap k e hq) (fun e => by have := (h.q.lt k hq).2; omega), p := h.p.chg h2 h.zl, zl := fun e => (h3 Z e).elim h.zl (fun e => by have := h.p.lt; omega), zq := h.zq, base := h.base }, h2.below (fun k hk => (h.l.lt k hk).1) h.hB, h2⟩
theorem PR.right {rm2 : Int} {s2 : DS} {a2 b2 c2 : Nat} {rs2 pe2 : List (List Int)} (h : PR w B Z D R nb fi sz M rm s lv P a b c av pe gf fcap rm' s' rv Q a' b' c' bv mv rs' pe') (he : QE B R gf nb fcap rm2 s2 rv Q fi sz a2 b2 c2 bv mv rs2 pe2 w w1) :
    ∃ rv2 bv2 mv2, PR w1 B Z D R nb fi sz M rm s lv P a b c av pe gf fcap rm2 s2 rv2 Q a2 b2 c2 bv2 mv2 rs2 pe2 ∧ Below B w w1 ∧ Chg (QFoot R gf rv Q bv mv) w w1 := by
  obtain ⟨rv2, bv2, mv2, h1, h2, h3⟩ := he
  refine ⟨rv2, bv2, mv2, { l := h.l.chg h2 (fun k hk hl => h.ap k hk hl), q := h1, ap := fun k hk hq => (h3 k hq).elim (fun e => h.ap k hk e) (fun e => by have := (h.l.lt k hk).2; omega), p := h.p.chg h2 h.zq, zl := h.zl, zq := fun e => (h3 Z e).elim h.zq (fun e => by have := h.p.lt; omega), base := h.base }, h2.below (fun k hk => (h.q.lt k hk).1) h.hB, h2⟩
end
/-- both disks and the pair -/
structure DP (w : World) (B Z D R nb M gf fcap : Nat) (rm : Int) (s : DS) (lv rv lp mp : Value) : Prop where
  dk : DkS w B D M nb rm s lv
  rd : RD w B R gf nb fcap rm s rv
  ap : ∀ k, Foot D M lv k → ¬ RFoot R gf rv k
  p : PrIs w Z D R lp mp
  zl : ¬ Foot D M lv Z
  zq : ¬ RFoot R gf rv Z
  base : B ≤ Z
theorem PR.dp {w : World} {B Z D R nb : Nat} {fi sz : Int} {M : Nat} {rm : Int} {s : DS} {lv : Value} {P a b c : Nat} {av : Value} {pe : List (List Int)} {gf fcap : Nat} {rv : Value} {Q a' b' c' : Nat} {bv mv : Value} {rs' pe' : List (List Int)}
    (h : PR w B Z D R nb fi sz M rm s lv P a b c av pe gf fcap rm s rv Q a' b' c' bv mv rs' pe') : DP w B Z D R nb M gf fcap rm s lv rv (.pointer (some ⟨P, 0, none⟩)) (.pointer (some ⟨Q, 0, none⟩)) :=
  ⟨h.l.dk, h.q.rd, fun k hk e => h.ap k (.inl hk) (.inl e), h.p, fun e => h.zl (.inl e), fun e => h.zq (.inl e), h.base⟩
/-- both in one state -/
def PS (w : World) (B Z D R nb : Nat) (fi sz rm : Int) (s : DS) (a b c : Nat) (rs pe : List (List Int)) : Prop :=
  ∃ M gf fcap lv rv P Q av bv mv, PR w B Z D R nb fi sz M rm s lv P a b c av pe gf fcap rm s rv Q a b c bv mv rs pe
theorem pr_open {w w1 w2 w3 : World} {B Z D R nb M gf fcap : Nat} {fi sz rm : Int} {s : DS} {lv rv lp mp : Value} {P Q a b c : Nat} {bv : Value} {rs : List (List Int)} (h : DP w B Z D R nb M gf fcap rm s lv rv lp mp)
    (hp : LgIs w1 P D fi sz a b c (.slice none 0 0)) (hP : w.heap.size ≤ P) (hb1 : Below w.heap.size w w1) (hq : RLgIs w2 Q (RLg R fi sz a b c bv (.slice none 0 0))) (ho : Own w2 w1.heap.size bv (encs rs)) (hbq : bv.ownBlock ≠ some Q) (hQ : w1.heap.size ≤ Q) (hb2 : Below w1.heap.size w1 w2)
    (hz : PrIs w3 Z D R (.pointer (some ⟨P, 0, none⟩)) (.pointer (some ⟨Q, 0, none⟩))) (hc : Chg (fun k => k = Z) w2 w3) : PR w3 B Z D R nb fi sz M rm s lv P a b c (.slice none 0 0) [] gf fcap rm s rv Q a b c bv (.slice none 0 0) rs [] := by
  have s1 := hb1.size
  have s2 := hb2.size
  have hZ := h.p.lt
  have hf := fun k hk => (h.dk.foot k hk)
  have hr := fun k hk => (h.rd.foot k hk)
  have hcd : Chg (fun k => k = Z) w w3 := ((Chg.fresh (F := fun k => k = Z) hb1).trans (Chg.fresh (F := fun k => k = Z) hb2) (fun _ e => .inl e)).trans hc (fun _ e => .inl e)
  have hB : B ≤ w.heap.size := by have := hf D (.inl rfl); omega
  have hpl := hp.lt
  have hobs : ∀ k, bv.ownBlock = some k → w1.heap.size ≤ k := fun k hk => (ho.lt k hk).1
  refine { l := { dk := Dk.chg h.dk hcd (fun k hk e => h.zl (by rw [← e]; exact hk)), box := (hp.chg (Chg.fresh (F := fun _ => False) hb2) (fun h => h)).chg hc (by omega), own := Own.nil _ _, nf := fun e => by have := (hf P e).2; omega, ne := (fun e => by cases e), af := (fun g e => by cases e), base := by omega }, q := { rd := h.rd.chg hcd (fun k hk e => h.zq (by rw [← e]; exact hk)), box := hq.chg hc (by omega), bo := ?_, mo := Own.nil _ _, nf := fun e => by have := (hr Q e).2; omega, bq := hbq, mq := (fun e => by cases e), bf := fun g hg e => by have := hobs g hg; have := (hr g e).2; omega, mf := (fun g e => by cases e), base := by omega }, ap := ?_, p := hz, zl := ?_, zq := ?_, base := h.base }
  · exact own_lower (ho.chg hc (fun g hg e => by have := hobs g hg; omega)) (by omega)
  · intro k hk e
    rcases hk with hk | rfl | hk
    · have := (hf k hk).2
      rcases e with e | rfl | e | e
      · exact h.ap k hk e
      · omega
      · have := hobs k e; omega
      · cases e
    · rcases e with e | e | e | e
      · have := (hr k e).2; omega
      · omega
      · have := hobs k e; omega
      · cases e
    · cases hk
  · rintro (e | e | e)
    · exact h.zl e
    · omega
    · cases e
  · rintro (e | e | e | e)
    · exact h.zq e
    · omega
    · have := hobs Z e; omega
    · cases e
set_option maxRecDepth 100000 in
set_option maxHeartbeats 4000000 in
theorem popen_any (B Z D R nb M gf fcap : Nat) (rm fi sz : Int) (s : DS) (lv rv lp mp : Value) (a b c : Nat) (rs pe : List (List Int)) (w : World) (h : DP w B Z D R nb M gf fcap rm s lv rv lp mp) (hg : Good nb rm s.fz s.f fi sz a b c rs pe) (hdn : s.dn = false) :
    Calls Try.prog 11 #[.pointer (some ⟨Z, 0, none⟩), .int .i64 fi, .int .i64 sz] w fun e w' => e = .returned (.bool true) ∧ PS w' B Z D R nb fi sz rm s a b c rs [] ∧ Below B w w' := by
  have hsm := hg.small
  have hcl := hg.clen
  have hnc := nst_mk hg.mkf
  have h1 := hg.h1; have h2 := hg.h2; have h3 := hg.h3; have h4 := hg.h4; have hha := hg.ha; have hhb := hg.hb; have hft := hg.fits
  have hopen := fun (h' : DkS w B D M nb rm s lv) => open_yes B D M nb rm s.fz fi sz s.f s.L lv a b c rs w (by rw [← hdn]; exact h') h1 h2 h3 h4 hg.rng hnc hg.mkf.2.1 (by omega) hg.area hg.rrs
  have hropen := fun u (h' : RD u B R gf nb fcap rm s rv) => ropen_yes B R gf nb fcap rm fi sz s rv a b c rs u h' hdn h1 h2 h3 (by omega) hg.rng hg.fl hnc hg.mkf.2.1 ⟨by omega, by omega⟩ (by omega) hg.area hg.rrs
  have HO := Lib.hid (hopen h.dk)
  have HRO := Lib.hid hropen
  have HD := Lib.hid h
  have HRS := Lib.hid hg.rrs
  have HLN := Lib.hid (show rs.length ≤ 1099511627776 from by
    have := encs_ge rs
    omega)
  have z0 : w.cell? ⟨Z, 0, none⟩ = some (.pointer (some ⟨D, 0, none⟩)) := h.p.cell 0
  clear hopen hropen hg hsm hcl hnc h1 h2 h3 h4 hha hhb hft h
  go_enter Try.func11, Try.ntmps11
  go_wp2_with fail
  refine (HO.out).mono ?_
  rintro e w1 ⟨P, v1, rfl, hp, hrc, hP, hb⟩
  have HP1 := Lib.hid hp
  have RC1 := Lib.hid hrc
  have PG := Lib.hid hP
  have X1 := Lib.hid hb
  have hz1 := HD.out.p.fresh hb
  have z1 : w1.cell? ⟨Z, 1, none⟩ = some (.pointer (some ⟨R, 0, none⟩)) := hz1.cell 1
  have PZ1 := Lib.hid hz1
  have HR1 := Lib.hid (HD.out.rd.fresh hb)
  clear z0 hp hrc hP hb hz1
  go_wp2_with fail
  refine (HRO.out w1 HR1.out).mono ?_
  rintro e w2 ⟨Q, v2, bv, rfl, hq, ho, hbq, hps, hQ, hb⟩
  have HQ2 := Lib.hid hq
  have HO2 := Lib.hid ho
  have BQ := Lib.hid hbq
  have PS2 := Lib.hid hps
  have QG := Lib.hid hQ
  have X2 := Lib.hid hb
  have hz2 := PZ1.out.fresh hb
  have PZ2 := Lib.hid hz2
  have z2 : w2.cell? ⟨Z, 2, none⟩ = some lp := hz2.cell 2
  have z3 : w2.cell? ⟨Z, 3, none⟩ = some mp := hz2.cell 3
  have f2 := hz2.frozen 2
  have f3 := hz2.frozen 3
  clear z1 hq ho hbq hps hQ hb hz2
  go_wp2_with fail
  have hc : Chg (fun k => k = Z) w2 ((w2.setCell ⟨Z, 2, none⟩ (.pointer (some ⟨P, 0, none⟩))).setCell ⟨Z, 3, none⟩ (.pointer (some ⟨Q, 0, none⟩))) := Chg.setCell (F := fun k => k = Z) (Chg.setCell (F := fun k => k = Z) (Chg.refl (fun k => k = Z) w2) ⟨Z, 2, none⟩ _ (.inl rfl)) ⟨Z, 3, none⟩ _ (.inl rfl)
  have hz3 : PrIs ((w2.setCell ⟨Z, 2, none⟩ (.pointer (some ⟨P, 0, none⟩))).setCell ⟨Z, 3, none⟩ (.pointer (some ⟨Q, 0, none⟩))) Z D R (.pointer (some ⟨P, 0, none⟩)) (.pointer (some ⟨Q, 0, none⟩)) := heap_setCell_same _ Z 3 _ _ _ (heap_setCell_same _ Z 2 _ _ _ PZ2.out)
  generalize (w2.setCell ⟨Z, 2, none⟩ (.pointer (some ⟨P, 0, none⟩))).setCell ⟨Z, 3, none⟩ (.pointer (some ⟨Q, 0, none⟩)) = w3 at *
  have PR3 := Lib.hid (pr_open HD.out HP1.out PG.out X1.out HQ2.out HO2.out BQ.out QG.out X2.out hz3 hc)
  have S1 := Lib.hid (((RC1.out.chg (Chg.fresh (F := fun _ => False) X2.out) (fun _ _ _ h => h)).chg hc (fun k h1 h2 e => by have := HD.out.p.lt; omega)).pss)
  have S2 := Lib.hid (((recs_of_own PS2.out).chg hc (fun k h1 h2 e => by have := HD.out.p.lt; have := X1.out.size; omega)).pss)
  have BW3 := Lib.hid (show Below B w w3 from (X1.out.mono (by have := PR3.out.l.base; have := HD.out.p.lt; have := HD.out.base; omega) |>.trans (X2.out.mono (by have := HD.out.p.lt; have := HD.out.base; have := X1.out.size; omega))).trans (hc.below (fun k e => by have := HD.out.base; omega) (by have := HD.out.p.lt; have := HD.out.base; have := X1.out.size; have := X2.out.size; omega)))
  clear z2 z3 f2 f3 hc hz3
  refine (rsame_any v1 v2 rs rs w3 S1.out S2.out HRS.out HRS.out HLN.out).mono ?_
  rintro e w4 ⟨rfl, hb⟩
  rw [decide_eq_true rfl]
  have X4 := Lib.hid hb
  clear hb
  go_wp2_with fail
  go_ret
  exact ⟨rfl, ⟨_, _, _, _, _, _, _, _, _, _, PR3.out.fresh X4.out⟩, BW3.out.trans (X4.out.mono PR3.out.hB)⟩
end Go.Proofs.Ytaibminomehppaa
namespace Go.Proofs.Ytaibminomehppaa
open Go.RowKit
open Go.RowKit
/-- a step of the law, in its box -/
def StIs (w : World) (X : Nat) (xk xn : Int) (xb kv : Value) : Prop := w.heap[X]? = some (.cells #[.int .i64 xk, .int .i64 xn, xb, kv] 42 (0, 0))
theorem StIs.cell {w : World} {X : Nat} {xk xn : Int} {xb kv : Value} (h : StIs w X xk xn xb kv) (i : Nat) : w.cell? ⟨X, i, none⟩ = (#[.int .i64 xk, .int .i64 xn, xb, kv] : Array Value)[i]? := cell_of_row w X i _ 42 (0, 0) h
theorem StIs.chg {w w' : World} {X : Nat} {xk xn : Int} {xb kv : Value} {F : Nat → Prop} (h : StIs w X xk xn xb kv) (hc : Chg F w w') (hF : ¬ F X) : StIs w' X xk xn xb kv := (hc.block X (Array.getElem?_eq_some_iff.1 h).1 hF).trans h
theorem below_of_drew {B : Nat} {a b : World} (h : Below B a.drew b) : Below B a b := ((Below.refl B a).drew).trans h
theorem SyRes.det {nb rm fi : Int} {a b c n : Nat} {s : DS} {A : List (Int × List Int)} {sF sG : DS} {E E' : Int} {aF cF aG cG : Nat} (h : SyRes nb rm fi a b c n s A sF E aF cF) (k : SyRes nb rm fi a b c n s A sG E' aG cG) : sF = sG ∧ E = E' ∧ aF = aG ∧ cF = cG := by
  rcases h with ⟨h1, h2, h3, h4, h5⟩ | ⟨h1, h2, h3, h4, h5⟩ <;> rcases k with ⟨k1, k2, k3, k4, k5⟩ | ⟨k1, k2, k3, k4, k5⟩
  · exact ⟨h2.trans k2.symm, h3.trans k3.symm, h4.trans k4.symm, h5.trans k5.symm⟩
  · exact absurd k1 h1
  · exact absurd h1 k1
  · have hE : E = E' := h3.trans k3.symm
    subst hE
    exact ⟨h2.trans k2.symm, rfl, h4.trans k4.symm, h5.trans k5.symm⟩
set_option maxRecDepth 100000 in
set_option maxHeartbeats 8000000 in
theorem pstep2 (B Z D R nb : Nat) (fi sz : Int) (M : Nat) (rm : Int) (s : DS) (lv : Value) (P a b c : Nat) (av : Value) (pe : List (List Int)) (gf fcap : Nat) (rv : Value) (Q : Nat) (bv mv : Value) (rs : List (List Int)) (xn : Int) (xa ka : Option Addr) (xl xc kl kc : Nat) (w : World) (h : PR w B Z D R nb fi sz M rm s lv P a b c av pe gf fcap rm s rv Q a b c bv mv rs pe) :
    Calls Try.prog 12 #[.pointer (some ⟨Z, 0, none⟩), .agg #[.int .i64 2, .int .i64 xn, .slice xa xl xc, .slice ka kl kc], .int .i64 fi, .int .i64 sz] w fun e w' => e = .returned (.tuple #[.int .i64 0, .bool true]) ∧ PS w' B Z D R nb fi sz rm s a b c rs [] ∧ Below B w w' := by
  have hb1 : Below w.heap.size w (w.alloc (.cells #[.int .i64 2, .int .i64 xn, .slice xa xl xc, .slice ka kl kc] 42)) := (Below.refl _ _).alloc (Nat.le_refl _) _
  have hx1 : StIs (w.alloc (.cells #[.int .i64 2, .int .i64 xn, .slice xa xl xc, .slice ka kl kc] 42)) w.heap.size 2 xn (.slice xa xl xc) (.slice ka kl kc) := heap_alloc_new _ _
  have H0 := Lib.hid h
  have H1 := Lib.hid (h.fresh hb1)
  have B1 := Lib.hid (hb1.mono h.hB)
  have N1 := Lib.hid (show ∀ k, (LFoot D M lv P av k ∨ QFoot R gf rv Q bv mv k) → k ≠ w.heap.size from fun k hk e => by
    have := hk.elim (fun hk => (h.l.lt k hk).2) (fun hk => (h.q.lt k hk).2)
    omega)
  have S1 := Lib.hid (And.intro (h.fresh hb1).p hx1)
  have LX := Lib.hid (show w.heap.size < (w.alloc (.cells #[.int .i64 2, .int .i64 xn, .slice xa xl xc, .slice ka kl kc] 42)).heap.size by simp)
  have C0 := Lib.hid (show (w.alloc (.cells #[.int .i64 2, .int .i64 xn, .slice xa xl xc, .slice ka kl kc] 42)).cell? ⟨w.heap.size, 0, none⟩ = some (.int .i64 2) from hx1.cell 0)
  have z2 : (w.alloc (.cells #[.int .i64 2, .int .i64 xn, .slice xa xl xc, .slice ka kl kc] 42)).cell? ⟨Z, 2, none⟩ = some (.pointer (some ⟨P, 0, none⟩)) := (h.fresh hb1).p.cell 2
  clear h hb1 hx1
  go_enter Try.func12, Try.ntmps12
  go_wp2_with fail
  generalize w.alloc (.cells #[.int .i64 2, .int .i64 xn, .slice xa xl xc, .slice ka kl kc] 42) = w1 at *
  generalize hX : w.heap.size = X at *
  have c0 := C0.out
  go_wp2_with fail
  refine (H1.out.l.drop).mono ?_
  rintro e w2 ⟨rfl, he⟩
  obtain ⟨lv2, av2, hp2, hb2, hc2⟩ := PR.left H1.out he
  have HP2 := Lib.hid hp2
  have BB2 := Lib.hid hb2
  have z3 : w2.cell? ⟨Z, 3, none⟩ = some (.pointer (some ⟨Q, 0, none⟩)) := PrIs.cell hp2.p 3
  clear he hp2 hb2 hc2 z2
  go_wp2_with fail
  refine (HP2.out.q.drop).mono ?_
  rintro e w3 ⟨rfl, he⟩
  obtain ⟨rv3, bv3, mv3, hp3, hb3, hc3⟩ := PR.right HP2.out he
  have HP3 := Lib.hid hp3
  have BB3 := Lib.hid hb3
  clear he hp3 hb3 hc3 z3
  go_wp2_with fail
  go_ret2
  exact ⟨rfl, ⟨_, _, _, _, _, _, _, _, _, _, HP3.out⟩, (B1.out.trans (BB2.out)).trans BB3.out⟩
set_option maxRecDepth 100000 in
set_option maxHeartbeats 8000000 in
theorem pstep4 (B Z D R nb : Nat) (fi sz : Int) (M : Nat) (rm : Int) (s : DS) (lv : Value) (P a b c : Nat) (av : Value) (pe : List (List Int)) (gf fcap : Nat) (rv : Value) (Q : Nat) (bv mv : Value) (rs : List (List Int)) (xn : Int) (xa ka : Option Addr) (xl xc kl kc : Nat) (w : World) (h : PR w B Z D R nb fi sz M rm s lv P a b c av pe gf fcap rm s rv Q a b c bv mv rs pe) :
    Calls Try.prog 12 #[.pointer (some ⟨Z, 0, none⟩), .agg #[.int .i64 4, .int .i64 xn, .slice xa xl xc, .slice ka kl kc], .int .i64 fi, .int .i64 sz] w fun e w' => e = .returned (.tuple #[.int .i64 0, .bool true]) ∧ PS w' B Z D R nb fi sz (if 0 ≤ xn then xn else 0) s a b c rs pe ∧ Below B w w' := by
  have hla := fun u (hu : LS u B D M nb rm s lv P fi sz a b c av pe) => hu.room xn
  have hra := fun u (hu : QS u B R gf nb fcap rm s rv Q fi sz a b c bv mv rs pe) => hu.room xn
  obtain ⟨x2, hx2⟩ : ∃ x2 : Int, (if 0 ≤ xn then xn else 0) = x2 := ⟨_, rfl⟩
  rw [hx2] at hla hra ⊢
  have HLA := Lib.hid hla
  have HRA := Lib.hid hra
  clear hla hra hx2
  have hb1 : Below w.heap.size w (w.alloc (.cells #[.int .i64 4, .int .i64 xn, .slice xa xl xc, .slice ka kl kc] 42)) := (Below.refl _ _).alloc (Nat.le_refl _) _
  have hx1 : StIs (w.alloc (.cells #[.int .i64 4, .int .i64 xn, .slice xa xl xc, .slice ka kl kc] 42)) w.heap.size 4 xn (.slice xa xl xc) (.slice ka kl kc) := heap_alloc_new _ _
  have H0 := Lib.hid h
  have H1 := Lib.hid (h.fresh hb1)
  have B1 := Lib.hid (hb1.mono h.hB)
  have N1 := Lib.hid (show ∀ k, (LFoot D M lv P av k ∨ QFoot R gf rv Q bv mv k) → k ≠ w.heap.size from fun k hk e => by
    have := hk.elim (fun hk => (h.l.lt k hk).2) (fun hk => (h.q.lt k hk).2)
    omega)
  have S1 := Lib.hid (And.intro (h.fresh hb1).p hx1)
  have LX := Lib.hid (show w.heap.size < (w.alloc (.cells #[.int .i64 4, .int .i64 xn, .slice xa xl xc, .slice ka kl kc] 42)).heap.size by simp)
  have C0 := Lib.hid (show (w.alloc (.cells #[.int .i64 4, .int .i64 xn, .slice xa xl xc, .slice ka kl kc] 42)).cell? ⟨w.heap.size, 0, none⟩ = some (.int .i64 4) from hx1.cell 0)
  clear h hb1 hx1
  go_enter Try.func12, Try.ntmps12
  go_wp2_with fail
  generalize w.alloc (.cells #[.int .i64 4, .int .i64 xn, .slice xa xl xc, .slice ka kl kc] 42) = w1 at *
  generalize hX : w.heap.size = X at *
  have c0 := C0.out
  go_wp2_with fail
  have HW := Lib.hid (H1.out.fresh (show Below w1.heap.size w1 w1.drew from (Below.refl _ _).drew))
  refine wp_region_held_drew (S := fun u => PrIs u Z D R (.pointer (some ⟨P, 0, none⟩)) (.pointer (some ⟨Q, 0, none⟩)) ∧ StIs u X 4 xn (.slice xa xl xc) (.slice ka kl kc)) (by kernel_rfl) (S1.out) (fun hHeld => ?_)
  refine wpAnyH_take (i := 0) (oi := ({ dst := some 94, op := Op.move (Operand.tmp 0), type := 24, pos := "law.go:67", after := #[], guard := none } : Oper)) (v := ?_) rfl (by kernel_rfl) (by kernel_rfl) (by kernel_rfl) (fun _ _ _ h => h) (Or.inl ⟨by rfl, ?_⟩) (by assumption) ?_
  rotate_left 1
  · (intro u hSw; go_simp; try with_reducible rfl)
  try simp only [Act.put, List.setIfInBounds_toArray, List.set_cons_zero, List.set_cons_succ]
  refine wpAnyH_take (i := 1) (oi := ({ dst := some 95, op := Op.nilCheck (Operand.tmp 94), type := 0, pos := "law.go:67", after := #[{ on := 0, ground := Ground.data }], guard := none } : Oper)) (v := ?_) rfl (by kernel_rfl) (by kernel_rfl) (by kernel_rfl) (fun _ _ _ h => h) (Or.inl ⟨by rfl, ?_⟩) (by assumption) ?_
  rotate_left 1
  · (intro u hSw; go_simp; try with_reducible rfl)
  try simp only [Act.put, List.setIfInBounds_toArray, List.set_cons_zero, List.set_cons_succ]
  refine wpAnyH_take (i := 2) (oi := ({ dst := some 96, op := Op.fieldAddr 32 (Operand.tmp 95) 0, type := 0, pos := "law.go:67", after := #[{ on := 1, ground := Ground.data }], guard := none } : Oper)) (v := ?_) rfl (by kernel_rfl) (by kernel_rfl) (by kernel_rfl) (fun _ _ _ h => h) (Or.inl ⟨by rfl, ?_⟩) (by assumption) ?_
  rotate_left 1
  · (intro u hSw; go_simp; try with_reducible rfl)
  try simp only [Act.put, List.setIfInBounds_toArray, List.set_cons_zero, List.set_cons_succ]
  refine wpAnyH_take (i := 3) (oi := ({ dst := some 97, op := Op.load 25 (Operand.tmp 96), type := 25, pos := "law.go:67", after := #[{ on := 2, ground := Ground.data }], guard := none } : Oper)) (v := ?_) rfl (by kernel_rfl) (by kernel_rfl) (by kernel_rfl) (fun _ _ _ h => h) (Or.inl ⟨by rfl, ?_⟩) (by assumption) ?_
  rotate_left 1
  · intro u hSw
    have h : u.cell? ⟨Z, 0, none⟩ = some (.pointer (some ⟨D, 0, none⟩)) := PrIs.cell hSw.1 0
    go_simp
    try with_reducible rfl
  try simp only [Act.put, List.setIfInBounds_toArray, List.set_cons_zero, List.set_cons_succ]
  refine wpAnyH_take (i := 4) (oi := ({ dst := some 98, op := Op.fieldAddr 42 (Operand.tmp 5) 1, type := 0, pos := "law.go:67", after := #[], guard := none } : Oper)) (v := ?_) rfl (by kernel_rfl) (by kernel_rfl) (by kernel_rfl) (fun _ _ _ h => h) (Or.inl ⟨by rfl, ?_⟩) (by assumption) ?_
  rotate_left 1
  · (intro u hSw; go_simp; try with_reducible rfl)
  try simp only [Act.put, List.setIfInBounds_toArray, List.set_cons_zero, List.set_cons_succ]
  refine wpAnyH_take (i := 5) (oi := ({ dst := some 99, op := Op.load 3 (Operand.tmp 98), type := 3, pos := "law.go:67", after := #[{ on := 4, ground := Ground.data }], guard := none } : Oper)) (v := ?_) rfl (by kernel_rfl) (by kernel_rfl) (by kernel_rfl) (fun _ _ _ h => h) (Or.inl ⟨by rfl, ?_⟩) (by assumption) ?_
  rotate_left 1
  · intro u hSw
    have h : u.cell? ⟨X, 1, none⟩ = some (.int .i64 xn) := StIs.cell hSw.2 1
    go_simp
    try with_reducible rfl
  try simp only [Act.put, List.setIfInBounds_toArray, List.set_cons_zero, List.set_cons_succ]
  refine wpAnyH_ready (rs := [6]) (by kernel_rfl) (by simp) ?_
  refine AllReadyH.cons (o := ({ dst := some 100, op := Op.call { callee := Callee.value (Operand.func 52), args := #[Operand.tmp 97, Operand.tmp 99], argTypes := #[25, 3] }, type := 0, pos := "law.go:67", after := #[{ on := 3, ground := Ground.data }, { on := 5, ground := Ground.data }], guard := none } : Oper)) rfl (fun K hK => ?_) AllReadyH.nil
  go_simp
  go_at_call 52
  refine (HLA.out _ HW.out.l).mono ?_
  rintro e w2 ⟨rfl, he⟩
  obtain ⟨lv2, av2, hp2, hb2, hc2⟩ := PR.left HW.out he
  have HP2 := Lib.hid hp2
  have BB2 := Lib.hid (below_of_drew hb2)
  have S2 := Lib.hid (And.intro hp2.p (StIs.chg (w := w1.drew) S1.out.2 hc2 (fun e => N1.out _ (.inl e) rfl)))
  clear he hp2 hb2 hc2
  go_wp2_with fail
  refine hK.out _ _ S2.out (fun hHeld => ?_)
  clear hK K
  try simp only [Act.put, List.setIfInBounds_toArray, List.set_cons_zero, List.set_cons_succ]
  refine wpAnyH_done (by kernel_rfl) ?_ _
  clear hX
  have HW2 := Lib.hid (HP2.out.fresh (show Below w2.heap.size w2 w2.drew from (Below.refl _ _).drew))
  have c0 : w2.cell? ⟨X, 0, none⟩ = some (.int .i64 4) := StIs.cell S2.out.2 0
  go_wp2_with fail
  refine wp_region_held_drew (S := fun u => PrIs u Z D R (.pointer (some ⟨P, 0, none⟩)) (.pointer (some ⟨Q, 0, none⟩)) ∧ StIs u X 4 xn (.slice xa xl xc) (.slice ka kl kc)) (by kernel_rfl) (S2.out) (fun hHeld => ?_)
  refine wpAnyH_take (i := 0) (oi := ({ dst := some 101, op := Op.move (Operand.tmp 0), type := 24, pos := "law.go:68", after := #[], guard := none } : Oper)) (v := ?_) rfl (by kernel_rfl) (by kernel_rfl) (by kernel_rfl) (fun _ _ _ h => h) (Or.inl ⟨by rfl, ?_⟩) (by assumption) ?_
  rotate_left 1
  · (intro u hSw; go_simp; try with_reducible rfl)
  try simp only [Act.put, List.setIfInBounds_toArray, List.set_cons_zero, List.set_cons_succ]
  refine wpAnyH_take (i := 1) (oi := ({ dst := some 102, op := Op.nilCheck (Operand.tmp 101), type := 0, pos := "law.go:68", after := #[{ on := 0, ground := Ground.data }], guard := none } : Oper)) (v := ?_) rfl (by kernel_rfl) (by kernel_rfl) (by kernel_rfl) (fun _ _ _ h => h) (Or.inl ⟨by rfl, ?_⟩) (by assumption) ?_
  rotate_left 1
  · (intro u hSw; go_simp; try with_reducible rfl)
  try simp only [Act.put, List.setIfInBounds_toArray, List.set_cons_zero, List.set_cons_succ]
  refine wpAnyH_take (i := 2) (oi := ({ dst := some 103, op := Op.fieldAddr 32 (Operand.tmp 102) 1, type := 0, pos := "law.go:68", after := #[{ on := 1, ground := Ground.data }], guard := none } : Oper)) (v := ?_) rfl (by kernel_rfl) (by kernel_rfl) (by kernel_rfl) (fun _ _ _ h => h) (Or.inl ⟨by rfl, ?_⟩) (by assumption) ?_
  rotate_left 1
  · (intro u hSw; go_simp; try with_reducible rfl)
  try simp only [Act.put, List.setIfInBounds_toArray, List.set_cons_zero, List.set_cons_succ]
  refine wpAnyH_take (i := 3) (oi := ({ dst := some 104, op := Op.load 27 (Operand.tmp 103), type := 27, pos := "law.go:68", after := #[{ on := 2, ground := Ground.data }], guard := none } : Oper)) (v := ?_) rfl (by kernel_rfl) (by kernel_rfl) (by kernel_rfl) (fun _ _ _ h => h) (Or.inl ⟨by rfl, ?_⟩) (by assumption) ?_
  rotate_left 1
  · intro u hSw
    have h : u.cell? ⟨Z, 1, none⟩ = some (.pointer (some ⟨R, 0, none⟩)) := PrIs.cell hSw.1 1
    go_simp
    try with_reducible rfl
  try simp only [Act.put, List.setIfInBounds_toArray, List.set_cons_zero, List.set_cons_succ]
  refine wpAnyH_take (i := 4) (oi := ({ dst := some 105, op := Op.fieldAddr 42 (Operand.tmp 5) 1, type := 0, pos := "law.go:68", after := #[], guard := none } : Oper)) (v := ?_) rfl (by kernel_rfl) (by kernel_rfl) (by kernel_rfl) (fun _ _ _ h => h) (Or.inl ⟨by rfl, ?_⟩) (by assumption) ?_
  rotate_left 1
  · (intro u hSw; go_simp; try with_reducible rfl)
  try simp only [Act.put, List.setIfInBounds_toArray, List.set_cons_zero, List.set_cons_succ]
  refine wpAnyH_take (i := 5) (oi := ({ dst := some 106, op := Op.load 3 (Operand.tmp 105), type := 3, pos := "law.go:68", after := #[{ on := 4, ground := Ground.data }], guard := none } : Oper)) (v := ?_) rfl (by kernel_rfl) (by kernel_rfl) (by kernel_rfl) (fun _ _ _ h => h) (Or.inl ⟨by rfl, ?_⟩) (by assumption) ?_
  rotate_left 1
  · intro u hSw
    have h : u.cell? ⟨X, 1, none⟩ = some (.int .i64 xn) := StIs.cell hSw.2 1
    go_simp
    try with_reducible rfl
  try simp only [Act.put, List.setIfInBounds_toArray, List.set_cons_zero, List.set_cons_succ]
  refine wpAnyH_ready (rs := [6]) (by kernel_rfl) (by simp) ?_
  refine AllReadyH.cons (o := ({ dst := some 107, op := Op.call { callee := Callee.value (Operand.func 53), args := #[Operand.tmp 104, Operand.tmp 106], argTypes := #[27, 3] }, type := 0, pos := "law.go:68", after := #[{ on := 3, ground := Ground.data }, { on := 5, ground := Ground.data }], guard := none } : Oper)) rfl (fun K hK => ?_) AllReadyH.nil
  go_simp
  go_at_call 53
  refine (HRA.out _ HW2.out.q).mono ?_
  rintro e w3 ⟨rfl, he⟩
  obtain ⟨rv3, bv3, mv3, hp3, hb3, hc3⟩ := PR.right HW2.out he
  have HP3 := Lib.hid hp3
  have BB3 := Lib.hid (below_of_drew hb3)
  have S3 := Lib.hid (And.intro hp3.p (StIs.chg (w := w2.drew) S2.out.2 hc3 (fun e => N1.out _ (.inr e) rfl)))
  clear he hp3 hb3 hc3
  go_wp2_with fail
  refine hK.out _ _ S3.out (fun hHeld => ?_)
  clear hK K
  try simp only [Act.put, List.setIfInBounds_toArray, List.set_cons_zero, List.set_cons_succ]
  refine wpAnyH_done (by kernel_rfl) ?_ _
  go_wp2_with fail
  go_ret2
  exact ⟨rfl, ⟨_, _, _, _, _, _, _, _, _, _, HP3.out⟩, (B1.out.trans (BB2.out)).trans BB3.out⟩
set_option maxRecDepth 100000 in
set_option maxHeartbeats 8000000 in
theorem pstep5 (B Z D R nb : Nat) (fi sz : Int) (M : Nat) (rm : Int) (s : DS) (lv : Value) (P a b c : Nat) (av : Value) (pe : List (List Int)) (gf fcap : Nat) (rv : Value) (Q : Nat) (bv mv : Value) (rs : List (List Int)) (xn : Int) (xa ka : Option Addr) (xl xc kl kc : Nat) (w : World) (h : PR w B Z D R nb fi sz M rm s lv P a b c av pe gf fcap rm s rv Q a b c bv mv rs pe) (hxn : xn ≤ 9223372036854775807) :
    Calls Try.prog 12 #[.pointer (some ⟨Z, 0, none⟩), .agg #[.int .i64 5, .int .i64 xn, .slice xa xl xc, .slice ka kl kc], .int .i64 fi, .int .i64 sz] w fun e w' => e = .returned (.tuple #[.int .i64 0, .bool true]) ∧ PS w' B Z D R nb fi sz rm ⟨if 0 ≤ xn then xn else -1, s.dn, s.f, s.L⟩ a b c rs pe ∧ Below B w w' := by
  have hla := fun u (hu : LS u B D M nb rm s lv P fi sz a b c av pe) => hu.arm xn hxn
  have hra := fun u (hu : QS u B R gf nb fcap rm s rv Q fi sz a b c bv mv rs pe) => hu.arm xn hxn
  obtain ⟨x2, hx2⟩ : ∃ x2 : Int, (if 0 ≤ xn then xn else -1) = x2 := ⟨_, rfl⟩
  rw [hx2] at hla hra ⊢
  have HLA := Lib.hid hla
  have HRA := Lib.hid hra
  clear hla hra hx2
  have hb1 : Below w.heap.size w (w.alloc (.cells #[.int .i64 5, .int .i64 xn, .slice xa xl xc, .slice ka kl kc] 42)) := (Below.refl _ _).alloc (Nat.le_refl _) _
  have hx1 : StIs (w.alloc (.cells #[.int .i64 5, .int .i64 xn, .slice xa xl xc, .slice ka kl kc] 42)) w.heap.size 5 xn (.slice xa xl xc) (.slice ka kl kc) := heap_alloc_new _ _
  have H0 := Lib.hid h
  have H1 := Lib.hid (h.fresh hb1)
  have B1 := Lib.hid (hb1.mono h.hB)
  have N1 := Lib.hid (show ∀ k, (LFoot D M lv P av k ∨ QFoot R gf rv Q bv mv k) → k ≠ w.heap.size from fun k hk e => by
    have := hk.elim (fun hk => (h.l.lt k hk).2) (fun hk => (h.q.lt k hk).2)
    omega)
  have S1 := Lib.hid (And.intro (h.fresh hb1).p hx1)
  have LX := Lib.hid (show w.heap.size < (w.alloc (.cells #[.int .i64 5, .int .i64 xn, .slice xa xl xc, .slice ka kl kc] 42)).heap.size by simp)
  have C0 := Lib.hid (show (w.alloc (.cells #[.int .i64 5, .int .i64 xn, .slice xa xl xc, .slice ka kl kc] 42)).cell? ⟨w.heap.size, 0, none⟩ = some (.int .i64 5) from hx1.cell 0)
  clear h hb1 hx1
  go_enter Try.func12, Try.ntmps12
  go_wp2_with fail
  generalize w.alloc (.cells #[.int .i64 5, .int .i64 xn, .slice xa xl xc, .slice ka kl kc] 42) = w1 at *
  generalize hX : w.heap.size = X at *
  have c0 := C0.out
  go_wp2_with fail
  have HW := Lib.hid (H1.out.fresh (show Below w1.heap.size w1 w1.drew from (Below.refl _ _).drew))
  refine wp_region_held_drew (S := fun u => PrIs u Z D R (.pointer (some ⟨P, 0, none⟩)) (.pointer (some ⟨Q, 0, none⟩)) ∧ StIs u X 5 xn (.slice xa xl xc) (.slice ka kl kc)) (by kernel_rfl) (S1.out) (fun hHeld => ?_)
  refine wpAnyH_take (i := 0) (oi := ({ dst := some 110, op := Op.move (Operand.tmp 0), type := 24, pos := "law.go:70", after := #[], guard := none } : Oper)) (v := ?_) rfl (by kernel_rfl) (by kernel_rfl) (by kernel_rfl) (fun _ _ _ h => h) (Or.inl ⟨by rfl, ?_⟩) (by assumption) ?_
  rotate_left 1
  · (intro u hSw; go_simp; try with_reducible rfl)
  try simp only [Act.put, List.setIfInBounds_toArray, List.set_cons_zero, List.set_cons_succ]
  refine wpAnyH_take (i := 1) (oi := ({ dst := some 111, op := Op.nilCheck (Operand.tmp 110), type := 0, pos := "law.go:70", after := #[{ on := 0, ground := Ground.data }], guard := none } : Oper)) (v := ?_) rfl (by kernel_rfl) (by kernel_rfl) (by kernel_rfl) (fun _ _ _ h => h) (Or.inl ⟨by rfl, ?_⟩) (by assumption) ?_
  rotate_left 1
  · (intro u hSw; go_simp; try with_reducible rfl)
  try simp only [Act.put, List.setIfInBounds_toArray, List.set_cons_zero, List.set_cons_succ]
  refine wpAnyH_take (i := 2) (oi := ({ dst := some 112, op := Op.fieldAddr 32 (Operand.tmp 111) 0, type := 0, pos := "law.go:70", after := #[{ on := 1, ground := Ground.data }], guard := none } : Oper)) (v := ?_) rfl (by kernel_rfl) (by kernel_rfl) (by kernel_rfl) (fun _ _ _ h => h) (Or.inl ⟨by rfl, ?_⟩) (by assumption) ?_
  rotate_left 1
  · (intro u hSw; go_simp; try with_reducible rfl)
  try simp only [Act.put, List.setIfInBounds_toArray, List.set_cons_zero, List.set_cons_succ]
  refine wpAnyH_take (i := 3) (oi := ({ dst := some 113, op := Op.load 25 (Operand.tmp 112), type := 25, pos := "law.go:70", after := #[{ on := 2, ground := Ground.data }], guard := none } : Oper)) (v := ?_) rfl (by kernel_rfl) (by kernel_rfl) (by kernel_rfl) (fun _ _ _ h => h) (Or.inl ⟨by rfl, ?_⟩) (by assumption) ?_
  rotate_left 1
  · intro u hSw
    have h : u.cell? ⟨Z, 0, none⟩ = some (.pointer (some ⟨D, 0, none⟩)) := PrIs.cell hSw.1 0
    go_simp
    try with_reducible rfl
  try simp only [Act.put, List.setIfInBounds_toArray, List.set_cons_zero, List.set_cons_succ]
  refine wpAnyH_take (i := 4) (oi := ({ dst := some 114, op := Op.fieldAddr 42 (Operand.tmp 5) 1, type := 0, pos := "law.go:70", after := #[], guard := none } : Oper)) (v := ?_) rfl (by kernel_rfl) (by kernel_rfl) (by kernel_rfl) (fun _ _ _ h => h) (Or.inl ⟨by rfl, ?_⟩) (by assumption) ?_
  rotate_left 1
  · (intro u hSw; go_simp; try with_reducible rfl)
  try simp only [Act.put, List.setIfInBounds_toArray, List.set_cons_zero, List.set_cons_succ]
  refine wpAnyH_take (i := 5) (oi := ({ dst := some 115, op := Op.load 3 (Operand.tmp 114), type := 3, pos := "law.go:70", after := #[{ on := 4, ground := Ground.data }], guard := none } : Oper)) (v := ?_) rfl (by kernel_rfl) (by kernel_rfl) (by kernel_rfl) (fun _ _ _ h => h) (Or.inl ⟨by rfl, ?_⟩) (by assumption) ?_
  rotate_left 1
  · intro u hSw
    have h : u.cell? ⟨X, 1, none⟩ = some (.int .i64 xn) := StIs.cell hSw.2 1
    go_simp
    try with_reducible rfl
  try simp only [Act.put, List.setIfInBounds_toArray, List.set_cons_zero, List.set_cons_succ]
  refine wpAnyH_ready (rs := [6]) (by kernel_rfl) (by simp) ?_
  refine AllReadyH.cons (o := ({ dst := some 116, op := Op.call { callee := Callee.value (Operand.func 54), args := #[Operand.tmp 113, Operand.tmp 115], argTypes := #[25, 3] }, type := 0, pos := "law.go:70", after := #[{ on := 3, ground := Ground.data }, { on := 5, ground := Ground.data }], guard := none } : Oper)) rfl (fun K hK => ?_) AllReadyH.nil
  go_simp
  go_at_call 54
  refine (HLA.out _ HW.out.l).mono ?_
  rintro e w2 ⟨rfl, he⟩
  obtain ⟨lv2, av2, hp2, hb2, hc2⟩ := PR.left HW.out he
  have HP2 := Lib.hid hp2
  have BB2 := Lib.hid (below_of_drew hb2)
  have S2 := Lib.hid (And.intro hp2.p (StIs.chg (w := w1.drew) S1.out.2 hc2 (fun e => N1.out _ (.inl e) rfl)))
  clear he hp2 hb2 hc2
  go_wp2_with fail
  refine hK.out _ _ S2.out (fun hHeld => ?_)
  clear hK K
  try simp only [Act.put, List.setIfInBounds_toArray, List.set_cons_zero, List.set_cons_succ]
  refine wpAnyH_done (by kernel_rfl) ?_ _
  clear hX
  have HW2 := Lib.hid (HP2.out.fresh (show Below w2.heap.size w2 w2.drew from (Below.refl _ _).drew))
  have c0 : w2.cell? ⟨X, 0, none⟩ = some (.int .i64 5) := StIs.cell S2.out.2 0
  go_wp2_with fail
  refine wp_region_held_drew (S := fun u => PrIs u Z D R (.pointer (some ⟨P, 0, none⟩)) (.pointer (some ⟨Q, 0, none⟩)) ∧ StIs u X 5 xn (.slice xa xl xc) (.slice ka kl kc)) (by kernel_rfl) (S2.out) (fun hHeld => ?_)
  refine wpAnyH_take (i := 0) (oi := ({ dst := some 117, op := Op.move (Operand.tmp 0), type := 24, pos := "law.go:71", after := #[], guard := none } : Oper)) (v := ?_) rfl (by kernel_rfl) (by kernel_rfl) (by kernel_rfl) (fun _ _ _ h => h) (Or.inl ⟨by rfl, ?_⟩) (by assumption) ?_
  rotate_left 1
  · (intro u hSw; go_simp; try with_reducible rfl)
  try simp only [Act.put, List.setIfInBounds_toArray, List.set_cons_zero, List.set_cons_succ]
  refine wpAnyH_take (i := 1) (oi := ({ dst := some 118, op := Op.nilCheck (Operand.tmp 117), type := 0, pos := "law.go:71", after := #[{ on := 0, ground := Ground.data }], guard := none } : Oper)) (v := ?_) rfl (by kernel_rfl) (by kernel_rfl) (by kernel_rfl) (fun _ _ _ h => h) (Or.inl ⟨by rfl, ?_⟩) (by assumption) ?_
  rotate_left 1
  · (intro u hSw; go_simp; try with_reducible rfl)
  try simp only [Act.put, List.setIfInBounds_toArray, List.set_cons_zero, List.set_cons_succ]
  refine wpAnyH_take (i := 2) (oi := ({ dst := some 119, op := Op.fieldAddr 32 (Operand.tmp 118) 1, type := 0, pos := "law.go:71", after := #[{ on := 1, ground := Ground.data }], guard := none } : Oper)) (v := ?_) rfl (by kernel_rfl) (by kernel_rfl) (by kernel_rfl) (fun _ _ _ h => h) (Or.inl ⟨by rfl, ?_⟩) (by assumption) ?_
  rotate_left 1
  · (intro u hSw; go_simp; try with_reducible rfl)
  try simp only [Act.put, List.setIfInBounds_toArray, List.set_cons_zero, List.set_cons_succ]
  refine wpAnyH_take (i := 3) (oi := ({ dst := some 120, op := Op.load 27 (Operand.tmp 119), type := 27, pos := "law.go:71", after := #[{ on := 2, ground := Ground.data }], guard := none } : Oper)) (v := ?_) rfl (by kernel_rfl) (by kernel_rfl) (by kernel_rfl) (fun _ _ _ h => h) (Or.inl ⟨by rfl, ?_⟩) (by assumption) ?_
  rotate_left 1
  · intro u hSw
    have h : u.cell? ⟨Z, 1, none⟩ = some (.pointer (some ⟨R, 0, none⟩)) := PrIs.cell hSw.1 1
    go_simp
    try with_reducible rfl
  try simp only [Act.put, List.setIfInBounds_toArray, List.set_cons_zero, List.set_cons_succ]
  refine wpAnyH_take (i := 4) (oi := ({ dst := some 121, op := Op.fieldAddr 42 (Operand.tmp 5) 1, type := 0, pos := "law.go:71", after := #[], guard := none } : Oper)) (v := ?_) rfl (by kernel_rfl) (by kernel_rfl) (by kernel_rfl) (fun _ _ _ h => h) (Or.inl ⟨by rfl, ?_⟩) (by assumption) ?_
  rotate_left 1
  · (intro u hSw; go_simp; try with_reducible rfl)
  try simp only [Act.put, List.setIfInBounds_toArray, List.set_cons_zero, List.set_cons_succ]
  refine wpAnyH_take (i := 5) (oi := ({ dst := some 122, op := Op.load 3 (Operand.tmp 121), type := 3, pos := "law.go:71", after := #[{ on := 4, ground := Ground.data }], guard := none } : Oper)) (v := ?_) rfl (by kernel_rfl) (by kernel_rfl) (by kernel_rfl) (fun _ _ _ h => h) (Or.inl ⟨by rfl, ?_⟩) (by assumption) ?_
  rotate_left 1
  · intro u hSw
    have h : u.cell? ⟨X, 1, none⟩ = some (.int .i64 xn) := StIs.cell hSw.2 1
    go_simp
    try with_reducible rfl
  try simp only [Act.put, List.setIfInBounds_toArray, List.set_cons_zero, List.set_cons_succ]
  refine wpAnyH_ready (rs := [6]) (by kernel_rfl) (by simp) ?_
  refine AllReadyH.cons (o := ({ dst := some 123, op := Op.call { callee := Callee.value (Operand.func 55), args := #[Operand.tmp 120, Operand.tmp 122], argTypes := #[27, 3] }, type := 0, pos := "law.go:71", after := #[{ on := 3, ground := Ground.data }, { on := 5, ground := Ground.data }], guard := none } : Oper)) rfl (fun K hK => ?_) AllReadyH.nil
  go_simp
  go_at_call 55
  refine (HRA.out _ HW2.out.q).mono ?_
  rintro e w3 ⟨rfl, he⟩
  obtain ⟨rv3, bv3, mv3, hp3, hb3, hc3⟩ := PR.right HW2.out he
  have HP3 := Lib.hid hp3
  have BB3 := Lib.hid (below_of_drew hb3)
  have S3 := Lib.hid (And.intro hp3.p (StIs.chg (w := w2.drew) S2.out.2 hc3 (fun e => N1.out _ (.inr e) rfl)))
  clear he hp3 hb3 hc3
  go_wp2_with fail
  refine hK.out _ _ S3.out (fun hHeld => ?_)
  clear hK K
  try simp only [Act.put, List.setIfInBounds_toArray, List.set_cons_zero, List.set_cons_succ]
  refine wpAnyH_done (by kernel_rfl) ?_ _
  go_wp2_with fail
  go_ret2
  exact ⟨rfl, ⟨_, _, _, _, _, _, _, _, _, _, HP3.out⟩, (B1.out.trans (BB2.out)).trans BB3.out⟩
set_option maxRecDepth 100000 in
set_option maxHeartbeats 8000000 in
theorem pstep0 (B Z D R nb : Nat) (fi sz : Int) (M : Nat) (rm : Int) (s : DS) (lv : Value) (P a b c : Nat) (av : Value) (pe : List (List Int)) (gf fcap : Nat) (rv : Value) (Q : Nat) (bv mv : Value) (rs : List (List Int)) (xn : Int) (xa ka : Option Addr) (xl xc kl kc : Nat) (w : World) (h : PR w B Z D R nb fi sz M rm s lv P a b c av pe gf fcap rm s rv Q a b c bv mv rs pe) (m : List Int) (hbs : BsI w 0 B (.slice xa xl xc) m) (hm : m.length ≤ 16777216) (hg : Good nb rm s.fz s.f fi sz a b c rs pe):
    Calls Try.prog 12 #[.pointer (some ⟨Z, 0, none⟩), .agg #[.int .i64 0, .int .i64 xn, .slice xa xl xc, .slice ka kl kc], .int .i64 fi, .int .i64 sz] w fun e w' => e = .returned (.tuple #[.int .i64 (if fitsL sz c (encs pe).length m.length = true then 0 else 42), .bool true]) ∧ PS w' B Z D R nb fi sz rm s a b c rs (if fitsL sz c (encs pe).length m.length = true then pe ++ [m] else pe) ∧ Below B w w' := by
  have hsm := hg.small
  have h1 := hg.h1; have h2 := hg.h2; have h3 := hg.h3; have h4 := hg.h4
  have hla := fun u (hu : LS u B D M nb rm s lv P fi sz a b c av pe) (hbs : BsI u 0 B (.slice xa xl xc) m) => hu.append (.slice xa xl xc) m hbs.1 (fun ad n cc e h0 e2 => by have := (hbs.2 ad n cc e h0).2; have := (hu.own.lt _ e2).1; omega) h2 (by omega) hsm.1 hsm.2.1 hm
  have hra := fun u (hu : QS u B R gf nb fcap rm s rv Q fi sz a b c bv mv rs pe) (hbs : BsI u 0 B (.slice xa xl xc) m) => hu.append (.slice xa xl xc) m hbs.1 (fun ad n cc e h0 => by have := (hbs.2 ad n cc e h0).2; have := hu.base; omega) h2 (by omega) hg.clen hsm.1 hsm.2.1 hm
  obtain ⟨E, hE⟩ : ∃ E : Int, (if fitsL sz c (encs pe).length m.length = true then 0 else 42) = E := ⟨_, rfl⟩
  obtain ⟨pe', hpe⟩ : ∃ pe', (if fitsL sz c (encs pe).length m.length = true then pe ++ [m] else pe) = pe' := ⟨_, rfl⟩
  rw [hE, hpe] at hla hra ⊢
  have HLA := Lib.hid hla
  have HRA := Lib.hid hra
  have HBS := Lib.hid hbs
  clear hla hra hbs hm hg hsm h1 h2 h3 h4 hE hpe
  have hb1 : Below w.heap.size w (w.alloc (.cells #[.int .i64 0, .int .i64 xn, .slice xa xl xc, .slice ka kl kc] 42)) := (Below.refl _ _).alloc (Nat.le_refl _) _
  have hx1 : StIs (w.alloc (.cells #[.int .i64 0, .int .i64 xn, .slice xa xl xc, .slice ka kl kc] 42)) w.heap.size 0 xn (.slice xa xl xc) (.slice ka kl kc) := heap_alloc_new _ _
  have H0 := Lib.hid h
  have H1 := Lib.hid (h.fresh hb1)
  have B1 := Lib.hid (hb1.mono h.hB)
  have N1 := Lib.hid (show ∀ k, (LFoot D M lv P av k ∨ QFoot R gf rv Q bv mv k) → k ≠ w.heap.size from fun k hk e => by
    have := hk.elim (fun hk => (h.l.lt k hk).2) (fun hk => (h.q.lt k hk).2)
    omega)
  have S1 := Lib.hid (And.intro (h.fresh hb1).p hx1)
  have LX := Lib.hid (show w.heap.size < (w.alloc (.cells #[.int .i64 0, .int .i64 xn, .slice xa xl xc, .slice ka kl kc] 42)).heap.size by simp)
  have C0 := Lib.hid (show (w.alloc (.cells #[.int .i64 0, .int .i64 xn, .slice xa xl xc, .slice ka kl kc] 42)).cell? ⟨w.heap.size, 0, none⟩ = some (.int .i64 0) from hx1.cell 0)
  clear h hb1 hx1
  go_enter Try.func12, Try.ntmps12
  go_wp2_with fail
  generalize w.alloc (.cells #[.int .i64 0, .int .i64 xn, .slice xa xl xc, .slice ka kl kc] 42) = w1 at *
  generalize hX : w.heap.size = X at *
  have c0 := C0.out
  go_wp2_with fail
  have HW := Lib.hid (H1.out.fresh (show Below w1.heap.size w1 w1.drew from (Below.refl _ _).drew))
  have HBD := Lib.hid (HBS.out.under (B1.out.trans (show Below B w1 w1.drew from (Below.refl _ _).drew)))
  refine wp_region_held_drew (S := fun u => PrIs u Z D R (.pointer (some ⟨P, 0, none⟩)) (.pointer (some ⟨Q, 0, none⟩)) ∧ StIs u X 0 xn (.slice xa xl xc) (.slice ka kl kc)) (by kernel_rfl) (S1.out) (fun hHeld => ?_)
  refine wpAnyH_take (i := 0) (oi := ({ dst := some 42, op := Op.move (Operand.tmp 0), type := 24, pos := "law.go:58", after := #[], guard := none } : Oper)) (v := ?_) rfl (by kernel_rfl) (by kernel_rfl) (by kernel_rfl) (fun _ _ _ h => h) (Or.inl ⟨by rfl, ?_⟩) (by assumption) ?_
  rotate_left 1
  · (intro u hSw; go_simp; try with_reducible rfl)
  try simp only [Act.put, List.setIfInBounds_toArray, List.set_cons_zero, List.set_cons_succ]
  refine wpAnyH_take (i := 1) (oi := ({ dst := some 43, op := Op.nilCheck (Operand.tmp 42), type := 0, pos := "law.go:58", after := #[{ on := 0, ground := Ground.data }], guard := none } : Oper)) (v := ?_) rfl (by kernel_rfl) (by kernel_rfl) (by kernel_rfl) (fun _ _ _ h => h) (Or.inl ⟨by rfl, ?_⟩) (by assumption) ?_
  rotate_left 1
  · (intro u hSw; go_simp; try with_reducible rfl)
  try simp only [Act.put, List.setIfInBounds_toArray, List.set_cons_zero, List.set_cons_succ]
  refine wpAnyH_take (i := 2) (oi := ({ dst := some 44, op := Op.fieldAddr 32 (Operand.tmp 43) 2, type := 0, pos := "law.go:58", after := #[{ on := 1, ground := Ground.data }], guard := none } : Oper)) (v := ?_) rfl (by kernel_rfl) (by kernel_rfl) (by kernel_rfl) (fun _ _ _ h => h) (Or.inl ⟨by rfl, ?_⟩) (by assumption) ?_
  rotate_left 1
  · (intro u hSw; go_simp; try with_reducible rfl)
  try simp only [Act.put, List.setIfInBounds_toArray, List.set_cons_zero, List.set_cons_succ]
  refine wpAnyH_take (i := 3) (oi := ({ dst := some 45, op := Op.load 29 (Operand.tmp 44), type := 29, pos := "law.go:58", after := #[{ on := 2, ground := Ground.data }], guard := none } : Oper)) (v := ?_) rfl (by kernel_rfl) (by kernel_rfl) (by kernel_rfl) (fun _ _ _ h => h) (Or.inl ⟨by rfl, ?_⟩) (by assumption) ?_
  rotate_left 1
  · intro u hSw
    have h : u.cell? ⟨Z, 2, none⟩ = some (.pointer (some ⟨P, 0, none⟩)) := PrIs.cell hSw.1 2
    go_simp
    try with_reducible rfl
  try simp only [Act.put, List.setIfInBounds_toArray, List.set_cons_zero, List.set_cons_succ]
  refine wpAnyH_take (i := 4) (oi := ({ dst := some 46, op := Op.fieldAddr 42 (Operand.tmp 5) 2, type := 0, pos := "law.go:58", after := #[], guard := none } : Oper)) (v := ?_) rfl (by kernel_rfl) (by kernel_rfl) (by kernel_rfl) (fun _ _ _ h => h) (Or.inl ⟨by rfl, ?_⟩) (by assumption) ?_
  rotate_left 1
  · (intro u hSw; go_simp; try with_reducible rfl)
  try simp only [Act.put, List.setIfInBounds_toArray, List.set_cons_zero, List.set_cons_succ]
  refine wpAnyH_take (i := 5) (oi := ({ dst := some 47, op := Op.load 39 (Operand.tmp 46), type := 39, pos := "law.go:58", after := #[{ on := 4, ground := Ground.data }], guard := none } : Oper)) (v := ?_) rfl (by kernel_rfl) (by kernel_rfl) (by kernel_rfl) (fun _ _ _ h => h) (Or.inl ⟨by rfl, ?_⟩) (by assumption) ?_
  rotate_left 1
  · intro u hSw
    have h : u.cell? ⟨X, 2, none⟩ = some (.slice xa xl xc) := StIs.cell hSw.2 2
    go_simp
    try with_reducible rfl
  try simp only [Act.put, List.setIfInBounds_toArray, List.set_cons_zero, List.set_cons_succ]
  refine wpAnyH_take (i := 7) (oi := ({ dst := some 49, op := Op.move (Operand.tmp 0), type := 24, pos := "law.go:58", after := #[], guard := none } : Oper)) (v := ?_) rfl (by kernel_rfl) (by kernel_rfl) (by kernel_rfl) (fun _ _ _ h => h) (Or.inl ⟨by rfl, ?_⟩) (by assumption) ?_
  rotate_left 1
  · (intro u hSw; go_simp; try with_reducible rfl)
  try simp only [Act.put, List.setIfInBounds_toArray, List.set_cons_zero, List.set_cons_succ]
  refine wpAnyH_take (i := 8) (oi := ({ dst := some 50, op := Op.nilCheck (Operand.tmp 49), type := 0, pos := "law.go:58", after := #[{ on := 7, ground := Ground.data }], guard := none } : Oper)) (v := ?_) rfl (by kernel_rfl) (by kernel_rfl) (by kernel_rfl) (fun _ _ _ h => h) (Or.inl ⟨by rfl, ?_⟩) (by assumption) ?_
  rotate_left 1
  · (intro u hSw; go_simp; try with_reducible rfl)
  try simp only [Act.put, List.setIfInBounds_toArray, List.set_cons_zero, List.set_cons_succ]
  refine wpAnyH_take (i := 9) (oi := ({ dst := some 51, op := Op.fieldAddr 32 (Operand.tmp 50) 3, type := 0, pos := "law.go:58", after := #[{ on := 8, ground := Ground.data }], guard := none } : Oper)) (v := ?_) rfl (by kernel_rfl) (by kernel_rfl) (by kernel_rfl) (fun _ _ _ h => h) (Or.inl ⟨by rfl, ?_⟩) (by assumption) ?_
  rotate_left 1
  · (intro u hSw; go_simp; try with_reducible rfl)
  try simp only [Act.put, List.setIfInBounds_toArray, List.set_cons_zero, List.set_cons_succ]
  refine wpAnyH_take (i := 10) (oi := ({ dst := some 52, op := Op.load 30 (Operand.tmp 51), type := 30, pos := "law.go:58", after := #[{ on := 9, ground := Ground.data }], guard := none } : Oper)) (v := ?_) rfl (by kernel_rfl) (by kernel_rfl) (by kernel_rfl) (fun _ _ _ h => h) (Or.inl ⟨by rfl, ?_⟩) (by assumption) ?_
  rotate_left 1
  · intro u hSw
    have h : u.cell? ⟨Z, 3, none⟩ = some (.pointer (some ⟨Q, 0, none⟩)) := PrIs.cell hSw.1 3
    go_simp
    try with_reducible rfl
  try simp only [Act.put, List.setIfInBounds_toArray, List.set_cons_zero, List.set_cons_succ]
  refine wpAnyH_take (i := 11) (oi := ({ dst := some 53, op := Op.fieldAddr 42 (Operand.tmp 5) 2, type := 0, pos := "law.go:58", after := #[], guard := none } : Oper)) (v := ?_) rfl (by kernel_rfl) (by kernel_rfl) (by kernel_rfl) (fun _ _ _ h => h) (Or.inl ⟨by rfl, ?_⟩) (by assumption) ?_
  rotate_left 1
  · (intro u hSw; go_simp; try with_reducible rfl)
  try simp only [Act.put, List.setIfInBounds_toArray, List.set_cons_zero, List.set_cons_succ]
  refine wpAnyH_take (i := 12) (oi := ({ dst := some 54, op := Op.load 39 (Operand.tmp 53), type := 39, pos := "law.go:58", after := #[{ on := 11, ground := Ground.data }], guard := none } : Oper)) (v := ?_) rfl (by kernel_rfl) (by kernel_rfl) (by kernel_rfl) (fun _ _ _ h => h) (Or.inl ⟨by rfl, ?_⟩) (by assumption) ?_
  rotate_left 1
  · intro u hSw
    have h : u.cell? ⟨X, 2, none⟩ = some (.slice xa xl xc) := StIs.cell hSw.2 2
    go_simp
    try with_reducible rfl
  try simp only [Act.put, List.setIfInBounds_toArray, List.set_cons_zero, List.set_cons_succ]
  refine wpAnyH_ready (rs := [6]) (by kernel_rfl) (by simp) ?_
  refine AllReadyH.cons (o := ({ dst := some 48, op := Op.call { callee := Callee.value (Operand.func 31), args := #[Operand.tmp 45, Operand.tmp 47], argTypes := #[29, 39] }, type := 33, pos := "law.go:58", after := #[{ on := 3, ground := Ground.data }, { on := 5, ground := Ground.data }], guard := none } : Oper)) rfl (fun K hK => ?_) AllReadyH.nil
  go_simp
  go_at_call 31
  refine (HLA.out _ HW.out.l HBD.out).mono ?_
  rintro e w2 ⟨rfl, he⟩
  obtain ⟨lv2, av2, hp2, hb2, hc2⟩ := PR.left HW.out he
  have HP2 := Lib.hid hp2
  have BB2 := Lib.hid (below_of_drew hb2)
  have S2 := Lib.hid (And.intro hp2.p (StIs.chg (w := w1.drew) S1.out.2 hc2 (fun e => N1.out _ (.inl e) rfl)))
  have HB2 := Lib.hid (HBD.out.under hb2)
  clear he hp2 hb2 hc2
  go_wp2_with fail
  refine hK.out _ _ S2.out (fun hHeld => ?_)
  clear hK K
  try simp only [Act.put, List.setIfInBounds_toArray, List.set_cons_zero, List.set_cons_succ]
  refine wpAnyH_ready (rs := [13]) (by kernel_rfl) (by simp) ?_
  refine AllReadyH.cons (o := ({ dst := some 55, op := Op.call { callee := Callee.value (Operand.func 46), args := #[Operand.tmp 52, Operand.tmp 54], argTypes := #[30, 39] }, type := 33, pos := "law.go:58", after := #[{ on := 10, ground := Ground.data }, { on := 12, ground := Ground.data }, { on := 6, ground := Ground.chain }], guard := none } : Oper)) rfl (fun K hK => ?_) AllReadyH.nil
  go_simp
  go_at_call 46
  refine (HRA.out _ HP2.out.q HB2.out).mono ?_
  rintro e w3 ⟨rfl, he⟩
  obtain ⟨rv3, bv3, mv3, hp3, hb3, hc3⟩ := PR.right HP2.out he
  have HP3 := Lib.hid hp3
  have BB3 := Lib.hid hb3
  have S3 := Lib.hid (And.intro hp3.p (StIs.chg S2.out.2 hc3 (fun e => N1.out _ (.inr e) rfl)))
  clear he hp3 hb3 hc3
  go_wp2_with fail
  refine hK.out _ _ S3.out (fun hHeld => ?_)
  clear hK K
  try simp only [Act.put, List.setIfInBounds_toArray, List.set_cons_zero, List.set_cons_succ]
  refine wpAnyH_take (i := 14) (oi := ({ dst := some 10, op := Op.assign (Operand.tmp 48), type := 33, pos := "law.go:58", after := #[{ on := 6, ground := Ground.data }, { on := 13, ground := Ground.chain }, { on := 0, ground := Ground.phase }, { on := 1, ground := Ground.phase }, { on := 2, ground := Ground.phase }, { on := 3, ground := Ground.phase }, { on := 4, ground := Ground.phase }, { on := 5, ground := Ground.phase }, { on := 6, ground := Ground.phase }, { on := 7, ground := Ground.textOnly Departure.lateStores }, { on := 8, ground := Ground.textOnly Departure.lateStores }, { on := 9, ground := Ground.textOnly Departure.lateStores }, { on := 10, ground := Ground.textOnly Departure.lateStores }, { on := 11, ground := Ground.textOnly Departure.lateStores }, { on := 12, ground := Ground.textOnly Departure.lateStores }, { on := 13, ground := Ground.textOnly Departure.lateStoresUnsure }], guard := none } : Oper)) (v := ?_) rfl (by kernel_rfl) (by kernel_rfl) (by kernel_rfl) (fun _ _ _ h => h) (Or.inl ⟨by rfl, ?_⟩) (by assumption) ?_
  rotate_left 1
  · (intro u hSw; go_simp; try with_reducible rfl)
  try simp only [Act.put, List.setIfInBounds_toArray, List.set_cons_zero, List.set_cons_succ]
  refine wpAnyH_take (i := 15) (oi := ({ dst := some 11, op := Op.assign (Operand.tmp 55), type := 33, pos := "law.go:58", after := #[{ on := 13, ground := Ground.data }, { on := 14, ground := Ground.chain }, { on := 0, ground := Ground.phase }, { on := 1, ground := Ground.phase }, { on := 2, ground := Ground.phase }, { on := 3, ground := Ground.phase }, { on := 4, ground := Ground.phase }, { on := 5, ground := Ground.phase }, { on := 6, ground := Ground.phase }, { on := 7, ground := Ground.phase }, { on := 8, ground := Ground.phase }, { on := 9, ground := Ground.phase }, { on := 10, ground := Ground.phase }, { on := 11, ground := Ground.phase }, { on := 12, ground := Ground.phase }, { on := 13, ground := Ground.phase }, { on := 14, ground := Ground.phase }], guard := none } : Oper)) (v := ?_) rfl (by kernel_rfl) (by kernel_rfl) (by kernel_rfl) (fun _ _ _ h => h) (Or.inl ⟨by rfl, ?_⟩) (by assumption) ?_
  rotate_left 1
  · (intro u hSw; go_simp; try with_reducible rfl)
  try simp only [Act.put, List.setIfInBounds_toArray, List.set_cons_zero, List.set_cons_succ]
  refine wpAnyH_done (by kernel_rfl) ?_ _
  go_wp2_with fail
  go_ret2
  exact ⟨rfl, ⟨_, _, _, _, _, _, _, _, _, _, HP3.out⟩, (B1.out.trans (BB2.out)).trans BB3.out⟩
set_option maxRecDepth 100000 in
set_option maxHeartbeats 8000000 in
theorem pstep1 (B Z D R nb : Nat) (fi sz : Int) (M : Nat) (rm : Int) (s : DS) (lv : Value) (P a b c : Nat) (av : Value) (pe : List (List Int)) (gf fcap : Nat) (rv : Value) (Q : Nat) (bv mv : Value) (rs : List (List Int)) (xn : Int) (xa ka : Option Addr) (xl xc kl kc : Nat) (w : World) (h : PR w B Z D R nb fi sz M rm s lv P a b c av pe gf fcap rm s rv Q a b c bv mv rs pe) (hg : Good nb rm s.fz s.f fi sz a b c rs pe) (hdn : s.dn = false) (hL : s.L = []) (hne : pe ≠ []):
    Calls Try.prog 12 #[.pointer (some ⟨Z, 0, none⟩), .agg #[.int .i64 1, .int .i64 xn, .slice xa xl xc, .slice ka kl kc], .int .i64 fi, .int .i64 sz] w fun e w' => ∃ sF E aF cF, e = .returned (.tuple #[.int .i64 E, .bool true]) ∧ PS w' B Z D R nb fi sz rm sF aF b cF (if E = 0 then rs ++ pe else rs) [] ∧ Below B w w' ∧ SyRes nb rm fi a b c (encs pe).length s (aw fi s c (encs pe)) sF E aF cF ∧ WOK sF.L ∧ ∀ n, (sF.f n).length = 256 := by
  have hsm := hg.small
  have h1 := hg.h1; have h2 := hg.h2; have h3 := hg.h3; have h4 := hg.h4
  have hs : (⟨s.fz, false, s.f, []⟩ : DS) = s := by rw [← hdn, ← hL]
  have hA := hg.aR
  rw [hs] at hA
  have HLA := Lib.hid (fun u (hu : LS u B D M nb rm s lv P fi sz a b c av pe) => hu.sync hdn h1 h2 h3 h4 hne hg.fits hg.ha hg.hb (by rw [hL]; decide))
  have HRA := Lib.hid (fun u (hu : QS u B R gf nb fcap rm s rv Q fi sz a b c bv mv rs pe) => hu.sync h1 (by omega) hne hg.clen hsm.2.2 (rng_append (encs_rng hg.rrs) (encs_rng hg.rpe)) hg.ha hg.hb (by rw [hL]; decide) hA)
  clear hsm h1 h2 h3 h4 hs hA hg hdn hL hne
  have hb1 : Below w.heap.size w (w.alloc (.cells #[.int .i64 1, .int .i64 xn, .slice xa xl xc, .slice ka kl kc] 42)) := (Below.refl _ _).alloc (Nat.le_refl _) _
  have hx1 : StIs (w.alloc (.cells #[.int .i64 1, .int .i64 xn, .slice xa xl xc, .slice ka kl kc] 42)) w.heap.size 1 xn (.slice xa xl xc) (.slice ka kl kc) := heap_alloc_new _ _
  have H0 := Lib.hid h
  have H1 := Lib.hid (h.fresh hb1)
  have B1 := Lib.hid (hb1.mono h.hB)
  have N1 := Lib.hid (show ∀ k, (LFoot D M lv P av k ∨ QFoot R gf rv Q bv mv k) → k ≠ w.heap.size from fun k hk e => by
    have := hk.elim (fun hk => (h.l.lt k hk).2) (fun hk => (h.q.lt k hk).2)
    omega)
  have S1 := Lib.hid (And.intro (h.fresh hb1).p hx1)
  have LX := Lib.hid (show w.heap.size < (w.alloc (.cells #[.int .i64 1, .int .i64 xn, .slice xa xl xc, .slice ka kl kc] 42)).heap.size by simp)
  have C0 := Lib.hid (show (w.alloc (.cells #[.int .i64 1, .int .i64 xn, .slice xa xl xc, .slice ka kl kc] 42)).cell? ⟨w.heap.size, 0, none⟩ = some (.int .i64 1) from hx1.cell 0)
  clear h hb1 hx1
  go_enter Try.func12, Try.ntmps12
  go_wp2_with fail
  generalize w.alloc (.cells #[.int .i64 1, .int .i64 xn, .slice xa xl xc, .slice ka kl kc] 42) = w1 at *
  generalize hX : w.heap.size = X at *
  have c0 := C0.out
  go_wp2_with fail
  have HW := Lib.hid (H1.out.fresh (show Below w1.heap.size w1 w1.drew from (Below.refl _ _).drew))
  refine wp_region_held_drew (S := fun u => PrIs u Z D R (.pointer (some ⟨P, 0, none⟩)) (.pointer (some ⟨Q, 0, none⟩)) ∧ StIs u X 1 xn (.slice xa xl xc) (.slice ka kl kc)) (by kernel_rfl) (S1.out) (fun hHeld => ?_)
  refine wpAnyH_take (i := 0) (oi := ({ dst := some 58, op := Op.move (Operand.tmp 0), type := 24, pos := "law.go:60", after := #[], guard := none } : Oper)) (v := ?_) rfl (by kernel_rfl) (by kernel_rfl) (by kernel_rfl) (fun _ _ _ h => h) (Or.inl ⟨by rfl, ?_⟩) (by assumption) ?_
  rotate_left 1
  · (intro u hSw; go_simp; try with_reducible rfl)
  try simp only [Act.put, List.setIfInBounds_toArray, List.set_cons_zero, List.set_cons_succ]
  refine wpAnyH_take (i := 1) (oi := ({ dst := some 59, op := Op.nilCheck (Operand.tmp 58), type := 0, pos := "law.go:60", after := #[{ on := 0, ground := Ground.data }], guard := none } : Oper)) (v := ?_) rfl (by kernel_rfl) (by kernel_rfl) (by kernel_rfl) (fun _ _ _ h => h) (Or.inl ⟨by rfl, ?_⟩) (by assumption) ?_
  rotate_left 1
  · (intro u hSw; go_simp; try with_reducible rfl)
  try simp only [Act.put, List.setIfInBounds_toArray, List.set_cons_zero, List.set_cons_succ]
  refine wpAnyH_take (i := 2) (oi := ({ dst := some 60, op := Op.fieldAddr 32 (Operand.tmp 59) 2, type := 0, pos := "law.go:60", after := #[{ on := 1, ground := Ground.data }], guard := none } : Oper)) (v := ?_) rfl (by kernel_rfl) (by kernel_rfl) (by kernel_rfl) (fun _ _ _ h => h) (Or.inl ⟨by rfl, ?_⟩) (by assumption) ?_
  rotate_left 1
  · (intro u hSw; go_simp; try with_reducible rfl)
  try simp only [Act.put, List.setIfInBounds_toArray, List.set_cons_zero, List.set_cons_succ]
  refine wpAnyH_take (i := 3) (oi := ({ dst := some 61, op := Op.load 29 (Operand.tmp 60), type := 29, pos := "law.go:60", after := #[{ on := 2, ground := Ground.data }], guard := none } : Oper)) (v := ?_) rfl (by kernel_rfl) (by kernel_rfl) (by kernel_rfl) (fun _ _ _ h => h) (Or.inl ⟨by rfl, ?_⟩) (by assumption) ?_
  rotate_left 1
  · intro u hSw
    have h : u.cell? ⟨Z, 2, none⟩ = some (.pointer (some ⟨P, 0, none⟩)) := PrIs.cell hSw.1 2
    go_simp
    try with_reducible rfl
  try simp only [Act.put, List.setIfInBounds_toArray, List.set_cons_zero, List.set_cons_succ]
  refine wpAnyH_take (i := 5) (oi := ({ dst := some 63, op := Op.move (Operand.tmp 0), type := 24, pos := "law.go:60", after := #[], guard := none } : Oper)) (v := ?_) rfl (by kernel_rfl) (by kernel_rfl) (by kernel_rfl) (fun _ _ _ h => h) (Or.inl ⟨by rfl, ?_⟩) (by assumption) ?_
  rotate_left 1
  · (intro u hSw; go_simp; try with_reducible rfl)
  try simp only [Act.put, List.setIfInBounds_toArray, List.set_cons_zero, List.set_cons_succ]
  refine wpAnyH_take (i := 6) (oi := ({ dst := some 64, op := Op.nilCheck (Operand.tmp 63), type := 0, pos := "law.go:60", after := #[{ on := 5, ground := Ground.data }], guard := none } : Oper)) (v := ?_) rfl (by kernel_rfl) (by kernel_rfl) (by kernel_rfl) (fun _ _ _ h => h) (Or.inl ⟨by rfl, ?_⟩) (by assumption) ?_
  rotate_left 1
  · (intro u hSw; go_simp; try with_reducible rfl)
  try simp only [Act.put, List.setIfInBounds_toArray, List.set_cons_zero, List.set_cons_succ]
  refine wpAnyH_take (i := 7) (oi := ({ dst := some 65, op := Op.fieldAddr 32 (Operand.tmp 64) 3, type := 0, pos := "law.go:60", after := #[{ on := 6, ground := Ground.data }], guard := none } : Oper)) (v := ?_) rfl (by kernel_rfl) (by kernel_rfl) (by kernel_rfl) (fun _ _ _ h => h) (Or.inl ⟨by rfl, ?_⟩) (by assumption) ?_
  rotate_left 1
  · (intro u hSw; go_simp; try with_reducible rfl)
  try simp only [Act.put, List.setIfInBounds_toArray, List.set_cons_zero, List.set_cons_succ]
  refine wpAnyH_take (i := 8) (oi := ({ dst := some 66, op := Op.load 30 (Operand.tmp 65), type := 30, pos := "law.go:60", after := #[{ on := 7, ground := Ground.data }], guard := none } : Oper)) (v := ?_) rfl (by kernel_rfl) (by kernel_rfl) (by kernel_rfl) (fun _ _ _ h => h) (Or.inl ⟨by rfl, ?_⟩) (by assumption) ?_
  rotate_left 1
  · intro u hSw
    have h : u.cell? ⟨Z, 3, none⟩ = some (.pointer (some ⟨Q, 0, none⟩)) := PrIs.cell hSw.1 3
    go_simp
    try with_reducible rfl
  try simp only [Act.put, List.setIfInBounds_toArray, List.set_cons_zero, List.set_cons_succ]
  refine wpAnyH_ready (rs := [4]) (by kernel_rfl) (by simp) ?_
  refine AllReadyH.cons (o := ({ dst := some 62, op := Op.call { callee := Callee.value (Operand.func 32), args := #[Operand.tmp 61], argTypes := #[29] }, type := 33, pos := "law.go:60", after := #[{ on := 3, ground := Ground.data }], guard := none } : Oper)) rfl (fun K hK => ?_) AllReadyH.nil
  go_simp
  go_at_call 32
  refine (HLA.out _ HW.out.l).mono ?_
  rintro e w2 ⟨sF, E, aF, cF, rfl, he, hres⟩
  have HRES := Lib.hid hres
  clear hres
  obtain ⟨lv2, av2, hp2, hb2, hc2⟩ := PR.left HW.out he
  have HP2 := Lib.hid hp2
  have BB2 := Lib.hid (below_of_drew hb2)
  have S2 := Lib.hid (And.intro hp2.p (StIs.chg (w := w1.drew) S1.out.2 hc2 (fun e => N1.out _ (.inl e) rfl)))
  clear he hp2 hb2 hc2
  go_wp2_with fail
  refine hK.out _ _ S2.out (fun hHeld => ?_)
  clear hK K
  try simp only [Act.put, List.setIfInBounds_toArray, List.set_cons_zero, List.set_cons_succ]
  refine wpAnyH_ready (rs := [9]) (by kernel_rfl) (by simp) ?_
  refine AllReadyH.cons (o := ({ dst := some 67, op := Op.call { callee := Callee.value (Operand.func 47), args := #[Operand.tmp 66], argTypes := #[30] }, type := 33, pos := "law.go:60", after := #[{ on := 8, ground := Ground.data }, { on := 4, ground := Ground.chain }], guard := none } : Oper)) rfl (fun K hK => ?_) AllReadyH.nil
  go_simp
  go_at_call 47
  refine (HRA.out _ HP2.out.q).mono ?_
  rintro e w3 ⟨sG, EG, aG, cG, rfl, he, hres⟩
  obtain ⟨q1, q2, q3, q4⟩ := HRES.out.det hres
  subst q1 q2 q3 q4
  clear hres
  obtain ⟨rv3, bv3, mv3, hp3, hb3, hc3⟩ := PR.right HP2.out he
  have HP3 := Lib.hid hp3
  have BB3 := Lib.hid hb3
  have S3 := Lib.hid (And.intro hp3.p (StIs.chg S2.out.2 hc3 (fun e => N1.out _ (.inr e) rfl)))
  clear he hp3 hb3 hc3
  go_wp2_with fail
  refine hK.out _ _ S3.out (fun hHeld => ?_)
  clear hK K
  try simp only [Act.put, List.setIfInBounds_toArray, List.set_cons_zero, List.set_cons_succ]
  refine wpAnyH_take (i := 10) (oi := ({ dst := some 10, op := Op.assign (Operand.tmp 62), type := 33, pos := "law.go:60", after := #[{ on := 4, ground := Ground.data }, { on := 9, ground := Ground.chain }, { on := 0, ground := Ground.phase }, { on := 1, ground := Ground.phase }, { on := 2, ground := Ground.phase }, { on := 3, ground := Ground.phase }, { on := 4, ground := Ground.phase }, { on := 5, ground := Ground.textOnly Departure.lateStores }, { on := 6, ground := Ground.textOnly Departure.lateStores }, { on := 7, ground := Ground.textOnly Departure.lateStores }, { on := 8, ground := Ground.textOnly Departure.lateStores }, { on := 9, ground := Ground.textOnly Departure.lateStoresUnsure }], guard := none } : Oper)) (v := ?_) rfl (by kernel_rfl) (by kernel_rfl) (by kernel_rfl) (fun _ _ _ h => h) (Or.inl ⟨by rfl, ?_⟩) (by assumption) ?_
  rotate_left 1
  · (intro u hSw; go_simp; try with_reducible rfl)
  try simp only [Act.put, List.setIfInBounds_toArray, List.set_cons_zero, List.set_cons_succ]
  refine wpAnyH_take (i := 11) (oi := ({ dst := some 11, op := Op.assign (Operand.tmp 67), type := 33, pos := "law.go:60", after := #[{ on := 9, ground := Ground.data }, { on := 10, ground := Ground.chain }, { on := 0, ground := Ground.phase }, { on := 1, ground := Ground.phase }, { on := 2, ground := Ground.phase }, { on := 3, ground := Ground.phase }, { on := 4, ground := Ground.phase }, { on := 5, ground := Ground.phase }, { on := 6, ground := Ground.phase }, { on := 7, ground := Ground.phase }, { on := 8, ground := Ground.phase }, { on := 9, ground := Ground.phase }, { on := 10, ground := Ground.phase }], guard := none } : Oper)) (v := ?_) rfl (by kernel_rfl) (by kernel_rfl) (by kernel_rfl) (fun _ _ _ h => h) (Or.inl ⟨by rfl, ?_⟩) (by assumption) ?_
  rotate_left 1
  · (intro u hSw; go_simp; try with_reducible rfl)
  try simp only [Act.put, List.setIfInBounds_toArray, List.set_cons_zero, List.set_cons_succ]
  refine wpAnyH_done (by kernel_rfl) ?_ _
  go_wp2_with fail
  go_ret2
  exact ⟨_, _, _, _, rfl, ⟨_, _, _, _, _, _, _, _, _, _, HP3.out⟩, (B1.out.trans (BB2.out)).trans BB3.out, HRES.out, HP3.out.l.dk.2.2.2.2.2.2.2, HP3.out.l.dk.2.2.2.2.2.2.1⟩
set_option maxRecDepth 100000 in
set_option maxHeartbeats 8000000 in
theorem pstep1n (B Z D R nb : Nat) (fi sz : Int) (M : Nat) (rm : Int) (s : DS) (lv : Value) (P a b c : Nat) (av : Value) (gf fcap : Nat) (rv : Value) (Q : Nat) (bv mv : Value) (rs : List (List Int)) (xn : Int) (xa ka : Option Addr) (xl xc kl kc : Nat) (w : World) (h : PR w B Z D R nb fi sz M rm s lv P a b c av [] gf fcap rm s rv Q a b c bv mv rs []) :
    Calls Try.prog 12 #[.pointer (some ⟨Z, 0, none⟩), .agg #[.int .i64 1, .int .i64 xn, .slice xa xl xc, .slice ka kl kc], .int .i64 fi, .int .i64 sz] w fun e w' => e = .returned (.tuple #[.int .i64 0, .bool true]) ∧ PS w' B Z D R nb fi sz rm s a b c rs [] ∧ Below B w w' := by
  have hb1 : Below w.heap.size w (w.alloc (.cells #[.int .i64 1, .int .i64 xn, .slice xa xl xc, .slice ka kl kc] 42)) := (Below.refl _ _).alloc (Nat.le_refl _) _
  have hx1 : StIs (w.alloc (.cells #[.int .i64 1, .int .i64 xn, .slice xa xl xc, .slice ka kl kc] 42)) w.heap.size 1 xn (.slice xa xl xc) (.slice ka kl kc) := heap_alloc_new _ _
  have H0 := Lib.hid h
  have H1 := Lib.hid (h.fresh hb1)
  have B1 := Lib.hid (hb1.mono h.hB)
  have N1 := Lib.hid (show ∀ k, (LFoot D M lv P av k ∨ QFoot R gf rv Q bv mv k) → k ≠ w.heap.size from fun k hk e => by
    have := hk.elim (fun hk => (h.l.lt k hk).2) (fun hk => (h.q.lt k hk).2)
    omega)
  have S1 := Lib.hid (And.intro (h.fresh hb1).p hx1)
  have LX := Lib.hid (show w.heap.size < (w.alloc (.cells #[.int .i64 1, .int .i64 xn, .slice xa xl xc, .slice ka kl kc] 42)).heap.size by simp)
  have C0 := Lib.hid (show (w.alloc (.cells #[.int .i64 1, .int .i64 xn, .slice xa xl xc, .slice ka kl kc] 42)).cell? ⟨w.heap.size, 0, none⟩ = some (.int .i64 1) from hx1.cell 0)
  clear h hb1 hx1
  go_enter Try.func12, Try.ntmps12
  go_wp2_with fail
  generalize w.alloc (.cells #[.int .i64 1, .int .i64 xn, .slice xa xl xc, .slice ka kl kc] 42) = w1 at *
  generalize hX : w.heap.size = X at *
  have c0 := C0.out
  go_wp2_with fail
  have HW := Lib.hid (H1.out.fresh (show Below w1.heap.size w1 w1.drew from (Below.refl _ _).drew))
  refine wp_region_held_drew (S := fun u => PrIs u Z D R (.pointer (some ⟨P, 0, none⟩)) (.pointer (some ⟨Q, 0, none⟩)) ∧ StIs u X 1 xn (.slice xa xl xc) (.slice ka kl kc)) (by kernel_rfl) (S1.out) (fun hHeld => ?_)
  refine wpAnyH_take (i := 0) (oi := ({ dst := some 58, op := Op.move (Operand.tmp 0), type := 24, pos := "law.go:60", after := #[], guard := none } : Oper)) (v := ?_) rfl (by kernel_rfl) (by kernel_rfl) (by kernel_rfl) (fun _ _ _ h => h) (Or.inl ⟨by rfl, ?_⟩) (by assumption) ?_
  rotate_left 1
  · (intro u hSw; go_simp; try with_reducible rfl)
  try simp only [Act.put, List.setIfInBounds_toArray, List.set_cons_zero, List.set_cons_succ]
  refine wpAnyH_take (i := 1) (oi := ({ dst := some 59, op := Op.nilCheck (Operand.tmp 58), type := 0, pos := "law.go:60", after := #[{ on := 0, ground := Ground.data }], guard := none } : Oper)) (v := ?_) rfl (by kernel_rfl) (by kernel_rfl) (by kernel_rfl) (fun _ _ _ h => h) (Or.inl ⟨by rfl, ?_⟩) (by assumption) ?_
  rotate_left 1
  · (intro u hSw; go_simp; try with_reducible rfl)
  try simp only [Act.put, List.setIfInBounds_toArray, List.set_cons_zero, List.set_cons_succ]
  refine wpAnyH_take (i := 2) (oi := ({ dst := some 60, op := Op.fieldAddr 32 (Operand.tmp 59) 2, type := 0, pos := "law.go:60", after := #[{ on := 1, ground := Ground.data }], guard := none } : Oper)) (v := ?_) rfl (by kernel_rfl) (by kernel_rfl) (by kernel_rfl) (fun _ _ _ h => h) (Or.inl ⟨by rfl, ?_⟩) (by assumption) ?_
  rotate_left 1
  · (intro u hSw; go_simp; try with_reducible rfl)
  try simp only [Act.put, List.setIfInBounds_toArray, List.set_cons_zero, List.set_cons_succ]
  refine wpAnyH_take (i := 3) (oi := ({ dst := some 61, op := Op.load 29 (Operand.tmp 60), type := 29, pos := "law.go:60", after := #[{ on := 2, ground := Ground.data }], guard := none } : Oper)) (v := ?_) rfl (by kernel_rfl) (by kernel_rfl) (by kernel_rfl) (fun _ _ _ h => h) (Or.inl ⟨by rfl, ?_⟩) (by assumption) ?_
  rotate_left 1
  · intro u hSw
    have h : u.cell? ⟨Z, 2, none⟩ = some (.pointer (some ⟨P, 0, none⟩)) := PrIs.cell hSw.1 2
    go_simp
    try with_reducible rfl
  try simp only [Act.put, List.setIfInBounds_toArray, List.set_cons_zero, List.set_cons_succ]
  refine wpAnyH_take (i := 5) (oi := ({ dst := some 63, op := Op.move (Operand.tmp 0), type := 24, pos := "law.go:60", after := #[], guard := none } : Oper)) (v := ?_) rfl (by kernel_rfl) (by kernel_rfl) (by kernel_rfl) (fun _ _ _ h => h) (Or.inl ⟨by rfl, ?_⟩) (by assumption) ?_
  rotate_left 1
  · (intro u hSw; go_simp; try with_reducible rfl)
  try simp only [Act.put, List.setIfInBounds_toArray, List.set_cons_zero, List.set_cons_succ]
  refine wpAnyH_take (i := 6) (oi := ({ dst := some 64, op := Op.nilCheck (Operand.tmp 63), type := 0, pos := "law.go:60", after := #[{ on := 5, ground := Ground.data }], guard := none } : Oper)) (v := ?_) rfl (by kernel_rfl) (by kernel_rfl) (by kernel_rfl) (fun _ _ _ h => h) (Or.inl ⟨by rfl, ?_⟩) (by assumption) ?_
  rotate_left 1
  · (intro u hSw; go_simp; try with_reducible rfl)
  try simp only [Act.put, List.setIfInBounds_toArray, List.set_cons_zero, List.set_cons_succ]
  refine wpAnyH_take (i := 7) (oi := ({ dst := some 65, op := Op.fieldAddr 32 (Operand.tmp 64) 3, type := 0, pos := "law.go:60", after := #[{ on := 6, ground := Ground.data }], guard := none } : Oper)) (v := ?_) rfl (by kernel_rfl) (by kernel_rfl) (by kernel_rfl) (fun _ _ _ h => h) (Or.inl ⟨by rfl, ?_⟩) (by assumption) ?_
  rotate_left 1
  · (intro u hSw; go_simp; try with_reducible rfl)
  try simp only [Act.put, List.setIfInBounds_toArray, List.set_cons_zero, List.set_cons_succ]
  refine wpAnyH_take (i := 8) (oi := ({ dst := some 66, op := Op.load 30 (Operand.tmp 65), type := 30, pos := "law.go:60", after := #[{ on := 7, ground := Ground.data }], guard := none } : Oper)) (v := ?_) rfl (by kernel_rfl) (by kernel_rfl) (by kernel_rfl) (fun _ _ _ h => h) (Or.inl ⟨by rfl, ?_⟩) (by assumption) ?_
  rotate_left 1
  · intro u hSw
    have h : u.cell? ⟨Z, 3, none⟩ = some (.pointer (some ⟨Q, 0, none⟩)) := PrIs.cell hSw.1 3
    go_simp
    try with_reducible rfl
  try simp only [Act.put, List.setIfInBounds_toArray, List.set_cons_zero, List.set_cons_succ]
  refine wpAnyH_ready (rs := [4]) (by kernel_rfl) (by simp) ?_
  refine AllReadyH.cons (o := ({ dst := some 62, op := Op.call { callee := Callee.value (Operand.func 32), args := #[Operand.tmp 61], argTypes := #[29] }, type := 33, pos := "law.go:60", after := #[{ on := 3, ground := Ground.data }], guard := none } : Oper)) rfl (fun K hK => ?_) AllReadyH.nil
  go_simp
  go_at_call 32
  refine (HW.out.l.nosync).mono ?_
  rintro e w2 ⟨rfl, rfl⟩
  go_wp2_with fail
  refine hK.out _ _ S1.out (fun hHeld => ?_)
  clear hK K
  try simp only [Act.put, List.setIfInBounds_toArray, List.set_cons_zero, List.set_cons_succ]
  refine wpAnyH_ready (rs := [9]) (by kernel_rfl) (by simp) ?_
  refine AllReadyH.cons (o := ({ dst := some 67, op := Op.call { callee := Callee.value (Operand.func 47), args := #[Operand.tmp 66], argTypes := #[30] }, type := 33, pos := "law.go:60", after := #[{ on := 8, ground := Ground.data }, { on := 4, ground := Ground.chain }], guard := none } : Oper)) rfl (fun K hK => ?_) AllReadyH.nil
  go_simp
  go_at_call 47
  refine (HW.out.q.nosync).mono ?_
  rintro e w2 ⟨rfl, rfl⟩
  go_wp2_with fail
  refine hK.out _ _ S1.out (fun hHeld => ?_)
  clear hK K
  try simp only [Act.put, List.setIfInBounds_toArray, List.set_cons_zero, List.set_cons_succ]
  refine wpAnyH_take (i := 10) (oi := ({ dst := some 10, op := Op.assign (Operand.tmp 62), type := 33, pos := "law.go:60", after := #[{ on := 4, ground := Ground.data }, { on := 9, ground := Ground.chain }, { on := 0, ground := Ground.phase }, { on := 1, ground := Ground.phase }, { on := 2, ground := Ground.phase }, { on := 3, ground := Ground.phase }, { on := 4, ground := Ground.phase }, { on := 5, ground := Ground.textOnly Departure.lateStores }, { on := 6, ground := Ground.textOnly Departure.lateStores }, { on := 7, ground := Ground.textOnly Departure.lateStores }, { on := 8, ground := Ground.textOnly Departure.lateStores }, { on := 9, ground := Ground.textOnly Departure.lateStoresUnsure }], guard := none } : Oper)) (v := ?_) rfl (by kernel_rfl) (by kernel_rfl) (by kernel_rfl) (fun _ _ _ h => h) (Or.inl ⟨by rfl, ?_⟩) (by assumption) ?_
  rotate_left 1
  · (intro u hSw; go_simp; try with_reducible rfl)
  try simp only [Act.put, List.setIfInBounds_toArray, List.set_cons_zero, List.set_cons_succ]
  refine wpAnyH_take (i := 11) (oi := ({ dst := some 11, op := Op.assign (Operand.tmp 67), type := 33, pos := "law.go:60", after := #[{ on := 9, ground := Ground.data }, { on := 10, ground := Ground.chain }, { on := 0, ground := Ground.phase }, { on := 1, ground := Ground.phase }, { on := 2, ground := Ground.phase }, { on := 3, ground := Ground.phase }, { on := 4, ground := Ground.phase }, { on := 5, ground := Ground.phase }, { on := 6, ground := Ground.phase }, { on := 7, ground := Ground.phase }, { on := 8, ground := Ground.phase }, { on := 9, ground := Ground.phase }, { on := 10, ground := Ground.phase }], guard := none } : Oper)) (v := ?_) rfl (by kernel_rfl) (by kernel_rfl) (by kernel_rfl) (fun _ _ _ h => h) (Or.inl ⟨by rfl, ?_⟩) (by assumption) ?_
  rotate_left 1
  · (intro u hSw; go_simp; try with_reducible rfl)
  try simp only [Act.put, List.setIfInBounds_toArray, List.set_cons_zero, List.set_cons_succ]
  refine wpAnyH_done (by kernel_rfl) ?_ _
  go_wp2_with fail
  go_ret2
  exact ⟨rfl, ⟨_, _, _, _, _, _, _, _, _, _, HW.out⟩, B1.out.trans (show Below B w1 w1.drew from (Below.refl _ _).drew)⟩
set_option maxRecDepth 100000 in
set_option maxHeartbeats 8000000 in
theorem pstep3 (B Z D R nb : Nat) (fi sz : Int) (M : Nat) (rm : Int) (s : DS) (lv : Value) (P a b c : Nat) (av : Value) (gf fcap : Nat) (rv : Value) (Q : Nat) (bv mv : Value) (rs : List (List Int)) (xn : Int) (xa ka : Option Addr) (xl xc kl kc : Nat) (w : World) (h : PR w B Z D R nb fi sz M rm s lv P a b c av [] gf fcap rm s rv Q a b c bv mv rs []) (WR : DS × Int) (hW : DS.wsy nb rm s (mw fi (a + 1) (b + 1) 0) = WR) (aF bF cF : Nat) (rF : List (List Int)) (e1 : (if WR.2 = 0 then a + 1 else a) = aF) (e2 : (if WR.2 = 0 then b + 1 else b) = bF) (e3 : (if WR.2 = 0 then 0 else c) = cF) (e4 : (if WR.2 = 0 then [] else rs) = rF) (hg : Good nb rm s.fz s.f fi sz a b c rs []) (hL : s.L = []):
    Calls Try.prog 12 #[.pointer (some ⟨Z, 0, none⟩), .agg #[.int .i64 3, .int .i64 xn, .slice xa xl xc, .slice ka kl kc], .int .i64 fi, .int .i64 sz] w fun e w' => e = .returned (.tuple #[.int .i64 WR.2, .bool true]) ∧ PS w' B Z D R nb fi sz rm WR.1 aF bF cF rF [] ∧ Below B w w' := by
  have h1 := hg.h1; have h2 := hg.h2; have h3 := hg.h3; have h4 := hg.h4
  have hla := fun u (hu : LS u B D M nb rm s lv P fi sz a b c av []) => hu.restart h1 (by omega) hg.ha hg.hb (by rw [hL]; decide)
  have hra := fun u (hu : QS u B R gf nb fcap rm s rv Q fi sz a b c bv mv rs []) => hu.restart h1 (by omega) hg.ha hg.hb (by rw [hL]; decide)
  rw [hW, e1, e2, e3] at hla hra
  rw [e4] at hra
  obtain ⟨sF, E⟩ := WR
  dsimp only at hla hra ⊢
  have HLA := Lib.hid hla
  have HRA := Lib.hid hra
  clear hla hra h1 h2 h3 h4 hg hL hW e1 e2 e3 e4
  have hb1 : Below w.heap.size w (w.alloc (.cells #[.int .i64 3, .int .i64 xn, .slice xa xl xc, .slice ka kl kc] 42)) := (Below.refl _ _).alloc (Nat.le_refl _) _
  have hx1 : StIs (w.alloc (.cells #[.int .i64 3, .int .i64 xn, .slice xa xl xc, .slice ka kl kc] 42)) w.heap.size 3 xn (.slice xa xl xc) (.slice ka kl kc) := heap_alloc_new _ _
  have H0 := Lib.hid h
  have H1 := Lib.hid (h.fresh hb1)
  have B1 := Lib.hid (hb1.mono h.hB)
  have N1 := Lib.hid (show ∀ k, (LFoot D M lv P av k ∨ QFoot R gf rv Q bv mv k) → k ≠ w.heap.size from fun k hk e => by
    have := hk.elim (fun hk => (h.l.lt k hk).2) (fun hk => (h.q.lt k hk).2)
    omega)
  have S1 := Lib.hid (And.intro (h.fresh hb1).p hx1)
  have LX := Lib.hid (show w.heap.size < (w.alloc (.cells #[.int .i64 3, .int .i64 xn, .slice xa xl xc, .slice ka kl kc] 42)).heap.size by simp)
  have C0 := Lib.hid (show (w.alloc (.cells #[.int .i64 3, .int .i64 xn, .slice xa xl xc, .slice ka kl kc] 42)).cell? ⟨w.heap.size, 0, none⟩ = some (.int .i64 3) from hx1.cell 0)
  clear h hb1 hx1
  go_enter Try.func12, Try.ntmps12
  go_wp2_with fail
  generalize w.alloc (.cells #[.int .i64 3, .int .i64 xn, .slice xa xl xc, .slice ka kl kc] 42) = w1 at *
  generalize hX : w.heap.size = X at *
  have c0 := C0.out
  go_wp2_with fail
  have HW := Lib.hid (H1.out.fresh (show Below w1.heap.size w1 w1.drew from (Below.refl _ _).drew))
  refine wp_region_held_drew (S := fun u => PrIs u Z D R (.pointer (some ⟨P, 0, none⟩)) (.pointer (some ⟨Q, 0, none⟩)) ∧ StIs u X 3 xn (.slice xa xl xc) (.slice ka kl kc)) (by kernel_rfl) (S1.out) (fun hHeld => ?_)
  refine wpAnyH_take (i := 0) (oi := ({ dst := some 82, op := Op.move (Operand.tmp 0), type := 24, pos := "law.go:65", after := #[], guard := none } : Oper)) (v := ?_) rfl (by kernel_rfl) (by kernel_rfl) (by kernel_rfl) (fun _ _ _ h => h) (Or.inl ⟨by rfl, ?_⟩) (by assumption) ?_
  rotate_left 1
  · (intro u hSw; go_simp; try with_reducible rfl)
  try simp only [Act.put, List.setIfInBounds_toArray, List.set_cons_zero, List.set_cons_succ]
  refine wpAnyH_take (i := 1) (oi := ({ dst := some 83, op := Op.nilCheck (Operand.tmp 82), type := 0, pos := "law.go:65", after := #[{ on := 0, ground := Ground.data }], guard := none } : Oper)) (v := ?_) rfl (by kernel_rfl) (by kernel_rfl) (by kernel_rfl) (fun _ _ _ h => h) (Or.inl ⟨by rfl, ?_⟩) (by assumption) ?_
  rotate_left 1
  · (intro u hSw; go_simp; try with_reducible rfl)
  try simp only [Act.put, List.setIfInBounds_toArray, List.set_cons_zero, List.set_cons_succ]
  refine wpAnyH_take (i := 2) (oi := ({ dst := some 84, op := Op.fieldAddr 32 (Operand.tmp 83) 2, type := 0, pos := "law.go:65", after := #[{ on := 1, ground := Ground.data }], guard := none } : Oper)) (v := ?_) rfl (by kernel_rfl) (by kernel_rfl) (by kernel_rfl) (fun _ _ _ h => h) (Or.inl ⟨by rfl, ?_⟩) (by assumption) ?_
  rotate_left 1
  · (intro u hSw; go_simp; try with_reducible rfl)
  try simp only [Act.put, List.setIfInBounds_toArray, List.set_cons_zero, List.set_cons_succ]
  refine wpAnyH_take (i := 3) (oi := ({ dst := some 85, op := Op.load 29 (Operand.tmp 84), type := 29, pos := "law.go:65", after := #[{ on := 2, ground := Ground.data }], guard := none } : Oper)) (v := ?_) rfl (by kernel_rfl) (by kernel_rfl) (by kernel_rfl) (fun _ _ _ h => h) (Or.inl ⟨by rfl, ?_⟩) (by assumption) ?_
  rotate_left 1
  · intro u hSw
    have h : u.cell? ⟨Z, 2, none⟩ = some (.pointer (some ⟨P, 0, none⟩)) := PrIs.cell hSw.1 2
    go_simp
    try with_reducible rfl
  try simp only [Act.put, List.setIfInBounds_toArray, List.set_cons_zero, List.set_cons_succ]
  refine wpAnyH_take (i := 5) (oi := ({ dst := some 87, op := Op.move (Operand.tmp 0), type := 24, pos := "law.go:65", after := #[], guard := none } : Oper)) (v := ?_) rfl (by kernel_rfl) (by kernel_rfl) (by kernel_rfl) (fun _ _ _ h => h) (Or.inl ⟨by rfl, ?_⟩) (by assumption) ?_
  rotate_left 1
  · (intro u hSw; go_simp; try with_reducible rfl)
  try simp only [Act.put, List.setIfInBounds_toArray, List.set_cons_zero, List.set_cons_succ]
  refine wpAnyH_take (i := 6) (oi := ({ dst := some 88, op := Op.nilCheck (Operand.tmp 87), type := 0, pos := "law.go:65", after := #[{ on := 5, ground := Ground.data }], guard := none } : Oper)) (v := ?_) rfl (by kernel_rfl) (by kernel_rfl) (by kernel_rfl) (fun _ _ _ h => h) (Or.inl ⟨by rfl, ?_⟩) (by assumption) ?_
  rotate_left 1
  · (intro u hSw; go_simp; try with_reducible rfl)
  try simp only [Act.put, List.setIfInBounds_toArray, List.set_cons_zero, List.set_cons_succ]
  refine wpAnyH_take (i := 7) (oi := ({ dst := some 89, op := Op.fieldAddr 32 (Operand.tmp 88) 3, type := 0, pos := "law.go:65", after := #[{ on := 6, ground := Ground.data }], guard := none } : Oper)) (v := ?_) rfl (by kernel_rfl) (by kernel_rfl) (by kernel_rfl) (fun _ _ _ h => h) (Or.inl ⟨by rfl, ?_⟩) (by assumption) ?_
  rotate_left 1
  · (intro u hSw; go_simp; try with_reducible rfl)
  try simp only [Act.put, List.setIfInBounds_toArray, List.set_cons_zero, List.set_cons_succ]
  refine wpAnyH_take (i := 8) (oi := ({ dst := some 90, op := Op.load 30 (Operand.tmp 89), type := 30, pos := "law.go:65", after := #[{ on := 7, ground := Ground.data }], guard := none } : Oper)) (v := ?_) rfl (by kernel_rfl) (by kernel_rfl) (by kernel_rfl) (fun _ _ _ h => h) (Or.inl ⟨by rfl, ?_⟩) (by assumption) ?_
  rotate_left 1
  · intro u hSw
    have h : u.cell? ⟨Z, 3, none⟩ = some (.pointer (some ⟨Q, 0, none⟩)) := PrIs.cell hSw.1 3
    go_simp
    try with_reducible rfl
  try simp only [Act.put, List.setIfInBounds_toArray, List.set_cons_zero, List.set_cons_succ]
  refine wpAnyH_ready (rs := [4]) (by kernel_rfl) (by simp) ?_
  refine AllReadyH.cons (o := ({ dst := some 86, op := Op.call { callee := Callee.value (Operand.func 50), args := #[Operand.tmp 85], argTypes := #[29] }, type := 33, pos := "law.go:65", after := #[{ on := 3, ground := Ground.data }], guard := none } : Oper)) rfl (fun K hK => ?_) AllReadyH.nil
  go_simp
  go_at_call 50
  refine (HLA.out _ HW.out.l).mono ?_
  rintro e w2 ⟨rfl, he⟩
  obtain ⟨lv2, av2, hp2, hb2, hc2⟩ := PR.left HW.out he
  have HP2 := Lib.hid hp2
  have BB2 := Lib.hid (below_of_drew hb2)
  have S2 := Lib.hid (And.intro hp2.p (StIs.chg (w := w1.drew) S1.out.2 hc2 (fun e => N1.out _ (.inl e) rfl)))
  clear he hp2 hb2 hc2
  go_wp2_with fail
  refine hK.out _ _ S2.out (fun hHeld => ?_)
  clear hK K
  try simp only [Act.put, List.setIfInBounds_toArray, List.set_cons_zero, List.set_cons_succ]
  refine wpAnyH_ready (rs := [9]) (by kernel_rfl) (by simp) ?_
  refine AllReadyH.cons (o := ({ dst := some 91, op := Op.call { callee := Callee.value (Operand.func 51), args := #[Operand.tmp 90], argTypes := #[30] }, type := 33, pos := "law.go:65", after := #[{ on := 8, ground := Ground.data }, { on := 4, ground := Ground.chain }], guard := none } : Oper)) rfl (fun K hK => ?_) AllReadyH.nil
  go_simp
  go_at_call 51
  refine (HRA.out _ HP2.out.q).mono ?_
  rintro e w3 ⟨rfl, he⟩
  obtain ⟨rv3, bv3, mv3, hp3, hb3, hc3⟩ := PR.right HP2.out he
  have HP3 := Lib.hid hp3
  have BB3 := Lib.hid hb3
  have S3 := Lib.hid (And.intro hp3.p (StIs.chg S2.out.2 hc3 (fun e => N1.out _ (.inr e) rfl)))
  clear he hp3 hb3 hc3
  go_wp2_with fail
  refine hK.out _ _ S3.out (fun hHeld => ?_)
  clear hK K
  try simp only [Act.put, List.setIfInBounds_toArray, List.set_cons_zero, List.set_cons_succ]
  refine wpAnyH_take (i := 10) (oi := ({ dst := some 10, op := Op.assign (Operand.tmp 86), type := 33, pos := "law.go:65", after := #[{ on := 4, ground := Ground.data }, { on := 9, ground := Ground.chain }, { on := 0, ground := Ground.phase }, { on := 1, ground := Ground.phase }, { on := 2, ground := Ground.phase }, { on := 3, ground := Ground.phase }, { on := 4, ground := Ground.phase }, { on := 5, ground := Ground.textOnly Departure.lateStores }, { on := 6, ground := Ground.textOnly Departure.lateStores }, { on := 7, ground := Ground.textOnly Departure.lateStores }, { on := 8, ground := Ground.textOnly Departure.lateStores }, { on := 9, ground := Ground.textOnly Departure.lateStoresUnsure }], guard := none } : Oper)) (v := ?_) rfl (by kernel_rfl) (by kernel_rfl) (by kernel_rfl) (fun _ _ _ h => h) (Or.inl ⟨by rfl, ?_⟩) (by assumption) ?_
  rotate_left 1
  · (intro u hSw; go_simp; try with_reducible rfl)
  try simp only [Act.put, List.setIfInBounds_toArray, List.set_cons_zero, List.set_cons_succ]
  refine wpAnyH_take (i := 11) (oi := ({ dst := some 11, op := Op.assign (Operand.tmp 91), type := 33, pos := "law.go:65", after := #[{ on := 9, ground := Ground.data }, { on := 10, ground := Ground.chain }, { on := 0, ground := Ground.phase }, { on := 1, ground := Ground.phase }, { on := 2, ground := Ground.phase }, { on := 3, ground := Ground.phase }, { on := 4, ground := Ground.phase }, { on := 5, ground := Ground.phase }, { on := 6, ground := Ground.phase }, { on := 7, ground := Ground.phase }, { on := 8, ground := Ground.phase }, { on := 9, ground := Ground.phase }, { on := 10, ground := Ground.phase }], guard := none } : Oper)) (v := ?_) rfl (by kernel_rfl) (by kernel_rfl) (by kernel_rfl) (fun _ _ _ h => h) (Or.inl ⟨by rfl, ?_⟩) (by assumption) ?_
  rotate_left 1
  · (intro u hSw; go_simp; try with_reducible rfl)
  try simp only [Act.put, List.setIfInBounds_toArray, List.set_cons_zero, List.set_cons_succ]
  refine wpAnyH_done (by kernel_rfl) ?_ _
  go_wp2_with fail
  go_ret2
  exact ⟨rfl, ⟨_, _, _, _, _, _, _, _, _, _, HP3.out⟩, (B1.out.trans (BB2.out)).trans BB3.out⟩
set_option maxRecDepth 100000 in
set_option maxHeartbeats 8000000 in
theorem pstep3b (B Z D R nb : Nat) (fi sz : Int) (M : Nat) (rm : Int) (s : DS) (lv : Value) (P a b c : Nat) (av : Value) (pe : List (List Int)) (gf fcap : Nat) (rv : Value) (Q : Nat) (bv mv : Value) (rs : List (List Int)) (xn : Int) (xa ka : Option Addr) (xl xc kl kc : Nat) (w : World) (h : PR w B Z D R nb fi sz M rm s lv P a b c av pe gf fcap rm s rv Q a b c bv mv rs pe) (hne : pe ≠ []) (hp : (encs pe).length ≤ 1048576):
    Calls Try.prog 12 #[.pointer (some ⟨Z, 0, none⟩), .agg #[.int .i64 3, .int .i64 xn, .slice xa xl xc, .slice ka kl kc], .int .i64 fi, .int .i64 sz] w fun e w' => e = .returned (.tuple #[.int .i64 43, .bool true]) ∧ PS w' B Z D R nb fi sz rm s a b c rs pe ∧ Below B w w' := by
  have HNE := Lib.hid hne
  have HPE := Lib.hid hp
  clear hne hp
  have hb1 : Below w.heap.size w (w.alloc (.cells #[.int .i64 3, .int .i64 xn, .slice xa xl xc, .slice ka kl kc] 42)) := (Below.refl _ _).alloc (Nat.le_refl _) _
  have hx1 : StIs (w.alloc (.cells #[.int .i64 3, .int .i64 xn, .slice xa xl xc, .slice ka kl kc] 42)) w.heap.size 3 xn (.slice xa xl xc) (.slice ka kl kc) := heap_alloc_new _ _
  have H0 := Lib.hid h
  have H1 := Lib.hid (h.fresh hb1)
  have B1 := Lib.hid (hb1.mono h.hB)
  have N1 := Lib.hid (show ∀ k, (LFoot D M lv P av k ∨ QFoot R gf rv Q bv mv k) → k ≠ w.heap.size from fun k hk e => by
    have := hk.elim (fun hk => (h.l.lt k hk).2) (fun hk => (h.q.lt k hk).2)
    omega)
  have S1 := Lib.hid (And.intro (h.fresh hb1).p hx1)
  have LX := Lib.hid (show w.heap.size < (w.alloc (.cells #[.int .i64 3, .int .i64 xn, .slice xa xl xc, .slice ka kl kc] 42)).heap.size by simp)
  have C0 := Lib.hid (show (w.alloc (.cells #[.int .i64 3, .int .i64 xn, .slice xa xl xc, .slice ka kl kc] 42)).cell? ⟨w.heap.size, 0, none⟩ = some (.int .i64 3) from hx1.cell 0)
  clear h hb1 hx1
  go_enter Try.func12, Try.ntmps12
  go_wp2_with fail
  generalize w.alloc (.cells #[.int .i64 3, .int .i64 xn, .slice xa xl xc, .slice ka kl kc] 42) = w1 at *
  generalize hX : w.heap.size = X at *
  have c0 := C0.out
  go_wp2_with fail
  have HW := Lib.hid (H1.out.fresh (show Below w1.heap.size w1 w1.drew from (Below.refl _ _).drew))
  refine wp_region_held_drew (S := fun u => PrIs u Z D R (.pointer (some ⟨P, 0, none⟩)) (.pointer (some ⟨Q, 0, none⟩)) ∧ StIs u X 3 xn (.slice xa xl xc) (.slice ka kl kc)) (by kernel_rfl) (S1.out) (fun hHeld => ?_)
  refine wpAnyH_take (i := 0) (oi := ({ dst := some 82, op := Op.move (Operand.tmp 0), type := 24, pos := "law.go:65", after := #[], guard := none } : Oper)) (v := ?_) rfl (by kernel_rfl) (by kernel_rfl) (by kernel_rfl) (fun _ _ _ h => h) (Or.inl ⟨by rfl, ?_⟩) (by assumption) ?_
  rotate_left 1
  · (intro u hSw; go_simp; try with_reducible rfl)
  try simp only [Act.put, List.setIfInBounds_toArray, List.set_cons_zero, List.set_cons_succ]
  refine wpAnyH_take (i := 1) (oi := ({ dst := some 83, op := Op.nilCheck (Operand.tmp 82), type := 0, pos := "law.go:65", after := #[{ on := 0, ground := Ground.data }], guard := none } : Oper)) (v := ?_) rfl (by kernel_rfl) (by kernel_rfl) (by kernel_rfl) (fun _ _ _ h => h) (Or.inl ⟨by rfl, ?_⟩) (by assumption) ?_
  rotate_left 1
  · (intro u hSw; go_simp; try with_reducible rfl)
  try simp only [Act.put, List.setIfInBounds_toArray, List.set_cons_zero, List.set_cons_succ]
  refine wpAnyH_take (i := 2) (oi := ({ dst := some 84, op := Op.fieldAddr 32 (Operand.tmp 83) 2, type := 0, pos := "law.go:65", after := #[{ on := 1, ground := Ground.data }], guard := none } : Oper)) (v := ?_) rfl (by kernel_rfl) (by kernel_rfl) (by kernel_rfl) (fun _ _ _ h => h) (Or.inl ⟨by rfl, ?_⟩) (by assumption) ?_
  rotate_left 1
  · (intro u hSw; go_simp; try with_reducible rfl)
  try simp only [Act.put, List.setIfInBounds_toArray, List.set_cons_zero, List.set_cons_succ]
  refine wpAnyH_take (i := 3) (oi := ({ dst := some 85, op := Op.load 29 (Operand.tmp 84), type := 29, pos := "law.go:65", after := #[{ on := 2, ground := Ground.data }], guard := none } : Oper)) (v := ?_) rfl (by kernel_rfl) (by kernel_rfl) (by kernel_rfl) (fun _ _ _ h => h) (Or.inl ⟨by rfl, ?_⟩) (by assumption) ?_
  rotate_left 1
  · intro u hSw
    have h : u.cell? ⟨Z, 2, none⟩ = some (.pointer (some ⟨P, 0, none⟩)) := PrIs.cell hSw.1 2
    go_simp
    try with_reducible rfl
  try simp only [Act.put, List.setIfInBounds_toArray, List.set_cons_zero, List.set_cons_succ]
  refine wpAnyH_take (i := 5) (oi := ({ dst := some 87, op := Op.move (Operand.tmp 0), type := 24, pos := "law.go:65", after := #[], guard := none } : Oper)) (v := ?_) rfl (by kernel_rfl) (by kernel_rfl) (by kernel_rfl) (fun _ _ _ h => h) (Or.inl ⟨by rfl, ?_⟩) (by assumption) ?_
  rotate_left 1
  · (intro u hSw; go_simp; try with_reducible rfl)
  try simp only [Act.put, List.setIfInBounds_toArray, List.set_cons_zero, List.set_cons_succ]
  refine wpAnyH_take (i := 6) (oi := ({ dst := some 88, op := Op.nilCheck (Operand.tmp 87), type := 0, pos := "law.go:65", after := #[{ on := 5, ground := Ground.data }], guard := none } : Oper)) (v := ?_) rfl (by kernel_rfl) (by kernel_rfl) (by kernel_rfl) (fun _ _ _ h => h) (Or.inl ⟨by rfl, ?_⟩) (by assumption) ?_
  rotate_left 1
  · (intro u hSw; go_simp; try with_reducible rfl)
  try simp only [Act.put, List.setIfInBounds_toArray, List.set_cons_zero, List.set_cons_succ]
  refine wpAnyH_take (i := 7) (oi := ({ dst := some 89, op := Op.fieldAddr 32 (Operand.tmp 88) 3, type := 0, pos := "law.go:65", after := #[{ on := 6, ground := Ground.data }], guard := none } : Oper)) (v := ?_) rfl (by kernel_rfl) (by kernel_rfl) (by kernel_rfl) (fun _ _ _ h => h) (Or.inl ⟨by rfl, ?_⟩) (by assumption) ?_
  rotate_left 1
  · (intro u hSw; go_simp; try with_reducible rfl)
  try simp only [Act.put, List.setIfInBounds_toArray, List.set_cons_zero, List.set_cons_succ]
  refine wpAnyH_take (i := 8) (oi := ({ dst := some 90, op := Op.load 30 (Operand.tmp 89), type := 30, pos := "law.go:65", after := #[{ on := 7, ground := Ground.data }], guard := none } : Oper)) (v := ?_) rfl (by kernel_rfl) (by kernel_rfl) (by kernel_rfl) (fun _ _ _ h => h) (Or.inl ⟨by rfl, ?_⟩) (by assumption) ?_
  rotate_left 1
  · intro u hSw
    have h : u.cell? ⟨Z, 3, none⟩ = some (.pointer (some ⟨Q, 0, none⟩)) := PrIs.cell hSw.1 3
    go_simp
    try with_reducible rfl
  try simp only [Act.put, List.setIfInBounds_toArray, List.set_cons_zero, List.set_cons_succ]
  refine wpAnyH_ready (rs := [4]) (by kernel_rfl) (by simp) ?_
  refine AllReadyH.cons (o := ({ dst := some 86, op := Op.call { callee := Callee.value (Operand.func 50), args := #[Operand.tmp 85], argTypes := #[29] }, type := 33, pos := "law.go:65", after := #[{ on := 3, ground := Ground.data }], guard := none } : Oper)) rfl (fun K hK => ?_) AllReadyH.nil
  go_simp
  go_at_call 50
  refine (HW.out.l.busy HNE.out HPE.out).mono ?_
  rintro e w2 ⟨rfl, rfl⟩
  go_wp2_with fail
  refine hK.out _ _ S1.out (fun hHeld => ?_)
  clear hK K
  try simp only [Act.put, List.setIfInBounds_toArray, List.set_cons_zero, List.set_cons_succ]
  refine wpAnyH_ready (rs := [9]) (by kernel_rfl) (by simp) ?_
  refine AllReadyH.cons (o := ({ dst := some 91, op := Op.call { callee := Callee.value (Operand.func 51), args := #[Operand.tmp 90], argTypes := #[30] }, type := 33, pos := "law.go:65", after := #[{ on := 8, ground := Ground.data }, { on := 4, ground := Ground.chain }], guard := none } : Oper)) rfl (fun K hK => ?_) AllReadyH.nil
  go_simp
  go_at_call 51
  refine (HW.out.q.busy HNE.out HPE.out).mono ?_
  rintro e w2 ⟨rfl, rfl⟩
  go_wp2_with fail
  refine hK.out _ _ S1.out (fun hHeld => ?_)
  clear hK K
  try simp only [Act.put, List.setIfInBounds_toArray, List.set_cons_zero, List.set_cons_succ]
  refine wpAnyH_take (i := 10) (oi := ({ dst := some 10, op := Op.assign (Operand.tmp 86), type := 33, pos := "law.go:65", after := #[{ on := 4, ground := Ground.data }, { on := 9, ground := Ground.chain }, { on := 0, ground := Ground.phase }, { on := 1, ground := Ground.phase }, { on := 2, ground := Ground.phase }, { on := 3, ground := Ground.phase }, { on := 4, ground := Ground.phase }, { on := 5, ground := Ground.textOnly Departure.lateStores }, { on := 6, ground := Ground.textOnly Departure.lateStores }, { on := 7, ground := Ground.textOnly Departure.lateStores }, { on := 8, ground := Ground.textOnly Departure.lateStores }, { on := 9, ground := Ground.textOnly Departure.lateStoresUnsure }], guard := none } : Oper)) (v := ?_) rfl (by kernel_rfl) (by kernel_rfl) (by kernel_rfl) (fun _ _ _ h => h) (Or.inl ⟨by rfl, ?_⟩) (by assumption) ?_
  rotate_left 1
  · (intro u hSw; go_simp; try with_reducible rfl)
  try simp only [Act.put, List.setIfInBounds_toArray, List.set_cons_zero, List.set_cons_succ]
  refine wpAnyH_take (i := 11) (oi := ({ dst := some 11, op := Op.assign (Operand.tmp 91), type := 33, pos := "law.go:65", after := #[{ on := 9, ground := Ground.data }, { on := 10, ground := Ground.chain }, { on := 0, ground := Ground.phase }, { on := 1, ground := Ground.phase }, { on := 2, ground := Ground.phase }, { on := 3, ground := Ground.phase }, { on := 4, ground := Ground.phase }, { on := 5, ground := Ground.phase }, { on := 6, ground := Ground.phase }, { on := 7, ground := Ground.phase }, { on := 8, ground := Ground.phase }, { on := 9, ground := Ground.phase }, { on := 10, ground := Ground.phase }], guard := none } : Oper)) (v := ?_) rfl (by kernel_rfl) (by kernel_rfl) (by kernel_rfl) (fun _ _ _ h => h) (Or.inl ⟨by rfl, ?_⟩) (by assumption) ?_
  rotate_left 1
  · (intro u hSw; go_simp; try with_reducible rfl)
  try simp only [Act.put, List.setIfInBounds_toArray, List.set_cons_zero, List.set_cons_succ]
  refine wpAnyH_done (by kernel_rfl) ?_ _
  go_wp2_with fail
  go_ret2
  exact ⟨rfl, ⟨_, _, _, _, _, _, _, _, _, _, HW.out⟩, B1.out.trans (show Below B w1 w1.drew from (Below.refl _ _).drew)⟩
end Go.Proofs.Ytaibminomehppaa
namespace Go.Proofs.Ytaibminomehppaa
open Go.RowKit
open Go.RowKit
theorem chg_below {B : Nat} {a b : World} (h : Below B a b) : Chg (fun k => B ≤ k) a b := ⟨h.os, h.tape, h.output, h.size, fun k _ hn => h.block k (by omega)⟩
/-- booleans that lie in a block below one -/
def BlI (w : World) (B : Nat) (v : Value) (ks : List Bool) : Prop := Bools w v ks ∧ ∀ b o n c, v = .slice (some ⟨b, o, none⟩) n c → 0 < ks.length → b < B
theorem BlI.under {w w' : World} {B : Nat} {v : Value} {ks : List Bool} (h : BlI w B v ks) (hb : Below B w w') : BlI w' B v ks :=
  ⟨h.1.cg (chg_below hb) (fun b o n c e h0 hF => by have := h.2 b o n c e h0; omega), h.2⟩
theorem LS.up {w : World} {B D M : Nat} {nb rm : Int} {s : DS} {lv : Value} {P : Nat} {fi sz : Int} {a b c : Nat} {av : Value} {pe : List (List Int)} (h : LS w B D M nb rm s lv P fi sz a b c av pe) {kv : Value} {ks : List Bool} (t : Int) (hk : BlI w B kv ks) (hkl : ks.length ≤ 1048576) (hL : s.L.length ≤ 268435456) :
    Calls Try.prog 56 #[.pointer (some ⟨D, 0, none⟩), kv, .int .i64 t] w fun e w' => e = .returned (.tuple #[]) ∧ LE B D M nb rm ⟨-1, false, upF s.f s.L ks t, []⟩ lv P fi sz a b c av pe w w' := by
  refine (up_any B D M nb rm s.fz t s.dn s.f s.L lv kv ks w h.dk hk.1 (fun b o n c e h0 => by have := hk.2 b o n c e h0; have := (h.dk.foot M (.inr (.inl rfl))).1; omega) hL (by omega)).mono ?_
  rintro e w' ⟨rfl, hd, hc⟩
  have hF : ∀ k, k = D ∨ k = M → Foot D M lv k := fun k hk => hk.elim .inl (fun e => .inr (.inl e))
  have hF2 : ∀ k, Foot D M (.slice none 0 0) k → Foot D M lv k := fun k hk => hk.elim .inl (fun e => e.elim (fun e => .inr (.inl e)) (fun e => by cases e))
  refine ⟨rfl, .slice none 0 0, av, { dk := hd, box := h.box.chg hc (fun e => h.nf (hF _ e)), own := h.own.chg hc (fun g hg e => h.af g hg (hF _ e)), nf := fun e => h.nf (hF2 _ e), ne := h.ne, af := fun g hg e => h.af g hg (hF2 _ e), base := h.base }, hc.mono (fun k hk => .inl (hF k hk)), fun k hk => .inl ?_⟩
  rcases hk with hk | hk | hk
  · exact .inl (hF2 k hk)
  · exact .inr (.inl hk)
  · exact .inr (.inr hk)
theorem QS.up {w : World} {B R gf nb fcap : Nat} {rm : Int} {s : DS} {rv : Value} {Q : Nat} {fi sz : Int} {a b c : Nat} {bv mv : Value} {rs pe : List (List Int)} (h : QS w B R gf nb fcap rm s rv Q fi sz a b c bv mv rs pe) {kv : Value} {ks : List Bool} (t : Int) (hk : BlI w B kv ks) (hkl : ks.length ≤ 1048576) :
    Calls Try.prog 57 #[.pointer (some ⟨R, 0, none⟩), kv, .int .i64 t] w fun e w' => e = .returned (.tuple #[]) ∧ QE B R gf nb fcap rm ⟨-1, false, upF s.f s.L ks t, []⟩ rv Q fi sz a b c bv mv rs pe w w' := by
  refine (rd_up h.rd hk.1 (fun b o n c e h0 => by have := hk.2 b o n c e h0; have := (h.rd.foot gf (.inr (.inl rfl))).1; omega) hkl).mono ?_
  rintro e w' ⟨rfl, hd, hc⟩
  have hF : ∀ k, k = R ∨ k = gf → RFoot R gf rv k := fun k hk => hk.elim .inl (fun e => .inr (.inl e))
  have hF2 : ∀ k, RFoot R gf (.slice none 0 0) k → RFoot R gf rv k := fun k hk => hk.elim .inl (fun e => e.elim (fun e => .inr (.inl e)) (fun e => by cases e))
  refine ⟨rfl, .slice none 0 0, bv, mv, { rd := hd, box := h.box.chg hc (fun e => h.nf (hF _ e)), bo := h.bo.chg hc (fun g hg e => h.bf g hg (hF _ e)), mo := h.mo.chg hc (fun g hg e => h.mf g hg (hF _ e)), nf := fun e => h.nf (hF2 _ e), bq := h.bq, mq := h.mq, bf := fun g hg e => h.bf g hg (hF2 _ e), mf := fun g hg e => h.mf g hg (hF2 _ e), base := h.base }, hc.mono (fun k hk => .inl (hF k hk)), fun k hk => .inl ?_⟩
  rcases hk with hk | hk | hk | hk
  · exact .inl (hF2 k hk)
  · exact .inr (.inl hk)
  · exact .inr (.inr (.inl hk))
  · exact .inr (.inr (.inr hk))
set_option maxRecDepth 100000 in
set_option maxHeartbeats 8000000 in
theorem pstep6 (B Z D R nb : Nat) (fi sz : Int) (M : Nat) (rm : Int) (s : DS) (lv : Value) (P a b c : Nat) (av : Value) (pe : List (List Int)) (gf fcap : Nat) (rv : Value) (Q : Nat) (bv mv : Value) (rs : List (List Int)) (xn : Int) (xa ka : Option Addr) (xl xc kl kc : Nat) (w : World) (h : PR w B Z D R nb fi sz M rm s lv P a b c av pe gf fcap rm s rv Q a b c bv mv rs pe) (ks : List Bool) (hk : BlI w B (.slice ka kl kc) ks) (hkl : ks.length ≤ 1048576) (hL : s.L.length ≤ 268435456) (a2 b2 c2 : Nat) (rs2 pe2 : List (List Int)) (hg : Good nb rm (-1) (upF s.f s.L ks xn) fi sz a2 b2 c2 rs2 pe2):
    Calls Try.prog 12 #[.pointer (some ⟨Z, 0, none⟩), .agg #[.int .i64 6, .int .i64 xn, .slice xa xl xc, .slice ka kl kc], .int .i64 fi, .int .i64 sz] w fun e w' => e = .returned (.tuple #[.int .i64 0, .bool true]) ∧ PS w' B Z D R nb fi sz rm ⟨-1, false, upF s.f s.L ks xn, []⟩ a2 b2 c2 rs2 [] ∧ Below B w w' := by
  have HLA := Lib.hid (fun u (hu : LS u B D M nb rm s lv P fi sz a b c av pe) (hk : BlI u B (.slice ka kl kc) ks) => hu.up xn hk hkl hL)
  have HRA := Lib.hid (fun u (hu : QS u B R gf nb fcap rm s rv Q fi sz a b c bv mv rs pe) (hk : BlI u B (.slice ka kl kc) ks) => hu.up xn hk hkl)
  generalize upF s.f s.L ks xn = f' at *
  have HPO := Lib.hid (fun u lv' rv' lp mp (hu : DP u B Z D R nb M gf fcap rm ⟨-1, false, f', []⟩ lv' rv' lp mp) => popen_any B Z D R nb M gf fcap rm fi sz ⟨-1, false, f', []⟩ lv' rv' lp mp a2 b2 c2 rs2 pe2 u hu hg rfl)
  have HBK := Lib.hid hk
  clear hk hkl hL hg
  have hb1 : Below w.heap.size w (w.alloc (.cells #[.int .i64 6, .int .i64 xn, .slice xa xl xc, .slice ka kl kc] 42)) := (Below.refl _ _).alloc (Nat.le_refl _) _
  have hx1 : StIs (w.alloc (.cells #[.int .i64 6, .int .i64 xn, .slice xa xl xc, .slice ka kl kc] 42)) w.heap.size 6 xn (.slice xa xl xc) (.slice ka kl kc) := heap_alloc_new _ _
  have H0 := Lib.hid h
  have H1 := Lib.hid (h.fresh hb1)
  have B1 := Lib.hid (hb1.mono h.hB)
  have N1 := Lib.hid (show ∀ k, (LFoot D M lv P av k ∨ QFoot R gf rv Q bv mv k) → k ≠ w.heap.size from fun k hk e => by
    have := hk.elim (fun hk => (h.l.lt k hk).2) (fun hk => (h.q.lt k hk).2)
    omega)
  have S1 := Lib.hid (And.intro (h.fresh hb1).p hx1)
  have LX := Lib.hid (show w.heap.size < (w.alloc (.cells #[.int .i64 6, .int .i64 xn, .slice xa xl xc, .slice ka kl kc] 42)).heap.size by simp)
  have C0 := Lib.hid (show (w.alloc (.cells #[.int .i64 6, .int .i64 xn, .slice xa xl xc, .slice ka kl kc] 42)).cell? ⟨w.heap.size, 0, none⟩ = some (.int .i64 6) from hx1.cell 0)
  clear h hb1 hx1
  go_enter Try.func12, Try.ntmps12
  go_wp2_with fail
  generalize w.alloc (.cells #[.int .i64 6, .int .i64 xn, .slice xa xl xc, .slice ka kl kc] 42) = w1 at *
  generalize hX : w.heap.size = X at *
  have c0 := C0.out
  go_wp2_with fail
  have HW := Lib.hid (H1.out.fresh (show Below w1.heap.size w1 w1.drew from (Below.refl _ _).drew))
  have HK1 := Lib.hid (HBK.out.under (B1.out.trans (show Below B w1 w1.drew from (Below.refl _ _).drew)))
  refine wp_region_held_drew (S := fun u => PrIs u Z D R (.pointer (some ⟨P, 0, none⟩)) (.pointer (some ⟨Q, 0, none⟩)) ∧ StIs u X 6 xn (.slice xa xl xc) (.slice ka kl kc)) (by kernel_rfl) (S1.out) (fun hHeld => ?_)
  refine wpAnyH_take (i := 0) (oi := ({ dst := some 126, op := Op.move (Operand.tmp 0), type := 24, pos := "law.go:73", after := #[], guard := none } : Oper)) (v := ?_) rfl (by kernel_rfl) (by kernel_rfl) (by kernel_rfl) (fun _ _ _ h => h) (Or.inl ⟨by rfl, ?_⟩) (by assumption) ?_
  rotate_left 1
  · (intro u hSw; go_simp; try with_reducible rfl)
  try simp only [Act.put, List.setIfInBounds_toArray, List.set_cons_zero, List.set_cons_succ]
  refine wpAnyH_take (i := 1) (oi := ({ dst := some 127, op := Op.nilCheck (Operand.tmp 126), type := 0, pos := "law.go:73", after := #[{ on := 0, ground := Ground.data }], guard := none } : Oper)) (v := ?_) rfl (by kernel_rfl) (by kernel_rfl) (by kernel_rfl) (fun _ _ _ h => h) (Or.inl ⟨by rfl, ?_⟩) (by assumption) ?_
  rotate_left 1
  · (intro u hSw; go_simp; try with_reducible rfl)
  try simp only [Act.put, List.setIfInBounds_toArray, List.set_cons_zero, List.set_cons_succ]
  refine wpAnyH_take (i := 2) (oi := ({ dst := some 128, op := Op.fieldAddr 32 (Operand.tmp 127) 0, type := 0, pos := "law.go:73", after := #[{ on := 1, ground := Ground.data }], guard := none } : Oper)) (v := ?_) rfl (by kernel_rfl) (by kernel_rfl) (by kernel_rfl) (fun _ _ _ h => h) (Or.inl ⟨by rfl, ?_⟩) (by assumption) ?_
  rotate_left 1
  · (intro u hSw; go_simp; try with_reducible rfl)
  try simp only [Act.put, List.setIfInBounds_toArray, List.set_cons_zero, List.set_cons_succ]
  refine wpAnyH_take (i := 3) (oi := ({ dst := some 129, op := Op.load 25 (Operand.tmp 128), type := 25, pos := "law.go:73", after := #[{ on := 2, ground := Ground.data }], guard := none } : Oper)) (v := ?_) rfl (by kernel_rfl) (by kernel_rfl) (by kernel_rfl) (fun _ _ _ h => h) (Or.inl ⟨by rfl, ?_⟩) (by assumption) ?_
  rotate_left 1
  · intro u hSw
    have h : u.cell? ⟨Z, 0, none⟩ = some (.pointer (some ⟨D, 0, none⟩)) := PrIs.cell hSw.1 0
    go_simp
    try with_reducible rfl
  try simp only [Act.put, List.setIfInBounds_toArray, List.set_cons_zero, List.set_cons_succ]
  refine wpAnyH_take (i := 4) (oi := ({ dst := some 130, op := Op.fieldAddr 42 (Operand.tmp 5) 3, type := 0, pos := "law.go:73", after := #[], guard := none } : Oper)) (v := ?_) rfl (by kernel_rfl) (by kernel_rfl) (by kernel_rfl) (fun _ _ _ h => h) (Or.inl ⟨by rfl, ?_⟩) (by assumption) ?_
  rotate_left 1
  · (intro u hSw; go_simp; try with_reducible rfl)
  try simp only [Act.put, List.setIfInBounds_toArray, List.set_cons_zero, List.set_cons_succ]
  refine wpAnyH_take (i := 5) (oi := ({ dst := some 131, op := Op.load 40 (Operand.tmp 130), type := 40, pos := "law.go:73", after := #[{ on := 4, ground := Ground.data }], guard := none } : Oper)) (v := ?_) rfl (by kernel_rfl) (by kernel_rfl) (by kernel_rfl) (fun _ _ _ h => h) (Or.inl ⟨by rfl, ?_⟩) (by assumption) ?_
  rotate_left 1
  · intro u hSw
    have h : u.cell? ⟨X, 3, none⟩ = some (.slice ka kl kc) := StIs.cell hSw.2 3
    go_simp
    try with_reducible rfl
  try simp only [Act.put, List.setIfInBounds_toArray, List.set_cons_zero, List.set_cons_succ]
  refine wpAnyH_take (i := 6) (oi := ({ dst := some 132, op := Op.fieldAddr 42 (Operand.tmp 5) 1, type := 0, pos := "law.go:73", after := #[], guard := none } : Oper)) (v := ?_) rfl (by kernel_rfl) (by kernel_rfl) (by kernel_rfl) (fun _ _ _ h => h) (Or.inl ⟨by rfl, ?_⟩) (by assumption) ?_
  rotate_left 1
  · (intro u hSw; go_simp; try with_reducible rfl)
  try simp only [Act.put, List.setIfInBounds_toArray, List.set_cons_zero, List.set_cons_succ]
  refine wpAnyH_take (i := 7) (oi := ({ dst := some 133, op := Op.load 3 (Operand.tmp 132), type := 3, pos := "law.go:73", after := #[{ on := 6, ground := Ground.data }], guard := none } : Oper)) (v := ?_) rfl (by kernel_rfl) (by kernel_rfl) (by kernel_rfl) (fun _ _ _ h => h) (Or.inl ⟨by rfl, ?_⟩) (by assumption) ?_
  rotate_left 1
  · intro u hSw
    have h : u.cell? ⟨X, 1, none⟩ = some (.int .i64 xn) := StIs.cell hSw.2 1
    go_simp
    try with_reducible rfl
  try simp only [Act.put, List.setIfInBounds_toArray, List.set_cons_zero, List.set_cons_succ]
  refine wpAnyH_ready (rs := [8]) (by kernel_rfl) (by simp) ?_
  refine AllReadyH.cons (o := ({ dst := some 134, op := Op.call { callee := Callee.value (Operand.func 56), args := #[Operand.tmp 129, Operand.tmp 131, Operand.tmp 133], argTypes := #[25, 40, 3] }, type := 0, pos := "law.go:73", after := #[{ on := 3, ground := Ground.data }, { on := 5, ground := Ground.data }, { on := 7, ground := Ground.data }], guard := none } : Oper)) rfl (fun K hK => ?_) AllReadyH.nil
  go_simp
  go_at_call 56
  refine (HLA.out _ HW.out.l HK1.out).mono ?_
  rintro e w2 ⟨rfl, he⟩
  obtain ⟨lv2, av2, hp2, hb2, hc2⟩ := PR.left HW.out he
  have HP2 := Lib.hid hp2
  have BB2 := Lib.hid (below_of_drew hb2)
  have S2 := Lib.hid (And.intro hp2.p (StIs.chg (w := w1.drew) S1.out.2 hc2 (fun e => N1.out _ (.inl e) rfl)))
  have HK2 := Lib.hid (HK1.out.under hb2)
  clear he hp2 hb2 hc2
  go_wp2_with fail
  refine hK.out _ _ S2.out (fun hHeld => ?_)
  clear hK K
  try simp only [Act.put, List.setIfInBounds_toArray, List.set_cons_zero, List.set_cons_succ]
  refine wpAnyH_done (by kernel_rfl) ?_ _
  clear hX
  have HW2 := Lib.hid (HP2.out.fresh (show Below w2.heap.size w2 w2.drew from (Below.refl _ _).drew))
  have HK3 := Lib.hid (HK2.out.under (show Below B w2 w2.drew from (Below.refl _ _).drew))
  have c0 : w2.cell? ⟨X, 0, none⟩ = some (.int .i64 6) := StIs.cell S2.out.2 0
  go_wp2_with fail
  refine wp_region_held_drew (S := fun u => PrIs u Z D R (.pointer (some ⟨P, 0, none⟩)) (.pointer (some ⟨Q, 0, none⟩)) ∧ StIs u X 6 xn (.slice xa xl xc) (.slice ka kl kc)) (by kernel_rfl) (S2.out) (fun hHeld => ?_)
  refine wpAnyH_take (i := 0) (oi := ({ dst := some 135, op := Op.move (Operand.tmp 0), type := 24, pos := "law.go:74", after := #[], guard := none } : Oper)) (v := ?_) rfl (by kernel_rfl) (by kernel_rfl) (by kernel_rfl) (fun _ _ _ h => h) (Or.inl ⟨by rfl, ?_⟩) (by assumption) ?_
  rotate_left 1
  · (intro u hSw; go_simp; try with_reducible rfl)
  try simp only [Act.put, List.setIfInBounds_toArray, List.set_cons_zero, List.set_cons_succ]
  refine wpAnyH_take (i := 1) (oi := ({ dst := some 136, op := Op.nilCheck (Operand.tmp 135), type := 0, pos := "law.go:74", after := #[{ on := 0, ground := Ground.data }], guard := none } : Oper)) (v := ?_) rfl (by kernel_rfl) (by kernel_rfl) (by kernel_rfl) (fun _ _ _ h => h) (Or.inl ⟨by rfl, ?_⟩) (by assumption) ?_
  rotate_left 1
  · (intro u hSw; go_simp; try with_reducible rfl)
  try simp only [Act.put, List.setIfInBounds_toArray, List.set_cons_zero, List.set_cons_succ]
  refine wpAnyH_take (i := 2) (oi := ({ dst := some 137, op := Op.fieldAddr 32 (Operand.tmp 136) 1, type := 0, pos := "law.go:74", after := #[{ on := 1, ground := Ground.data }], guard := none } : Oper)) (v := ?_) rfl (by kernel_rfl) (by kernel_rfl) (by kernel_rfl) (fun _ _ _ h => h) (Or.inl ⟨by rfl, ?_⟩) (by assumption) ?_
  rotate_left 1
  · (intro u hSw; go_simp; try with_reducible rfl)
  try simp only [Act.put, List.setIfInBounds_toArray, List.set_cons_zero, List.set_cons_succ]
  refine wpAnyH_take (i := 3) (oi := ({ dst := some 138, op := Op.load 27 (Operand.tmp 137), type := 27, pos := "law.go:74", after := #[{ on := 2, ground := Ground.data }], guard := none } : Oper)) (v := ?_) rfl (by kernel_rfl) (by kernel_rfl) (by kernel_rfl) (fun _ _ _ h => h) (Or.inl ⟨by rfl, ?_⟩) (by assumption) ?_
  rotate_left 1
  · intro u hSw
    have h : u.cell? ⟨Z, 1, none⟩ = some (.pointer (some ⟨R, 0, none⟩)) := PrIs.cell hSw.1 1
    go_simp
    try with_reducible rfl
  try simp only [Act.put, List.setIfInBounds_toArray, List.set_cons_zero, List.set_cons_succ]
  refine wpAnyH_take (i := 4) (oi := ({ dst := some 139, op := Op.fieldAddr 42 (Operand.tmp 5) 3, type := 0, pos := "law.go:74", after := #[], guard := none } : Oper)) (v := ?_) rfl (by kernel_rfl) (by kernel_rfl) (by kernel_rfl) (fun _ _ _ h => h) (Or.inl ⟨by rfl, ?_⟩) (by assumption) ?_
  rotate_left 1
  · (intro u hSw; go_simp; try with_reducible rfl)
  try simp only [Act.put, List.setIfInBounds_toArray, List.set_cons_zero, List.set_cons_succ]
  refine wpAnyH_take (i := 5) (oi := ({ dst := some 140, op := Op.load 40 (Operand.tmp 139), type := 40, pos := "law.go:74", after := #[{ on := 4, ground := Ground.data }], guard := none } : Oper)) (v := ?_) rfl (by kernel_rfl) (by kernel_rfl) (by kernel_rfl) (fun _ _ _ h => h) (Or.inl ⟨by rfl, ?_⟩) (by assumption) ?_
  rotate_left 1
  · intro u hSw
    have h : u.cell? ⟨X, 3, none⟩ = some (.slice ka kl kc) := StIs.cell hSw.2 3
    go_simp
    try with_reducible rfl
  try simp only [Act.put, List.setIfInBounds_toArray, List.set_cons_zero, List.set_cons_succ]
  refine wpAnyH_take (i := 6) (oi := ({ dst := some 141, op := Op.fieldAddr 42 (Operand.tmp 5) 1, type := 0, pos := "law.go:74", after := #[], guard := none } : Oper)) (v := ?_) rfl (by kernel_rfl) (by kernel_rfl) (by kernel_rfl) (fun _ _ _ h => h) (Or.inl ⟨by rfl, ?_⟩) (by assumption) ?_
  rotate_left 1
  · (intro u hSw; go_simp; try with_reducible rfl)
  try simp only [Act.put, List.setIfInBounds_toArray, List.set_cons_zero, List.set_cons_succ]
  refine wpAnyH_take (i := 7) (oi := ({ dst := some 142, op := Op.load 3 (Operand.tmp 141), type := 3, pos := "law.go:74", after := #[{ on := 6, ground := Ground.data }], guard := none } : Oper)) (v := ?_) rfl (by kernel_rfl) (by kernel_rfl) (by kernel_rfl) (fun _ _ _ h => h) (Or.inl ⟨by rfl, ?_⟩) (by assumption) ?_
  rotate_left 1
  · intro u hSw
    have h : u.cell? ⟨X, 1, none⟩ = some (.int .i64 xn) := StIs.cell hSw.2 1
    go_simp
    try with_reducible rfl
  try simp only [Act.put, List.setIfInBounds_toArray, List.set_cons_zero, List.set_cons_succ]
  refine wpAnyH_ready (rs := [8]) (by kernel_rfl) (by simp) ?_
  refine AllReadyH.cons (o := ({ dst := some 143, op := Op.call { callee := Callee.value (Operand.func 57), args := #[Operand.tmp 138, Operand.tmp 140, Operand.tmp 142], argTypes := #[27, 40, 3] }, type := 0, pos := "law.go:74", after := #[{ on := 3, ground := Ground.data }, { on := 5, ground := Ground.data }, { on := 7, ground := Ground.data }], guard := none } : Oper)) rfl (fun K hK => ?_) AllReadyH.nil
  go_simp
  go_at_call 57
  refine (HRA.out _ HW2.out.q HK3.out).mono ?_
  rintro e w3 ⟨rfl, he⟩
  obtain ⟨rv3, bv3, mv3, hp3, hb3, hc3⟩ := PR.right HW2.out he
  have HP3 := Lib.hid hp3
  have BB3 := Lib.hid (below_of_drew hb3)
  have S3 := Lib.hid (And.intro hp3.p (StIs.chg (w := w2.drew) S2.out.2 hc3 (fun e => N1.out _ (.inr e) rfl)))
  clear he hp3 hb3 hc3
  go_wp2_with fail
  refine hK.out _ _ S3.out (fun hHeld => ?_)
  clear hK K
  try simp only [Act.put, List.setIfInBounds_toArray, List.set_cons_zero, List.set_cons_succ]
  refine wpAnyH_done (by kernel_rfl) ?_ _
  clear c0
  go_wp2_with fail
  refine (HPO.out w3 _ _ _ _ HP3.out.dp).mono ?_
  rintro e w4 ⟨rfl, hps, hb⟩
  have HPS := Lib.hid hps
  have BB := Lib.hid hb
  clear hps hb
  go_wp2_with fail
  go_ret2
  exact ⟨rfl, HPS.out, ((B1.out.trans (BB2.out)).trans BB3.out).trans BB.out⟩
set_option maxRecDepth 100000 in
set_option maxHeartbeats 8000000 in
theorem pstep7 (B Z D R nb : Nat) (fi sz : Int) (M : Nat) (rm : Int) (s : DS) (lv : Value) (P a b c : Nat) (av : Value) (pe : List (List Int)) (gf fcap : Nat) (rv : Value) (Q : Nat) (bv mv : Value) (rs : List (List Int)) (xn : Int) (xa ka : Option Addr) (xl xc kl kc : Nat) (w : World) (h : PR w B Z D R nb fi sz M rm s lv P a b c av pe gf fcap rm s rv Q a b c bv mv rs pe) (hg : Good nb rm s.fz s.f fi sz a b c rs pe) (hdn : s.dn = false):
    Calls Try.prog 12 #[.pointer (some ⟨Z, 0, none⟩), .agg #[.int .i64 7, .int .i64 xn, .slice xa xl xc, .slice ka kl kc], .int .i64 fi, .int .i64 sz] w fun e w' => e = .returned (.tuple #[.int .i64 0, .bool true]) ∧ PS w' B Z D R nb fi sz rm s a b c rs [] ∧ Below B w w' := by
  have hdw := fun u (hu : DkS u B D M nb rm s lv) => down_any D nb rm s.fz s.dn _ lv u hu.1
  rw [hdn] at hdw
  have HDW := Lib.hid hdw
  have HPO := Lib.hid (fun u (hu : DP u B Z D R nb M gf fcap rm s lv rv (.pointer (some ⟨P, 0, none⟩)) (.pointer (some ⟨Q, 0, none⟩))) => popen_any B Z D R nb M gf fcap rm fi sz s lv rv _ _ a b c rs pe u hu hg hdn)
  clear hdw hg hdn
  have hb1 : Below w.heap.size w (w.alloc (.cells #[.int .i64 7, .int .i64 xn, .slice xa xl xc, .slice ka kl kc] 42)) := (Below.refl _ _).alloc (Nat.le_refl _) _
  have hx1 : StIs (w.alloc (.cells #[.int .i64 7, .int .i64 xn, .slice xa xl xc, .slice ka kl kc] 42)) w.heap.size 7 xn (.slice xa xl xc) (.slice ka kl kc) := heap_alloc_new _ _
  have H0 := Lib.hid h
  have H1 := Lib.hid (h.fresh hb1)
  have B1 := Lib.hid (hb1.mono h.hB)
  have N1 := Lib.hid (show ∀ k, (LFoot D M lv P av k ∨ QFoot R gf rv Q bv mv k) → k ≠ w.heap.size from fun k hk e => by
    have := hk.elim (fun hk => (h.l.lt k hk).2) (fun hk => (h.q.lt k hk).2)
    omega)
  have S1 := Lib.hid (And.intro (h.fresh hb1).p hx1)
  have LX := Lib.hid (show w.heap.size < (w.alloc (.cells #[.int .i64 7, .int .i64 xn, .slice xa xl xc, .slice ka kl kc] 42)).heap.size by simp)
  have C0 := Lib.hid (show (w.alloc (.cells #[.int .i64 7, .int .i64 xn, .slice xa xl xc, .slice ka kl kc] 42)).cell? ⟨w.heap.size, 0, none⟩ = some (.int .i64 7) from hx1.cell 0)
  have z0 : (w.alloc (.cells #[.int .i64 7, .int .i64 xn, .slice xa xl xc, .slice ka kl kc] 42)).cell? ⟨Z, 0, none⟩ = some (.pointer (some ⟨D, 0, none⟩)) := (h.fresh hb1).p.cell 0
  clear h hb1 hx1
  go_enter Try.func12, Try.ntmps12
  go_wp2_with fail
  generalize w.alloc (.cells #[.int .i64 7, .int .i64 xn, .slice xa xl xc, .slice ka kl kc] 42) = w1 at *
  generalize hX : w.heap.size = X at *
  have c0 := C0.out
  go_wp2_with fail
  refine (HDW.out w1 H1.out.l.dk).mono ?_
  rintro e w2 ⟨rfl, rfl⟩
  go_wp2_with fail
  refine (HPO.out w1 H1.out.dp).mono ?_
  rintro e w2 ⟨rfl, hps, hb⟩
  have HPS := Lib.hid hps
  have BB := Lib.hid hb
  clear hps hb
  go_wp2_with fail
  go_ret2
  exact ⟨rfl, HPS.out, B1.out.trans BB.out⟩
set_option maxRecDepth 100000 in
set_option maxHeartbeats 8000000 in
theorem pstepe (B Z D R nb : Nat) (fi sz : Int) (M : Nat) (rm : Int) (s : DS) (lv : Value) (P a b c : Nat) (av : Value) (pe : List (List Int)) (gf fcap : Nat) (rv : Value) (Q : Nat) (bv mv : Value) (rs : List (List Int)) (xk xn : Int) (xa ka : Option Addr) (xl xc kl kc : Nat) (w : World) (h : PR w B Z D R nb fi sz M rm s lv P a b c av pe gf fcap rm s rv Q a b c bv mv rs pe) (hn : xk ≠ 0 ∧ xk ≠ 1 ∧ xk ≠ 2 ∧ xk ≠ 3 ∧ xk ≠ 4 ∧ xk ≠ 5 ∧ xk ≠ 6 ∧ xk ≠ 7) (hg : Good nb rm s.fz s.f fi sz a b c rs pe):
    Calls Try.prog 12 #[.pointer (some ⟨Z, 0, none⟩), .agg #[.int .i64 xk, .int .i64 xn, .slice xa xl xc, .slice ka kl kc], .int .i64 fi, .int .i64 sz] w fun e w' => e = .returned (.tuple #[.int .i64 0, .bool true]) ∧ PS w' B Z D R nb fi sz rm s a b c rs pe ∧ Below B w w' := by
  obtain ⟨n0, n1, n2, n3, n4, n5, n6, n7⟩ := hn
  have hsm := hg.small
  have h1 := hg.h1; have h2 := hg.h2; have h3 := hg.h3; have h4 := hg.h4
  have hla := fun u (hu : LS u B D M nb rm s lv P fi sz a b c av pe) => hu.left h2 (by omega) hsm.1 hsm.2.1
  have hra := fun u (hu : QS u B R gf nb fcap rm s rv Q fi sz a b c bv mv rs pe) => hu.left h2 (by omega) hg.clen hsm.1 hsm.2.1
  obtain ⟨E, hE⟩ : ∃ E : Int, (if 0 ≤ (sz - 2) * 256 - c - ((encs pe).length : Int) - 8 then (sz - 2) * 256 - c - ((encs pe).length : Int) - 8 else 0) = E := ⟨_, rfl⟩
  rw [hE] at hla hra
  have HLA := Lib.hid hla
  have HRA := Lib.hid hra
  clear hla hra hsm h1 h2 h3 h4 hg hE
  have hb1 : Below w.heap.size w (w.alloc (.cells #[.int .i64 xk, .int .i64 xn, .slice xa xl xc, .slice ka kl kc] 42)) := (Below.refl _ _).alloc (Nat.le_refl _) _
  have hx1 : StIs (w.alloc (.cells #[.int .i64 xk, .int .i64 xn, .slice xa xl xc, .slice ka kl kc] 42)) w.heap.size xk xn (.slice xa xl xc) (.slice ka kl kc) := heap_alloc_new _ _
  have H0 := Lib.hid h
  have H1 := Lib.hid (h.fresh hb1)
  have B1 := Lib.hid (hb1.mono h.hB)
  have N1 := Lib.hid (show ∀ k, (LFoot D M lv P av k ∨ QFoot R gf rv Q bv mv k) → k ≠ w.heap.size from fun k hk e => by
    have := hk.elim (fun hk => (h.l.lt k hk).2) (fun hk => (h.q.lt k hk).2)
    omega)
  have S1 := Lib.hid (And.intro (h.fresh hb1).p hx1)
  have LX := Lib.hid (show w.heap.size < (w.alloc (.cells #[.int .i64 xk, .int .i64 xn, .slice xa xl xc, .slice ka kl kc] 42)).heap.size by simp)
  have C0 := Lib.hid (show (w.alloc (.cells #[.int .i64 xk, .int .i64 xn, .slice xa xl xc, .slice ka kl kc] 42)).cell? ⟨w.heap.size, 0, none⟩ = some (.int .i64 xk) from hx1.cell 0)
  clear h hb1 hx1
  go_enter Try.func12, Try.ntmps12
  go_wp2_with fail
  generalize w.alloc (.cells #[.int .i64 xk, .int .i64 xn, .slice xa xl xc, .slice ka kl kc] 42) = w1 at *
  generalize hX : w.heap.size = X at *
  have c0 := C0.out
  go_wp2_with fail
  have HW := Lib.hid (H1.out.fresh (show Below w1.heap.size w1 w1.drew from (Below.refl _ _).drew))
  refine wp_region_held_drew (S := fun u => PrIs u Z D R (.pointer (some ⟨P, 0, none⟩)) (.pointer (some ⟨Q, 0, none⟩)) ∧ RLgIs u Q (RLg R fi sz a b c bv mv)) (by kernel_rfl) (⟨S1.out.1, H1.out.q.box⟩) (fun hHeld => ?_)
  refine wpAnyH_take (i := 0) (oi := ({ dst := some 14, op := Op.move (Operand.tmp 0), type := 24, pos := "law.go:79", after := #[], guard := none } : Oper)) (v := ?_) rfl (by kernel_rfl) (by kernel_rfl) (by kernel_rfl) (fun _ _ _ h => h) (Or.inl ⟨by rfl, ?_⟩) (by assumption) ?_
  rotate_left 1
  · (intro u hSw; go_simp; try with_reducible rfl)
  try simp only [Act.put, List.setIfInBounds_toArray, List.set_cons_zero, List.set_cons_succ]
  refine wpAnyH_take (i := 1) (oi := ({ dst := some 15, op := Op.nilCheck (Operand.tmp 14), type := 0, pos := "law.go:79", after := #[{ on := 0, ground := Ground.data }], guard := none } : Oper)) (v := ?_) rfl (by kernel_rfl) (by kernel_rfl) (by kernel_rfl) (fun _ _ _ h => h) (Or.inl ⟨by rfl, ?_⟩) (by assumption) ?_
  rotate_left 1
  · (intro u hSw; go_simp; try with_reducible rfl)
  try simp only [Act.put, List.setIfInBounds_toArray, List.set_cons_zero, List.set_cons_succ]
  refine wpAnyH_take (i := 2) (oi := ({ dst := some 16, op := Op.fieldAddr 32 (Operand.tmp 15) 2, type := 0, pos := "law.go:79", after := #[{ on := 1, ground := Ground.data }], guard := none } : Oper)) (v := ?_) rfl (by kernel_rfl) (by kernel_rfl) (by kernel_rfl) (fun _ _ _ h => h) (Or.inl ⟨by rfl, ?_⟩) (by assumption) ?_
  rotate_left 1
  · (intro u hSw; go_simp; try with_reducible rfl)
  try simp only [Act.put, List.setIfInBounds_toArray, List.set_cons_zero, List.set_cons_succ]
  refine wpAnyH_take (i := 3) (oi := ({ dst := some 17, op := Op.load 29 (Operand.tmp 16), type := 29, pos := "law.go:79", after := #[{ on := 2, ground := Ground.data }], guard := none } : Oper)) (v := ?_) rfl (by kernel_rfl) (by kernel_rfl) (by kernel_rfl) (fun _ _ _ h => h) (Or.inl ⟨by rfl, ?_⟩) (by assumption) ?_
  rotate_left 1
  · intro u hSw
    have h : u.cell? ⟨Z, 2, none⟩ = some (.pointer (some ⟨P, 0, none⟩)) := PrIs.cell hSw.1 2
    go_simp
    try with_reducible rfl
  try simp only [Act.put, List.setIfInBounds_toArray, List.set_cons_zero, List.set_cons_succ]
  refine wpAnyH_take (i := 5) (oi := ({ dst := some 19, op := Op.move (Operand.tmp 0), type := 24, pos := "law.go:79", after := #[], guard := none } : Oper)) (v := ?_) rfl (by kernel_rfl) (by kernel_rfl) (by kernel_rfl) (fun _ _ _ h => h) (Or.inl ⟨by rfl, ?_⟩) (by assumption) ?_
  rotate_left 1
  · (intro u hSw; go_simp; try with_reducible rfl)
  try simp only [Act.put, List.setIfInBounds_toArray, List.set_cons_zero, List.set_cons_succ]
  refine wpAnyH_take (i := 6) (oi := ({ dst := some 20, op := Op.nilCheck (Operand.tmp 19), type := 0, pos := "law.go:79", after := #[{ on := 5, ground := Ground.data }], guard := none } : Oper)) (v := ?_) rfl (by kernel_rfl) (by kernel_rfl) (by kernel_rfl) (fun _ _ _ h => h) (Or.inl ⟨by rfl, ?_⟩) (by assumption) ?_
  rotate_left 1
  · (intro u hSw; go_simp; try with_reducible rfl)
  try simp only [Act.put, List.setIfInBounds_toArray, List.set_cons_zero, List.set_cons_succ]
  refine wpAnyH_take (i := 7) (oi := ({ dst := some 21, op := Op.fieldAddr 32 (Operand.tmp 20) 3, type := 0, pos := "law.go:79", after := #[{ on := 6, ground := Ground.data }], guard := none } : Oper)) (v := ?_) rfl (by kernel_rfl) (by kernel_rfl) (by kernel_rfl) (fun _ _ _ h => h) (Or.inl ⟨by rfl, ?_⟩) (by assumption) ?_
  rotate_left 1
  · (intro u hSw; go_simp; try with_reducible rfl)
  try simp only [Act.put, List.setIfInBounds_toArray, List.set_cons_zero, List.set_cons_succ]
  refine wpAnyH_take (i := 8) (oi := ({ dst := some 22, op := Op.load 30 (Operand.tmp 21), type := 30, pos := "law.go:79", after := #[{ on := 7, ground := Ground.data }], guard := none } : Oper)) (v := ?_) rfl (by kernel_rfl) (by kernel_rfl) (by kernel_rfl) (fun _ _ _ h => h) (Or.inl ⟨by rfl, ?_⟩) (by assumption) ?_
  rotate_left 1
  · intro u hSw
    have h : u.cell? ⟨Z, 3, none⟩ = some (.pointer (some ⟨Q, 0, none⟩)) := PrIs.cell hSw.1 3
    go_simp
    try with_reducible rfl
  try simp only [Act.put, List.setIfInBounds_toArray, List.set_cons_zero, List.set_cons_succ]
  refine wpAnyH_ready (rs := [4]) (by kernel_rfl) (by simp) ?_
  refine AllReadyH.cons (o := ({ dst := some 18, op := Op.call { callee := Callee.value (Operand.func 29), args := #[Operand.tmp 17], argTypes := #[29] }, type := 3, pos := "law.go:79", after := #[{ on := 3, ground := Ground.data }], guard := none } : Oper)) rfl (fun K hK => ?_) AllReadyH.nil
  go_simp
  go_at_call 29
  refine (HLA.out _ HW.out.l).mono ?_
  rintro e w2 ⟨rfl, hb2⟩
  have HW2 := Lib.hid (HW.out.fresh hb2)
  have BB2 := Lib.hid (below_of_drew (hb2.mono HW.out.hB))
  clear hb2
  go_wp2_with fail
  refine hK.out _ _ ⟨HW2.out.p, HW2.out.q.box⟩ (fun hHeld => ?_)
  clear hK K
  try simp only [Act.put, List.setIfInBounds_toArray, List.set_cons_zero, List.set_cons_succ]
  refine wpAnyH_ready (rs := [9]) (by kernel_rfl) (by simp) ?_
  refine AllReadyH.cons (o := ({ dst := some 23, op := Op.call { callee := Callee.value (Operand.func 58), args := #[Operand.tmp 22], argTypes := #[30] }, type := 3, pos := "law.go:79", after := #[{ on := 8, ground := Ground.data }, { on := 4, ground := Ground.chain }], guard := none } : Oper)) rfl (fun K hK => ?_) AllReadyH.nil
  go_simp
  go_at_call 58
  refine (HRA.out _ HW2.out.q).mono ?_
  rintro e w3 ⟨rfl, hb3⟩
  have HW3 := Lib.hid (HW2.out.fresh hb3)
  have BB3 := Lib.hid (hb3.mono HW2.out.hB)
  clear hb3
  go_wp2_with fail
  refine hK.out _ _ ⟨HW3.out.p, HW3.out.q.box⟩ (fun hHeld => ?_)
  clear hK K
  try simp only [Act.put, List.setIfInBounds_toArray, List.set_cons_zero, List.set_cons_succ]
  refine wpAnyH_take (i := 10) (oi := ({ dst := some 24, op := Op.binOp BinOp.eql 3 (Operand.tmp 18) (Operand.tmp 23) 3, type := 4, pos := "law.go:79", after := #[{ on := 4, ground := Ground.data }, { on := 9, ground := Ground.data }], guard := none } : Oper)) (v := ?_) rfl (by kernel_rfl) (by kernel_rfl) (by kernel_rfl) (fun _ _ _ h => h) (Or.inl ⟨by rfl, ?_⟩) (by assumption) ?_
  rotate_left 1
  · (intro u hSw; go_simp; try with_reducible rfl)
  try simp only [Act.put, List.setIfInBounds_toArray, List.set_cons_zero, List.set_cons_succ]
  refine wpAnyH_take (i := 11) (oi := ({ dst := some 25, op := Op.move (Operand.tmp 24), type := 4, pos := "law.go:79", after := #[{ on := 10, ground := Ground.data }, { on := 9, ground := Ground.chain }], guard := none } : Oper)) (v := (.bool true)) rfl (by kernel_rfl) (by kernel_rfl) (by kernel_rfl) (fun _ _ _ h => h) (Or.inl ⟨by rfl, ?_⟩) (by assumption) ?_
  · (intro u hSw; go_simp; try with_reducible rfl)
  try simp only [Act.put, List.setIfInBounds_toArray, List.set_cons_zero, List.set_cons_succ]
  refine wpAnyH_take (i := 12) (oi := ({ dst := some 26, op := Op.move (Operand.tmp 0), type := 24, pos := "law.go:79", after := #[{ on := 11, ground := Ground.guard }], guard := some (11, true) } : Oper)) (v := ?_) rfl (by kernel_rfl) (by kernel_rfl) (by kernel_rfl) (fun _ _ _ h => h) (Or.inl ⟨by rfl, ?_⟩) (by assumption) ?_
  rotate_left 1
  · (intro u hSw; go_simp; try with_reducible rfl)
  try simp only [Act.put, List.setIfInBounds_toArray, List.set_cons_zero, List.set_cons_succ]
  refine wpAnyH_take (i := 13) (oi := ({ dst := some 27, op := Op.nilCheck (Operand.tmp 26), type := 0, pos := "law.go:79", after := #[{ on := 12, ground := Ground.data }, { on := 11, ground := Ground.guard }], guard := some (11, true) } : Oper)) (v := ?_) rfl (by kernel_rfl) (by kernel_rfl) (by kernel_rfl) (fun _ _ _ h => h) (Or.inl ⟨by rfl, ?_⟩) (by assumption) ?_
  rotate_left 1
  · (intro u hSw; go_simp; try with_reducible rfl)
  try simp only [Act.put, List.setIfInBounds_toArray, List.set_cons_zero, List.set_cons_succ]
  refine wpAnyH_take (i := 14) (oi := ({ dst := some 28, op := Op.fieldAddr 32 (Operand.tmp 27) 2, type := 0, pos := "law.go:79", after := #[{ on := 13, ground := Ground.data }, { on := 11, ground := Ground.guard }], guard := some (11, true) } : Oper)) (v := ?_) rfl (by kernel_rfl) (by kernel_rfl) (by kernel_rfl) (fun _ _ _ h => h) (Or.inl ⟨by rfl, ?_⟩) (by assumption) ?_
  rotate_left 1
  · (intro u hSw; go_simp; try with_reducible rfl)
  try simp only [Act.put, List.setIfInBounds_toArray, List.set_cons_zero, List.set_cons_succ]
  refine wpAnyH_take (i := 15) (oi := ({ dst := some 29, op := Op.load 29 (Operand.tmp 28), type := 29, pos := "law.go:79", after := #[{ on := 14, ground := Ground.data }, { on := 11, ground := Ground.guard }], guard := some (11, true) } : Oper)) (v := ?_) rfl (by kernel_rfl) (by kernel_rfl) (by kernel_rfl) (fun _ _ _ h => h) (Or.inl ⟨by rfl, ?_⟩) (by assumption) ?_
  rotate_left 1
  · intro u hSw
    have h : u.cell? ⟨Z, 2, none⟩ = some (.pointer (some ⟨P, 0, none⟩)) := PrIs.cell hSw.1 2
    go_simp
    try with_reducible rfl
  try simp only [Act.put, List.setIfInBounds_toArray, List.set_cons_zero, List.set_cons_succ]
  refine wpAnyH_take (i := 17) (oi := ({ dst := some 31, op := Op.move (Operand.tmp 0), type := 24, pos := "law.go:79", after := #[{ on := 11, ground := Ground.guard }, { on := 26, ground := Ground.gcOnly Departure.lateStores }], guard := some (11, true) } : Oper)) (v := ?_) rfl (by kernel_rfl) (by kernel_rfl) (by kernel_rfl) (fun _ _ _ h => h) (Or.inl ⟨by rfl, ?_⟩) (by assumption) ?_
  rotate_left 1
  · (intro u hSw; go_simp; try with_reducible rfl)
  try simp only [Act.put, List.setIfInBounds_toArray, List.set_cons_zero, List.set_cons_succ]
  refine wpAnyH_take (i := 18) (oi := ({ dst := some 32, op := Op.nilCheck (Operand.tmp 31), type := 0, pos := "law.go:79", after := #[{ on := 17, ground := Ground.data }, { on := 11, ground := Ground.guard }, { on := 26, ground := Ground.gcOnly Departure.lateStores }], guard := some (11, true) } : Oper)) (v := ?_) rfl (by kernel_rfl) (by kernel_rfl) (by kernel_rfl) (fun _ _ _ h => h) (Or.inl ⟨by rfl, ?_⟩) (by assumption) ?_
  rotate_left 1
  · (intro u hSw; go_simp; try with_reducible rfl)
  try simp only [Act.put, List.setIfInBounds_toArray, List.set_cons_zero, List.set_cons_succ]
  refine wpAnyH_take (i := 19) (oi := ({ dst := some 33, op := Op.fieldAddr 32 (Operand.tmp 32) 3, type := 0, pos := "law.go:79", after := #[{ on := 18, ground := Ground.data }, { on := 11, ground := Ground.guard }, { on := 26, ground := Ground.gcOnly Departure.lateStores }], guard := some (11, true) } : Oper)) (v := ?_) rfl (by kernel_rfl) (by kernel_rfl) (by kernel_rfl) (fun _ _ _ h => h) (Or.inl ⟨by rfl, ?_⟩) (by assumption) ?_
  rotate_left 1
  · (intro u hSw; go_simp; try with_reducible rfl)
  try simp only [Act.put, List.setIfInBounds_toArray, List.set_cons_zero, List.set_cons_succ]
  refine wpAnyH_take (i := 20) (oi := ({ dst := some 34, op := Op.load 30 (Operand.tmp 33), type := 30, pos := "law.go:79", after := #[{ on := 19, ground := Ground.data }, { on := 11, ground := Ground.guard }, { on := 26, ground := Ground.gcOnly Departure.lateStores }], guard := some (11, true) } : Oper)) (v := ?_) rfl (by kernel_rfl) (by kernel_rfl) (by kernel_rfl) (fun _ _ _ h => h) (Or.inl ⟨by rfl, ?_⟩) (by assumption) ?_
  rotate_left 1
  · intro u hSw
    have h : u.cell? ⟨Z, 3, none⟩ = some (.pointer (some ⟨Q, 0, none⟩)) := PrIs.cell hSw.1 3
    go_simp
    try with_reducible rfl
  try simp only [Act.put, List.setIfInBounds_toArray, List.set_cons_zero, List.set_cons_succ]
  refine wpAnyH_take (i := 21) (oi := ({ dst := some 35, op := Op.nilCheck (Operand.tmp 34), type := 0, pos := "law.go:79", after := #[{ on := 20, ground := Ground.data }, { on := 11, ground := Ground.guard }, { on := 26, ground := Ground.gcOnly Departure.lateStores }], guard := some (11, true) } : Oper)) (v := ?_) rfl (by kernel_rfl) (by kernel_rfl) (by kernel_rfl) (fun _ _ _ h => h) (Or.inl ⟨by rfl, ?_⟩) (by assumption) ?_
  rotate_left 1
  · (intro u hSw; go_simp; try with_reducible rfl)
  try simp only [Act.put, List.setIfInBounds_toArray, List.set_cons_zero, List.set_cons_succ]
  refine wpAnyH_take (i := 22) (oi := ({ dst := some 36, op := Op.fieldAddr 92 (Operand.tmp 35) 4, type := 0, pos := "law.go:79", after := #[{ on := 21, ground := Ground.data }, { on := 11, ground := Ground.guard }, { on := 26, ground := Ground.gcOnly Departure.lateStores }], guard := some (11, true) } : Oper)) (v := ?_) rfl (by kernel_rfl) (by kernel_rfl) (by kernel_rfl) (fun _ _ _ h => h) (Or.inl ⟨by rfl, ?_⟩) (by assumption) ?_
  rotate_left 1
  · (intro u hSw; go_simp; try with_reducible rfl)
  try simp only [Act.put, List.setIfInBounds_toArray, List.set_cons_zero, List.set_cons_succ]
  refine wpAnyH_take (i := 23) (oi := ({ dst := some 37, op := Op.load 60 (Operand.tmp 36), type := 60, pos := "law.go:79", after := #[{ on := 22, ground := Ground.data }, { on := 11, ground := Ground.guard }, { on := 26, ground := Ground.gcOnly Departure.lateStores }], guard := some (11, true) } : Oper)) (v := ?_) rfl (by kernel_rfl) (by kernel_rfl) (by kernel_rfl) (fun _ _ _ h => h) (Or.inl ⟨by rfl, ?_⟩) (by assumption) ?_
  rotate_left 1
  · intro u hSw
    have h : u.cell? ⟨Q, 4, none⟩ = some (.int .u64 (b : Int)) := RLgIs.cell hSw.2 4
    go_simp
    try with_reducible rfl
  try simp only [Act.put, List.setIfInBounds_toArray, List.set_cons_zero, List.set_cons_succ]
  refine wpAnyH_ready (rs := [16]) (by kernel_rfl) (by simp) ?_
  refine AllReadyH.cons (o := ({ dst := some 30, op := Op.call { callee := Callee.value (Operand.func 30), args := #[Operand.tmp 29], argTypes := #[29] }, type := 60, pos := "law.go:79", after := #[{ on := 15, ground := Ground.data }, { on := 11, ground := Ground.chain }, { on := 11, ground := Ground.guard }], guard := some (11, true) } : Oper)) rfl (fun K hK => ?_) AllReadyH.nil
  go_simp
  go_at_call 30
  refine (epoch_any P D fi sz a b c av w3 HW3.out.l.box).mono ?_
  rintro e w4 ⟨rfl, rfl⟩
  go_wp2_with fail
  refine hK.out _ _ ⟨HW3.out.p, HW3.out.q.box⟩ (fun hHeld => ?_)
  clear hK K
  try simp only [Act.put, List.setIfInBounds_toArray, List.set_cons_zero, List.set_cons_succ]
  refine wpAnyH_take (i := 24) (oi := ({ dst := some 38, op := Op.binOp BinOp.eql 60 (Operand.tmp 30) (Operand.tmp 37) 60, type := 4, pos := "law.go:79", after := #[{ on := 16, ground := Ground.data }, { on := 23, ground := Ground.data }, { on := 11, ground := Ground.guard }, { on := 26, ground := Ground.gcOnly Departure.lateStores }], guard := some (11, true) } : Oper)) (v := ?_) rfl (by kernel_rfl) (by kernel_rfl) (by kernel_rfl) (fun _ _ _ h => h) (Or.inl ⟨by rfl, ?_⟩) (by assumption) ?_
  rotate_left 1
  · (intro u hSw; go_simp; try with_reducible rfl)
  try simp only [Act.put, List.setIfInBounds_toArray, List.set_cons_zero, List.set_cons_succ]
  refine wpAnyH_take (i := 25) (oi := ({ dst := some 39, op := Op.pick (Operand.tmp 25) (Operand.tmp 38) (Operand.const (Value.bool false)), type := 4, pos := "law.go:79", after := #[{ on := 11, ground := Ground.data }, { on := 24, ground := Ground.data }, { on := 26, ground := Ground.gcOnly Departure.lateStores }], guard := none } : Oper)) (v := ?_) rfl (by kernel_rfl) (by kernel_rfl) (by kernel_rfl) (fun _ _ _ h => h) (Or.inl ⟨by rfl, ?_⟩) (by assumption) ?_
  rotate_left 1
  · (intro u hSw; go_simp; try with_reducible rfl)
  try simp only [Act.put, List.setIfInBounds_toArray, List.set_cons_zero, List.set_cons_succ]
  refine wpAnyH_take (i := 26) (oi := ({ dst := some 8, op := Op.assign (Operand.const (Value.int IntKind.i64 0)), type := 33, pos := "law.go:79", after := #[{ on := 16, ground := Ground.chain }, { on := 0, ground := Ground.textOnly Departure.lateStores }, { on := 1, ground := Ground.textOnly Departure.lateStores }, { on := 2, ground := Ground.textOnly Departure.lateStores }, { on := 3, ground := Ground.textOnly Departure.lateStores }, { on := 4, ground := Ground.textOnly Departure.lateStoresUnsure }, { on := 5, ground := Ground.textOnly Departure.lateStores }, { on := 6, ground := Ground.textOnly Departure.lateStores }, { on := 7, ground := Ground.textOnly Departure.lateStores }, { on := 8, ground := Ground.textOnly Departure.lateStores }, { on := 9, ground := Ground.textOnly Departure.lateStoresUnsure }, { on := 10, ground := Ground.textOnly Departure.lateStores }, { on := 11, ground := Ground.textOnly Departure.lateStores }, { on := 12, ground := Ground.textOnly Departure.lateStores }, { on := 13, ground := Ground.textOnly Departure.lateStores }, { on := 14, ground := Ground.textOnly Departure.lateStores }, { on := 15, ground := Ground.textOnly Departure.lateStores }, { on := 16, ground := Ground.textOnly Departure.lateStoresUnsure }, { on := 17, ground := Ground.textOnly Departure.lateStores }, { on := 18, ground := Ground.textOnly Departure.lateStores }, { on := 19, ground := Ground.textOnly Departure.lateStores }, { on := 20, ground := Ground.textOnly Departure.lateStores }, { on := 21, ground := Ground.textOnly Departure.lateStores }, { on := 22, ground := Ground.textOnly Departure.lateStores }, { on := 23, ground := Ground.textOnly Departure.lateStores }, { on := 24, ground := Ground.textOnly Departure.lateStores }, { on := 25, ground := Ground.textOnly Departure.lateStores }], guard := none } : Oper)) (v := ?_) rfl (by kernel_rfl) (by kernel_rfl) (by kernel_rfl) (fun _ _ _ h => h) (Or.inl ⟨by rfl, ?_⟩) (by assumption) ?_
  rotate_left 1
  · (intro u hSw; go_simp; try with_reducible rfl)
  try simp only [Act.put, List.setIfInBounds_toArray, List.set_cons_zero, List.set_cons_succ]
  refine wpAnyH_take (i := 27) (oi := ({ dst := some 9, op := Op.assign (Operand.tmp 39), type := 4, pos := "law.go:79", after := #[{ on := 25, ground := Ground.data }, { on := 26, ground := Ground.chain }, { on := 0, ground := Ground.phase }, { on := 1, ground := Ground.phase }, { on := 2, ground := Ground.phase }, { on := 3, ground := Ground.phase }, { on := 4, ground := Ground.phase }, { on := 5, ground := Ground.phase }, { on := 6, ground := Ground.phase }, { on := 7, ground := Ground.phase }, { on := 8, ground := Ground.phase }, { on := 9, ground := Ground.phase }, { on := 10, ground := Ground.phase }, { on := 11, ground := Ground.phase }, { on := 12, ground := Ground.phase }, { on := 13, ground := Ground.phase }, { on := 14, ground := Ground.phase }, { on := 15, ground := Ground.phase }, { on := 16, ground := Ground.phase }, { on := 17, ground := Ground.phase }, { on := 18, ground := Ground.phase }, { on := 19, ground := Ground.phase }, { on := 20, ground := Ground.phase }, { on := 21, ground := Ground.phase }, { on := 22, ground := Ground.phase }, { on := 23, ground := Ground.phase }, { on := 24, ground := Ground.phase }, { on := 25, ground := Ground.phase }, { on := 26, ground := Ground.phase }], guard := none } : Oper)) (v := ?_) rfl (by kernel_rfl) (by kernel_rfl) (by kernel_rfl) (fun _ _ _ h => h) (Or.inl ⟨by rfl, ?_⟩) (by assumption) ?_
  rotate_left 1
  · (intro u hSw; go_simp; try with_reducible rfl)
  try simp only [Act.put, List.setIfInBounds_toArray, List.set_cons_zero, List.set_cons_succ]
  refine wpAnyH_done (by kernel_rfl) ?_ _
  go_wp2_with fail
  go_ret2
  exact ⟨rfl, ⟨_, _, _, _, _, _, _, _, _, _, HW3.out⟩, (B1.out.trans (BB2.out)).trans BB3.out⟩
end Go.Proofs.Ytaibminomehppaa
namespace Go.Proofs.Ytaibminomehppaa
open Go.RowKit
open Go.RowKit
theorem Fell.good {nb rm fz : Int} {f : Int → List Int} {fi sz : Int} {a b c : Nat} {rs pe : List (List Int)} {sF : DS} {b' c' : Nat} {rs' : List (List Int)} (h : Good nb rm fz f fi sz a b c rs pe) (hF : Fell sF fi a b c rs b' c' rs') (hW : WOK sF.L) (hl : ∀ n, (sF.f n).length = 256) (ha1 : a + 1 < 1099511627776) (hb1 : b' < 1099511627776) (hc : (c' : Int) ≤ (sz - 2) * 256) (hr : ∀ r ∈ rs', Rng r) (hbb : b' ≤ b + 1) (rm' : Int) :
    ∀ ks t, ∃ a2 b2 c2 rs2, Good nb rm' (-1) (upF sF.f sF.L ks t) fi sz a2 b2 c2 rs2 [] ∧ a2 ≤ a + 1 ∧ b2 ≤ b + 1 := by
  intro ks t
  obtain ⟨h1, h2, h3⟩ := hF
  obtain ⟨h4, h5⟩ := h3 ks t
  have hgl : ∀ n, (upF sF.f sF.L ks t n).length = 256 := fun n => redoF_len (undoF_len hl _ hW) _ (fun y hy => hW y (survL_memL _ _ _ hy)) _ _ n
  rcases h.up3 h4 h5 hgl ha1 hb1 hc hr rm' (-1) with h6 | h6
  · exact ⟨_, _, _, _, h6, by omega, by omega⟩
  · exact ⟨_, _, _, _, h6, by omega, by omega⟩
theorem SyRes.len {nb rm fi : Int} {a b c n : Nat} {s : DS} {A : List (Int × List Int)} {sF : DS} {E : Int} {aF cF : Nat} (h : SyRes nb rm fi a b c n s A sF E aF cF) (hL : s.L = []) : sF.L.length ≤ A.length + 1 := by
  rcases h with ⟨_, rfl, _⟩ | ⟨h1, rfl, _⟩
  · have := wsy_L nb rm A s
    rw [hL] at this
    simp at this
    omega
  · have := wsy_L nb rm (mw fi (a + 1) b (c + n)) (s.wsy nb rm A).1
    rw [(wsy_ok h1).2.1] at this
    have h2 : (mw fi (a + 1) b (c + n)).length = 1 := rfl
    simp at this
    omega
/-- what holds at the head of the law's loop -/
def CalmP (w : World) (B Z D R nb : Nat) (fi sz : Int) (a b : Nat) : Prop :=
  ∃ rm s a' b' c' rs pe, PS w B Z D R nb fi sz rm s a' b' c' rs pe ∧ s.dn = false ∧ s.L = [] ∧ Good nb rm s.fz s.f fi sz a' b' c' rs pe ∧ a' ≤ a ∧ b' ≤ b
def DownP (w : World) (B Z D R nb : Nat) (fi sz : Int) (a b : Nat) : Prop :=
  ∃ rm s a' b' c' rs pe, PS w B Z D R nb fi sz rm s a' b' c' rs pe ∧ s.dn = true ∧ s.L.length ≤ 8192 ∧ ∀ ks t, ∃ a2 b2 c2 rs2, Good nb rm (-1) (upF s.f s.L ks t) fi sz a2 b2 c2 rs2 [] ∧ a2 ≤ a ∧ b2 ≤ b
def StepE (B Z D R nb : Nat) (fi sz : Int) (a b : Nat) (w : World) (e : Ending) (w' : World) : Prop :=
  ∃ E : Int, e = .returned (.tuple #[.int .i64 E, .bool true]) ∧ Below B w w' ∧ ((E ≠ 44 ∧ CalmP w' B Z D R nb fi sz (a + 1) (b + 1)) ∨ (E = 44 ∧ DownP w' B Z D R nb fi sz (a + 1) (b + 1)))
theorem step_all (B Z D R nb : Nat) (fi sz : Int) (a b : Nat) (w : World) (h : CalmP w B Z D R nb fi sz a b) (xk xn : Int) (xa ka : Option Addr) (xl xc kl kc : Nat) (m : List Int) (ks : List Bool) (hbs : BsI w 0 B (.slice xa xl xc) m) (hm : m.length ≤ 16777216) (hr : Rng m) (hk : BlI w B (.slice ka kl kc) ks) (hkl : ks.length ≤ 1048576) (hxn : xn ≤ 9223372036854775807) (ha1 : a + 2 < 1099511627776) (hb1 : b + 2 < 1099511627776) :
    Calls Try.prog 12 #[.pointer (some ⟨Z, 0, none⟩), .agg #[.int .i64 xk, .int .i64 xn, .slice xa xl xc, .slice ka kl kc], .int .i64 fi, .int .i64 sz] w (StepE B Z D R nb fi sz a b w) := by
  obtain ⟨rm, s, a', b', c', rs, pe, ⟨M, gf, fcap, lv, rv, P, Q, av, bv, mv, hp⟩, hdn, hL, hg, haa, hbb⟩ := h
  have hs : (⟨s.fz, false, s.f, []⟩ : DS) = s := by rw [← hdn, ← hL]
  have hsm := hg.small
  by_cases h0 : xk = 0
  · subst h0
    refine (pstep0 B Z D R nb fi sz M rm s lv P a' b' c' av pe gf fcap rv Q bv mv rs xn xa ka xl xc kl kc w hp m hbs hm hg).mono ?_
    rintro e w' ⟨rfl, hps, hb⟩
    refine ⟨_, rfl, hb, .inl ⟨by split <;> decide, rm, s, a', b', c', rs, _, hps, hdn, hL, ?_, by omega, by omega⟩⟩
    by_cases hf : fitsL sz c' (encs pe).length m.length = true
    · rw [if_pos hf]; exact hg.add m hr hf
    · rw [if_neg hf]; exact hg
  by_cases h1 : xk = 1
  · subst h1
    by_cases hpe : pe = []
    · subst hpe
      refine (pstep1n B Z D R nb fi sz M rm s lv P a' b' c' av gf fcap rv Q bv mv rs xn xa ka xl xc kl kc w hp).mono ?_
      rintro e w' ⟨rfl, hps, hb⟩
      exact ⟨_, rfl, hb, .inl ⟨by decide, rm, s, a', b', c', rs, _, hps, hdn, hL, hg, by omega, by omega⟩⟩
    · refine (pstep1 B Z D R nb fi sz M rm s lv P a' b' c' av pe gf fcap rv Q bv mv rs xn xa ka xl xc kl kc w hp hg hdn hL hpe).mono ?_
      rintro e w' ⟨sF, E, aF, cF, rfl, hps, hb, hres, hW, hl⟩
      have hlen := hres.len hL
      have hawn : (aw fi s c' (encs pe)).length ≤ 8191 := by rw [aw, wl_length]; omega
      rw [← hs] at hres
      rcases hg.sync hpe (by omega) hres (by omega) hW hl with ⟨rfl, e2, e3, rfl, rfl, e6⟩ | ⟨rfl, e2, e3, e4, rfl, rfl⟩ | ⟨rfl, e2⟩
      · rw [if_pos rfl] at hps
        exact ⟨_, rfl, hb, .inl ⟨by decide, rm, sF, _, _, _, _, _, hps, e2, e3, e6, by omega, by omega⟩⟩
      · rw [if_neg (by decide)] at hps
        exact ⟨_, rfl, hb, .inl ⟨by decide, rm, sF, _, _, _, _, _, hps, e2, e3, by rw [e4]; exact hg.drop.other _ _, by omega, by omega⟩⟩
      · refine ⟨_, rfl, hb, .inr ⟨rfl, rm, sF, _, _, _, _, _, hps, e2.1, e2.2.1, fun ks t => ?_⟩⟩
        obtain ⟨a2, b2, c2, rs2, q1, q2, q3⟩ := e2.good hg hW hl (by omega) (by omega) hg.fits (fun r hr => (List.mem_append.1 hr).elim (hg.rrs r) (hg.rpe r)) (by omega) rm ks t
        exact ⟨a2, b2, c2, rs2, q1, by omega, by omega⟩
  by_cases h2 : xk = 2
  · subst h2
    refine (pstep2 B Z D R nb fi sz M rm s lv P a' b' c' av pe gf fcap rv Q bv mv rs xn xa ka xl xc kl kc w hp).mono ?_
    rintro e w' ⟨rfl, hps, hb⟩
    exact ⟨_, rfl, hb, .inl ⟨by decide, rm, s, a', b', c', rs, _, hps, hdn, hL, hg.drop, by omega, by omega⟩⟩
  by_cases h3 : xk = 3
  · subst h3
    by_cases hpe : pe = []
    · subst hpe
      refine (pstep3 B Z D R nb fi sz M rm s lv P a' b' c' av gf fcap rv Q bv mv rs xn xa ka xl xc kl kc w hp _ rfl _ _ _ _ rfl rfl rfl rfl hg hL).mono ?_
      rintro e w' ⟨rfl, hps, hb⟩
      have hps2 := hps
      obtain ⟨_, _, _, _, _, _, _, _, _, _, hp2⟩ := hps2
      have hW := hp2.l.dk.2.2.2.2.2.2.2
      have hl := hp2.l.dk.2.2.2.2.2.2.1
      have hlen := wsy_L nb rm (mw fi (a' + 1) (b' + 1) 0) s
      have hm1 : (mw fi (a' + 1) (b' + 1) 0).length = 1 := rfl
      rw [hL, hm1, List.length_nil] at hlen
      have hcase := hg.restart (rm := rm) (fz := s.fz) (by omega) (by omega) (sF := (s.wsy nb rm (mw fi (a' + 1) (b' + 1) 0)).1) (E := (s.wsy nb rm (mw fi (a' + 1) (b' + 1) 0)).2) (by rw [hs]) (by rw [hs]) rfl rfl rfl (by omega)
      rcases hcase with ⟨e1, e2, e3, e4, e5, e6, e7⟩ | ⟨e1, e2, e3, e4, e5, e6, e7⟩ | ⟨e1, e2⟩
      · rw [e4, e5, e6, if_pos e1] at hps
        exact ⟨_, rfl, hb, .inl ⟨by rw [e1]; decide, rm, _, _, _, _, _, _, hps, e2, e3, e7, by omega, by omega⟩⟩
      · rw [e5, e6, e7, if_neg (by rw [e1]; decide)] at hps
        exact ⟨_, rfl, hb, .inl ⟨by rw [e1]; decide, rm, _, _, _, _, _, _, hps, e2, e3, by rw [e4]; exact hg.other _ _, by omega, by omega⟩⟩
      · refine ⟨_, rfl, hb, .inr ⟨e1, rm, _, _, _, _, _, _, hps, e2.1, e2.2.1, fun ks t => ?_⟩⟩
        obtain ⟨a2, b2, c2, rs2, q1, q2, q3⟩ := e2.good hg hW hl (by omega) (by omega) (by have := hg.h2; omega) (fun r hr => by cases hr) (by omega) rm ks t
        exact ⟨a2, b2, c2, rs2, q1, by omega, by omega⟩
    · refine (pstep3b B Z D R nb fi sz M rm s lv P a' b' c' av pe gf fcap rv Q bv mv rs xn xa ka xl xc kl kc w hp hpe hsm.2.1).mono ?_
      rintro e w' ⟨rfl, hps, hb⟩
      exact ⟨_, rfl, hb, .inl ⟨by decide, rm, s, a', b', c', rs, _, hps, hdn, hL, hg, by omega, by omega⟩⟩
  by_cases h4 : xk = 4
  · subst h4
    refine (pstep4 B Z D R nb fi sz M rm s lv P a' b' c' av pe gf fcap rv Q bv mv rs xn xa ka xl xc kl kc w hp).mono ?_
    rintro e w' ⟨rfl, hps, hb⟩
    exact ⟨_, rfl, hb, .inl ⟨by decide, _, s, a', b', c', rs, _, hps, hdn, hL, hg.other _ _, by omega, by omega⟩⟩
  by_cases h5 : xk = 5
  · subst h5
    refine (pstep5 B Z D R nb fi sz M rm s lv P a' b' c' av pe gf fcap rv Q bv mv rs xn xa ka xl xc kl kc w hp hxn).mono ?_
    rintro e w' ⟨rfl, hps, hb⟩
    exact ⟨_, rfl, hb, .inl ⟨by decide, rm, _, a', b', c', rs, _, hps, hdn, hL, hg.other _ _, by omega, by omega⟩⟩
  by_cases h6 : xk = 6
  · subst h6
    have hup : upF s.f s.L ks xn = s.f := by rw [hL, upF_nil]
    refine (pstep6 B Z D R nb fi sz M rm s lv P a' b' c' av pe gf fcap rv Q bv mv rs xn xa ka xl xc kl kc w hp ks hk hkl (by rw [hL]; decide) a' b' c' rs pe (by rw [hup]; exact hg.other _ _)).mono ?_
    rintro e w' ⟨rfl, hps, hb⟩
    exact ⟨_, rfl, hb, .inl ⟨by decide, rm, _, a', b', c', rs, _, hps, rfl, rfl, by dsimp only; rw [hup]; exact hg.drop.other _ _, by omega, by omega⟩⟩
  by_cases h7 : xk = 7
  · subst h7
    refine (pstep7 B Z D R nb fi sz M rm s lv P a' b' c' av pe gf fcap rv Q bv mv rs xn xa ka xl xc kl kc w hp hg hdn).mono ?_
    rintro e w' ⟨rfl, hps, hb⟩
    exact ⟨_, rfl, hb, .inl ⟨by decide, rm, s, a', b', c', rs, _, hps, hdn, hL, hg.drop, by omega, by omega⟩⟩
  refine (pstepe B Z D R nb fi sz M rm s lv P a' b' c' av pe gf fcap rv Q bv mv rs xk xn xa ka xl xc kl kc w hp ⟨h0, h1, h2, h3, h4, h5, h6, h7⟩ hg).mono ?_
  rintro e w' ⟨rfl, hps, hb⟩
  exact ⟨_, rfl, hb, .inl ⟨by decide, rm, s, a', b', c', rs, _, hps, hdn, hL, hg, by omega, by omega⟩⟩
/-- up, behind a fall -/
theorem step_up (B Z D R nb : Nat) (fi sz : Int) (a b : Nat) (w : World) (h : DownP w B Z D R nb fi sz a b) (xn : Int) (xa ka : Option Addr) (xl xc kl kc : Nat) (ks : List Bool) (hk : BlI w B (.slice ka kl kc) ks) (hkl : ks.length ≤ 1048576) :
    Calls Try.prog 12 #[.pointer (some ⟨Z, 0, none⟩), .agg #[.int .i64 6, .int .i64 xn, .slice xa xl xc, .slice ka kl kc], .int .i64 fi, .int .i64 sz] w fun e w' => e = .returned (.tuple #[.int .i64 0, .bool true]) ∧ CalmP w' B Z D R nb fi sz a b ∧ Below B w w' := by
  obtain ⟨rm, s, a', b', c', rs, pe, ⟨M, gf, fcap, lv, rv, P, Q, av, bv, mv, hp⟩, hdn, hL, hg⟩ := h
  obtain ⟨a2, b2, c2, rs2, hg2, q1, q2⟩ := hg ks xn
  refine (pstep6 B Z D R nb fi sz M rm s lv P a' b' c' av pe gf fcap rv Q bv mv rs xn xa ka xl xc kl kc w hp ks hk hkl (by omega) a2 b2 c2 rs2 [] hg2).mono ?_
  rintro e w' ⟨rfl, hps, hb⟩
  exact ⟨rfl, ⟨rm, _, a2, b2, c2, rs2, [], hps, rfl, rfl, hg2.other _ _, q1, q2⟩, hb⟩
end Go.Proofs.Ytaibminomehppaa
namespace Go.Proofs.Ytaibminomehppaa
open Go.RowKit
open Go.RowKit
set_option maxRecDepth 100000 in
set_option maxHeartbeats 4000000 in
theorem popen_no (B Z D R nb M gf fcap : Nat) (rm fi sz : Int) (s : DS) (lv rv lp mp : Value) (w : World) (h : DP w B Z D R nb M gf fcap rm s lv rv lp mp) (h1 : fi < 0 ∨ sz < 3 ∨ (nb : Int) - sz < fi) (hnb : nb ≤ 4096) (hfi : -9223372036854775808 ≤ fi ∧ fi ≤ 9223372036854775807) (hsz : sz ≤ 9223372036854775807) :
    Calls Try.prog 11 #[.pointer (some ⟨Z, 0, none⟩), .int .i64 fi, .int .i64 sz] w fun e w' => e = .returned (.bool true) ∧ PrIs w' Z D R (.pointer none) (.pointer none) ∧ Below B w w' := by
  have HO := Lib.hid (open_no B D M nb rm s.fz fi sz s.dn s.f s.L lv w h.dk h1 (by omega) (by omega) hsz)
  have HRO := Lib.hid (fun u (h' : RD u B R gf nb fcap rm s rv) => ropen_no B R gf nb fcap rm fi sz s rv u h' (by omega) hfi hnb)
  have HD := Lib.hid h
  have z0 : w.cell? ⟨Z, 0, none⟩ = some (.pointer (some ⟨D, 0, none⟩)) := h.p.cell 0
  clear h h1 hnb hfi hsz
  go_enter Try.func11, Try.ntmps11
  go_wp2_with fail
  refine (HO.out).mono ?_
  rintro e w1 ⟨rfl, hb⟩
  have X1 := Lib.hid hb
  have hz1 := HD.out.p.fresh hb
  have z1 : w1.cell? ⟨Z, 1, none⟩ = some (.pointer (some ⟨R, 0, none⟩)) := hz1.cell 1
  have PZ1 := Lib.hid hz1
  have HR1 := Lib.hid (HD.out.rd.fresh hb)
  have z2 : w1.cell? ⟨Z, 2, none⟩ = some lp := hz1.cell 2
  have z3 : w1.cell? ⟨Z, 3, none⟩ = some mp := hz1.cell 3
  have f2 := hz1.frozen 2
  have f3 := hz1.frozen 3
  clear z0 hb hz1
  go_wp2_with fail
  refine (HRO.out w1 HR1.out).mono ?_
  rintro e w2 ⟨rfl, rfl⟩
  go_wp2_with fail
  have hc : Chg (fun k => k = Z) w1 ((w1.setCell ⟨Z, 2, none⟩ (.pointer none)).setCell ⟨Z, 3, none⟩ (.pointer none)) := Chg.setCell (F := fun k => k = Z) (Chg.setCell (F := fun k => k = Z) (Chg.refl (fun k => k = Z) w1) ⟨Z, 2, none⟩ _ (.inl rfl)) ⟨Z, 3, none⟩ _ (.inl rfl)
  have hz3 : PrIs ((w1.setCell ⟨Z, 2, none⟩ (.pointer none)).setCell ⟨Z, 3, none⟩ (.pointer none)) Z D R (.pointer none) (.pointer none) := heap_setCell_same _ Z 3 _ _ _ (heap_setCell_same _ Z 2 _ _ _ PZ1.out)
  generalize (w1.setCell ⟨Z, 2, none⟩ (.pointer none)).setCell ⟨Z, 3, none⟩ (.pointer none) = w3 at *
  have BW3 := Lib.hid (show Below B w w3 from (X1.out.mono (by have := HD.out.p.lt; have := HD.out.base; omega)).trans (hc.below (fun k e => by have := HD.out.base; omega) (by have := HD.out.p.lt; have := HD.out.base; have := X1.out.size; omega)))
  have HZ3 := Lib.hid hz3
  clear z1 z2 z3 f2 f3 hc hz3
  refine (rsame_any (.slice none 0 0) (.slice none 0 0) [] [] w3 (Recs.nil w3 0 0).pss (Recs.nil w3 0 0).pss (fun p hp => by cases hp) (fun p hp => by cases hp) (by decide)).mono ?_
  rintro e w4 ⟨rfl, hb⟩
  rw [decide_eq_true rfl]
  have X4 := Lib.hid hb
  clear hb
  go_wp2_with fail
  go_ret
  exact ⟨rfl, HZ3.out.fresh X4.out, BW3.out.trans (X4.out.mono (by have := HZ3.out.lt; have := HD.out.base; omega))⟩
theorem good_format {nb rm fz : Int} {f : Int → List Int} {fi sz : Int} (hr : ∀ n, Rng (f n)) (hl : ∀ n, (f n).length = 256) (h1 : 0 ≤ fi) (h2 : 3 ≤ sz) (h3 : fi ≤ nb - sz) (h4 : nb ≤ 4096) : Good nb rm fz (fputs f (fw fi)) fi sz 1 1 0 [] [] := by
  have hfw : ∀ x ∈ fw fi, Rng x.2 ∧ x.2.length = 256 := fun x hx => by
    rw [fw, List.mem_cons, List.mem_singleton] at hx
    rcases hx with rfl | rfl
    · exact ⟨mb_rng _ _ _, mb_len _ _ _⟩
    · exact ⟨zeros_rng _, by rw [zeros, List.length_replicate]⟩
  exact { mkf := mk_format f fi, clean := .inl (by rw [(format_exact f fi).2, nAt_mb 0 0 0 5 0 rfl (by decide)]; omega), area := rfl, fits := (by rw [show encs ([] : List (List Int)) = [] from rfl, List.length_nil]; omega), rng := fputs_rng _ _ hr (fun x hx => (hfw x hx).1), fl := fputs_len _ _ hl (fun x hx => (hfw x hx).2), rrs := (fun r hr => by cases hr), rpe := (fun r hr => by cases hr), h1 := h1, h2 := h2, h3 := h3, h4 := h4, ha := by decide, hb := by decide }
/-- both disks Format -/
theorem format_both {nb : Nat} {fi sz : Int} (h1 : 0 ≤ fi) (h2 : 3 ≤ sz) (h3 : fi ≤ nb - sz) : (DS.wsy nb nb ⟨-1, false, fun _ => zeros 256, []⟩ (fw fi)) = (⟨-1, false, fputs (fun _ => zeros 256) (fw fi), []⟩, 0) := by
  obtain ⟨g1, g2⟩ := wsy_calm (nb := nb) (rm := nb) (fw fi) (s := ⟨-1, false, fun _ => zeros 256, []⟩) ⟨rfl, rfl⟩ (fun x hx => by
    rw [fw, List.mem_cons, List.mem_singleton] at hx
    rcases hx with rfl | rfl
    · show 0 ≤ fi + 1 ∧ fi + 1 < nb ∧ fi + 1 < nb; omega
    · show 0 ≤ fi ∧ fi < nb ∧ fi < nb; omega)
  exact Prod.ext g2 g1
end Go.Proofs.Ytaibminomehppaa
