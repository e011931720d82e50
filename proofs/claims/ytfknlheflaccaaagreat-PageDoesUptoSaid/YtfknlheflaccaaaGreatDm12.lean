import Derived.Test.YtfknlheflaccaaaGreatDm11
namespace Go.Proofs.YtfknlheflaccaaaGreat
open Go.RowKit
theorem ws_ok (nb rm : Int) : ∀ (l : List (Int × List Int)) (s : DS), (s.ws nb rm l).2 = 0 → (s.ws nb rm l).1.f = fputs s.f l
 | [], _, _ => rfl
 | y :: r, s, h => by
  unfold DS.ws at h ⊢
  by_cases he : s.we nb rm y.1 = 0
  ·rw [if_pos he] at h ⊢
   rw [ws_ok nb rm r _ h]
   show fputs (s.wr nb rm y.1 y.2).f r = fputs (fput s.f y.1 y.2) r
   rw [show (s.wr nb rm y.1 y.2).f = fput s.f y.1 y.2 from if_pos he]
  ·rw [if_neg he] at h
   exact absurd h he
theorem wsy_ok {nb rm : Int} {l : List (Int × List Int)} {s : DS} (h : (s.wsy nb rm l).2 = 0) : (s.wsy nb rm l).1.f = fputs s.f l ∧ (s.wsy nb rm l).1.L = [] ∧ (s.wsy nb rm l).1.dn = false := by
 unfold DS.wsy at h ⊢
 by_cases he : (s.ws nb rm l).2 = 0
 ·rw [if_pos he] at h ⊢
  have hok : opOk (s.ws nb rm l).1.fz (s.ws nb rm l).1.dn = true := by
   dsimp only at h
   unfold DS.se at h
   by_cases ho : opOk (s.ws nb rm l).1.fz (s.ws nb rm l).1.dn = true
   ·exact ho
   ·rw [if_neg ho] at h; exact absurd h (by decide)
  refine ⟨ws_ok nb rm l s he, ?_, ?_⟩
  ·unfold DS.sy; simp only [hok, if_true]
  ·show opDn _ _ = false
   have : opDn (s.ws nb rm l).1.fz (s.ws nb rm l).1.dn = !opOk (s.ws nb rm l).1.fz (s.ws nb rm l).1.dn := by simp [opDn, opOk]
   rw [this, hok]; rfl
 ·rw [if_neg he] at h
  exact absurd h he
theorem wsy_bad {nb rm : Int} {l : List (Int × List Int)} {s : DS} (h : (s.wsy nb rm l).2 ≠ 0) : (s.wsy nb rm l).1.f = (s.ws nb rm l).1.f ∧ (s.wsy nb rm l).1.L = (s.ws nb rm l).1.L := by
 unfold DS.wsy at h ⊢
 by_cases he : (s.ws nb rm l).2 = 0
 ·rw [if_pos he] at h ⊢
  have hok : ¬ opOk (s.ws nb rm l).1.fz (s.ws nb rm l).1.dn = true := fun ho => h (by dsimp only; unfold DS.se; rw [if_pos ho])
  refine ⟨rfl, ?_⟩
  unfold DS.sy; simp only [if_neg hok]
 ·rw [if_neg he]
  exact ⟨rfl, rfl⟩
/-- the first block's head stays -/
theorem wl_head {n : Int} {l0 al : List Int} {ins : Nat} : ∀ {k : Nat} {x : Int × List Int}, x ∈ wl n (l0 ++ al) k → x.1 = n → l0.length = ins → ins ≤ 256 → x.2.take ins = l0
 | 0, x, h, _, _, _ => by cases h
 | k + 1, x, h, hn, hl, hi => by
  rcases List.mem_cons.1 h with h | h
  ·subst h
   have hk : k = 0 := by
    have : n + (k : Int) = n := hn
    omega
   subst hk
   show (padB ((l0 ++ al).drop (256 * 0))).take ins = l0
   rw [Nat.mul_zero, List.drop_zero, padB, List.take_append_of_le_length (by rw [List.length_take, List.length_append]; omega), List.take_take, Nat.min_eq_left hi, List.take_append_of_le_length (by omega), List.take_of_length_le (by omega)]
  ·exact wl_head h hn hl hi
/-- A CRASH AMONG THE WRITES OF THE RECORDS: the marks and the area's bytes are as before, whichever writes survive, the last one torn -/
theorem crash_area {nb rm fi : Int} {s : DS} {c : Nat} {al : List Int} (hL : s.L = []) (hf : ∀ n, (s.f n).length = 256) (hbad : (s.wsy nb rm (aw fi s c al)).2 ≠ 0) (ks : List Bool) (t : Int) (hgl : ∀ n, (upF (s.wsy nb rm (aw fi s c al)).1.f (s.wsy nb rm (aw fi s c al)).1.L ks t n).length = 256) :
  (∀ n, n < fi + 2 → upF (s.wsy nb rm (aw fi s c al)).1.f (s.wsy nb rm (aw fi s c al)).1.L ks t n = s.f n) ∧ areaB (upF (s.wsy nb rm (aw fi s c al)).1.f (s.wsy nb rm (aw fi s c al)).1.L ks t) (fi + 2) c = areaB s.f (fi + 2) c := by
 obtain ⟨e1, e2⟩ := wsy_bad hbad
 obtain ⟨u1, u2⟩ := ws_undo nb rm (aw fi s c al) s
 rw [hL] at u1 u2
 have hund : undoF (s.ws nb rm (aw fi s c al)).1.f (s.ws nb rm (aw fi s c al)).1.L = s.f := u1
 rw [e1, e2] at hgl ⊢
 have hcd : c = 256 * (c / 256) + c % 256 := (Nat.div_add_mod _ _).symm
 have hlt : c % 256 < 256 := Nat.mod_lt _ (by decide)
 obtain ⟨q, hq⟩ : ∃ q, c / 256 = q := ⟨_, rfl⟩
 obtain ⟨ins, hins⟩ : ∃ ins, c % 256 = ins := ⟨_, rfl⟩
 have haw : aw fi s c al = wl (fi + (2 + (q : Int))) ((s.f (fi + (2 + (q : Int)))).take ins ++ al) ((ins + al.length - 1) / 256 + 1) := by unfold aw; rw [hq, hins]
 rw [hq, hins] at hcd
 rw [hins] at hlt
 have hll : ((s.f (fi + (2 + (q : Int)))).take ins).length = ins := by rw [List.length_take, hf]; omega
 have key := upF_every (f := (s.ws nb rm (aw fi s c al)).1.f) (L := (s.ws nb rm (aw fi s c al)).1.L) (t := t)
  (S := fun n b => b.length = 256 ∧ (n < fi + (2 + (q : Int)) → b = s.f n) ∧ (n = fi + (2 + (q : Int)) → b.take ins = (s.f n).take ins))
  (fun n => by rw [hund]; exact ⟨hf n, fun _ => rfl, fun _ => rfl⟩)
  (fun x hx => by
   rcases u2 x hx with h | ⟨y, hy, h1, h2⟩
   ·cases h
   ·rw [haw] at hy
    rw [h1, h2]
    exact ⟨wl_len hy, fun h => by have := wl_mem hy; omega, fun h => (wl_head hy h hll (by omega)).trans (by rw [h])⟩)
  (fun x hx b hb => by
   rcases u2 x hx with h | ⟨y, hy, h1, h2⟩
   ·cases h
   ·rw [haw] at hy
    rw [h1] at hb ⊢
    rw [h2]
    obtain ⟨hb1, hb2, hb3⟩ := hb
    have hyl : y.2.length = 256 := wl_len hy
    refine ⟨?_, fun h => by have := wl_mem hy; omega, fun h => ?_⟩
    ·unfold tearL
     split
     ·exact hyl
     ·rw [List.length_append, List.length_take, List.length_drop]; omega
    ·have hh := wl_head hy h hll (by omega)
     rw [take_tear b y.2 t ins (by rw [hb3 h, hh, h]) (by omega)]
     exact hb3 h)
  ks
 refine ⟨fun n hn => (key n).2.1 (by omega), ?_⟩
 obtain ⟨g, hg⟩ : ∃ g, upF (s.ws nb rm (aw fi s c al)).1.f (s.ws nb rm (aw fi s c al)).1.L ks t = g := ⟨_, rfl⟩
 rw [hg] at key hgl ⊢
 rw [← areaB_eq g (fi + 2) hgl (q + 1) c (by omega), ← areaB_eq s.f (fi + 2) hf (q + 1) c (by omega), arB, arB, List.take_append, List.take_append, arB_len g _ hgl, arB_len s.f _ hf, arB_same g s.f (fi + 2) q (fun i hi => (key _).2.1 (by omega))]
 congr 1
 rw [show c - 256 * q = ins by omega, show fi + 2 + (q : Int) = fi + (2 + (q : Int)) by omega]
 exact (key _).2.2 rfl
theorem areaB_take (f : Int → List Int) (b : Int) (hf : ∀ n, (f n).length = 256) (k m : Nat) (h : k ≤ m) : (areaB f b m).take k = areaB f b k := by
 unfold areaB
 rw [List.take_take, Nat.min_eq_left h]
 exact areaB_eq f b hf m k (by omega)
end Go.Proofs.YtfknlheflaccaaaGreat
namespace Go.Proofs.YtfknlheflaccaaaGreat
open Go.RowKit
theorem wErr_in {nb rm fz n : Int} {dn : Bool} (h0 : 0 ≤ n) (h1 : n < nb) (h2 : n < rm) : wErr nb rm fz n dn = if opOk fz dn = true then 0 else 44 := by
 unfold wErr
 split
 ·rw [if_pos (by simp [hasB]; omega), if_neg (by omega)]
 ·rfl
theorem opDn_not (fz : Int) (dn : Bool) (h : ¬ opOk fz dn = true) : opDn fz dn = true := by
 have : opDn fz dn = !opOk fz dn := by simp [opDn, opOk]
 rw [this]
 cases hh : opOk fz dn
 ·rfl
 ·exact absurd hh h
theorem ws_down (nb rm : Int) : ∀ (l : List (Int × List Int)) (s : DS), (∀ x ∈ l, 0 ≤ x.1 ∧ x.1 < nb ∧ x.1 < rm) → (s.ws nb rm l).2 ≠ 0 → (s.ws nb rm l).1.dn = true
 | [], s, _, h => absurd rfl h
 | y :: r, s, hx, h => by
  obtain ⟨h0, h1, h2⟩ := hx y (List.mem_cons_self ..)
  unfold DS.ws at h ⊢
  by_cases he : s.we nb rm y.1 = 0
  ·rw [if_pos he] at h ⊢
   exact ws_down nb rm r _ (fun z hz => hx z (List.mem_cons_of_mem _ hz)) h
  ·rw [if_neg he]
   show opDn s.fz s.dn = true
   apply opDn_not
   intro ho
   exact he (by unfold DS.we; rw [wErr_in h0 h1 h2, if_pos ho])
theorem wsy_down {nb rm : Int} {l : List (Int × List Int)} {s : DS} (hx : ∀ x ∈ l, 0 ≤ x.1 ∧ x.1 < nb ∧ x.1 < rm) (h : (s.wsy nb rm l).2 ≠ 0) : (s.wsy nb rm l).1.dn = true := by
 unfold DS.wsy at h ⊢
 by_cases he : (s.ws nb rm l).2 = 0
 ·rw [if_pos he] at h ⊢
  show opDn _ _ = true
  apply opDn_not
  intro ho
  exact h (by dsimp only; unfold DS.se; rw [if_pos ho])
 ·rw [if_neg he]
  exact ws_down nb rm l s hx he
theorem tear_rng {b a : List Int} {t : Int} (hb : Rng b) (ha : Rng a) : Rng (tearL b a t) := by
 unfold tearL
 split
 ·exact ha
 ·exact rng_append (ha.take _) (hb.drop _)
theorem up_rng {nb rm : Int} {l : List (Int × List Int)} {s : DS} (hL : s.L = []) (hr : ∀ n, Rng (s.f n)) (hl : ∀ y ∈ l, Rng y.2) (h : (s.wsy nb rm l).2 ≠ 0) (ks : List Bool) (t : Int) (n : Int) : Rng (upF (s.wsy nb rm l).1.f (s.wsy nb rm l).1.L ks t n) := by
 obtain ⟨e1, e2⟩ := wsy_bad h
 obtain ⟨u1, u2⟩ := ws_undo nb rm l s
 rw [hL] at u1 u2
 rw [e1, e2]
 refine upF_every (S := fun _ b => Rng b) (fun n => by rw [u1]; exact hr n) (fun x hx => ?_) (fun x hx b hb => ?_) ks n
 ·rcases u2 x hx with h | ⟨y, hy, _, h2⟩
  ·cases h
  ·rw [h2]; exact hl y hy
 ·rcases u2 x hx with h | ⟨y, hy, _, h2⟩
  ·cases h
  ·rw [h2]; exact tear_rng hb (hl y hy)
/-- a log on a disk that may fail, and has not yet -/
structure LgF (w : World) (B D M : Nat) (nb fz : Int) (f : Int → List Int) (lv : Value) (P : Nat) (fi sz : Int) (a b c : Nat) (rs : List (List Int)) (av : Value) (pe : List (List Int)) : Prop where
 dk : Dk w B D M nb nb fz false f [] lv
 box : LgIs w P D fi sz a b c av
 own : Own w B av (encs pe)
 nf : ¬ Foot D M lv P
 ne : av.ownBlock ≠ some P
 af : ∀ g, av.ownBlock = some g → ¬ Foot D M lv g
 base : B ≤ P
 mkf : Mk f fi a b c
 ex : f (fi + (a % 2 : Nat)) = mb a b c
 clean : ∃ x y z, f (fi + ((a + 1) % 2 : Nat)) = mb x y z ∧ x < a
 area : areaB f (fi + 2) c = encs rs
 fits : ((c + (encs pe).length : Nat) : Int) ≤ (sz - 2) * 256
 rng : ∀ n, Rng (f n)
 rrs : ∀ r ∈ rs, Rng r
 rpe : ∀ r ∈ pe, Rng r
 h1 : 0 ≤ fi
 h2 : 3 ≤ sz
 h3 : fi ≤ nb - sz
 h4 : nb ≤ 4096
 ha : a < 1099511627776
 hb : b < 1099511627776
section
variable {w w' : World} {B D M : Nat} {nb fz : Int} {f : Int → List Int} {lv : Value} {P : Nat} {fi sz : Int} {a b c : Nat} {rs : List (List Int)} {av : Value} {pe : List (List Int)}
theorem LgF.lt (h : LgF w B D M nb fz f lv P fi sz a b c rs av pe) : ∀ k, LFoot D M lv P av k → B ≤ k ∧ k < w.heap.size := by
 intro k hk
 rcases hk with hk | rfl | hk
 ·exact h.dk.foot k hk
 ·exact ⟨h.base, h.box.lt⟩
 ·exact h.own.lt k hk
theorem LgF.chg (h : LgF w B D M nb fz f lv P fi sz a b c rs av pe) {F : Nat → Prop} (hc : Chg F w w') (hF : ∀ k, LFoot D M lv P av k → ¬ F k) : LgF w' B D M nb fz f lv P fi sz a b c rs av pe :=
 { h with dk := h.dk.chg hc (fun k hk => hF k (.inl hk)), box := h.box.chg hc (hF P (.inr (.inl rfl))), own := h.own.chg hc (fun g hg => hF g (.inr (.inr hg))) }
end
end Go.Proofs.YtfknlheflaccaaaGreat
namespace Go.Proofs.YtfknlheflaccaaaGreat
open Go.RowKit
theorem encs_ge : ∀ (rs : List (List Int)), 8 * rs.length ≤ (encs rs).length
  | [] => Nat.le_refl _
  | r :: rs => by
    have := encs_ge rs
    rw [encs_cons]
    simp [be8_len]
    omega
theorem OwnPs.base {T E : TypeId} {w : World} {B B' : Nat} {v : Value} {ps : List (List Int)} (h : OwnPs T E w B' v ps) (hB : B ≤ B') : OwnPs T E w B v ps := by
 obtain ⟨xs, h1, h2⟩ := h
 exact ⟨xs, own_base' h1 hB, fun i hi => by
  obtain ⟨x, hx, ho, hn⟩ := h2 i hi
  exact ⟨x, hx, own_base' ho hB, hn⟩⟩
theorem BsI.under {w w' : World} {B : Nat} {v : Value} {l : List Int} (h : BsI w 0 B v l) (hb : Below B w w') : BsI w' 0 B v l :=
 ⟨h.1.chg (F := fun k => B ≤ k) ⟨hb.os, hb.tape, hb.output, hb.size, fun k _ hn => hb.block k (by omega)⟩ (fun ad n c e h0 => by have := (h.2 ad n c e h0).2; omega), h.2⟩
end Go.Proofs.YtfknlheflaccaaaGreat
namespace Go.Proofs.YtfknlheflaccaaaGreat
open Go.RowKit
theorem upF_nil (f : Int → List Int) (ks : List Bool) (t : Int) : upF f [] ks t = f := by
 unfold upF
 rw [show survL [] ks = [] by cases ks <;> rfl]
 rfl
/-- the other mark's block: whatever is torn into it next, it is no later mark than the next one -/
def Cl (o : List Int) (a : Nat) : Prop := nAt o 5 ≤ a ∨ (nAt o 0 = a + 1 ∧ nAt o 5 ≠ a + 1)
theorem mb_take8 (a b c : Nat) : (mb a b c).take 8 = be8 a := by
 unfold mb mnums
 rw [List.flatMap_cons, List.append_assoc, List.take_left' (be8_len _)]
theorem Mk.torn2 {f : Int → List Int} {fi : Int} {a b c : Nat} (h : Mk f fi a b c) (b' c' : Nat) (t : Int) (o : List Int) (hol : o.length = 256) (hor : Rng o) (hcl : Cl o a) (ha : a + 1 < 18446744073709551616) (hb : b' < 18446744073709551616) (hc : c' < 18446744073709551616) :
  (Mk (fput f (fi + ((a + 1) % 2 : Nat)) (tearL o (mb (a + 1) b' c') t)) fi a b c ∧ Cl (tearL o (mb (a + 1) b' c') t) a) ∨ Mk (fput f (fi + ((a + 1) % 2 : Nat)) (tearL o (mb (a + 1) b' c') t)) fi (a + 1) b' c' := by
 have e1 : (a + 1 + 1) % 2 = a % 2 := by omega
 have hne : fi + ((a % 2 : Nat) : Int) ≠ fi + (((a + 1) % 2 : Nat) : Int) := by omega
 have hmt := take_tear o (mb (a + 1) b' c') t 8
 obtain ⟨o', hoe⟩ : ∃ o', tearL o (mb (a + 1) b' c') t = o' := ⟨_, rfl⟩
 rw [hoe] at hmt ⊢
 have hkeep : ¬ (okB o' = true ∧ nAt o' 0 % 2 = (a + 1) % 2 ∧ a < nAt o' 0) → Mk (fput f (fi + ((a + 1) % 2 : Nat)) o') fi a b c := fun hn => by
  refine ⟨?_, h.2.1, ?_⟩
  ·rw [fput_ne _ _ _ _ hne]; exact h.1
  ·rw [fput_at]; exact hn
 have hnew : okB o' = true → nAt o' 0 = a + 1 → nAt o' 1 = b' → nAt o' 2 = c' → Mk (fput f (fi + ((a + 1) % 2 : Nat)) o') fi (a + 1) b' c' := fun h1 h2 h3 h4 => by
  refine ⟨by rw [fput_at]; exact ⟨h1, h2, h3, h4⟩, by omega, ?_⟩
  rw [e1, fput_ne _ _ _ _ hne, h.1.2.1]
  omega
 have h05 : okB o' = true → nAt o' 0 = nAt o' 5 := fun hok => (of_decide_eq_true hok).1
 by_cases ht : 0 ≤ t ∧ t ≤ 40
 ·have h5 : nAt o' 5 = nAt o 5 := by
   rw [← hoe, tearL, if_neg (by omega), nAt_back _ _ _ _ (by omega) (by rw [mb_len]; omega)]
  left
  rcases hcl with h6 | ⟨h6, h7⟩
  ·exact ⟨hkeep (fun hh => by have := h05 hh.1; omega), .inl (by omega)⟩
  ·have h8 : o.take 8 = (mb (a + 1) b' c').take 8 := by
    rw [mb_take8, ← h6]
    unfold nAt
    rw [Nat.mul_zero, List.drop_zero, be8_beI (by rw [List.length_take]; omega) (hor.take _)]
   have h9 : nAt o' 0 = a + 1 := by
    rw [← h6]
    unfold nAt
    rw [Nat.mul_zero, List.drop_zero, List.drop_zero, hmt h8 (by rw [mb_len, hol])]
   exact ⟨hkeep (fun hh => by have := h05 hh.1; omega), .inr ⟨h9, by omega⟩⟩
 ·have hfr : ∀ j, j < 5 → nAt o' j = nAt (mb (a + 1) b' c') j := fun j hj => by
   rw [← hoe, tearL]
   split
   ·rfl
   ·exact nAt_front _ _ _ _ (by omega) (by rw [mb_len]; omega)
  have n0 : nAt o' 0 = a + 1 := by rw [hfr 0 (by decide)]; exact nAt_mb _ _ _ 0 _ rfl ha
  have n1 : nAt o' 1 = b' := by rw [hfr 1 (by decide)]; exact nAt_mb _ _ _ 1 _ rfl hb
  have n2 : nAt o' 2 = c' := by rw [hfr 2 (by decide)]; exact nAt_mb _ _ _ 2 _ rfl hc
  have n3 : nAt o' 3 = c' := by rw [hfr 3 (by decide)]; exact nAt_mb _ _ _ 3 _ rfl hc
  have n4 : nAt o' 4 = b' := by rw [hfr 4 (by decide)]; exact nAt_mb _ _ _ 4 _ rfl hb
  by_cases h5 : nAt o' 5 = a + 1
  ·right
   exact hnew (decide_eq_true ⟨by rw [n0, h5], by rw [n1, n4], by rw [n2, n3]⟩) n0 n1 n2
  ·left
   exact ⟨hkeep (fun hh => h5 (by rw [← h05 hh.1, n0])), .inr ⟨n0, h5⟩⟩
/-- what comes up behind a crash: the log as it was, or as it was to be; what can come next is known -/
def Up3 (g : Int → List Int) (fi : Int) (a b c : Nat) (rs : List (List Int)) (b' c' : Nat) (rs' : List (List Int)) : Prop :=
 (Mk g fi a b c ∧ Cl (g (fi + ((a + 1) % 2 : Nat))) a ∧ areaB g (fi + 2) c = encs rs) ∨ (Mk g fi (a + 1) b' c' ∧ Cl (g (fi + ((a + 1 + 1) % 2 : Nat))) (a + 1) ∧ areaB g (fi + 2) c' = encs rs')
theorem Mk.five {f : Int → List Int} {fi : Int} {a b c : Nat} (h : Mk f fi a b c) : nAt (f (fi + (a % 2 : Nat))) 5 = a := by
 rw [← (of_decide_eq_true h.1.1).1]
 exact h.1.2.1
theorem crash_mark3 {nb rm fi : Int} {s : DS} {a b c b' c' : Nat} {rs rs' : List (List Int)} (hL : s.L = []) (hmk : Mk s.f fi a b c) (hcl : Cl (s.f (fi + ((a + 1) % 2 : Nat))) a) (hfl : ∀ n, (s.f n).length = 256) (hfr : ∀ n, Rng (s.f n)) (ha : a + 1 < 18446744073709551616) (hb : b' < 18446744073709551616) (hc : c' < 18446744073709551616)
  (hA : areaB s.f (fi + 2) c = encs rs) (hA' : areaB s.f (fi + 2) c' = encs rs') (hbad : (s.wsy nb rm (mw fi (a + 1) b' c')).2 ≠ 0) (ks : List Bool) (t : Int) : Up3 (upF (s.wsy nb rm (mw fi (a + 1) b' c')).1.f (s.wsy nb rm (mw fi (a + 1) b' c')).1.L ks t) fi a b c rs b' c' rs' := by
 obtain ⟨e1, e2⟩ := wsy_bad hbad
 rw [e1, e2]
 have hn2 : ((a + 1) % 2 : Nat) < 2 := Nat.mod_lt _ (by decide)
 have hfar : ∀ (o : List Int) (k : Nat), areaB (fput s.f (fi + ((a + 1) % 2 : Nat)) o) (fi + 2) k = areaB s.f (fi + 2) k := fun o k => by
  unfold areaB
  rw [arB_same _ s.f _ _ (fun i _ => fput_ne _ _ _ _ (by omega))]
 have hws : ((s.ws nb rm (mw fi (a + 1) b' c')).1.f = s.f ∧ (s.ws nb rm (mw fi (a + 1) b' c')).1.L = []) ∨ ((s.ws nb rm (mw fi (a + 1) b' c')).1.f = fput s.f (fi + ((a + 1) % 2 : Nat)) (mb (a + 1) b' c') ∧ (s.ws nb rm (mw fi (a + 1) b' c')).1.L = [(fi + ((a + 1) % 2 : Nat), s.f (fi + ((a + 1) % 2 : Nat)), mb (a + 1) b' c')]) := by
  unfold mw DS.ws
  by_cases h : s.we nb rm (fi + ((a + 1) % 2 : Nat)) = 0
  ·right
   simp only [if_pos h, DS.ws]
   refine ⟨if_pos h, ?_⟩
   show (if _ = 0 then _ else _) = _
   rw [if_pos h, hL, List.nil_append]
  ·left
   simp only [if_neg h]
   refine ⟨if_neg h, ?_⟩
   show (if _ = 0 then _ else _) = _
   rw [if_neg h, hL]
 rcases hws with ⟨w1, w2⟩ | ⟨w1, w2⟩
 ·rw [w1, w2, upF_nil]
  exact .inl ⟨hmk, hcl, hA⟩
 ·rw [w1, w2]
  rcases upF_one s.f (fi + ((a + 1) % 2 : Nat)) (mb (a + 1) b' c') ks t with h | h
  ·rw [h]; exact .inl ⟨hmk, hcl, hA⟩
  ·rw [h]
   rcases hmk.torn2 b' c' t _ (hfl _) (hfr _) hcl ha hb hc with ⟨h1, h2⟩ | h1
   ·exact .inl ⟨h1, by rw [fput_at]; exact h2, by rw [hfar]; exact hA⟩
   ·refine .inr ⟨h1, .inl ?_, by rw [hfar]; exact hA'⟩
    rw [show (a + 1 + 1) % 2 = a % 2 by omega, fput_ne _ _ _ _ (by omega), hmk.five]
    omega
theorem crash_sync3 {nb rm fi : Int} {s : DS} {a b c : Nat} {rs pe : List (List Int)} (hL : s.L = []) (hf : ∀ n, (s.f n).length = 256) (hmk : Mk s.f fi a b c) (hcl : Cl (s.f (fi + ((a + 1) % 2 : Nat))) a) (hfr1 : ∀ n, Rng ((s.wsy nb rm (aw fi s c (encs pe))).1.f n)) (ha : a + 1 < 18446744073709551616) (hb : b < 18446744073709551616) (hc : c + (encs pe).length < 18446744073709551616)
  (hA : areaB s.f (fi + 2) c = encs rs) (h0 : 0 < (encs pe).length) (ks : List Bool) (t : Int) (hw : WOK (s.wsy nb rm (aw fi s c (encs pe))).1.L) (hfl : ∀ n, ((s.wsy nb rm (aw fi s c (encs pe))).1.f n).length = 256) :
  ((s.wsy nb rm (aw fi s c (encs pe))).2 ≠ 0 → Up3 (upF (s.wsy nb rm (aw fi s c (encs pe))).1.f (s.wsy nb rm (aw fi s c (encs pe))).1.L ks t) fi a b c rs b (c + (encs pe).length) (rs ++ pe)) ∧
  ((s.wsy nb rm (aw fi s c (encs pe))).2 = 0 → ((s.wsy nb rm (aw fi s c (encs pe))).1.wsy nb rm (mw fi (a + 1) b (c + (encs pe).length))).2 ≠ 0 → Up3 (upF ((s.wsy nb rm (aw fi s c (encs pe))).1.wsy nb rm (mw fi (a + 1) b (c + (encs pe).length))).1.f ((s.wsy nb rm (aw fi s c (encs pe))).1.wsy nb rm (mw fi (a + 1) b (c + (encs pe).length))).1.L ks t) fi a b c rs b (c + (encs pe).length) (rs ++ pe)) := by
 refine ⟨fun h => ?_, fun h h' => ?_⟩
 ·have hgl : ∀ n, (upF (s.wsy nb rm (aw fi s c (encs pe))).1.f (s.wsy nb rm (aw fi s c (encs pe))).1.L ks t n).length = 256 := fun n => redoF_len (undoF_len hfl _ hw) _ (fun y hy => hw y (survL_memL _ _ _ hy)) _ _ n
  obtain ⟨k1, k2⟩ := crash_area (nb := nb) (rm := rm) hL hf h ks t hgl
  have hn2 : ((a + 1) % 2 : Nat) < 2 := Nat.mod_lt _ (by decide)
  exact .inl ⟨hmk.away (k1 _ (by omega)) (k1 _ (by omega)), by rw [k1 _ (by omega)]; exact hcl, by rw [k2]; exact hA⟩
 ·obtain ⟨g1, g2, _⟩ := wsy_ok h
  generalize hs1 : (s.wsy nb rm (aw fi s c (encs pe))).1 = s1 at *
  have hfar : ∀ n, n < fi + 2 → s1.f n = s.f n := fun n hn => by
   rw [g1]
   exact fputs_far _ _ _ (fun y hy => by unfold aw at hy; have := wl_mem hy; omega)
  have har : areaB s1.f (fi + 2) (c + (encs pe).length) = areaB s.f (fi + 2) c ++ encs pe := area_sync s.f (fi + 2) c (encs pe) hf h0 s1.f (by rw [g1]; unfold aw; rw [show fi + (2 + ((c / 256 : Nat) : Int)) = fi + 2 + ((c / 256 : Nat) : Int) by omega]) hfl
  have harc : areaB s1.f (fi + 2) c = encs rs := by
   rw [← areaB_take s1.f (fi + 2) hfl c (c + (encs pe).length) (by omega), har, List.take_left' (areaB_len _ _ hf _)]
   exact hA
  have hn2 : ((a + 1) % 2 : Nat) < 2 := Nat.mod_lt _ (by decide)
  exact crash_mark3 g2 (hmk.away (hfar _ (by omega)) (hfar _ (by omega))) (by rw [hfar _ (by omega)]; exact hcl) hfl hfr1 ha hb hc harc (by rw [har, hA, encs_append]) h' ks t
/-- what is so of a log on a disk that has not failed: plain -/
structure Good (nb rm fz : Int) (f : Int → List Int) (fi sz : Int) (a b c : Nat) (rs pe : List (List Int)) : Prop where
 mkf : Mk f fi a b c
 clean : Cl (f (fi + ((a + 1) % 2 : Nat))) a
 area : areaB f (fi + 2) c = encs rs
 fits : ((c + (encs pe).length : Nat) : Int) ≤ (sz - 2) * 256
 rng : ∀ n, Rng (f n)
 fl : ∀ n, (f n).length = 256
 rrs : ∀ r ∈ rs, Rng r
 rpe : ∀ r ∈ pe, Rng r
 h1 : 0 ≤ fi
 h2 : 3 ≤ sz
 h3 : fi ≤ nb - sz
 h4 : nb ≤ 4096
 ha : a < 1099511627776
 hb : b < 1099511627776
section
variable {nb rm fz : Int} {f : Int → List Int} {fi sz : Int} {a b c : Nat} {rs pe : List (List Int)}
theorem Good.small (h : Good nb rm fz f fi sz a b c rs pe) : c ≤ 1048576 ∧ (encs pe).length ≤ 1048576 ∧ c + (encs pe).length ≤ 1048576 := by
  have := h.fits; have := h.h1; have := h.h2; have := h.h3; have := h.h4; omega
theorem Good.clen (h : Good nb rm fz f fi sz a b c rs pe) : (encs rs).length = c := by rw [← h.area]; exact areaB_len _ _ h.fl c
theorem Good.drop (h : Good nb rm fz f fi sz a b c rs pe) : Good nb rm fz f fi sz a b c rs [] :=
 { h with fits := (by rw [show encs ([] : List (List Int)) = [] from rfl, List.length_nil]; have := h.fits; omega), rpe := fun r hr => by cases hr }
theorem Good.other (h : Good nb rm fz f fi sz a b c rs pe) (rm' fz' : Int) : Good nb rm' fz' f fi sz a b c rs pe := { h with }
theorem Good.add (h : Good nb rm fz f fi sz a b c rs pe) (m : List Int) (hm : Rng m) (hf : fitsL sz c (encs pe).length m.length = true) : Good nb rm fz f fi sz a b c rs (pe ++ [m]) := by
 have hf2 : 8 + (m.length : Int) ≤ (sz - 2) * 256 - c - (encs pe).length := of_decide_eq_true hf
 exact { h with fits := (by rw [encs_snoc]; simp [be8_len]; omega), rpe := fun r hr' => (List.mem_append.1 hr').elim (h.rpe r) (fun e => by rw [List.mem_singleton.1 e]; exact hm) }
/-- the reference's writes are the program's -/
theorem opDn_ok (fz : Int) (dn : Bool) : opDn fz dn = !opOk fz dn := by simp [opDn, opOk]
theorem ws_44 (nb rm : Int) : ∀ (l : List (Int × List Int)) (s : DS), (∀ x ∈ l, 0 ≤ x.1 ∧ x.1 < nb ∧ x.1 < rm) → (s.ws nb rm l).2 ≠ 0 → (s.ws nb rm l).2 = 44
 | [], s, _, h => absurd rfl h
 | y :: r, s, hx, h => by
  obtain ⟨h0, h1, h2⟩ := hx y (List.mem_cons_self ..)
  unfold DS.ws at h ⊢
  by_cases he : s.we nb rm y.1 = 0
  ·rw [if_pos he] at h ⊢
   exact ws_44 nb rm r _ (fun z hz => hx z (List.mem_cons_of_mem _ hz)) h
  ·rw [if_neg he]
   show s.we nb rm y.1 = 44
   unfold DS.we at he ⊢
   rw [wErr_in h0 h1 h2] at he ⊢
   split
   ·rename_i ho; rw [if_pos ho] at he; exact absurd rfl he
   ·rfl
theorem wsy_44 {nb rm : Int} {l : List (Int × List Int)} {s : DS} (hx : ∀ x ∈ l, 0 ≤ x.1 ∧ x.1 < nb ∧ x.1 < rm) (h : (s.wsy nb rm l).2 ≠ 0) : (s.wsy nb rm l).2 = 44 := by
 unfold DS.wsy at h ⊢
 by_cases he : (s.ws nb rm l).2 = 0
 ·rw [if_pos he] at h ⊢
  dsimp only at h ⊢
  unfold DS.se at h ⊢
  split
  ·rename_i ho; rw [if_pos ho] at h; exact absurd rfl h
  ·rfl
 ·rw [if_neg he]
  exact ws_44 nb rm l s hx he
/-- a first write that finds no room -/
theorem wsy_none {nb rm : Int} (x : Int × List Int) (l : List (Int × List Int)) {s : DS} (h0 : 0 ≤ x.1) (h1 : x.1 < nb) (h2 : rm ≤ x.1) :
  (s.wsy nb rm (x :: l)).1.f = s.f ∧ (s.wsy nb rm (x :: l)).1.L = s.L ∧ (((s.wsy nb rm (x :: l)).2 = 42 ∧ (s.wsy nb rm (x :: l)).1.dn = false) ∨ ((s.wsy nb rm (x :: l)).2 = 44 ∧ (s.wsy nb rm (x :: l)).1.dn = true)) := by
 have hb : hasB nb x.1 = true := by simp [hasB]; omega
 have he : s.we nb rm x.1 = if opOk s.fz s.dn = true then 42 else 44 := by
  unfold DS.we wErr
  by_cases ho : opOk s.fz s.dn = true
  ·rw [if_pos ho, if_pos ho, if_pos hb, if_pos h2]
  ·rw [if_neg ho, if_neg ho]
 have hne : s.we nb rm x.1 ≠ 0 := by rw [he]; split <;> decide
 rw [wsy_cons, if_neg hne]
 have hf : (s.wr nb rm x.1 x.2).f = s.f := by unfold DS.wr; dsimp only; rw [if_neg hne]
 have hL : (s.wr nb rm x.1 x.2).L = s.L := by unfold DS.wr; dsimp only; rw [if_neg hne]
 refine ⟨hf, hL, ?_⟩
 show (s.we nb rm x.1 = 42 ∧ opDn s.fz s.dn = false) ∨ (s.we nb rm x.1 = 44 ∧ opDn s.fz s.dn = true)
 rw [he, opDn_ok]
 by_cases ho : opOk s.fz s.dn = true
 ·rw [if_pos ho, ho]; exact .inl ⟨rfl, rfl⟩
 ·rw [if_neg ho, Bool.eq_false_iff.2 ho]; exact .inr ⟨rfl, rfl⟩
def SyRes (nb rm fi : Int) (a b c n : Nat) (s : DS) (A : List (Int × List Int)) (sF : DS) (E : Int) (aF cF : Nat) : Prop :=
 ((s.wsy nb rm A).2 ≠ 0 ∧ sF = (s.wsy nb rm A).1 ∧ E = (s.wsy nb rm A).2 ∧ aF = a ∧ cF = c) ∨
 ((s.wsy nb rm A).2 = 0 ∧ sF = ((s.wsy nb rm A).1.wsy nb rm (mw fi (a + 1) b (c + n))).1 ∧ E = ((s.wsy nb rm A).1.wsy nb rm (mw fi (a + 1) b (c + n))).2 ∧ aF = (if E = 0 then a + 1 else a) ∧ cF = (if E = 0 then c + n else c))
/-- what comes up behind a fall -/
def Fell (sF : DS) (fi : Int) (a b c : Nat) (rs : List (List Int)) (b' c' : Nat) (rs' : List (List Int)) : Prop :=
 sF.dn = true ∧ sF.L.length ≤ 8192 ∧ ∀ ks t, Up3 (upF sF.f sF.L ks t) fi a b c rs b' c' rs' ∧ ∀ n, Rng (upF sF.f sF.L ks t n)
theorem ws_rng {nb rm : Int} : ∀ {l : List (Int × List Int)} {s : DS}, (∀ y ∈ l, Rng y.2) → (∀ n, Rng (s.f n)) → ∀ n, Rng ((s.ws nb rm l).1.f n)
 | [], _, _, h => h
 | y :: r, s, hl, h => by
  have hw : ∀ n, Rng ((s.wr nb rm y.1 y.2).f n) := fun n => by
   unfold DS.wr
   dsimp only
   split
   ·by_cases hn : n = y.1
    ·rw [hn, fput_at]; exact hl y (List.mem_cons_self ..)
    ·rw [fput_ne _ _ _ _ hn]; exact h n
   ·exact h n
  unfold DS.ws
  split
  ·exact ws_rng (fun z hz => hl z (List.mem_cons_of_mem _ hz)) hw
  ·exact hw
theorem Good.sync (h : Good nb rm fz f fi sz a b c rs pe) (hpe : pe ≠ []) (ha1 : a + 1 < 1099511627776) {sF : DS} {E : Int} {aF cF : Nat} (hr : SyRes nb rm fi a b c (encs pe).length ⟨fz, false, f, []⟩ (aw fi ⟨fz, false, f, []⟩ c (encs pe)) sF E aF cF) (hLF : sF.L.length ≤ 8192) (hWF : WOK sF.L) (hFF : ∀ n, (sF.f n).length = 256) :
    (E = 0 ∧ sF.dn = false ∧ sF.L = [] ∧ aF = a + 1 ∧ cF = c + (encs pe).length ∧ Good nb rm sF.fz sF.f fi sz (a + 1) b (c + (encs pe).length) (rs ++ pe) []) ∨
    (E = 42 ∧ sF.dn = false ∧ sF.L = [] ∧ sF.f = f ∧ aF = a ∧ cF = c) ∨
    (E = 44 ∧ Fell sF fi a b c rs b (c + (encs pe).length) (rs ++ pe)) := by
  unfold SyRes at hr
  have h1 := h.h1; have h2 := h.h2; have h3 := h.h3; have h4 := h.h4; have hb' := h.hb
  have hcl := h.clean
  have hlen : 0 < (encs pe).length := by
    obtain ⟨r, pe', rfl⟩ := List.exists_cons_of_ne_nil hpe
    rw [encs_cons]; simp [be8_len]; omega
  have hfl := h.fl
  have hfit := h.fits
  have hcd : c = 256 * (c / 256) + c % 256 := (Nat.div_add_mod _ _).symm
  have hcl2 : c % 256 < 256 := Nat.mod_lt _ (by decide)
  have hk1 : 256 * ((c % 256 + (encs pe).length - 1) / 256) ≤ c % 256 + (encs pe).length - 1 := Nat.mul_div_le _ _
  have hN : fi + (2 + ((c / 256 : Nat) : Int)) + ((((c % 256 + (encs pe).length - 1) / 256 : Nat) : Nat) : Int) < nb := by omega
  have hall : Rng ((f (fi + (2 + (c / 256 : Nat)))).take (c % 256) ++ encs pe) := rng_append ((h.rng _).take _) (encs_rng h.rpe)
  have hawr : ∀ y ∈ aw fi ⟨fz, false, f, []⟩ c (encs pe), Rng y.2 := fun y hy => by unfold aw at hy; exact wl_rng hall _ y hy
  have hawl : ∀ y ∈ aw fi ⟨fz, false, f, []⟩ c (encs pe), y.2.length = 256 := fun y hy => by unfold aw at hy; exact wl_len hy
  by_cases hrm : rm ≤ fi + (2 + ((c / 256 : Nat) : Int)) + ((((c % 256 + (encs pe).length - 1) / 256 : Nat) : Nat) : Int)
  · obtain ⟨x0, tl, haw, hx0⟩ : ∃ x0 tl, aw fi ⟨fz, false, f, []⟩ c (encs pe) = x0 :: tl ∧ x0.1 = fi + (2 + ((c / 256 : Nat) : Int)) + ((((c % 256 + (encs pe).length - 1) / 256 : Nat) : Nat) : Int) := ⟨_, _, rfl, rfl⟩
    rw [haw] at hr
    obtain ⟨g1, g2, g3⟩ := wsy_none (nb := nb) (rm := rm) x0 tl (s := ⟨fz, false, f, []⟩) (by rw [hx0]; omega) (by rw [hx0]; exact hN) (by rw [hx0]; exact hrm)
    generalize DS.wsy nb rm ⟨fz, false, f, []⟩ (x0 :: tl) = W at *
    dsimp only at g1 g2
    rcases hr with ⟨_, rfl, rfl, e3, e4⟩ | ⟨h0, _⟩
    · rcases g3 with ⟨g3, g4⟩ | ⟨g3, g4⟩
      · exact .inr (.inl ⟨g3, g4, g2, g1, e3, e4⟩)
      · refine .inr (.inr ⟨g3, g4, hLF, fun ks t => ?_⟩)
        rw [g1, g2]
        rw [upF_nil]
        exact ⟨.inl ⟨h.mkf, h.clean, h.area⟩, h.rng⟩
    · exfalso
      rcases g3 with ⟨g3, _⟩ | ⟨g3, _⟩ <;> rw [g3] at h0 <;> exact absurd h0 (by decide)
  · have hawx : ∀ y ∈ aw fi ⟨fz, false, f, []⟩ c (encs pe), fi + 2 ≤ y.1 ∧ y.1 < nb ∧ y.1 < rm := fun y hy => by
      unfold aw at hy
      have := wl_mem hy
      omega
    have hmwx : ∀ y ∈ mw fi (a + 1) b (c + (encs pe).length), 0 ≤ y.1 ∧ y.1 < nb ∧ y.1 < rm := fun y hy => by
      rw [mw, List.mem_singleton] at hy
      subst hy
      show 0 ≤ fi + (((a + 1) % 2 : Nat) : Int) ∧ fi + (((a + 1) % 2 : Nat) : Int) < nb ∧ fi + (((a + 1) % 2 : Nat) : Int) < rm
      omega
    have hmwr : ∀ y ∈ mw fi (a + 1) b (c + (encs pe).length), Rng y.2 := fun y hy => by rw [mw, List.mem_singleton] at hy; subst hy; exact mb_rng _ _ _
    have hcs := fun ks t hfr1 hw hfl' => crash_sync3 (nb := nb) (rm := rm) (fi := fi) (s := ⟨fz, false, f, []⟩) (a := a) (b := b) (c := c) (rs := rs) (pe := pe) rfl hfl h.mkf hcl hfr1 (by omega) (by omega) (by omega) h.area hlen ks t hw hfl'
    by_cases hE1 : (DS.wsy nb rm ⟨fz, false, f, []⟩ (aw fi ⟨fz, false, f, []⟩ c (encs pe))).2 = 0
    · obtain ⟨k1, k2, k3⟩ := wsy_ok hE1
      have hw1 : WOK (DS.wsy nb rm ⟨fz, false, f, []⟩ (aw fi ⟨fz, false, f, []⟩ c (encs pe))).1.L := by rw [k2]; intro x hx; cases hx
      have hl1 : ∀ n, ((DS.wsy nb rm ⟨fz, false, f, []⟩ (aw fi ⟨fz, false, f, []⟩ c (encs pe))).1.f n).length = 256 := fun n => by rw [k1]; exact fputs_len _ _ hfl hawl n
      have hr1 : ∀ n, Rng ((DS.wsy nb rm ⟨fz, false, f, []⟩ (aw fi ⟨fz, false, f, []⟩ c (encs pe))).1.f n) := fun n => by rw [k1]; exact fputs_rng _ _ h.rng hawr n
      have hcs2 := fun ks t => (hcs ks t hr1 hw1 hl1).2 hE1
      rcases hr with ⟨hne, _⟩ | ⟨_, e1, e2, e3, e5⟩
      · exact absurd hE1 hne
      · have hfar : ∀ n, n < fi + 2 → (DS.wsy nb rm ⟨fz, false, f, []⟩ (aw fi ⟨fz, false, f, []⟩ c (encs pe))).1.f n = f n := fun n hn => by
          rw [k1]
          exact fputs_far _ _ _ (fun y hy => by have := hawx y hy; omega)
        have har : areaB (DS.wsy nb rm ⟨fz, false, f, []⟩ (aw fi ⟨fz, false, f, []⟩ c (encs pe))).1.f (fi + 2) (c + (encs pe).length) = encs (rs ++ pe) := by
          rw [area_sync f (fi + 2) c (encs pe) hfl hlen _ (by rw [k1]; unfold aw; rw [show fi + (2 + ((c / 256 : Nat) : Int)) = fi + 2 + ((c / 256 : Nat) : Int) by omega]) hl1, h.area, encs_append]
        generalize hs1 : (DS.wsy nb rm ⟨fz, false, f, []⟩ (aw fi ⟨fz, false, f, []⟩ c (encs pe))).1 = s1 at *
        by_cases hE2 : (s1.wsy nb rm (mw fi (a + 1) b (c + (encs pe).length))).2 = 0
        · obtain ⟨m1, m2, m3⟩ := wsy_ok hE2
          have hE : E = 0 := e2.trans hE2
          rw [if_pos hE] at e3 e5
          subst e1 e3 e5
          have hn2 : ((a + 1) % 2 : Nat) < 2 := Nat.mod_lt _ (by decide)
          have hn3 : (a % 2 : Nat) < 2 := Nat.mod_lt _ (by decide)
          have hne2 : fi + ((a % 2 : Nat) : Int) ≠ fi + (((a + 1) % 2 : Nat) : Int) := by omega
          refine .inl ⟨hE, m3, m2, rfl, rfl, { mkf := ?_, clean := ?_, area := ?_, fits := ?_, rng := ?_, fl := ?_, rrs := (fun r hr => (List.mem_append.1 hr).elim (h.rrs r) (h.rpe r)), rpe := (fun r hr => by cases hr), h1 := h1, h2 := h2, h3 := h3, h4 := h4, ha := ha1, hb := hb' }⟩
          · rw [m1]
            exact (h.mkf.away (hfar _ (by omega)) (hfar _ (by omega))).next b (c + (encs pe).length) (by omega) (by omega) (by omega)
          · left
            rw [m1, show (a + 1 + 1) % 2 = a % 2 by omega]
            show nAt (fput s1.f _ _ _) 5 ≤ _
            rw [fput_ne _ _ _ _ hne2, hfar _ (by omega), h.mkf.five]
            omega
          · rw [m1, ← har]
            unfold areaB
            rw [arB_same (fputs s1.f (mw fi (a + 1) b (c + (encs pe).length))) s1.f (fi + 2) _ (fun i _ => (fput_ne s1.f (fi + ((a + 1) % 2 : Nat)) (fi + 2 + (i : Int)) (mb (a + 1) b (c + (encs pe).length)) (by omega) : fputs s1.f (mw fi (a + 1) b (c + (encs pe).length)) (fi + 2 + (i : Int)) = s1.f (fi + 2 + (i : Int))))]
          · rw [show encs ([] : List (List Int)) = [] from rfl, List.length_nil]; omega
          · intro n; rw [m1]; exact fputs_rng _ _ hr1 hmwr n
          · intro n; rw [m1]; exact fputs_len _ _ hl1 (fun x hx => by rw [mw, List.mem_singleton] at hx; subst hx; exact mb_len _ _ _) n
        · have hE : E = 44 := e2.trans (wsy_44 hmwx hE2)
          subst e1
          exact .inr (.inr ⟨hE, wsy_down hmwx hE2, hLF, fun ks t => ⟨hcs2 ks t hE2, up_rng k2 hr1 hmwr hE2 ks t⟩⟩)
    · rcases hr with ⟨_, e1, e2, _⟩ | ⟨h0, _⟩
      · have hE : E = 44 := e2.trans (wsy_44 (fun y hy => ⟨by have := hawx y hy; omega, (hawx y hy).2⟩) hE1)
        have hdn := wsy_down (nb := nb) (rm := rm) (fun y hy => ⟨by have := hawx y hy; omega, (hawx y hy).2⟩) hE1
        obtain ⟨b1, b2⟩ := wsy_bad hE1
        obtain ⟨u1, u2⟩ := ws_undo nb rm (aw fi ⟨fz, false, f, []⟩ c (encs pe)) ⟨fz, false, f, []⟩
        subst e1
        refine .inr (.inr ⟨hE, hdn, hLF, fun ks t => ⟨(hcs ks t ?_ ?_ ?_).1 hE1, up_rng rfl h.rng hawr hE1 ks t⟩⟩)
        · intro n; rw [b1]; exact ws_rng hawr h.rng n
        · exact hWF
        · exact hFF
      · exact absurd h0 hE1
end
end Go.Proofs.YtfknlheflaccaaaGreat
namespace Go.Proofs.YtfknlheflaccaaaGreat
open Go.RowKit
open Go.RowKit
section
variable {nb rm fz : Int} {f : Int → List Int} {fi sz : Int} {a b c : Nat} {rs pe : List (List Int)}
theorem Good.restart (h : Good nb rm fz f fi sz a b c rs []) (ha1 : a + 1 < 1099511627776) (hb1 : b + 1 < 1099511627776) {sF : DS} {E : Int} {aF bF cF : Nat}
  (hs : sF = (DS.wsy nb rm ⟨fz, false, f, []⟩ (mw fi (a + 1) (b + 1) 0)).1) (hE : E = (DS.wsy nb rm ⟨fz, false, f, []⟩ (mw fi (a + 1) (b + 1) 0)).2) (e1 : aF = if E = 0 then a + 1 else a) (e2 : bF = if E = 0 then b + 1 else b) (e3 : cF = if E = 0 then 0 else c) (hLF : sF.L.length ≤ 8192) :
  (E = 0 ∧ sF.dn = false ∧ sF.L = [] ∧ aF = a + 1 ∧ bF = b + 1 ∧ cF = 0 ∧ Good nb rm sF.fz sF.f fi sz (a + 1) (b + 1) 0 [] []) ∨
  (E = 42 ∧ sF.dn = false ∧ sF.L = [] ∧ sF.f = f ∧ aF = a ∧ bF = b ∧ cF = c) ∨
  (E = 44 ∧ Fell sF fi a b c rs (b + 1) 0 []) := by
 have h1 := h.h1; have h2 := h.h2; have h3 := h.h3; have h4 := h.h4
 have hn2 : ((a + 1) % 2 : Nat) < 2 := Nat.mod_lt _ (by decide)
 have hn3 : (a % 2 : Nat) < 2 := Nat.mod_lt _ (by decide)
 have hne2 : fi + ((a % 2 : Nat) : Int) ≠ fi + (((a + 1) % 2 : Nat) : Int) := by omega
 have hmwr : ∀ y ∈ mw fi (a + 1) (b + 1) 0, Rng y.2 := fun y hy => by rw [mw, List.mem_singleton] at hy; subst hy; exact mb_rng _ _ _
 by_cases hrm : rm ≤ fi + (((a + 1) % 2 : Nat) : Int)
 ·obtain ⟨g1, g2, g3⟩ := wsy_none (nb := nb) (rm := rm) (fi + (((a + 1) % 2 : Nat) : Int), mb (a + 1) (b + 1) 0) [] (s := ⟨fz, false, f, []⟩) (by dsimp only; omega) (by dsimp only; omega) hrm
  rw [show [(fi + (((a + 1) % 2 : Nat) : Int), mb (a + 1) (b + 1) 0)] = mw fi (a + 1) (b + 1) 0 from rfl] at g1 g2 g3
  generalize DS.wsy nb rm ⟨fz, false, f, []⟩ (mw fi (a + 1) (b + 1) 0) = W at *
  dsimp only at g1 g2
  subst hs hE
  rcases g3 with ⟨g3, g4⟩ | ⟨g3, g4⟩
  ·have hn : W.2 ≠ 0 := by rw [g3]; decide
   rw [if_neg hn] at e1 e2 e3
   exact .inr (.inl ⟨g3, g4, g2, g1, e1, e2, e3⟩)
  ·refine .inr (.inr ⟨g3, g4, hLF, fun ks t => ?_⟩)
   rw [g1, g2, upF_nil]
   exact ⟨.inl ⟨h.mkf, h.clean, h.area⟩, h.rng⟩
 ·have hmwx : ∀ y ∈ mw fi (a + 1) (b + 1) 0, 0 ≤ y.1 ∧ y.1 < nb ∧ y.1 < rm := fun y hy => by
   rw [mw, List.mem_singleton] at hy
   subst hy
   show 0 ≤ fi + (((a + 1) % 2 : Nat) : Int) ∧ fi + (((a + 1) % 2 : Nat) : Int) < nb ∧ fi + (((a + 1) % 2 : Nat) : Int) < rm
   omega
  by_cases hE2 : (DS.wsy nb rm ⟨fz, false, f, []⟩ (mw fi (a + 1) (b + 1) 0)).2 = 0
  ·obtain ⟨m1, m2, m3⟩ := wsy_ok hE2
   have hE0 : E = 0 := hE.trans hE2
   rw [if_pos hE0] at e1 e2 e3
   subst hs
   dsimp only at m1
   refine .inl ⟨hE0, m3, m2, e1, e2, e3, { mkf := ?_, clean := ?_, area := ?_, fits := ?_, rng := ?_, fl := ?_, rrs := (fun r hr => by cases hr), rpe := (fun r hr => by cases hr), h1 := h1, h2 := h2, h3 := h3, h4 := h4, ha := ha1, hb := hb1 }⟩
   ·rw [m1]
    exact h.mkf.next (b + 1) 0 (by omega) (by omega) (by omega)
   ·left
    rw [m1, show (a + 1 + 1) % 2 = a % 2 by omega]
    show nAt (fput f _ _ _) 5 ≤ _
    rw [fput_ne _ _ _ _ hne2, h.mkf.five]
    omega
   ·rfl
   ·rw [show encs ([] : List (List Int)) = [] from rfl, List.length_nil]; omega
   ·intro n; rw [m1]; exact fputs_rng _ _ h.rng hmwr n
   ·intro n; rw [m1]; exact fputs_len _ _ h.fl (fun x hx => by rw [mw, List.mem_singleton] at hx; subst hx; exact mb_len _ _ _) n
  ·subst hs
   have hc := fun ks t => crash_mark3 (nb := nb) (rm := rm) (fi := fi) (s := ⟨fz, false, f, []⟩) (a := a) (b := b) (c := c) (b' := b + 1) (c' := 0) (rs := rs) (rs' := []) rfl h.mkf h.clean h.fl h.rng (by omega) (by omega) (by omega) h.area rfl hE2 ks t
   exact .inr (.inr ⟨hE.trans (wsy_44 hmwx hE2), wsy_down hmwx hE2, hLF, fun ks t => ⟨hc ks t, up_rng rfl h.rng hmwr hE2 ks t⟩⟩)
/-- what stands on the disk that came up -/
theorem Good.up3 {g : Int → List Int} {b' c' : Nat} {rs' : List (List Int)} (h : Good nb rm fz f fi sz a b c rs pe) (hu : Up3 g fi a b c rs b' c' rs') (hr : ∀ n, Rng (g n)) (hg : ∀ n, (g n).length = 256) (ha1 : a + 1 < 1099511627776) (hb1 : b' < 1099511627776) (hf : (c' : Int) ≤ (sz - 2) * 256) (hrs' : ∀ r ∈ rs', Rng r) (rm' fz' : Int) :
  Good nb rm' fz' g fi sz a b c rs [] ∨ Good nb rm' fz' g fi sz (a + 1) b' c' rs' [] := by
 rcases hu with ⟨u1, u2, u3⟩ | ⟨u1, u2, u3⟩
 ·exact .inl { mkf := u1, clean := u2, area := u3, fits := (by rw [show encs ([] : List (List Int)) = [] from rfl, List.length_nil]; have := h.fits; omega), rng := hr, fl := hg, rrs := h.rrs, rpe := (fun r hr => by cases hr), h1 := h.h1, h2 := h.h2, h3 := h.h3, h4 := h.h4, ha := h.ha, hb := h.hb }
 ·exact .inr { mkf := u1, clean := u2, area := u3, fits := (by rw [show encs ([] : List (List Int)) = [] from rfl, List.length_nil]; omega), rng := hr, fl := hg, rrs := hrs', rpe := (fun r hr => by cases hr), h1 := h.h1, h2 := h.h2, h3 := h.h3, h4 := h.h4, ha := ha1, hb := hb1 }
end
end Go.Proofs.YtfknlheflaccaaaGreat
namespace Go.Proofs.YtfknlheflaccaaaGreat
open Go.RowKit
open Go.RowKit
end Go.Proofs.YtfknlheflaccaaaGreat
namespace Go.Proofs.YtfknlheflaccaaaGreat
open Go.RowKit
open Go.RowKit
/-- the program's log on a disk in any state -/
structure LS (w : World) (B D M : Nat) (nb rm : Int) (s : DS) (lv : Value) (P : Nat) (fi sz : Int) (a b c : Nat) (av : Value) (pe : List (List Int)) : Prop where
 dk : DkS w B D M nb rm s lv
 box : LgIs w P D fi sz a b c av
 own : Own w B av (encs pe)
 nf : ¬ Foot D M lv P
 ne : av.ownBlock ≠ some P
 af : ∀ g, av.ownBlock = some g → ¬ Foot D M lv g
 base : B ≤ P
section
variable {w w' : World} {B D M : Nat} {nb rm : Int} {s : DS} {lv : Value} {P : Nat} {fi sz : Int} {a b c : Nat} {av : Value} {pe rs : List (List Int)}
theorem LS.lt (h : LS w B D M nb rm s lv P fi sz a b c av pe) : ∀ k, LFoot D M lv P av k → B ≤ k ∧ k < w.heap.size := by
 intro k hk
 rcases hk with hk | rfl | hk
 ·exact h.dk.foot k hk
 ·exact ⟨h.base, h.box.lt⟩
 ·exact h.own.lt k hk
theorem LS.chg (h : LS w B D M nb rm s lv P fi sz a b c av pe) {F : Nat → Prop} (hc : Chg F w w') (hF : ∀ k, LFoot D M lv P av k → ¬ F k) : LS w' B D M nb rm s lv P fi sz a b c av pe :=
 { h with dk := Dk.chg h.dk hc (fun k hk => hF k (.inl hk)), box := h.box.chg hc (hF P (.inr (.inl rfl))), own := h.own.chg hc (fun g hg => hF g (.inr (.inr hg))) }
theorem LS.hB (h : LS w B D M nb rm s lv P fi sz a b c av pe) : B ≤ w.heap.size := by have := h.lt P (.inr (.inl rfl)); omega
def LE (B D M : Nat) (nb rm : Int) (s' : DS) (lv : Value) (P : Nat) (fi sz : Int) (a' b' c' : Nat) (av : Value) (pe' : List (List Int)) (w w' : World) : Prop :=
 ∃ lv' av', LS w' B D M nb rm s' lv' P fi sz a' b' c' av' pe' ∧ Chg (LFoot D M lv P av) w w' ∧ (∀ k, LFoot D M lv' P av' k → LFoot D M lv P av k ∨ w.heap.size ≤ k)
theorem LS.append (h : LS w B D M nb rm s lv P fi sz a b c av pe) (v2 : Value) (m : List Int) (hbs : Bs w v2 m) (hnb : ∀ ad n c, v2 = .slice (some ad) n c → 0 < m.length → av.ownBlock ≠ some ad.block) (h2 : 3 ≤ sz) (h4 : sz ≤ 4096) (hc : c ≤ 1048576) (hp : (encs pe).length ≤ 1048576) (hm : m.length ≤ 16777216) :
  Calls Tryz.prog 147 #[.pointer (some ⟨P, 0, none⟩), v2] w fun e w' => e = .returned (.int .i64 (if fitsL sz c (encs pe).length m.length = true then 0 else 42)) ∧ LE B D M nb rm s lv P fi sz a b c av (if fitsL sz c (encs pe).length m.length = true then pe ++ [m] else pe) w w' := by
 refine (append_any B P D fi sz a b c av v2 (encs pe) m w h.box h.own h.ne h.hB hbs hnb h2 h4 hc hp hm).mono ?_
 rintro e w' ⟨rfl, av', hp, ho, hc, ht⟩
 have hfoot : ∀ k, LFoot D M lv P av' k → LFoot D M lv P av k ∨ w.heap.size ≤ k := by
  intro k hk
  rcases hk with hk | hk | hk
  ·exact .inl (.inl hk)
  ·exact .inl (.inr (.inl hk))
  ·exact (ht k hk).imp (fun h => .inr (.inr h)) id
 have hap : ∀ k, Foot D M lv k → ¬ (k = P ∨ av.ownBlock = some k) := fun k hk e => e.elim (fun e => h.nf (by rw [← e]; exact hk)) (fun e => h.af k e hk)
 have hne : av'.ownBlock ≠ some P := fun e => (ht P e).elim h.ne (fun h' => by have := h.box.lt; omega)
 have haf : ∀ g, av'.ownBlock = some g → ¬ Foot D M lv g := fun g hg hk => (ht g hg).elim (fun e => h.af g e hk) (fun h' => by have := (h.dk.foot g hk).2; omega)
 refine ⟨rfl, lv, av', ?_, hc.mono (fun k hk => hk.elim (fun h => .inr (.inl h)) (fun h => .inr (.inr h))), hfoot⟩
 refine { h with dk := Dk.chg h.dk hc hap, box := hp, own := ?_, ne := hne, af := haf }
 by_cases hf : fitsL sz c (encs pe).length m.length = true
 ·rw [if_pos hf] at ho ⊢
  rw [encs_snoc]; exact ho
 ·rw [if_neg hf] at ho ⊢
  exact ho
theorem LS.sync (h : LS w B D M nb rm s lv P fi sz a b c av pe) (hdn : s.dn = false) (h1 : 0 ≤ fi) (h2 : 3 ≤ sz) (h3 : fi ≤ nb - sz) (h4 : nb ≤ 4096) (hne : pe ≠ []) (hen : ((c + (encs pe).length : Nat) : Int) ≤ (sz - 2) * 256) (ha : a < 1099511627776) (hb : b < 1099511627776) (hL : s.L.length ≤ 268421000) :
  Calls Tryz.prog 111 #[.pointer (some ⟨P, 0, none⟩)] w fun e w' => ∃ sF E aF cF, e = .returned (.int .i64 E) ∧ LE B D M nb rm sF lv P fi sz aF b cF av [] w w' ∧ SyRes nb rm fi a b c (encs pe).length s (aw fi s c (encs pe)) sF E aF cF := by
 have hlen : 0 < (encs pe).length := by
  obtain ⟨r, pe', rfl⟩ := List.exists_cons_of_ne_nil hne
  rw [encs_cons]; simp [be8_len]; omega
 refine (sync_some B D M nb rm P fi sz a b c av (encs pe) s lv w h.dk h.box h.own h.nf h.ne hdn h1 (by omega) h2 h4 hlen hen ha hb hL).mono ?_
 rintro e w' ⟨sF, E, aF, bF, cF, lv', rfl, hd, hp, hc, hf, hres⟩
 have hbF : bF = b := hres.elim (fun h => h.2.2.2.2.1) (fun h => h.2.2.2.2.1)
 subst hbF
 refine ⟨sF, E, aF, cF, rfl, ⟨lv', .slice none 0 0, { dk := hd, box := hp, own := Own.nil _ _, nf := fun e => (hf P e).elim h.nf (fun h' => by have := h.box.lt; omega), ne := (fun e => by cases e), af := (fun g e => by cases e), base := h.base }, hc.mono (fun k hk => hk.elim .inl (fun h => .inr (.inl h))), fun k hk => ?_⟩, hres.imp (fun h => ⟨h.1, h.2.1, h.2.2.1, h.2.2.2.1, h.2.2.2.2.2⟩) (fun h => ⟨h.1, h.2.1, h.2.2.1, h.2.2.2.1, h.2.2.2.2.2⟩)⟩
 rcases hk with hk | hk | hk
 ·exact (hf k hk).imp .inl id
 ·exact .inl (.inr (.inl hk))
 ·cases hk
theorem LS.restart (h : LS w B D M nb rm s lv P fi sz a b c av []) (h1 : 0 ≤ fi) (h2 : fi ≤ 4096) (ha : a < 1099511627776) (hb : b < 1099511627776) (hL : s.L.length ≤ 268421000) :
  Calls Tryz.prog 105 #[.pointer (some ⟨P, 0, none⟩)] w fun e w' => e = .returned (.int .i64 (s.wsy nb rm (mw fi (a + 1) (b + 1) 0)).2) ∧ LE B D M nb rm (s.wsy nb rm (mw fi (a + 1) (b + 1) 0)).1 lv P fi sz (if (s.wsy nb rm (mw fi (a + 1) (b + 1) 0)).2 = 0 then a + 1 else a) (if (s.wsy nb rm (mw fi (a + 1) (b + 1) 0)).2 = 0 then b + 1 else b) (if (s.wsy nb rm (mw fi (a + 1) (b + 1) 0)).2 = 0 then 0 else c) av [] w w' := by
 obtain ⟨sa, sc, e⟩ := own_form h.own
 have hbx := h.box
 rw [e] at hbx
 refine (restart_nil B D M nb rm P fi sz a b c sa sc s lv w h.dk hbx h.nf ⟨h1, h2⟩ ha hb (by omega)).mono ?_
 rintro e' w' ⟨rfl, lv', hd, hp, hc, hf⟩
 rw [show (encs ([] : List (List Int))).length = 0 from rfl] at e
 refine ⟨rfl, lv', av, { dk := hd, box := by rw [e]; exact hp, own := h.own.chg hc (fun g hg => fun e' => e'.elim (h.af g hg) (fun e' => h.ne (by rw [hg, e']))), nf := fun e => (hf P e).elim h.nf (fun h' => by have := h.box.lt; omega), ne := h.ne, af := fun g hg e' => (hf g e').elim (h.af g hg) (fun h' => by have := h.own.lt g hg; omega), base := h.base }, hc.mono (fun k hk => hk.elim .inl (fun h => .inr (.inl h))), fun k hk => ?_⟩
 rcases hk with hk | hk | hk
 ·exact (hf k hk).imp .inl id
 ·exact .inl (.inr (.inl hk))
 ·exact .inl (.inr (.inr hk))
theorem LS.drop (h : LS w B D M nb rm s lv P fi sz a b c av pe) :
  Calls Tryz.prog 148 #[.pointer (some ⟨P, 0, none⟩)] w fun e w' => e = .returned (.tuple #[]) ∧ LE B D M nb rm s lv P fi sz a b c av [] w w' := by
 refine (drop_any P D fi sz a b c av w h.box).mono ?_
 rintro e w' ⟨rfl, hp, hc, hs⟩
 refine ⟨rfl, lv, .slice none 0 0, { dk := Dk.chg h.dk hc (fun k hk e => h.nf (by rw [← e]; exact hk)), box := hp, own := Own.nil _ _, nf := h.nf, ne := (fun e => by cases e), af := (fun g e => by cases e), base := h.base }, hc.mono (fun k hk => .inr (.inl hk)), fun k hk => ?_⟩
 rcases hk with hk | hk | hk
 ·exact .inl (.inl hk)
 ·exact .inl (.inr (.inl hk))
 ·cases hk
theorem LS.room (h : LS w B D M nb rm s lv P fi sz a b c av pe) (n : Int) :
  Calls Tryz.prog 23 #[.pointer (some ⟨D, 0, none⟩), .int .i64 n] w fun e w' => e = .returned (.tuple #[]) ∧ LE B D M nb (if 0 ≤ n then n else 0) s lv P fi sz a b c av pe w w' := by
 refine (room_dk B D M nb rm s.fz n s.dn s.f s.L lv w h.dk).mono ?_
 rintro e w' ⟨rfl, hd, hc⟩
 have hDn : ∀ k, k = P ∨ av.ownBlock = some k → ¬ k = D := fun k hk e => hk.elim (fun e' => h.nf (by rw [← e', e]; exact .inl rfl)) (fun e' => h.af k e' (by rw [e]; exact .inl rfl))
 exact ⟨rfl, lv, av, { h with dk := hd, box := h.box.chg hc (hDn P (.inl rfl)), own := h.own.chg hc (fun g hg => hDn g (.inr hg)) }, hc.mono (fun k hk => .inl (.inl hk)), fun k hk => .inl hk⟩
end
end Go.Proofs.YtfknlheflaccaaaGreat
