/- both pagers side by side -/
import Derived.Test.YtfknlheflaccaaaGreatDm23
import Derived.Test.YtfknlheflaccaaaGreatDm27
namespace Go.Proofs.YtfknlheflaccaaaGreat
open Go.RowKit
/-- what turns -/
structure TV where
 v : PV
 rs : List (List Int)
 W : Int → List Int
 gn : Nat
 gw : Nat
 nv : Value
 wv : Value
 now : List (List Int)
 was : List (List Int)
/-- the blocks of both -/
def TF (k : PK) (P : Nat) (t : TV) (g : Nat) : Prop := PF k t.v g ∨ g = P ∨ g = t.gn ∨ g = t.gw
def Apt (k : PK) (P : Nat) (t : TV) : Prop := ∀ g, PF k t.v g → g ≠ P ∧ g ≠ t.gn ∧ g ≠ t.gw
/-- both pagers, on a disk without faults -/
structure Two (k : PK) (Bx P : Nat) (t : TV) (w : World) : Prop where
 pg : PgS k t.v w
 pl : PL k t.v t.rs t.W
 pj : PJ k t.v
 pm : PM t.v t.W
 w0 : ∀ n, (t.W n).length = 256 ∧ Rng (t.W n)
 cm : Calm2 k t.v
 L0 : t.v.s.L = []
 rf : RPw w Bx P t.gn t.gw t.nv t.wv ((k.sz - 2) * 256) (t.v.c : Nat) t.now t.was
 ap : Apt k P t
 rn : Rel (nP k) (NL t.v t.W) t.now
 rw : Rel (nP k) t.W t.was
def TE (k : PK) (Bx P : Nat) (t : TV) (w : World) (t' : TV) (w' : World) : Prop := Two k Bx P t' w' ∧ Chg (TF k P t) w w' ∧ (∀ g, TF k P t' g → TF k P t g ∨ w.heap.size ≤ g) ∧ t'.v.a ≤ t.v.a + 2 ∧ t'.v.b ≤ t.v.b + 1
section
variable {k : PK} {Bx P : Nat} {t t' : TV} {w w' u u' : World}
theorem Two.lt (h : Two k Bx P t w) : ∀ g, TF k P t g → g < w.heap.size := by
 rintro g (hg | rfl | rfl | rfl)
 ·exact (h.pg.lt g hg).2
 ·exact h.rf.pg.lt.1
 ·exact h.rf.pg.lt.2
 ·exact h.rf.ws.2.2.1
/-- the program's step leaves the document's pager -/
theorem Two.prog (h : Two k Bx P t w) {v' : PV} (hp : PE k t.v w v' w') : RPw w' Bx P t.gn t.gw t.nv t.wv ((k.sz - 2) * 256) (t.v.c : Nat) t.now t.was ∧ (∀ g, PF k v' g → g ≠ P ∧ g ≠ t.gn ∧ g ≠ t.gw) := by
 have h1 := h.rf.pg.lt.1
 have h2 := h.rf.pg.lt.2
 have h3 := h.rf.ws.2.2.1
 refine ⟨h.rf.chg hp.2.1 (fun e => (h.ap _ e).1 rfl) (fun e => (h.ap _ e).2.1 rfl) (fun e => (h.ap _ e).2.2 rfl), fun g hg => ?_⟩
 rcases hp.2.2 g hg with h4 | h4
 ·exact h.ap g h4
 ·exact ⟨by omega, by omega, by omega⟩
/-- behind it, and whatever new came, the document's step leaves the program's pager: both together -/
theorem Two.both (h : Two k Bx P t w) {v' : PV} (hp : PE k t.v w v' w') (hb : Below w'.heap.size w' u) {gn' gw' : Nat} {nv' wv' : Value} {us' : Int} {now' was' rs' : List (List Int)} {W' : Int → List Int}
  (hc : Chg (fun q => q = P ∨ q = t.gn) u u') (hr : RPw u' Bx P gn' gw' nv' wv' ((k.sz - 2) * 256) us' now' was') (hg1 : gn' = t.gn ∨ w'.heap.size ≤ gn') (hg2 : gw' = t.gw ∨ w'.heap.size ≤ gw') (hus : us' = (v'.c : Nat))
  (hl : PL k v' rs' W') (hj : PJ k v') (hm : PM v' W') (h0 : ∀ n, (W' n).length = 256 ∧ Rng (W' n)) (hcm : Calm2 k v') (hL : v'.s.L = []) (hn : Rel (nP k) (NL v' W') now') (hw : Rel (nP k) W' was') (ha : v'.a ≤ t.v.a + 2) (hbb : v'.b ≤ t.v.b + 1) :
  TE k Bx P t w ⟨v', rs', W', gn', gw', nv', wv', now', was'⟩ u' := by
 obtain ⟨h1, h2⟩ := h.prog hp
 subst hus
 have hs : w.heap.size ≤ w'.heap.size := hp.2.1.size
 have hpu := hp.1.fresh hb
 have hlt := hp.1.lt
 have hap : ∀ g, PF k v' g → g ≠ P ∧ g ≠ gn' ∧ g ≠ gw' := fun g hg => by
  obtain ⟨a1, a2, a3⟩ := h2 g hg
  have a4 := (hlt g hg).2
  refine ⟨a1, ?_, ?_⟩
  ·rcases hg1 with e | e
   ·rw [e]; exact a2
   ·omega
  ·rcases hg2 with e | e
   ·rw [e]; exact a3
   ·omega
 have hpg : PgS k v' u' := hpu.chg hc (fun g hg e => by rcases e with e | e; exact (h2 g hg).1 e; exact (h2 g hg).2.1 e)
 refine ⟨⟨hpg, hl, hj, hm, h0, hcm, hL, hr, hap, hn, hw⟩, ?_, ?_, ha, hbb⟩
 ·refine ((hp.2.1.mono (fun i hi => .inl hi)).trans (Chg.fresh (F := fun q => q = P ∨ q = t.gn) hb) (fun i hi => .inl (by rcases hi with e | e; exact .inr (.inl e); exact .inr (.inr (.inl e))))).trans hc (fun i hi => .inl (by rcases hi with e | e; exact .inr (.inl e); exact .inr (.inr (.inl e))))
 ·rintro g (hg | rfl | hg | hg)
  ·rcases hp.2.2 g hg with e | e
   ·exact .inl (.inl e)
   ·exact .inr e
  ·exact .inl (.inr (.inl rfl))
  ·rcases hg1 with e | e
   ·exact .inl (.inr (.inr (.inl (by rw [← e]; exact hg))))
   ·exact .inr (by show w.heap.size ≤ g; have : g = gn' := hg; omega)
  ·rcases hg2 with e | e
   ·exact .inl (.inr (.inr (.inr (by rw [← e]; exact hg))))
   ·exact .inr (by show w.heap.size ≤ g; have : g = gw' := hg; omega)
end
end Go.Proofs.YtfknlheflaccaaaGreat
/- both pagers' calls -/
namespace Go.Proofs.YtfknlheflaccaaaGreat
open Go.RowKit
section
variable {k : PK} {Bx P : Nat} {t : TV} {w : World}
theorem Two.used (h : Two k Bx P t w) : nAt (z0 t.now) 0 ≤ t.now.length := by
 have h1 := h.pj.u1.2
 have h2 := h.pj.nP.1
 rw [rel_used h.pj h.rn 0 (by decide), h.rn.1]
 omega
theorem Two.len (h : Two k Bx P t w) : t.now.length ≤ 4096 := by
  have := h.pj.nP.2.2
  rw [h.rn.1]
  exact this
theorem NL_clean {v : PV} {W : Int → List Int} (hm : PM v W) (h0 : (W 0).length = 256 ∧ Rng (W 0)) (h1 : v.h1 = v.h0) (hc : v.ch = []) (n : Int) : NL v W n = W n := by
 unfold NL
 by_cases hn : n = 0
 ·rw [if_pos hn, h1, hm.h0, ovB_hdr h0.1 h0.2, hn]
 ·rw [if_neg hn, hc]
  rfl
theorem two_put (h : Two k Bx P t w) (n : Int) (b : List Int) (hn : n ≤ 9223372036854775807) (hb : b.length = 256) (hbr : Rng b) :
  Calls Tryz.prog 24 #[.pointer (some ⟨k.P, 0, none⟩), .int .i64 n, .agg (ArrU8 b)] w fun e w1 => ∃ E : Int, e = .returned (.int .i64 E) ∧ Chg (TF k P t) w w1 ∧ ∀ u, Below w1.heap.size w1 u →
   Calls Tryz.prog 53 #[.pointer (some ⟨P, 0, none⟩), .int .i64 n, .agg (ArrU8 b)] u fun e2 u2 => e2 = .returned (.int .i64 E) ∧ ∃ t', TE k Bx P t w t' u2 := by
 refine (put_any k t.v n b w h.pg h.pj.pin (usedN_le h.pj) hn hb).mono ?_
 rintro e w1 ⟨rfl, ov', hp⟩
 refine ⟨_, rfl, hp.2.1.mono (fun i hi => .inl hi), fun u hu => ?_⟩
 have hru := (h.prog hp).1.fresh hu
 obtain ⟨q1, q2, q3, q4, q5⟩ := rel_put h.pl h.pj h.pm h.rn n b hb hbr ov'
 refine (rput_any _ _ _ _ _ _ _ _ n b u hru.pg hn h.used hb hbr).mono ?_
 rintro e2 u2 ⟨rfl, hg, hc⟩
 have hlen : (rputN t.now n b).length = t.now.length := q5.1.trans h.rn.1.symm
 exact ⟨by rw [q1], _, h.both hp hu (hc.mono (fun i hi => .inr hi)) (hru.step hg hlen hc) (.inl rfl) (.inl rfl) rfl q2 q3 q4 h.w0 h.cm h.L0 q5 h.rw (Nat.le_add_right _ _) (Nat.le_add_right _ _)⟩
theorem two_get (h : Two k Bx P t w) (n : Int) (hn : n ≤ 9223372036854775807) :
  Calls Tryz.prog 21 #[.pointer (some ⟨k.P, 0, none⟩), .int .i64 n] w fun e w1 => ∃ (l : List Int) (E : Int), l.length = 256 ∧ e = .returned (.tuple #[.agg (ArrU8 l), .int .i64 E]) ∧ Chg (TF k P t) w w1 ∧ ∀ u, Below w1.heap.size w1 u →
   Calls Tryz.prog 54 #[.pointer (some ⟨P, 0, none⟩), .int .i64 n] u fun e2 u2 => e2 = .returned (.tuple #[.agg (ArrU8 l), .int .i64 E]) ∧ Below u.heap.size u u2 ∧ ∃ t', TE k Bx P t w t' u2 := by
 refine (get_any k t.v n w h.pg h.pj.pin (usedN_le h.pj) hn).mono ?_
 rintro e w1 ⟨rfl, ov', hp⟩
 have hl : (geR k t.v n).1.length = 256 := by
  unfold geR
  split
  ·exact (h.pj.cuR n).1
  ·exact zeros_len _
 refine ⟨_, _, hl, rfl, hp.2.1.mono (fun i hi => .inl hi), fun u hu => ?_⟩
 have hru := (h.prog hp).1.fresh hu
 refine (rget_any _ _ _ _ _ _ _ _ n u hru.pg hn h.used).mono ?_
 rintro e2 u2 ⟨rfl, hbl⟩
 refine ⟨by rw [rel_get h.pl h.pj h.pm h.rn n], hbl, ?_⟩
 have hj2 : PJ k { t.v with ov := ov', ca := (geV k t.v n).1, od := (geV k t.v n).2 } := by
  unfold geV
  split
  ·rename_i hi
   exact (h.pj.cu n (inU_rng hi (usedN_le h.pj))).ov ov'
  ·exact h.pj.ov ov'
 have hm2 : PM { t.v with ov := ov', ca := (geV k t.v n).1, od := (geV k t.v n).2 } t.W := by
  refine ⟨?_, h.pm.ch, h.pm.h0⟩
  unfold geV
  split
  ·rename_i hi
   have hr := inU_rng hi (usedN_le h.pj)
   exact PM.cuV h.pl h.pj h.pm n hr.1 hr.2
  ·exact h.pm.ca
 exact ⟨_, h.both hp hu (Chg.fresh hbl) (hru.fresh hbl) (.inl rfl) (.inl rfl) rfl (h.pl.as rfl rfl rfl rfl rfl rfl rfl) hj2 hm2 h.w0 h.cm h.L0 h.rn h.rw (Nat.le_add_right _ _) (Nat.le_add_right _ _)⟩
theorem two_alloc (h : Two k Bx P t w) :
  Calls Tryz.prog 19 #[.pointer (some ⟨k.P, 0, none⟩)] w fun e w1 => ∃ A E : Int, e = .returned (.tuple #[.int .i64 A, .int .i64 E]) ∧ Chg (TF k P t) w w1 ∧ ∀ u, Below w1.heap.size w1 u →
   Calls Tryz.prog 55 #[.pointer (some ⟨P, 0, none⟩)] u fun e2 u2 => e2 = .returned (.tuple #[.int .i64 A, .int .i64 E]) ∧ ∃ t', TE k Bx P t w t' u2 := by
 refine (alloc_any k t.v w h.pg h.pj).mono ?_
 rintro e w1 ⟨rfl, ov', hp⟩
 refine ⟨_, _, rfl, hp.2.1.mono (fun i hi => .inl hi), fun u hu => ?_⟩
 have hru := (h.prog hp).1.fresh hu
 obtain ⟨q1, q2, q3⟩ := rel_alloc h.pl h.pj h.pm h.rn
 obtain ⟨s1, s2, s3, s4, s5, s6, s7⟩ := alU_s (k := k) (v := t.v)
 refine (ralloc_any _ _ _ _ _ _ _ _ u hru.pg h.used h.len).mono ?_
 rintro e2 u2 ⟨rfl, hg, hc⟩
 have hlen : (ralN t.now).length = t.now.length := q3.1.trans h.rn.1.symm
 refine ⟨by rw [q1], _, h.both hp hu (hc.mono (fun i hi => .inr hi)) (hru.step hg hlen hc) (.inl rfl) (.inl rfl) ?_ (h.pl.as s1 s2 s3 s4 s5 s6 s7) ((alU_j h.pj).ov ov') (q2.as rfl rfl rfl) h.w0 ?_ ?_ q3 h.rw ?_ ?_⟩
 ·show ((t.v.c : Nat) : Int) = ((alU k t.v).1.c : Nat)
  rw [s4]
 ·show (alU k t.v).1.s.fz = -1 ∧ _
  rw [s1]
  exact h.cm
 ·show (alU k t.v).1.s.L = []
  rw [s1]
  exact h.L0
 ·show (alU k t.v).1.a ≤ _
  rw [s2]
  exact Nat.le_add_right _ _
 ·show (alU k t.v).1.b ≤ _
  rw [s3]
  exact Nat.le_add_right _ _
theorem frU_s (n : Int) {v : PV} : (frU k v n).s = v.s ∧ (frU k v n).a = v.a ∧ (frU k v n).b = v.b ∧ (frU k v n).c = v.c ∧ (frU k v n).pe = v.pe ∧ (frU k v n).en = v.en ∧ (frU k v n).lg = v.lg := by
 unfold frU
 split <;> exact ⟨rfl, rfl, rfl, rfl, rfl, rfl, rfl⟩
theorem frU_j (h : PJ k t.v) (n : Int) : PJ k (frU k t.v n) := by
  unfold frU
  split
  · rename_i hi
    have hr := inU_rng hi (usedN_le h)
    refine (h.st n (frB t.v) hr (frB_len t.v) (frB_rng t.v)).head n.toNat ?_
    have := h.z3; have := h.z1; omega
  · exact h
theorem two_free (h : Two k Bx P t w) (n : Int) (hn : n ≤ 9223372036854775807) :
  Calls Tryz.prog 38 #[.pointer (some ⟨k.P, 0, none⟩), .int .i64 n] w fun e w1 => ∃ E : Int, e = .returned (.int .i64 E) ∧ Chg (TF k P t) w w1 ∧ ∀ u, Below w1.heap.size w1 u →
   Calls Tryz.prog 56 #[.pointer (some ⟨P, 0, none⟩), .int .i64 n] u fun e2 u2 => e2 = .returned (.int .i64 E) ∧ ∃ t', TE k Bx P t w t' u2 := by
 refine (free_page k t.v n w h.pg h.pj hn).mono ?_
 rintro e w1 ⟨rfl, ov', hp⟩
 refine ⟨_, rfl, hp.2.1.mono (fun i hi => .inl hi), fun u hu => ?_⟩
 have hru := (h.prog hp).1.fresh hu
 have q3 := rel_free h.pl h.pj h.pm h.rn n
 have q2 : PM (frU k t.v n) t.W := by
  by_cases hi : inU t.v n = true
  ·exact (fr_yes h.pl h.pj h.pm hi).1
  ·rw [fr_no hi]; exact h.pm
 obtain ⟨s1, s2, s3, s4, s5, s6, s7⟩ := frU_s (k := k) (v := t.v) n
 refine (rfree_any _ _ _ _ _ _ _ _ n u hru.pg hn h.used h.len).mono ?_
 rintro e2 u2 ⟨rfl, hg, hc⟩
 have hlen : (rfrN t.now n).length = t.now.length := q3.1.trans h.rn.1.symm
 refine ⟨by unfold rputE; rw [rel_in h.pj h.rn], _, h.both hp hu (hc.mono (fun i hi => .inr hi)) (hru.step hg hlen hc) (.inl rfl) (.inl rfl) ?_ (h.pl.as s1 s2 s3 s4 s5 s6 s7) ((frU_j h.pj n).ov ov') (q2.as rfl rfl rfl) h.w0 ?_ ?_ q3 h.rw ?_ ?_⟩
 ·show ((t.v.c : Nat) : Int) = ((frU k t.v n).c : Nat)
  rw [s4]
 ·show (frU k t.v n).s.fz = -1 ∧ _
  rw [s1]
  exact h.cm
 ·show (frU k t.v n).s.L = []
  rw [s1]
  exact h.L0
 ·show (frU k t.v n).a ≤ _
  rw [s2]
  exact Nat.le_add_right _ _
 ·show (frU k t.v n).b ≤ _
  rw [s3]
  exact Nat.le_add_right _ _
theorem psrU_s (n : Int) (x : Nat) {v : PV} : (psrU v n x).s = v.s ∧ (psrU v n x).a = v.a ∧ (psrU v n x).b = v.b ∧ (psrU v n x).c = v.c := by
 unfold psrU
 split <;> exact ⟨rfl, rfl, rfl, rfl⟩
theorem two_setroot (h : Two k Bx P t w) (n : Int) (x : Nat) (hx : x < 18446744073709551616) :
  Calls Tryz.prog 57 #[.pointer (some ⟨k.P, 0, none⟩), .int .i64 n, .int .u64 (x : Int)] w fun e w1 => ∃ E : Int, e = .returned (.int .i64 E) ∧ Chg (TF k P t) w w1 ∧ ∀ u, Below w1.heap.size w1 u →
   Calls Tryz.prog 58 #[.pointer (some ⟨P, 0, none⟩), .int .i64 n, .int .u64 (x : Int)] u fun e2 u2 => e2 = .returned (.int .i64 E) ∧ ∃ t', TE k Bx P t w t' u2 := by
 refine (psetroot_any k t.v n x w h.pg).mono ?_
 rintro e w1 ⟨rfl, hp⟩
 refine ⟨_, rfl, hp.2.1.mono (fun i hi => .inl hi), fun u hu => ?_⟩
 have hru := (h.prog hp).1.fresh hu
 obtain ⟨q1, q2, q3, _⟩ := psr_all h.pl h.pj h.pm n x hx
 have q5 := rel_root_set h.pl h.pj h.pm h.rn n x hx
 obtain ⟨s1, s2, s3, s4⟩ := psrU_s (v := t.v) n x
 refine (rsetroot_any _ _ _ _ _ _ _ _ n x u hru.pg hx).mono ?_
 rintro e2 u2 ⟨rfl, hg, hc⟩
 have hlen : (rsrN t.now n x).length = t.now.length := q5.1.trans h.rn.1.symm
 refine ⟨rfl, _, h.both hp hu (hc.mono (fun i hi => .inr hi)) (hru.step hg hlen hc) (.inl rfl) (.inl rfl) ?_ q1 q2 q3 h.w0 ?_ ?_ q5 h.rw ?_ ?_⟩
 ·rw [s4]
 ·unfold Calm2
  rw [s1]
  exact h.cm
 ·rw [s1]
  exact h.L0
 ·rw [s2]
  exact Nat.le_add_right _ _
 ·rw [s3]
  exact Nat.le_add_right _ _
/-- nothing of either has changed -/
theorem Two.fresh (h : Two k Bx P t w) {u : World} (hb : Below w.heap.size w u) : TE k Bx P t w t u :=
 ⟨{ h with pg := h.pg.fresh hb, rf := h.rf.fresh hb }, Chg.fresh hb, fun _ h => .inl h, Nat.le_add_right _ _, Nat.le_add_right _ _⟩
theorem two_root (h : Two k Bx P t w) (n : Int) :
    ∃ R : Int, Calls Tryz.prog 39 #[.pointer (some ⟨k.P, 0, none⟩), .int .i64 n] w (fun e w1 => e = .returned (.int .u64 R) ∧ w = w1) ∧
      Calls Tryz.prog 62 #[.pointer (some ⟨P, 0, none⟩), .int .i64 n] w fun e w1 => w = w1 ∧ e = .returned (.int .u64 R) := by
  refine ⟨_, root_any k t.v n w h.pg, ?_⟩
  have := rroot_any _ _ _ _ _ _ _ t.now n w h.rf.pg
  rwa [rel_root h.pj h.rn n] at this
theorem two_changed (h : Two k Bx P t w) :
    Calls Tryz.prog 26 #[.pointer (some ⟨k.P, 0, none⟩)] w fun e w1 => e = .returned (.int .i64 (chN t.v)) ∧ Below w.heap.size w w1 ∧ ∀ u, Below w1.heap.size w1 u →
      Calls Tryz.prog 63 #[.pointer (some ⟨P, 0, none⟩)] u fun e2 u2 => e2 = .returned (.int .i64 (chN t.v)) ∧ Below u.heap.size u u2 := by
  refine (changed_any k t.v w h.pg h.pj.hin h.pj.chlen).mono ?_
  rintro e w1 ⟨rfl, hb⟩
  refine ⟨rfl, hb, fun u hu => ?_⟩
  have hru := h.rf.fresh (hb.trans (hu.mono hb.size))
  have := rchanged_any _ _ _ _ _ _ _ _ t.now t.was u hru h.len
  rwa [← rel_dif h.pl h.pj h.pm (h.w0 0) h.rn h.rw] at this
theorem two_abort (h : Two k Bx P t w) :
  Calls Tryz.prog 22 #[.pointer (some ⟨k.P, 0, none⟩)] w fun e w1 => e = .returned (.tuple #[]) ∧ Chg (TF k P t) w w1 ∧ ∀ u, Below w1.heap.size w1 u →
   Calls Tryz.prog 12 #[.pointer (some ⟨P, 0, none⟩)] u fun e2 u2 => e2 = .returned (.tuple #[]) ∧ ∃ t', TE k Bx P t w t' u2 := by
 refine (abort_any k t.v w h.pg).mono ?_
 rintro e w1 ⟨rfl, H, hp⟩
 refine ⟨rfl, hp.2.1.mono (fun i hi => .inl hi), fun u hu => ?_⟩
 have hru := (h.prog hp).1.fresh hu
 refine (rabort_any _ _ _ _ _ _ _ _ _ _ u hru h.len).mono ?_
 rintro e2 u2 ⟨rfl, ⟨g', nv', hr, hg⟩, hc⟩
 have hm2 : PM { t.v with h1 := t.v.h0, Hm := H, ch := [] } t.W := ⟨h.pm.ca, fun n x hx => by simp [gl] at hx, h.pm.h0⟩
 exact ⟨rfl, _, h.both hp hu (hc.mono (fun i hi => .inl hi)) hr (.inr (Nat.le_trans hu.size hg)) (.inl rfl) rfl (h.pl.as rfl rfl rfl rfl rfl rfl rfl) (h.pj.ab H) hm2 h.w0 h.cm h.L0 (h.rw.congr (fun m => NL_clean hm2 (h.w0 0) rfl rfl m)) h.rw (Nat.le_add_right _ _) (Nat.le_add_right _ _)⟩
end
end Go.Proofs.YtfknlheflaccaaaGreat
/- both pagers' Commit and Checkpoint -/
namespace Go.Proofs.YtfknlheflaccaaaGreat
open Go.RowKit
section
variable {k : PK} {Bx P : Nat} {t : TV} {w : World}
theorem Two.fits (h : Two k Bx P t w) : (0 : Int) ≤ (t.v.c : Nat) ∧ ((t.v.c : Nat) : Int) ≤ (k.sz - 2) * 256 ∧ (k.sz - 2) * 256 ≤ 1048576 := by
 have h1 := h.pl.g.fits
 have h2 := h.pj.z2
 have h3 := h.pj.z3
 refine ⟨by omega, ?_, by omega⟩
 have : ((t.v.c + (encs []).length : Nat) : Int) = (t.v.c : Nat) := rfl
 rw [this] at h1
 exact h1
theorem two_commit (h : Two k Bx P t w) (ha : t.v.a + 2 < 1099511627776) (hb : t.v.b + 1 < 1099511627776) :
  Calls Tryz.prog 20 #[.pointer (some ⟨k.P, 0, none⟩)] w fun e w1 => ∃ E : Int, e = .returned (.int .i64 E) ∧ Chg (TF k P t) w w1 ∧ ∀ u, Below w1.heap.size w1 u →
   Calls Tryz.prog 59 #[.pointer (some ⟨P, 0, none⟩)] u fun e2 u2 => e2 = .returned (.int .i64 E) ∧ ∃ t', TE k Bx P t w t' u2 := by
 refine (commit2 k t.v t.rs t.W w h.pg h.pj h.pl h.pm h.L0 h.w0 ha hb).mono ?_
 rintro e w1 ⟨E, v', rfl, hp, ha', hb', hor, hcal⟩
 obtain ⟨hE, hfz⟩ := hcal h.cm
 refine ⟨E, rfl, hp.2.1.mono (fun i hi => .inl hi), fun u hu => ?_⟩
 have hru := (h.prog hp).1.fresh hu
 obtain ⟨f1, f2, f3⟩ := h.fits
 have hd := rel_dif h.pl h.pj h.pm (h.w0 0) h.rn h.rw
 have hL := chL_eq (k := k) h.pm
 have hNW := NW_NL h.pm (h.w0 0)
 refine (rcommit_any _ _ _ _ _ _ _ _ _ _ u hru h.len f1 f2 f3).mono ?_
 rintro e2 u2 ⟨hc, hr⟩
 generalize difL t.now t.was t.now.length = d at *
 rcases hor with ⟨c0, rfl, rfl⟩ | ⟨c0, rfl, ⟨rs2, x2⟩, xL, xj, xm, x1, xc, xcc, xfit⟩ | ⟨c0, rfl, ⟨rs2, x2⟩, xj, xm, x1, xc, xcal⟩ | ⟨_, rfl, _⟩
 ·rcases hr with ⟨d0, rfl, r⟩ | ⟨d0, _⟩ | ⟨d0, _⟩
  ·exact ⟨rfl, _, h.both hp hu (hc.mono (fun i hi => .inl hi)) r (.inl rfl) (.inl rfl) rfl h.pl h.pj h.pm h.w0 h.cm h.L0 h.rn h.rw ha' hb'⟩
  ·omega
  ·omega
 ·rcases hr with ⟨d0, rfl, r⟩ | ⟨d0, d1, _⟩ | ⟨d0, d1, rfl, g', wv', r, hg⟩
  ·omega
  ·omega
  ·have w0' : ∀ n, (NW t.v t.W n).length = 256 ∧ Rng (NW t.v t.W n) := fun n => by rw [hNW]; exact NL_blk h.pj h.w0 n
   have hh : v'.h1 = v'.h0 := by rw [x1, xm.h0, NW_hdr h.pj h.pm]
   refine ⟨rfl, _, h.both hp hu (hc.mono (fun i hi => .inl hi)) r (.inl rfl) (.inr (Nat.le_trans hu.size hg)) ?_ x2 xj xm w0' ⟨hfz, h.cm.2⟩ xL (h.rn.congr (fun m => by rw [NL_clean xm (w0' 0) hh xc m, hNW])) (h.rn.congr (fun m => by rw [hNW])) ha' hb'⟩
   rw [xcc]
   split <;> split <;> omega
 ·obtain ⟨y1, y2, y3⟩ := xcal h.cm
  rcases hr with ⟨d0, rfl, r⟩ | ⟨d0, d1, rfl, g', nv', r, hg⟩ | ⟨d0, d1, _⟩
  ·omega
  ·have hh : v'.h1 = v'.h0 := by rw [x1, xm.h0, h.pm.h0]
   exact ⟨rfl, _, h.both hp hu (hc.mono (fun i hi => .inl hi)) r (.inr (Nat.le_trans hu.size hg)) (.inl rfl) (by rw [y1]; rfl) x2 xj xm h.w0 ⟨hfz, h.cm.2⟩ y2 (h.rw.congr (fun m => NL_clean xm (h.w0 0) hh xc m)) h.rw ha' hb'⟩
  ·omega
 ·exact absurd rfl hE
theorem two_ckpt (h : Two k Bx P t w) (ha : t.v.a + 1 < 1099511627776) (hb : t.v.b + 1 < 1099511627776) :
  Calls Tryz.prog 60 #[.pointer (some ⟨P, 0, none⟩)] w fun e w1 => e = .returned (.tuple #[]) ∧ ∀ u, Below w1.heap.size w1 u →
   Calls Tryz.prog 61 #[.pointer (some ⟨k.P, 0, none⟩)] u fun e2 u2 => e2 = .returned (.int .i64 0) ∧ ∃ t', TE k Bx P t w t' u2 := by
 refine (rckp_any _ _ _ _ _ _ _ _ _ _ w h.rf).mono ?_
 rintro e w1 ⟨rfl, hr, hc⟩
 refine ⟨rfl, fun u hu => ?_⟩
 have hpg1 : PgS k t.v w1 := h.pg.chg hc (fun g hg e => (h.ap g hg).1 e)
 refine (checkpoint2 k t.v t.rs t.W u (hpg1.fresh hu) h.pj h.pl h.L0 h.w0 ha hb).mono ?_
 rintro e2 u2 ⟨E, v', rfl, hp, hs, hck, hcal⟩
 obtain ⟨rfl, hfz⟩ := hcal h.cm.1 h.cm.2
 rcases hck with ⟨_, x1, x2, x3, x4, x5⟩ | ⟨h9, _⟩ | ⟨h9, _⟩
 ·have hjj : PJ k v' := h.pj.re hs (fun n x hx => by rw [x1.lg] at hx; simp [lgF, gl] at hx) x1.g.fl x1.g.rng
  have hmm : PM v' t.W := ⟨by rw [hs.ca]; exact h.pm.ca, by rw [hs.ch]; exact h.pm.ch, by rw [hs.h0]; exact h.pm.h0⟩
  have hnl : NL v' t.W = NL t.v t.W := by
   funext m
   unfold NL
   rw [hs.h1, hs.ch]
  have hru := hr.fresh hu
  have hP := h.rf.pg.lt.1
  have hN := h.rf.pg.lt.2
  have hW := h.rf.ws.2.2.1
  have hs1 := hc.size
  have hs2 := hu.size
  have hr2 := hru.chg hp.2.1 (fun e => (h.ap _ e).1 rfl) (fun e => (h.ap _ e).2.1 rfl) (fun e => (h.ap _ e).2.2 rfl)
  have hcu : Chg (fun q => q = P) w u := hc.trans (Chg.fresh hu) (fun _ h => .inl h)
  refine ⟨rfl, ⟨v', [], t.W, t.gn, t.gw, t.nv, t.wv, t.now, t.was⟩, ⟨hp.1, x1, hjj, hmm, h.w0, ⟨hfz, h.cm.2⟩, x2, ?_, ?_, ?_, h.rw⟩, ?_, ?_, ?_, ?_⟩
  ·show RPw u2 Bx P t.gn t.gw t.nv t.wv _ ((v'.c : Nat) : Int) t.now t.was
   rw [x5]
   exact hr2
  ·intro g hg
   rcases hp.2.2 g hg with e | e
   ·exact h.ap g e
   ·exact ⟨by omega, by show g ≠ t.gn; omega, by show g ≠ t.gw; omega⟩
  ·show Rel (nP k) (NL v' t.W) t.now
   rw [hnl]
   exact h.rn
  ·exact (hcu.mono (fun i hi => (.inr (.inl hi) : TF k P t i))).trans hp.2.1 (fun i hi => .inl (.inl hi))
  ·rintro g (hg | hg | hg | hg)
   ·rcases hp.2.2 g hg with e | e
    ·exact .inl (.inl e)
    ·exact .inr (by omega)
   ·exact .inl (.inr (.inl hg))
   ·exact .inl (.inr (.inr (.inl hg)))
   ·exact .inl (.inr (.inr (.inr hg)))
  ·show v'.a ≤ _
   omega
  ·show v'.b ≤ _
   omega
 ·exact absurd h9 (by decide)
 ·exact absurd h9 (by decide)
end
end Go.Proofs.YtfknlheflaccaaaGreat
/- the law's step -/
namespace Go.Proofs.YtfknlheflaccaaaGreat
open Go.RowKit
section
variable {k : PK} {Bx P : Nat} {t t' : TV} {w w' : World}
theorem TE.pre {w0 : World} (h0 : Two k Bx P t w0) (hb : Below w0.heap.size w0 w) (h : TE k Bx P t w t' w') : TE k Bx P t w0 t' w' :=
 ⟨h.1, (Chg.fresh hb).trans h.2.1 (fun i hi => .inl hi), fun g hg => (h.2.2.1 g hg).imp id (fun e => Nat.le_trans hb.size e), h.2.2.2.1, h.2.2.2.2⟩
theorem TE.post {w2 : World} (h : TE k Bx P t w t' w') (hb : Below w'.heap.size w' w2) : TE k Bx P t w t' w2 :=
 ⟨(h.1.fresh hb).1, h.2.1.trans (Chg.fresh hb) (fun i hi => (hi : False).elim), h.2.2.1, h.2.2.2.1, h.2.2.2.2⟩
set_option maxRecDepth 100000 in
set_option maxHeartbeats 2000000 in
theorem step5_commit (h : Two k Bx P t w) (xk xn xb : Int) (hk : xk = 5) (hn : xn ≤ 9223372036854775807) (hb0 : 0 ≤ xb) (hb1 : xb < 256) (ha : t.v.a + 2 < 1099511627776) (hbb : t.v.b + 1 < 1099511627776) :
  Calls Tryz.prog 13 #[.pointer (some ⟨k.P, 0, none⟩), .pointer (some ⟨P, 0, none⟩), .agg #[.int .i64 xk, .int .i64 xn, .int .u8 xb]] w fun e w' => e = .returned (.bool true) ∧ ∃ t', TE k Bx P t w t' w' := by
 subst hk
 have hbx : Below w.heap.size w (w.alloc (.cells #[.int .i64 5, .int .i64 xn, .int .u8 xb] 36)) := (Below.refl _ _).alloc (Nat.le_refl _) _
 have h1 := (h.fresh hbx).1
 have HBX := Lib.hid hbx
 have HW := Lib.hid h
 have HT := Lib.hid h1
 have HNB := Lib.hid (show ¬ TF k P t w.heap.size from fun e => Nat.lt_irrefl _ (h.lt _ e))
 have HX := Lib.hid (heap_alloc_new w (.cells #[.int .i64 5, .int .i64 xn, .int .u8 xb] 36))
 have d0 := (cell_of_row _ w.heap.size 0 _ _ _ HX.out).trans (show (#[Value.int .i64 5, .int .i64 xn, .int .u8 xb] : Array Value)[0]? = some (.int .i64 5) from rfl)
 have d1 := (cell_of_row _ w.heap.size 1 _ _ _ HX.out).trans (show (#[Value.int .i64 5, .int .i64 xn, .int .u8 xb] : Array Value)[1]? = some (.int .i64 xn) from rfl)
 have d2 := (cell_of_row _ w.heap.size 2 _ _ _ HX.out).trans (show (#[Value.int .i64 5, .int .i64 xn, .int .u8 xb] : Array Value)[2]? = some (.int .u8 xb) from rfl)
 have HC := Lib.hid (two_commit h1 ha hbb)
 clear h h1 hbx hn hb0 hb1 ha hbb
 go_enter Tryz.func13, Tryz.ntmps13
 go_wp2_with fail
 refine HC.out.mono ?_
 rintro e w1 ⟨E, rfl, hc, hnx⟩
 have HNX := Lib.hid (hnx w1 (Below.refl _ _))
 clear hnx hc
 go_wp2_with fail
 refine HNX.out.mono ?_
 rintro e w2 ⟨rfl, t', hte⟩
 have HTE := Lib.hid hte
 clear hte
 go_wp2_with fail
 go_ret
 exact ⟨by simp, t', TE.pre HW.out HBX.out HTE.out⟩
set_option maxRecDepth 100000 in
set_option maxHeartbeats 2000000 in
theorem step5_abort (h : Two k Bx P t w) (xk xn xb : Int) (hk : xk = 6) (hn : xn ≤ 9223372036854775807) (hb0 : 0 ≤ xb) (hb1 : xb < 256) (ha : t.v.a + 2 < 1099511627776) (hbb : t.v.b + 1 < 1099511627776) :
  Calls Tryz.prog 13 #[.pointer (some ⟨k.P, 0, none⟩), .pointer (some ⟨P, 0, none⟩), .agg #[.int .i64 xk, .int .i64 xn, .int .u8 xb]] w fun e w' => e = .returned (.bool true) ∧ ∃ t', TE k Bx P t w t' w' := by
 subst hk
 have hbx : Below w.heap.size w (w.alloc (.cells #[.int .i64 6, .int .i64 xn, .int .u8 xb] 36)) := (Below.refl _ _).alloc (Nat.le_refl _) _
 have h1 := (h.fresh hbx).1
 have HBX := Lib.hid hbx
 have HW := Lib.hid h
 have HT := Lib.hid h1
 have HNB := Lib.hid (show ¬ TF k P t w.heap.size from fun e => Nat.lt_irrefl _ (h.lt _ e))
 have HX := Lib.hid (heap_alloc_new w (.cells #[.int .i64 6, .int .i64 xn, .int .u8 xb] 36))
 have d0 := (cell_of_row _ w.heap.size 0 _ _ _ HX.out).trans (show (#[Value.int .i64 6, .int .i64 xn, .int .u8 xb] : Array Value)[0]? = some (.int .i64 6) from rfl)
 have d1 := (cell_of_row _ w.heap.size 1 _ _ _ HX.out).trans (show (#[Value.int .i64 6, .int .i64 xn, .int .u8 xb] : Array Value)[1]? = some (.int .i64 xn) from rfl)
 have d2 := (cell_of_row _ w.heap.size 2 _ _ _ HX.out).trans (show (#[Value.int .i64 6, .int .i64 xn, .int .u8 xb] : Array Value)[2]? = some (.int .u8 xb) from rfl)
 have HC := Lib.hid (two_abort h1)
 clear h h1 hbx hn hb0 hb1 ha hbb
 go_enter Tryz.func13, Tryz.ntmps13
 go_wp2_with fail
 refine HC.out.mono ?_
 rintro e w1 ⟨rfl, hc, hnx⟩
 have HNX := Lib.hid (hnx w1 (Below.refl _ _))
 clear hnx hc
 go_wp2_with fail
 refine HNX.out.mono ?_
 rintro e w2 ⟨rfl, t', hte⟩
 have HTE := Lib.hid hte
 clear hte
 go_wp2_with fail
 go_ret
 exact ⟨by simp, t', TE.pre HW.out HBX.out HTE.out⟩
set_option maxRecDepth 100000 in
set_option maxHeartbeats 2000000 in
theorem step5_ckpt (h : Two k Bx P t w) (xk xn xb : Int) (hk : xk = 7) (hn : xn ≤ 9223372036854775807) (hb0 : 0 ≤ xb) (hb1 : xb < 256) (ha : t.v.a + 2 < 1099511627776) (hbb : t.v.b + 1 < 1099511627776) :
  Calls Tryz.prog 13 #[.pointer (some ⟨k.P, 0, none⟩), .pointer (some ⟨P, 0, none⟩), .agg #[.int .i64 xk, .int .i64 xn, .int .u8 xb]] w fun e w' => e = .returned (.bool true) ∧ ∃ t', TE k Bx P t w t' w' := by
 subst hk
 have hbx : Below w.heap.size w (w.alloc (.cells #[.int .i64 7, .int .i64 xn, .int .u8 xb] 36)) := (Below.refl _ _).alloc (Nat.le_refl _) _
 have h1 := (h.fresh hbx).1
 have HBX := Lib.hid hbx
 have HW := Lib.hid h
 have HT := Lib.hid h1
 have HNB := Lib.hid (show ¬ TF k P t w.heap.size from fun e => Nat.lt_irrefl _ (h.lt _ e))
 have HX := Lib.hid (heap_alloc_new w (.cells #[.int .i64 7, .int .i64 xn, .int .u8 xb] 36))
 have d0 := (cell_of_row _ w.heap.size 0 _ _ _ HX.out).trans (show (#[Value.int .i64 7, .int .i64 xn, .int .u8 xb] : Array Value)[0]? = some (.int .i64 7) from rfl)
 have d1 := (cell_of_row _ w.heap.size 1 _ _ _ HX.out).trans (show (#[Value.int .i64 7, .int .i64 xn, .int .u8 xb] : Array Value)[1]? = some (.int .i64 xn) from rfl)
 have d2 := (cell_of_row _ w.heap.size 2 _ _ _ HX.out).trans (show (#[Value.int .i64 7, .int .i64 xn, .int .u8 xb] : Array Value)[2]? = some (.int .u8 xb) from rfl)
 have HC := Lib.hid (two_ckpt h1 (by omega) hbb)
 clear h h1 hbx hn hb0 hb1 ha hbb
 go_enter Tryz.func13, Tryz.ntmps13
 go_wp2_with fail
 refine HC.out.mono ?_
 rintro e w1 ⟨rfl, hnx⟩
 have HNX := Lib.hid (hnx w1 (Below.refl _ _))
 clear hnx
 go_wp2_with fail
 refine HNX.out.mono ?_
 rintro e w2 ⟨rfl, t', hte⟩
 have HTE := Lib.hid hte
 clear hte
 go_wp2_with fail
 go_ret
 exact ⟨by simp, t', TE.pre HW.out HBX.out HTE.out⟩
set_option maxRecDepth 100000 in
set_option maxHeartbeats 2000000 in
theorem step5_alloc (h : Two k Bx P t w) (xk xn xb : Int) (hk : xk = 2) (hn : xn ≤ 9223372036854775807) (hb0 : 0 ≤ xb) (hb1 : xb < 256) (ha : t.v.a + 2 < 1099511627776) (hbb : t.v.b + 1 < 1099511627776) :
  Calls Tryz.prog 13 #[.pointer (some ⟨k.P, 0, none⟩), .pointer (some ⟨P, 0, none⟩), .agg #[.int .i64 xk, .int .i64 xn, .int .u8 xb]] w fun e w' => e = .returned (.bool true) ∧ ∃ t', TE k Bx P t w t' w' := by
 subst hk
 have hbx : Below w.heap.size w (w.alloc (.cells #[.int .i64 2, .int .i64 xn, .int .u8 xb] 36)) := (Below.refl _ _).alloc (Nat.le_refl _) _
 have h1 := (h.fresh hbx).1
 have HBX := Lib.hid hbx
 have HW := Lib.hid h
 have HT := Lib.hid h1
 have HNB := Lib.hid (show ¬ TF k P t w.heap.size from fun e => Nat.lt_irrefl _ (h.lt _ e))
 have HX := Lib.hid (heap_alloc_new w (.cells #[.int .i64 2, .int .i64 xn, .int .u8 xb] 36))
 have d0 := (cell_of_row _ w.heap.size 0 _ _ _ HX.out).trans (show (#[Value.int .i64 2, .int .i64 xn, .int .u8 xb] : Array Value)[0]? = some (.int .i64 2) from rfl)
 have d1 := (cell_of_row _ w.heap.size 1 _ _ _ HX.out).trans (show (#[Value.int .i64 2, .int .i64 xn, .int .u8 xb] : Array Value)[1]? = some (.int .i64 xn) from rfl)
 have d2 := (cell_of_row _ w.heap.size 2 _ _ _ HX.out).trans (show (#[Value.int .i64 2, .int .i64 xn, .int .u8 xb] : Array Value)[2]? = some (.int .u8 xb) from rfl)
 have HC := Lib.hid (two_alloc h1)
 clear h h1 hbx hn hb0 hb1 ha hbb
 go_enter Tryz.func13, Tryz.ntmps13
 go_wp2_with fail
 refine HC.out.mono ?_
 rintro e w1 ⟨A, E, rfl, hc, hnx⟩
 have HNX := Lib.hid (hnx w1 (Below.refl _ _))
 clear hnx hc
 go_wp2_with fail
 refine HNX.out.mono ?_
 rintro e w2 ⟨rfl, t', hte⟩
 have HTE := Lib.hid hte
 clear hte
 go_wp2_with fail
 go_ret
 exact ⟨by simp, t', TE.pre HW.out HBX.out HTE.out⟩
end
end Go.Proofs.YtfknlheflaccaaaGreat
