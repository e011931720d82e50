/- Room, Open beside another pager, the begin; for PageFull -/
import Derived.Test.YtdkjkibdncbibaaGreatCm28
import Derived.Test.YtdkjkibdncbibaaGreatCm29
import Derived.Test.YtdkjkibdncbibaaGreatCm30
import Derived.Test.YtdkjkibdncbibaaGreatCm31
namespace Go.Proofs.YtdkjkibdncbibaaGreat
open Go.RowKit
open Go.Lib (hid)
section
variable {k kq : PK} {v vq : PV} {rs : List (List Int)} {W : Int → List Int} {w w1 w2 : World}
/-- the disk's blocks, and others that are none of this pager's, have changed -/
theorem pgs_swap (h : PgS k v w1) {r : Int} (hd : DkS w2 k.B k.D k.M k.nb r v.s v.lv) {F : Nat → Prop} (hc : Chg F w1 w2) (hF : ∀ g, PF k v g → ¬ Foot k.D k.M v.lv g → ¬ F g) : PgS { k with rm := r } v w2 := by
 obtain ⟨u, hu⟩ := h.ap
 have hn : ∀ g, PF k v g → u g ≠ 0 → ¬ F g := fun g hg h0 => hF g hg (fun e => h0 (hu.l g (.inl e)))
 have hls : LS w2 k.B k.D k.M k.nb r v.s v.lv k.Pl 0 k.sz v.a v.b v.c v.av v.pe :=
  { h.ls with dk := hd, box := h.ls.box.chg hc (hF _ (.inl (.inr (.inl rfl))) h.ls.nf), own := h.ls.own.chg hc (fun g hg => hF g (.inl (.inr (.inr hg))) (h.ls.af g hg)) }
 exact { ls := hls, box := (hc.block k.P h.ltP (hn _ (.inr (.inl rfl)) (by rw [hu.p]; decide))).trans h.box, lg := h.lg.of (hc.block _ h.lg.lt (hn _ (.inr (.inr (.inl rfl))) (by rw [hu.m]; decide))), ca := h.ca.of (hc.block _ h.ca.lt (hn _ (.inr (.inr (.inr (.inl rfl)))) (by rw [hu.c]; decide))), ch := h.ch.of (hc.block _ h.ch.lt (hn _ (.inr (.inr (.inr (.inr (.inl rfl))))) (by rw [hu.h]; decide))), ord := h.ord.chg hc (fun g hg => hn g (.inr (.inr (.inr (.inr (.inr hg))))) (by rw [hu.o g hg]; decide)), ap := ⟨u, hu.l, hu.p, hu.m, hu.c, hu.h, hu.o⟩, l0 := h.l0, l1 := h.l1, bp := h.bp, bm := h.bm, bc := h.bc, bh := h.bh }
theorem P1.swap (h : P1 k v rs W w1) {r : Int} (hd : DkS w2 k.B k.D k.M k.nb r v.s v.lv) {F : Nat → Prop} (hc : Chg F w1 w2) (hF : ∀ g, PF k v g → ¬ Foot k.D k.M v.lv g → ¬ F g) : P1 { k with rm := r } v rs W w2 :=
 { pg := pgs_swap h.pg hd hc hF, pl := { h.pl with g := h.pl.g.other r _ }, pj := { h.pj with }, pm := h.pm, w0 := h.w0 }
theorem p1_open (h : P1 k v rs W w) (hold : Int) :
  Calls Tryz.prog 9 #[.pointer (some ⟨k.D, 0, none⟩), .int .i64 k.sz, .int .i64 hold] w fun e w1 => ∃ kq vq, e = .returned (.tuple #[.pointer (some ⟨kq.P, 0, none⟩), .int .i64 0]) ∧ kq.B = k.B ∧ kq.D = k.D ∧ kq.M = k.M ∧ kq.nb = k.nb ∧ kq.rm = k.rm ∧ kq.sz = k.sz ∧ P1 kq vq rs W w1 ∧ vq.s = v.s ∧ vq.lv = v.lv ∧ (∀ n, NL vq W n = W n) ∧ P1 k v rs W w1 ∧ Chg (Foot k.D k.M v.lv) w w1 ∧ ∀ g, PF kq vq g → Foot k.D k.M v.lv g ∨ w.heap.size ≤ g := by
 have hdk : Dk w k.B k.D k.M k.nb k.rm v.s.fz v.s.dn v.s.f v.s.L v.lv := h.pg.ls.dk
 have hdn := h.pl.dn
 rw [hdn] at hdk
 have hz := h.pj.z2
 have e0 : stoF k.sz v.s.f (lgF rs [] 0) 0 = W 0 := by
  rw [← h.pl.lg]; exact h.pl.w 0 (Int.le_refl _) (by omega)
 have eh : hdr (stoF k.sz v.s.f (lgF rs [] 0) 0) = v.h0 := by rw [e0, h.pm.h0]
 have hu : 1 ≤ hN (hdr (stoF k.sz v.s.f (lgF rs [] 0) 0)) 0 ∧ (hN (hdr (stoF k.sz v.s.f (lgF rs [] 0) 0)) 0 : Int) ≤ k.nb - k.sz := by rw [eh]; exact h.pj.u0
 refine (popen_any k.B k.D k.M k.nb k.rm v.s.fz k.sz hold v.s.f v.s.L v.lv v.a v.b v.c rs w hdk ⟨h.pj.z1, hz⟩ h.pj.z3 h.pl.g.rng h.pl.g.mkf h.pl.fits h.pl.g.area h.pl.rk hu).mono ?_
 rintro e w1 ⟨Pl, P', Lm, C, Hm, rfl, hc, hk⟩
 obtain ⟨g1, g2⟩ := hk _ _ rfl rfl
 have hs : (⟨v.s.fz, false, v.s.f, v.s.L⟩ : DS) = v.s := by rw [← hdn]
 rw [eh, hs] at g1 g2
 have hmq : PM (⟨v.s, v.lv, v.a, v.b, v.c, .slice none 0 0, [], Lm, v.c, C, .slice none 0 0, v.h0, v.h0, Hm, lgF rs [] 0, [], [], []⟩ : PV) W := ⟨fun n x hx => by simp [gl] at hx, fun n x hx => by simp [gl] at hx, h.pm.h0⟩
 refine ⟨(⟨k.B, k.D, k.M, Pl, P', k.nb, k.rm, k.sz, max hold 0⟩ : PK), (⟨v.s, v.lv, v.a, v.b, v.c, .slice none 0 0, [], Lm, v.c, C, .slice none 0 0, v.h0, v.h0, Hm, lgF rs [] 0, [], [], []⟩ : PV), rfl, rfl, rfl, rfl, rfl, rfl, rfl, ⟨g1, { dn := hdn, g := h.pl.g, pe := rfl, en := rfl, lg := rfl, rk := h.pl.rk, w := fun n h0 h1 => by rw [← h.pl.lg]; exact h.pl.w n h0 h1 }, ?_, hmq, h.w0⟩, rfl, rfl, fun n => ?_, ?_, hc, g2⟩
 ·exact { z1 := h.pj.z1, z2 := h.pj.z2, z3 := h.pj.z3, m0 := by show 0 ≤ max hold 0; omega, lgr := by have := h.pj.lgr; rw [h.pl.lg] at this; exact this, ci := CI.nil (by show 0 ≤ max hold 0; omega), chl := fun n l hl => by simp [gl] at hl, chn := List.nodup_nil, chr := fun n hn => by simp [gk] at hn, fl := h.pj.fl, fr := h.pj.fr, b0 := h.pj.b0, b1 := h.pj.b0, u0 := h.pj.u0, u1 := h.pj.u0, l0 := h.pj.l0, l1 := h.pj.l0 }
 ·exact NL_clean hmq (h.w0 0) rfl rfl n
 ·have hd1 : DkS w1 k.B k.D k.M k.nb k.rm v.s v.lv := g1.ls.dk
  exact h.swap (r := k.rm) hd1 hc (fun g _ h2 => h2)
end
end Go.Proofs.YtdkjkibdncbibaaGreat
/- a pager opened anew on a disk that came up behind a fall -/
namespace Go.Proofs.YtdkjkibdncbibaaGreat
open Go.RowKit
open Go.Lib (hid)
theorem p1_anew {w : World} {B D M : Nat} {nb rm sz : Int} (hold : Int) {A : Nat} {f : Int → List Int} {W : Int → List Int} {lv : Value} (h : Dk w B D M nb rm (-1) false f [] lv) (hk : OKD A nb sz f W) (hu : 1 ≤ hN (hdr (W 0)) 0 ∧ (hN (hdr (W 0)) 0 : Int) ≤ nb - sz) (hW : ∀ n, (W n).length = 256 ∧ Rng (W n)) (hnb : sz < nb) (hrm : nb ≤ rm) :
    Calls Tryz.prog 9 #[.pointer (some ⟨D, 0, none⟩), .int .i64 sz, .int .i64 hold] w fun e w1 => ∃ kq vq rs, e = .returned (.tuple #[.pointer (some ⟨kq.P, 0, none⟩), .int .i64 0]) ∧ kq.B = B ∧ kq.D = D ∧ kq.M = M ∧ kq.nb = nb ∧ kq.rm = rm ∧ kq.sz = sz ∧ P1 kq vq rs W w1 ∧ vq.s = ⟨-1, false, f, []⟩ ∧ vq.lv = lv ∧ vq.a ≤ A ∧ vq.b ≤ A ∧ (∀ n, NL vq W n = W n) ∧ Chg (Foot D M lv) w w1 ∧ ∀ g, PF kq vq g → Foot D M lv g ∨ w.heap.size ≤ g := by
  obtain ⟨a, b, c, rs, ⟨hA, hB⟩, g, hrk, hw⟩ := hk
  have e0 : stoF sz f (lgF rs [] 0) 0 = W 0 := hw 0 (Int.le_refl _) (by omega)
  have hu' : 1 ≤ hN (hdr (stoF sz f (lgF rs [] 0) 0)) 0 ∧ (hN (hdr (stoF sz f (lgF rs [] 0) 0)) 0 : Int) ≤ nb - sz := by rw [e0]; exact hu
  have hfi : (c : Int) ≤ (sz - 2) * 256 := by
    have := g.fits
    rw [show encs ([] : List (List Int)) = [] from rfl, List.length_nil] at this
    omega
  have hd : LgD w B D M nb rm f lv 0 sz a b c rs := { dk := h, mkf := g.mkf, area := g.area, fits := hfi, rng := g.rng, rrs := g.rrs, h1 := g.h1, h2 := g.h2, h3 := g.h3, h4 := g.h4, ha := g.ha, hb := g.hb }
  refine (popen_any B D M nb rm (-1) sz hold f [] lv a b c rs w h ⟨g.h2, hnb⟩ g.h4 g.rng g.mkf hfi g.area hrk hu').mono ?_
  intro e w1 ho
  obtain ⟨Pl, P', Lm, C, Hm, rfl, hc, hk⟩ := opened_two ho hd hnb hrm hrk hu' g.clean W hw (hW 0)
  obtain ⟨g1, g2, g3, g4, g5, g6, g7, g8⟩ := hk _ _ rfl rfl
  exact ⟨_, _, rs, rfl, rfl, rfl, rfl, rfl, rfl, rfl, ⟨g1, g3, g2, g4, hW⟩, rfl, rfl, hA, hB, g7, hc, g8⟩
end Go.Proofs.YtdkjkibdncbibaaGreat
/- single calls in PageCrash's walk -/
namespace Go.Proofs.YtdkjkibdncbibaaGreat
open Go.RowKit
open Go.Lib (hid)
section
variable {k : PK} {v : PV} {rs : List (List Int)} {W : Int → List Int} {w : World} {now : List (List Int)}
theorem p1_arm (h : P1 k v rs W w) (n : Int) (hn : n ≤ 9223372036854775807) :
  Calls Tryz.prog 15 #[.pointer (some ⟨k.D, 0, none⟩), .int .i64 n] w fun e w' => e = .returned (.tuple #[]) ∧ P1 k { v with s := ⟨if 0 ≤ n then n else -1, v.s.dn, v.s.f, v.s.L⟩ } rs W w' ∧ Chg (fun q => q = k.D) w w' := by
 refine (arm_dk k.B k.D k.M k.nb k.rm v.s.fz n v.s.dn v.s.f v.s.L v.lv w h.pg.ls.dk hn).mono ?_
 rintro e w' ⟨rfl, hd, hc⟩
 have hp := h.pg.redisk (s' := ⟨if 0 ≤ n then n else -1, v.s.dn, v.s.f, v.s.L⟩) (lv' := v.lv) hd (hc.mono (fun g e => .inl e)) (fun g hg => .inl hg)
 exact ⟨rfl, ⟨hp.1, { h.pl with g := h.pl.g.other k.rm _ }, { h.pj with }, ⟨h.pm.ca, h.pm.ch, h.pm.h0⟩, h.w0⟩, hc⟩
theorem al_in (hl : PL k v rs W) (hj : PJ k v) (hm : PM v W) (hE : (alU k v).2.2 = 0) : geR k (alU k v).1 (alU k v).2.1 = (zeros 256, 0) := by
 have hj2 := alU_j hj
 have hl2 : PL k (alU k v).1 rs W := by
  obtain ⟨s1, s2, s3, s4, s5, s6, s7⟩ := alU_s (k := k) (v := v)
  exact hl.as s1 s2 s3 s4 s5 s6 s7
 have hu := hj.u1
 have h18 := hj.l1
 by_cases ha : 0 < hN v.h1 1 ∧ hN v.h1 1 < hN v.h1 0
 ·obtain ⟨s1, s2, s3⟩ := al_head hl hj hm ha
  have hc := hl2.cu s2 (hN v.h1 1 : Nat) (by omega) (by omega)
  have h0 : hN (alU k v).1.h1 0 = hN v.h1 0 := by
   have e := hl.cu hm (hN v.h1 1 : Nat) (by omega) (by omega)
   unfold alU
   rw [if_pos ha]
   unfold ahU
   rw [if_pos (by rw [e])]
   show hN (v.h1.set 1 _) 0 = _
   simp [hN]
  rw [s1]
  unfold geR
  rw [if_pos (by unfold inU usedN; rw [h0]; simp; omega), hc, s3, if_pos rfl]
 ·by_cases hf : (hN v.h1 0 : Int) < k.nb - k.sz
  ·obtain ⟨s1, s2, s3⟩ := al_next hl hj hm ha hf
   have hc := hl2.cu s2 (hN v.h1 0 : Nat) (by omega) (by omega)
   have h0 : hN (alU k v).1.h1 0 = hN v.h1 0 + 1 := by
    unfold alU
    rw [if_neg ha, if_neg (by omega)]
    show hN (v.h1.set 0 _) 0 = _
    unfold hN
    rw [List.getElem?_set, if_pos rfl, if_pos (by omega)]
    rfl
   rw [s1]
   unfold geR
   rw [if_pos (by unfold inU usedN; rw [h0]; simp; omega), hc, s3, if_pos rfl]
  ·rw [al_full ha hf] at hE
   exact absurd (show (42 : Int) = 0 from hE) (by decide)
theorem p1_alloc_l (h : P1 k v rs W w) (hr : Rel (nP k) (NL v W) now) :
  Calls Tryz.prog 18 #[.pointer (some ⟨k.P, 0, none⟩)] w fun e w1 => ∃ A E : Int, e = .returned (.tuple #[.int .i64 A, .int .i64 E]) ∧ (E = 0 ∨ E = 42) ∧ A ≤ 9223372036854775807 ∧ ∃ v', P1E k v rs W w v' w1 ∧ Rel (nP k) (NL v' W) (ralN now) ∧ (E = 0 → geR k v' A = (zeros 256, 0)) := by
 refine (alloc_any k v w h.pg h.pj).mono ?_
 rintro e w1 ⟨rfl, ov', hp⟩
 obtain ⟨q1, q2, q3⟩ := rel_alloc h.pl h.pj h.pm hr
 obtain ⟨s1, s2, s3, s4, s5, s6, s7⟩ := alU_s (k := k) (v := v)
 have hz := h.pj.z3
 have hz1 := h.pj.z1
 have hu := h.pj.u1
 refine ⟨_, _, rfl, ?_, ?_, _, ⟨⟨hp.1, h.pl.as s1 s2 s3 s4 s5 s6 s7, (alU_j h.pj).ov ov', q2.as rfl rfl rfl, h.w0⟩, hp, s1, s2, s3⟩, q3, fun hE => al_in h.pl h.pj h.pm hE⟩
 ·rw [← q1]; unfold ralV; split
  ·exact .inl rfl
  ·split
   ·exact .inr rfl
   ·exact .inl rfl
 ·by_cases ha : 0 < hN v.h1 1 ∧ hN v.h1 1 < hN v.h1 0
  ·rw [(al_head h.pl h.pj h.pm ha).1]; show ((hN v.h1 1 : Nat) : Int) ≤ _; omega
  ·by_cases hf : (hN v.h1 0 : Int) < k.nb - k.sz
   ·rw [(al_next h.pl h.pj h.pm ha hf).1]; show ((hN v.h1 0 : Nat) : Int) ≤ _; omega
   ·rw [al_full ha hf]; show (0 : Int) ≤ _; omega
theorem difL_two (l : List (List Int)) (A : Nat) (x y : List Int) (m : Nat) (hm : m ≤ l.length) : difL ((l.set 0 x).set A y) l m ≤ (if 0 < m then 1 else 0) + (if A < m then 1 else 0) := by
 induction m with
 | zero => exact Nat.zero_le _
 | succ m ih =>
  have hm' : m < l.length := by omega
  have h1 : ((l.set 0 x).set A y)[m]? = some (((l.set 0 x).set A y)[m]?.getD []) := by
   rw [List.getElem?_eq_getElem (by simpa using hm')]; rfl
  rw [difL_succ _ _ m _ _ h1 (List.getElem?_eq_getElem hm')]
  have hi := ih (by omega)
  by_cases h0 : m = 0
  ·subst h0
   have : difL ((l.set 0 x).set A y) l 0 = 0 := rfl
   rw [this]
   split <;> split <;> omega
  ·by_cases hA : A = m
   ·subst hA
    rw [if_neg (Nat.lt_irrefl _)] at hi
    rw [if_pos (Nat.succ_pos _), if_pos (Nat.lt_succ_self _)]
    have : (if 0 < A then 1 else 0) ≤ 1 := by split <;> omega
    split <;> omega
   ·have he : ((l.set 0 x).set A y)[m]?.getD [] = l[m] := by
     rw [List.getElem?_set_ne hA, List.getElem?_set_ne (fun e => h0 e.symm), List.getElem?_eq_getElem hm']; rfl
    rw [if_pos he]
    have h1 : (if 0 < m then 1 else 0) ≤ (if 0 < m + 1 then 1 else 0) := by split <;> split <;> omega
    have h2 : (if A < m then 1 else 0) ≤ (if A < m + 1 then 1 else 0) := by split <;> split <;> omega
    omega
theorem difL_same (l : List (List Int)) (m : Nat) (hm : m ≤ l.length) : difL l l m = 0 := by
 induction m with
 | zero => rfl
 | succ m ih => rw [difL_succ _ _ m _ _ (List.getElem?_eq_getElem (by omega)) (List.getElem?_eq_getElem (by omega)), if_pos rfl, ih (by omega)]
theorem difL_ral (l : List (List Int)) : difL (ralN l) l (ralN l).length ≤ 2 := by
  have h2 : ∀ (A : Nat) (x y : List Int), difL ((l.set 0 x).set A y) l l.length ≤ 2 := fun A x y => by
    have := difL_two l A x y l.length (Nat.le_refl _)
    split at this <;> split at this <;> omega
  unfold ralN
  split
  · rw [List.length_set, List.length_set]; exact h2 _ _ _
  · split
    · rw [difL_same _ _ (Nat.le_refl _)]; omega
    · rw [List.length_set, List.length_set]; exact h2 _ _ _
theorem p1_commit_l (h : P1 k v rs W w) (hc2 : Calm2 k v) (hL0 : v.s.L = []) (ha : v.a + 2 < 1099511627776) (hb : v.b + 1 < 1099511627776) (hc : chN v ≤ 2) (hs : k.sz = 16) :
  Calls Tryz.prog 19 #[.pointer (some ⟨k.P, 0, none⟩)] w fun e w1 => e = .returned (.int .i64 0) ∧ ∃ v' rs2 Wn, P1 k v' rs2 Wn w1 ∧ (∀ m, Wn m = NL v W m) ∧ PE k v w v' w1 := by
 refine (commit2 k v rs W w h.pg h.pj h.pl h.pm hL0 h.w0 ha hb).mono ?_
 rintro e w1 ⟨E, v', rfl, hp, -, -, hor, hcal⟩
 have hL := chL_eq (k := k) h.pm
 have hNW := NW_NL h.pm (h.w0 0)
 rcases hor with ⟨c0, rfl, rfl⟩ | ⟨c0, rfl, ⟨rs2, x2⟩, xL, xj, xm, -⟩ | ⟨c0, rfl, -, -, -, -, -, h9⟩ | ⟨_, rfl, -⟩
 ·refine ⟨rfl, _, rs, W, ⟨hp.1, h.pl, h.pj, h.pm, h.w0⟩, fun m => (NL_clean h.pm (h.w0 0) ?_ ?_ m).symm, hp⟩
  ·unfold chN at c0; split at c0
   ·assumption
   ·omega
  ·unfold chN at c0
   cases hcc : v'.ch with
   | nil => rfl
   | cons a b => rw [hcc] at c0; simp only [List.length_cons] at c0; split at c0 <;> omega
 ·exact ⟨rfl, _, rs2, NW v W, ⟨hp.1, x2, xj, xm, fun n => by rw [hNW]; exact NL_blk h.pj h.w0 n⟩, fun m => by rw [hNW], hp⟩
 ·obtain ⟨-, -, h3⟩ := h9 hc2.2
  exact absurd (show ((8 + 264 * chL k v : Nat) : Int) ≤ (k.sz - 2) * 256 by rw [hs]; omega) h3
 ·exact absurd rfl (hcal hc2).1
end
theorem ldi_sync {B D M ga nb i : Nat} {w : World} (h : LdI B D M ga nb i w) :
  Calls Tryz.prog 14 #[.pointer (some ⟨D, 0, none⟩)] w fun e w' => (∃ E : Int, e = .returned (.int .i64 E)) ∧ LdI B D M ga nb i w' ∧ Chg (fun q => q = D) w w' ∧ B ≤ D := by
 obtain ⟨f, L, lv, bs, h1, h2, h3, h4, h5, h6, h7⟩ := h
 refine (sync_dk B D M nb nb (-1) false f L lv w h1).mono ?_
 rintro e w' ⟨rfl, lv', hd, hc, hl⟩
 have hk : opOk (-1) false = true := rfl
 rw [hk, if_pos rfl] at hd
 refine ⟨⟨_, rfl⟩, ⟨f, [], lv', bs, hd, Nat.zero_le _, h3, h4.of (hc.block ga h4.2.2.1 (fun e => h7 D (.inl rfl) e.symm)) (Nat.lt_of_lt_of_le h4.2.2.1 hc.size), h5, h6, fun g hg => ?_⟩, hc, h1.2.2.2.1⟩
 rcases hl with e | e
 ·rw [e] at hg; exact h7 g hg
 ·rw [e] at hg
  rcases hg with e | e | e
  ·exact h7 g (.inl e)
  ·exact h7 g (.inr (.inl e))
  ·cases e
theorem two_start_f {B D M ga nb : Nat} {w : World} (h : LdI B D M ga nb nb w) (sz : Nat) (h3 : 3 ≤ sz) (hsz : sz < nb) (h4 : nb ≤ 4096) (hold fuse : Int) (hfu : fuse ≤ 9223372036854775807) (hBw : B ≤ w.heap.size) :
  Calls Tryz.prog 8 #[.pointer (some ⟨D, 0, none⟩), .int .i64 (sz : Int)] w fun e w1 => e = .returned (.int .i64 0) ∧ ∀ u, Below w1.heap.size w1 u →
   Calls Tryz.prog 9 #[.pointer (some ⟨D, 0, none⟩), .int .i64 (sz : Int), .int .i64 hold] u fun e2 w2 => ∃ k, k.D = D ∧ k.sz = (sz : Int) ∧ k.nb = (nb : Int) ∧ k.rm = (nb : Int) ∧ k.B = B ∧ e2 = .returned (.tuple #[.pointer (some ⟨k.P, 0, none⟩), .int .i64 0]) ∧ ∀ u9, Below w2.heap.size w2 u9 →
    Calls Tryz.prog 15 #[.pointer (some ⟨D, 0, none⟩), .int .i64 fuse] u9 fun e9 w9 => e9 = .returned (.tuple #[]) ∧ ∀ u2, Below w9.heap.size w9 u2 →
    Calls Tryz.prog 10 #[.slice (some ⟨ga, 0, none⟩) nb nb, .int .i64 (sz : Int)] u2 fun e3 w3 => ∃ Bx P t, e3 = .returned (.pointer (some ⟨P, 0, none⟩)) ∧ TwoU k Bx P t w3 ∧ t.v.s.L = [] ∧ t.now = t.was ∧ t.v.a = 1 ∧ t.v.b = 1 ∧ Below B w w3 ∧ ∀ g, UF k P t g → B ≤ g := by
 obtain ⟨f, L, lv, bs, q1, q2, q3, q4, q5, q6, q7⟩ := h
 refine (pformat_any B D M (nb : Int) (nb : Int) (sz : Int) f L lv w q1 q3 ⟨by omega, by omega⟩ (by omega) (Int.le_refl _) (by omega)).mono ?_
 rintro e w1 ⟨rfl, lv', hlg, hc1, hft⟩
 refine ⟨rfl, fun u hu => ?_⟩
 obtain ⟨p1, p2, p3⟩ := pf_home f (sz : Int) (by omega)
 obtain ⟨F, hF⟩ : ∃ F, fputs (fput f (sz : Int) hdr0) (fw 0) = F := ⟨_, rfl⟩
 rw [hF] at hlg p1 p2 p3
 clear hF
 have hlgu : LgD u B D M (nb : Int) (nb : Int) F lv' 0 (sz : Int) 1 1 0 [] := { hlg with dk := hlg.dk.chg (Chg.fresh (F := fun _ => False) hu) (fun _ _ h => h) }
 have hfl : ∀ n, (F n).length = 256 := hlg.dk.2.2.2.2.2.2.1
 have hsto : ∀ n, stoF (sz : Int) F (lgF [] [] 0) n = F ((sz : Int) + n) := fun n => rfl
 have e0 : stoF (sz : Int) F (lgF [] [] 0) 0 = hdr0 := by rw [hsto, Int.add_zero, p1]
 have hhu : 1 ≤ hN (hdr (stoF (sz : Int) F (lgF [] [] 0) 0)) 0 ∧ (hN (hdr (stoF (sz : Int) F (lgF [] [] 0) 0)) 0 : Int) ≤ (nb : Int) - (sz : Int) := by
  rw [e0, hdr_hdr0]
  refine ⟨Nat.le_refl 1, ?_⟩
  show ((1 : Nat) : Int) ≤ _
  omega
 refine (popen_any B D M (nb : Int) (nb : Int) (-1) (sz : Int) hold F [] lv' 1 1 0 [] u hlgu.dk ⟨by omega, by omega⟩ (by omega) hlgu.rng hlgu.mkf hlgu.fits hlgu.area (fun r hr => by cases hr) hhu).mono ?_
 rintro e2 w2 ho
 obtain ⟨Pl, P', Lm, C, Hm, rfl, hc2, hk⟩ := opened_two ho hlgu (by omega) (Int.le_refl _) (fun r hr => by cases hr) hhu p3 (fun n => F ((sz : Int) + n)) (fun n _ _ => hsto n) ⟨hfl _, hlgu.rng _⟩
 refine ⟨⟨B, D, M, Pl, P', nb, nb, sz, max hold 0⟩, rfl, rfl, rfl, rfl, rfl, rfl, fun u9 hu9 => ?_⟩
 obtain ⟨g1', g2', g3', g4', g5, g6, g7', g8⟩ := hk _ _ rfl rfl
 refine (p1_arm ⟨g1'.fresh hu9, g3', g2', g4', fun n => ⟨hfl _, hlgu.rng _⟩⟩ fuse hfu).mono ?_
 rintro e9 w9 ⟨rfl, ⟨g1, g3, g2, g4, -⟩, hc9⟩
 refine ⟨rfl, fun u2 hu2 => ?_⟩
 have hD9 : D < w2.heap.size := (g1'.lt D (.inl (.inl (.inl rfl)))).2
 have hs9 := hu9.size
 have hs10 := hc9.size
 have hga : ga < w.heap.size := q4.2.2.1
 have hnf : ¬ Foot D M lv' ga := fun e => by
  rcases hft ga e with e1 | e1
  ·exact q7 ga e1 rfl
  ·omega
 have hs1 := hc1.size
 have hs2 := hu.size
 have hs3 := hc2.size
 have b1 := q4.of (hc1.block ga hga (fun e => q7 ga e rfl)) (by omega)
 have b2 := b1.of (hu.block ga (by omega)) (by omega)
 have b3 := b2.of (hc2.block ga (by omega) hnf) (by omega)
 have hgD : ga ≠ D := fun e => hnf (.inl e)
 have b3a := b3.of (hu9.block ga (by omega)) (Nat.lt_of_lt_of_le b3.2.2.1 hu9.size)
 have b3b := b3a.of (hc9.block ga (by omega) hgD) (Nat.lt_of_lt_of_le b3a.2.2.1 hc9.size)
 have b4 := b3b.of (hu2.block ga (by omega)) (Nat.lt_of_lt_of_le b3b.2.2.1 hu2.size)
 obtain ⟨m, hm⟩ : ∃ m, sz + m = nb := ⟨nb - sz, by omega⟩
 have hbr : ∀ l ∈ bs, Rng l := fun l hl => by
  obtain ⟨i, hi⟩ := List.mem_iff_getElem?.1 hl
  have hi2 : i < nb := by rw [← q5]; exact (List.getElem?_eq_some_iff.1 hi).1
  rw [q6 i hi2] at hi
  injection hi with hi
  rw [← hi]
  exact q3 _
 refine (rnew_any B ga sz m nb bs u2 hm b4 (by omega) h3 (by omega) (by omega) hbr).mono ?_
 rintro e3 w3 ⟨⟨P, gn, gw, nv, wv, rfl, hr⟩, hb3⟩
 have hnP : nP (⟨B, D, M, Pl, P', nb, nb, sz, max hold 0⟩ : PK) = m := by
  show ((nb : Int) - (sz : Int)).toNat = m
  omega
 have hrel : Rel m (fun n => F ((sz : Int) + n)) (rnewN bs sz) := by
  have hdl : (bs.drop sz).length = m := by rw [List.length_drop]; omega
  refine ⟨by unfold rnewN; rw [List.length_set, List.length_set, hdl], fun i hi => ?_⟩
  unfold rnewN
  by_cases hi0 : i = 0
  ·subst hi0
   rw [List.getElem?_set, if_pos rfl, if_pos (by rw [List.length_set]; omega)]
   show some _ = some (F ((sz : Int) + 0))
   rw [Int.add_zero, p1, hdr0_putL]
  ·rw [List.getElem?_set, if_neg (by omega), List.getElem?_set, if_neg (by omega), List.getElem?_drop, q6 (sz + i) (by omega)]
   show some (f ((sz + i : Nat) : Int)) = some (F ((sz : Int) + (i : Int)))
   rw [p2 i (by omega), Int.natCast_add]
 have har : 256 * ((sz : Int) - 2) = ((sz : Int) - 2) * 256 := Int.mul_comm _ _
 rw [har] at hr
 have hB2 : Below B w w3 := by
  have c1 : Below B w w1 := hc1.below (fun g hg => (q1.foot g hg).1) hBw
  have c2 : Below B w u := c1.trans (hu.mono (by have := c1.size; omega))
  have c3 : Below B w w2 := c2.trans (hc2.below (fun g hg => (hlgu.dk.foot g hg).1) (by omega))
  have c3a : Below B w u9 := c3.trans (hu9.mono (by have := c3.size; omega))
  have c3b : Below B w w9 := c3a.trans (hc9.below (B := B) (fun g e => by subst e; exact (g1'.lt _ (.inl (.inl (.inl rfl)))).1) (by have := c3a.size; omega))
  have c4 : Below B w u2 := c3b.trans (hu2.mono (by have := c3b.size; omega))
  exact c4.trans (hb3.mono (by have := c4.size; omega))
 have hlt : ∀ g, PF _ _ g → B ≤ g ∧ g < w9.heap.size := fun g hg => g1.lt g hg
 have hs4 := hu2.size
 have hP := hr.pg.bp
 have hN := hr.pg.nw.2.1
 have hW := hr.ws.2.1
 refine ⟨u2.heap.size, P, ⟨_, [], fun n => F ((sz : Int) + n), gn, gw, nv, wv, _, _, _⟩, rfl, ⟨(g1.fresh hu2).fresh hb3, g3, g2, g4, fun n => ⟨hfl _, hlgu.rng _⟩, ⟨by show (0 : Int) ≤ 0; omega, by show (0 : Int) ≤ ((sz : Int) - 2) * 256; omega⟩, hr, fun g hg => ?_, ?_, ?_⟩, rfl, rfl, rfl, rfl, hB2, ?_⟩
 ·have := (hlt g hg).2
  exact ⟨by omega, by show g ≠ gn; omega, by show g ≠ gw; omega⟩
 ·rw [hnP]
  exact hrel.congr (fun m => g7' m)
 ·rw [hnP]
  exact hrel
 ·have hBs := hB2.size
  have hBu : B ≤ u2.heap.size := by omega
  rintro g (hg | hg | hg | hg)
  ·exact (hlt g hg).1
  ·omega
  ·have : g = gn := hg; omega
  ·have : g = gw := hg; omega
end Go.Proofs.YtdkjkibdncbibaaGreat
/- the law's same: a pager beside any list of pages: it answers -/
namespace Go.Proofs.YtdkjkibdncbibaaGreat
open Go.RowKit
open Go.Lib (hid)
/-- a pager, and any pages of the document's -/
structure Wx (k : PK) (Bx P gn : Nat) (nv wv : Value) (ar us : Int) (now : List (List Int)) (v : PV) (rs : List (List Int)) (W : Int → List Int) (w : World) : Prop where
 p : P1 k v rs W w
 r : RPg w Bx P gn nv wv ar us now
 ap : ∀ g, PF k v g → g ≠ P ∧ g ≠ gn
 ln : now.length ≤ 4096
 us : nAt (z0 now) 0 ≤ now.length
section
variable {k : PK} {Bx P gn : Nat} {nv wv : Value} {ar us : Int} {now : List (List Int)} {v v1 v2 : PV} {rs : List (List Int)} {W : Int → List Int} {w w1 w2 : World}
theorem Wx.step (h : Wx k Bx P gn nv wv ar us now v rs W w) (g : WE k v rs W w v1 w1) : Wx k Bx P gn nv wv ar us now v1 rs W w1 :=
 ⟨g.1.1, h.r.chg g.1.2.1.2.1 (fun e => (h.ap _ e).1 rfl) (fun e => (h.ap _ e).2 rfl), fun q hq => by
  have h1 := h.r.lt.1
  have h2 := h.r.lt.2
  rcases g.1.2.1.2.2 q hq with e | e
  ·exact h.ap q e
  ·exact ⟨by omega, by omega⟩, h.ln, h.us⟩
theorem wx_get (h : Wx k Bx P gn nv wv ar us now v rs W w) (n : Int) (hn : n ≤ 9223372036854775807) :
  Calls Tryz.prog 20 #[.pointer (some ⟨k.P, 0, none⟩), .int .i64 n] w fun e w1 => ∃ (l : List Int) (E : Int), l.length = 256 ∧ e = .returned (.tuple #[.agg (ArrU8 l), .int .i64 E]) ∧ ∀ u, Below w1.heap.size w1 u →
   Calls Tryz.prog 43 #[.pointer (some ⟨P, 0, none⟩), .int .i64 n] u fun e2 u2 => ∃ (l2 : List Int) (E2 : Int), l2.length = 256 ∧ e2 = .returned (.tuple #[.agg (ArrU8 l2), .int .i64 E2]) ∧ Below u.heap.size u u2 ∧ ∃ v', WE k v rs W w v' u2 := by
 refine (p1_get h.p n hn).mono ?_
 rintro e w1 ⟨rfl, hl, v', hp, hnl⟩
 refine ⟨_, _, hl, rfl, fun u hu => ?_⟩
 have hx := h.step ⟨hp, hnl⟩
 have hru := hx.r.fresh hu
 refine (rget_any _ _ _ _ _ _ _ _ n u hru hn h.us).mono ?_
 rintro e2 u2 ⟨rfl, hbl⟩
 unfold rgetV
 by_cases hr : rin now n = true
 ·rw [if_pos hr]
  refine ⟨_, _, ?_, rfl, hbl, v', (hp.fresh hu).fresh hbl, hnl⟩
  have h1 := rin_lt hr h.us
  have h2 : n.toNat < now.length := by omega
  rw [List.getElem?_eq_getElem h2]
  exact (h.r.nw.2.2.2.1 n.toNat _ (List.getElem?_eq_getElem h2)).1
 ·rw [if_neg hr]
  exact ⟨_, _, zeros_len 256, rfl, hbl, v', (hp.fresh hu).fresh hbl, hnl⟩
theorem wx_root (h : Wx k Bx P gn nv wv ar us now v rs W w) (n : Int) :
  ∃ R R2 : Int, Calls Tryz.prog 28 #[.pointer (some ⟨k.P, 0, none⟩), .int .i64 n] w (fun e w1 => e = .returned (.int .u64 R) ∧ w = w1) ∧
   Calls Tryz.prog 51 #[.pointer (some ⟨P, 0, none⟩), .int .i64 n] w fun e w1 => w = w1 ∧ e = .returned (.int .u64 R2) :=
 ⟨_, _, root_any k v n w h.p.pg, rroot_any _ _ _ _ _ _ _ now n w h.r⟩
set_option maxRecDepth 100000 in
set_option maxHeartbeats 2000000 in
theorem same_wx (h : Wx k Bx P gn nv wv ar us now v rs W w) :
  Calls Tryz.prog 13 #[.pointer (some ⟨k.P, 0, none⟩), .pointer (some ⟨P, 0, none⟩)] w fun e w' => ∃ r : Bool, e = .returned (.bool r) ∧ ∃ v', WE k v rs W w v' w' := by
 have HI35 := hid (show (Tryz.prog.info? 50).map (·.size) = some 256 by kernel_rfl)
 have SZ := hid (show (ArrU8 (zeros 256)).size = 256 by rw [ArrU8_size, zeros_len])
 have hz := zero35
 have HT := hid (show WE k v rs W w v w from ⟨P1E.refl h.p, rfl, rfl⟩)
 have HH := hid h
 obtain ⟨N, hN⟩ : ∃ N, now.length = N := ⟨_, rfl⟩
 have HN := hid hN
 have hN4 : N ≤ 4096 := by have := h.ln; omega
 clear h hN
 go_enter Tryz.func13, Tryz.ntmps13
 go_wp2_with fail
 go_loopw [5] (fun iv wr => ∃ i : Nat, iv = .int .i64 (i : Int) ∧ 1 ≤ i ∧ i ≤ N + 1 ∧ ∃ v1, WE k v rs W w v1 wr) (fun iv _ => N + 1 - (intOf iv).toNat)
 case atStart => exact ⟨1, rfl, Nat.le_refl _, by omega, v, HT.out⟩
 case round =>
  obtain ⟨i, rfl, hi1, hi2, v1, htl⟩ := hrel
  have HTL := hid htl
  have h1 := HH.out.step htl
  obtain ⟨cap, hcap⟩ := h1.r.nw.1
  have c0 := (cell_of_row _ P 0 _ _ _ h1.r.box).trans (show (#[nv, wv, .int .i64 ar, .int .i64 us] : Array Value)[0]? = some nv from rfl)
  have hnl : now.length = N := HN.out
  rw [hcap, hnl] at c0
  by_cases hlt : i ≤ N
  ·have hle : (i : Int) ≤ (N : Int) := by omega
   have HC := hid (wx_get h1 (i : Int) (by omega))
   clear htl h1 hcap hnl hlt
   go_wp2_with fail
   refine HC.out.mono ?_
   rintro e w1 ⟨l, E, hl, rfl, hnx⟩
   have SL := hid (show (ArrU8 l).size = 256 by rw [ArrU8_size, hl])
   have HL := hid hl
   have HNX := hid hnx
   clear hnx hl c0
   go_wp2_with (refine wpList_store_nw rfl 50 (Operand.tmp 6) (Operand.tmp 24) rfl w1 _ 50 rfl w1.heap.size (ArrU8 l) rfl rfl rfl (by rw [HI35.out, SL.out]) (by rw [SZ.out, SL.out]) (ArrU8_one _) ?_; intro wb hd hb hs; have QB := hid hd; have XB := hid hb; have SB := hid hs; clear hd hb hs)
   refine (HNX.out wb XB.out).mono ?_
   rintro e w2 ⟨l2, E2, hl2, rfl, hbl, v', hte⟩
   have SL2 := hid (show (ArrU8 l2).size = 256 by rw [ArrU8_size, hl2])
   have HL2 := hid hl2
   have XC := hid hbl
   have HTE := hid hte
   clear hbl hte hl2
   by_cases hll : l = l2
   ·have gL := hll
    by_cases hee : E = E2
    ·subst hee
     have gE : (E != E) = false := by simp
     go_wp2_with (first
      | (refine wpList_store_nw rfl 50 (Operand.tmp 8) (Operand.tmp 30) rfl w2 _ 50 rfl w2.heap.size (ArrU8 l2) rfl rfl rfl (by rw [HI35.out, SL2.out]) (by rw [SZ.out, SL2.out]) (ArrU8_one _) ?_; intro wd hd hb hs; have QD := hid hd; have XD := hid hb; have SD := hid hs; clear hd hb hs)
      | (refine wpList_load_row rfl 50 (Operand.tmp 6) rfl w1.heap.size rfl 50 (ArrU8 l) (0, 0) _ ((XD.out.block w1.heap.size (by have := XC.out.size; have := SB.out; omega)).trans ((XC.out.block w1.heap.size (by have := SB.out; omega)).trans QB.out)) Tryz.underlying50 rfl (by rw [HI35.out, SL.out]) ?_)
      | (refine wpList_load_row rfl 50 (Operand.tmp 8) rfl w2.heap.size rfl 50 (ArrU8 l2) (0, 0) _ QD.out Tryz.underlying50 rfl (by rw [HI35.out, SL2.out]) ?_)
      | (refine wpList_of_run rfl (exec_neq_blk (Operand.tmp 32) (Operand.tmp 33) 50 rfl l l2 rfl rfl HL.out HL2.out false (by simp [gL])) ?_))
     go_roundw
     case rel => exact ⟨i + 1, by go_num, by omega, by go_num, v', HTL.out.trans (HTE.out.post XD.out)⟩
     case measure => simp [intOf]; omega
    ·have gE : (E != E2) = true := bne_iff_ne.2 hee
     go_wp2_with (first
      | (refine wpList_store_nw rfl 50 (Operand.tmp 8) (Operand.tmp 30) rfl w2 _ 50 rfl w2.heap.size (ArrU8 l2) rfl rfl rfl (by rw [HI35.out, SL2.out]) (by rw [SZ.out, SL2.out]) (ArrU8_one _) ?_; intro wd hd hb hs; have QD := hid hd; have XD := hid hb; have SD := hid hs; clear hd hb hs)
      | (refine wpList_load_row rfl 50 (Operand.tmp 6) rfl w1.heap.size rfl 50 (ArrU8 l) (0, 0) _ ((XD.out.block w1.heap.size (by have := XC.out.size; have := SB.out; omega)).trans ((XC.out.block w1.heap.size (by have := SB.out; omega)).trans QB.out)) Tryz.underlying50 rfl (by rw [HI35.out, SL.out]) ?_)
      | (refine wpList_load_row rfl 50 (Operand.tmp 8) rfl w2.heap.size rfl 50 (ArrU8 l2) (0, 0) _ QD.out Tryz.underlying50 rfl (by rw [HI35.out, SL2.out]) ?_)
      | (refine wpList_of_run rfl (exec_neq_blk (Operand.tmp 32) (Operand.tmp 33) 50 rfl l l2 rfl rfl HL.out HL2.out false (by simp [gL])) ?_))
     go_ret
     exact ⟨false, rfl, v', HTL.out.trans (HTE.out.post XD.out)⟩
   ·have gL := hll
    go_wp2_with (first
     | (refine wpList_store_nw rfl 50 (Operand.tmp 8) (Operand.tmp 30) rfl w2 _ 50 rfl w2.heap.size (ArrU8 l2) rfl rfl rfl (by rw [HI35.out, SL2.out]) (by rw [SZ.out, SL2.out]) (ArrU8_one _) ?_; intro wd hd hb hs; have QD := hid hd; have XD := hid hb; have SD := hid hs; clear hd hb hs)
     | (refine wpList_load_row rfl 50 (Operand.tmp 6) rfl w1.heap.size rfl 50 (ArrU8 l) (0, 0) _ ((XD.out.block w1.heap.size (by have := XC.out.size; have := SB.out; omega)).trans ((XC.out.block w1.heap.size (by have := SB.out; omega)).trans QB.out)) Tryz.underlying50 rfl (by rw [HI35.out, SL.out]) ?_)
     | (refine wpList_load_row rfl 50 (Operand.tmp 8) rfl w2.heap.size rfl 50 (ArrU8 l2) (0, 0) _ QD.out Tryz.underlying50 rfl (by rw [HI35.out, SL2.out]) ?_)
     | (refine wpList_of_run rfl (exec_neq_blk (Operand.tmp 32) (Operand.tmp 33) 50 rfl l l2 rfl rfl HL.out HL2.out true (by simp [gL])) ?_))
    go_ret
    exact ⟨false, rfl, v', HTL.out.trans (HTE.out.post XD.out)⟩
  ·have hle : ¬ (i : Int) ≤ (N : Int) := by omega
   clear htl h1 hcap hnl hlt
   go_wp2_with fail
   go_loopw [10] (fun iv wr => ∃ j : Nat, iv = .int .i64 (j : Int) ∧ j ≤ 16 ∧ ∃ v1, WE k v rs W w v1 wr) (fun iv _ => 16 - (intOf iv).toNat)
   case atStart => exact ⟨0, rfl, by omega, v1, HTL.out⟩
   case round =>
    clear HTL c0
    obtain ⟨j, rfl, hj, v2, htl⟩ := hrel
    have HT2 := hid htl
    by_cases hlt : j < 16
    ·have hjl : (j : Int) < 16 := by omega
     obtain ⟨R, R2, hr1, hr2⟩ := wx_root (HH.out.step htl) (j : Int)
     have HR1 := hid hr1
     have HR2 := hid hr2
     clear hr1 hr2 htl hlt
     go_wp2_with fail
     refine HR1.out.mono ?_
     rintro e w3 ⟨rfl, rfl⟩
     go_wp2_with fail
     refine HR2.out.mono ?_
     rintro e w3 ⟨rfl, rfl⟩
     by_cases hR : R = R2
     ·subst hR
      go_wp2_with fail
      go_roundw
      case rel => exact ⟨j + 1, by go_num, by go_num, v2, HT2.out⟩
      case measure => simp [intOf]; omega
     ·have gR : (R != R2) = true := bne_iff_ne.2 hR
      go_wp2_with fail
      go_ret
      exact ⟨false, rfl, v2, HT2.out⟩
    ·obtain rfl : j = 16 := by omega
     clear htl hlt
     go_wp2_with fail
     go_ret
     exact ⟨true, rfl, v2, HT2.out⟩
end
end Go.Proofs.YtdkjkibdncbibaaGreat
/- PageCrash: the walk -/
namespace Go.Proofs.YtdkjkibdncbibaaGreat
open Go.RowKit
open Go.Lib (hid)
theorem arrU8_inj : ∀ (l m : List Int), ArrU8 l = ArrU8 m → l = m
 | [], [], _ => rfl
 | [], y :: m, h => by simp [ArrU8] at h
 | x :: l, [], h => by simp [ArrU8] at h
 | x :: l, y :: m, h => by
  have h2 := congrArg Array.toList h
  simp only [ArrU8, List.map_cons, List.cons.injEq, Value.int.injEq, true_and] at h2
  rw [h2.1, arrU8_inj l m (by simp only [ArrU8, h2.2])]
/-- behind play: the disk's bytes, and which pages they are -/
def PFin (k : PK) (P A : Nat) (t : TU) (l2 : List (List Int)) (w : World) : Prop :=
 ∃ s lv, DkS w k.B k.D k.M k.nb k.rm s lv ∧ s.L.length ≤ 8192 ∧ (∀ ks tt, OKR A k (upF s.f s.L ks tt) t.was ∨ OKR A k (upF s.f s.L ks tt) l2) ∧ (∀ g, Foot k.D k.M lv g → UF k P t g) ∧ nAt (z0 t.was) 0 ≤ t.was.length ∧ 0 < t.was.length ∧ t.was.length ≤ 4096 ∧ ∀ l ∈ t.was, Rng l
theorem pfin {k : PK} {Bx P A n : Nat} {t : TU} {l2 : List (List Int)} {w : World} (hA : A = 6 + 3 * n)
  (h : (TwoU k Bx P t w ∧ t.v.s.L = [] ∧ l2 = t.was ∧ t.v.a ≤ 1 + 2 * n ∧ t.v.b ≤ 1 + n) ∨ (Fd k Bx P t w ∧ nAt (z0 t.was) 0 ≤ t.was.length ∧ Crash k t.v.s fun g => OKR A k g t.was ∨ OKR A k g l2)) : PFin k P A t l2 w ∧ Bx < w.heap.size := by
 have hf : ∀ g, Foot k.D k.M t.v.lv g → UF k P t g := fun g hg => .inl (.inl (.inl hg))
 rcases h with ⟨h, hL, -, ha, hb⟩ | ⟨h, hu, hc⟩
 ·refine ⟨⟨t.v.s, t.v.lv, h.pg.ls.dk, by rw [hL]; exact Nat.zero_le _, fun ks tt => .inl ?_, hf, h.us, by rw [h.rf.ln]; exact h.rf.pg.ne, by rw [h.rf.ln]; exact h.len, h.rf.rw⟩, by have := h.rf.pg.bp; have := h.rf.pg.lt.1; omega⟩
  rw [hL, upF_nil]
  exact ⟨t.W, h.pl.okd.mono (by omega), by rw [← h.pm.h0]; exact h.pj.u0, h.w0, h.rw⟩
 ·exact ⟨⟨t.v.s, t.v.lv, h.pg.ls.dk, hc.2.1, fun ks tt => hc.2.2 ks tt, hf, hu, by rw [h.rf.ln]; exact h.rf.pg.ne, by rw [h.rf.ln]; exact h.ln, h.rf.rw⟩, by have := h.rf.pg.bp; have := h.rf.pg.lt.1; omega⟩
theorem rel_rng {N : Nat} {W : Int → List Int} {l : List (List Int)} (h : Rel N W l) (hW : ∀ n, (W n).length = 256 ∧ Rng (W n)) : ∀ x ∈ l, Rng x := fun x hx => by
 obtain ⟨i, hi⟩ := List.mem_iff_getElem?.1 hx
 have h1 : i < N := by rw [← h.1]; exact (List.getElem?_eq_some_iff.1 hi).1
 rw [h.2 i h1] at hi
 injection hi with hi
 rw [← hi]
 exact (hW _).2
set_option maxRecDepth 100000 in
set_option maxHeartbeats 12800000 in
theorem crash_walk5 (hold junk fuse torn : Int) (va kv : Value) (xs : List S5) (ks : List Bool) (w : World) (hva : Steps5 w va xs) (hkv : Bools w kv ks) (hlx : xs.length ≤ 1048576) (hlk : ks.length ≤ 140737488355328) (hfu : fuse ≤ 9223372036854775807) :
    Calls Tryz.prog 4 #[.int .i64 hold, .int .u8 junk, va, .int .i64 fuse, kv, .int .i64 torn] w fun e w' => e = .returned (.bool true) ∧ Below w.heap.size w w' := by
  have HI35 := hid (show (Tryz.prog.info? 50).map (·.size) = some 256 by kernel_rfl)
  have SZ := hid (show (ArrU8 (zeros 256)).size = 256 by rw [ArrU8_size, zeros_len])
  have hz := zero35
  have hbl0 : ∀ u : World, (Instr.build 50 #[]).run Tryz.prog u = .ok (.agg (ArrU8 (zeros 256))) u := fun u => by kernel_rfl
  have HFX := hid (fixed5_any w)
  have HVA := hid hva
  have HKV := hid hkv
  have HLX := hid (And.intro hlx hlk)
  clear hva hkv hlx hlk
  go_enter Tryz.func4, Tryz.ntmps4
  go_wp2_with fail
  refine HFX.out.mono ?_
  rintro e w1 ⟨rfl, hb1⟩
  have HB1 := hid hb1
  have HLD0 := hid (laid_any 40 junk w1 (by decide) (by decide))
  clear hb1 HFX
  go_wp2_with fail
  refine HLD0.out.mono ?_
  rintro e w2 ⟨ga, rfl, hld, hb2⟩
  have HSY := hid (ldi_sync hld)
  have HB2 := hid hb2
  clear hld hb2 HLD0
  go_wp2_with fail
  refine HSY.out.mono ?_
  rintro e w2s ⟨⟨E0, rfl⟩, hld, hcs, hBD⟩
  have hb2s : Below w1.heap.size w1 w2s := HB2.out.trans (hcs.below (B := w1.heap.size) (fun g e => by omega) HB2.out.size)
  have hst := two_start_f hld 16 (by decide) (by decide) (by decide) hold fuse hfu hb2s.size
  simp only [show ((16 : Nat) : Int) = 16 from rfl] at hst
  have HST := hid hst
  have HB2s := hid hb2s
  clear hld hb2s hst HSY hcs hBD
  go_wp2_with fail
  refine HST.out.mono ?_
  rintro e w3 ⟨rfl, hop⟩
  have HOP := hid (hop w3 (Below.refl _ _))
  clear hop HST
  go_wp2_with fail
  refine HOP.out.mono ?_
  rintro e w4 ⟨k, hkD, hks, hkn, hkr, hkB, rfl, hnw⟩
  have HAR := hid (hnw w4 (Below.refl _ _))
  have HK := hid (And.intro hkD (And.intro hks (And.intro hkn (And.intro hkr hkB))))
  clear hnw hkD hks hkn hkr hkB HOP
  go_wp2_with fail
  refine HAR.out.mono ?_
  rintro e w4a ⟨rfl, hnw⟩
  have HNW := hid (hnw w4a (Below.refl _ _))
  clear hnw HAR
  go_wp2_with fail
  refine HNW.out.mono ?_
  rintro e w5 ⟨Bx, P, t, rfl, htw, hL0, hnow, hta, htb, hbe, htf⟩
  have hplay := play_f k Bx P w1.heap.size w1 t w5 va xs htw (by rw [HK.out.2.2.1, HK.out.2.2.2.1]; exact Int.le_refl _) hL0 (by omega) (by omega) (HVA.out.below HB1.out) HLX.out.1 (HB2s.out.trans hbe) ((HB2s.out.trans hbe).size) (Nat.le_refl _) htf hnow
  rw [HK.out.1] at hplay
  have HPL := hid hplay
  clear htw hL0 hnow hta htb hbe htf HNW hplay
  go_wp2_with fail
  refine HPL.out.mono ?_
  rintro e w6 ⟨t1, gf, cap, a, n, c, u1, u2, g2, cap2, l2, a2, n2, c2, u3, u4, rfl, hbk, hbk2, hbw, hap, hgf, hg2, hor⟩
  obtain ⟨hpf, hBx⟩ := pfin (n := xs.length) rfl hor
  have HPF := hid hpf
  have HBK := hid (And.intro hbk hbk2)
  have HQ := hid (And.intro hBx (And.intro hbw (And.intro hap (And.intro hgf hg2))))
  clear hbk hbk2 hbw hap hgf hg2 hpf hBx HPL hor
  go_wp2_with fail
  obtain ⟨hBx, hbw, hap, hgf, hg2⟩ := HQ.out
  obtain ⟨hbk, hbk2⟩ := HBK.out
  obtain ⟨s, lv, hd, hL, hcr, hfo, hus, hne, hln, hrg⟩ := HPF.out
  have HPX := hid (And.intro hd (And.intro hL (And.intro hcr (And.intro hfo (And.intro hus (And.intro hne (And.intro hln hrg)))))))
  clear HPF
  obtain ⟨hkD, hks, hkn, hkr, hkB⟩ := HK.out
  generalize hw7 : World.alloc (World.alloc w6 _) _ = w7
  have hb7 : Below w6.heap.size w6 w7 := by rw [← hw7]; exact bl_al5 (bl_al5 (Below.refl _ _) _) _
  have h12 : w7.heap[w6.heap.size]? = some (PB (.slice (some ⟨gf, 0, none⟩) t1.was.length cap) (.slice a n c) u1 u2) := by
    rw [← hw7]; exact (((Below.refl _ _).alloc (Nat.le_refl _) _).block _ (by simp)).trans (heap_alloc_new _ _)
  have h13 : w7.heap[w6.heap.size + 1]? = some (PB (.slice (some ⟨g2, 0, none⟩) l2.length cap2) (.slice a2 n2 c2) u3 u4) := by
    have e6 : w6.heap.size + 1 = (w6.alloc (PB (.slice (some ⟨gf, 0, none⟩) t1.was.length cap) (.slice a n c) u1 u2)).heap.size := by simp
    rw [← hw7, e6]; exact heap_alloc_new _ _
  have hl12 := hlt5 h12
  have hl13 := hlt5 h13
  have hd7 : Dk w7 k.B k.D k.M k.nb k.rm s.fz s.dn s.f s.L lv := Dk.chg hd (Chg.fresh (F := fun _ => False) hb7) (fun _ _ h => h)
  have hk1 : Bools w7 kv ks := ((HKV.out.below HB1.out).below hbw).below hb7
  have hDl := hap k.D (hfo _ (.inl rfl))
  have hMl := hap k.M (hfo _ (.inr (.inl rfl)))
  have hDs := (Dk.foot hd k.D (.inl rfl)).2
  have hMs := (Dk.foot hd k.M (.inr (.inl rfl))).2
  have hkd : ∀ b o n c, kv = .slice (some ⟨b, o, none⟩) n c → 0 < ks.length → b ≠ k.M := fun b o n c hv h0 => by
    obtain ⟨a0, c0, hv0, hx⟩ := HKV.out
    obtain ⟨b1, o1, rfl, hb, -⟩ := hx h0
    rw [hv0] at hv
    injection hv with h1
    injection h1 with h1
    injection h1 with h1
    have := HB1.out.size
    omega
  have hup : Calls Tryz.prog 17 #[.pointer (some ⟨w1.heap.size + 1, 0, none⟩), kv, .int .i64 torn] w7 fun e w' => e = .returned (.tuple #[]) ∧ Dk w' k.B k.D k.M k.nb k.rm (-1) false (upF s.f s.L ks torn) [] (.slice none 0 0) ∧ Chg (fun q => q = k.D ∨ q = k.M) w7 w' := by
    rw [← hkD]
    exact up_any k.B k.D k.M k.nb k.rm s.fz torn s.dn s.f s.L lv kv ks w7 hd7 hk1 hkd (by omega) HLX.out.2
  have HUP := hid hup
  have HW7 := hid (And.intro hb7 (And.intro h12 (And.intro h13 (And.intro hl12 (And.intro hl13 (And.intro hDs hMs))))))
  clear hBx hbw hap hgf hg2 hbk hbk2 hd hL hcr hfo hus hne hln hrg hkD hks hkn hkr hkB hw7 hb7 h12 h13 hl12 hl13 hd7 hk1 hDl hMl hDs hMs hkd hup
  refine HUP.out.mono ?_
  rintro e w8 ⟨rfl, hd8, hc8⟩
  obtain ⟨hBx, hbw, hap, hgf, hg2⟩ := HQ.out
  obtain ⟨hbk, hbk2⟩ := HBK.out
  obtain ⟨hd, hL, hcr, hfo, hus, hne, hln, hrg⟩ := HPX.out
  obtain ⟨hkD, hks, hkn, hkr, hkB⟩ := HK.out
  obtain ⟨hb7, h12, h13, hl12, hl13, hDs, hMs⟩ := HW7.out
  obtain ⟨lst, hls, W, hok, hu, hW, hrel⟩ : ∃ lst, (lst = t1.was ∨ lst = l2) ∧ OKR (6 + 3 * xs.length) k (upF s.f s.L ks torn) lst := by
    rcases hcr ks torn with h | h
    · exact ⟨_, .inl rfl, h⟩
    · exact ⟨_, .inr rfl, h⟩
  generalize upF s.f s.L ks torn = f8 at *
  have hn6 : ∀ q, q = k.D ∨ q = k.M → q < w6.heap.size ∧ q ≠ gf ∧ q ≠ g2 := fun q hq => by
    rcases hq with e | e
    · have := hap k.D (hfo _ (.inl rfl)); rw [e]; exact ⟨hDs, this.2⟩
    · have := hap k.M (hfo _ (.inr (.inl rfl))); rw [e]; exact ⟨hMs, this.2⟩
  have hgfl := hbk.2.2.1
  have hg2l := hbk2.2.2.1
  have s7 := hb7.size
  have s8 := hc8.size
  have k12 := (hc8.block _ hl12 (fun e => by have := hn6 _ e; omega)).trans h12
  have k13 := (hc8.block _ hl13 (fun e => by have := hn6 _ e; omega)).trans h13
  have kbk := (hbk.of (hb7.block gf hgfl) (by omega)).of (hc8.block gf (by omega) (fun e => (hn6 _ e).2.1 rfl)) (by omega)
  have kbk2 := (hbk2.of (hb7.block g2 hg2l) (by omega)).of (hc8.block g2 (by omega) (fun e => (hn6 _ e).2.2 rfl)) (by omega)
  have hll : lst.length = nP k := hrel.1
  have hnP : nP k = 24 := by unfold nP; rw [hkn, hks]; decide
  have rp1 : RPg w8 Bx w6.heap.size gf (.slice (some ⟨gf, 0, none⟩) t1.was.length cap) (.slice a n c) u1 u2 t1.was :=
    { box := k12, nw := kbk, np := by omega, bp := by omega, rg := hrg, ne := hne }
  have rp2 : lst = l2 → RPg w8 Bx (w6.heap.size + 1) g2 (.slice (some ⟨g2, 0, none⟩) l2.length cap2) (.slice a2 n2 c2) u3 u4 l2 := fun e =>
    { box := k13, nw := kbk2, np := by omega, bp := by omega, rg := e ▸ rel_rng hrel hW, ne := by rw [← e]; omega }
  have hw8 : Below w1.heap.size w1 w8 := (hbw.trans (hb7.mono hbw.size)).trans (hc8.below (B := w1.heap.size) (fun q e => by rcases e with e | e; (rw [e]; exact (hap k.D (hfo _ (.inl rfl))).1); (rw [e]; exact (hap k.M (hfo _ (.inr (.inl rfl)))).1)) (by have := hbw.size; omega))
  have hopn := p1_anew hold hd8 hok hu hW (by rw [hks, hkn]; decide) (by rw [hkn, hkr]; exact Int.le_refl _)
  rw [show (#[.pointer (some ⟨k.D, 0, none⟩), .int .i64 k.sz, .int .i64 hold] : Array Value) = #[.pointer (some ⟨w1.heap.size + 1, 0, none⟩), .int .i64 16, .int .i64 hold] by rw [hkD, hks]] at hopn
  have HON := hid hopn
  have HL8 := hid (And.intro hls (And.intro hrel hW))
  have HR8 := hid (And.intro rp1 rp2)
  have HB8 := hid (And.intro hw8 s8)
  have HD8 := hid (show ∀ q, q = k.D ∨ q = k.M → w1.heap.size ≤ q ∧ q < w6.heap.size ∧ q ≠ gf ∧ q ≠ g2 from fun q hq => ⟨by rcases hq with e | e; (rw [e]; exact (hap k.D (hfo _ (.inl rfl))).1); (rw [e]; exact (hap k.M (hfo _ (.inr (.inl rfl)))).1), hn6 q hq⟩)
  have HU8 := hid (And.intro hus hln)
  have HZ8 := hid (And.intro hgfl (And.intro hg2l s7))
  have HT8 := hid (And.intro hl12 hl13)
  clear hBx hbw hap hgf hg2 hbk hbk2 hd hL hcr hfo hus hne hln hrg hkD hks hkn hkr hkB hb7 h12 h13 hl12 hl13 hDs hMs hls hok hu hW hrel hn6 hgfl hg2l s7 s8 k12 k13 kbk kbk2 hll hnP rp1 rp2 hw8 hopn hd8 hc8 HUP HQ HBK HPX HW7
  go_wp2_with fail
  refine HON.out.mono ?_
  rintro e w9 ⟨kq, vq, rs, rfl, q1, q2, q3, q4, q5, q6, pq, qs, ql, qa, qb, qn, hc9, hqf⟩
  obtain ⟨hls, hrel, hW⟩ := HL8.out
  obtain ⟨rp1, rp2⟩ := HR8.out
  obtain ⟨hw8, s8⟩ := HB8.out
  obtain ⟨hus, hln⟩ := HU8.out
  obtain ⟨hgfl, hg2l, s7⟩ := HZ8.out
  obtain ⟨hl12, hl13⟩ := HT8.out
  obtain ⟨hkD, hks, hkn, hkr, hkB⟩ := HK.out
  have hF : ∀ q, Foot k.D k.M (.slice none 0 0) q → q = k.D ∨ q = k.M := fun q h => by
    rcases h with h | h | h
    · exact .inl h
    · exact .inr h
    · cases h
  have hN : ∀ q, Foot k.D k.M (.slice none 0 0) q → w1.heap.size ≤ q ∧ q < w6.heap.size ∧ q ≠ gf ∧ q ≠ g2 := fun q h => HD8.out q (hF q h)
  have r1 := rp1.chg hc9 (fun e => by have := hN _ e; omega) (fun e => (hN _ e).2.2.1 rfl)
  have r2 := fun e => (rp2 e).chg hc9 (fun e => by have := hN _ e; omega) (fun e => (hN _ e).2.2.2 rfl)
  have hap9 : ∀ g, PF kq vq g → (g ≠ w6.heap.size ∧ g ≠ gf) ∧ (g ≠ w6.heap.size + 1 ∧ g ≠ g2) ∧ w1.heap.size ≤ g := fun g hg => by
    rcases hqf g hg with e | e
    · have := hN g e; exact ⟨⟨by omega, this.2.2.1⟩, ⟨by omega, this.2.2.2⟩, this.1⟩
    · have h1 := hw8.size
      exact ⟨⟨by omega, by omega⟩, ⟨by omega, by omega⟩, by omega⟩
  have e9 : nP kq = nP k := by unfold nP; rw [q4, q6]
  have hrq : Rel (nP kq) (NL vq W) lst := by rw [e9]; exact hrel.congr qn
  have hw9 : Below w1.heap.size w1 w9 := hw8.trans (hc9.below (B := w1.heap.size) (fun q h => (hN q h).1) hw8.size)
  have hs1 : Calls Tryz.prog 13 #[.pointer (some ⟨kq.P, 0, none⟩), .pointer (some ⟨w6.heap.size, 0, none⟩)] w9 fun e w' => ∃ r : Bool, e = .returned (.bool r) ∧ (r = false → lst = l2) ∧ ∃ v', WE kq vq rs W w9 v' w' := by
    rcases hls with e | e
    · subst e
      refine (same_wk ⟨pq, r1, fun g hg => (hap9 g hg).1, hrq⟩).mono ?_
      rintro e w' ⟨rfl, hwe⟩
      exact ⟨true, rfl, (fun h => by cases h), hwe⟩
    · refine (same_wx ⟨pq, r1, fun g hg => (hap9 g hg).1, hln, hus⟩).mono ?_
      rintro _ w' ⟨r, rfl, hwe⟩
      exact ⟨r, rfl, fun _ => e, hwe⟩
  have HS1 := hid hs1
  have HQ9 := hid (And.intro pq (And.intro r2 (And.intro hap9 (And.intro hrq hw9))))
  have HK9 := hid (show kq.D = w1.heap.size + 1 ∧ kq.sz = 16 ∧ Calm2 kq vq ∧ vq.s.L = [] ∧ vq.a ≤ 6 + 3 * xs.length ∧ vq.b ≤ 6 + 3 * xs.length ∧ (∀ m, NL vq W m = W m) from ⟨q2.trans hkD, q6.trans hks, ⟨by rw [qs], by rw [q4, q5, hkn, hkr]; exact Int.le_refl _⟩, by rw [qs], qa, qb, qn⟩)
  clear hls hrel hW rp1 rp2 hw8 s8 hus hln hgfl hg2l s7 hl12 hl13 hkD hks hkn hkr hkB hF hN r1 r2 hap9 e9 hrq hw9 hs1 q1 q2 q3 q4 q5 q6 pq qs ql qa qb qn hc9 hqf HON HL8 HR8 HB8 HD8 HU8 HZ8 HT8
  go_wp2_with fail
  refine HS1.out.mono ?_
  rintro e wS ⟨r, rfl, hr, v', hwe⟩
  clear HS1
  cases r with
  | true =>
    have HWE := hid hwe
    clear hwe hr
    have HAL := hid (p1_alloc_l HWE.out.1.1 (show Rel (nP kq) (NL v' W) lst by rw [HWE.out.2.1]; exact HQ9.out.2.2.2.1))
    go_wp2_with fail
    refine HAL.out.mono ?_
    rintro e wA ⟨A, E, rfl, hE, hA, vA, hpA, hrA, hge⟩
    have hrr : Rel (nP kq) W lst := by
      have := HQ9.out.2.2.2.1
      exact this.congr (fun m => (HK9.out.2.2.2.2.2.2 m).symm)
    have hdif := rel_dif hpA.1.pl hpA.1.pj hpA.1.pm (hpA.1.w0 0) hrA hrr
    have hd2 := difL_ral lst
    have hsA : vA.s = vq.s := hpA.2.2.1.trans HWE.out.1.2.2.1
    have hco := p1_commit_l hpA.1 ⟨by rw [hsA]; exact HK9.out.2.2.1.1, HK9.out.2.2.1.2⟩ (by rw [hsA]; exact HK9.out.2.2.2.1) (by have := hpA.2.2.2.1; have := HWE.out.1.2.2.2.1; have := HK9.out.2.2.2.2.1; have := HLX.out.1; omega) (by have := hpA.2.2.2.2; have := HWE.out.1.2.2.2.2; have := HK9.out.2.2.2.2.2.1; have := HLX.out.1; omega) (by rw [hdif]; omega) HK9.out.2.1
    have HCO := hid hco
    have HPA := hid (And.intro hpA (And.intro hrA (And.intro hge hA)))
    clear hrr hdif hd2 hsA hco hpA hrA hge hA HAL
    go_wp2_with fail
    refine HCO.out.mono ?_
    rintro e wB ⟨rfl, vB, rsB, Wn, pB, hWn, hpe⟩
    have hpe2 := (HWE.out.1.2.1.trans HPA.out.1.2.1).trans hpe
    have hwB : Below w1.heap.size w1 wB := HQ9.out.2.2.2.2.trans (hpe2.2.1.below (fun g hg => (HQ9.out.2.2.1 g hg).2.2) HQ9.out.2.2.2.2.size)
    have hopn := p1_open pB hold
    rw [show (#[.pointer (some ⟨kq.D, 0, none⟩), .int .i64 kq.sz, .int .i64 hold] : Array Value) = #[.pointer (some ⟨w1.heap.size + 1, 0, none⟩), .int .i64 16, .int .i64 hold] by rw [HK9.out.1, HK9.out.2.1]] at hopn
    have HON := hid hopn
    have HPB := hid (And.intro hWn hwB)
    have hfB : ∀ g, Foot kq.D kq.M vB.lv g → w1.heap.size ≤ g := fun g hg => by
      rcases hpe2.2.2 g (.inl (.inl hg)) with e | e
      · exact (HQ9.out.2.2.1 g e).2.2
      · have := HQ9.out.2.2.2.2.size; omega
    have HFB := hid hfB
    clear hpe hpe2 hwB hopn hWn hfB HCO
    go_wp2_with fail
    refine HON.out.mono ?_
    rintro e wC ⟨kC, vC, rfl, -, -, -, qn4, -, qn6, pC, -, -, qnC, -, hcC, hqC⟩
    have hwC : Below w1.heap.size w1 wC := HPB.out.2.trans (hcC.below HFB.out HPB.out.2.size)
    have HWC := hid hwC
    have hgC : E = 0 → geR kC vC A = (zeros 256, 0) := fun h0 => by
      have h1 := rel_get HPA.out.1.1.pl HPA.out.1.1.pj HPA.out.1.1.pm HPA.out.2.1 A
      have e9 : nP kC = nP kq := by unfold nP; rw [qn4, qn6]
      have h2 := rel_get pC.pl pC.pj pC.pm (show Rel (nP kC) (NL vC Wn) (ralN lst) by rw [e9]; exact HPA.out.2.1.congr (fun m => (qnC m).trans (HPB.out.1 m))) A
      rw [h1, HPA.out.2.2.1 h0] at h2
      injection h2 with h2
      simp only [Array.mk.injEq, List.cons.injEq, and_true, Value.agg.injEq, Value.int.injEq, true_and] at h2
      exact Prod.ext (arrU8_inj _ _ h2.1).symm h2.2.symm
    have HGC := hid hgC
    have HGE := hid (p1_get pC A HPA.out.2.2.2)
    have HPC := hid (show ∀ g, PF kC vC g → w1.heap.size ≤ g from fun g hg => by
      rcases hqC g hg with e | e
      · exact HFB.out g e
      · have := HPB.out.2.size; omega)
    clear hwC hgC pC qnC qn4 qn6 hcC hqC HON
    rcases hE with rfl | rfl
    · have hg0 := HGC.out rfl
      have HG0 := hid hg0
      clear hg0
      go_wp2_with fail
      refine HGE.out.mono ?_
      rintro e wD ⟨rfl, hl, vD, hpD, -⟩
      have hwD : Below w1.heap.size w1 wD := HWC.out.trans (hpD.2.1.2.1.below HPC.out HWC.out.size)
      have HWD := hid hwD
      rw [HG0.out]
      clear hl hpD hwD
      go_wp2_with (first
        | (refine wpList_store_nw rfl 50 (Operand.tmp 26) (Operand.tmp 111) rfl wD _ 50 rfl wD.heap.size (ArrU8 (zeros 256)) rfl rfl rfl (by rw [HI35.out, SZ.out]) (by rw [SZ.out]) (ArrU8_one _) ?_; intro wE hd hb hs; have QE := hid hd; have XE := hid hb; clear hd hb hs)
        | (refine wpList_load_rowG (by rfl) 50 (Operand.tmp 26) rfl wD.heap.size rfl 50 (ArrU8 (zeros 256)) (0, 0) _ QE.out Tryz.underlying50 rfl (by rw [HI35.out, SZ.out]) ?_)
        | (refine wpList_of_runG (by rfl) (exec_eql_blk (Operand.tmp 124) (Operand.tmp 125) 50 rfl (zeros 256) (zeros 256) rfl rfl (zeros_len _) (zeros_len _) true (by simp)) ?_))
      go_ret
      exact ⟨rfl, HB1.out.trans ((HWD.out.trans (XE.out.mono HWD.out.size)).mono HB1.out.size)⟩
    · go_wp2_with fail
      go_ret
      exact ⟨rfl, HB1.out.trans (HWC.out.mono HB1.out.size)⟩
  | false =>
    have hle := hr rfl
    have hws := hwe
    have hs2 := same_wk (k := kq) (Bx := Bx) (P := w6.heap.size + 1) ⟨hwe.1.1, (HQ9.out.2.1 hle).chg hwe.1.2.1.2.1 (fun e => (HQ9.out.2.2.1 _ e).2.1.1 rfl) (fun e => (HQ9.out.2.2.1 _ e).2.1.2 rfl), fun g hg => ?_, by rw [hwe.2.1, ← hle]; exact HQ9.out.2.2.2.1⟩
    rotate_left
    · have h1 := (HQ9.out.2.1 hle).lt
      rcases hwe.1.2.1.2.2 g hg with e | e
      · exact (HQ9.out.2.2.1 g e).2.1
      · exact ⟨by omega, by omega⟩
    have HS2 := hid hs2
    have HWS := hid hwe
    clear hle hws hs2 hwe hr
    go_wp2_with fail
    refine HS2.out.mono ?_
    rintro e wT ⟨rfl, vT, hwe2⟩
    have HWE := hid (HWS.out.trans hwe2)
    clear hwe2 HS2 HWS
    have HAL := hid (p1_alloc_l HWE.out.1.1 (show Rel (nP kq) (NL vT W) lst by rw [HWE.out.2.1]; exact HQ9.out.2.2.2.1))
    go_wp2_with fail
    refine HAL.out.mono ?_
    rintro e wA ⟨A, E, rfl, hE, hA, vA, hpA, hrA, hge⟩
    have hrr : Rel (nP kq) W lst := by
      have := HQ9.out.2.2.2.1
      exact this.congr (fun m => (HK9.out.2.2.2.2.2.2 m).symm)
    have hdif := rel_dif hpA.1.pl hpA.1.pj hpA.1.pm (hpA.1.w0 0) hrA hrr
    have hd2 := difL_ral lst
    have hsA : vA.s = vq.s := hpA.2.2.1.trans HWE.out.1.2.2.1
    have hco := p1_commit_l hpA.1 ⟨by rw [hsA]; exact HK9.out.2.2.1.1, HK9.out.2.2.1.2⟩ (by rw [hsA]; exact HK9.out.2.2.2.1) (by have := hpA.2.2.2.1; have := HWE.out.1.2.2.2.1; have := HK9.out.2.2.2.2.1; have := HLX.out.1; omega) (by have := hpA.2.2.2.2; have := HWE.out.1.2.2.2.2; have := HK9.out.2.2.2.2.2.1; have := HLX.out.1; omega) (by rw [hdif]; omega) HK9.out.2.1
    have HCO := hid hco
    have HPA := hid (And.intro hpA (And.intro hrA (And.intro hge hA)))
    clear hrr hdif hd2 hsA hco hpA hrA hge hA HAL
    go_wp2_with fail
    refine HCO.out.mono ?_
    rintro e wB ⟨rfl, vB, rsB, Wn, pB, hWn, hpe⟩
    have hpe2 := (HWE.out.1.2.1.trans HPA.out.1.2.1).trans hpe
    have hwB : Below w1.heap.size w1 wB := HQ9.out.2.2.2.2.trans (hpe2.2.1.below (fun g hg => (HQ9.out.2.2.1 g hg).2.2) HQ9.out.2.2.2.2.size)
    have hopn := p1_open pB hold
    rw [show (#[.pointer (some ⟨kq.D, 0, none⟩), .int .i64 kq.sz, .int .i64 hold] : Array Value) = #[.pointer (some ⟨w1.heap.size + 1, 0, none⟩), .int .i64 16, .int .i64 hold] by rw [HK9.out.1, HK9.out.2.1]] at hopn
    have HON := hid hopn
    have HPB := hid (And.intro hWn hwB)
    have hfB : ∀ g, Foot kq.D kq.M vB.lv g → w1.heap.size ≤ g := fun g hg => by
      rcases hpe2.2.2 g (.inl (.inl hg)) with e | e
      · exact (HQ9.out.2.2.1 g e).2.2
      · have := HQ9.out.2.2.2.2.size; omega
    have HFB := hid hfB
    clear hpe hpe2 hwB hopn hWn hfB HCO
    go_wp2_with fail
    refine HON.out.mono ?_
    rintro e wC ⟨kC, vC, rfl, -, -, -, qn4, -, qn6, pC, -, -, qnC, -, hcC, hqC⟩
    have hwC : Below w1.heap.size w1 wC := HPB.out.2.trans (hcC.below HFB.out HPB.out.2.size)
    have HWC := hid hwC
    have hgC : E = 0 → geR kC vC A = (zeros 256, 0) := fun h0 => by
      have h1 := rel_get HPA.out.1.1.pl HPA.out.1.1.pj HPA.out.1.1.pm HPA.out.2.1 A
      have e9 : nP kC = nP kq := by unfold nP; rw [qn4, qn6]
      have h2 := rel_get pC.pl pC.pj pC.pm (show Rel (nP kC) (NL vC Wn) (ralN lst) by rw [e9]; exact HPA.out.2.1.congr (fun m => (qnC m).trans (HPB.out.1 m))) A
      rw [h1, HPA.out.2.2.1 h0] at h2
      injection h2 with h2
      simp only [Array.mk.injEq, List.cons.injEq, and_true, Value.agg.injEq, Value.int.injEq, true_and] at h2
      exact Prod.ext (arrU8_inj _ _ h2.1).symm h2.2.symm
    have HGC := hid hgC
    have HGE := hid (p1_get pC A HPA.out.2.2.2)
    have HPC := hid (show ∀ g, PF kC vC g → w1.heap.size ≤ g from fun g hg => by
      rcases hqC g hg with e | e
      · exact HFB.out g e
      · have := HPB.out.2.size; omega)
    clear hwC hgC pC qnC qn4 qn6 hcC hqC HON
    rcases hE with rfl | rfl
    · have hg0 := HGC.out rfl
      have HG0 := hid hg0
      clear hg0
      go_wp2_with fail
      refine HGE.out.mono ?_
      rintro e wD ⟨rfl, hl, vD, hpD, -⟩
      have hwD : Below w1.heap.size w1 wD := HWC.out.trans (hpD.2.1.2.1.below HPC.out HWC.out.size)
      have HWD := hid hwD
      rw [HG0.out]
      clear hl hpD hwD
      go_wp2_with (first
        | (refine wpList_store_nw rfl 50 (Operand.tmp 26) (Operand.tmp 111) rfl wD _ 50 rfl wD.heap.size (ArrU8 (zeros 256)) rfl rfl rfl (by rw [HI35.out, SZ.out]) (by rw [SZ.out]) (ArrU8_one _) ?_; intro wE hd hb hs; have QE := hid hd; have XE := hid hb; clear hd hb hs)
        | (refine wpList_load_rowG (by rfl) 50 (Operand.tmp 26) rfl wD.heap.size rfl 50 (ArrU8 (zeros 256)) (0, 0) _ QE.out Tryz.underlying50 rfl (by rw [HI35.out, SZ.out]) ?_)
        | (refine wpList_of_runG (by rfl) (exec_eql_blk (Operand.tmp 124) (Operand.tmp 125) 50 rfl (zeros 256) (zeros 256) rfl rfl (zeros_len _) (zeros_len _) true (by simp)) ?_))
      go_ret
      exact ⟨rfl, HB1.out.trans ((HWD.out.trans (XE.out.mono HWD.out.size)).mono HB1.out.size)⟩
    · go_wp2_with fail
      go_ret
      exact ⟨rfl, HB1.out.trans (HWC.out.mono HB1.out.size)⟩
end Go.Proofs.YtdkjkibdncbibaaGreat
