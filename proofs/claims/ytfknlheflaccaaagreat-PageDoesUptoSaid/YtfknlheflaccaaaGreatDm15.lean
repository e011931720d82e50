/- what holds of a pager between calls -/
import Derived.Test.YtfknlheflaccaaaGreatDm14
namespace Go.Proofs.YtfknlheflaccaaaGreat
open Go.RowKit
theorem nodup_len : ∀ (N : Nat) (l : List Int), l.Nodup → (∀ x ∈ l, 0 ≤ x ∧ x < (N : Int)) → l.length ≤ N
 | 0, [], _, _ => Nat.le_refl _
 | 0, x :: r, _, h => by have := h x (by simp); omega
 | N + 1, l, hn, h => by
  by_cases hm : (N : Int) ∈ l
  ·have h1 := nodup_len N (l.erase (N : Int)) (hn.erase _) (fun x hx => by
    have h2 := (hn.mem_erase_iff).1 hx
    have h3 := h x h2.2
    have h4 : x ≠ (N : Int) := h2.1
    omega)
   rw [List.length_erase_of_mem hm] at h1
   omega
  ·have h1 := nodup_len N l hn (fun x hx => by
    have h3 := h x hx
    have h4 : x ≠ (N : Int) := fun e => hm (by rw [← e]; exact hx)
    omega)
   omega
/-- a cache between calls: at most so many, each as it is stored -/
structure CI (most N : Int) (S : Int → List Int → Prop) (ca : List (Int × List Int)) (od : List Int) : Prop where
 nd : (gk ca).Nodup
 pm : od.Perm (gk ca)
 kr : ∀ n ∈ gk ca, 0 ≤ n ∧ n < N
 ml : (od.length : Int) ≤ most
 co : ∀ n l, gl ca n = some l → S n l
theorem gl_mem {α : Type} {l : List (Int × α)} {n : Int} {b : α} (h : gl l n = some b) : n ∈ gk l := by
 rcases Classical.em (n ∈ gk l) with h1 | h1
 ·exact h1
 ·rw [gl_none.2 h1] at h; cases h
section
variable {most N : Int} {S : Int → List Int → Prop} {ca : List (Int × List Int)} {od : List Int}
theorem CI.len (h : CI most N S ca od) : (ca.length : Int) ≤ most ∧ ((0 ≤ N) → (od.length : Int) ≤ N) := by
 have h1 := h.pm.length_eq
 have h2 : (gk ca).length = ca.length := by simp [gk]
 have h3 := h.ml
 refine ⟨by omega, fun hN => ?_⟩
 have h4 := nodup_len N.toNat (gk ca) h.nd (fun x hx => by have := h.kr x hx; omega)
 omega
theorem CI.nil (hm : 0 ≤ most) : CI most N S [] [] := ⟨List.nodup_nil, List.Perm.refl _, fun n hn => by simp [gk] at hn, by simpa using hm, fun n l h => by simp [gl] at h⟩
theorem CI.put (h : CI most N S ca od) (n : Int) (b : List Int) (hb : S n b) (hn : n ∈ gk ca) : CI most N S (gp ca n b) od := by
 have hk : gk (gp ca n b) = gk ca := by rw [gk_gp, if_pos hn]
 refine ⟨by rw [hk]; exact h.nd, by rw [hk]; exact h.pm, by rw [hk]; exact h.kr, h.ml, fun m l hl => ?_⟩
 rw [gl_gp] at hl
 split at hl
 ·rename_i e; injection hl with hl; rw [← hl, e]; exact hb
 ·exact h.co m l hl
theorem CI.add (h : CI most N S ca od) (n : Int) (b : List Int) (hb : S n b) (hn : n ∉ gk ca) (hr : 0 ≤ n ∧ n < N) (hl : (od.length : Int) < most) : CI most N S (gp ca n b) (od ++ [n]) := by
 have hk : gk (gp ca n b) = gk ca ++ [n] := by rw [gk_gp, if_neg hn]
 refine ⟨?_, ?_, ?_, by simp; omega, fun m l hl => ?_⟩
 ·rw [hk, List.nodup_append]
  exact ⟨h.nd, by simp, fun a ha b hb => by rw [List.mem_singleton] at hb; intro e; exact hn (by rw [← hb, ← e]; exact ha)⟩
 ·rw [hk]; exact h.pm.append_right _
 ·rw [hk]
  intro m hm
  rcases List.mem_append.1 hm with h1 | h1
  ·exact h.kr m h1
  ·rw [List.mem_singleton] at h1; rw [h1]; exact hr
 ·rw [gl_gp] at hl
  split at hl
  ·rename_i e; injection hl with hl; rw [← hl, e]; exact hb
  ·exact h.co m l hl
theorem CI.room (h : CI most N S ca od) (hm : 1 ≤ most) : CI most N S (roomP most ca od).1 (roomP most ca od).2 ∧ ((roomP most ca od).2.length : Int) < most ∧ (∀ n, n ∉ gk ca → n ∉ gk (roomP most ca od).1) := by
 unfold roomP
 by_cases hl : (od.length : Int) < most
 ·rw [if_pos hl]; exact ⟨h, hl, fun _ h => h⟩
 ·rw [if_neg hl]
  cases od with
  | nil => simp at hl; omega
  | cons x r =>
   have hk := gk_gd ca x
   have hx : x ∈ gk ca := h.pm.mem_iff.1 (by simp)
   have hlen := h.ml
   simp only [List.length_cons] at hlen
   refine ⟨⟨?_, ?_, ?_, by simp only []; omega, fun m l hl => ?_⟩, by simp only []; omega, fun n hn hm => hn ?_⟩
   ·simp only [hk]; exact h.nd.erase _
   ·simp only [hk]
    have h1 := h.pm.erase x
    rwa [List.erase_cons_head] at h1
   ·simp only [hk]; intro m hm; exact h.kr m (List.mem_of_mem_erase hm)
   ·simp only [gl_gd ca x h.nd] at hl
    split at hl
    ·cases hl
    ·exact h.co m l hl
   ·simp only [hk] at hm; exact List.mem_of_mem_erase hm
theorem CI.keep (h : CI most N S ca od) (h0 : 0 ≤ most) (n : Int) (c : List Int) (hc : S n c) (hr : 0 ≤ n ∧ n < N) : CI most N S (keepP most ca od n c).1 (keepP most ca od n c).2 := by
 unfold keepP
 by_cases hm : most = 0
 ·rw [if_pos hm]; exact h
 ·rw [if_neg hm]
  cases hg : gl ca n with
  | some b => simp only [Option.isSome_some, if_true]; exact h.put n c hc (gl_mem hg)
  | none =>
   simp only [Option.isSome_none, Bool.false_eq_true, if_false]
   have h1 := h.room (by omega)
   exact h1.1.add n c hc (h1.2.2 n (gl_none.1 hg)) hr h1.2.1
end
/-- a block's bytes -/
def Blk (_ : Int) (l : List Int) : Prop := l.length = 256 ∧ Rng l
/-- a pager between calls -/
structure PJ (k : PK) (v : PV) : Prop where
 z1 : 3 ≤ k.sz
 z2 : k.sz < k.nb
 z3 : k.nb ≤ 4096
 m0 : 0 ≤ k.most
 lgr : ∀ n x, gl v.lg n = some x → 0 ≤ x ∧ x + 256 ≤ (k.sz - 2) * 256
 ci : CI k.most (k.nb - k.sz) Blk v.ca v.od
 chl : ∀ n l, gl v.ch n = some l → l.length = 256 ∧ Rng l
 chn : (gk v.ch).Nodup
 chr : ∀ n ∈ gk v.ch, 0 ≤ n ∧ n < k.nb - k.sz
 fl : ∀ n, (v.s.f n).length = 256
 fr : ∀ n, Rng (v.s.f n)
 b0 : ∀ n ∈ v.h0, n < 18446744073709551616
 b1 : ∀ n ∈ v.h1, n < 18446744073709551616
 u0 : 1 ≤ hN v.h0 0 ∧ (hN v.h0 0 : Int) ≤ k.nb - k.sz
 u1 : 1 ≤ hN v.h1 0 ∧ (hN v.h1 0 : Int) ≤ k.nb - k.sz
 l0 : v.h0.length = 18
 l1 : v.h1.length = 18
section
variable {k : PK} {v : PV}
theorem gb_rng {f : Int → List Int} (h : ∀ n, Rng (f n)) (p : Nat) : 0 ≤ gb f p ∧ gb f p < 256 := by
 unfold gb
 exact (h _).get _
theorem arRd_rng {f : Int → List Int} (h : ∀ n, Rng (f n)) (a : Nat) : Rng (arRd f a) := by
 intro x hx
 obtain ⟨i, _, rfl⟩ := List.mem_map.1 hx
 exact gb_rng h _
theorem PJ.sl (h : PJ k v) (n : Int) : (sto k v n).length = 256 := by
 unfold sto
 split
 ·exact arRd_len _ _
 ·exact h.fl _
theorem PJ.sr (h : PJ k v) (n : Int) : Rng (sto k v n) := by
 unfold sto
 split
 ·exact arRd_rng h.fr _
 ·exact h.fr _
theorem PJ.pin (h : PJ k v) : PIn k v :=
  { z1 := h.z1, z2 := h.z2, z3 := h.z3, m0 := h.m0, lgr := h.lgr
    cal := fun n l hl => (h.ci.co n l hl).1
    chl := fun n l hl => (h.chl n l hl).1
    odl := by have h1 := h.ci.len.2 (by have := h.z2; omega); have := h.z1; have := h.z3; omega }
theorem PJ.hin (h : PJ k v) : HIn v := ⟨h.b0, h.b1⟩
theorem PJ.chlen (h : PJ k v) : v.ch.length ≤ 1048576 := by
  have h1 := nodup_len (k.nb - k.sz).toNat (gk v.ch) h.chn (fun x hx => by have := h.chr x hx; omega)
  have h2 : (gk v.ch).length = v.ch.length := by simp [gk]
  have := h.z1
  have := h.z3
  omega
def cmU (k : PK) (v : PV) (n : Int) : PV := { v with ca := (cmV k v n).1, od := (cmV k v n).2 }
def cuU (k : PK) (v : PV) (n : Int) : PV := { v with ca := (cuV k v n).1, od := (cuV k v n).2 }
def stU (k : PK) (v : PV) (n : Int) (b : List Int) : PV := { v with ca := (cmV k v n).1, od := (cmV k v n).2, ch := stV k v n b }
theorem PJ.ov (h : PJ k v) (x : Value) : PJ k { v with ov := x } := { h with }
theorem PJ.cm (h : PJ k v) (n : Int) (hn : 0 ≤ n ∧ n < k.nb - k.sz) : PJ k (cmU k v n) := by
 refine { h with ci := ?_ }
 show CI k.most (k.nb - k.sz) Blk (cmV k v n).1 (cmV k v n).2
 unfold cmV
 split
 ·exact h.ci
 ·split
  ·exact h.ci
  ·exact h.ci.keep h.m0 n _ ⟨h.sl n, h.sr n⟩ hn
theorem PJ.cu (h : PJ k v) (n : Int) (hn : 0 ≤ n ∧ n < k.nb - k.sz) : PJ k (cuU k v n) := by
 have h1 := h.cm n hn
 refine { h with ci := ?_ }
 show CI k.most (k.nb - k.sz) Blk (cuV k v n).1 (cuV k v n).2
 unfold cuV
 split
 ·exact h.ci
 ·exact h1.ci
theorem PJ.st (h : PJ k v) (n : Int) (b : List Int) (hn : 0 ≤ n ∧ n < k.nb - k.sz) (hb : b.length = 256) (hr : Rng b) : PJ k (stU k v n b) := by
 refine { h.cm n hn with chl := ?_, chn := ?_, chr := ?_ }
 ·show ∀ m l, gl (stV k v n b) m = some l → _
  unfold stV
  split
  ·intro m l hl
   rw [gl_gd v.ch n h.chn] at hl
   split at hl
   ·cases hl
   ·exact h.chl m l hl
  ·intro m l hl
   rw [gl_gp] at hl
   split at hl
   ·injection hl with hl; rw [← hl]; exact ⟨hb, hr⟩
   ·exact h.chl m l hl
 ·show (gk (stV k v n b)).Nodup
  unfold stV
  split
  ·rw [gk_gd]; exact h.chn.erase _
  ·rw [gk_gp]
   split
   ·exact h.chn
   ·rename_i hm
    rw [List.nodup_append]
    exact ⟨h.chn, by simp, fun a ha c hc => by rw [List.mem_singleton] at hc; intro e; exact hm (by rw [← hc, ← e]; exact ha)⟩
 ·show ∀ m ∈ gk (stV k v n b), _
  unfold stV
  split
  ·rw [gk_gd]; intro m hm; exact h.chr m (List.mem_of_mem_erase hm)
  ·rw [gk_gp]
   intro m hm
   split at hm
   ·exact h.chr m hm
   ·rcases List.mem_append.1 hm with h1 | h1
    ·exact h.chr m h1
    ·rw [List.mem_singleton] at h1; rw [h1]; exact hn
theorem hN_set (ns : List Nat) (i x j : Nat) : hN (ns.set i x) j = if i = j ∧ i < ns.length then x else hN ns j := by
 unfold hN
 rw [List.getElem?_set]
 by_cases h : i = j
 ·subst h
  by_cases h2 : i < ns.length <;> simp [h2]
 ·simp [h]
theorem PJ.head (h : PJ k v) (x : Nat) (hx : x < 18446744073709551616) : PJ k { v with h1 := v.h1.set 1 x } := by
 refine { h with b1 := ?_, u1 := ?_, l1 := by rw [List.length_set]; exact h.l1 }
 ·intro n hn
  rcases List.mem_or_eq_of_mem_set hn with h1 | h1
  ·exact h.b1 n h1
  ·rw [h1]; exact hx
 ·rw [hN_set, if_neg (by omega)]; exact h.u1
theorem PJ.used (h : PJ k v) (hx : (hN v.h1 0 : Int) < k.nb - k.sz) : PJ k { v with h1 := v.h1.set 0 (hN v.h1 0 + 1) } := by
 have hz := h.z3
 have hz1 := h.z1
 refine { h with b1 := ?_, u1 := ?_, l1 := by rw [List.length_set]; exact h.l1 }
 ·intro n hn
  rcases List.mem_or_eq_of_mem_set hn with h1 | h1
  ·exact h.b1 n h1
  ·omega
 ·rw [hN_set, if_pos ⟨rfl, by rw [h.l1]; decide⟩]
  omega
theorem PJ.ab (h : PJ k v) (H : Nat) : PJ k { v with h1 := v.h0, Hm := H, ch := [] } :=
 { h with chl := fun n l hl => by simp [gl] at hl, chn := List.nodup_nil, chr := fun n hn => by simp [gk] at hn, b1 := h.b0, u1 := h.u0, l1 := h.l0 }
theorem PJ.cmR (h : PJ k v) (n : Int) : (cmR k v n).1.length = 256 ∧ Rng (cmR k v n).1 := by
 unfold Go.Proofs.YtfknlheflaccaaaGreat.cmR
 cases hg : gl v.ca n with
 | some b =>
  exact h.ci.co n b hg
 | none =>
  simp only
  split
  ·exact ⟨zeros_len _, fun x hx => by have := List.eq_of_mem_replicate hx; omega⟩
  ·exact ⟨h.sl n, h.sr n⟩
theorem PJ.cuR (h : PJ k v) (n : Int) : (cuR k v n).1.length = 256 ∧ Rng (cuR k v n).1 := by
 unfold Go.Proofs.YtfknlheflaccaaaGreat.cuR
 cases hg : gl v.ch n with
 | some b => exact h.chl n b hg
 | none => exact h.cmR n
end
end Go.Proofs.YtfknlheflaccaaaGreat
/- pages given and given back -/
namespace Go.Proofs.YtfknlheflaccaaaGreat
open Go.RowKit
section
variable {k : PK} {v : PV}
theorem HV_set (ns : List Nat) (i x : Nat) : HV (ns.set i x) = (HV ns).set i (.int .u64 (x : Int)) := by simp [HV, List.map_set]
theorem PC_setN (h0 : v.h0.length = 18) (h1 : v.h1.length = 18) (i x : Nat) (hi : i < 18) : (PC k v).setIfInBounds (26 + i) (.int .u64 (x : Int)) = PC k { v with h1 := v.h1.set i x } := by
 have e : (PC k { v with h1 := v.h1.set i x }) = ([.pointer (some ⟨k.Pl, 0, none⟩), .pointer (some ⟨k.D, 0, none⟩), .int .i64 k.sz, .map (some v.Lm), .int .i64 v.en, .int .i64 k.most, .map (some v.C), v.ov] ++ HV v.h0 ++ (HV v.h1).set i (.int .u64 (x : Int)) ++ [.map (some v.Hm)] : List Value).toArray := by
  unfold PC PCl
  simp only [HV_set]
 rw [e]
 have hl : ([.pointer (some ⟨k.Pl, 0, none⟩), .pointer (some ⟨k.D, 0, none⟩), .int .i64 k.sz, .map (some v.Lm), .int .i64 v.en, .int .i64 k.most, .map (some v.C), v.ov] ++ HV v.h0 : List Value).length = 26 := by simp [HV_len, h0]
 have hl2 : ([.pointer (some ⟨k.Pl, 0, none⟩), .pointer (some ⟨k.D, 0, none⟩), .int .i64 k.sz, .map (some v.Lm), .int .i64 v.en, .int .i64 k.most, .map (some v.C), v.ov] ++ HV v.h0 ++ HV v.h1 : List Value).length = 44 := by simp [HV_len, h0, h1]
 unfold PC PCl
 rw [List.setIfInBounds_toArray, List.set_append_left _ _ (by rw [hl2]; omega), List.set_append_right _ _ (by rw [hl]; omega), hl, show 26 + i - 26 = i by omega]
/-- one of the header's numbers written -/
theorem PgS.num {w : World} (h : PgS k v w) (i x : Nat) (hi : i < 18) : PE k v w { v with h1 := v.h1.set i x } (w.setCell ⟨k.P, 26 + i, none⟩ (.int .u64 (x : Int))) := by
 have hb := heap_setCell_same w k.P (26 + i) _ 98 (.int .u64 (x : Int)) h.box
 rw [PC_setN h.l0 h.l1 i x hi] at hb
 exact h.rebox (h0' := v.h0) (h1' := v.h1.set i x) (en' := v.en) (Lm' := v.Lm) (lg' := v.lg) (Hm' := v.Hm) (ch' := v.ch) ((Chg.refl _ w).setCell _ _ (.inl rfl)) hb h.l0 (by rw [List.length_set]; exact h.l1) (.inl ⟨rfl, rfl⟩) (.inl ⟨rfl, rfl⟩) h.mh
theorem PgS.cN {w : World} (h : PgS k v w) (i : Nat) (hi : i < 18) : w.cell? ⟨k.P, 26 + i, none⟩ = some (.int .u64 (hN v.h1 i : Nat)) := by
 rw [cell_of_row _ _ _ _ _ _ h.box, PC_h1 i h.l0 h.l1 hi]
 exact HV_at _ _ (by rw [h.l1]; exact hi)
end
theorem take8_rng {l : List Int} (hr : Rng l) : beI (l.take 8) < 18446744073709551616 := by
 have h := nAt_lt l hr 0
 unfold nAt at h
 simpa using h
def ahU (k : PK) (v : PV) (n : Int) : PV × Int × Int :=
 if (cuR k v n).2 = 0 then (stU k { cuU k v n with h1 := v.h1.set 1 (beI ((cuR k v n).1.take 8)) } n (zeros 256), n, 0) else (cuU k v n, 0, (cuR k v n).2)
def AhEnds (k : PK) (v : PV) (r : PV × Int × Int) (w : World) (e : Ending) (w' : World) : Prop :=
 e = .returned (.tuple #[.int .i64 r.2.1, .int .i64 r.2.2]) ∧ ∃ ov', PE k v w { r.1 with ov := ov' } w'
theorem rng_zeros (n : Nat) : Rng (zeros n) := fun x hx => by have := List.eq_of_mem_replicate hx; omega
set_option maxRecDepth 100000 in
set_option maxHeartbeats 2000000 in
theorem allocHead_any (k : PK) (v : PV) (n : Int) (w : World) (h : PgS k v w) (hj : PJ k v) (hn : 0 ≤ n ∧ n < k.nb - k.sz) :
  Calls Tryz.prog 69 #[.pointer (some ⟨k.P, 0, none⟩), .int .i64 n] w (AhEnds k v (ahU k v n) w) := by
 have hz := zero35
 have HI35 := Lib.hid (show (Tryz.prog.info? 50).map (·.size) = some 256 by kernel_rfl)
 have SZ := Lib.hid (show (ArrU8 (zeros 256)).size = 256 by rw [ArrU8_size, zeros_len])
 have hbl : ∀ u : World, (Instr.build 50 #[]).run Tryz.prog u = .ok (.agg (ArrU8 (zeros 256))) u := fun u => by kernel_rfl
 have HH := Lib.hid h
 have HC := Lib.hid (current_any k v n w h hj.pin hn)
 have HRL := Lib.hid (hj.cuR n)
 have HA := Lib.hid (show ahU k v n = if (cuR k v n).2 = 0 then (stU k { cuU k v n with h1 := v.h1.set 1 (beI ((cuR k v n).1.take 8)) } n (zeros 256), n, 0) else (cuU k v n, 0, (cuR k v n).2) from rfl)
 have HU := Lib.hid (show ∀ x, PJ k { cuU k v n with ov := x } from fun x => (hj.cu n hn).ov x)
 clear h hj
 go_enter Tryz.func69, Tryz.ntmps69
 go_wp2_with fail
 refine HC.out.mono ?_
 rintro e wa ⟨rfl, ov', hpe⟩
 have HPE := Lib.hid (show PE k v w { cuU k v n with ov := ov' } wa from hpe)
 have hxn := heap_alloc_new wa (.cells (ArrU8 (zeros 256)) 50)
 have HXN := Lib.hid hxn
 clear hpe hxn HC
 generalize cuR k v n = R at *
 obtain ⟨R, E⟩ := R
 simp only [] at HRL HA
 have SR := Lib.hid (show (ArrU8 R).size = 256 by rw [ArrU8_size]; exact HRL.out.1)
 simp only []
 by_cases hE : E = 0
 ·subst hE
  have HPE2 := Lib.hid (PE.post HPE.out (new_below (Below.refl _ wa) (.cells (ArrU8 (zeros 256)) 50) (ArrU8 R)))
  have HXB := Lib.hid (new_at wa (ArrU8 (zeros 256)) (ArrU8 R) 50)
  have hsl := fun u => slice35_all u wa.heap.size
  have hnu := (pnumber_any _ _ ((wa.alloc (.cells (ArrU8 (zeros 256)) 50)).setRow wa.heap.size (ArrU8 R)) (bs_mid HXB.out 0 256 (by omega) (by rw [HRL.out.1])) HRL.out.2 (by rw [List.drop_zero, HRL.out.1]; omega) (by rw [List.drop_zero, HRL.out.1]; omega))
  rw [List.drop_zero] at hnu
  have HNU := Lib.hid hnu
  have HX64 := Lib.hid (take8_rng HRL.out.2)
  have c27 : ((wa.alloc (.cells (ArrU8 (zeros 256)) 50)).setRow wa.heap.size (ArrU8 R)).cell? ⟨k.P, 27, none⟩ = some (.int .u64 (hN v.h1 1 : Nat)) := HPE2.out.1.cN 1 (by decide)
  have f27 := frozen_of_row _ k.P 27 _ _ HPE2.out.1.box
  clear hnu
  go_wp2_with (first | (refine wpList_store_row rfl 50 (Operand.tmp 6) (Operand.tmp 12) rfl wa.heap.size (ArrU8 R) rfl rfl 50 (ArrU8 (zeros 256)) HXN.out (by rw [HI35.out, SR.out]) (by rw [SR.out, SZ.out]) (ArrU8_one _) ?_) | fail)
  refine HNU.out.mono ?_
  rintro e w' ⟨rfl, rfl⟩
  generalize beI (R.take 8) = x at *
  have hp3 := PE.trans HPE2.out (HPE2.out.1.num 1 x (by decide))
  have hj3 := (HU.out ov').head x HX64.out
  have HP3 := Lib.hid hp3
  have HST := Lib.hid (set_any k _ n (zeros 256) _ hp3.1 hj3.pin hn (zeros_len _))
  clear hp3 hj3
  go_wp2_with fail
  refine HST.out.mono ?_
  rintro e wc ⟨rfl, ov3, hpe3⟩
  have HP4 := Lib.hid (PE.trans HP3.out hpe3)
  clear hpe3 c27 f27
  go_wp2_with fail
  go_ret2
  refine ⟨by rw [HA.out, if_pos trivial]; rfl, ov3, ?_⟩
  rw [HA.out, if_pos trivial]
  exact HP4.out
 ·have hPE2 := PE.post HPE.out (new_below (Below.refl _ wa) (.cells (ArrU8 (zeros 256)) 50) (ArrU8 R))
  have HPE2 := Lib.hid hPE2
  clear hPE2
  go_wp2_with (first | (refine wpList_store_row rfl 50 (Operand.tmp 6) (Operand.tmp 12) rfl wa.heap.size (ArrU8 R) rfl rfl 50 (ArrU8 (zeros 256)) HXN.out (by rw [HI35.out, SR.out]) (by rw [SR.out, SZ.out]) (ArrU8_one _) ?_) | fail)
  go_ret2
  refine ⟨by rw [HA.out, if_neg hE]; rfl, ov', ?_⟩
  rw [HA.out, if_neg hE]
  exact HPE2.out
/-- the block that a page given back becomes -/
def frB (v : PV) : List Int := putL (zeros 256) 0 (be8 (hN v.h1 1))
theorem frB_len (v : PV) : (frB v).length = 256 := by unfold frB; rw [putL_len _ _ _ (by rw [be8_len, zeros_len]; decide), zeros_len]
theorem frB_rng (v : PV) : Rng (frB v) := by
 unfold frB putL
 exact rng_append (rng_append ((rng_zeros _).take _) (be8_rng _)) ((rng_zeros _).drop _)
def frU (k : PK) (v : PV) (n : Int) : PV := if inU v n = true then { stU k v n (frB v) with h1 := v.h1.set 1 n.toNat } else v
def FrEnds (k : PK) (v : PV) (n : Int) (w : World) (e : Ending) (w' : World) : Prop :=
 e = .returned (.int .i64 (if inU v n = true then 0 else 2)) ∧ ∃ ov', PE k v w { frU k v n with ov := ov' } w'
set_option maxRecDepth 100000 in
set_option maxHeartbeats 2000000 in
theorem free_page (k : PK) (v : PV) (n : Int) (w : World) (h : PgS k v w) (hj : PJ k v) (hn : n ≤ 9223372036854775807) :
  Calls Tryz.prog 38 #[.pointer (some ⟨k.P, 0, none⟩), .int .i64 n] w (FrEnds k v n w) := by
 have hz := zero35
 have HI35 := Lib.hid (show (Tryz.prog.info? 50).map (·.size) = some 256 by kernel_rfl)
 have HH := Lib.hid h
 have HIN := Lib.hid (inUse_any k v n w h hn)
 cases hin : inU v n with
 | false =>
  have HR := Lib.hid (show frU k v n = v by unfold frU; rw [hin]; rfl)
  have HF := Lib.hid hin
  rw [hin] at HIN
  clear h hj hn hin
  go_enter Tryz.func38, Tryz.ntmps38
  go_wp2_with fail
  refine HIN.out.mono ?_
  rintro e w' ⟨rfl, rfl⟩
  go_wp2_with fail
  go_ret
  refine ⟨by rw [HF.out]; rfl, v.ov, ?_⟩
  rw [HR.out]
  exact PE.same HH.out (Below.refl _ _)
 | true =>
  have hrg := inU_rng hin hj.u1.2
  obtain ⟨m, rfl⟩ : ∃ m : Nat, n = (m : Int) := ⟨n.toNat, by omega⟩
  have hm64 : m < 18446744073709551616 := by omega
  have HR := Lib.hid (show frU k v m = { stU k v m (frB v) with h1 := v.h1.set 1 m } by unfold frU; rw [hin]; rfl)
  have HF := Lib.hid hin
  rw [hin] at HIN
  have hb1 : Below w.heap.size w (w.alloc (.cells (ArrU8 (zeros 256)) 50)) := (Below.refl _ _).alloc (Nat.le_refl _) _
  have h1 := h.fresh hb1
  have hx := heap_alloc_new w (.cells (ArrU8 (zeros 256)) 50)
  have HX := Lib.hid hx
  have HB1 := Lib.hid hb1
  have HS1 := Lib.hid (show (w.alloc (.cells (ArrU8 (zeros 256)) 50)).drew.heap[k.P]? = some (.cells (PC k v) 98 (0, 0)) from h1.box)
  have HC27 := Lib.hid ((PC_h1 (k := k) (v := v) 1 h.l0 h.l1 (by decide)).trans (HV_at v.h1 1 (by rw [h.l1]; decide)))
  have H64 := Lib.hid (show hN v.h1 1 < 18446744073709551616 by
   unfold hN
   have hl : 1 < v.h1.length := by rw [h.l1]; decide
   rw [List.getElem?_eq_getElem hl, Option.getD_some]
   exact hj.b1 _ (List.getElem_mem hl))
  have HJ := Lib.hid hj
  have hsl := fun u => slice35_all u w.heap.size
  have SF := Lib.hid (show (ArrU8 (frB v)).size = 256 by rw [ArrU8_size, frB_len])
  have HFB := Lib.hid (show putL (zeros 256) 0 (be8 (hN v.h1 1)) = frB v from rfl)
  have HRG := Lib.hid hrg
  have hcv : IntKind.u64.wrap (m : Int) = (m : Int) := by rw [IntKind.wrap_u64]; omega
  generalize hN v.h1 1 = hd at *
  clear h hj hn hin hb1 h1 hx hrg hm64
  go_enter Tryz.func38, Tryz.ntmps38
  go_wp2_with fail
  refine HIN.out.mono ?_
  rintro e w' ⟨rfl, rfl⟩
  go_wp2_with fail
  refine wp_region_held_drew (S := fun u => u.heap[k.P]? = some (.cells (PC k v) 98 (0, 0))) (by kernel_rfl) (HS1.out) (fun hHeld => ?_)
  refine wpAnyH_take (i := 0) (oi := ({ dst := some 10, op := .slice 50 (.tmp 5) none none none, type := 62, pos := "free.go:39", after := #[], guard := none } : Oper)) (v := ?_) rfl (by kernel_rfl) (by kernel_rfl) (by kernel_rfl) (fun _ _ _ h => h) (Or.inl ⟨by rfl, ?_⟩) (by assumption) ?_
  rotate_left 1
  ·(intro u hSw; go_simp; try with_reducible rfl)
  try simp only [Act.put, List.setIfInBounds_toArray, List.set_cons_zero, List.set_cons_succ]
  refine wpAnyH_take (i := 1) (oi := ({ dst := some 11, op := .move (.tmp 0), type := 30, pos := "free.go:39", after := #[], guard := none } : Oper)) (v := ?_) rfl (by kernel_rfl) (by kernel_rfl) (by kernel_rfl) (fun _ _ _ h => h) (Or.inl ⟨by rfl, ?_⟩) (by assumption) ?_
  rotate_left 1
  ·(intro u hSw; go_simp; try with_reducible rfl)
  try simp only [Act.put, List.setIfInBounds_toArray, List.set_cons_zero, List.set_cons_succ]
  refine wpAnyH_take (i := 2) (oi := ({ dst := some 12, op := .nilCheck (.tmp 11), type := 0, pos := "free.go:39", after := #[{ on := 1, ground := .data }], guard := none } : Oper)) (v := ?_) rfl (by kernel_rfl) (by kernel_rfl) (by kernel_rfl) (fun _ _ _ h => h) (Or.inl ⟨by rfl, ?_⟩) (by assumption) ?_
  rotate_left 1
  ·(intro u hSw; go_simp; try with_reducible rfl)
  try simp only [Act.put, List.setIfInBounds_toArray, List.set_cons_zero, List.set_cons_succ]
  refine wpAnyH_take (i := 3) (oi := ({ dst := some 13, op := .fieldAddr 98 (.tmp 12) 6, type := 0, pos := "free.go:39", after := #[{ on := 2, ground := .data }], guard := none } : Oper)) (v := ?_) rfl (by kernel_rfl) (by kernel_rfl) (by kernel_rfl) (fun _ _ _ h => h) (Or.inl ⟨by rfl, ?_⟩) (by assumption) ?_
  rotate_left 1
  ·(intro u hSw; go_simp; try with_reducible rfl)
  try simp only [Act.put, List.setIfInBounds_toArray, List.set_cons_zero, List.set_cons_succ]
  refine wpAnyH_take (i := 4) (oi := ({ dst := some 14, op := .fieldAddr 85 (.tmp 13) 1, type := 0, pos := "free.go:39", after := #[{ on := 3, ground := .data }], guard := none } : Oper)) (v := ?_) rfl (by kernel_rfl) (by kernel_rfl) (by kernel_rfl) (fun _ _ _ h => h) (Or.inl ⟨by rfl, ?_⟩) (by assumption) ?_
  rotate_left 1
  ·(intro u hSw; go_simp; try with_reducible rfl)
  try simp only [Act.put, List.setIfInBounds_toArray, List.set_cons_zero, List.set_cons_succ]
  refine wpAnyH_take (i := 5) (oi := ({ dst := some 15, op := .load 59 (.tmp 14), type := 59, pos := "free.go:39", after := #[{ on := 4, ground := .data }], guard := none } : Oper)) (v := ?_) rfl (by kernel_rfl) (by kernel_rfl) (by kernel_rfl) (fun _ _ _ h => h) (Or.inl ⟨by rfl, ?_⟩) (by assumption) ?_
  rotate_left 1
  ·(intro u hSw; have c27 := (cell_of_row u k.P 27 _ _ _ hSw).trans HC27.out; go_simp; try with_reducible rfl)
  try simp only [Act.put, List.setIfInBounds_toArray, List.set_cons_zero, List.set_cons_succ]
  refine wpAnyH_ready (rs := [6]) (by kernel_rfl) (by simp) ?_
  refine (AllReadyH.cons (o := ({ dst := some 16, op := .call { callee := Callee.value (Operand.func 88), args := #[.tmp 10, .tmp 15], argTypes := #[62, 59] }, type := 0, pos := "free.go:39", after := #[{ on := 0, ground := .data }, { on := 5, ground := .data }], guard := none } : Oper)) rfl (fun K hK => ?_) AllReadyH.nil)
  go_simp
  go_at_call 88
  refine (putNumber_any w.heap.size 0 256 256 hd (zeros 256) 50 _ (show (w.alloc (.cells (ArrU8 (zeros 256)) 50)).drew.heap[w.heap.size]? = _ from HX.out) (by rw [zeros_len]; decide) (by omega) H64.out).mono ?_
  rintro e w2 ⟨rfl, hx2, hc2⟩
  rw [HFB.out] at hx2
  have hc3 : Below w.heap.size w w2 := (HB1.out.drew).trans (hc2.below (fun g hg => by omega) (HB1.out.drew).size)
  have HX2 := Lib.hid hx2
  have HB2 := Lib.hid hc3
  have H2 := Lib.hid (HH.out.fresh hc3)
  clear hx2 hc2 hc3
  go_wp2_with fail
  refine hK.out _ _ H2.out.box (fun hHeld => ?_)
  clear hK K
  try simp only [Act.put, List.setIfInBounds_toArray, List.set_cons_zero, List.set_cons_succ]
  refine wpAnyH_done (by kernel_rfl) ?_ _
  have HST := Lib.hid (set_any k v m (frB v) w2 H2.out HJ.out.pin HRG.out (frB_len v))
  clear hsl
  go_wp2_with (first | (refine wpList_load_row rfl 50 (Operand.tmp 5) rfl w.heap.size rfl 50 (ArrU8 (frB v)) (0, 0) _ HX2.out Tryz.underlying50 rfl (by rw [HI35.out, SF.out]) ?_) | fail)
  refine HST.out.mono ?_
  rintro e wc ⟨rfl, ov3, hpe3⟩
  have hp4 : PE k v w2 { stU k v m (frB v) with ov := ov3 } wc := hpe3
  have hp5 := PE.pre HB2.out (PE.trans hp4 (hp4.1.num 1 m (by decide)))
  have HP5 := Lib.hid hp5
  have c27 : wc.cell? ⟨k.P, 27, none⟩ = some (.int .u64 (hN v.h1 1 : Nat)) := hp4.1.cN 1 (by decide)
  have f27 := frozen_of_row _ k.P 27 _ _ hp4.1.box
  clear hpe3 hp4 hp5
  go_wp2_with fail
  go_ret
  refine ⟨by rw [HF.out]; rfl, ov3, ?_⟩
  rw [HR.out]
  exact HP5.out
end Go.Proofs.YtfknlheflaccaaaGreat
