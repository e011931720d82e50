/- what is held in memory is what is stored; what a Commit makes of the pages: plain -/
import Derived.Test.YtdkjkibdncbibaaGreatCm21
import Derived.Test.YtdkjkibdncbibaaGreatCm22
namespace Go.Proofs.YtdkjkibdncbibaaGreat
open Go.RowKit
open Go.Lib (hid)
/-- memory agrees with what is stored -/
structure PM (v : PV) (W : Int → List Int) : Prop where
 ca : ∀ n x, gl v.ca n = some x → x = W n
 ch : ∀ n x, gl v.ch n = some x → x ≠ W n ∧ n ≠ 0
 h0 : v.h0 = hdr (W 0)
theorem gl_gd_some {l : List (Int × List Int)} {n m : Int} {y : List Int} (h : (gk l).Nodup) (hg : gl (gd l n) m = some y) : m ≠ n ∧ gl l m = some y := by
 rw [gl_gd l n h] at hg
 split at hg
 ·cases hg
 ·exact ⟨by assumption, hg⟩
theorem gl_keepP {most N : Int} {S : Int → List Int → Prop} {ca : List (Int × List Int)} {od : List Int} (h : CI most N S ca od) (n : Int) (b : List Int) {m : Int} {y : List Int} (hg : gl (keepP most ca od n b).1 m = some y) : (m = n ∧ y = b) ∨ (m ≠ n ∧ gl ca m = some y) := by
 unfold keepP at hg
 split at hg
 ·rename_i h0
  have h1 := (CI.len h).1
  have h2 : ca = [] := List.eq_nil_of_length_eq_zero (by omega)
  rw [h2] at hg
  simp [gl] at hg
 ·have hp : ∀ ca' : List (Int × List Int), (∀ m y, gl ca' m = some y → gl ca m = some y) → gl (gp ca' n b) m = some y → (m = n ∧ y = b) ∨ (m ≠ n ∧ gl ca m = some y) := fun ca' hc hg => by
   rw [gl_gp] at hg
   split at hg
   ·rename_i h1
    injection hg with hg
    exact .inl ⟨h1, hg.symm⟩
   ·rename_i h1
    exact .inr ⟨h1, hc _ _ hg⟩
  split at hg
  ·exact hp ca (fun m y h => h) hg
  ·refine hp (roomP most ca od).1 (fun m y hh => ?_) hg
   unfold roomP at hh
   split at hh
   ·exact hh
   ·split at hh
    ·exact hh
    ·exact (gl_gd_some h.nd hh).2
section
variable {k : PK} {v : PV} {rs : List (List Int)} {W : Int → List Int}
theorem PL.sto (h : PL k v rs W) (n : Int) (h0 : 0 ≤ n) (h1 : n < k.nb - k.sz) : sto k v n = W n := h.w n h0 h1
theorem PL.cm (h : PL k v rs W) (hm : PM v W) (n : Int) (h0 : 0 ≤ n) (h1 : n < k.nb - k.sz) : cmR k v n = (W n, 0) := by
 unfold cmR
 cases hg : gl v.ca n with
 | some b => dsimp only; rw [hm.ca n b hg]
 | none => dsimp only; rw [h.dn, h.sto n h0 h1]; rfl
theorem PM.cmV (hl : PL k v rs W) (hj : PJ k v) (h : PM v W) (n : Int) (h0 : 0 ≤ n) (h1 : n < k.nb - k.sz) : ∀ m y, gl (cmV k v n).1 m = some y → y = W m := by
 intro m y hy
 unfold Go.Proofs.YtdkjkibdncbibaaGreat.cmV at hy
 cases hg : gl v.ca n with
 | some b => rw [hg] at hy; exact h.ca m y hy
 | none =>
  rw [hg] at hy
  dsimp only at hy
  rw [hl.dn, hl.sto n h0 h1] at hy
  simp only [Bool.false_eq_true, if_false] at hy
  rcases gl_keepP hj.ci n _ hy with ⟨e1, e2⟩ | ⟨_, e⟩
  ·rw [e1, e2]
  ·exact h.ca m y e
/-- the changed pages that a Commit brings to the log, and the pages behind it -/
def pgC (k : PK) (v : PV) (n : Int) : List Int := (gl (chgP k v) n).getD (zeros 256)
def WC (k : PK) (v : PV) (W : Int → List Int) : Int → List Int := WN (srt (gk (chgP k v))) (pgC k v) W
/-- the pages as they are now -/
def NW (v : PV) (W : Int → List Int) (n : Int) : List Int := if n = 0 then (if v.h1 = v.h0 then W 0 else ovB v.h1 (W 0)) else (gl v.ch n).getD (W n)
theorem WC_eq (hl : PL k v rs W) (hj : PJ k v) (hm : PM v W) : ∀ n, WC k v W n = NW v W n := by
 intro n
 have hz := hj.z2
 have h0c : 0 ∉ gk v.ch := fun h0 => by
  cases hg : gl v.ch 0 with
  | some x => exact (hm.ch 0 x hg).2 rfl
  | none => exact gl_none.1 hg h0
 have hc0 := hl.cm hm 0 (Int.le_refl _) (by omega)
 unfold WC WN pgC NW
 simp only [srt_mem]
 by_cases hh : v.h1 = v.h0
 ·have hp : chgP k v = v.ch := by unfold chgP; rw [if_pos hh]
  rw [hp]
  by_cases hn : n = 0
  ·subst hn
   rw [if_neg h0c, if_pos rfl, if_pos hh]
  ·rw [if_neg hn]
   cases hg : gl v.ch n with
   | some x => rw [if_pos (gl_mem hg)]; rfl
   | none => rw [if_neg (gl_none.1 hg)]; rfl
 ·have hp : chgP k v = gp v.ch 0 (ovB v.h1 (W 0)) := by unfold chgP; rw [if_neg hh, hc0]
  rw [hp]
  by_cases hn : n = 0
  ·subst hn
   have hin : (0 : Int) ∈ gk (gp v.ch 0 (ovB v.h1 (W 0))) := by rw [gk_gp, if_neg h0c]; simp
   rw [if_pos hin, if_pos rfl, if_neg hh, gl_gp, if_pos rfl]
   rfl
  ·rw [if_neg hn, gl_gp, if_neg hn]
   have hiff : n ∈ gk (gp v.ch 0 (ovB v.h1 (W 0))) ↔ n ∈ gk v.ch := by rw [gk_gp, if_neg h0c]; simp [hn]
   cases hg : gl v.ch n with
   | some x => rw [if_pos (hiff.2 (gl_mem hg))]; rfl
   | none => rw [if_neg (fun h => gl_none.1 hg (hiff.1 h))]; rfl
theorem chL_eq (hm : PM v W) : (chL k v : Int) = chN v := by
 have h0c : 0 ∉ gk v.ch := fun h0 => by
  cases hg : gl v.ch 0 with
  | some x => exact (hm.ch 0 x hg).2 rfl
  | none => exact gl_none.1 hg h0
 unfold chL chgP chN
 split
 ·simp
 ·have h1 : (gp v.ch 0 (ovB v.h1 (cmR k v 0).1)).length = (gk (gp v.ch 0 (ovB v.h1 (cmR k v 0).1))).length := by simp [gk]
  rw [h1, gk_gp, if_neg h0c]
  simp [gk]
theorem chE_0 (hl : PL k v rs W) (hj : PJ k v) (hm : PM v W) : chE k v = 0 := by
 unfold chE
 split
 ·rfl
 ·rw [hl.cm hm 0 (Int.le_refl _) (by have := hj.z2; omega)]
theorem PM.chU (hl : PL k v rs W) (hj : PJ k v) (h : PM v W) : ∀ m y, gl (chU k v).ca m = some y → y = W m := by
 unfold Go.Proofs.YtdkjkibdncbibaaGreat.chU
 split
 ·exact h.ca
 ·exact PM.cmV hl hj h 0 (Int.le_refl _) (by have := hj.z2; omega)
end
theorem sy_L8 {nb rm : Int} {a b c n : Nat} {s sF : DS} {al : List Int} {E : Int} {aF cF : Nat} (hL : s.L = []) (hal : al.length ≤ 1048576) (h : SyRes nb rm 0 a b c n s (aw 0 s c al) sF E aF cF) : sF.L.length ≤ 8192 := by
 have h1 : (aw 0 s c al).length ≤ 4098 := by
  unfold aw
  rw [wl_length]
  omega
 rcases h with ⟨_, rfl, _⟩ | ⟨hz, rfl, _⟩
 ·have h2 := wsy_L nb rm (aw 0 s c al) s
  rw [hL] at h2
  simp only [List.length_nil] at h2
  omega
 ·obtain ⟨_, hl, _⟩ := wsy_ok hz
  have h2 := wsy_L nb rm (mw 0 (a + 1) b (c + n)) (s.wsy nb rm (aw 0 s c al)).1
  rw [hl] at h2
  have h3 : (mw 0 (a + 1) b (c + n)).length = 1 := rfl
  simp only [List.length_nil] at h2
  omega
end Go.Proofs.YtdkjkibdncbibaaGreat
/- a save on any disk -/
namespace Go.Proofs.YtdkjkibdncbibaaGreat
open Go.RowKit
open Go.Lib (hid)
/-- what a save keeps -/
structure SvK (k : PK) (v : PV) (rs : List (List Int)) (W : Int → List Int) (c : Nat) (v' : PV) : Prop where
 j : PJ k v'
 l : PL k v' rs W
 L : v'.s.L = []
 c : v'.c = c
 fz : Calm2 k v → v'.s.fz = -1
 e0 : v'.h0 = v.h0
 e1 : v'.h1 = v.h1
 eh : v'.ch = v.ch
 a : v'.a ≤ v.a + 2
 b : v'.b ≤ v.b + 1
def Sv2 (k : PK) (v : PV) (W : Int → List Int) (w : World) (e : Ending) (w' : World) : Prop :=
 ∃ E v', e = .returned (.int .i64 E) ∧ PE k v w v' w' ∧ v'.h0 = v.h0 ∧ v'.h1 = v.h1 ∧ v'.ch = v.ch ∧ v'.a ≤ v.a + 2 ∧ v'.b ≤ v.b + 1 ∧
  ((E = 0 ∧ PJ k v' ∧ (∃ rs2, PL k v' rs2 (WC k v W)) ∧ v'.s.L = [] ∧ (∀ n x, gl v'.ca n = some x → x = WC k v W n) ∧ v'.c = (if ((v.c + (8 + 264 * chL k v) : Nat) : Int) ≤ (k.sz - 2) * 256 then v.c else 0) + (8 + 264 * chL k v) ∧ ((8 + 264 * chL k v : Nat) : Int) ≤ (k.sz - 2) * 256) ∨
   (E = 42 ∧ PJ k v' ∧ (∃ rs2, PL k v' rs2 W) ∧ (∀ n x, gl v'.ca n = some x → x = W n) ∧ (k.nb ≤ k.rm → v'.c = 0 ∧ v'.s.L = [] ∧ ¬ (((8 + 264 * chL k v : Nat) : Int) ≤ (k.sz - 2) * 256))) ∨
   (E = 44 ∧ Crash k v'.s fun g => OKD (v.a + v.b + 3) k.nb k.sz g W ∨ OKD (v.a + v.b + 3) k.nb k.sz g (WC k v W))) ∧ (Calm2 k v → E ≠ 44 ∧ v'.s.fz = -1)
theorem syres_calm {nb rm sz : Int} {a b c n : Nat} {s sF : DS} {al : List Int} {E : Int} {aF cF : Nat} (hfz : s.fz = -1) (hdn : s.dn = false) (h2 : 2 ≤ sz) (hnb : sz < nb) (hrm : nb ≤ rm) (h0 : 0 < al.length) (hf : ((c + al.length : Nat) : Int) ≤ (sz - 2) * 256) (h : SyRes nb rm 0 a b c n s (aw 0 s c al) sF E aF cF) : E = 0 ∧ sF.fz = -1 := by
 have h1 := wsy_calm (nb := nb) (rm := rm) (aw 0 s c al) (s := s) ⟨hfz, hdn⟩ (fun x hx => by have := aw_lt h0 hf hx; omega)
 rcases h with ⟨hz, _⟩ | ⟨hz, rfl, rfl, _⟩
 ·exact absurd h1.1 hz
 ·have h3 := wsy_calm (nb := nb) (rm := rm) (mw 0 (a + 1) b (c + n)) (s := (s.wsy nb rm (aw 0 s c al)).1) (by rw [h1.2]; exact ⟨rfl, rfl⟩) (fun x hx => by have := mw_lt hx; omega)
  exact ⟨h3.1, by rw [h3.2]⟩
theorem syres_room {nb rm sz : Int} {a b c n : Nat} {s sF : DS} {al : List Int} {E : Int} {aF cF : Nat} (h2 : 2 ≤ sz) (hnb : sz < nb) (hrm : nb ≤ rm) (h0 : 0 < al.length) (hf : ((c + al.length : Nat) : Int) ≤ (sz - 2) * 256) (h : SyRes nb rm 0 a b c n s (aw 0 s c al) sF E aF cF) : E ≠ 42 := by
 have h1 := wsy_room (nb := nb) (rm := rm) (aw 0 s c al) s (fun x hx => by have := aw_lt h0 hf hx; omega)
 rcases h with ⟨hz, _, rfl, _⟩ | ⟨hz, _, rfl, _⟩
 ·exact h1
 ·exact wsy_room _ _ (fun x hx => by have := mw_lt hx; omega)
set_option maxRecDepth 100000 in
set_option maxHeartbeats 8000000 in
theorem save2 (k : PK) (v : PV) (rs : List (List Int)) (W : Int → List Int) (w : World) (h : PgS k v w) (hj : PJ k v) (hg : PL k v rs W) (hmm : PM v W) (hL0 : v.s.L = []) (hW : ∀ n, (W n).length = 256 ∧ Rng (W n)) (hc : chN v ≠ 0) (ha : v.a + 2 < 1099511627776) (hb : v.b + 1 < 1099511627776) :
    Calls Tryz.prog 60 #[.pointer (some ⟨k.P, 0, none⟩)] w (Sv2 k v W w) := by
  have hz := zero35
  have HPOK := hid (chgP_ok hj)
  have HPP := hid (chgP_pos (k := k) hc)
  have HCH := hid (changes_any k v w h hj)
  have HE0 := hid (chE_0 hg hj hmm)
  have HL0 := hid hL0
  have HWB := hid hW
  have HCU := hid (PM.chU (k := k) hg hj hmm)
  have HJU := hid hj.chU
  have HUE := hid (chU_eq (k := k) (v := v))
  have HGU := hid (show PL k (chU k v) rs W from hg.as HUE.out.1 HUE.out.2.1 HUE.out.2.2.1 HUE.out.2.2.2.1 HUE.out.2.2.2.2.1 HUE.out.2.2.2.2.2.1 HUE.out.2.2.2.2.2.2.1)
  have HLU := hid (show (chU k v).s.L = [] by rw [HUE.out.1]; exact hL0)
  have H := hid h
  have HAB := hid (And.intro ha hb)
  clear h hj hg ha hb hc hmm hL0 hW
  have HWC := hid (show WC k v W = WN (srt (gk (chgP k v))) (fun n => (gl (chgP k v) n).getD (zeros 256)) W from rfl)
  have HCN := hid (show chL k v = (chgP k v).length from rfl)
  go_enter Tryz.func60, Tryz.ntmps60
  go_wp2_with fail
  refine HCH.out.mono ?_
  rintro e w1 (⟨_, M, ov1, rfl, hpe, hmp, hnp, hM⟩ | ⟨hne, _⟩)
  case inr => exact absurd HE0.out hne
  generalize chgP k v = pp at *
  generalize chU k v = v1 at *
  have hnd := hmp.nodup
  have HND := hid hnd
  have hpl : pp.length ≤ 4096 := by
    have h1 := nodup_len (k.nb - k.sz).toNat (gk pp) hnd (fun x hx => by have := HPOK.out.2 x hx; omega)
    have h2 : (gk pp).length = pp.length := by simp [gk]
    have := HJU.out.z1; have := HJU.out.z3
    omega
  have HSO := hid (sortedB_any hmp (fun n hn => by have := HPOK.out.2 n hn; have := HJU.out.z3; have := HJU.out.z1; omega) (by omega))
  have HPE := hid hpe
  have HMP := hid hmp
  have HNP := hid hnp
  clear hpe hmp hnp hnd HCH
  go_wp2_with fail
  refine (keysB_any (some M) w1).mono ?_
  rintro e wk ⟨rfl, rfl⟩
  go_wp2_with fail
  refine HSO.out.mono ?_
  rintro e w2 ⟨nv, rfl, hrow, hb1⟩
  have hll : (srt (gk pp)).length = pp.length := by rw [srt_len]; simp [gk]
  have HSD := hid (show (srt (gk pp)).Nodup from (List.mergeSort_perm _ _).nodup_iff.2 HND.out)
  have HLK := hid (fun x (hx : x ∈ srt (gk pp)) => HPOK.out.2 x ((srt_mem _ x).1 hx))
  generalize hl : srt (gk pp) = l at *
  have hbw : Below w1.heap.size w1 w2 := ((Below.refl _ w1).alloc (Nat.le_refl _) _).trans (hb1.mono (by simp))
  have hnum := hrow.nums
  have hnlt := hrow.lt
  have hm2 := HMP.out.of (hbw.block M HMP.out.lt)
  have hp2 := PE.post HPE.out hbw
  have HP2 := hid hp2
  have HM2 := hid hm2
  have HNV := hid hnum
  have hno : ∀ g, nv.ownBlock = some g → ¬ PF k { v1 with ov := ov1 } g ∧ g < w2.heap.size := fun g hg => ⟨fun hp => by
    have h1 := (HPE.out.1.lt g hp).2
    have h2 := (hnlt g hg).1
    omega, (hnlt g hg).2⟩
  have HNO := hid hno
  have HRE := hid (record_any M pp nv l w2 hm2 hnum (by have := HPP.out; omega) (by omega) (fun n hn => by have := HLK.out n hn; have := HJU.out.z3; have := HJU.out.z1; omega) (fun n b hb => (HPOK.out.1 n b hb).1))
  have HLL := hid (show l.length ≤ 4096 ∧ 0 < l.length by have := HPP.out; omega)
  have HLQ := hid hll
  have hrl := recL_len (fun n => (gl pp n).getD (zeros 256)) l (fun n _ => by
    cases hgn : gl pp n with
    | none => exact zeros_len 256
    | some b => exact (HPOK.out.1 n b hgn).1)
  have hrr := recL_rng (fun n => (gl pp n).getD (zeros 256)) l (fun n _ => by
    cases hgn : gl pp n with
    | none => exact fun x hx => by have := List.eq_of_mem_replicate hx; omega
    | some b => exact (HPOK.out.1 n b hgn).2)
  have HPB := hid (show ∀ n ∈ l, ((gl pp n).getD (zeros 256)).length = 256 ∧ Rng ((gl pp n).getD (zeros 256)) from fun n _ => by
    cases hgn : gl pp n with
    | none => exact ⟨zeros_len 256, rng_zeros _⟩
    | some b => exact HPOK.out.1 n b hgn)
  generalize hpg : (fun n => (gl pp n).getD (zeros 256)) = pg at *
  have HPG := hid (show ∀ n, (gl pp n).getD (zeros 256) = pg n from fun n => by rw [← hpg])
  generalize hm : recL pg l = m at *
  have HMM := hid hm
  have HRL := hid hrl
  have HRR := hid hrr
  have HJ1 := hid (HJU.out.ov ov1)
  have HG1 := hid (show PL k { v1 with ov := ov1 } rs W from HGU.out.as rfl rfl rfl rfl rfl rfl rfl)
  clear hl hbw hrow hb1 hnlt hnum hm2 hp2 hno hrl hrr hm hll HSO hpg
  go_wp2_with fail
  refine HRE.out.mono ?_
  rintro e w3 ⟨⟨rv, rfl, hbs, hrn⟩, hb3⟩
  have HP3 := hid (PE.same HP2.out.1 hb3)
  have HAR := hid (appendRec2 k _ rs W rv m w3 HP3.out.1 HJ1.out HG1.out HLU.out HWB.out (by have := HAB.out.1; have := HUE.out.2.1; show v1.a + 1 < _; omega) (by have := HAB.out.2; have := HUE.out.2.2.1; show v1.b + 1 < _; omega) hbs (fun ad n c e hp => by
    have h1 := hrn ad.block (by rw [e]; rfl)
    have h2 := (HP2.out.1.lt _ hp).2
    omega) (by rw [HRL.out]; have := HLL.out; omega) (by rw [HRL.out]; have := HLL.out; omega))
  clear hbs hrn hb3 HRE
  go_wp2_with fail
  refine HAR.out.mono ?_
  rintro e w4 ⟨E4, v4, rfl, hpe, hsm4, ha4, hb4, hor4, hcm4⟩
  have hp4 := PE.trans HP3.out hpe
  have HP4 := hid hp4
  have HSM := hid hsm4
  have HA4 := hid (show v4.a ≤ v1.a + 1 ∧ v4.b ≤ v1.b + 1 from ⟨ha4, hb4⟩)
  have HCA := hid (show Calm2 k v → E4 ≠ 44 ∧ v4.s.fz = -1 from fun hc => hcm4 ⟨by show v1.s.fz = -1; rw [HUE.out.1]; exact hc.1, hc.2⟩)
  have HEM := hid (show v4.h0 = v.h0 ∧ v4.h1 = v.h1 ∧ v4.ch = v.ch ∧ v4.a ≤ v.a + 1 ∧ v4.b ≤ v.b + 1 from by
    have u := HUE.out
    have hA := HA4.out
    exact ⟨hsm4.h0.trans u.2.2.2.2.2.2.2.1, hsm4.h1.trans u.2.2.2.2.2.2.2.2.1, hsm4.ch.trans u.2.2.2.2.2.2.2.2.2.1, by omega, by omega⟩)
  have HCU4 := hid (show ∀ n x, gl v4.ca n = some x → x = W n from fun n x hx => HCU.out n x (by have h := hsm4.ca; rw [show v1.ca = v4.ca from h.symm]; exact hx))
  have HLC := hid (show (8 + 264 * chL k v : Nat) = 8 + m.length by have := HCN.out; have := HLQ.out; have := HRL.out; omega)
  have HVC := hid (show v1.c = v.c from HUE.out.2.2.2.1)
  rcases hor4 with ⟨rfl, hpe4, ⟨rs4, hpl4⟩, hl4, hf4, hc4⟩ | ⟨rfl, ⟨rs4, hpl4⟩, hcm⟩ | ⟨rfl, hcr⟩
  rotate_left
  · have HPL4 := hid hpl4
    have HCM := hid hcm
    clear hpe hp4 hsm4 ha4 hb4 hcm4 hpl4 hcm HAR
    go_wp2_with fail
    go_ret
    have u := HEM.out
    have g4 := HPL4.out
    refine ⟨42, v4, rfl, PE.trans HP2.out HP4.out, u.1, u.2.1, u.2.2.1, by omega, by omega, .inr (.inl ⟨rfl, HJ1.out.re HSM.out g4.lgr g4.g.fl g4.g.rng, ⟨rs4, g4⟩, HCU4.out, fun hc => ?_⟩), HCA.out⟩
    have h1 := HCM.out hc
    refine ⟨h1.1, h1.2.1, fun h2 => ?_⟩
    have := HLC.out
    rw [this] at h2
    have h3 := h1.2.2
    omega
  · have HCR := hid hcr
    clear hpe hp4 hsm4 ha4 hb4 hcm4 hcr HAR
    go_wp2_with fail
    go_ret
    have u := HEM.out
    exact ⟨44, v4, rfl, PE.trans HP2.out HP4.out, u.1, u.2.1, u.2.2.1, by omega, by omega, .inr (.inr ⟨rfl, HCR.out.1, HCR.out.2.1, fun ks t => .inl ((HCR.out.2.2 ks t).mono (by have := HUE.out.2.1; have := HUE.out.2.2.1; show v1.a + v1.b + 1 ≤ v.a + v.b + 3; omega))⟩), HCA.out⟩
  have HPE4 := hid hpe4
  have HPL4 := hid hpl4
  have HL4 := hid hl4
  have HF4 := hid hf4
  have HC4 := hid hc4
  have hls := hp4.1.ls
  rw [hpe4] at hls
  have HSY := hid (hls.sync HPL4.out.dn (Int.le_refl 0) HJU.out.z1 (by have := HJU.out.z2; omega) HJU.out.z3 (by simp) (by rw [enc1, List.length_append, be8_len]; exact hf4) HPL4.out.g.ha HPL4.out.g.hb (by rw [hl4]; simp))
  have p0 := (cell_of_row w4 k.P 0 _ _ _ hp4.1.box).trans (PC_lo 0 (by decide))
  clear hpe hp4 hls hsm4 ha4 hb4 hcm4 hpe4 hpl4 hl4 hf4 hc4 HAR
  go_wp2_with fail
  refine HSY.out.mono ?_
  rintro e w5 ⟨sF, E, aF, cF, rfl, ⟨lv5, av5, hls5, hch, hft⟩, hsr⟩
  have hp5 := PE.trans HP4.out (HP4.out.1.relog (s' := sF) (lv' := lv5) (a' := aF) (b' := v4.b) (c' := cF) (av' := av5) (pe' := []) hls5 hch hft)
  have hsp := sync_plain (v := { v4 with pe := [] }) HPL4.out HL4.out HJU.out.z2 (pg := pg) (l := l) (fun n hn => by rw [← HPG.out n]; exact HPB.out n hn) HLK.out HSD.out (by rw [HMM.out]; exact HF4.out) (by show v4.a + 1 < _; have := HEM.out.2.2.2.1; have := HAB.out.1; omega) (by rw [HMM.out]; exact hsr) (sy_L8 HL4.out (by rw [enc1, List.length_append, be8_len]; have h1 := HF4.out; have h2 := HJU.out.z2; have h3 := HJU.out.z3; omega) hsr) (hls5.dk.2.2.2.2.2.2.2) hp5.1.dkl
  rw [HMM.out] at hsp
  have HP5 := hid hp5
  have HSR := hid (show k.nb ≤ k.rm → E ≠ 42 from fun hr => syres_room (by have := HJU.out.z1; omega) HJU.out.z2 hr (by rw [enc1, List.length_append, be8_len]; omega) (by rw [enc1, List.length_append, be8_len]; exact HF4.out) hsr)
  have HSC := hid (show Calm2 k v → E = 0 ∧ sF.fz = -1 from fun hc => syres_calm (HCA.out hc).2 HPL4.out.dn (by have := HJU.out.z1; omega) HJU.out.z2 hc.2 (by rw [enc1, List.length_append, be8_len]; omega) (by rw [enc1, List.length_append, be8_len]; exact HF4.out) hsr)
  have HAF := hid (show aF ≤ v4.a + 1 from by
    rcases hsr with ⟨_, _, _, h, _⟩ | ⟨_, _, _, h, _⟩
    · omega
    · rw [h]; split <;> omega)
  clear hls5 hch hft hsr HSY
  rcases hsp with ⟨rfl, hL5, ha5, hc5, hpl5⟩ | ⟨rfl, hL5, ha5, hc5, hpl5⟩ | ⟨rfl, hcr⟩
  rotate_left
  · have HPL5 := hid (hpl5 lv5 av5)
    have HA5 := hid ha5
    clear hp5 hpl5 ha5 hc5 p0
    go_wp2_with fail
    go_ret
    have u := HEM.out
    have g5 : PL k { v4 with s := sF, lv := lv5, a := aF, b := v4.b, c := cF, av := av5, pe := [] } rs4 W := HPL5.out
    have hA : aF = v4.a := HA5.out
    have hs5 : SameM v4 { v4 with s := sF, lv := lv5, a := aF, b := v4.b, c := cF, av := av5, pe := [] } := ⟨rfl, rfl, rfl, rfl, rfl⟩
    exact ⟨42, _, rfl, PE.trans HP2.out HP5.out, u.1, u.2.1, u.2.2.1, by show aF ≤ _; omega, by show v4.b ≤ _; omega, .inr (.inl ⟨rfl, HJ1.out.re (HSM.out.trans hs5) g5.lgr g5.g.fl g5.g.rng, ⟨rs4, g5⟩, HCU4.out, fun hr => absurd rfl (HSR.out hr)⟩), fun hc => absurd (HSC.out hc).1 (by decide)⟩
  · have HCR := hid hcr
    clear hp5 hcr p0
    go_wp2_with fail
    go_ret
    have u := HEM.out
    exact ⟨44, _, rfl, PE.trans HP2.out HP5.out, u.1, u.2.1, u.2.2.1, (by show aF ≤ _; have := HAF.out; omega), by show v4.b ≤ _; omega, .inr (.inr ⟨rfl, HCR.out.1, HCR.out.2.1, fun ks t => by rw [HWC.out]; exact (HCR.out.2.2 ks t).imp (fun h => h.mono (by show v4.a + v4.b + 1 ≤ v.a + v.b + 3; omega)) (fun h => h.mono (by show v4.a + v4.b + 1 ≤ v.a + v.b + 3; omega))⟩), fun hc => absurd (HSC.out hc).1 (by decide)⟩
  have hno : ∀ g, nv.ownBlock = some g → ¬ PF k { v4 with s := sF, lv := lv5, a := aF, b := v4.b, c := cF, av := av5, pe := [] } g := fun g hg hp => (HP5.out.2.2 g hp).elim (HNO.out g hg).1 (fun e => by have := (HNO.out g hg).2; omega)
  have hen4 : 0 ≤ v4.en ∧ v4.en ≤ 1048576 := by
    have h1 : v4.en = (v4.c : Nat) := HPL4.out.en
    have h2 := HF4.out; have := HJU.out.z2; have := HJU.out.z3; omega
  have HRC := hid (recorded_any k _ nv l w5 hp5.1 (HNV.out.of (fun g hg hl => HP5.out.2.1.block g hl (HNO.out g hg).1) HP5.out.2.1.size) hno (show 0 ≤ v4.en ∧ v4.en ≤ 1099511627776 by omega) (by have := HLL.out; omega))
  have HPL5 := hid (hpl5 lv5 av5)
  have HL5 := hid hL5
  have HA5 := hid (show aF = v4.a + 1 ∧ cF = v4.c + (8 + m.length) from ⟨ha5, hc5⟩)
  clear hp5 hpl5 hL5 ha5 hc5 hno hen4 p0
  go_wp2_with fail
  refine HRC.out.mono ?_
  rintro e w6 ⟨rfl, hpe⟩
  have HP6 := hid (PE.trans HP5.out hpe)
  have hg6 : PL k { v4 with s := sF, lv := lv5, a := aF, b := v4.b, c := cF, av := av5, pe := [], lg := rcL v4.lg (v4.en + 8) l, en := v4.en + 8 + 264 * l.length } (rs4 ++ [m]) (WN l pg W) := HPL5.out
  have hs6 : SameM v4 { v4 with s := sF, lv := lv5, a := aF, b := v4.b, c := cF, av := av5, pe := [], lg := rcL v4.lg (v4.en + 8) l, en := v4.en + 8 + 264 * l.length } := ⟨rfl, rfl, rfl, rfl, rfl⟩
  have hsv : SvK k v (rs4 ++ [m]) (WN l pg W) cF { v4 with s := sF, lv := lv5, a := aF, b := v4.b, c := cF, av := av5, pe := [], lg := rcL v4.lg (v4.en + 8) l, en := v4.en + 8 + 264 * l.length } := by
    have u := HEM.out
    have hA := HA5.out
    exact { j := HJ1.out.re (HSM.out.trans hs6) hg6.lgr hg6.g.fl hg6.g.rng, l := hg6, L := HL5.out, c := rfl, fz := fun hc => (HSC.out hc).2, e0 := u.1, e1 := u.2.1, eh := u.2.2.1, a := by show aF ≤ _; omega, b := by show v4.b ≤ _; omega }
  have hp6 := HP6.out
  have hca6 := HCU4.out
  generalize hv6 : ({ v4 with s := sF, lv := lv5, a := aF, b := v4.b, c := cF, av := av5, pe := [], lg := rcL v4.lg (v4.en + 8) l, en := v4.en + 8 + 264 * l.length } : PV) = v6 at hsv hp6 hg6 hs6
  have HSV := hid hsv
  have HPB6 := hid hp6
  have HC6 := hid (show ∀ n x, gl v6.ca n = some x → x = W n from by rw [hs6.ca]; exact hca6)
  clear hv6 hpe HRC hg6 hs6 hsv hp6 hca6
  obtain ⟨na, nc, rfl, hcells⟩ := HNV.out
  have HNC := hid hcells
  have hll : (l.length : Int) ≤ 4096 := by have := HLL.out; omega
  have HLE0 := hid HLL.out.2
  clear hcells HNV
  generalize hle : l.length = len at *
  have HLE := hid hle
  clear hle
  go_wp2_with fail
  go_loopw [42] (fun iv wr => ∃ (i : Nat) (v' : PV), i ≤ len ∧ iv = .int .i64 (i : Int) ∧ PE k { v1 with ov := ov1 } w2 v' wr ∧ SvK k v (rs4 ++ [m]) (WN l pg W) cF v' ∧ ∀ n y, gl v'.ca n = some y → y = if n ∈ l.take i then pg n else W n) (fun iv _ => len - (intOf iv).toNat)
  case atStart => exact ⟨0, v6, by omega, rfl, HPB6.out, HSV.out, fun n y hy => by rw [List.take_zero, if_neg (by simp)]; exact HC6.out n y hy⟩
  case round =>
    obtain ⟨i, v', hi, rfl, hpe, hsv, hcq⟩ := hrel
    have HCQ := hid hcq
    have HPR := hid hpe
    have HSR := hid hsv
    by_cases hlt : i < len
    · have hne : l ≠ [] := by intro e; have := HLE.out; rw [e] at this; simp at this; omega
      obtain ⟨g, rfl, hgl, hgc⟩ := HNC.out.resolve_left hne
      obtain ⟨x, hxi⟩ : ∃ x, l[i]? = some x := ⟨_, List.getElem?_eq_getElem (by rw [HLE.out]; exact hlt)⟩
      have cx : wr.cell? ⟨g, i, none⟩ = some (.int .i64 x) := by
        have h2 := hgc i x hxi
        unfold World.cell? at h2 ⊢
        simp only at h2 ⊢
        rw [hpe.2.1.block g hgl (HNO.out g rfl).1]
        exact h2
      have hxr := HLK.out x (List.mem_of_getElem? hxi)
      have hmr := HM2.out.of (hpe.2.1.block M HM2.out.lt HNP.out)
      have hlk := fun (u : World) (hu : u.heap[M]? = wr.heap[M]?) => run_look1_g (P := Tryz.prog) (mT := 76) (kT := 3) (eT := 50) (enc := blkV) Tryz.underlying76 Tryz.underlying3 (zeros 256) (fun u => zero35 u) x (hmr.of hu)
      have HLK1 := hid hlk
      have HXR := hid hxr
      have HBB := hid (show Blk x ((gl pp x).getD (zeros 256)) by
        cases hgn : gl pp x with
        | none => exact ⟨zeros_len 256, fun x hx => by have := List.eq_of_mem_replicate hx; omega⟩
        | some b => exact HPOK.out.1 x b hgn)
      have hd := hpe.1.fresh ((Below.refl _ wr).drew)
      have HKP := hid (keep_any k.B k.P (PC k v') 82 v'.C v'.ov k.most v'.ca v'.od x ((gl pp x).getD (zeros 256)) wr.drew hd.cache hsv.j.m0 HBB.out.1 hsv.j.pin.cal hsv.j.pin.odl hd.hB)
      have HD := hid hd
      have HCS := hid (show ∀ n y, gl (keepP k.most v'.ca v'.od x ((gl pp x).getD (zeros 256))).1 n = some y → y = if n ∈ l.take (i + 1) then pg n else W n from fun n y hy => by
        have htk : l.take (i + 1) = l.take i ++ [x] := by rw [List.take_add_one, hxi]; rfl
        rw [htk]
        rcases gl_keepP hsv.j.ci x _ hy with ⟨e1, e2⟩ | ⟨e1, e2⟩
        · rw [if_pos (by rw [e1]; simp), e2, e1]
          exact HPG.out x
        · rw [hcq n y e2]
          have hiff : n ∈ l.take i ++ [x] ↔ n ∈ l.take i := by simp [e1]
          by_cases hn : n ∈ l.take i
          · rw [if_pos hn, if_pos (hiff.2 hn)]
          · rw [if_neg hn, if_neg (fun h => hn (hiff.1 h))])
      generalize (gl pp x).getD (zeros 256) = bb at *
      clear hpe hsv hcq hne hgl hgc hxi hxr hmr hlk hd
      go_wp2_with fail
      refine wp_region_held_drew (S := fun u => u.heap[M]? = wr.heap[M]?) (by kernel_rfl) (rfl) (fun hHeld => ?_)
      refine tk (i := 0) (oi := ⟨some 46, .move (.tmp 0), 30, "commit.go:65", #[], none⟩) (v := ?_) (Or.inl ⟨by rfl, ?_⟩) ?_
      rotate_left 1
      · (intro u hSw; go_simp; try with_reducible rfl)
      try simp only [Act.put, sA, sB, sC]
      refine tk (i := 1) (oi := ⟨some 47, .nilCheck (.tmp 46), 0, "commit.go:65", #[⟨0, .data⟩], none⟩) (v := ?_) (Or.inl ⟨by rfl, ?_⟩) ?_
      rotate_left 1
      · (intro u hSw; go_simp; try with_reducible rfl)
      try simp only [Act.put, sA, sB, sC]
      refine tk (i := 2) (oi := ⟨some 48, .fieldAddr 82 (.tmp 47) 4, 0, "commit.go:65", #[⟨1, .data⟩], none⟩) (v := ?_) (Or.inl ⟨by rfl, ?_⟩) ?_
      rotate_left 1
      · (intro u hSw; go_simp; try with_reducible rfl)
      try simp only [Act.put, sA, sB, sC]
      refine tk (i := 3) (oi := ⟨some 49, .move (.tmp 9), 3, "commit.go:65", #[], none⟩) (v := ?_) (Or.inl ⟨by rfl, ?_⟩) ?_
      rotate_left 1
      · (intro u hSw; go_simp; try with_reducible rfl)
      try simp only [Act.put, sA, sB, sC]
      refine tk (i := 4) (oi := ⟨some 50, .move (.tmp 3), 76, "commit.go:65", #[], none⟩) (v := ?_) (Or.inl ⟨by rfl, ?_⟩) ?_
      rotate_left 1
      · (intro u hSw; go_simp; try with_reducible rfl)
      try simp only [Act.put, sA, sB, sC]
      refine tk (i := 5) (oi := ⟨some 51, .move (.tmp 9), 3, "commit.go:65", #[], none⟩) (v := ?_) (Or.inl ⟨by rfl, ?_⟩) ?_
      rotate_left 1
      · (intro u hSw; go_simp; try with_reducible rfl)
      try simp only [Act.put, sA, sB, sC]
      refine tk (i := 6) (oi := ⟨some 52, .lookup 76 (.tmp 50) (.tmp 51) false, 50, "commit.go:65", #[⟨4, .data⟩, ⟨5, .data⟩], none⟩) (v := ?_) (Or.inl ⟨by rfl, ?_⟩) ?_
      rotate_left 1
      · intro u hSw
        refine exec_lookupB (Operand.tmp 50) (Operand.tmp 51) ?_ (.map (some M)) (.int .i64 x) (.agg (ArrU8 bb)) ?_ ?_ (HLK1.out u hSw) <;> rfl
      try simp only [Act.put, sA, sB, sC]
      refine wpAnyH_ready (rs := [7]) (by kernel_rfl) (by simp) ?_
      refine (AllReadyH.cons (o := ⟨some 53, .call ⟨.value (.func 87), #[.tmp 48, .tmp 49, .tmp 52], #[79, 3, 50]⟩, 0, "commit.go:65", #[⟨2, .data⟩, ⟨3, .data⟩, ⟨6, .data⟩], none⟩) rfl (fun K hK => ?_) AllReadyH.nil)
      go_simp
      go_at_call 87
      refine HKP.out.mono ?_
      rintro e wc ⟨rfl, ov', hca, hch, hot⟩
      have hpe := HD.out.recache hca hch hot
      have HPC := hid (PE.trans (PE.post HPR.out ((Below.refl _ wr).drew)) hpe)
      have HMC := hid (show wc.heap[M]? = wr.heap[M]? from by
        have h1 := HPC.out.2.1.block M HM2.out.lt HNP.out
        have h2 := HPR.out.2.1.block M HM2.out.lt HNP.out
        exact h1.trans h2.symm)
      clear hca hch hot hpe
      go_wp2_with fail
      refine hK.out _ _ HMC.out (fun hHeld => ?_)
      clear hK K
      try simp only [Act.put, sA, sB, sC]
      refine wpAnyH_done (by kernel_rfl) ?_ _
      go_wp2_with fail
      go_roundw
      case rel => 
        have s := HSR.out
        exact ⟨i + 1, _, by omega, by go_num, HPC.out, { s with j := { s.j with ci := s.j.ci.keep s.j.m0 x bb HBB.out HXR.out }, l := s.l.as rfl rfl rfl rfl rfl rfl rfl }, HCS.out⟩
      case measure => simp [intOf]; omega
    · obtain rfl : i = len := by omega
      clear hpe hsv hcq
      go_wp2_with fail
      go_ret
      have s := HSR.out
      have hq := HCQ.out
      rw [List.take_of_length_le (by rw [HLE.out]; omega)] at hq
      have hC : v'.c = cF := s.c
      have hA := HA5.out
      have h4 := HC4.out
      have hlc := HLC.out
      have hvc := HVC.out
      refine ⟨0, v', rfl, PE.trans HP2.out HPR.out, s.e0, s.e1, s.eh, s.a, s.b, .inl ⟨rfl, s.j, ⟨_, by rw [HWC.out]; exact s.l⟩, s.L, fun n x hx => by rw [HWC.out]; exact hq n x hx, ?_, ?_⟩, fun hc => ⟨by decide, s.fz hc⟩⟩
      · rw [hC, hA.2, h4, hlc]
        have hvc2 : ({ v1 with ov := ov1 } : PV).c = v.c := hvc
        rw [hvc2]
      · rw [hlc]
        have := HF4.out
        omega
end Go.Proofs.YtdkjkibdncbibaaGreat
/- the law's blocks and steps -/
namespace Go.Proofs.YtdkjkibdncbibaaGreat
open Go.RowKit
open Go.Lib (hid)
/-- the law's block of a byte -/
def blk5 (b : Int) : List Int := if b = 0 then zeros 256 else blkOf b
theorem blk5_len (b : Int) : (blk5 b).length = 256 := by unfold blk5; split; exact zeros_len _; exact blkOf_len b
theorem blk5_rng (b : Int) (h : 0 ≤ b) : Rng (blk5 b) := by
 unfold blk5
 split
 ·exact rng_zeros _
 ·intro x hx
  obtain ⟨i, _, rfl⟩ := List.mem_map.1 hx
  omega
set_option maxRecDepth 100000 in
set_option maxHeartbeats 1000000 in
theorem block5_any (b : Int) (w : World) (hb : 0 ≤ b) :
    Calls Tryz.prog 24 #[.int .u8 b] w fun e w' => e = .returned (.agg (ArrU8 (blk5 b))) ∧ Below w.heap.size w w' := by
  have HI0 := hid (show (Tryz.prog.info? 50).map (·.size) = some (ArrU8 (zeros 256)).size by rw [ArrU8_size, zeros, List.length_replicate]; kernel_rfl)
  have hz := zero35
  have hbl : ∀ u : World, (Instr.build 50 #[]).run Tryz.prog u = .ok (.agg (ArrU8 (zeros 256))) u := fun u => by kernel_rfl
  go_enter Tryz.func24, Tryz.ntmps24
  have hcell : ((w.alloc (.cells (ArrU8 (zeros 256)) 50)).alloc (.cells (ArrU8 (zeros 256)) 50)).heap[w.heap.size + 1]? = some (.cells (ArrU8 (zeros 256)) 50 (0, 0)) := by
    have := heap_alloc_new (w.alloc (.cells (ArrU8 (zeros 256)) 50)) (.cells (ArrU8 (zeros 256)) 50)
    rwa [World.size_alloc] at this
  have HC := hid hcell
  clear hcell
  go_wp2_with (first | (refine wpList_store_row rfl 50 (Operand.tmp 3) (Operand.tmp 5) rfl (w.heap.size + 1) (ArrU8 (zeros 256)) rfl rfl 50 _ HC.out HI0.out rfl (ArrU8_one _) ?_) | fail)
  have hd0 := setRow_heap _ _ _ (ArrU8 (zeros 256)) _ _ HC.out
  have hbw : Below w.heap.size w (((w.alloc (.cells (ArrU8 (zeros 256)) 50)).alloc (.cells (ArrU8 (zeros 256)) 50)).setRow (w.heap.size + 1) (ArrU8 (zeros 256))) := below_setRow (((Below.refl _ _).alloc (Nat.le_refl _) _).alloc (by simp) _) (by omega) _
  have hr0 : (((w.alloc (.cells (ArrU8 (zeros 256)) 50)).alloc (.cells (ArrU8 (zeros 256)) 50)).setRow (w.heap.size + 1) (ArrU8 (zeros 256))).heap[w.heap.size]? = some (.cells (ArrU8 (zeros 256)) 50 (0, 0)) := by
    rw [setRow_other _ _ _ _ (by omega), Below.heap_alloc _ _ _ (by simp)]
    exact heap_alloc_new _ _
  have hsz : (((w.alloc (.cells (ArrU8 (zeros 256)) 50)).alloc (.cells (ArrU8 (zeros 256)) 50)).setRow (w.heap.size + 1) (ArrU8 (zeros 256))).heap.size = w.heap.size + 2 := by simp
  have hZ : ArrU8 (zeros 256) = DR (blkOf b) 0 := by simp [DR, zeros]
  have HD0 := hid hd0
  have HZ := hid hZ
  have HBW := hid hbw
  have HR0 := hid hr0
  have HSZ := hid hsz
  have BL := hid (blkOf_len b)
  clear hd0 hbw hr0 hsz hZ HC
  generalize ((w.alloc (.cells (ArrU8 (zeros 256)) 50)).alloc (.cells (ArrU8 (zeros 256)) 50)).setRow (w.heap.size + 1) (ArrU8 (zeros 256)) = w2 at *
  go_wp2_with fail
  by_cases hb0 : b = 0
  · subst hb0
    have HB5 := hid (show blk5 0 = zeros 256 from rfl)
    go_loopw [4] (fun iv wx => iv = .int .i64 0 ∧ wx = w2) (fun _ _ => 0)
    case atStart => exact ⟨rfl, rfl⟩
    case round =>
      obtain ⟨rfl, rfl⟩ := hrel
      go_wp2_with (first | (refine wpList_load_row rfl 50 (Operand.tmp 3) rfl (w.heap.size + 1) rfl 50 (ArrU8 (zeros 256)) (0,0) _ HD0.out Tryz.underlying50 rfl HI0.out ?_) | (refine wpList_store_row rfl 50 (Operand.tmp 2) (Operand.tmp 21) rfl w.heap.size (ArrU8 (zeros 256)) rfl rfl 50 _ HR0.out HI0.out rfl (ArrU8_one _) ?_))
      refine bodyPost_ret (results_cell_row rfl _ _ w.heap.size 50 (ArrU8 (zeros 256)) (0,0) _ rfl (setRow_heap _ _ _ _ _ _ HR0.out) Tryz.underlying50 rfl HI0.out) rfl ⟨?_, below_setRow HBW.out (by omega) _⟩
      rw [HB5.out]
  · have hbp : b > 0 := by omega
    have HB5 := hid (show blk5 b = blkOf b from if_neg hb0)
    clear HI0
    go_loopw [4] (fun iv wx => ∃ i : Nat, i ≤ 256 ∧ iv = .int .i64 i ∧ Below w.heap.size w wx ∧ wx.heap.size = w.heap.size + 2 ∧ wx.heap[w.heap.size]? = some (.cells (ArrU8 (zeros 256)) 50 (0, 0)) ∧ wx.heap[w.heap.size + 1]? = some (.cells (DR (blkOf b) i) 50 (0, 0))) (fun iv _ => 256 - (intOf iv).toNat)
    case atStart => exact ⟨0, by omega, rfl, HBW.out, HSZ.out, HR0.out, by rw [← HZ.out]; exact HD0.out⟩
    case round =>
      clear HD0 HBW HR0 HSZ
      obtain ⟨i, hi, rfl, hbx, hsx, hrx, hx⟩ := hrel
      have HX := hid hx
      have HRX := hid hrx
      have HBX := hid hbx
      have HSX := hid hsx
      by_cases hlt : i < 256
      · have hii : (i : Int) < 256 := by omega
        obtain ⟨old, ho⟩ := DR_get (blkOf b) i i BL.out (by omega) hlt
        have cs := (cell_of_row wr _ i _ _ _ hx).trans ho
        have fs := frozen_of_row wr _ i _ _ hx
        clear hx hrx hbx hsx ho
        go_wp2
        refine ⟨⟨i + 1, by omega, by go_num, HBX.out.setCell (by simp) _, by simp [HSX.out], ?_, ?_⟩, by simp [intOf]; omega⟩
        · exact (heap_setCell_other _ _ _ _ (by simp)).trans HRX.out
        · refine (heap_setCell_same _ _ _ _ _ _ HX.out).trans ?_
          rw [DR_set (blkOf b) i BL.out hlt _ (blkOf_get b i hlt)]
      · obtain rfl : i = 256 := by omega
        clear hx hrx hbx hsx
        have HI := hid (show (Tryz.prog.info? 50).map (·.size) = some (DR (blkOf b) 256).size by rw [DR_size _ 256 BL.out (by omega)]; kernel_rfl)
        have HS := hid (DR_size (blkOf b) 256 BL.out (by omega))
        go_wp2_with (first | (refine wpList_load_row rfl 50 (Operand.tmp 3) rfl (w.heap.size + 1) rfl 50 (DR (blkOf b) 256) (0,0) _ HX.out Tryz.underlying50 rfl HI.out ?_) | (refine wpList_store_row rfl 50 (Operand.tmp 2) (Operand.tmp 21) rfl w.heap.size (DR (blkOf b) 256) rfl rfl 50 _ HRX.out HI.out (by rw [HS.out]; rfl) (ArrU8_one _) ?_))
        refine bodyPost_ret (results_cell_row rfl _ _ w.heap.size 50 (DR (blkOf b) 256) (0,0) _ rfl (setRow_heap _ _ _ _ _ _ HRX.out) Tryz.underlying50 rfl HI.out) rfl ⟨?_, below_setRow HBX.out (by omega) _⟩
        rw [DR_end _ BL.out, HB5.out]
/-- a step -/
structure S5 where
 k : Int
 n : Int
 b : Int
structure S5.OK (x : S5) : Prop where
 hk : -9223372036854775808 ≤ x.k ∧ x.k ≤ 9223372036854775807
 hn : -9223372036854775808 ≤ x.n ∧ x.n ≤ 9223372036854775807
 hb : 0 ≤ x.b ∧ x.b ≤ 255
def Steps5 (w : World) (v : Value) (l : List S5) : Prop :=
 ∃ (a : Option Addr) (cap : Nat), v = .slice a l.length cap ∧ (0 < l.length → ∃ b off, a = some ⟨b, off, none⟩ ∧ b < w.heap.size ∧
  ∀ i x, l[i]? = some x → w.cell? ⟨b, off + i * 3, none⟩ = some (.int .i64 x.k) ∧ w.cell? ⟨b, off + i * 3 + 1, none⟩ = some (.int .i64 x.n) ∧ w.cell? ⟨b, off + i * 3 + 2, none⟩ = some (.int .u8 x.b) ∧ x.OK)
theorem Steps5.below {w w' : World} {v : Value} {l : List S5} (h : Steps5 w v l) (hb : Below w.heap.size w w') : Steps5 w' v l := by
 obtain ⟨a, cap, h1, h2⟩ := h
 refine ⟨a, cap, h1, fun h0 => ?_⟩
 obtain ⟨b, off, h3, h4, h5⟩ := h2 h0
 refine ⟨b, off, h3, Nat.lt_of_lt_of_le h4 hb.size, fun i x hx => ?_⟩
 obtain ⟨e1, e2, e3, e4⟩ := h5 i x hx
 exact ⟨(hb.cell (p := ⟨b, off + i * 3, none⟩) h4).trans e1, (hb.cell (p := ⟨b, off + i * 3 + 1, none⟩) h4).trans e2, (hb.cell (p := ⟨b, off + i * 3 + 2, none⟩) h4).trans e3, e4⟩
/-- the numbers of a header's page are read back -/
theorem hdr_ovB (ns : List Nat) (l : List Int) (hn : ns.length = 18) (h64 : ∀ n ∈ ns, n < 18446744073709551616) : hdr (ovB ns l) = ns := by
 apply List.ext_getElem
 ·rw [hdr_len, hn]
 ·intro i h1 h2
  simp only [hdr, List.getElem_map, List.getElem_range]
  unfold nAt ovB ovL
  rw [show ns.take 18 = ns from List.take_of_length_le (by omega), flat8_drop _ _ i (by omega), List.drop_eq_getElem_cons h2, List.flatMap_cons, List.append_assoc, List.take_left' (be8_len _), beI_be8 _ (h64 _ (List.getElem_mem h2))]
theorem hdr_hdr0 : hdr hdr0 = 1 :: List.replicate 17 0 := hdr_ovB _ _ rfl (by decide)
theorem fresh_far (f : Int → List Int) (sz n : Int) (h : 3 ≤ sz) (hn : 0 ≤ n) : fputs (fput f sz hdr0) (fw 0) (sz + n) = if n = 0 then hdr0 else f (sz + n) := by
 rw [fputs_far _ _ _ (fun x hx => by
  rw [fw, List.mem_cons, List.mem_singleton] at hx
  rcases hx with rfl | rfl
  ·show (0 : Int) + 1 ≠ sz + n; omega
  ·show (0 : Int) ≠ sz + n; omega)]
 unfold fput
 split
 ·rename_i h1; rw [if_pos (by omega)]
 ·rename_i h1; rw [if_neg (by omega)]
/-- a pager that was opened on a disk that does not fail is calm -/
theorem opened_calm {w w' : World} {B D M : Nat} {nb rm sz hold : Int} {f : Int → List Int} {lv : Value} {a b c : Nat} {rs : List (List Int)} {e : Ending} (h : OpnEnds B D M nb rm (-1) sz hold f [] lv a b c rs w e w') (hd : LgD w B D M nb rm f lv 0 sz a b c rs) (hnb : sz < nb) (hrm : nb ≤ rm) (hrs : ∀ r ∈ rs, RecOK (nb - sz) r)
    (hu : 1 ≤ hN (hdr (stoF sz f (lgF rs [] 0) 0)) 0 ∧ (hN (hdr (stoF sz f (lgF rs [] 0) 0)) 0 : Int) ≤ nb - sz) :
    ∃ Pl P Lm C Hm, e = .returned (.tuple #[.pointer (some ⟨P, 0, none⟩), .int .i64 0]) ∧ Chg (Foot D M lv) w w' ∧ ∀ k v, k = (⟨B, D, M, Pl, P, nb, rm, sz, max hold 0⟩ : PK) → v = (⟨⟨-1, false, f, []⟩, lv, a, b, c, .slice none 0 0, [], Lm, c, C, .slice none 0 0, hdr (stoF sz f (lgF rs [] 0) 0), hdr (stoF sz f (lgF rs [] 0) 0), Hm, lgF rs [] 0, [], [], []⟩ : PV) →
      PgS k v w' ∧ PCalm k v ∧ ∀ g, PF k v g → Foot D M lv g ∨ w.heap.size ≤ g := by
  obtain ⟨Pl, P, Lm, C, Hm, rfl, hc, hk⟩ := h
  refine ⟨Pl, P, Lm, C, Hm, rfl, hc, fun k v hkk hvv => ?_⟩
  obtain ⟨h1, h2⟩ := hk k v hkk hvv
  subst hkk hvv
  have hel : (encs rs).length = c := by rw [← hd.area]; exact areaB_len _ _ h1.dkl c
  have hb64 : ∀ n ∈ hdr (stoF sz f (lgF rs [] 0) 0), n < 18446744073709551616 := fun n hn => by
    obtain ⟨i, _, rfl⟩ := List.mem_map.1 hn
    refine nAt_lt _ ?_ i
    unfold stoF
    split
    · exact arRd_rng hd.rng _
    · exact hd.rng _
  refine ⟨h1, ⟨?_, rs, ?_⟩, h2⟩
  · exact { z1 := hd.h2, z2 := hnb, z3 := hd.h4, m0 := by show 0 ≤ max hold 0; omega
            lgr := lgF_rng rs hrs [] 0 (Int.le_refl _) (fun n x hx => by simp [gl] at hx) (by rw [hel]; have := hd.fits; show (0 : Int) + c ≤ (sz - 2) * 256; omega)
            ci := CI.nil (by show 0 ≤ max hold 0; omega)
            chl := fun n l hl => by simp [gl] at hl
            chn := List.nodup_nil
            chr := fun n hn => by simp [gk] at hn
            fl := h1.dkl, fr := hd.rng, b0 := hb64, b1 := hb64, u0 := hu, u1 := hu, l0 := hdr_len _, l1 := hdr_len _ }
  · exact { s := rfl, rm := hrm, mkf := hd.mkf, area := hd.area, fits := hd.fits, rrs := fun r hr => (hrs r hr).rng, ha := hd.ha, hb := hd.hb, pe := rfl, en := rfl
            lgk := lgF_keys rs hrs [] 0 (fun n hn => by simp [gk] at hn) }
end Go.Proofs.YtdkjkibdncbibaaGreat
/- Commit on any disk -/
namespace Go.Proofs.YtdkjkibdncbibaaGreat
open Go.RowKit
open Go.Lib (hid)
def Cm2 (k : PK) (v : PV) (W : Int → List Int) (w : World) (e : Ending) (w' : World) : Prop :=
 ∃ E v', e = .returned (.int .i64 E) ∧ PE k v w v' w' ∧ v'.a ≤ v.a + 2 ∧ v'.b ≤ v.b + 1 ∧
  ((chN v = 0 ∧ E = 0 ∧ v' = v) ∨
   (chN v ≠ 0 ∧ E = 0 ∧ (∃ rs2, PL k v' rs2 (NW v W)) ∧ v'.s.L = [] ∧ PJ k v' ∧ PM v' (NW v W) ∧ v'.h1 = v.h1 ∧ v'.ch = [] ∧ v'.c = (if ((v.c + (8 + 264 * chL k v) : Nat) : Int) ≤ (k.sz - 2) * 256 then v.c else 0) + (8 + 264 * chL k v) ∧ ((8 + 264 * chL k v : Nat) : Int) ≤ (k.sz - 2) * 256) ∨
   (chN v ≠ 0 ∧ E = 42 ∧ (∃ rs2, PL k v' rs2 W) ∧ PJ k v' ∧ PM v' W ∧ v'.h1 = v.h0 ∧ v'.ch = [] ∧ (k.nb ≤ k.rm → v'.c = 0 ∧ v'.s.L = [] ∧ ¬ (((8 + 264 * chL k v : Nat) : Int) ≤ (k.sz - 2) * 256))) ∨
   (chN v ≠ 0 ∧ E = 44 ∧ Crash k v'.s fun g => OKD (v.a + v.b + 3) k.nb k.sz g W ∨ OKD (v.a + v.b + 3) k.nb k.sz g (NW v W))) ∧ (Calm2 k v → E ≠ 44 ∧ v'.s.fz = -1)
theorem NW_hdr {k : PK} {v : PV} {W : Int → List Int} (hj : PJ k v) (hm : PM v W) : hdr (NW v W 0) = v.h1 := by
 unfold NW
 rw [if_pos rfl]
 split
 ·rename_i h
  rw [h, hm.h0]
 ·exact hdr_ovB _ _ hj.l1 hj.b1
set_option maxRecDepth 100000 in
set_option maxHeartbeats 4000000 in
theorem commit2 (k : PK) (v : PV) (rs : List (List Int)) (W : Int → List Int) (w : World) (h : PgS k v w) (hj : PJ k v) (hg : PL k v rs W) (hmm : PM v W) (hL0 : v.s.L = []) (hW : ∀ n, (W n).length = 256 ∧ Rng (W n)) (ha : v.a + 2 < 1099511627776) (hb : v.b + 1 < 1099511627776) :
  Calls Tryz.prog 19 #[.pointer (some ⟨k.P, 0, none⟩)] w (Cm2 k v W w) := by
 have H := hid h
 have HJ := hid hj
 have HM := hid hmm
 have HWC := hid (show WC k v W = NW v W from funext (WC_eq hg hj hmm))
 have HSV := hid (fun u (hu : PgS k v u) (hc : chN v ≠ 0) => save2 k v rs W u hu hj hg hmm hL0 hW hc ha hb)
 have HFZ := hid (show Calm2 k v → v.s.fz = -1 from fun h => h.1)
 have HCN := hid (changed_any k v w h hj.hin hj.chlen)
 have HNN := hid (show (0 : Int) ≤ chN v by unfold chN; split <;> omega)
 clear h hj hg ha hb hmm hL0 hW
 go_enter Tryz.func19, Tryz.ntmps19
 go_wp2_with fail
 refine HCN.out.mono ?_
 rintro e w1 ⟨rfl, hb1⟩
 by_cases hc : chN v = 0
 ·have HC := hid hc
  have HB := hid hb1
  rw [hc]
  clear hc hb1
  go_wp2_with fail
  go_ret
  exact ⟨0, v, rfl, PE.same H.out HB.out, by omega, by omega, .inl ⟨HC.out, rfl, rfl⟩, fun hc => ⟨by decide, HFZ.out hc⟩⟩
 ·have HC := hid hc
  have HP1 := hid (PE.same H.out hb1)
  have HSV1 := hid (HSV.out w1 HP1.out.1 hc)
  generalize hcn : chN v = cn at *
  clear hb1
  go_wp2_with fail
  refine HSV1.out.mono ?_
  rintro e w2 ⟨E, v2, rfl, hpe, g0, g1, gc, ha2, hb2, hor, hcal⟩
  have hp2 := PE.trans HP1.out hpe
  have HP2 := hid hp2
  have HE := hid (show v2.h0 = v.h0 ∧ v2.h1 = v.h1 ∧ v2.ch = v.ch from ⟨g0, g1, gc⟩)
  have HA := hid (show v2.a ≤ v.a + 2 ∧ v2.b ≤ v.b + 1 from ⟨ha2, hb2⟩)
  have HCL := hid hcal
  by_cases hE : E = 0
  ·subst hE
   rcases hor with ⟨_, hj2, hpl, hL, hca, hc2, hft⟩ | ⟨h9, _⟩ | ⟨h9, _⟩
   rotate_left
   ·exact absurd h9 (by decide)
   ·exact absurd h9 (by decide)
   have HX := hid (And.intro hj2 (And.intro hpl (And.intro hL (And.intro hca (And.intro hc2 hft)))))
   have h0 : v2.h0.length = 18 := hp2.1.l0
   have h1 : v2.h1.length = 18 := hp2.1.l1
   have HL := hid (And.intro h0 h1)
   have HRG := hid (box_rg h0 h1 hp2.1.box).2
   have HIH := hid (show (Tryz.prog.info? 68).map (·.size) = some (HV v2.h1).length by rw [HV_len, h1]; kernel_rfl)
   have HIH2 := hid (show (Tryz.prog.info? 68).map (·.size) = some (HV v2.h1).toArray.size by rw [List.size_toArray, HV_len, h1]; kernel_rfl)
   have hx1 : (w2.alloc (.map #[] 0)).heap[k.P]? = some (.cells (PC k v2) 82 (0, 0)) := (heap_alloc_old _ _ hp2.1.ltP).trans hp2.1.box
   have hth : (w2.alloc (.map #[] 0)).there k.P 8 (HV v2.h1).toArray.size := fun j hj => by
    rw [List.size_toArray, HV_len, h1] at hj
    rw [cell_of_row _ _ _ _ _ _ hx1, PC_h0 j h0 hj, HV_at _ _ (by rw [h0]; exact hj)]
    exact ⟨rfl, frozen_of_row _ _ _ _ _ hx1⟩
   have HTH := hid hth
   have hb2' := heap_setCells k.P 82 (HV v2.h1) 8 _ _ hx1
   rw [PC_seth0 h0 v2.h1 h1] at hb2'
   have HB2 := hid hb2'
   have c44 := (cell_of_row _ k.P 44 _ _ _ hb2').trans (PC_44 (k := k) (v := { v2 with h0 := v2.h1 }) h1 h1)
   have f44 := frozen_of_row _ k.P 44 _ _ hb2'
   have H1C := hid (all_oneCell_toArray (cs := HV v2.h1) (fun x hx => by obtain ⟨n, _, rfl⟩ := List.mem_map.1 hx; rfl))
   have hmk := run_mkmap_blk
   clear hpe g0 g1 gc ha2 hb2 hcal hj2 hpl hL hca hc2 hft hp2 hx1 hth hb2' h0 h1 HSV1
   go_wp2_with (first | (refine wpList_load_mid rfl 68 (Operand.tmp 18) rfl k.P 26 rfl (HV v2.h1) _ HRG.out Tryz.underlying68 rfl HIH.out ?_) | (refine wpList_store_mid rfl 68 (Operand.tmp 22) (Operand.tmp 19) rfl k.P 8 (HV v2.h1).toArray rfl rfl HTH.out HIH2.out H1C.out ?_))
   go_ret
   have hm : MapG blkV (((w2.alloc (.map #[] 0)).setCells k.P 8 (HV v2.h1)).setCell ⟨k.P, 44, none⟩ (.map (some w2.heap.size))) w2.heap.size [] := by
    refine (MapG.empty blkV w2).of ((heap_setCell_other _ _ _ _ (by have := HP2.out.1.ltP; simp; omega)).trans ?_)
    exact (Chg.setCells k.P (HV v2.h1) 8 _ (Chg.refl (fun g => g = k.P) (w2.alloc (.map #[] 0))) rfl).block w2.heap.size (by simp) (by have := HP2.out.1.ltP; omega)
   have hbx := heap_setCell_same _ k.P 44 _ 82 (.map (some w2.heap.size)) HB2.out
   rw [PC_set44 (k := k) (v := { v2 with h0 := v2.h1 }) HL.out.2 HL.out.2] at hbx
   have hpf := HP2.out.1.rebox (h0' := v2.h1) (h1' := v2.h1) (en' := v2.en) (Lm' := v2.Lm) (lg' := v2.lg) (ch' := []) ((Chg.setCells k.P (HV v2.h1) 8 _ ((Chg.refl (fun g => g = k.P) w2).alloc _) rfl).setCell ⟨k.P, 44, none⟩ _ (.inl rfl)) hbx HL.out.2 HL.out.2 (.inl ⟨rfl, rfl⟩) (.inr ⟨Nat.le_refl _, hm⟩) (by have := HP2.out.1.lg.lt; omega)
   obtain ⟨x1, ⟨rs2, x2⟩, x3, x4, x5, x6⟩ := HX.out
   rw [HWC.out] at x2 x4
   have hE := HE.out
   refine ⟨0, _, rfl, PE.trans HP2.out hpf, HA.out.1, HA.out.2, .inr (.inl ⟨by rw [hcn]; exact HC.out, rfl, ⟨rs2, x2.as rfl rfl rfl rfl rfl rfl rfl⟩, x3, x1.done _, ⟨x4, fun n x hx => by simp [gl] at hx, ?_⟩, hE.2.1, rfl, x5, x6⟩), HCL.out⟩
   show v2.h1 = _
   rw [NW_hdr HJ.out HM.out]
   exact hE.2.1
  ·have HEN := hid hE
   have HOR := hid hor
   have HAB2 := hid (abort_any k v2 w2 hp2.1)
   clear hpe g0 g1 gc ha2 hb2 hcal hor hp2 HSV1
   go_wp2_with fail
   refine HAB2.out.mono ?_
   rintro e w3 ⟨rfl, H3, hpe⟩
   have HP3 := hid (PE.trans HP2.out hpe)
   clear hpe HAB2
   go_wp2_with fail
   go_ret
   have hS := HE.out
   rcases HOR.out with ⟨h9, _⟩ | ⟨rfl, hj2, ⟨rs2, hpl⟩, hca, hcc⟩ | ⟨rfl, hcr⟩
   ·exact absurd h9 HEN.out
   ·exact ⟨42, _, rfl, HP3.out, HA.out.1, HA.out.2, .inr (.inr (.inl ⟨by rw [hcn]; exact HC.out, rfl, ⟨rs2, hpl.as rfl rfl rfl rfl rfl rfl rfl⟩, hj2.ab _, ⟨hca, fun n x hx => by simp [gl] at hx, hS.1.trans HM.out.h0⟩, hS.1, rfl, fun h => by have h1 := hcc h; exact ⟨h1.1, h1.2.1, by have h2 := h1.2.2; omega⟩⟩)), HCL.out⟩
   ·rw [HWC.out] at hcr
    exact ⟨44, _, rfl, HP3.out, HA.out.1, HA.out.2, .inr (.inr (.inr ⟨by rw [hcn]; exact HC.out, rfl, hcr⟩)), HCL.out⟩
end Go.Proofs.YtdkjkibdncbibaaGreat
/- the document's pages beside the program's: plain -/
namespace Go.Proofs.YtdkjkibdncbibaaGreat
open Go.RowKit
open Go.Lib (hid)
theorem ovB_hdr {l : List Int} (hl : l.length = 256) (hr : Rng l) : ovB (hdr l) l = l := by
 have hk : ∀ k, k ≤ 32 → ((List.range k).map (nAt l)).flatMap be8 = l.take (8 * k) := by
  intro k
  induction k with
  | zero => intro _; rfl
  | succ k ih =>
   intro hk
   rw [List.range_succ, List.map_append, List.flatMap_append, ih (by omega)]
   simp only [List.map_cons, List.map_nil, List.flatMap_cons, List.flatMap_nil, List.append_nil]
   unfold nAt
   rw [be8_beI (by rw [List.length_take, List.length_drop]; omega) ((hr.drop _).take _)]
   rw [show 8 * (k + 1) = 8 * k + 8 by omega, List.take_add]
 unfold ovB ovL
 rw [List.take_of_length_le (by rw [hdr_len]; omega), hdr, hk 18 (by omega), List.take_append_drop]
/-- the pages as they are now -/
def NL (v : PV) (W : Int → List Int) (n : Int) : List Int := if n = 0 then ovB v.h1 (W 0) else (gl v.ch n).getD (W n)
section
variable {k : PK} {v : PV} {rs : List (List Int)} {W : Int → List Int}
theorem NW_NL (hm : PM v W) (h0 : (W 0).length = 256 ∧ Rng (W 0)) : NW v W = NL v W := by
 funext n
 unfold NW NL
 split
 ·split
  ·rename_i h
   rw [h, hm.h0, ovB_hdr h0.1 h0.2]
  ·rfl
 ·rfl
theorem NL_blk (hj : PJ k v) (hW : ∀ n, (W n).length = 256 ∧ Rng (W n)) (n : Int) : (NL v W n).length = 256 ∧ Rng (NL v W n) := by
 unfold NL
 split
 ·exact ⟨ovL_len _ _ 18 hj.l1 (hW 0).1 (Nat.le_refl _), ovL_rng _ _ _ (hW 0).2⟩
 ·cases hg : gl v.ch n with
  | some x => exact hj.chl n x hg
  | none => exact hW n
theorem nAt_NL (hj : PJ k v) (i : Nat) (hi : i < 18) : nAt (NL v W 0) i = hN v.h1 i := by
 have h1 := hdr_ovB v.h1 (W 0) hj.l1 hj.b1
 have h2 : (hdr (ovB v.h1 (W 0)))[i]? = some (nAt (ovB v.h1 (W 0)) i) := by
  unfold hdr
  rw [List.getElem?_map, List.getElem?_range hi]
  rfl
 rw [h1] at h2
 unfold NL hN
 rw [if_pos rfl, h2]
 rfl
theorem PL.cu (hl : PL k v rs W) (hm : PM v W) (n : Int) (h0 : 1 ≤ n) (h1 : n < k.nb - k.sz) : cuR k v n = (NL v W n, 0) := by
 unfold cuR NL
 rw [if_neg (by omega)]
 cases hg : gl v.ch n with
 | some b => rfl
 | none => exact hl.cm hm n (by omega) h1
theorem PM.cuV (hl : PL k v rs W) (hj : PJ k v) (h : PM v W) (n : Int) (h0 : 0 ≤ n) (h1 : n < k.nb - k.sz) : ∀ m y, gl (cuV k v n).1 m = some y → y = W m := by
 unfold Go.Proofs.YtdkjkibdncbibaaGreat.cuV
 cases hg : gl v.ch n with
 | some b => exact h.ca
 | none => exact PM.cmV hl hj h n h0 h1
/-- a page set: memory, and the pages as they are now -/
theorem PM.st (hl : PL k v rs W) (hj : PJ k v) (h : PM v W) (n : Int) (b : List Int) (h0 : 1 ≤ n) (h1 : n < k.nb - k.sz) : PM (stU k v n b) W ∧ ∀ m, NL (stU k v n b) W m = if m = n then b else NL v W m := by
 have hc := hl.cm h n (by omega) h1
 have hch : ∀ m, gl (stU k v n b).ch m = if m = n then (if b = W n then none else some b) else gl v.ch m := by
  intro m
  show gl (stV k v n b) m = _
  unfold stV
  rw [hc]
  simp only [true_and]
  by_cases hb : b = W n
  ·rw [if_pos hb, gl_gd _ _ hj.chn, if_pos hb]
  ·rw [if_neg hb, gl_gp, if_neg hb]
 refine ⟨⟨PM.cmV hl hj h n (by omega) h1, fun m x hx => ?_, h.h0⟩, fun m => ?_⟩
 ·rw [hch] at hx
  split at hx
  ·rename_i e
   split at hx
   ·cases hx
   ·rename_i hb
    injection hx with hx
    subst hx
    rw [e]
    exact ⟨hb, by omega⟩
  ·exact h.ch m x hx
 ·unfold NL
  by_cases hm : m = n
  ·rw [if_pos hm, if_neg (by omega), hch, if_pos hm]
   split
   ·rename_i hb; rw [hm]; exact hb.symm
   ·rfl
  ·rw [if_neg hm]
   by_cases hz : m = 0
   ·rw [if_pos hz, if_pos hz]; rfl
   ·rw [if_neg hz, if_neg hz, hch, if_neg hm]
theorem flat8_set (ns : List Nat) (i x : Nat) (r : List Int) (hi : i < ns.length) : putL (ns.flatMap be8 ++ r) (8 * i) (be8 x) = (ns.set i x).flatMap be8 ++ r := by
 have h1 : ns.flatMap be8 = (ns.take i).flatMap be8 ++ be8 ns[i] ++ (ns.drop (i + 1)).flatMap be8 := by
  have h : ns.take i ++ ns[i] :: ns.drop (i + 1) = ns := by rw [← List.drop_eq_getElem_cons hi, List.take_append_drop]
  calc ns.flatMap be8 = (ns.take i ++ ns[i] :: ns.drop (i + 1)).flatMap be8 := by rw [h]
   _ = _ := by rw [List.flatMap_append, List.flatMap_cons, List.append_assoc]
 have h2 : (ns.set i x).flatMap be8 = (ns.take i).flatMap be8 ++ be8 x ++ (ns.drop (i + 1)).flatMap be8 := by
  rw [List.set_eq_take_append_cons_drop, if_pos hi]
  simp
 have hl : ((ns.take i).flatMap be8).length = 8 * i := by
  have : ∀ l : List Nat, (l.flatMap be8).length = 8 * l.length := by
   intro l
   induction l with
   | nil => rfl
   | cons y l ih => rw [List.flatMap_cons, List.length_append, be8_len, ih, List.length_cons]; omega
  rw [this, List.length_take]
  omega
 rw [h1, h2]
 unfold putL
 simp only [List.append_assoc]
 rw [List.take_left' hl, be8_len, ← List.drop_drop, List.drop_left' hl, List.drop_left' (be8_len _)]
/-- one of the header's numbers set -/
theorem NL_num (hj : PJ k v) (i x : Nat) (hi : i < 18) : ∀ m, NL { v with h1 := v.h1.set i x } W m = if m = 0 then putL (NL v W 0) (8 * i) (be8 x) else NL v W m := by
 intro m
 unfold NL
 by_cases hm : m = 0
 ·rw [if_pos hm, if_pos hm, if_pos rfl]
  unfold ovB ovL
  have h18 := hj.l1
  show ((v.h1.set i x).take 18).flatMap be8 ++ _ = _
  rw [List.take_of_length_le (by rw [List.length_set]; omega), show v.h1.take 18 = v.h1 from List.take_of_length_le (by omega), flat8_set _ _ _ _ (by omega)]
 ·rw [if_neg hm, if_neg hm, if_neg hm]
theorem PM.as (h : PM v W) {v' : PV} (h1 : v'.ca = v.ca) (h2 : v'.ch = v.ch) (h3 : v'.h0 = v.h0) : PM v' W := ⟨by rw [h1]; exact h.ca, by rw [h2]; exact h.ch, by rw [h3]; exact h.h0⟩
end
end Go.Proofs.YtdkjkibdncbibaaGreat
