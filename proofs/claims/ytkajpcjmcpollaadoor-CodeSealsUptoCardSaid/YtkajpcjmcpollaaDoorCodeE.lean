import Derived.Test.YtkajpcjmcpollaaDoorCodeD
import Derived.WalkKit
import Derived.ProofKit
import Derived.BigQuiet
import Derived.Deep.QuietTactic
import Derived.WalkSpells
import Derived.WalkLawsBesides
import Derived.Lib.Hide
import Derived.Deep.MidRow
import Derived.Deep.RegionLaw
import Derived.BigRegion
import Derived.Lib.SlBytesConst
import Derived.Laws.AppendOwnNone
import Derived.Deep.DeepMust
import Derived.Deep.AppendLies
import Derived.RegionTactic
import Derived.Deep.WholeRow
import Derived.BigFrame
import Derived.Deep.RegionWith
import Derived.Deep.RegionHeld3
import Derived.Maps.RangeWalk
import Derived.Laws.CopyOwn
import Derived.StillTailTactics
namespace Go.Proofs.YtkajpcjmcpollaaDoor
open Go.RowKit
attribute [local go_sem ↓] convC_eq
set_option maxHeartbeats 1600000 in
theorem vld_slen {x : Val} (h : vld x = true) : x.s.length ≤ 64 := by
  obtain ⟨k, n, s⟩ := x
  unfold vld at h
  simp only at h ⊢
  split at h
  · simp at h; simp [h.2]
  split at h
  · simp at h; simp [h]
  split at h
  · simp at h; exact h.2
  split at h
  · simp at h; simp [h.2]
  · cases h
theorem keyR_ge (r : List Val) : r.length ≤ (keyR r).length := by
  induction r with
  | nil => simp
  | cons x r ih =>
    have e : keyR (x :: r) = keyV x ++ keyR r := by simp [keyR]
    rw [e, List.length_append, List.length_cons]
    simp only [keyV, List.length_cons]; omega
theorem rowsF_err : ∀ (f p : Nat) (l : List Int) (e : Int) (a : Nat), rowsF f p l = .err e a → e = 5 ∨ e = 6
  | 0, p, l, e, a, h => by cases h
  | f + 1, p, l, e, a, h => by
    rw [rowsF] at h
    by_cases h0 : l = []
    · rw [if_pos h0] at h; cases h
    rw [if_neg h0] at h
    cases h1 : one l with
    | err e2 =>
      rw [h1] at h
      simp only [RR.err.injEq] at h
      rw [← h.1]; exact one_err h1
    | ok v u =>
      rw [h1] at h
      simp only at h
      cases h2 : rowsF f (p + u) (l.drop u) with
      | ok r2 => rw [h2] at h; cases h
      | err e2 a2 =>
        rw [h2] at h
        simp only [RR.app, RR.err.injEq] at h
        rw [← h.1]; exact rowsF_err f _ _ e2 a2 h2
set_option maxHeartbeats 3200000 in
theorem back_walk (v1 v2 : Value) (r : List Val) (l : List Int) (w : World) (h1 : Rw w v1 r) (h2 : Bs w v2 l) (ho1 : ∀ x ∈ r, x.OK ∧ x.s.length ≤ 1099511627776) (hr : Rng l) (hl : r.length ≤ 1048576) (hm : l.length ≤ 1048576) (hK : KC w) :
    Calls Tryd.prog 6 #[v1, v2] w fun e w' => e = .returned (.bool true) ∧ Below w.heap.size w w' := by
  have H1 := Lib.hid h1
  have H2 := Lib.hid h2
  have HO1 := Lib.hid ho1
  have HR := Lib.hid hr
  clear h1 h2 ho1 hr
  go_enter Tryd.func6, Tryd.ntmps6
  go_wp2_with fail
  refine (fixed_any w hK).mono ?_
  rintro e w1 ⟨rfl, b1⟩
  have B1 := Lib.hid b1
  have s1 := b1.size
  clear b1 hK
  go_wp2_with fail
  refine (key_any v1 r w1 (H1.out.below B1.out) HO1.out (by omega)).mono ?_
  rintro e w2 ⟨hb2, hp2⟩
  have B2 := Lib.hid (B1.out.trans (hb2.mono s1))
  have s2 := B2.out.size
  clear hb2
  by_cases hra : r.all vld = true
  · rw [if_pos hra] at hp2
    obtain ⟨va, rfl, hown2⟩ := hp2
    have O2 := Lib.hid hown2
    have gr : ∀ x ∈ r, vld x = true ∧ x.OK := fun x hx => ⟨List.all_eq_true.1 hra x hx, (HO1.out x hx).1⟩
    have hkl := keyR_len r (fun x hx => (gr x hx).1)
    have GR := Lib.hid gr
    clear hown2 hra gr
    go_wp2_with fail
    refine (row_any va (keyR r) w2 O2.out.bs (keyR_rng GR.out) (by omega)).mono ?_
    rintro e w3 ⟨hb3, hp3⟩
    rw [rows_key r GR.out] at hp3
    obtain ⟨v3, rfl, hown3⟩ := hp3
    have B3 := Lib.hid (B2.out.trans (hb3.mono s2))
    have R3 := Lib.hid hown3.rw
    have s3 := B3.out.size
    clear hb3 hown3
    have hsame := same_any v3 v1 r r w3 R3.out (H1.out.below B3.out) (fun x hx => (GR.out x hx).2) (fun x hx => (GR.out x hx).2) (by omega) (by omega)
    rw [decide_eq_true rfl] at hsame
    have HS := Lib.hid hsame
    clear hsame
    go_wp2_with fail
    refine HS.out.mono ?_
    rintro e w4 ⟨rfl, hb4⟩
    have BX := Lib.hid (B3.out.trans (hb4.mono s3))
    clear hb4
    go_wp2_with fail
    refine (row_any v2 l w4 (H2.out.below BX.out) HR.out (by omega)).mono ?_
    rintro e w6 ⟨hb6, hp6⟩
    have B6 := Lib.hid (BX.out.trans (hb6.mono BX.out.size))
    have s6 := B6.out.size
    clear hb6
    cases hrw : rows l with
    | err e2 a2 =>
      rw [hrw] at hp6
      obtain rfl := hp6
      have he0 : (e2 != 0) = true := by rcases rowsF_err _ _ _ _ _ hrw with h | h <;> rw [h] <;> decide
      clear hrw
      go_wp2_with fail
      go_ret
      exact ⟨rfl, B6.out⟩
    | ok r2 =>
      rw [hrw] at hp6
      obtain ⟨v6, rfl, hown6⟩ := hp6
      have R6 := Lib.hid hown6.rw
      obtain ⟨hk2, hall2⟩ := rows_back l r2 HR.out hrw
      have hr2 : r2.length ≤ 1048576 := by have := keyR_ge r2; rw [hk2] at this; omega
      have HA := Lib.hid hall2
      have HK2 := Lib.hid hk2
      clear hown6 hall2 hk2 hrw
      go_wp2_with fail
      refine (key_any v6 r2 w6 R6.out (fun x hx => ⟨(HA.out x hx).2, by have := vld_slen (HA.out x hx).1; omega⟩) (by omega)).mono ?_
      rintro e w7 ⟨hb7, hp7⟩
      rw [if_pos (List.all_eq_true.2 fun x hx => (HA.out x hx).1)] at hp7
      obtain ⟨v7, rfl, hown7⟩ := hp7
      rw [HK2.out] at hown7
      have B7 := Lib.hid (B6.out.trans (hb7.mono s6))
      have c1 := conv_bs hown7.bs
      have c2 := conv_bs (H2.out.below B7.out)
      clear hown7 hb7
      go_wp2_with fail
      go_ret
      exact ⟨by simp, B7.out⟩
  · rw [if_neg hra] at hp2
    obtain rfl := hp2
    have BX := B2
    clear hra
    go_wp2_with fail
    refine (row_any v2 l w2 (H2.out.below BX.out) HR.out (by omega)).mono ?_
    rintro e w6 ⟨hb6, hp6⟩
    have B6 := Lib.hid (BX.out.trans (hb6.mono BX.out.size))
    have s6 := B6.out.size
    clear hb6
    cases hrw : rows l with
    | err e2 a2 =>
      rw [hrw] at hp6
      obtain rfl := hp6
      have he0 : (e2 != 0) = true := by rcases rowsF_err _ _ _ _ _ hrw with h | h <;> rw [h] <;> decide
      clear hrw
      go_wp2_with fail
      go_ret
      exact ⟨rfl, B6.out⟩
    | ok r2 =>
      rw [hrw] at hp6
      obtain ⟨v6, rfl, hown6⟩ := hp6
      have R6 := Lib.hid hown6.rw
      obtain ⟨hk2, hall2⟩ := rows_back l r2 HR.out hrw
      have hr2 : r2.length ≤ 1048576 := by have := keyR_ge r2; rw [hk2] at this; omega
      have HA := Lib.hid hall2
      have HK2 := Lib.hid hk2
      clear hown6 hall2 hk2 hrw
      go_wp2_with fail
      refine (key_any v6 r2 w6 R6.out (fun x hx => ⟨(HA.out x hx).2, by have := vld_slen (HA.out x hx).1; omega⟩) (by omega)).mono ?_
      rintro e w7 ⟨hb7, hp7⟩
      rw [if_pos (List.all_eq_true.2 fun x hx => (HA.out x hx).1)] at hp7
      obtain ⟨v7, rfl, hown7⟩ := hp7
      rw [HK2.out] at hown7
      have B7 := Lib.hid (B6.out.trans (hb7.mono s6))
      have c1 := conv_bs hown7.bs
      have c2 := conv_bs (H2.out.below B7.out)
      clear hown7 hb7
      go_wp2_with fail
      go_ret
      exact ⟨by simp, B7.out⟩
end Go.Proofs.YtkajpcjmcpollaaDoor
