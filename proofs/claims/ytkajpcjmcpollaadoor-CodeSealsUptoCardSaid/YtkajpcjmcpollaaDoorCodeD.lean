import Derived.Test.YtkajpcjmcpollaaDoorCodeC
import Derived.Test.YtkajpcjmcpollaaDoorCodeA
import Derived.WalkKit
import Derived.ProofKit
import Derived.BigQuiet
import Derived.Deep.QuietTactic
import Derived.WalkSpells
import Derived.WalkLawsBesides
import Derived.Lib.Hide
import Derived.Deep.MidRow
import Derived.Deep.RegionLaw
import Derived.BigRegion
import Derived.Lib.SlBytesConst
import Derived.Laws.AppendOwnNone
import Derived.Deep.DeepMust
import Derived.Deep.AppendLies
import Derived.RegionTactic
import Derived.Deep.WholeRow
import Derived.BigFrame
import Derived.Deep.RegionWith
import Derived.Deep.RegionHeld3
import Derived.Maps.RangeWalk
import Derived.Laws.CopyOwn
import Derived.StillTailTactics
namespace Go.Proofs.YtkajpcjmcpollaaDoor
open Go.RowKit
attribute [local go_sem ↓] convC_eq
theorem esc_rng {s : List Int} (h : Rng s) : Rng (esc s) := by
  induction s with
  | nil => intro x hx; simp [esc] at hx
  | cons y s ih =>
    have h1 := h y (by simp)
    have h2 := ih (fun z hz => h z (by simp [hz]))
    intro x hx
    simp only [esc] at hx
    split at hx
    · simp only [List.mem_cons] at hx
      rcases hx with rfl | rfl | hx
      · decide
      · decide
      · exact h2 x hx
    · simp only [List.mem_cons] at hx
      rcases hx with rfl | hx
      · exact h1
      · exact h2 x hx
theorem keyV_rng {x : Val} (hv : vld x = true) (ho : x.OK) : Rng (keyV x) := by
  obtain ⟨k, n, s⟩ := x
  obtain ⟨o1, o2, o3, o4, o5⟩ := ho
  intro y hy
  simp only [keyV, List.mem_cons] at hy
  by_cases k0 : k = 0
  · subst k0
    rcases hy with rfl | hy
    · decide
    · simp [body] at hy
  by_cases k1 : k = 1
  · subst k1
    rcases hy with rfl | hy
    · decide
    · simp only [body, if_true] at hy; exact dg_rng _ _ y hy
  by_cases k2 : k = 2
  · subst k2
    rcases hy with rfl | hy
    · decide
    · have e1 : body ⟨2, n, s⟩ = esc s ++ [0, 1] := by simp [body]
      rw [e1, List.mem_append] at hy
      rcases hy with hy | hy
      · exact esc_rng o1 y hy
      · simp at hy; omega
  by_cases k3 : k = 3
  · subst k3
    simp [vld] at hv
    rcases hy with rfl | hy
    · decide
    · have e1 : body ⟨3, n, s⟩ = [n] := by simp [body]
      rw [e1] at hy
      simp at hy; omega
  · simp [vld, k0, k1, k2, k3] at hv
theorem keyR_rng {r : List Val} (h : ∀ x ∈ r, vld x = true ∧ x.OK) : Rng (keyR r) := by
  intro y hy
  simp only [keyR, List.mem_flatMap] at hy
  obtain ⟨x, hx, hy⟩ := hy
  exact keyV_rng (h x hx).1 (h x hx).2 y hy
set_option maxHeartbeats 1600000 in
theorem orders_walk (v1 v2 : Value) (r s : List Val) (w : World) (h1 : Rw w v1 r) (h2 : Rw w v2 s) (ho1 : ∀ x ∈ r, x.OK ∧ x.s.length ≤ 1099511627776) (ho2 : ∀ x ∈ s, x.OK ∧ x.s.length ≤ 1099511627776) (hl : r.length ≤ 1048576) (hm : s.length ≤ 1048576) (hK : KC w) :
    Calls Tryd.prog 5 #[v1, v2] w fun e w' => e = .returned (.bool true) ∧ Below w.heap.size w w' := by
  have H1 := Lib.hid h1
  have H2 := Lib.hid h2
  have HO1 := Lib.hid ho1
  have HO2 := Lib.hid ho2
  clear h1 h2 ho1 ho2
  go_enter Tryd.func5, Tryd.ntmps5
  go_wp2_with fail
  refine (fixed_any w hK).mono ?_
  rintro e w1 ⟨rfl, b1⟩
  have B1 := Lib.hid b1
  have s1 := b1.size
  clear b1 hK
  go_wp2_with fail
  refine (key_any v1 r w1 (H1.out.below B1.out) HO1.out (by omega)).mono ?_
  rintro e w2 ⟨hb2, hp2⟩
  have B2 := Lib.hid (B1.out.trans (hb2.mono s1))
  have s2 := B2.out.size
  clear hb2
  by_cases hr : r.all vld = true
  · rw [if_pos hr] at hp2
    obtain ⟨va, rfl, hown2⟩ := hp2
    obtain ⟨xa, xc, rfl, _⟩ := hown2.bs
    have O2 := Lib.hid hown2
    clear hown2
    go_wp2_with fail
    refine (key_any v2 s w2 (H2.out.below B2.out) HO2.out (by omega)).mono ?_
    rintro e w3 ⟨hb3, hp3⟩
    have B3 := Lib.hid (B2.out.trans (hb3.mono s2))
    have O23 := Lib.hid (O2.out.below hb3 (Nat.le_refl _))
    have s3 := B3.out.size
    clear hb3
    by_cases hs : s.all vld = true
    · rw [if_pos hs] at hp3
      obtain ⟨vb, rfl, hown3⟩ := hp3
      have O3 := Lib.hid hown3
      clear hown3
      have gr : ∀ x ∈ r, vld x = true ∧ x.OK := fun x hx => ⟨List.all_eq_true.1 hr x hx, (HO1.out x hx).1⟩
      have gs : ∀ x ∈ s, vld x = true ∧ x.OK := fun x hx => ⟨List.all_eq_true.1 hs x hx, (HO2.out x hx).1⟩
      have l1 := keyR_len r (fun x hx => (gr x hx).1)
      have l2 := keyR_len s (fun x hx => (gs x hx).1)
      have HC := Lib.hid (cmp_rows r s gr gs)
      have HG1 := Lib.hid gr
      have HG2 := Lib.hid gs
      clear hr hs gr gs
      go_wp2_with fail
      refine (bytes_any _ vb (keyR r) (keyR s) w3 O23.out.bs O3.out.bs (keyR_rng HG1.out) (keyR_rng HG2.out) (by omega) (by omega)).mono ?_
      rintro e w4 ⟨rfl, hb4⟩
      have B4 := Lib.hid (B3.out.trans (hb4.mono s3))
      have s4 := B4.out.size
      clear hb4
      rw [HC.out]
      go_wp2_with fail
      refine (order_any v1 v2 r s w4 (H1.out.below B4.out) (H2.out.below B4.out) (fun x hx => (HO1.out x hx).1) (fun x hx => (HO2.out x hx).1) (by omega) (by omega)).mono ?_
      rintro e w5 ⟨rfl, hb5⟩
      have B5 := Lib.hid (B4.out.trans (hb5.mono s4))
      clear hb5
      go_wp2_with fail
      go_ret
      exact ⟨rfl, B5.out⟩
    · rw [if_neg hs] at hp3
      obtain rfl := hp3
      clear hr hs
      go_wp2_with fail
      all_goals go_ret
      all_goals exact ⟨rfl, B3.out⟩
  · rw [if_neg hr] at hp2
    obtain rfl := hp2
    clear hr
    go_wp2_with fail
    refine (key_any v2 s w2 (H2.out.below B2.out) HO2.out (by omega)).mono ?_
    rintro e w3 ⟨hb3, hp3⟩
    have B3 := Lib.hid (B2.out.trans (hb3.mono s2))
    clear hb3
    by_cases hs : s.all vld = true
    · rw [if_pos hs] at hp3
      obtain ⟨vb, rfl, hown3⟩ := hp3
      obtain ⟨xa, xc, rfl, _⟩ := hown3.bs
      clear hs hown3
      go_wp2_with fail
      all_goals go_ret
      all_goals exact ⟨rfl, B3.out⟩
    · rw [if_neg hs] at hp3
      obtain rfl := hp3
      clear hs
      go_wp2_with fail
      all_goals go_ret
      all_goals exact ⟨rfl, B3.out⟩
end Go.Proofs.YtkajpcjmcpollaaDoor
