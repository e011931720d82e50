import Derived.Test.YtboadlhpanpljaaDoorFixed1
import Derived.Test.YtboadlhpanpljaaDoorBack0
import Derived.Test.YtboadlhpanpljaaDoorHash0
import Derived.WalkKit
import Derived.ProofKit
import Derived.BigQuiet
import Derived.Deep.QuietTactic
import Derived.WalkSpells
import Derived.WalkLawsBesides
import Derived.Lib.Hide
import Derived.Deep.MidRow
import Derived.Deep.RegionLaw
import Derived.BigRegion
import Derived.Lib.SlBytesConst
import Derived.Laws.AppendOwnNone
import Derived.Deep.DeepMust
import Derived.Deep.AppendLies
import Derived.RegionTactic
import Derived.Deep.WholeRow
import Derived.BigFrame
import Derived.Deep.RegionWith
import Derived.Deep.RegionHeld3
import Derived.Maps.RangeWalk
import Derived.Laws.CopyOwn
import Derived.StillTailTactics
namespace Go.Proofs.YtboadlhpanpljaaDoor
open Go.RowKit
theorem Pss_of_own {T E : TypeId} {w : World} {B : Nat} {v : Value} {ps : List (List Int)} (h : OwnPs T E w B v ps) : Pss w v ps := by
  obtain ⟨xs, h1, h2⟩ := h
  rcases h1.2 with ⟨rfl, h0⟩ | ⟨g, cap, cur, rfl, hg, hh, hle, _, _, _⟩
  · have : ps = [] := List.eq_nil_of_length_eq_zero h0
    subst this
    exact ⟨none, 0, rfl, ⟨Nat.le_refl _, fun _ => rfl⟩, fun h => by simp at h⟩
  · refine ⟨some ⟨g, 0, none⟩, cap, rfl, ⟨hle, fun e => by cases e⟩, fun _ => ⟨g, 0, rfl, (h1.lt g rfl).2, fun i hi => ?_⟩⟩
    obtain ⟨x, hx, ho, _⟩ := h2 i hi
    have := h1.cells (g := g) rfl i x hx
    rw [Addr.add_mid] at this
    exact ⟨x, this, Bs_of_own ho⟩
attribute [local go_sem ↓] convC_eq
theorem conv_bs {u : World} {v : Value} {l : List Int} (h : Bs u v l) : (convC v).run Tryd.prog u = .ok (.string (str l)) u := by
  have h1 := h.hasBytes
  have h2 := h.str
  obtain ⟨a, cap, rfl, _⟩ := h
  rw [run_convC u _ _ _ h1, h2]
theorem split_short (a : Option Addr) (len cap : Nat) (w : World) (h : len < 8) :
    Calls Tryd.prog 11 #[.slice a len cap] w fun e w' => w = w' ∧ e = .returned (.tuple #[.slice none 0 0, .bool false]) := by
  go_enter Tryd.func11, Tryd.ntmps11
  go_wp2_with (go_at_call 24; refine (takeNumber_short _ _ _ _ h).mono ?_; rintro e w' ⟨rfl, rfl⟩)
  go_ret2
  exact ⟨rfl, rfl⟩
set_option maxRecDepth 100000 in
set_option maxHeartbeats 2000000 in
theorem back_walk (v1 v2 v3 : Value) (ps qs : List (List Int)) (cs : List Int) (w : World) (h1 : Pss w v1 ps) (h2 : Pss w v2 qs) (h3 : Bs w v3 cs) (r1 : ∀ p ∈ ps, Rng p) (r2 : ∀ p ∈ qs, Rng p) (r3 : Rng cs)
    (hK : KC w) (j1 : jlen ps ≤ 16777216) (j2 : jlen qs ≤ 16777216) (j3 : cs.length ≤ 16777216) :
    Calls Tryd.prog 6 #[v1, v2, v3] w fun e w' => e = .returned (.bool true) ∧ Below w.heap.size w w' := by
  have H1 := Lib.hid h1
  have H2 := Lib.hid h2
  have H3 := Lib.hid h3
  have R1 := Lib.hid r1
  have R2 := Lib.hid r2
  have R3 := Lib.hid r3
  have HK := Lib.hid hK
  clear h1 h2 h3 r1 r2 r3 hK
  go_enter Tryd.func6, Tryd.ntmps6
  go_wp2_with fail
  refine (fixed_any w HK.out).mono ?_
  rintro e w1 ⟨rfl, b1⟩
  have B1 := Lib.hid b1
  have s1 := b1.size
  clear b1
  go_wp2_with fail
  refine (join_any v1 ps w1 (H1.out.below B1.out) (by omega)).mono ?_
  rintro e w2 ⟨vj, rfl, hj, b2⟩
  have BJ := Lib.hid hj
  have B2 := Lib.hid (B1.out.trans (b2.mono s1))
  have s2 := B2.out.size
  clear hj b2
  go_wp2_with fail
  refine (join_any v2 qs w2 (H2.out.below B2.out) (by omega)).mono ?_
  rintro e w3 ⟨vk, rfl, hk, b3⟩
  have BK := Lib.hid (Bs_of_own hk)
  have B3 := Lib.hid (B2.out.trans (b3.mono s2))
  have bj3 := (Bs_of_own BJ.out).below b3
  have s3 := B3.out.size
  rcases BJ.out.2 with ⟨_, h8⟩ | ⟨g, cap, cur, rfl, hg, hgh, hle, _, _, _⟩
  · omega
  have BJ3 := Lib.hid bj3
  have hgl := (BJ.out.lt g rfl).2
  have s23 := b3.size
  clear hk b3 bj3 hgh
  have mj : ∀ i, i < 8 + jlen ps → w3.cell? ⟨g, 0 + i, none⟩ = some (.int .u8 ((joined ps)[i]?.getD 0)) := by
    intro i hi
    obtain ⟨a, cp, e1, _, e2⟩ := BJ3.out
    injection e1 with e1 _ _
    obtain ⟨b', o', e3, _, e4⟩ := e2 (by rw [joined_len]; omega)
    rw [e3] at e1
    injection e1 with e1
    injection e1 with e5 e6 _
    rw [e5, e6]
    exact e4 i (by rw [joined_len]; exact hi)
  have MJ := Lib.hid mj
  clear mj
  go_wp2_with fail
  refine (split_any g 0 (8 + jlen ps) cap (joined ps) w3 (joined_len ps) (by omega) hle (joined_rng R1.out) (by omega) (by omega) MJ.out).mono ?_
  rintro e w4 ⟨b4, hp4⟩
  rw [splitL_joined ps (by omega)] at hp4
  obtain ⟨vl, rfl, hl⟩ := hp4
  have BL := Lib.hid (Pss_of_own hl)
  have B4 := Lib.hid (B3.out.trans (b4.mono s3))
  have BJ4 := Lib.hid (BJ3.out.below b4)
  have BK4 := Lib.hid (BK.out.below b4)
  have s4 := B4.out.size
  clear hl b4
  have hpl : ps.length ≤ 1099511627776 := by have := jlen_ge ps; omega
  have c14a : ∀ u, Below w4.heap.size w4 u → Calls Tryd.prog 14 #[vl, v1] u fun e w' => e = .returned (.bool true) ∧ Below u.heap.size u w' := fun u hu => by
    have := same_any vl v1 ps ps u (BL.out.below hu) ((H1.out.below B4.out).below hu) R1.out R1.out hpl
    rw [decide_eq_true rfl] at this
    exact this
  have c14b : ∀ u, Below w4.heap.size w4 u → Calls Tryd.prog 14 #[v1, v2] u fun e w' => e = .returned (.bool (decide (ps = qs))) ∧ Below u.heap.size u w' := fun u hu =>
    same_any v1 v2 ps qs u ((H1.out.below B4.out).below hu) ((H2.out.below B4.out).below hu) R1.out R2.out hpl
  have hsb : ((str (joined ps)).toList == (str (joined qs)).toList) = decide (ps = qs) := by
    rw [str_beq (joined_rng R1.out) (joined_rng R2.out)]
    have : joined ps = joined qs ↔ ps = qs := ⟨joined_inj (by omega) (by omega), fun h => by rw [h]⟩
    simp only [this]
  generalize decide (ps = qs) = D at *
  have C14a := Lib.hid c14a
  have C14b := Lib.hid c14b
  have BD4 := Lib.hid (show Below w4.heap.size w4 w4.drew from (Below.refl _ _).drew)
  generalize hSJ : str (joined ps) = SJ at *
  generalize hSK : str (joined qs) = SK at *
  have cvj : ∀ u, Below w4.heap.size w4 u → (convC (.slice (some ⟨g, 0, none⟩) (8 + jlen ps) cap)).run Tryd.prog u = .ok (.string SJ) u := fun u hu => by rw [← hSJ]; exact conv_bs (BJ4.out.below hu)
  have cvk : ∀ u, Below w4.heap.size w4 u → (convC vk).run Tryd.prog u = .ok (.string SK) u := fun u hu => by rw [← hSK]; exact conv_bs (BK4.out.below hu)
  have hsf : ∀ u, Below w4.heap.size w4 u → (Below w4.heap.size w4 u ∧ (convC (.slice (some ⟨g, 0, none⟩) (8 + jlen ps) cap)).run Tryd.prog u = .ok (.string SJ) u ∧ (convC vk).run Tryd.prog u = .ok (.string SK) u) := fun u hu => ⟨hu, cvj u hu, cvk u hu⟩
  have hsb2 : ∀ u u', (Below w4.heap.size w4 u ∧ (convC (.slice (some ⟨g, 0, none⟩) (8 + jlen ps) cap)).run Tryd.prog u = .ok (.string SJ) u ∧ (convC vk).run Tryd.prog u = .ok (.string SK) u) → Below u.heap.size u u' → (Below w4.heap.size w4 u' ∧ (convC (.slice (some ⟨g, 0, none⟩) (8 + jlen ps) cap)).run Tryd.prog u' = .ok (.string SJ) u' ∧ (convC vk).run Tryd.prog u' = .ok (.string SK) u') := fun u u' h hb => hsf u' (h.1.trans (hb.mono h.1.size))
  have HSB := Lib.hid hsb2
  have HS4 := Lib.hid (hsf w4.drew BD4.out)
  clear hSJ hSK c14a c14b cvj cvk hsf hsb2
  have rest : ∀ w6 : World, Below w4.heap.size w4 w6 → Below w.heap.size w w6 ∧ Bs w6 v3 cs ∧ w.heap.size ≤ w6.heap.size := fun w6 hb => ⟨B4.out.trans (hb.mono s4), H3.out.below (B4.out.trans (hb.mono s4)), Nat.le_trans s4 hb.size⟩
  have REST := Lib.hid rest
  clear rest
  go_wp2_with fail
  cases D
  all_goals
    go_region_held3 (fun u => Below w4.heap.size w4 u ∧ (convC (.slice (some ⟨g, 0, none⟩) (8 + jlen ps) cap)).run Tryd.prog u = .ok (.string SJ) u ∧ (convC vk).run Tryd.prog u = .ok (.string SK) u)
      (first | with_reducible exact HS4.out | with_reducible exact HS5.out | with_reducible exact HS6.out)
      (first
      | (go_at_call 14; (with_reducible refine (C14a.out w4.drew BD4.out).mono ?_); rintro e w5 ⟨rfl, hb5⟩; have HS5 := Lib.hid (HSB.out _ _ HS4.out hb5); clear hb5)
      | (go_at_call 14; (with_reducible refine (C14b.out w5 HS5.out.1).mono ?_); rintro e w6 ⟨rfl, hb6⟩; have HS6 := Lib.hid (HSB.out _ _ HS5.out hb6); clear hb6))
    obtain ⟨b6, bs6, hsz6⟩ := REST.out w6 HS6.out.1
    have B6 := Lib.hid b6
    have BS6 := Lib.hid bs6
    clear b6 bs6
    go_wp2_with fail
    by_cases h8 : cs.length < 8
    · obtain ⟨ca, cc, rfl, _, _⟩ := BS6.out
      refine (split_short ca cs.length cc w6 h8).mono ?_
      rintro e w7 ⟨rfl, rfl⟩
      go_wp2
      go_ret
      exact ⟨rfl, B6.out⟩
    · have hbs6 := BS6.out
      obtain ⟨ca, cc, rfl, hcc, hcell⟩ := hbs6
      obtain ⟨cb, co, rfl, hcb, hcc2⟩ := hcell (by omega)
      have hcl := hcc.1
      refine (split_any cb co cs.length cc cs w6 rfl (by omega) hcl R3.out (by omega) hcb hcc2).mono ?_
      rintro e w7 ⟨b7, hp7⟩
      have B7 := Lib.hid (B6.out.trans (b7.mono hsz6))
      have BS7 := Lib.hid (BS6.out.below b7)
      have s7 := B7.out.size
      clear b7 hcell hcc2
      cases hsp : splitL cs with
      | none =>
        rw [hsp] at hp7
        obtain rfl := hp7
        clear hsp
        go_wp2
        go_ret
        exact ⟨rfl, B7.out⟩
      | some ms =>
        rw [hsp] at hp7
        obtain ⟨vm, rfl, hm⟩ := hp7
        have hback := splitL_back R3.out hsp
        have PM := Lib.hid (Pss_of_own hm)
        have hjm : jlen ms ≤ 16777216 := by have := joined_len ms; rw [hback] at this; omega
        have HBK := Lib.hid hback
        clear hm hsp hback
        have hcj : ∀ u, Below w7.heap.size w7 u → Calls Tryd.prog 10 #[vm] u fun e w' => ∃ v', e = .returned v' ∧ (convC v').run Tryd.prog w' = .ok (.string (str cs)) w' ∧ Below u.heap.size u w' := fun u hu => by
          refine (join_any vm ms u (PM.out.below hu) (by omega)).mono ?_
          rintro e w8 ⟨v', rfl, hown, hb⟩
          have hbs := Bs_of_own hown
          rw [HBK.out] at hbs
          exact ⟨v', rfl, conv_bs hbs, hb⟩
        have hcc : ∀ u, Below w7.heap.size w7 u → (convC (.slice (some ⟨cb, co, none⟩) cs.length cc)).run Tryd.prog u = .ok (.string (str cs)) u := fun u hu => conv_bs (BS7.out.below hu)
        have BD7 := Lib.hid (show Below w7.heap.size w7 w7.drew from (Below.refl _ _).drew)
        have hw7 : ∀ u, Below w7.heap.size w7 u → Below w.heap.size w u := fun u hu => B7.out.trans (hu.mono s7)
        have HW7 := Lib.hid hw7
        have HCJ := Lib.hid hcj
        have HCC := Lib.hid hcc
        generalize str cs = SC at *
        have hS7 := hcc w7.drew BD7.out
        have hse : (SC.toList == SC.toList) = true := by simp
        clear hcc hcj hw7
        have HS7 := Lib.hid (And.intro BD7.out hS7)
        clear hS7
        go_wp2_with fail
        have hd7 := HS7.out.2
        go_region_with (first
          | (go_at_call 10; (with_reducible refine (HCJ.out w7.drew BD7.out).mono ?_); rintro e w8 ⟨v8, rfl, hc8, hb8⟩; have HB8 := Lib.hid (BD7.out.trans (hb8.mono (by simp))); have hd8 := HCC.out w8 HB8.out; clear hb8))
        all_goals go_wp2
        all_goals go_ret
        all_goals exact ⟨rfl, HW7.out _ HB8.out⟩
end Go.Proofs.YtboadlhpanpljaaDoor
