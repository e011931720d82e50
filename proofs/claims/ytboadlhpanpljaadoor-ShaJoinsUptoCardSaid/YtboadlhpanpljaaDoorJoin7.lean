import Derived.Test.YtboadlhpanpljaaDoorJoin5
import Derived.WalkKit
import Derived.ProofKit
import Derived.BigQuiet
import Derived.Deep.QuietTactic
import Derived.WalkSpells
import Derived.WalkLawsBesides
import Derived.Lib.Hide
import Derived.Deep.MidRow
import Derived.Deep.RegionLaw
import Derived.BigRegion
import Derived.Laws.AppendOwnNone
import Derived.Deep.DeepMust
import Derived.Deep.AppendLies
import Derived.RegionTactic
import Derived.Deep.WholeRow
import Derived.BigFrame
import Derived.Deep.RegionWith
import Derived.Deep.RegionHeld3
import Derived.Maps.RangeWalk
import Derived.Laws.CopyOwn
import Derived.StillTailTactics
namespace Go.Proofs.YtboadlhpanpljaaDoor
open Go.RowKit
set_option maxRecDepth 1000000 in
set_option maxHeartbeats 4000000 in
theorem loopJ {u0 u1 u2 u3 u4 u5 u7 u8 u9 u11 u12 u13 u14 u15 u16 u17 u18 u19 u20 u21 u22 u23 u24 u25 u26 u27 u28 u29 u30 u31 u32 u33 u34 u35 u36 u37 u38 u39 u40 u41 u42 u43 u44 u45 u46 u47 u48 u49 u50 u51 u52 u53 u54 u55 u56 u57 u58 u59 u60 u61 u62 u63 u64 u65 u66 u67 u68 u69 u70 u71 u72 u73 u74 u75 u76 u77 u78 u79 u80 u81 u82 u83 : Value} (Q : Exit → Act → World → Prop) (B E lc : Nat) (la : Option Addr) (wS : World) (ms : List (List Int)) (xs : List Value) (hM : Mut B E wS wS (.slice la ms.length lc) ms xs) (hml : ms.length ≤ 1099511627776) (hpl : ∀ i : Nat, (ms[i]?.getD []).length ≤ 1099511627776)
    (hexit : ∀ (x10 x11 x52 x53 x54 x55 x56 x57 x58 x59 x60 x61 x62 x63 x64 x65 x66 x67 x68 x69 x70 x71 x72 x73 x74 x75 : Value) (w' : World), Mut B E wS w' (.slice la ms.length lc) ms xs → Q (.exit 0) ⟨#[u0, u1, u2, u3, u4, u5, .slice la ms.length lc, u7, u8, u9, x10, x11, u12, u13, u14, u15, u16, u17, u18, u19, u20, u21, u22, u23, u24, u25, u26, u27, u28, u29, u30, u31, u32, u33, u34, u35, u36, u37, u38, u39, u40, u41, u42, u43, u44, u45, u46, u47, u48, u49, u50, u51, x52, x53, x54, x55, x56, x57, x58, x59, x60, x61, x62, x63, x64, x65, x66, x67, x68, x69, x70, x71, x72, x73, x74, x75, u76, u77, u78, u79, u80, u81, u82, u83], []⟩ w') :
    Code.wp Tryd.prog ((Tryd.f4.body.bind (findBlock 0)).getD .skip) Q ⟨#[u0, u1, u2, u3, u4, u5, .slice la ms.length lc, u7, u8, u9, .int .i64 0, u11, u12, u13, u14, u15, u16, u17, u18, u19, u20, u21, u22, u23, u24, u25, u26, u27, u28, u29, u30, u31, u32, u33, u34, u35, u36, u37, u38, u39, u40, u41, u42, u43, u44, u45, u46, u47, u48, u49, u50, u51, u52, u53, u54, u55, u56, u57, u58, u59, u60, u61, u62, u63, u64, u65, u66, u67, u68, u69, u70, u71, u72, u73, u74, u75, u76, u77, u78, u79, u80, u81, u82, u83], []⟩ wS := by
  have HM := Lib.hid hM
  have HQ := Lib.hid hexit
  have HPL := Lib.hid hpl
  clear hM hexit hpl
  conv => arg 2; whnf
  dsimp only
  go_loopw [10] (fun iv wx => ∃ i : Nat, i ≤ ms.length ∧ iv = .int .i64 i ∧ Mut B E wS wx (.slice la ms.length lc) ms xs) (fun iv _ => ms.length - (intOf iv).toNat)
  case atStart => exact ⟨0, by omega, rfl, HM.out⟩
  case round =>
    clear HM
    obtain ⟨i, hi, rfl, hm⟩ := hrel
    have HM := Lib.hid hm
    clear hm
    by_cases hlt : i < ms.length
    · obtain ⟨gt, ct, hv, hct, hgt, _⟩ := own_some HM.out.top (by omega)
      injection hv with hv1 _ hv2
      subst hv1 hv2
      obtain ⟨x, hx, hpk, hne⟩ := HM.out.parts i hlt
      have hnl := HPL.out i
      obtain ⟨a, c, hxf, hform⟩ : ∃ a c, x = .slice a (ms[i]?.getD []).length c ∧ (0 < (ms[i]?.getD []).length → ∃ g, a = some ⟨g, 0, none⟩ ∧ B ≤ g ∧ g < E ∧ (ms[i]?.getD []).length ≤ c) := by
        rcases hpk with ⟨h0, a, c, rfl⟩ | ⟨g, cap, cur, rfl, h1, h2, _, h4, _⟩
        · exact ⟨a, c, by rw [h0], fun h => by omega⟩
        · exact ⟨_, _, rfl, fun _ => ⟨g, rfl, h1, h2, h4⟩⟩
      have hii : (i : Int) < (ms.length : Int) := by omega
      have hci : (ms.length : Int) ≤ (lc : Int) := by omega
      have HX := Lib.hid hx
      have HNE := Lib.hid hne
      have hparts := fun (wx : World) (hm : Mut B E wS wx (.slice (some ⟨gt, 0, none⟩) ms.length lc) ms xs) => show PartOK B E wx x (ms[i]?.getD []).length by
        obtain ⟨x', h1, h2, _⟩ := hm.parts i hlt
        rw [HX.out] at h1
        injection h1 with h1
        rw [h1]; exact h2
      have HPARTS := Lib.hid hparts
      generalize (ms[i]?.getD []).length = n at *
      subst hxf
      clear hx hne hpk hparts
      go_wp2_with fail
      go_loopw [11] (fun nv wx => ∃ k : Nat, k ≤ n ∧ nv = .int .i64 k ∧ Mut B E wS wx (.slice (some ⟨gt, 0, none⟩) ms.length lc) ms xs) (fun nv _ => n - (intOf nv).toNat)
      case atStart => exact ⟨0, by omega, rfl, HM.out⟩
      case round =>
        clear HM
        obtain ⟨k, hk, rfl, hm⟩ := hrel
        have HM := Lib.hid hm
        have ctop := hm.top.cells (g := gt) rfl i _ HX.out
        rw [Addr.add_mid, Nat.zero_add] at ctop
        clear hm
        by_cases hkl : k < n
        · obtain ⟨g, rfl, hgB, hgE, hnc⟩ := hform (by omega)
          have hkn : (k : Int) < (n : Int) := by omega
          have hnci : (n : Int) ≤ (c : Int) := by omega
          have hcellz : ∃ z, wr.cell? ⟨g, k, none⟩ = some (.int .u8 z) ∧ wr.frozen? ⟨g, k, none⟩ = false := by
            rcases HPARTS.out wr HM.out with ⟨h0, _⟩ | ⟨g', cap, cur, hv, h1, h2, h3, h4, h5, h6⟩
            · omega
            · injection hv with hv _ _
              injection hv with hv
              injection hv with hv
              subst hv
              obtain ⟨z, hz⟩ := h6 k hkl
              exact ⟨z, (cell_of_row wr g k _ _ _ h3).trans hz, frozen_of_row wr g k _ _ h3⟩
          obtain ⟨z, cz, fz⟩ := hcellz
          have hst := fun y => HM.out.store (g := g) k y ⟨hgB, hgE⟩ (by
            rcases HNE.out with h | h
            · cases h
            · intro e; exact h e.symm)
          have HST := Lib.hid hst
          clear hst
          go_wp2
          exact ⟨⟨k + 1, by omega, by go_num, HST.out _⟩, by simp [intOf]; omega⟩
        · have hkn : (n : Int) ≤ (k : Int) := by omega
          go_wp2
          exact ⟨⟨i + 1, by omega, by go_num, HM.out⟩, by simp [intOf]; omega⟩
    · have hii : (ms.length : Int) ≤ (i : Int) := by omega
      go_wp2
      exact HQ.out _ _ _ _ _ _ _ _ _ _ _ _ _ _ _ _ _ _ _ _ _ _ _ _ _ _ _ HM.out
end Go.Proofs.YtboadlhpanpljaaDoor
