import Derived.Test.YtkajpcjmcpollaaDoorCodeD
import Derived.WalkKit
import Derived.ProofKit
import Derived.BigQuiet
import Derived.Deep.QuietTactic
import Derived.WalkSpells
import Derived.WalkLawsBesides
import Derived.Lib.Hide
import Derived.Deep.MidRow
import Derived.Deep.RegionLaw
import Derived.BigRegion
import Derived.Lib.SlBytesConst
import Derived.Laws.AppendOwnNone
import Derived.Deep.DeepMust
import Derived.Deep.AppendLies
import Derived.RegionTactic
import Derived.Deep.WholeRow
import Derived.BigFrame
import Derived.Deep.RegionWith
import Derived.Deep.RegionHeld3
import Derived.Maps.RangeWalk
import Derived.Laws.CopyOwn
import Derived.StillTailTactics
namespace Go.Proofs.YtkajpcjmcpollaaDoor
open Go.RowKit
attribute [local go_sem ↓] convC_eq
theorem buildB (w : World) : (Instr.buildSlice 25 0 #[]).run Tryd.prog w = .ok (.slice (some ⟨w.heap.size, 0, none⟩) 0 0) (w.alloc (.cells #[] 5)) := by kernel_rfl
theorem rng_append3 {a b : List Int} (ha : Rng a) (hb : Rng b) : Rng (a ++ b) := fun x hx => (List.mem_append.1 hx).elim (ha x) (hb x)
def sealed (l : List Int) : List Int := dg 8 l.length ++ l ++ shaOf l
theorem sealed_len (l : List Int) : (sealed l).length = 40 + l.length := joined_shaOf_len l
theorem sealed_rng {l : List Int} (h : Rng l) : Rng (sealed l) := rng_append3 (rng_append3 (dg_rng _ _) h) (sha_rng l)
set_option maxHeartbeats 3200000 in
theorem opens_walk (v1 v2 : Value) (c : Int) (l m : List Int) (w : World) (h1 : Bs w v1 l) (h2 : Bs w v2 m) (r1 : Rng l) (r2 : Rng m) (hl : l.length ≤ 1048576) (hm : m.length ≤ 1048576) (hc1 : -9223372036854775808 ≤ c) (hc2 : c ≤ 9223372036854775807) (hK : KC w) :
    Calls Tryd.prog 8 #[v1, v2, .int .i64 c] w fun e w' => e = .returned (.bool true) ∧ Below w.heap.size w w' := by
  have H1 := Lib.hid h1
  have H2 := Lib.hid h2
  have R1 := Lib.hid r1
  have R2 := Lib.hid r2
  have HK := Lib.hid hK
  obtain ⟨xa, xc, rfl, _, _⟩ := h1
  clear h2 r1 r2 hK
  have HLEN := Lib.hid (sealed_len l)
  have SR := Lib.hid (sealed_rng R1.out)
  have CUT := Lib.hid (fun (k : Nat) (hk : k < 40 + l.length) => (show opn ((sealed l).take k) = .short from opn_cut l k (by omega) hk))
  have HOPN := Lib.hid (show opn (sealed l ++ m) = .ok l m from opn_seal l m (by omega))
  go_enter Tryd.func8, Tryd.ntmps8
  go_wp2_with fail
  refine (fixed_any w HK.out).mono ?_
  rintro e w1 ⟨rfl, b1⟩
  have B1 := Lib.hid b1
  have s1 := b1.size
  clear b1
  go_wp2_with fail
  refine (seal_any _ l w1 (H1.out.below B1.out) (HK.out.below B1.out HK.out.1) (by omega)).mono ?_
  rintro e w2 ⟨vs, rfl, hown2, hb2⟩
  change Own w2 w1.heap.size vs (sealed l) at hown2
  have B2 := Lib.hid (B1.out.trans (hb2.mono s1))
  have SB := Lib.hid hown2.bs
  have s2 := B2.out.size
  obtain ⟨sa, sc, rfl, hsc, hscell⟩ := hown2.bs
  rw [HLEN.out] at hsc hscell
  obtain ⟨sb, so, rfl, hsb, hscell⟩ := hscell (by omega)
  have SCELL := Lib.hid hscell
  have hsc1 := hsc.1
  clear hb2 hown2 hscell hsc
  rw [HLEN.out]
  rw [HLEN.out] at SB
  go_wp2_with (first
    | (refine wpList_build_empty (o := ⟨some 16, _, _, _, _, _⟩) rfl 25 5 1 rfl buildB ?_; intro v16 w3 ho3 hb3 hob3 hs3; have O3 := Lib.hid (show Own w3 w2.heap.size v16 [] from ho3); have B3 := Lib.hid hb3; have hs3' := hb3.size; clear ho3 hb3 hob3 hs3)
    | (at_builtin; refine wpList_append_Own (o := ⟨some 18, _, _, _, _, _⟩) rfl (Operand.tmp 16) (Operand.tmp 17) rfl w2.heap.size _ [] rfl O3.out _ (sealed l) rfl (SB.out.below B3.out) (by rw [HLEN.out]; simp; omega) hs3' ?_; intro v18 w4 hown4 hb4; have O4 := Lib.hid hown4; have B4 := Lib.hid (B3.out.trans hb4); have hs4 := B4.out.size; clear hown4 hb4)
    | (at_builtin; refine wpList_append_Own (o := ⟨some 20, _, _, _, _, _⟩) rfl (Operand.tmp 18) (Operand.tmp 19) rfl w2.heap.size _ _ rfl O4.out _ m rfl ((H2.out.below B2.out).below B4.out) (by simp [HLEN.out]; omega) hs4 ?_; intro v20 w5 hown5 hb5; have O5 := Lib.hid (hown5.eq (show [] ++ sealed l ++ m = sealed l ++ m from rfl)); have B5 := Lib.hid (B4.out.trans hb5); have hs5 := B5.out.size; clear hown5 hb5))
  refine (open_any v20 (sealed l ++ m) w5 O5.out.bs (rng_append3 SR.out R2.out) (HK.out.below (B2.out.trans (B5.out.mono s2)) HK.out.1) (by rw [List.length_append, HLEN.out]; omega)).mono ?_
  rintro e w6 ⟨hb6, hp6⟩
  rw [HOPN.out] at hp6
  obtain ⟨x1, x2, rfl, hx1, hx2⟩ := hp6
  have B26 := Lib.hid (B5.out.trans (hb6.mono hs5))
  have B6 := Lib.hid (B2.out.trans (B26.out.mono s2))
  have s6 := B6.out.size
  have c1 := conv_bs hx1.bs
  have c2 := conv_bs hx2.bs
  have c3 := conv_bs (H1.out.below B6.out)
  have c4 := conv_bs (H2.out.below B6.out)
  generalize str l = S1 at *
  generalize str m = S2 at *
  clear hb6 hx1 hx2
  have hadd : (40 : Int) + (l.length : Int) = (l.length : Int) + 40 := by omega
  by_cases hneg : c < 0
  · go_wp2_with fail
    go_ret
    exact ⟨rfl, B6.out⟩
  · obtain ⟨k, rfl⟩ : ∃ k : Nat, c = (k : Int) := ⟨c.toNat, by omega⟩
    by_cases hge : 40 + l.length ≤ k
    · have hge2 : (40 : Int) + (l.length : Int) ≤ (k : Int) := by omega
      go_wp2_with fail
      go_ret
      exact ⟨rfl, B6.out⟩
    · have hlt2 : (k : Int) < (40 : Int) + (l.length : Int) := by omega
      have hkc : (k : Int) ≤ (sc : Int) := by omega
      have hBs : Bs w6 (.slice (some ⟨sb, so, none⟩) k sc) ((sealed l).take k) := by
        have hl2 : ((sealed l).take k).length = k := by rw [List.length_take, HLEN.out]; omega
        refine ⟨some ⟨sb, so, none⟩, sc, by rw [hl2], ⟨by omega, fun e => by cases e⟩, fun _ => ⟨sb, so, rfl, by have := B26.out.size; omega, fun i hi => ?_⟩⟩
        rw [hl2] at hi
        rw [List.getElem?_take_of_lt hi]
        exact (B26.out.cell (p := ⟨sb, so + i, none⟩) hsb).trans (SCELL.out i (by omega))
      have HBS := Lib.hid hBs
      have HC := Lib.hid (CUT.out k (by omega))
      clear hBs
      go_wp2_with fail
      refine (open_any _ ((sealed l).take k) w6 HBS.out (SR.out.take k) (HK.out.below B6.out HK.out.1) (by rw [List.length_take, HLEN.out]; omega)).mono ?_
      rintro e w7 ⟨hb7, hp7⟩
      rw [HC.out] at hp7
      obtain rfl := hp7
      have B7 := Lib.hid (B6.out.trans (hb7.mono s6))
      clear hb7
      go_wp2_with fail
      go_ret
      exact ⟨rfl, B7.out⟩
end Go.Proofs.YtkajpcjmcpollaaDoor
