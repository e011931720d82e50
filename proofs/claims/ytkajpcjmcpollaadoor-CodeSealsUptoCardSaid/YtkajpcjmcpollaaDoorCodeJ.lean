import Derived.Test.YtkajpcjmcpollaaDoorCodeH
import Derived.WalkKit
import Derived.ProofKit
import Derived.BigQuiet
import Derived.Deep.QuietTactic
import Derived.WalkSpells
import Derived.WalkLawsBesides
import Derived.Lib.Hide
import Derived.Deep.MidRow
import Derived.Deep.RegionLaw
import Derived.BigRegion
import Derived.Lib.SlBytesConst
import Derived.Laws.AppendOwnNone
import Derived.Deep.DeepMust
import Derived.Deep.AppendLies
import Derived.RegionTactic
import Derived.Deep.WholeRow
import Derived.BigFrame
import Derived.Deep.RegionWith
import Derived.Deep.RegionHeld3
import Derived.Maps.RangeWalk
import Derived.Laws.CopyOwn
import Derived.StillTailTactics
namespace Go.Proofs.YtkajpcjmcpollaaDoor
open Go.RowKit
attribute [local go_sem ↓] convC_eq
set_option maxHeartbeats 400000 in
theorem rnumber_any (v : Value) (l : List Int) (w : World) (hv : Bs w v l) (hr : Rng l) (h8 : 8 ≤ l.length) (hl : l.length ≤ 1099511627776) :
    Calls Tryd.prog 28 #[v] w fun e w' => w = w' ∧ e = .returned (.int .u64 (beI (l.take 8))) := by
  obtain ⟨a, cap, rfl, hcap, hcells⟩ := hv
  obtain ⟨b, off, rfl, hbw, hc⟩ := hcells (by omega)
  have HC := Lib.hid hc
  have HR := Lib.hid hr
  clear hc hr hcells
  generalize hn : l.length = n at *
  have HN := Lib.hid hn
  clear hn
  go_enter Tryd.func28, Tryd.ntmps28
  go_wp2_with fail
  go_loop [3, 4] (fun t i => ∃ (k : Nat) (A : Int), k ≤ 8 ∧ i = .int .i64 k ∧ t = .int .u64 A ∧ Hid (A = (beI (l.take k) : Int))) (fun _ i => 8 - (intOf i).toNat)
  case atStart => exact ⟨0, 0, Nat.zero_le _, rfl, rfl, Lib.hid rfl⟩
  case round =>
    obtain ⟨k, A, hk, rfl, rfl, hA⟩ := hrel
    by_cases hlt : k < 8
    · have hce := HC.out k (by omega)
      have hx := HR.out.get k
      have hkn : k < l.length := by rw [HN.out]; omega
      have h1 := beI_lt (l.take k) (HR.out.take k)
      have h3 : (l.take k).length = k := by rw [List.length_take]; omega
      rw [h3] at h1
      have h4 : 256 ^ k ≤ 256 ^ 7 := Nat.pow_le_pow_right (by decide) (by omega)
      have h5 : (256 : Nat) ^ 7 = 72057594037927936 := by decide
      have hst : IntKind.u64.wrap (IntKind.u64.wrap (256 * A) + IntKind.u64.wrap (l[k]?.getD 0)) = (beI (l.take (k + 1)) : Int) := by
        rw [hA.out, List.take_succ_eq_append_getElem hkn, beI_snoc]
        have : (l[k]?.getD 0) = l[k] := by rw [List.getElem?_eq_getElem hkn]; rfl
        rw [this] at hx ⊢
        rw [IntKind.wrap_u64, IntKind.wrap_u64, IntKind.wrap_u64]
        omega
      have HST := Lib.hid hst
      generalize l[k]?.getD 0 = x at *
      clear hst h1 h3 h4 h5 hkn
      go_wp2
      go_round
      case rel =>
        refine ⟨k + 1, _, by omega, by go_num, rfl, Lib.hid ?_⟩
        rw [← HST.out, show IntKind.u64.wrap x = x by rw [IntKind.wrap_u64]; omega]
      case measure => simp [intOf]; omega
    · have hk8 : 8 ≤ k := by omega
      have hk8' : k = 8 := by omega
      have HK := Lib.hid hk8'
      clear hlt hk8'
      go_wp2
      go_ret
      have := hA.out
      rw [HK.out] at this
      exact ⟨rfl, by rw [← this]; rfl⟩
set_option maxHeartbeats 3200000 in
theorem text_any (v : Value) (l : List Int) (w : World) (hv : Bs w v l) (hr : Rng l) (hl : l.length ≤ 1099511627776) :
    Calls Tryd.prog 29 #[v] w fun e w' => e = txtRes (txt 0 l) ∧ Below w.heap.size w w' := by
  obtain ⟨a, cap, rfl, hcap, hcells⟩ := hv
  have HC := Lib.hid hcells
  clear hcells
  generalize hn : l.length = n at *
  have HN := Lib.hid hn
  clear hn
  go_enter Tryd.func29, Tryd.ntmps29
  go_wp2_with (refine wpList_build_empty (o := ⟨some 8, _, _, _, _, _⟩) rfl 25 5 1 rfl buildB ?_; intro v8 w1 ho1 hb1 hob1 hs1; have O1 := Lib.hid (show Own w1 w.heap.size v8 [] from ho1); have B1 := Lib.hid hb1; clear ho1 hb1 hob1 hs1)
  go_loopw [5, 6] (fun v5 i wr => ∃ (k : Nat) (c : List Int), k ≤ n ∧ i = .int .i64 k ∧ Own wr w.heap.size v5 c ∧ Below w.heap.size w wr ∧ Hid (TI l c k) ∧ c.length ≤ 64) (fun _ i _ => n - (intOf i).toNat)
  case atStart => exact ⟨0, [], Nat.zero_le _, rfl, O1.out, B1.out, Lib.hid (TI.start l), by simp⟩
  case round =>
    obtain ⟨k, c, hk, rfl, hown, hbw, hti, hc64⟩ := hrel
    have hsz := hbw.size
    have HOW := Lib.hid hown
    have HBW := Lib.hid hbw
    clear hbw
    obtain ⟨ca, cc, rfl, _, _⟩ := hown.bs
    clear hown
    by_cases hlt : k < n
    · obtain ⟨b, off, rfl, hb, hce⟩ := HC.out (by omega)
      have ck := (HBW.out.cell (p := ⟨b, off + k, none⟩) hb).trans (hce k hlt)
      have hx := hr.get k
      by_cases h0 : l[k]?.getD 0 = 0
      · have H0 := Lib.hid h0
        rw [h0] at ck
        clear h0 hx
        by_cases hk1 : k + 1 = n
        · have hres := hti.out.last (by rw [HN.out]; exact hlt) H0.out (by rw [HN.out]; exact hk1)
          have HRES := Lib.hid hres
          have hk2 : (k : Int) + 1 = (n : Int) := by omega
          clear hres hce
          go_wp2_with fail
          go_ret3
          exact ⟨by rw [HRES.out]; rfl, HBW.out⟩
        · have hk2 : k + 1 < n := by omega
          have hk3 : ((k : Int) + 1 == (n : Int)) = false := by simp; omega
          have ck1 := (HBW.out.cell (p := ⟨b, off + (k + 1), none⟩) hb).trans (hce (k + 1) hk2)
          have hy := hr.get (k + 1)
          have HZ := Lib.hid (hti.out.zero (by rw [HN.out]; exact hlt) H0.out (by rw [HN.out]; exact hk2))
          have HT := Lib.hid (fun hy h64 => hti.out.two (by rw [HN.out]; exact hlt) H0.out (by rw [HN.out]; exact hk2) hy h64)
          generalize hY : l[k + 1]?.getD 0 = y at *
          clear hce hti hY
          by_cases h1 : y = 1
          · subst h1
            have hcv := conv_bs HOW.out.bs
            go_wp2_with fail
            go_ret3
            simp only [if_true] at HZ
            refine ⟨by rw [HZ.out]; simp only [TR.app, List.append_nil, txtRes]; rfl, HBW.out⟩
          · have h1' : (y == 1) = false := by simpa using h1
            rw [if_neg h1] at HZ
            by_cases h2 : y = 255
            · subst h2
              rw [if_pos rfl] at HZ
              by_cases h64 : c.length = 64
              · rw [if_pos h64] at HZ
                have h64' : (64 : Int) < (c.length : Int) + 1 := by omega
                go_wp2_with (at_builtin; refine wpList_append_Own (o := ⟨some 53, _, _, _, _, _⟩) rfl (Operand.tmp 50) (Operand.tmp 52) rfl w.heap.size _ c rfl (HOW.out.alloc _) _ [0] rfl (lit_bs2 wr _ [_] _ 1 1 rfl (Nat.le_refl 1) _ rfl) (by simp; omega) (by simp; omega) ?_; intro v1 w1 hown1 hb1; have HO1 := Lib.hid hown1; have HB1 := Lib.hid hb1; obtain ⟨da, dc, rfl, _, _⟩ := hown1.bs; have HL1 := Lib.hid (show (c ++ [0]).length = c.length + 1 by simp); clear hown1 hb1)
                go_ret3
                exact ⟨by rw [HZ.out]; rfl, (HBW.out.alloc (by omega) _).trans HB1.out⟩
              · have h64' : (c.length : Int) + 1 ≤ 64 := by omega
                have HT2 := Lib.hid (HT.out rfl h64)
                clear HT HZ
                go_wp2_with (at_builtin; refine wpList_append_Own (o := ⟨some 53, _, _, _, _, _⟩) rfl (Operand.tmp 50) (Operand.tmp 52) rfl w.heap.size _ c rfl (HOW.out.alloc _) _ [0] rfl (lit_bs2 wr _ [_] _ 1 1 rfl (Nat.le_refl 1) _ rfl) (by simp; omega) (by simp; omega) ?_; intro v1 w1 hown1 hb1; have HO1 := Lib.hid hown1; have HB1 := Lib.hid hb1; obtain ⟨da, dc, rfl, _, _⟩ := hown1.bs; have HL1 := Lib.hid (show (c ++ [0]).length = c.length + 1 by simp); clear hown1 hb1)
                go_roundw
                case rel => exact ⟨k + 2, c ++ [0], by omega, by go_num, (by have := HO1.out; rw [HL1.out] at this; exact this), (HBW.out.alloc (by omega) _).trans HB1.out, HT2, by simp; omega⟩
                case measure => simp [intOf]; omega
            · have h2' : (y != 255) = true := by simpa using h2
              rw [if_neg h2] at HZ
              go_wp2_with fail
              go_ret3
              exact ⟨by rw [HZ.out]; rfl, HBW.out⟩
      · have h0' : (l[k]?.getD 0 == 0) = false := by simpa using h0
        have H1 := Lib.hid (fun h64 => hti.out.one (by rw [HN.out]; exact hlt) h0 h64)
        have H2 := Lib.hid (fun h64 => hti.out.one64 (by rw [HN.out]; exact hlt) h0 h64)
        generalize l[k]?.getD 0 = x at *
        clear hce hti h0
        by_cases h64 : c.length = 64
        · have h64' : (64 : Int) < (c.length : Int) + 1 := by omega
          have HZ := Lib.hid (H2.out h64)
          clear H1 H2
          go_wp2_with (at_builtin; refine wpList_append_Own (o := ⟨some 53, _, _, _, _, _⟩) rfl (Operand.tmp 50) (Operand.tmp 52) rfl w.heap.size _ c rfl (HOW.out.alloc _) _ [x] rfl (lit_bs2 wr _ [_] _ 1 1 rfl (Nat.le_refl 1) _ rfl) (by simp; omega) (by simp; omega) ?_; intro v1 w1 hown1 hb1; have HO1 := Lib.hid hown1; have HB1 := Lib.hid hb1; obtain ⟨da, dc, rfl, _, _⟩ := hown1.bs; have HL1 := Lib.hid (show (c ++ [x]).length = c.length + 1 by simp); clear hown1 hb1)
          go_ret3
          exact ⟨by rw [HZ.out]; rfl, (HBW.out.alloc (by omega) _).trans HB1.out⟩
        · have h64' : (c.length : Int) + 1 ≤ 64 := by omega
          have HT2 := Lib.hid (H1.out h64)
          clear H1 H2
          go_wp2_with (at_builtin; refine wpList_append_Own (o := ⟨some 53, _, _, _, _, _⟩) rfl (Operand.tmp 50) (Operand.tmp 52) rfl w.heap.size _ c rfl (HOW.out.alloc _) _ [x] rfl (lit_bs2 wr _ [_] _ 1 1 rfl (Nat.le_refl 1) _ rfl) (by simp; omega) (by simp; omega) ?_; intro v1 w1 hown1 hb1; have HO1 := Lib.hid hown1; have HB1 := Lib.hid hb1; obtain ⟨da, dc, rfl, _, _⟩ := hown1.bs; have HL1 := Lib.hid (show (c ++ [x]).length = c.length + 1 by simp); clear hown1 hb1)
          go_roundw
          case rel => exact ⟨k + 1, c ++ [x], by omega, by go_num, (by have := HO1.out; rw [HL1.out] at this; exact this), (HBW.out.alloc (by omega) _).trans HB1.out, HT2, by simp; omega⟩
          case measure => simp [intOf]; omega
    · have hkn : n ≤ k := by omega
      have HZ := Lib.hid (hti.out.fin (by rw [HN.out]; exact hkn))
      clear hti hlt
      go_wp2_with fail
      go_ret3
      exact ⟨by rw [HZ.out]; rfl, HBW.out⟩
end Go.Proofs.YtkajpcjmcpollaaDoor
