import Derived.Test.YtkajpcjmcpollaaDoorCodeI
import Derived.Test.YtkajpcjmcpollaaDoorCodeJ
import Derived.WalkKit
import Derived.ProofKit
import Derived.BigQuiet
import Derived.Deep.QuietTactic
import Derived.WalkSpells
import Derived.WalkLawsBesides
import Derived.Lib.Hide
import Derived.Deep.MidRow
import Derived.Deep.RegionLaw
import Derived.BigRegion
import Derived.Lib.SlBytesConst
import Derived.Laws.AppendOwnNone
import Derived.Deep.DeepMust
import Derived.Deep.AppendLies
import Derived.RegionTactic
import Derived.Deep.WholeRow
import Derived.BigFrame
import Derived.Deep.RegionWith
import Derived.Deep.RegionHeld3
import Derived.Maps.RangeWalk
import Derived.Laws.CopyOwn
import Derived.StillTailTactics
namespace Go.Proofs.YtkajpcjmcpollaaDoor
open Go.RowKit
theorem OwnR.alloc {w : World} {B : Nat} {v : Value} {l : List Val} (h : OwnR w B v l) (o : Obj) : OwnR (w.alloc o) B v l := World.ownsRow.alloc h o
theorem OwnR.below {w w' : World} {B B' : Nat} {v : Value} {l : List Val} (h : OwnR w B v l) (hb : Below B' w w') (hB : w.heap.size ≤ B') : OwnR w' B v l := own_below h hb hB
theorem OwnR.setCell {w : World} {B : Nat} {v : Value} {l : List Val} (h : OwnR w B v l) (a : Addr) (x : Value) (hne : v.ownBlock ≠ some a.block) : OwnR (w.setCell a x) B v l :=
  World.ownsRow.kept h (grownBy_setCell w a x) (.inr hne)
theorem cut_slice (b off cap k : Nat) : ∃ A : Addr, (if cap = k then some (⟨b, off, none⟩ : Addr) else some ⟨b, off + k, none⟩) = some A ∧ (k < cap → A = ⟨b, off + k, none⟩) := by
  by_cases h8 : cap = k
  · exact ⟨⟨b, off, none⟩, by simp [h8], fun h' => by omega⟩
  · exact ⟨⟨b, off + k, none⟩, by simp [h8], fun _ => rfl⟩
set_option maxRecDepth 100000 in
set_option maxHeartbeats 3200000 in
theorem rrow_any (v : Value) (l : List Int) (w : World) (hv : Bs w v l) (hr : Rng l) (hl : l.length ≤ 1073741824) :
    Calls Tryd.prog 16 #[v] w fun e w' => RowPost l w e w' := by
  have hz := zero32
  obtain ⟨a, cap, rfl, hcap, hcells⟩ := hv
  have HC := Lib.hid hcells
  clear hcells
  generalize hn : l.length = n at *
  have HN := Lib.hid hn
  clear hn
  go_enter Tryd.func16, Tryd.ntmps16
  go_wp2_with (refine wpList_build_empty (o := ⟨some 13, _, _, _, _, _⟩) rfl 23 32 3 rfl buildR ?_; intro v13 w1 ho1 hb1 hob1 hs1; have O1 := Lib.hid (show OwnR w1 w.heap.size v13 [] from ho1); have B1 := Lib.hid hb1; clear ho1 hb1 hob1 hs1)
  go_loopw [5, 6] (fun v5 i wr => ∃ (k : Nat) (vs : List Val), k ≤ n ∧ i = .int .i64 k ∧ OwnR wr w.heap.size v5 vs ∧ Below w.heap.size w wr ∧ Hid (rows l = RR.app vs (rowsF (l.length - k) k (l.drop k))) ∧ vs.length ≤ k) (fun _ i _ => n - (intOf i).toNat)
  case atStart => exact ⟨0, [], Nat.zero_le _, rfl, O1.out, B1.out, Lib.hid (by rw [RR.app_nil]; rfl), by simp⟩
  case round =>
    obtain ⟨k, vs, hk, rfl, hown, hbw, hti, hvk⟩ := hrel
    have hsz := hbw.size
    have HOW := Lib.hid hown
    have HBW := Lib.hid hbw
    clear hbw hown
    by_cases hlt : k < n
    · obtain ⟨b, off, rfl, hb, hce⟩ := HC.out (by omega)
      have ck := (HBW.out.cell (p := ⟨b, off + k, none⟩) hb).trans (hce k hlt)
      have hx := hr.get k
      have hbr : b < wr.heap.size := by omega
      obtain ⟨A, hA, hA2⟩ := cut_slice b off cap (k + 1)
      have hBs : Bs wr (.slice (some A) (n - (k + 1)) (cap - (k + 1))) (l.drop (k + 1)) := by
        have := Bs.sub (k + 1) (n - (k + 1)) (cap - (k + 1)) (show b < wr.heap.size by omega) (by rw [HN.out]; omega) (by omega) A (fun h0 => hA2 (by omega)) (fun i hi => (HBW.out.cell (p := ⟨b, off + i, none⟩) hb).trans (hce i (by rw [HN.out] at hi; exact hi)))
        rw [List.take_of_length_le (by rw [List.length_drop, HN.out]; exact Nat.le_refl _)] at this
        exact this
      have HBS := Lib.hid hBs
      have HA2 := Lib.hid hA2
      have hd0 : (l.drop k)[0]?.getD 0 = l[k]?.getD 0 := by rw [List.getElem?_drop, Nat.add_zero]
      have hdl : (l.drop k).length = n - k := by rw [List.length_drop, HN.out]
      have hdd : (l.drop k).drop 1 = l.drop (k + 1) := by rw [List.drop_drop]
      have hd1 : (l.drop k)[1]?.getD 0 = l[k + 1]?.getD 0 := by rw [List.getElem?_drop]
      have HERR := Lib.hid (fun e h => rows_err l vs k e (by rw [HN.out]; exact hlt) hti.out h)
      have HSTEP := Lib.hid (fun x u h => rows_step l vs k x u (by rw [HN.out]; exact hlt) hti.out h)
      have HNE := Lib.hid (show ∀ g, u5.ownBlock = some g → g < wr.heap.size from fun g hg => (HOW.out.lt g hg).2)
      generalize hX : l[k]?.getD 0 = x at *
      have HD0 := Lib.hid hd0
      have HDL := Lib.hid hdl
      have HDD := Lib.hid hdd
      have HD1 := Lib.hid hd1
      have HCE := Lib.hid hce
      clear hBs hA2 hX hd0 hdl hdd hd1 hce hti
      by_cases x1 : x = 1
      · subst x1
        obtain ⟨hst, hu1, hu2⟩ := HSTEP.out _ _ (one_1 HD0.out)
        have HST := Lib.hid hst
        clear hst
        go_wp2_with (at_builtin; refine wpList_append_rw rfl (Operand.tmp 79) (Operand.tmp 81) rfl w.heap.size _ vs rfl ((HOW.out.alloc _).alloc _) _ [⟨0, 0, []⟩] rfl (Rw.one ⟨0, 0, []⟩ (by simp)) (by simp; omega) (by simp; omega) ?_; intro v9 w9 hown9 hb9; have O9 := Lib.hid hown9; have B9 := Lib.hid (((HBW.out.alloc (by omega) _).alloc (by simp; omega) _).trans hb9); clear hown9 hb9)
        go_roundw
        case rel => exact ⟨k + 1, vs ++ [⟨0, 0, []⟩], by omega, by go_num, O9.out, B9.out, HST, by simp; omega⟩
        case measure => simp [intOf]; omega
      by_cases x2 : x = 2
      · subst x2
        have HO := Lib.hid (one_2 HD0.out)
        rw [HDL.out, HDD.out] at HO
        clear x1
        by_cases h9 : n - k < 9
        · rw [if_pos h9] at HO
          have HF := Lib.hid (HERR.out _ HO.out)
          have h8 : ((n - (k + 1) : Nat) : Int) < 8 := by omega
          clear HERR HSTEP HO
          go_wp2_with fail
          go_ret3
          refine ⟨HBW.out.alloc (by omega) _, ?_⟩
          rw [HF.out]
          rfl
        · rw [if_neg h9] at HO
          obtain ⟨hst, hu1, hu2⟩ := HSTEP.out _ _ HO.out
          rw [HN.out] at hu2
          have h8 : (8 : Int) ≤ ((n - (k + 1) : Nat) : Int) := by omega
          have hbl := beI_lt ((l.drop (k + 1)).take 8) ((hr.drop (k + 1)).take 8)
          rw [show ((l.drop (k + 1)).take 8).length = 8 by rw [List.length_take, List.length_drop, HN.out]; omega] at hbl
          have hnum := rnumber_any (.slice (some A) (n - (k + 1)) (cap - (k + 1))) (l.drop (k + 1)) (wr.alloc (.cells #[.int .i64 1, .int .i64 0, .string ⟨#[]⟩] 32)) (HBS.out.below ((Below.refl _ _).alloc (Nat.le_refl _) _)) (hr.drop (k + 1)) (by rw [List.length_drop, HN.out]; omega) (by rw [List.length_drop, HN.out]; omega)
          have e1 : wrap64 (IntKind.u64.wrap ((beI ((l.drop (k + 1)).take 8) : Int) - 9223372036854775808)) = (beI ((l.drop (k + 1)).take 8) : Int) - 9223372036854775808 := by
            rw [IntKind.wrap_u64]
            generalize beI ((l.drop (k + 1)).take 8) = N at *
            unfold wrap64
            omega
          rw [← e1] at hst
          have HST := Lib.hid hst
          have HNUM := Lib.hid hnum
          clear hst hnum e1 hbl HERR HSTEP HO
          generalize beI ((l.drop (k + 1)).take 8) = N at *
          go_wp2_with (first
            | (go_at_call 28; (with_reducible refine HNUM.out.mono ?_); rintro e w' ⟨rfl, rfl⟩)
            | (at_builtin; refine wpList_append_rw rfl (Operand.tmp 79) (Operand.tmp 81) rfl w.heap.size _ vs rfl ((HOW.out.alloc _).alloc _) _ [⟨1, wrap64 (IntKind.u64.wrap ((N : Int) - 9223372036854775808)), []⟩] rfl (Rw.one ⟨1, wrap64 (IntKind.u64.wrap ((N : Int) - 9223372036854775808)), []⟩ (by simp)) (by simp; omega) (by simp; omega) ?_; intro v9 w9 hown9 hb9; have O9 := Lib.hid hown9; have B9 := Lib.hid ((((HBW.out.alloc (by omega) _).alloc (by simp; omega) _)).trans hb9); clear hown9 hb9))
          go_roundw
          case rel => exact ⟨k + 9, vs ++ [⟨1, wrap64 (IntKind.u64.wrap ((N : Int) - 9223372036854775808)), []⟩], by omega, by go_num, O9.out, B9.out, HST, by simp; omega⟩
          case measure => simp [intOf]; omega
      by_cases x3 : x = 3
      · subst x3
        have HO := Lib.hid (one_3 HD0.out)
        rw [HDD.out] at HO
        have htx := text_any (.slice (some A) (n - (k + 1)) (cap - (k + 1))) (l.drop (k + 1)) (wr.alloc (.cells #[.int .i64 2, .int .i64 0, .string ⟨#[]⟩] 32)) (HBS.out.below ((Below.refl _ _).alloc (Nat.le_refl _) _)) (hr.drop (k + 1)) (by rw [List.length_drop, HN.out]; omega)
        clear x1 x2
        cases ht : txt 0 (l.drop (k + 1)) with
        | err e2 =>
          rw [ht] at htx HO
          simp only [txtRes] at htx
          have HT := Lib.hid htx
          have he0 : (e2 != 0) = true := by rcases txt_err ht with h | h <;> rw [h] <;> decide
          have HF := Lib.hid (HERR.out e2 HO.out)
          clear htx ht HERR HSTEP HO
          go_wp2_with (go_at_call 29; (with_reducible refine HT.out.mono ?_); rintro e w2 ⟨rfl, hb2⟩; have B2 := Lib.hid ((HBW.out.alloc (by omega) _).trans (hb2.mono (by simp; omega))); clear hb2)
          go_ret3
          refine ⟨B2.out, ?_⟩
          rw [HF.out]
          rfl
        | ok t u =>
          rw [ht] at htx HO
          simp only [txtRes] at htx
          have HT := Lib.hid htx
          obtain ⟨hst, hu1, hu2⟩ := HSTEP.out ⟨2, 0, t⟩ (1 + u) HO.out
          rw [HN.out] at hu2
          have HST := Lib.hid hst
          clear htx ht hst HERR HSTEP HO
          go_wp2_with (first
            | (go_at_call 29; (with_reducible refine HT.out.mono ?_); rintro e w2 ⟨rfl, hb2⟩; obtain ⟨q0, q1, q2⟩ := box_below hb2; have hfz := frozen_below hb2; have B2 := Lib.hid ((HBW.out.alloc (by omega) _).trans (hb2.mono (by simp; omega))); have O2 := Lib.hid (OwnR.setCell ((HOW.out.alloc _).below hb2 (Nat.le_refl _)) ⟨wr.heap.size, 2, none⟩ (.string (str t)) (fun e => Nat.lt_irrefl _ (HNE.out _ e))); have hs2 := hb2.size; clear hb2)
            | (at_builtin; refine wpList_append_rw rfl (Operand.tmp 79) (Operand.tmp 81) rfl w.heap.size _ vs rfl (O2.out.alloc _) _ [⟨2, 0, t⟩] rfl (Rw.one ⟨2, 0, t⟩ (by simp)) (by simp; omega) (by simp at hs2 ⊢; omega) ?_; intro v9 w9 hown9 hb9; have O9 := Lib.hid hown9; have B9 := Lib.hid ((((B2.out.setCell (show w.heap.size ≤ wr.heap.size by omega) _).alloc (by simp at hs2 ⊢; omega) _)).trans hb9); clear hown9 hb9))
          go_roundw
          case rel => exact ⟨k + (1 + u), vs ++ [⟨2, 0, t⟩], by omega, by go_num, O9.out, B9.out, HST, by simp; omega⟩
          case measure => simp [intOf]; omega
      by_cases x4 : x = 4
      · subst x4
        have HO := Lib.hid (one_4 HD0.out)
        rw [HDL.out, HD1.out] at HO
        clear x1 x2 x3
        by_cases h2 : n - k < 2
        · rw [if_pos h2] at HO
          have HF := Lib.hid (HERR.out _ HO.out)
          have h8 : ((n - (k + 1) : Nat) : Int) < 1 := by omega
          clear HERR HSTEP HO
          go_wp2_with fail
          go_ret3
          refine ⟨HBW.out.alloc (by omega) _, ?_⟩
          rw [HF.out]
          rfl
        · rw [if_neg h2] at HO
          have h8 : (1 : Int) ≤ ((n - (k + 1) : Nat) : Int) := by omega
          obtain rfl := HA2.out (by omega)
          have ck1 := (HBW.out.cell (p := ⟨b, off + (k + 1), none⟩) hb).trans (HCE.out (k + 1) (by omega))
          have hy := hr.get (k + 1)
          generalize l[k + 1]?.getD 0 = y at *
          by_cases h5 : 1 < y
          · rw [if_pos h5] at HO
            have HF := Lib.hid (HERR.out _ HO.out)
            clear HERR HSTEP HO
            go_wp2_with fail
            go_ret3
            refine ⟨HBW.out.alloc (by omega) _, ?_⟩
            rw [HF.out]
            rfl
          · rw [if_neg h5] at HO
            obtain ⟨hst, hu1, hu2⟩ := HSTEP.out _ _ HO.out
            rw [HN.out] at hu2
            have HST := Lib.hid hst
            clear hst HERR HSTEP HO
            go_wp2_with (at_builtin; refine wpList_append_rw rfl (Operand.tmp 79) (Operand.tmp 81) rfl w.heap.size _ vs rfl ((HOW.out.alloc _).alloc _) _ [⟨3, y, []⟩] rfl (Rw.one ⟨3, y, []⟩ (by simp)) (by simp; omega) (by simp; omega) ?_; intro v9 w9 hown9 hb9; have O9 := Lib.hid hown9; have B9 := Lib.hid ((((HBW.out.alloc (by omega) _).alloc (by simp; omega) _)).trans hb9); clear hown9 hb9)
            go_roundw
            case rel => exact ⟨k + 2, vs ++ [⟨3, y, []⟩], by omega, by go_num, O9.out, B9.out, HST, by simp; omega⟩
            case measure => simp [intOf]; omega
      · have HF := Lib.hid (HERR.out 5 (one_5 (by rw [HD0.out]; exact x1) (by rw [HD0.out]; exact x2) (by rw [HD0.out]; exact x3) (by rw [HD0.out]; exact x4)))
        have y1 : (x == 1) = false := by simpa using x1
        have y2 : (x == 2) = false := by simpa using x2
        have y3 : (x == 3) = false := by simpa using x3
        have y4 : (x == 4) = false := by simpa using x4
        clear x1 x2 x3 x4 HERR HSTEP
        go_wp2_with fail
        go_ret3
        refine ⟨HBW.out.alloc (by omega) _, ?_⟩
        rw [HF.out]
        rfl
    · have hkn : n ≤ k := by omega
      have HF := Lib.hid (rows_end l vs k (by rw [HN.out]; exact hkn) hti.out)
      clear hti hlt
      go_wp2_with fail
      go_ret3
      refine ⟨HBW.out, ?_⟩
      rw [HF.out]
      exact ⟨_, rfl, HOW.out⟩
end Go.Proofs.YtkajpcjmcpollaaDoor
