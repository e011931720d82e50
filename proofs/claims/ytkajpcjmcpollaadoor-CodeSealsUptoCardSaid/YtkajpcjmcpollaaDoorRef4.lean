import Derived.Test.YtkajpcjmcpollaaDoorRef3
import Derived.WalkKit
import Derived.ProofKit
import Derived.BigQuiet
import Derived.Deep.QuietTactic
import Derived.WalkSpells
import Derived.WalkLawsBesides
import Derived.Lib.Hide
import Derived.Deep.MidRow
import Derived.Deep.RegionLaw
import Derived.BigRegion
import Derived.Laws.AppendOwnNone
import Derived.Deep.DeepMust
import Derived.Deep.AppendLies
import Derived.RegionTactic
import Derived.Deep.WholeRow
import Derived.BigFrame
import Derived.Deep.RegionWith
import Derived.Deep.RegionHeld3
import Derived.Maps.RangeWalk
import Derived.Laws.CopyOwn
import Derived.StillTailTactics
namespace Go.Proofs.YtkajpcjmcpollaaDoor
open Go.RowKit
theorem own_lower {w : World} {B B' : Nat} {e : TypeId} {size : Nat} {v : Value} {n : Nat} {xs : List Value} (h : w.ownsRow B' e size v n xs) (hB : B ≤ B') : w.ownsRow B e size v n xs :=
  ⟨h.1, h.2.imp id (fun ⟨g, cap, cur, a, b, c⟩ => ⟨g, cap, cur, a, Nat.le_trans hB b, c⟩)⟩
set_option maxRecDepth 100000 in
set_option maxHeartbeats 1600000 in
theorem numbers_any (w : World) :
    Calls Tryd.prog 48 #[] w fun e w' => ∃ v3 v4, e = .returned (.tuple #[v3, v4]) ∧ w'.ownsRow w.heap.size 77 1 v3 8 (iv.list.map (Value.int .u32)) ∧ w'.ownsRow w.heap.size 77 1 v4 64 (Kt.map (Value.int .u32)) ∧ v3.ownBlock ≠ v4.ownBlock ∧ Below w.heap.size w w' := by
  obtain ⟨i0, hi, hz0, hz1, hz2⟩ := info_parts info49
  have P2 := Lib.hid pt2
  have P3 := Lib.hid pt3
  have PE := Lib.hid prs_end
  go_enter Tryd.func48, Tryd.ntmps48
  go_wp2_with fail
  refine (primes_any w).mono ?_
  rintro e w1 ⟨vp, rfl, hown, hb1⟩
  obtain ⟨gp, cp, rfl, hcp, hgp, hgl⟩ := own_some hown (by omega)
  have HP := Lib.hid hown
  have B1 := Lib.hid hb1
  clear hown hb1
  have hs1 := B1.out.size
  go_wp2_with fail
  go_loopw [3, 4, 5] (fun v3 v4 c wr => ∃ i : Nat, i ≤ 64 ∧ c = .int .i64 i ∧ wr.ownsRow w1.heap.size 77 1 v3 (min i 8) ((iv.list.take i).map (Value.int .u32)) ∧ wr.ownsRow w1.heap.size 77 1 v4 i ((Kt.take i).map (Value.int .u32)) ∧ v3.ownBlock ≠ v4.ownBlock ∧ v4.ownBlock ≠ none ∧ Below w1.heap.size w1 wr) (fun _ _ c _ => 64 - (intOf c).toNat)
  case atStart =>
    refine ⟨0, by omega, rfl, ?_, ?_, ?_, ?_, ?_⟩
    · exact World.ownsRow.alloc (World.ownsRow_lit w1 #[] 0 (Nat.le_refl _) (Nat.zero_le _) rfl) _
    · have := World.ownsRow_lit (base := w1.heap.size) (size := 1) (e := 77) (w1.alloc (.cells #[] 77)) #[] 0 (by simp) (Nat.zero_le _) rfl; simpa using this
    · simp [Value.ownBlock]
    · simp [Value.ownBlock]
    · exact ((Below.refl _ _).alloc (Nat.le_refl _) _).alloc (by simp) _
  case round =>
    obtain ⟨i, hi64, rfl, ho3, ho4, hne, hnn, hbr⟩ := hrel
    have HO3 := Lib.hid ho3
    have HO4 := Lib.hid ho4
    have HNE := Lib.hid hne
    have HNN := Lib.hid hnn
    have HB := Lib.hid hbr
    have hsb := hbr.size
    clear ho3 ho4 hne hnn hbr
    by_cases hlt : i < 64
    · have hc := ((HP.out.cells (g := gp) rfl i (.int .u64 ((prs 312)[i]?.getD 0)) (by simp [PE.out, hlt])))
      rw [Addr.add_mid, Nat.zero_add] at hc
      have hcr := (HB.out.cell (p := ⟨gp, i, none⟩) hgl).trans hc
      have hii : (i : Int) < 64 := by omega
      have kt := Lib.hid (take_snoc_int Kt i (by simpa [Kt] using hlt))
      have HC := Lib.hid hc
      clear hc
      by_cases h8 : i < 8
      · have hi8 : (i : Int) < 8 := by omega
        have it := Lib.hid (take_snoc_int iv.list i (by simpa [S8.list] using h8))
        have e2 := Lib.hid (P2.out i h8)
        have e3 := Lib.hid (P3.out i hlt)
        generalize (prs 312)[i]?.getD 0 = q at *
        have hmin : min i 8 = i := by omega
        rw [hmin] at HO3
        go_wp2_with (first
          | (go_at_call 55; (with_reducible refine (point_any q 2 _ (.inl rfl)).mono ?_); rintro e w' ⟨rfl, rfl⟩; rw [e2.out])
          | (go_at_call 55; (with_reducible refine (point_any q 3 _ (.inr rfl)).mono ?_); rintro e w' ⟨rfl, rfl⟩; rw [e3.out])
          | (at_builtin; refine wpList_append_lies (o := ⟨some 22, _, _, _, _, _⟩) _ rfl (Operand.tmp 15) (Operand.tmp 21) 73 rfl w1.heap.size 77 i0 (.int .u32 0) 1 4 Tryd.underlying73 hi hz0 hz1 hz2 rfl (by decide) _ i _ rfl (HO3.out.alloc _) ⟨wr.heap.size, 0, none⟩ 1 1 [.int .u32 (iv.list[i]?.getD 0)] rfl rfl (cell_one_new _ _ _) (by intro u hu; simp at hu; subst hu; rfl) (by decide) (by unfold maxLen; omega) (by omega) (by simp; omega) (wr.heap.size + 1) (by simp) ?_; intro g3 c3 w3 hown3 hg3 hH3 hl3; have HO4b := Lib.hid ((HO4.out.alloc _).kept hg3 (.inr (Ne.symm HNE.out))); have HB3 := Lib.hid ((HB.out.alloc hsb _).grown hg3 (by simp; omega) (fun g hg => (HO3.out.lt g hg).1)); have HO3b := Lib.hid hown3; have HH3 := Lib.hid hH3; have hsb3 := HB3.out.size; have hcr3 := (HB3.out.cell (p := ⟨gp, i, none⟩) hgl).trans HC.out; clear hown3 hg3 hH3)
          | (at_builtin; refine wpList_append_lies (o := ⟨some 30, _, _, _, _, _⟩) _ rfl (Operand.tmp 23) (Operand.tmp 29) 73 rfl w1.heap.size 77 i0 (.int .u32 0) 1 4 Tryd.underlying73 hi hz0 hz1 hz2 rfl (by decide) _ i _ rfl (HO4b.out.alloc _) ⟨w3.heap.size, 0, none⟩ 1 1 [.int .u32 (Kt[i]?.getD 0)] rfl rfl (cell_one_new _ _ _) (by intro u hu; simp at hu; subst hu; rfl) (by decide) (by unfold maxLen; omega) (by omega) (by simp; omega) (w3.heap.size + 1) (by simp) ?_; intro g4 c4 w4 hown4 hg4 hH4 hl4; have HO4c := Lib.hid hown4; have HH4 := Lib.hid hH4; have HG4 := Lib.hid hg4; clear hown4 hg4 hH4)
          | fail)
        have hn3 : some g3 ≠ u4.ownBlock := by
          intro he
          have h1 := (HO4.out.lt g3 he.symm).2
          rcases HH3.out with h | h
          · exact HNE.out (h.trans he)
          · omega
        refine ⟨⟨i + 1, by omega, by go_num, ?_, ?_, ?_, by simp [Value.ownBlock], ?_⟩, by simp [intOf]; omega⟩
        · have hm1 : min (i + 1) 8 = i + 1 := by omega
          rw [hm1, it.out, List.map_append]
          exact (HO3b.out.alloc _).kept HG4.out (.inr hn3)
        · rw [kt.out, List.map_append]; exact HO4c.out
        · intro he
          simp only [Value.ownBlock, Option.some.injEq] at he
          subst he
          rcases HH4.out with h | h
          · exact hn3 h.symm
          · omega
        · exact (HB3.out.alloc hsb3 _).grown HG4.out (by simp; omega) (fun g hg => (HO4.out.lt g hg).1)
      · have hi8 : ¬ (i : Int) < 8 := by omega
        have hi8' : 8 ≤ (i : Int) := by omega
        have e3 := Lib.hid (P3.out i hlt)
        have hmin : min i 8 = 8 := by omega
        rw [hmin] at HO3
        generalize (prs 312)[i]?.getD 0 = q at *
        go_wp2_with (first
          | (go_at_call 55; (with_reducible refine (point_any q 3 _ (.inr rfl)).mono ?_); rintro e w' ⟨rfl, rfl⟩; rw [e3.out])
          | (at_builtin; refine wpList_append_lies (o := ⟨some 30, _, _, _, _, _⟩) _ rfl (Operand.tmp 23) (Operand.tmp 29) 73 rfl w1.heap.size 77 i0 (.int .u32 0) 1 4 Tryd.underlying73 hi hz0 hz1 hz2 rfl (by decide) _ i _ rfl (HO4.out.alloc _) ⟨wr.heap.size, 0, none⟩ 1 1 [.int .u32 (Kt[i]?.getD 0)] rfl rfl (cell_one_new _ _ _) (by intro u hu; simp at hu; subst hu; rfl) (by decide) (by unfold maxLen; omega) (by omega) (by simp; omega) (wr.heap.size + 1) (by simp) ?_; intro g4 c4 w4 hown4 hg4 hH4 hl4; have HO4c := Lib.hid hown4; have HH4 := Lib.hid hH4; have HG4 := Lib.hid hg4; clear hown4 hg4 hH4)
          | fail)
        refine ⟨⟨i + 1, by omega, by go_num, ?_, ?_, ?_, by simp [Value.ownBlock], ?_⟩, by simp [intOf]; omega⟩
        · have hm1 : min (i + 1) 8 = 8 := by omega
          have e1 : iv.list.take (i + 1) = iv.list.take i := by rw [List.take_of_length_le (by simp [S8.list]; omega), List.take_of_length_le (by simp [S8.list]; omega)]
          rw [hm1, e1]
          exact (HO3.out.alloc _).kept HG4.out (.inr HNE.out)
        · rw [kt.out, List.map_append]; exact HO4c.out
        · intro he
          rcases HH4.out with h | h
          · exact HNE.out (he.trans h.symm)
          · have h1 := (HO3.out.lt g4 he).2
            omega
        · exact (HB.out.alloc hsb _).grown HG4.out (by simp; omega) (fun g hg => (HO4.out.lt g hg).1)
    · obtain rfl : i = 64 := by omega
      have e1 : iv.list.take 64 = iv.list := rfl
      have e2 : Kt.take 64 = Kt := rfl
      rw [e1] at HO3
      rw [e2] at HO4
      clear e1 e2
      go_wp2_with fail
      go_ret2
      exact ⟨_, _, rfl, own_lower HO3.out hs1, own_lower HO4.out hs1, HNE.out, B1.out.trans (HB.out.mono hs1)⟩
end Go.Proofs.YtkajpcjmcpollaaDoor
