import Derived.Test.YtkajpcjmcpollaaDoorCode2
import Derived.WalkKit
import Derived.ProofKit
import Derived.BigQuiet
import Derived.Deep.QuietTactic
import Derived.WalkSpells
import Derived.WalkLawsBesides
import Derived.Lib.Hide
import Derived.Deep.MidRow
import Derived.Deep.RegionLaw
import Derived.BigRegion
import Derived.Lib.SlBytesConst
import Derived.Laws.AppendOwnNone
import Derived.Deep.DeepMust
import Derived.Deep.AppendLies
import Derived.RegionTactic
import Derived.Deep.WholeRow
import Derived.BigFrame
import Derived.Deep.RegionWith
import Derived.Deep.RegionHeld3
import Derived.Maps.RangeWalk
import Derived.Laws.CopyOwn
import Derived.StillTailTactics
namespace Go.Proofs.YtkajpcjmcpollaaDoor
open Go.RowKit
theorem lit_bs2 (w : World) (T : TypeId) (C : List Int) (fr : Nat × Nat) (n c : Nat) (hn : C.length = n) (hc : n ≤ c) (H : Nat) (hH : w.heap.size = H) : Bs (w.alloc (.cells (C.map (Value.int .u8)).toArray T fr)) (.slice (some ⟨H, 0, none⟩) n c) C := by
  subst hH
  exact lit_bs w T C fr n c hn hc
theorem box_kept {w w1 : World} {c0 c1 c2 : Value} {T : TypeId} {o : Obj} {r : Option Nat} (hr : r ≠ some w.heap.size) (hg : ((w.alloc (.cells #[c0, c1, c2] T)).alloc o).grownBy w1 r) :
    w1.cell? ⟨w.heap.size, 0, none⟩ = some c0 ∧ w1.cell? ⟨w.heap.size, 1, none⟩ = some c1 ∧ w1.cell? ⟨w.heap.size, 2, none⟩ = some c2 := by
  have h0 : w1.heap[w.heap.size]? = some (.cells #[c0, c1, c2] T (0, 0)) := by
    refine (hg.block w.heap.size (by simp; omega) (fun e => hr e.symm)).trans ?_
    exact (heap_alloc_old _ _ (by simp)).trans (heap_alloc_new _ _)
  exact ⟨cell_of_row w1 _ 0 _ _ _ h0, cell_of_row w1 _ 1 _ _ _ h0, cell_of_row w1 _ 2 _ _ _ h0⟩
theorem tag_any (k : Int) (w : World) (h0 : 0 ≤ k) (h1 : k ≤ 3) : Calls Tryd.prog 35 #[.int .i64 k] w fun e w' => w = w' ∧ e = .returned (.int .u8 (k + 1)) := by
  have h2 : (k + 1) % 256 = k + 1 := by omega
  go_enter Tryd.func35, Tryd.ntmps35
  go_wp2_with fail
  go_ret
  exact ⟨rfl, rfl⟩
set_option maxHeartbeats 800000 in
theorem appendKey_any (v : Value) (l : List Int) (x : Val) (B : Nat) (w : World) (hown : Own w B v l) (hB : B ≤ w.heap.size) (hn : l.length ≤ 1000000000000) (hx : vld x = true) (ho : x.OK) :
    Calls Tryd.prog 24 #[v, vagg x] w fun e w' => ∃ v', e = .returned v' ∧ Own w' B v' (l ++ keyV x) ∧ Below B w w' := by
  obtain ⟨k, n, s⟩ := x
  obtain ⟨o1, o2, o3, o4, o5⟩ := ho
  simp only [vagg] at *
  have HNE := Lib.hid (show v.ownBlock ≠ some w.heap.size from fun e => Nat.lt_irrefl _ (hown.lt _ e).2)
  have HO := Lib.hid hown
  clear hown
  by_cases k0 : k = 0
  · subst k0
    simp [vld] at hx
    obtain ⟨rfl, rfl⟩ := hx
    go_enter Tryd.func24, Tryd.ntmps24
    go_wp2_with (first
      | (go_at_call 35; refine (tag_any _ _ (by omega) (by omega)).mono ?_; rintro e w' ⟨rfl, rfl⟩)
      | (at_builtin; refine wpList_append_Own_at (o := ⟨some 10, _, _, _, _, _⟩) rfl (Operand.tmp 5) (Operand.tmp 9) rfl B _ l rfl ((HO.out.alloc _).alloc _) _ [1] rfl (lit_bs2 _ _ [_] _ 1 1 rfl (Nat.le_refl 1) _ (by simp)) (by simp; omega) (by simp; omega) ?_; intro v1 w1 hown1 hb1 hg1 _; obtain ⟨q0, q1, q2⟩ := box_kept HNE.out hg1; have HO1 := Lib.hid hown1; have hs1 := hb1.size; have HB1 := Lib.hid ((((Below.refl _ w).alloc (by omega) _).alloc (by simp; omega) _).trans hb1); clear hown1 hb1 hg1))
    go_ret
    exact ⟨_, rfl, HO1.out.eq (by simp [keyV, body]), HB1.out⟩
  by_cases k1 : k = 1
  · subst k1
    simp [vld] at hx
    subst hx
    have hnum : IntKind.u64.wrap (IntKind.u64.wrap n + 9223372036854775808) = ((num n : Nat) : Int) := by rw [IntKind.wrap_u64, IntKind.wrap_u64]; unfold num; omega
    have HN := Lib.hid hnum
    clear hnum
    go_enter Tryd.func24, Tryd.ntmps24
    go_wp2_with (first
      | (go_at_call 35; refine (tag_any _ _ (by omega) (by omega)).mono ?_; rintro e w' ⟨rfl, rfl⟩)
      | (at_builtin; refine wpList_append_Own_at (o := ⟨some 10, _, _, _, _, _⟩) rfl (Operand.tmp 5) (Operand.tmp 9) rfl B _ l rfl ((HO.out.alloc _).alloc _) _ [2] rfl (lit_bs2 _ _ [_] _ 1 1 rfl (Nat.le_refl 1) _ (by simp)) (by simp; omega) (by simp; omega) ?_; intro v1 w1 hown1 hb1 hg1 _; obtain ⟨q0, q1, q2⟩ := box_kept HNE.out hg1; have HO1 := Lib.hid hown1; have hs1 := hb1.size; have HB1 := Lib.hid ((((Below.refl _ w).alloc (by omega) _).alloc (by simp; omega) _).trans hb1); clear hown1 hb1 hg1))
    rw [HN.out]
    refine (appendNumber2_any _ _ B (num n) w1 HO1.out (by simp at hs1; omega) (by simp; omega) (by unfold num; omega)).mono ?_
    rintro e w2 ⟨v2, rfl, hown2, hb2⟩
    have HO2 := Lib.hid hown2
    have HB2 := Lib.hid hb2
    clear hown2 hb2
    go_wp2_with fail
    go_ret
    exact ⟨_, rfl, HO2.out.eq (by simp [keyV, body]), HB1.out.trans HB2.out⟩
  by_cases k2 : k = 2
  · subst k2
    simp [vld] at hx
    obtain ⟨rfl, hl⟩ := hx
    go_enter Tryd.func24, Tryd.ntmps24
    go_wp2_with (first
      | (go_at_call 35; refine (tag_any _ _ (by omega) (by omega)).mono ?_; rintro e w' ⟨rfl, rfl⟩)
      | (at_builtin; refine wpList_append_Own_at (o := ⟨some 10, _, _, _, _, _⟩) rfl (Operand.tmp 5) (Operand.tmp 9) rfl B _ l rfl ((HO.out.alloc _).alloc _) _ [3] rfl (lit_bs2 _ _ [_] _ 1 1 rfl (Nat.le_refl 1) _ (by simp)) (by simp; omega) (by simp; omega) ?_; intro v1 w1 hown1 hb1 hg1 _; obtain ⟨q0, q1, q2⟩ := box_kept HNE.out hg1; have HO1 := Lib.hid hown1; have hs1 := hb1.size; have HB1 := Lib.hid ((((Below.refl _ w).alloc (by omega) _).alloc (by simp; omega) _).trans hb1); clear hown1 hb1 hg1))
    refine (appendText_any _ _ s B w1 HO1.out (by simp at hs1; omega) (by simp; omega) o1).mono ?_
    rintro e w2 ⟨v2, rfl, hown2, hb2⟩
    have HO2 := Lib.hid hown2
    have HB2 := Lib.hid hb2
    clear hown2 hb2
    go_wp2_with fail
    go_ret
    exact ⟨_, rfl, HO2.out.eq (by simp [keyV, body]), HB1.out.trans HB2.out⟩
  by_cases k3 : k = 3
  · subst k3
    simp [vld] at hx
    obtain ⟨hx, rfl⟩ := hx
    have hn2 : n % 256 = n := by omega
    go_enter Tryd.func24, Tryd.ntmps24
    go_wp2_with (first
      | (go_at_call 35; refine (tag_any _ _ (by omega) (by omega)).mono ?_; rintro e w' ⟨rfl, rfl⟩)
      | (at_builtin; refine wpList_append_Own_at (o := ⟨some 10, _, _, _, _, _⟩) rfl (Operand.tmp 5) (Operand.tmp 9) rfl B _ l rfl ((HO.out.alloc _).alloc _) _ [4] rfl (lit_bs2 _ _ [_] _ 1 1 rfl (Nat.le_refl 1) _ (by simp)) (by simp; omega) (by simp; omega) ?_; intro v1 w1 hown1 hb1 hg1 _; obtain ⟨q0, q1, q2⟩ := box_kept HNE.out hg1; have HO1 := Lib.hid hown1; have hs1 := hb1.size; have HB1 := Lib.hid ((((Below.refl _ w).alloc (by omega) _).alloc (by simp; omega) _).trans hb1); clear hown1 hb1 hg1)
      | (at_builtin; refine wpList_append_Own (o := ⟨some 34, _, _, _, _, _⟩) rfl (Operand.tmp 29) (Operand.tmp 33) rfl B _ _ rfl (HO1.out.alloc _) _ [n] rfl (lit_bs2 _ _ [_] _ 1 1 rfl (Nat.le_refl 1) _ (by simp)) (by simp; omega) (by simp at hs1 ⊢; omega) ?_; intro v2 w2 hown2 hb2; have HO2 := Lib.hid hown2; have HB2 := Lib.hid ((HB1.out.alloc (by simp at hs1; omega) _).trans hb2); clear hown2 hb2))
    go_ret
    exact ⟨_, rfl, HO2.out.eq (by simp [keyV, body]), HB2.out⟩
  · simp [vld, k0, k1, k2, k3] at hx
end Go.Proofs.YtkajpcjmcpollaaDoor
