import Derived.Test.YtkajpcjmcpollaaDoorCode7
import Derived.WalkKit
import Derived.ProofKit
import Derived.BigQuiet
import Derived.Deep.QuietTactic
import Derived.WalkSpells
import Derived.WalkLawsBesides
import Derived.Lib.Hide
import Derived.Deep.MidRow
import Derived.Deep.RegionLaw
import Derived.BigRegion
import Derived.Lib.SlBytesConst
import Derived.Laws.AppendOwnNone
import Derived.Deep.DeepMust
import Derived.Deep.AppendLies
import Derived.RegionTactic
import Derived.Deep.WholeRow
import Derived.BigFrame
import Derived.Deep.RegionWith
import Derived.Deep.RegionHeld3
import Derived.Maps.RangeWalk
import Derived.Laws.CopyOwn
import Derived.StillTailTactics
namespace Go.Proofs.YtkajpcjmcpollaaDoor
open Go.RowKit
theorem copied_any (v : Value) (l : List Int) (w : World) (hv : Bs w v l) (hl : l.length ≤ 1099511627776) :
    Calls Tryd.prog 33 #[v] w fun e w' => ∃ v', e = .returned v' ∧ Own w' w.heap.size v' l ∧ Below w.heap.size w w' := by
  have HV := Lib.hid hv
  clear hv
  go_enter Tryd.func33, Tryd.ntmps33
  go_wp2_with (at_builtin; refine wpList_append_Own rfl (Operand.const (Value.slice none 0 0)) (Operand.tmp 3) rfl w.heap.size _ [] rfl (Own.nil _ _) _ l rfl HV.out (by simp; omega) (Nat.le_refl _) ?_; intro v1 w1 hown1 hb1; have HO1 := Lib.hid hown1; have HB1 := Lib.hid hb1; clear hown1 hb1)
  go_ret
  exact ⟨_, rfl, HO1.out.eq (by simp), HB1.out⟩
theorem Pss.one {w : World} {T : TypeId} {v : Value} {l : List Int} {H : Nat} (hH : w.heap.size = H) (h : Bs w v l) : Pss (w.alloc (.cells #[v] T)) (.slice (some ⟨H, 0, none⟩) 1 1) [l] := by
  subst hH
  refine ⟨some ⟨w.heap.size, 0, none⟩, 1, rfl, ⟨Nat.le_refl _, fun e => by cases e⟩, fun _ => ⟨w.heap.size, 0, rfl, by simp, fun i hi => ?_⟩⟩
  have hi0 : i = 0 := by simp at hi; omega
  subst hi0
  have h0 : (w.alloc (.cells #[v] T)).heap[w.heap.size]? = some (.cells #[v] T (0, 0)) := heap_alloc_new _ _
  exact ⟨v, cell_of_row _ _ 0 _ _ _ h0, h.below ((Below.refl _ _).alloc (Nat.le_refl _) _)⟩
theorem wpList_store_new {P : Program} {ops : Array Oper} {rest : List Oper} {o : Oper} {a : Act} {w0 : World} {Q : Exit → Act → World → Prop} (hgd : o.guard = none) (ty : TypeId) (x y : Operand) (ho : o.op = .store ty x y)
    (H : Nat) (cells : Array Value) (hx : a.eval x = .pointer (some ⟨H, 0, none⟩)) (hy : a.eval y = .agg cells) (hH : w0.heap.size = H)
    (old : Array Value) (T : TypeId) (hi : (P.info? ty).map (·.size) = some cells.size) (hold : old.size = cells.size) (h1 : cells.all (·.oneCell') = true)
    (h : ∀ w', w'.heap[H]? = some (.cells cells T (0, 0)) → Below H w0 w' → w'.heap.size = H + 1 → wpList P ops Q rest (a.put o.dst undef) w') : wpList P ops Q (o :: rest) a (w0.alloc (.cells old T)) := by
  subst hH
  refine wpList_store_row hgd ty x y ho w0.heap.size cells hx hy T old (heap_alloc_new _ _) hi hold h1 (h _ (setRow_heap _ _ _ _ _ _ (heap_alloc_new _ _)) ?_ ?_)
  · exact below_setRow ((Below.refl _ _).alloc (Nat.le_refl _) _) (Nat.le_refl _) _
  · simp [World.setRow]
theorem Bs_of_block {w : World} {H : Nat} {l : List Int} {T : TypeId} (n : Nat) (hn : l.length = n) (h : w.heap[H]? = some (.cells (ArrU8 l) T (0, 0))) : Bs w (.slice (some ⟨H, 0, none⟩) n n) l := by
  subst hn
  have hlt : H < w.heap.size := (Array.getElem?_eq_some_iff.1 h).1
  refine ⟨some ⟨H, 0, none⟩, l.length, rfl, ⟨Nat.le_refl _, fun e => by cases e⟩, fun _ => ⟨H, 0, rfl, hlt, fun i hi => ?_⟩⟩
  rw [cell_of_row w H _ _ _ _ h, Nat.zero_add, ArrU8_get _ _ hi]
theorem Own.base {w : World} {B B' : Nat} {v : Value} {l : List Int} (h : Own w B' v l) (hB : B ≤ B') : Own w B v l :=
  ⟨h.1, h.2.imp id (fun ⟨g, cap, cur, a, b, c⟩ => ⟨g, cap, cur, a, Nat.le_trans hB b, c⟩)⟩
def shaOf (l : List Int) : List Int := sha (joined [l])
theorem shaOf_len (l : List Int) : (shaOf l).length = 32 := by simp [shaOf, sha, dig, S8.list]
set_option maxHeartbeats 1600000 in
theorem seal_any (v : Value) (l : List Int) (w : World) (hv : Bs w v l) (hK : KC w) (hl : l.length ≤ 1073741824) :
    Calls Tryd.prog 19 #[v] w fun e w' => ∃ v', e = .returned v' ∧ Own w' w.heap.size v' (dg 8 l.length ++ l ++ shaOf l) ∧ Below w.heap.size w w' := by
  have HV := Lib.hid hv
  have HK := Lib.hid hK
  obtain ⟨a, cap, rfl, hcap, hcells⟩ := hv
  clear hcells hK
  go_enter Tryd.func19, Tryd.ntmps19
  go_wp2_with fail
  refine (of_any _ [l] _ (Pss.one rfl HV.out) (HK.out.below ((Below.refl w.heap.size _).alloc (Nat.le_refl _) _) HK.out.1) (by simp [jlen]; omega)).mono ?_
  rintro e w1 ⟨rfl, hb1⟩
  have HB1 := Lib.hid (((Below.refl w.heap.size w).alloc (Nat.le_refl _) _).trans (hb1.mono (by simp)))
  change Hid (Below w.heap.size w w1) at HB1
  clear hb1
  rw [show sha (joined [l]) = shaOf l from rfl]
  have HS32 := Lib.hid (show (ArrU8 (shaOf l)).size = 32 by simp [ArrU8, shaOf_len])
  have HI25 := Lib.hid (show (Tryd.prog.info? 55).map (·.size) = some (ArrU8 (shaOf l)).size by rw [HS32.out]; kernel_rfl)
  obtain ⟨i0, hi, hz0, hz1, hz2⟩ := info_parts info5
  go_wp2_with (first
    | (refine wpList_store_new rfl 55 (Operand.tmp 3) (Operand.tmp 7) rfl w1.heap.size (ArrU8 (shaOf l)) rfl rfl rfl _ 55 HI25.out HS32.out.symm (ArrU8_one _) ?_; intro w2 hd2 hb2 hs2; have HD2 := Lib.hid hd2; have HB2 := Lib.hid (HB1.out.trans (hb2.mono HB1.out.size)); have hs2' := HB2.out.size; have HW1 := Lib.hid hs2; clear hd2 hb2 hs2)
    | (refine wpList_make_own _ rfl (Operand.const (.int .i64 0)) (Operand.tmp 10) 25 rfl w2.heap.size 5 i0 (.int .u8 0) 1 Tryd.underlying25 hi hz0 hz1 .i64 .i64 (40 + (l.length : Int)) (40 + l.length) rfl rfl (by omega) (by rw [hz2]; omega) (by unfold maxLen; omega) (Nat.le_refl _) ?_; intro w3 hown3 hg3; have HO3 := Lib.hid hown3; have HG3 := Lib.hid hg3; clear hown3 hg3))
  have hs12 : w1.heap.size < w2.heap.size := by rw [HW1.out]; omega
  have b3 : Below w2.heap.size w2 w3 := ⟨HG3.out.os, HG3.out.tape, HG3.out.output, HG3.out.size, fun q hq => HG3.out.block q hq (by simp)⟩
  have hm : IntKind.u64.wrap (l.length : Int) = ((l.length : Nat) : Int) := by rw [IntKind.wrap_u64]; omega
  refine (appendNumber2_any _ [] w2.heap.size l.length w3 HO3.out b3.size (by simp) (by omega)).mono ?_
  rintro e w4 ⟨v4, rfl, hown4, hb4⟩
  have HO4 := Lib.hid hown4
  have B4 := Lib.hid (b3.trans hb4)
  have hs4 := B4.out.size
  have hd4 := (B4.out.block w1.heap.size hs12).trans HD2.out
  have HBS4 := Lib.hid ((HV.out.below (HB2.out.mono (Nat.le_refl _))).below B4.out)
  have HD4 := Lib.hid hd4
  have h8 := dg_len 8 l.length
  have H8 := Lib.hid h8
  clear hown4 hb4 b3 hd4 HG3 HO3 h8
  go_wp2_with (first
    | (at_builtin; refine wpList_append_Own (o := ⟨some 18, _, _, _, _, _⟩) rfl (Operand.tmp 16) (Operand.tmp 17) rfl w2.heap.size _ _ rfl HO4.out _ l rfl HBS4.out (by simp [H8.out]; omega) hs4 ?_; intro v5 w5 hown5 hb5; have HO5 := Lib.hid hown5; have B5 := Lib.hid (B4.out.trans hb5); have hs5 := B5.out.size; have HD5 := Lib.hid (Bs_of_block 32 (shaOf_len l) ((B5.out.block w1.heap.size hs12).trans HD2.out)); clear hown5 hb5)
    | (at_builtin; refine wpList_append_Own (o := ⟨some 21, _, _, _, _, _⟩) rfl (Operand.tmp 19) (Operand.tmp 20) rfl w2.heap.size _ _ rfl HO5.out _ (shaOf l) rfl HD5.out (by simp [H8.out, shaOf_len]; omega) hs5 ?_; intro v6 w6 hown6 hb6; have HO6 := Lib.hid hown6; have B6 := Lib.hid (B5.out.trans hb6); clear hown6 hb6))
  go_ret
  exact ⟨_, rfl, (HO6.out.eq (by simp)).base hs2', HB2.out.trans (B6.out.mono hs2')⟩
end Go.Proofs.YtkajpcjmcpollaaDoor
