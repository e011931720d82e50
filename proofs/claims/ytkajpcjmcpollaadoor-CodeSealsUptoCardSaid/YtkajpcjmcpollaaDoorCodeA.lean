import Derived.Test.YtkajpcjmcpollaaDoorCode9
import Derived.WalkKit
import Derived.ProofKit
import Derived.BigQuiet
import Derived.Deep.QuietTactic
import Derived.WalkSpells
import Derived.WalkLawsBesides
import Derived.Lib.Hide
import Derived.Deep.MidRow
import Derived.Deep.RegionLaw
import Derived.BigRegion
import Derived.Lib.SlBytesConst
import Derived.Laws.AppendOwnNone
import Derived.Deep.DeepMust
import Derived.Deep.AppendLies
import Derived.RegionTactic
import Derived.Deep.WholeRow
import Derived.BigFrame
import Derived.Deep.RegionWith
import Derived.Deep.RegionHeld3
import Derived.Maps.RangeWalk
import Derived.Laws.CopyOwn
import Derived.StillTailTactics
namespace Go.Proofs.YtkajpcjmcpollaaDoor
open Go.RowKit
attribute [local go_sem ↓] convC_eq
theorem joined_shaOf_len (l : List Int) : (dg 8 l.length ++ l ++ shaOf l).length = 40 + l.length := by
  simp only [List.length_append, dg_len, shaOf_len]; omega
theorem opn_seal (l r : List Int) (hl : l.length < 18446744073709551616) : opn (dg 8 l.length ++ l ++ shaOf l ++ r) = .ok l r := by
  have h8 := dg_len 8 l.length
  have h32 := shaOf_len l
  have hb := beI_dg 8 l.length (by omega)
  generalize dg 8 l.length = A at *
  generalize hS : shaOf l = S at *
  have ht : (A ++ l ++ S ++ r).take 8 = A := by
    rw [List.append_assoc, List.append_assoc, List.take_append_of_le_length (by omega), List.take_of_length_le (by omega)]
  have hd : (A ++ l ++ S ++ r).drop 8 = l ++ (S ++ r) := by
    rw [List.append_assoc, List.append_assoc, List.drop_append_of_le_length (by omega), List.drop_of_length_le (by omega), List.nil_append]
  have hlen : (A ++ l ++ S ++ r).length = 40 + l.length + r.length := by simp only [List.length_append]; omega
  rw [opn, if_neg (by omega), ht, hb, if_neg (by omega), ← List.drop_drop, hd, show 40 + l.length = 8 + (l.length + 32) by omega, ← List.drop_drop, hd]
  rw [List.take_left, List.drop_left, hS, List.take_append_of_le_length (by omega), List.take_of_length_le (by omega), if_pos rfl]
  rw [List.drop_append, List.drop_of_length_le (by omega), List.nil_append, show l.length + 32 - l.length = 32 by omega, List.drop_append_of_le_length (by omega), List.drop_of_length_le (by omega), List.nil_append]
theorem opn_cut (l : List Int) (k : Nat) (hl : l.length < 18446744073709551616) (hk : k < 40 + l.length) : opn ((dg 8 l.length ++ l ++ shaOf l).take k) = .short := by
  have hlen := joined_shaOf_len l
  have h8 := dg_len 8 l.length
  have hb := beI_dg 8 l.length (by omega)
  by_cases h40 : k < 40
  · rw [opn, if_pos (by rw [List.length_take]; omega)]
  · have ht : ((dg 8 l.length ++ l ++ shaOf l).take k).take 8 = dg 8 l.length := by
      rw [List.take_take, Nat.min_eq_left (by omega), List.append_assoc, List.take_append_of_le_length (by omega), List.take_of_length_le (by omega)]
    rw [opn, if_neg (by rw [List.length_take]; omega), ht, hb, if_pos (by rw [List.length_take]; omega)]
theorem Rw.lit {w : World} {T : TypeId} (rs : List Val) {cs : Array Value} {fr : Nat × Nat} (hcs : cs = (rs.flatMap vcells).toArray) {n c : Nat} (hn : rs.length = n) (hc : n ≤ c) {H : Nat} (hH : w.heap.size = H) : Rw (w.alloc (.cells cs T fr)) (.slice (some ⟨H, 0, none⟩) n c) rs := by
  subst hH hn hcs
  refine ⟨some ⟨w.heap.size, 0, none⟩, c, rfl, ⟨hc, fun e => by cases e⟩, fun _ => ⟨w.heap.size, 0, rfl, by simp, fun i x hx => ?_⟩⟩
  have h0 := heap_alloc_new w (.cells (rs.flatMap vcells).toArray T fr)
  have hcell : ∀ j, j < 3 → (w.alloc (.cells (rs.flatMap vcells).toArray T fr)).cell? ⟨w.heap.size, 0 + (i * 3 + j), none⟩ = (vcells x)[j]? := fun j hj => by
    rw [cell_of_row _ _ _ _ _ _ h0, Nat.zero_add, List.getElem?_toArray]
    exact flatMap_get rs i x j hx hj
  exact ⟨hcell 0 (by omega), hcell 1 (by omega), hcell 2 (by omega)⟩
def fixRow : List Val := [⟨2, 0, [97]⟩, ⟨3, 1, []⟩]
theorem fixRow_ok : ∀ x ∈ fixRow, x.OK ∧ x.s.length ≤ 1099511627776 := by
  intro x hx
  simp only [fixRow, List.mem_cons, List.not_mem_nil, or_false] at hx
  rcases hx with rfl | rfl
  · exact ⟨⟨fun y hy => by simp at hy; omega, by decide, by decide, by decide, by decide⟩, by simp⟩
  · exact ⟨⟨fun y hy => by simp at hy, by decide, by decide, by decide, by decide⟩, by simp⟩
theorem fixRow_all : fixRow.all vld = true := by decide
theorem fixRow_key : keyR fixRow = [3, 97, 0, 1, 4, 1] := by decide
theorem fixRow_rows : rows [3, 97, 0, 1, 4, 1] = .ok fixRow := by
  rw [← fixRow_key]
  exact rows_key _ fun x hx => ⟨List.all_eq_true.1 fixRow_all x hx, (fixRow_ok x hx).1⟩
theorem fix_bad : rows [1, 5] = .err 5 1 := by simp [rows, rowsF, one, RR.app]
theorem fix_minus : keyV ⟨1, -1, []⟩ = [2, 127, 255, 255, 255, 255, 255, 255, 255] := by decide +kernel
set_option maxRecDepth 100000 in
set_option maxHeartbeats 2000000 in
theorem fixed_any (w : World) (hK : KC w) : Calls Tryd.prog 9 #[] w fun e w' => e = .returned (.bool true) ∧ Below w.heap.size w w' := by
  have hz := zero32
  have kc := fun (w : World) (C : Array Value) (n c : Nat) => Lib.run_convert_bytes_const (P := Tryd.prog) w 25 5 C n c Tryd.underlying25 Tryd.underlying5
  have HK := Lib.hid hK
  clear hK
  go_enter Tryd.func9, Tryd.ntmps9
  go_wp2_with fail
  refine (key_any _ fixRow _ (Rw.lit fixRow (by rfl) rfl (Nat.le_refl 2) rfl) fixRow_ok (by decide)).mono ?_
  rintro e w1 ⟨hb1, hp1⟩
  rw [if_pos fixRow_all, fixRow_key] at hp1
  obtain ⟨v1, rfl, hown1⟩ := hp1
  have B1 := Lib.hid (((Below.refl w.heap.size w).alloc (Nat.le_refl _) _).trans (hb1.mono (by simp)))
  have O1 := Lib.hid hown1
  have s1 := B1.out.size
  clear hb1 hown1
  go_wp2_with fail
  refine (value_any ⟨1, -1, []⟩ w1 ⟨fun y hy => by simp at hy, by decide, by decide, by decide, by decide⟩ (by simp)).mono ?_
  rintro e w2 ⟨hb2, hp2⟩
  rw [if_pos (by decide), fix_minus] at hp2
  obtain ⟨v2, C2, rfl, hown2⟩ := hp2
  have B2 := Lib.hid (B1.out.trans (hb2.mono s1))
  have O2 := Lib.hid hown2
  have O12 := Lib.hid (O1.out.below hb2 (Nat.le_refl _))
  have s2 := B2.out.size
  clear hb2 hown2
  go_wp2_with fail
  refine (value_any ⟨3, 2, []⟩ w2 ⟨fun y hy => by simp at hy, by decide, by decide, by decide, by decide⟩ (by simp)).mono ?_
  rintro e w3 ⟨hb3, hp3⟩
  rw [if_neg (by decide)] at hp3
  obtain rfl := hp3
  have B3 := Lib.hid (B2.out.trans (hb3.mono s2))
  have O13 := Lib.hid (O12.out.below hb3 (Nat.le_refl _))
  have O23 := Lib.hid (O2.out.below hb3 (Nat.le_refl _))
  have s3 := B3.out.size
  clear hb3
  go_wp2_with fail
  refine (row_any _ [3, 97, 0, 1, 4, 1] _ (lit_bs w3 _ [3, 97, 0, 1, 4, 1] (0, 0) 6 6 rfl (Nat.le_refl 6)) (by intro x hx; simp at hx; omega) (by decide)).mono ?_
  rintro e w4 ⟨hb4, hp4⟩
  rw [fixRow_rows] at hp4
  obtain ⟨v4, rfl, hown4⟩ := hp4
  obtain ⟨ra, rcap, rfl, hrc, hrcell⟩ := hown4.rw
  obtain ⟨rb, ro, rfl, hrb, hrcell⟩ := hrcell (by decide)
  have hrc0 := (hrcell 0 _ rfl).2.2
  rw [Nat.zero_mul, Nat.add_zero] at hrc0
  have b34 := ((Below.refl w3.heap.size w3).alloc (Nat.le_refl _) (.cells ([3, 97, 0, 1, 4, 1].map (Value.int .u8)).toArray 5)).trans (hb4.mono (by simp))
  have B4 := Lib.hid (B3.out.trans (b34.mono s3))
  have O14 := Lib.hid (O13.out.below b34 (Nat.le_refl _))
  have O24 := Lib.hid (O23.out.below b34 (Nat.le_refl _))
  have R4 := Lib.hid (And.intro hrb hrc0)
  have s4 := B4.out.size
  clear hb4 hown4 b34 hrcell hrc hrb hrc0
  go_wp2_with fail
  refine (row_any _ [1, 5] _ (lit_bs w4 _ [1, 5] (0, 0) 2 2 rfl (Nat.le_refl 2)) (by intro x hx; simp at hx; omega) (by decide)).mono ?_
  rintro e w5 ⟨hb5, hp5⟩
  rw [fix_bad] at hp5
  obtain rfl := hp5
  have b45 := ((Below.refl w4.heap.size w4).alloc (Nat.le_refl _) (.cells ([1, 5].map (Value.int .u8)).toArray 5)).trans (hb5.mono (by simp))
  have B5 := Lib.hid (B4.out.trans (b45.mono s4))
  have O15 := Lib.hid (O14.out.below b45 (Nat.le_refl _))
  have O25 := Lib.hid (O24.out.below b45 (Nat.le_refl _))
  have R5 := Lib.hid (And.intro (Nat.lt_of_lt_of_le R4.out.1 b45.size) ((b45.cell (p := ⟨rb, ro + 2, none⟩) R4.out.1).trans R4.out.2))
  have s5 := B5.out.size
  clear hb5 b45
  go_wp2_with fail
  refine (seal_any _ [97, 98] _ (lit_bs w5 _ [97, 98] (2, 3) 2 2 rfl (Nat.le_refl 2)) (HK.out.below (B5.out.alloc s5 _) HK.out.1) (by decide)).mono ?_
  rintro e w6 ⟨v6, rfl, hown6, hb6⟩
  have b56 := ((Below.refl w5.heap.size w5).alloc (Nat.le_refl _) (.cells ([97, 98].map (Value.int .u8)).toArray 5 (2, 3))).trans (hb6.mono (by simp))
  have B56 := Lib.hid b56
  have OB6 := Lib.hid (hown6.base (show w5.heap.size ≤ _ from by simp))
  have s56' := b56.size
  have h6 : (dg 8 ([97, 98] : List Int).length ++ [97, 98] ++ shaOf [97, 98]).length = 42 := by rw [joined_shaOf_len]; rfl
  have H6 := Lib.hid h6
  clear hb6 hown6 b56 h6
  go_wp2_with (at_builtin; refine wpList_append_Own rfl (Operand.tmp 48) (Operand.tmp 49) rfl w5.heap.size _ _ rfl ((OB6.out).alloc _) _ [99] rfl (lit_bs2 _ _ [_] _ 1 1 rfl (Nat.le_refl 1) _ rfl) (by rw [H6.out]; decide) (by simp; omega) ?_; intro v7 w7 hown7 hb7; have OO7 := Lib.hid hown7; have HB7 := Lib.hid hb7; clear hown7 hb7)
  have b57 := (B56.out.alloc (by omega) _).trans HB7.out
  have B7 := Lib.hid (B5.out.trans (b57.mono s5))
  have O17 := Lib.hid (O15.out.below b57 (Nat.le_refl _))
  have O27 := Lib.hid (O25.out.below b57 (Nat.le_refl _))
  have R7 := Lib.hid (And.intro (Nat.lt_of_lt_of_le R5.out.1 b57.size) ((b57.cell (p := ⟨rb, ro + 2, none⟩) R5.out.1).trans R5.out.2))
  have s7 := B7.out.size
  have hrng : Rng (dg 8 ([97, 98] : List Int).length ++ [97, 98] ++ shaOf [97, 98] ++ [99]) := by
    intro x hx
    rcases List.mem_append.1 hx with hx | hx
    · rcases List.mem_append.1 hx with hx | hx
      · rcases List.mem_append.1 hx with hx | hx
        · exact dg_rng _ _ x hx
        · simp at hx; omega
      · exact sha_rng _ x hx
    · simp at hx; omega
  refine (open_any v7 _ w7 OO7.out.bs hrng (HK.out.below B7.out HK.out.1) (by rw [List.length_append, H6.out]; decide)).mono ?_
  rintro e w8 ⟨hb8, hp8⟩
  rw [opn_seal [97, 98] [99] (by decide)] at hp8
  obtain ⟨x1, x2, rfl, hx1, hx2⟩ := hp8
  have B8 := Lib.hid (B7.out.trans (hb8.mono s7))
  have c1 := conv_bs (O17.out.below hb8 (Nat.le_refl _)).bs
  have c2 := conv_bs (O27.out.below hb8 (Nat.le_refl _)).bs
  have c3 := conv_bs hx1.bs
  have c4 := conv_bs hx2.bs
  have c5 := (hb8.cell (p := ⟨rb, ro + 2, none⟩) R7.out.1).trans R7.out.2
  rw [show str [3, 97, 0, 1, 4, 1] = ⟨#[3, 97, 0, 1, 4, 1]⟩ from rfl] at c1
  rw [show str [2, 127, 255, 255, 255, 255, 255, 255, 255] = ⟨#[2, 127, 255, 255, 255, 255, 255, 255, 255]⟩ from rfl] at c2
  rw [show str [97, 98] = ⟨#[97, 98]⟩ from rfl] at c3
  rw [show str [99] = ⟨#[99]⟩ from rfl] at c4
  rw [show str [97] = ⟨#[97]⟩ from rfl] at c5
  clear hb8 b57 hx1 hx2
  go_wp2_with fail
  go_ret
  exact ⟨rfl, B8.out⟩
end Go.Proofs.YtkajpcjmcpollaaDoor
