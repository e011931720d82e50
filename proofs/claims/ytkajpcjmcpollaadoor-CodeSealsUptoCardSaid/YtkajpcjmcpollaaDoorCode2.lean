import Derived.Test.YtkajpcjmcpollaaDoorCode1
import Derived.Lib.ConvBytes
import Derived.Maps.AppendAt
import Derived.WalkKit
import Derived.ProofKit
import Derived.BigQuiet
import Derived.Deep.QuietTactic
import Derived.WalkSpells
import Derived.WalkLawsBesides
import Derived.Lib.Hide
import Derived.Deep.MidRow
import Derived.Deep.RegionLaw
import Derived.BigRegion
import Derived.Lib.SlBytesConst
import Derived.Laws.AppendOwnNone
import Derived.Deep.DeepMust
import Derived.Deep.AppendLies
import Derived.RegionTactic
import Derived.Deep.WholeRow
import Derived.BigFrame
import Derived.Deep.RegionWith
import Derived.Deep.RegionHeld3
import Derived.Maps.RangeWalk
import Derived.Laws.CopyOwn
import Derived.StillTailTactics
namespace Go.Proofs.YtkajpcjmcpollaaDoor
open Go.RowKit
theorem wpList_append_Own_at {ops : Array Oper} {rest : List Oper} {o : Oper} {a : Act} {w : World} {Q : Exit → Act → World → Prop} (hgd : o.guard = none) (s x : Operand)
    (ho : o.op = .call { callee := .builtin .append, args := #[s, x], argTypes := #[25, 25] }) (B : Nat)
    (v : Value) (l : List Int) (hs : a.eval s = v) (hown : Own w B v l) (v2 : Value) (m : List Int) (hx : a.eval x = v2) (hbs : Bs w v2 m) (h63 : l.length + m.length ≤ 1099511627776) (hbase : B ≤ w.heap.size)
    (h : ∀ v' w', Own w' B v' (l ++ m) → Below B w w' → w.grownBy w' v.ownBlock → (v'.ownBlock = v.ownBlock ∨ v'.ownBlock = some w.heap.size) → wpList Tryd.prog ops Q rest (a.put o.dst v') w') : wpList Tryd.prog ops Q (o :: rest) a w := by
  obtain ⟨i0, hi, hz0, hz1, hz2⟩ := info_parts info5
  obtain ⟨ad, cap, rfl, hcap, hc⟩ := hbs
  cases ad with
  | none =>
    have h0 : cap = 0 := hcap.2 rfl
    have h1 : m = [] := List.eq_nil_of_length_eq_zero (by omega)
    subst h0 h1
    refine wpList_append_own_none hgd s x 25 ho B 5 i0 1 Tryd.underlying25 hi v l.length _ hs hown hx ?_
    exact h v w (by simpa using hown) (Below.refl _ _) (World.grownBy.refl _ _) (.inl rfl)
  | some ad =>
    refine wpList_append_own_at w hgd s x 25 ho B 5 i0 (.int .u8 0) 1 1 Tryd.underlying25 hi hz0 hz1 hz2 rfl (by decide) v l.length _ hs hown ad m.length cap (m.map (Value.int .u8)) hx (by simp) ?_ (by intro v hv; obtain ⟨x, _, rfl⟩ := List.mem_map.1 hv; rfl) (by unfold maxLen; omega) (by omega) hbase (fun v' w' h1 h2 _ h4 => h v' w' ?_ ?_ h2 h4)
    · intro q u hu
      rw [List.getElem?_map, Option.map_eq_some_iff] at hu
      obtain ⟨y, hy, rfl⟩ := hu
      have hq : q < m.length := (List.getElem?_eq_some_iff.1 hy).1
      obtain ⟨pb, po, e1, e2, e3⟩ := hc (by omega)
      injection e1 with e1
      have e4 := e3 q hq
      rw [hy] at e4
      rw [e1, Addr.add_mid]
      exact e4
    · unfold Own; rw [List.length_append, List.map_append]; exact h1
    · exact (Below.refl _ _).grown h2 hbase (fun g hg => (hown.lt g hg).1)
theorem str_get (s : List Int) (j : Nat) (hr : Rng s) (hj : j < s.length) : (((str s).data.toList.getD j 0).toNat : Int) = s[j]?.getD 0 := by
  have h := hr.get j
  simp only [str, List.getD, List.getElem?_map, List.getElem?_eq_getElem hj, Option.map_some, Option.getD_some] at h ⊢
  rw [UInt8.toNat_ofNat']
  omega
theorem conv_sb (w : World) (s : List Int) (hr : Rng s) : ∃ W1 c, (convert 9 25 (.string (str s))).run Tryd.prog w = .ok (.slice (some ⟨w.heap.size, 0, none⟩) s.length c) W1 ∧ Below w.heap.size w W1 ∧
    W1.heap.size = w.heap.size + 1 ∧ ∀ j, j < s.length → W1.cell? ⟨w.heap.size, j, none⟩ = some (.int .u8 (s[j]?.getD 0)) := by
  have h := Lib.run_convert_string_bytes (P := Tryd.prog) w 9 25 5 (str s) (u := .string) Tryd.underlying9 Tryd.underlying25 Tryd.underlying5
  rw [str_len] at h
  refine ⟨_, _, h, ⟨rfl, rfl, rfl, by rw [Lib.bytesWorld_size]; omega, fun k hk => Lib.bytesWorld_at_old _ _ _ _ hk⟩, Lib.bytesWorld_size _ _ _, fun j hj => ?_⟩
  rw [Lib.bytesWorld_cell _ _ _ _ (by rw [str_len]; exact hj), str_get s j hr hj]
theorem esc_take_succ (s : List Int) (k : Nat) (h : k < s.length) : esc (s.take (k + 1)) = esc (s.take k) ++ (if s[k]?.getD 0 = 0 then [0, 255] else [s[k]?.getD 0]) := by
  rw [List.take_succ_eq_append_getElem h, esc_append, List.getElem?_eq_getElem h]
  simp only [Option.getD_some, esc]
set_option maxHeartbeats 800000 in
theorem appendText_any (v : Value) (l s : List Int) (B : Nat) (w : World) (hown : Own w B v l) (hB : B ≤ w.heap.size) (hn : l.length + 2 * s.length ≤ 1099511627700) (hr : Rng s) :
    Calls Tryd.prog 36 #[v, .string (str s)] w fun e w' => ∃ v', e = .returned v' ∧ Own w' B v' (l ++ (esc s ++ [0, 1])) ∧ Below B w w' := by
  obtain ⟨W1, c, hcv, b1, hs1, hc1⟩ := conv_sb w s hr
  have HO := Lib.hid (hown.below b1 (Nat.le_refl _))
  have hne : v.ownBlock ≠ some w.heap.size := fun e => Nat.lt_irrefl _ (hown.lt _ e).2
  have HNE := Lib.hid hne
  have hsz1 : B ≤ W1.heap.size := by omega
  have B1 := Lib.hid (b1.mono hB)
  have HC1 := Lib.hid hc1
  have HS1 := Lib.hid hs1
  generalize hH : w.heap.size = H at *
  have HH := Lib.hid hH
  clear hown hc1 hne b1 hH hs1
  go_enter Tryd.func36, Tryd.ntmps36
  go_wp2_with fail
  clear hcv
  go_loopw [0, 10] (fun v0 i wr => ∃ k : Nat, k ≤ s.length ∧ i = .int .i64 k ∧ Own wr B v0 (l ++ esc (s.take k)) ∧ Below B w wr ∧ v0.ownBlock ≠ some H ∧ H < wr.heap.size ∧ ∀ j, j < s.length → wr.cell? ⟨H, j, none⟩ = some (.int .u8 (s[j]?.getD 0))) (fun _ i _ => s.length - (intOf i).toNat)
  case atStart => exact ⟨0, Nat.zero_le _, rfl, by simpa [esc] using HO.out, B1.out, HNE.out, by rw [HS1.out]; omega, HC1.out⟩
  case round =>
    obtain ⟨k, hk, rfl, hown, hbw, hnb, hH, hc⟩ := hrel
    have hsz := hbw.size
    have HBW := Lib.hid hbw
    have HOW := Lib.hid hown
    have HNB := Lib.hid hnb
    have HC := Lib.hid hc
    have hel := esc_len_le (s.take k)
    have htl : (s.take k).length ≤ k := List.length_take_le _ _
    by_cases hlt : k < s.length
    · have hck := hc k hlt
      have hx := hr.get k
      have HES := Lib.hid (esc_take_succ s k hlt)
      generalize hX : s[k]?.getD 0 = x at *
      clear hbw hown hnb hc hX
      have hst : ∀ (v1 : Value) (w1 : World), Below B (wr.alloc (.cells #[.int .u8 x] 5)) w1 → (wr.alloc (.cells #[.int .u8 x] 5)).grownBy w1 u0.ownBlock → (v1.ownBlock = u0.ownBlock ∨ v1.ownBlock = some (wr.alloc (.cells #[.int .u8 x] 5)).heap.size) →
          Below B w w1 ∧ v1.ownBlock ≠ some H ∧ H < w1.heap.size ∧ ∀ j, j < s.length → w1.cell? ⟨H, j, none⟩ = some (.int .u8 (s[j]?.getD 0)) := by
        intro v1 w1 hb hg hat
        refine ⟨(HBW.out.alloc (by omega) _).trans hb, ?_, ?_, fun j hj => ?_⟩
        · rcases hat with h | h
          · rw [h]; exact HNB.out
          · rw [h]; simp; omega
        · have := hg.size; simp at this; omega
        · refine (World.cell?_of_block (hg.block H (by simp; omega) (fun e => HNB.out e.symm))).trans ?_
          exact (World.cell?_alloc_lt wr _ _ (by show H < _; omega)).trans (HC.out j hj)
      have HST := Lib.hid hst
      clear hst
      by_cases h0 : x = 0
      · have hx0 : (x == 0) = true := by simpa using h0
        have H0 := Lib.hid h0
        clear h0
        go_wp2_with (first
          | (at_builtin; refine wpList_append_Own_at (o := ⟨some 17, _, _, _, _, _⟩) rfl (Operand.tmp 14) (Operand.tmp 16) rfl B _ (l ++ esc (s.take k)) rfl (HOW.out.alloc _) _ [x] rfl (lit_bs wr _ [_] _ 1 1 rfl (Nat.le_refl 1)) (by simp; omega) (by simp; omega) ?_; intro v1 w1 hown1 hb1 hg1 hat1; have HO1 := Lib.hid hown1; have HI1 := Lib.hid (HST.out v1 w1 hb1 hg1 hat1); have hs1 := (HST.out v1 w1 hb1 hg1 hat1).2.2.1; clear hown1 hb1 hg1 hat1)
          | (at_builtin; refine wpList_append_Own_at (o := ⟨some 22, _, _, _, _, _⟩) rfl (Operand.tmp 20) (Operand.tmp 21) rfl B _ _ rfl (HO1.out.alloc _) _ [255] rfl (lit_bs w1 _ [_] _ 1 1 rfl (Nat.le_refl 1)) (by simp; omega) (by simp; omega) ?_; intro v2 w2 hown2 hb2 hg2 hat2; have HO2 := Lib.hid hown2; have HG2 := Lib.hid hg2; have HB2 := Lib.hid hb2; have HA2 := Lib.hid hat2; clear hown2 hb2 hg2 hat2))
        go_roundw
        case rel =>
          obtain ⟨i1, i2, i3, i4⟩ := HI1.out
          refine ⟨k + 1, by omega, by go_num, HO2.out.eq ?_, (i1.alloc (by omega) _).trans HB2.out, ?_, ?_, fun j hj => ?_⟩
          · rw [HES.out, if_pos H0.out, H0.out]; simp
          · rcases HA2.out with h | h
            · rw [h]; exact i2
            · rw [h]; simp; omega
          · have := HG2.out.size; simp at this; omega
          · refine (World.cell?_of_block (HG2.out.block H (by simp; omega) (fun e => i2 e.symm))).trans ?_
            exact (World.cell?_alloc_lt w1 _ _ (by show H < _; omega)).trans (i4 j hj)
        case measure => simp [intOf]; omega
      · have hx0 : (x == 0) = false := by simpa using h0
        go_wp2_with (at_builtin; refine wpList_append_Own_at rfl (Operand.tmp 14) (Operand.tmp 16) rfl B _ (l ++ esc (s.take k)) rfl (HOW.out.alloc _) _ [x] rfl (lit_bs wr _ [_] _ 1 1 rfl (Nat.le_refl 1)) (by simp; omega) (by simp; omega) ?_; intro v1 w1 hown1 hb1 hg1 hat1; have HO1 := Lib.hid hown1; have HI1 := Lib.hid (HST.out v1 w1 hb1 hg1 hat1); have hs1 := (HST.out v1 w1 hb1 hg1 hat1).2.2.1; clear hown1 hb1 hg1 hat1)
        go_roundw
        case rel =>
          obtain ⟨i1, i2, i3, i4⟩ := HI1.out
          refine ⟨k + 1, by omega, by go_num, HO1.out.eq ?_, i1, i2, i3, i4⟩
          rw [HES.out, if_neg h0]; simp
        case measure => simp [intOf]; omega
    · have hks : s.take k = s := List.take_of_length_le (by omega)
      rw [hks] at HOW
      have hes := esc_len_le s
      have hk2 : s.length ≤ k := by omega
      clear hks hbw hown hnb hc hlt
      go_wp2_with (at_builtin; refine wpList_append_Own rfl (Operand.tmp 24) (Operand.tmp 25) rfl B _ (l ++ esc s) rfl (HOW.out.alloc _) _ [0, 1] rfl (lit_bs wr _ [_, _] _ 2 2 rfl (Nat.le_refl 2)) (by simp; omega) (by simp; omega) ?_; intro v1 w1 hown1 hb1; have HO1 := Lib.hid hown1; have HB1 := Lib.hid hb1; clear hown1 hb1)
      go_ret
      exact ⟨_, rfl, HO1.out.eq (by simp), (HBW.out.alloc (by omega) _).trans HB1.out⟩
end Go.Proofs.YtkajpcjmcpollaaDoor
