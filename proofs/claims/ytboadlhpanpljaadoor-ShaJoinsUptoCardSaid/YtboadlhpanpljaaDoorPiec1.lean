import Derived.Test.YtboadlhpanpljaaDoorRefA
import Derived.Test.YtboadlhpanpljaaDoorRow0
import Derived.WalkKit
import Derived.ProofKit
import Derived.BigQuiet
import Derived.Deep.QuietTactic
import Derived.WalkSpells
import Derived.WalkLawsBesides
import Derived.Lib.Hide
import Derived.Deep.MidRow
import Derived.Deep.RegionLaw
import Derived.BigRegion
import Derived.Laws.AppendOwnNone
import Derived.Deep.DeepMust
import Derived.Deep.AppendLies
import Derived.RegionTactic
import Derived.Deep.WholeRow
import Derived.BigFrame
import Derived.Deep.RegionWith
import Derived.Deep.RegionHeld3
import Derived.Maps.RangeWalk
import Derived.Laws.CopyOwn
import Derived.StillTailTactics
namespace Go.Proofs.YtboadlhpanpljaaDoor
open Go.RowKit
def neq25 (x y : Value) : Sem Value := binOp .neq 25 x y
theorem neq25_eq (x y : Value) : binOp .neq 25 x y = neq25 x y := rfl
theorem run_neq25 (w : World) (xs ys : List Int) (hx : xs.length = 32) (hy : ys.length = 32) : (neq25 (.agg (ArrU8 xs)) (.agg (ArrU8 ys))).run Tryd.prog w = .ok (.bool (!decide (xs = ys))) w := by
  have h := run_eql25 w xs ys hx hy
  have e1 : ((do pure (Value.bool (← Op.equal 25 (.agg (ArrU8 xs)) (.agg (ArrU8 ys)))) : Sem Value)).run Tryd.prog w = .ok (.bool (decide (xs = ys))) w := h
  show ((do pure (Value.bool (!(← Op.equal 25 (.agg (ArrU8 xs)) (.agg (ArrU8 ys))))) : Sem Value)).run Tryd.prog w = _
  simp only [Sem.run_bind, Sem.run_pure] at e1 ⊢
  cases h2 : (Op.equal 25 (.agg (ArrU8 xs)) (.agg (ArrU8 ys))).run Tryd.prog w with
  | ok b w' =>
    rw [h2] at e1
    simp only [Result.andThen_ok] at e1 ⊢
    injection e1 with e1 e2
    injection e1 with e1
    rw [e1, e2]
  | halt a w' =>
    rw [h2] at e1
    cases e1
attribute [local go_sem ↓] convC_eq eql25_eq neq25_eq
theorem flat_take (ps : List (List Int)) (k : Nat) (h : k < ps.length) : (ps.take (k + 1)).flatten = (ps.take k).flatten ++ ps[k]?.getD [] := by
  rw [take_succ_ps ps k h]
  simp
theorem flat_len (ps : List (List Int)) : ps.flatten.length ≤ jlen ps := by
  induction ps with
  | nil => simp
  | cons p ps ih => simp only [List.flatten_cons, List.length_append, jlen]; omega
theorem flat_take_len (ps : List (List Int)) (k : Nat) : (ps.take k).flatten.length ≤ jlen ps := Nat.le_trans (flat_len _) (jlen_take_le ps k)
theorem slice_of_own {w : World} {B T s n : Nat} {v : Value} {xs : List Value} (h : w.ownsRow B T s v n xs) : ∃ a c, v = .slice a n c ∧ (0 < n → ∃ g, a = some ⟨g, 0, none⟩ ∧ n ≤ c) := by
  rcases h.2 with ⟨rfl, h0⟩ | ⟨g, cap, cur, rfl, hg, hh, hle, _⟩
  · subst h0; exact ⟨_, _, rfl, fun h => by omega⟩
  · exact ⟨_, _, rfl, fun _ => ⟨g, rfl, hle⟩⟩
set_option maxRecDepth 100000 in
set_option maxHeartbeats 4000000 in
theorem pieces_walk (v : Value) (ps : List (List Int)) (w : World) (hv : Pss w v ps) (hK : KC w) (hj : jlen ps ≤ 16777216) :
    Calls Tryd.prog 5 #[v] w fun e w' => e = .returned (.bool true) ∧ Below w.heap.size w w' := by
  obtain ⟨i0, hi, hz0, hz1, hz2⟩ := info_parts info5
  have HV := Lib.hid hv
  have HK := Lib.hid hK
  obtain ⟨a, cap, rfl, hcap, hcells⟩ := hv
  have hge := jlen_ge ps
  have hcl := hcap.1
  generalize hn : ps.length = n at *
  have HN := Lib.hid hn
  have HC := Lib.hid hcells
  have HCAP := Lib.hid hcap
  clear hn hcells hK hcap
  have hk0 := HK.out.1
  go_enter Tryd.func5, Tryd.ntmps5
  go_wp2_with fail
  refine (fixed_any w HK.out).mono ?_
  rintro e w1 ⟨rfl, hb1⟩
  have hs1 := hb1.size
  have B1 := Lib.hid hb1
  clear hb1
  go_wp2_with fail
  refine (new_any w1).mono ?_
  rintro e w2 ⟨rfl, hw2⟩
  have hh2 : HashAt 60 w2 w1.heap.size [] := by rw [hw2]; exact hash_new
  have hb2 : Below w1.heap.size w1 w2 := by rw [hw2]; exact (Below.refl _ _).alloc (Nat.le_refl _) _
  have hs2 : w2.heap.size = w1.heap.size + 1 := by rw [hw2]; simp
  generalize hL : w1.heap.size = L at *
  have hwl : w.heap.size ≤ L := hs1
  have hL2 : L < w2.heap.size := by omega
  have HH2 := Lib.hid hh2
  have B2 := Lib.hid (B1.out.trans (hb2.mono hs1))
  clear hw2 hh2 hb2 hs2 hs1 B1 hL
  go_wp2_with (first
    | (refine wpList_build_empty (o := ⟨some 11, _, _, _, _, _⟩) rfl 22 5 1 rfl build22 ?_; intro v4 w3 ho3 hb3 hob hs3; have HO3 := Lib.hid ho3; have HB3 := Lib.hid hb3; clear ho3 hb3 hob hs3)
    | fail)
  have hh3 := Lib.hid (hash_below HH2.out HB3.out hL2)
  have hb3 : Below w.heap.size w w3 := B2.out.trans (HB3.out.mono (by omega))
  have BW3 := Lib.hid hb3
  have hs3 := HB3.out.size
  clear hb3 B2 HH2
  go_loopw [4, 5] (fun va iv wx => ∃ i : Nat, i ≤ n ∧ iv = .int .i64 i ∧ wx.ownsRow (L + 1) 5 1 va (ps.take i).flatten.length ((ps.take i).flatten.map (Value.int .u8)) ∧ HashAt 60 wx L (ps.take i).flatten ∧ Below w.heap.size w wx ∧ L < wx.heap.size) (fun _ iv _ => n - (intOf iv).toNat)
  case atStart => exact ⟨0, Nat.zero_le _, rfl, own_lower HO3.out (by omega), hh3.out, BW3.out, by omega⟩
  case round =>
    clear HO3 HB3 hh3 BW3 hs3 hL2
    obtain ⟨i, hin, rfl, ho, hh, hbx, hlx⟩ := hrel
    have HO := Lib.hid ho
    have HH := Lib.hid hh
    have HBX := Lib.hid hbx
    have hfl := flat_take_len ps i
    have hsx := hbx.size
    clear ho hh hbx
    by_cases hlt : i < n
    · obtain ⟨b, off, rfl, hbw, hc⟩ := HC.out (by omega)
      obtain ⟨x, hx, hxb⟩ := hc i hlt
      have cx := (HBX.out.cell (p := ⟨b, off + i, none⟩) hbw).trans hx
      have hft := flat_take ps i (by rw [HN.out]; exact hlt)
      have hfl2 := flat_take_len ps (i + 1)
      have hpl : (ps[i]?.getD []).length ≤ 16777216 := by rw [hft, List.length_append] at hfl2; omega
      have HXB := Lib.hid hxb
      have hxc := Lib.hid hx
      have hii : (i : Int) < (n : Int) := by omega
      have hni : (n : Int) ≤ (cap : Int) := by omega
      generalize hP : ps[i]?.getD [] = p at *
      generalize hF : (ps.take i).flatten = F at *
      have HFT := Lib.hid hft
      clear hc hx hxb hft hP hF
      go_wp2_with (first
        | (refine wpList_build_empty (o := ⟨some 18, _, _, _, _, _⟩) rfl 22 5 1 rfl build22 ?_; intro v18 w3 ho3 hb3 hob hs3; have HO3 := Lib.hid ho3; have HB3 := Lib.hid hb3; have HOB := Lib.hid hob; have cx3 := (hb3.cell (p := ⟨b, off + i, none⟩) (by show b < wr.heap.size; omega)).trans cx; have hs3' : wr.heap.size ≤ w3.heap.size := hb3.size; clear ho3 hb3 hob hs3)
        | (at_builtin; refine wpList_append_bs (o := ⟨some 23, _, _, _, _, _⟩) rfl (Operand.tmp 18) (Operand.tmp 22) 22 rfl wr.heap.size 5 i0 Tryd.underlying22 hi hz0 hz1 hz2 v18 0 [] rfl HO3.out x p rfl (HXB.out.below (HBX.out.trans (HB3.out.mono hsx))) (by omega) hs3' ?_; intro v23 w4 hown4 hg4; have HO4 := Lib.hid hown4; have hb4 := HB3.out.grown hg4 hs3' (fun g hg => by rw [HOB.out] at hg; injection hg with hg; omega); have HB4 := Lib.hid hb4; clear hown4 hg4 hb4)
        | fail)
      have hown4 := HO4.out
      rw [Nat.zero_add, List.nil_append] at hown4
      have hlt4 : ∀ g, v23.ownBlock = some g → wr.heap.size ≤ g ∧ g < w4.heap.size := fun g hg => hown4.lt g hg
      have bw4 : Below w.heap.size w w4 := HBX.out.trans (HB4.out.mono hsx)
      refine (write_bs L F p v23 w4 (Bs_of_own hown4) (hash_below HH.out HB4.out hlx) (by omega) (HK.out.below bw4 hk0) (fun hl a len cap e he => by have h1 := hlt4 a.block (by rw [e]; rfl); omega) (by omega)).mono ?_
      rintro e w5 ⟨rfl, hh5, hg5⟩
      have ho5 := hown4.kept hg5 (by cases hv : v23.ownBlock with | none => exact .inl rfl | some g => right; have := hlt4 g hv; simp; omega)
      have HO5 := Lib.hid ho5
      have HH5 := Lib.hid hh5
      have HLT4 := Lib.hid hlt4
      have hz5 := hg5.size
      have hz4 := HB4.out.size
      have hb5 : Below L wr w5 := (HB4.out.mono (by omega)).trans ⟨hg5.os, hg5.tape, hg5.output, hg5.size, fun k hk => hg5.block k (by omega) (by simp; omega)⟩
      have hall5 := (HO.out.kept (row := none) ⟨HB4.out.os, HB4.out.tape, HB4.out.output, HB4.out.size, fun k hk _ => HB4.out.block k hk⟩ (by cases hv : u4.ownBlock with | none => exact .inl rfl | some g => exact .inr (by simp))).kept hg5 (by cases hv : u4.ownBlock with | none => exact .inl rfl | some g => right; have := (HO.out.lt g hv).1; simp; omega)
      have HALL5 := Lib.hid hall5
      have HBL5 := Lib.hid hb5
      obtain ⟨oa, oc, hv23, hform⟩ := slice_of_own hown4
      subst hv23
      clear hown4 hlt4 bw4 ho5 hh5 hg5 hb5 hall5 HO4 HB4 HO3 HB3 HOB hs3' cx3 cx
      go_wp2_with fail
      obtain ⟨wo, hwo⟩ : ∃ wo : World, wo = wr := ⟨_, rfl⟩
      rw [← hwo] at HO HH HBX HO5 HLT4 HBL5 hz4 hlx hsx
      have hww := Lib.hid hwo
      clear hwo
      go_loopw [7] (fun kv wx => ∃ (k : Nat) (xs : List Value), k ≤ p.length ∧ kv = .int .i64 k ∧ wx.ownsRow wo.heap.size 5 1 (.slice oa p.length oc) p.length xs ∧ w5.grownBy wx (Value.slice oa p.length oc).ownBlock) (fun kv _ => p.length - (intOf kv).toNat)
      case atStart => exact ⟨0, _, Nat.zero_le _, rfl, HO5.out, World.grownBy.refl _ _⟩
      case round =>
        obtain ⟨k, xs, hk, rfl, hox, hgx⟩ := hrel
        by_cases hkl : k < p.length
        · obtain ⟨g, rfl, hoc⟩ := hform (by omega)
          have hxl := hox.1
          have hcell := hox.cellAt k (by omega)
          obtain ⟨old, hold⟩ : ∃ old, xs[k]? = some old := ⟨_, List.getElem?_eq_getElem (by omega)⟩
          rw [hold] at hcell
          have hfr := hox.frozenAt k
          have hki : (k : Int) < (p.length : Int) := by omega
          have hoci : (p.length : Int) ≤ (oc : Int) := by omega
          have hst := hox.stored k (.int .u8 7)
          have HST := Lib.hid hst
          have HGX := Lib.hid hgx
          clear hst hgx hox hxl hold
          go_wp2
          exact ⟨⟨k + 1, _, by omega, by go_num, HST.out.1, grownBy_trans HGX.out HST.out.2⟩, by simp [intOf]; omega⟩
        · have hkp : (p.length : Int) ≤ (k : Int) := by omega
          have hnb : ∀ q, q < wo.heap.size → wr.heap[q]? = w5.heap[q]? := fun q hq => hgx.block q (by omega) (by
            intro he
            have := (HLT4.out q he.symm).1
            omega)
          have hb6 : Below L wo wr := HBL5.out.trans ⟨hgx.os, hgx.tape, hgx.output, hgx.size, fun q hq => hnb q (by omega)⟩
          have hh6 : HashAt 60 wr L (F ++ p) := by
            obtain ⟨bl, h1, h2, h3⟩ := HH5.out
            exact ⟨bl, (hnb L hlx).trans h1, h2, h3⟩
          have hall6 := HALL5.out.kept hgx (by
            cases hv : u4.ownBlock with
            | none => exact .inl rfl
            | some g =>
              right
              intro he
              have h1 := (HO.out.lt g hv).2
              have h2 := (HLT4.out g he.symm).1
              omega)
          have bw6 : Below w.heap.size w wr := HBX.out.trans (hb6.mono (by omega))
          have cx6 := (bw6.cell (p := ⟨b, off + i, none⟩) hbw).trans hxc.out
          have xb6 := HXB.out.below bw6
          have hs6 : L < wr.heap.size := by have := hb6.size; omega
          have HH6 := Lib.hid hh6
          have HALL6 := Lib.hid hall6
          have BW6 := Lib.hid bw6
          have XB6 := Lib.hid xb6
          clear hgx hox hnb hb6 hh6 hall6 bw6 xb6 HALL5 HH5 HBL5 HO5 HO HH HBX hform HLT4
          go_wp2_with (at_builtin; refine wpList_append_bs (o := ⟨some 41, _, _, _, _, _⟩) rfl (Operand.tmp 36) (Operand.tmp 40) 22 rfl (L + 1) 5 i0 Tryd.underlying22 hi hz0 hz1 hz2 u4 F.length _ rfl HALL6.out x p rfl XB6.out (by omega) (by omega) ?_; intro v41 w7 hown7 hg7; have HO7 := Lib.hid hown7; have HG7 := Lib.hid hg7; clear hown7 hg7)
          have hl41 : ∀ g, u4.ownBlock = some g → L + 1 ≤ g := fun g hg => (HALL6.out.lt g hg).1
          have hb7 : Below (L + 1) wr w7 := ⟨HG7.out.os, HG7.out.tape, HG7.out.output, HG7.out.size, fun q hq => HG7.out.block q (by omega) (fun he => by have := hl41 q he.symm; omega)⟩
          have hh7 := hash_below HH6.out hb7 (by omega)
          have bw7 : Below w.heap.size w w7 := BW6.out.trans (hb7.mono (by omega))
          have ho7 := HO7.out
          rw [← List.map_append, ← List.length_append, ← HFT.out] at ho7
          rw [← HFT.out] at hh7
          have hs7 : L < w7.heap.size := by have := hb7.size; omega
          have HH7 := Lib.hid hh7
          have BW7 := Lib.hid bw7
          have HO7b := Lib.hid ho7
          clear hb7 hh7 bw7 ho7 hl41 HG7 HO7 HALL6 HH6 BW6 XB6 cx6
          refine (hashSum_any L _ w7 HH7.out (HK.out.below BW7.out hk0).1 (HK.out.below BW7.out hk0).2 (by omega)).mono ?_
          rintro e w8 ⟨rfl, hb8⟩
          have hz7 := BW7.out.size
          have HH8 := Lib.hid (hash_below HH7.out hb8 hs7)
          have BW8 := Lib.hid (BW7.out.trans (hb8.mono hz7))
          have HO8 := Lib.hid (HO7b.out.kept (row := none) ⟨hb8.os, hb8.tape, hb8.output, hb8.size, fun k hk _ => hb8.block k hk⟩ (by cases hv : v41.ownBlock with | none => exact .inl rfl | some g => exact .inr (by simp)))
          have hs8 : L < w8.heap.size := Nat.lt_of_lt_of_le hs7 hb8.size
          clear hb8 HH7 HO7b
          go_wp2_with fail
          refine (sum_any v41 _ w8 (Bs_of_own HO8.out) (HK.out.below BW8.out hk0) (by omega)).mono ?_
          rintro e w9 ⟨rfl, hb9⟩
          have hz8 := BW8.out.size
          have HH9 := Lib.hid (hash_below HH8.out hb9 hs8)
          have BW9 := Lib.hid (BW8.out.trans (hb9.mono hz8))
          have HO9 := Lib.hid (HO8.out.kept (row := none) ⟨hb9.os, hb9.tape, hb9.output, hb9.size, fun k hk _ => hb9.block k hk⟩ (by cases hv : v41.ownBlock with | none => exact .inl rfl | some g => exact .inr (by simp)))
          have hs9 : L < w9.heap.size := Nat.lt_of_lt_of_le hs8 hb9.size
          have q1 : ∀ u : World, (neq25 (.agg (ArrU8 (sha (ps.take (i + 1)).flatten))) (.agg (ArrU8 (sha (ps.take (i + 1)).flatten)))).run Tryd.prog u = .ok (.bool false) u := fun u => by
            rw [run_neq25 u _ _ (by simp [sha, dig, S8.list]) (by simp [sha, dig, S8.list])]; simp
          clear hb9 HH8 HO8 BW7 BW8
          generalize sha (ps.take (i + 1)).flatten = D at *
          go_wp2
          exact ⟨⟨i + 1, by omega, by go_num, HO9.out, HH9.out, BW9.out, hs9⟩, by simp [intOf]; omega⟩
    · obtain rfl : i = n := by omega
      have hfe : ps.take i = ps := List.take_of_length_le (by rw [HN.out]; exact Nat.le_refl _)
      rw [hfe] at HO HH hfl
      clear hfe
      go_wp2_with fail
      refine (hashSum_any L _ wr HH.out (HK.out.below HBX.out hk0).1 (HK.out.below HBX.out hk0).2 (by omega)).mono ?_
      rintro e w8 ⟨rfl, hb8⟩
      have BW8 := Lib.hid (HBX.out.trans (hb8.mono hsx))
      have HO8 := Lib.hid (HO.out.kept (row := none) ⟨hb8.os, hb8.tape, hb8.output, hb8.size, fun k hk _ => hb8.block k hk⟩ (by cases hv : u4.ownBlock with | none => exact .inl rfl | some g => exact .inr (by simp)))
      have hz8 := BW8.out.size
      clear hb8
      go_wp2_with fail
      refine (refSum_any u4 _ w8 (Bs_of_own HO8.out) (by omega)).mono ?_
      rintro e w9 ⟨rfl, hb9⟩
      have BW9 := Lib.hid (BW8.out.trans (hb9.mono hz8))
      have q1 : ∀ u : World, (eql25 (.agg (ArrU8 (sha ps.flatten))) (.agg (ArrU8 (sha ps.flatten)))).run Tryd.prog u = .ok (.bool true) u := fun u => by
        rw [run_eql25 u _ _ (by simp [sha, dig, S8.list]) (by simp [sha, dig, S8.list])]; simp
      clear hb9
      generalize sha ps.flatten = D at *
      go_wp2
      go_ret
      exact ⟨rfl, BW9.out⟩
end Go.Proofs.YtboadlhpanpljaaDoor
