import Derived.Test.YtboadlhpanpljaaDoorJoin7
import Derived.Deep.Cut
import Derived.Deep.CutRange
import Derived.WalkKit
import Derived.ProofKit
import Derived.BigQuiet
import Derived.Deep.QuietTactic
import Derived.WalkSpells
import Derived.WalkLawsBesides
import Derived.Lib.Hide
import Derived.Deep.MidRow
import Derived.Deep.RegionLaw
import Derived.BigRegion
import Derived.Laws.AppendOwnNone
import Derived.Deep.DeepMust
import Derived.Deep.AppendLies
import Derived.RegionTactic
import Derived.Deep.WholeRow
import Derived.BigFrame
import Derived.Deep.RegionWith
import Derived.Deep.RegionHeld3
import Derived.Maps.RangeWalk
import Derived.Laws.CopyOwn
import Derived.StillTailTactics
namespace Go.Proofs.YtboadlhpanpljaaDoor
open Go.RowKit
attribute [local go_sem ↓] convC_eq eql25_eq neq25_eq
theorem ownsRow_below {w w' : World} {B e size n : Nat} {v : Value} {xs : List Value} (h : w.ownsRow B e size v n xs) (hb : Below w.heap.size w w') : w'.ownsRow B e size v n xs :=
  h.kept (row := none) ⟨hb.os, hb.tape, hb.output, hb.size, fun k hk _ => hb.block k hk⟩ (by cases hv : v.ownBlock with | none => exact .inl rfl | some g => exact .inr (by simp))
theorem PartOK.below {B E n : Nat} {w w' : World} {x : Value} (h : PartOK B E w x n) (hb : Below E w w') : PartOK B E w' x n := by
  rcases h with h | ⟨g', cap, cur, rfl, h1, h2, h3, h4, h5, h6⟩
  · exact .inl h
  · exact .inr ⟨g', cap, cur, rfl, h1, h2, (hb.block g' h2).trans h3, h4, h5, h6⟩
set_option maxRecDepth 100000 in
set_option maxHeartbeats 40000000 in
theorem joins_walk (v1 v2 : Value) (ps : List (List Int)) (cs : List Int) (w : World) (h1 : Pss w v1 ps) (h2 : Bs w v2 cs) (r1 : ∀ p ∈ ps, Rng p) (r2 : Rng cs)
    (hK : KC w) (j1 : jlen ps ≤ 16777216) (j2 : cs.length ≤ 16777216) :
    Calls Tryd.prog 4 #[v1, v2] w fun e w' => e = .returned (.bool true) ∧ Below w.heap.size w w' := by
  have H1 := Lib.hid h1
  have H2 := Lib.hid h2
  have R1 := Lib.hid r1
  have R2 := Lib.hid r2
  have HK := Lib.hid hK
  have hk0 := hK.1
  clear h1 h2 r1 r2 hK
  go_enter Tryd.func4, Tryd.ntmps4
  go_wp2_with fail
  refine (fixed_any w HK.out).mono ?_
  rintro e w1 ⟨rfl, b1⟩
  have B1 := Lib.hid b1
  have s1 := b1.size
  clear b1
  go_wp2_with fail
  refine (join_any v1 ps w1 (H1.out.below B1.out) (by omega)).mono ?_
  rintro e w2 ⟨vj, rfl, hj, b2⟩
  have BJ := Lib.hid (Bs_of_own hj)
  have B2 := Lib.hid (B1.out.trans (b2.mono s1))
  have s2 := B2.out.size
  clear hj b2
  go_wp2_with fail
  refine (split_all v2 cs w2 (H2.out.below B2.out) R2.out (by omega)).mono ?_
  rintro e w3 ⟨b3, vl, rfl, hol⟩
  have BJ3 := Lib.hid (BJ.out.below b3)
  have B3 := Lib.hid (B2.out.trans (b3.mono s2))
  have HL := Lib.hid hol
  have s3 := B3.out.size
  have s23 := b3.size
  clear b3 hol BJ
  go_wp2_with fail
  refine (refSplit_all v2 cs w3 (H2.out.below B3.out) R2.out (by omega)).mono ?_
  rintro e w4 ⟨b4, vk, rfl, hok⟩
  have BJ4 := Lib.hid (BJ3.out.below b4)
  have B4 := Lib.hid (B3.out.trans (b4.mono s3))
  have HL4 := Lib.hid (HL.out.below b4 (Nat.le_refl _))
  have HKs := Lib.hid hok
  have s4 := B4.out.size
  have s34 := b4.size
  have HB34 := Lib.hid b4
  clear b4 hok BJ3
  have MR := Lib.hid (parts_rng R2.out)
  have hml : (parts cs).length ≤ 1099511627776 := by have := jlen_ge (parts cs); have := parts_jlen R2.out; omega
  have c13 : ∀ u, Below w4.heap.size w4 u → Calls Tryd.prog 13 #[v1] u fun e w' => ∃ v', e = .returned v' ∧ (convC v').run Tryd.prog w' = .ok (.string (str (joined ps))) w' ∧ Below u.heap.size u w' := fun u hu => by
    refine (refJoin_any v1 ps u ((H1.out.below B4.out).below hu) (by omega)).mono ?_
    rintro e w8 ⟨v', rfl, hown, hb⟩
    exact ⟨v', rfl, conv_bs (Bs_of_own hown), hb⟩
  have c14 : ∀ u, Below w4.heap.size w4 u → Calls Tryd.prog 14 #[vl, vk] u fun e w' => e = .returned (.bool true) ∧ Below u.heap.size u w' := fun u hu => by
    have := same_any vl vk (parts cs) (parts cs) u ((Pss_of_own HL4.out).below hu) ((Pss_of_own HKs.out).below hu) MR.out MR.out hml
    rw [decide_eq_true rfl] at this
    exact this
  have c15 : ∀ u, Below w4.heap.size w4 u → Calls Tryd.prog 15 #[v1] u fun e w' => e = .returned (.agg (ArrU8 (sha (joined ps)))) ∧ Below u.heap.size u w' := fun u hu =>
    of_any v1 ps u ((H1.out.below B4.out).below hu) ((HK.out.below B4.out hk0).below hu (by omega)) (by omega)
  have c16 : ∀ u, Below w4.heap.size w4 u → Calls Tryd.prog 16 #[v1] u fun e w' => e = .returned (.agg (ArrU8 (sha (joined ps)))) ∧ Below u.heap.size u w' := fun u hu =>
    refOf_any v1 ps u ((H1.out.below B4.out).below hu) (by omega)
  have cj : ∀ u, Below w4.heap.size w4 u → (convC vj).run Tryd.prog u = .ok (.string (str (joined ps))) u := fun u hu => conv_bs (BJ4.out.below hu)
  have q1 : ∀ u : World, (neq25 (.agg (ArrU8 (sha (joined ps)))) (.agg (ArrU8 (sha (joined ps))))).run Tryd.prog u = .ok (.bool false) u := fun u => by
    rw [run_neq25 u _ _ (by simp [sha, dig, S8.list]) (by simp [sha, dig, S8.list])]; simp
  generalize str (joined ps) = SJ at *
  generalize sha (joined ps) = D at *
  have C13 := Lib.hid c13
  have C14 := Lib.hid c14
  have C15 := Lib.hid c15
  have C16 := Lib.hid c16
  have CJ := Lib.hid cj
  have BD4 := Lib.hid (show Below w4.heap.size w4 w4.drew from (Below.refl _ _).drew)
  have cj4 := cj w4.drew BD4.out
  clear c13 c14 c15 c16 cj
  generalize (splitL cs).isSome = okb at *
  have hbb : (okb != okb) = false := by simp
  go_upto_region 6 with (fail)
  go_cut [51] from 28 (fun s51 wc => s51 = .bool false ∧ Hid (Below w4.heap.size w4 wc))
  case rest =>
    obtain ⟨rfl, hbc⟩ := hcut
    have HBC := Lib.hid hbc.out
    clear hbc C13 C14 C15 C16 CJ BD4 cj4 q1 hbb BJ4
    have hl5 := HL4.out.below HBC.out (Nat.le_refl _)
    have hk5 := HKs.out.below HBC.out (Nat.le_refl _)
    have b5 : Below w.heap.size w wc := B4.out.trans (HBC.out.mono s4)
    obtain ⟨la, lc, rfl, _⟩ : ∃ la lc, vl = .slice la (parts cs).length lc ∧ True := by
      obtain ⟨xs, hx, _⟩ := hl5
      obtain ⟨a, c, h, _⟩ := slice_of_own hx
      exact ⟨a, c, h, trivial⟩
    have b3c : Below w3.heap.size w3 wc := HB34.out.trans (HBC.out.mono s34)
    obtain ⟨xs, hx1, hx2⟩ := HL.out
    have hM : Mut w2.heap.size w3.heap.size wc wc (.slice la (parts cs).length lc) (parts cs) xs := by
      refine ⟨rfl, rfl, rfl, Nat.le_refl _, fun _ _ => rfl, ownsRow_below hx1 b3c, fun i hi => ?_⟩
      obtain ⟨x, a, b, c⟩ := hx2 i hi
      exact ⟨x, a, (PartOK.of_own b).below b3c, c⟩
    have hpl : ∀ i : Nat, ((parts cs)[i]?.getD []).length ≤ 1099511627776 := fun i => by
      by_cases hi : i < (parts cs).length
      · have h1 := jlen_take_le (parts cs) (i + 1)
        have h2 := jlen_take (parts cs) i hi
        have h3 := parts_jlen R2.out
        omega
      · rw [List.getElem?_eq_none (by omega)]; exact Nat.zero_le _
    have HM := Lib.hid hM
    have HPL := Lib.hid hpl
    have B5 := Lib.hid b5
    have HK5 := Lib.hid hk5
    clear hM hpl b5 hk5 hl5 b3c hx1 hx2
    go_wp2_with fail
    refine loopJ _ w2.heap.size w3.heap.size lc la wc (parts cs) xs HM.out hml HPL.out ?_
    intro x10 x11 x52 x53 x54 x55 x56 x57 x58 x59 x60 x61 x62 x63 x64 x65 x66 x67 x68 x69 x70 x71 x72 x73 x74 x75 w10 hM10
    have b10 : Below w.heap.size w w10 := B5.out.trans ⟨hM10.os, hM10.tape, hM10.output, hM10.size, fun q hq => hM10.keep q (.inl (by omega))⟩
    have hk10 := HK5.out.same (fun q hq => hM10.keep q (.inr hq))
    have B10 := Lib.hid b10
    have HK10 := Lib.hid hk10
    have s10 := b10.size
    clear hM10 b10 hk10
    go_wp2_with fail
    refine (split_all v2 cs w10 (H2.out.below B10.out) R2.out (by omega)).mono ?_
    rintro e w11 ⟨b11, vl2, rfl, hol2⟩
    have HL2 := Lib.hid (Pss_of_own hol2)
    have HK11 := Lib.hid ((Pss_of_own HK10.out).below b11)
    have B11 := Lib.hid (B10.out.trans (b11.mono s10))
    have s11 := B11.out.size
    clear b11 hol2
    go_wp2_with fail
    refine (same_any vl2 vk (parts cs) (parts cs) w11 HL2.out HK11.out MR.out MR.out hml).mono ?_
    rintro e w12 ⟨rfl, b12⟩
    have B12 := Lib.hid (B11.out.trans (b12.mono s11))
    clear b12
    go_wp2_with fail
    go_ret
    exact ⟨by simp, B12.out⟩
  case first =>
    clear H1 H2 R1 R2 HK B1 B2 B3 B4 HL HL4 HKs HB34 MR BJ4
    have hsf : ∀ u, Below w4.heap.size w4 u → (Below w4.heap.size w4 u ∧ (convC vj).run Tryd.prog u = .ok (.string SJ) u) := fun u hu => ⟨hu, CJ.out u hu⟩
    have HSF := Lib.hid hsf
    clear hsf
    refine wp_region_held_drew (S := (fun u => Below w4.heap.size w4 u ∧ (convC vj).run Tryd.prog u = .ok (.string SJ) u)) (by kernel_rfl) (HSF.out w4.drew BD4.out) (fun hHeld => ?_)
    refine wpAnyH_take (i := 0) (oi := ({ dst := some 28, op := Op.move (Operand.tmp 5), type := 22, pos := "law.go:51", after := #[], guard := none } : Oper)) (v := ?_) rfl (by kernel_rfl) (by kernel_rfl) (by kernel_rfl) (fun _ _ _ h => h) (Or.inl ⟨by rfl, ?_⟩) (by assumption) ?_
    rotate_left 1
    · (intro w hSw; (try dsimp only at hSw); go_simp; try with_reducible rfl)
    try simp only [Act.put, List.setIfInBounds_toArray, List.set_cons_zero, List.set_cons_succ]
    refine wpAnyH_take (i := 1) (oi := ({ dst := some 29, op := Op.convert 22 9 (Operand.tmp 28), type := 9, pos := "law.go:51", after := #[{ on := 0, ground := Ground.data }], guard := none } : Oper)) (v := ?_) rfl (by kernel_rfl) (by kernel_rfl) (by kernel_rfl) (fun _ _ _ h => h) (Or.inl ⟨by rfl, ?_⟩) (by assumption) ?_
    rotate_left 1
    · (intro w hSw; (try dsimp only at hSw); go_simp; try with_reducible rfl)
    try simp only [Act.put, List.setIfInBounds_toArray, List.set_cons_zero, List.set_cons_succ]
    refine wpAnyH_take (i := 2) (oi := ({ dst := some 30, op := Op.move (Operand.tmp 0), type := 29, pos := "law.go:51", after := #[], guard := none } : Oper)) (v := ?_) rfl (by kernel_rfl) (by kernel_rfl) (by kernel_rfl) (fun _ _ _ h => h) (Or.inl ⟨by rfl, ?_⟩) (by assumption) ?_
    rotate_left 1
    · (intro w hSw; (try dsimp only at hSw); go_simp; try with_reducible rfl)
    try simp only [Act.put, List.setIfInBounds_toArray, List.set_cons_zero, List.set_cons_succ]
    refine wpAnyH_ready (rs := [3]) (by kernel_rfl) (by simp) ?_
    refine AllReadyH.cons (o := ({ dst := some 31, op := Op.call { callee := Callee.value (Operand.func 13), args := #[Operand.tmp 30], argTypes := #[29] }, type := 22, pos := "law.go:51", after := #[{ on := 2, ground := Ground.data }], guard := none } : Oper)) rfl (fun K hK => ?_) AllReadyH.nil
    go_simp
    go_at_call 13
    refine (C13.out w4.drew BD4.out).mono ?_
    rintro e w5 ⟨v13, rfl, hc13, hb5⟩
    have HB5 := Lib.hid (BD4.out.trans (hb5.mono (by simp)))
    go_wp2_with fail
    refine hK.out _ _ (HSF.out w5 HB5.out) (fun hHeld5 => ?_)
    clear hK K
    try simp only [Act.put, List.setIfInBounds_toArray, List.set_cons_zero, List.set_cons_succ]
    refine wpAnyH_ready (rs := [4]) (by kernel_rfl) (by simp) ?_
    refine AllReadyH.cons (o := ({ dst := some 32, op := Op.convert 22 9 (Operand.tmp 31), type := 9, pos := "law.go:51", after := #[{ on := 3, ground := Ground.data }], guard := none } : Oper)) rfl (fun K hK => ?_) AllReadyH.nil
    go_simp
    refine hK.out _ _ (HSF.out w5 HB5.out) (fun hHeld5b => ?_)
    clear hK K
    try simp only [Act.put, List.setIfInBounds_toArray, List.set_cons_zero, List.set_cons_succ]
    refine wpAnyH_take (i := 5) (oi := ({ dst := some 33, op := Op.binOp BinOp.neq 9 (Operand.tmp 29) (Operand.tmp 32) 9, type := 4, pos := "law.go:51", after := #[{ on := 1, ground := Ground.data }, { on := 4, ground := Ground.data }], guard := none } : Oper)) (v := ?_) rfl (by kernel_rfl) (by kernel_rfl) (by kernel_rfl) (fun _ _ _ h => h) (Or.inl ⟨by rfl, ?_⟩) (by assumption) ?_
    rotate_left 1
    · (intro w hSw; (try dsimp only at hSw); go_simp; try with_reducible rfl)
    try simp only [Act.put, List.setIfInBounds_toArray, List.set_cons_zero, List.set_cons_succ]
    refine wpAnyH_take (i := 6) (oi := ({ dst := some 34, op := Op.move (Operand.tmp 33), type := 4, pos := "law.go:51", after := #[{ on := 5, ground := Ground.data }, { on := 3, ground := Ground.chain }], guard := none } : Oper)) (v := ?_) rfl (by kernel_rfl) (by kernel_rfl) (by kernel_rfl) (fun _ _ _ h => h) (Or.inl ⟨by rfl, ?_⟩) (by assumption) ?_
    rotate_left 1
    · (intro w hSw; (try dsimp only at hSw); go_simp; try with_reducible rfl)
    try simp only [Act.put, List.setIfInBounds_toArray, List.set_cons_zero, List.set_cons_succ]
    refine wpAnyH_take (i := 7) (oi := ({ dst := some 35, op := Op.move (Operand.tmp 7), type := 4, pos := "law.go:51", after := #[{ on := 6, ground := Ground.guard }], guard := some (6, false) } : Oper)) (v := ?_) rfl (by kernel_rfl) (by kernel_rfl) (by kernel_rfl) (fun _ _ _ h => h) (Or.inl ⟨by rfl, ?_⟩) (by assumption) ?_
    rotate_left 1
    · (intro w hSw; (try dsimp only at hSw); go_simp; try with_reducible rfl)
    try simp only [Act.put, List.setIfInBounds_toArray, List.set_cons_zero, List.set_cons_succ]
    refine wpAnyH_take (i := 8) (oi := ({ dst := some 36, op := Op.move (Operand.tmp 9), type := 4, pos := "law.go:51", after := #[{ on := 6, ground := Ground.guard }], guard := some (6, false) } : Oper)) (v := ?_) rfl (by kernel_rfl) (by kernel_rfl) (by kernel_rfl) (fun _ _ _ h => h) (Or.inl ⟨by rfl, ?_⟩) (by assumption) ?_
    rotate_left 1
    · (intro w hSw; (try dsimp only at hSw); go_simp; try with_reducible rfl)
    try simp only [Act.put, List.setIfInBounds_toArray, List.set_cons_zero, List.set_cons_succ]
    refine wpAnyH_take (i := 9) (oi := ({ dst := some 37, op := Op.binOp BinOp.neq 4 (Operand.tmp 35) (Operand.tmp 36) 4, type := 4, pos := "law.go:51", after := #[{ on := 7, ground := Ground.data }, { on := 8, ground := Ground.data }, { on := 6, ground := Ground.guard }], guard := some (6, false) } : Oper)) (v := ?_) rfl (by kernel_rfl) (by kernel_rfl) (by kernel_rfl) (fun _ _ _ h => h) (Or.inl ⟨by rfl, ?_⟩) (by assumption) ?_
    rotate_left 1
    · (intro w hSw; (try dsimp only at hSw); go_simp; try with_reducible rfl)
    try simp only [Act.put, List.setIfInBounds_toArray, List.set_cons_zero, List.set_cons_succ]
    refine wpAnyH_take (i := 10) (oi := ({ dst := some 38, op := Op.pick (Operand.tmp 34) (Operand.const (Value.bool true)) (Operand.tmp 37), type := 4, pos := "law.go:51", after := #[{ on := 6, ground := Ground.data }, { on := 9, ground := Ground.data }], guard := none } : Oper)) (v := ?_) rfl (by kernel_rfl) (by kernel_rfl) (by kernel_rfl) (fun _ _ _ h => h) (Or.inl ⟨by rfl, ?_⟩) (by assumption) ?_
    rotate_left 1
    · (intro w hSw; (try dsimp only at hSw); go_simp; try with_reducible rfl)
    try simp only [Act.put, List.setIfInBounds_toArray, List.set_cons_zero, List.set_cons_succ]
    refine wpAnyH_take (i := 11) (oi := ({ dst := some 39, op := Op.move (Operand.tmp 38), type := 4, pos := "law.go:51", after := #[{ on := 10, ground := Ground.data }, { on := 6, ground := Ground.chain }], guard := none } : Oper)) (v := ?_) rfl (by kernel_rfl) (by kernel_rfl) (by kernel_rfl) (fun _ _ _ h => h) (Or.inl ⟨by rfl, ?_⟩) (by assumption) ?_
    rotate_left 1
    · (intro w hSw; (try dsimp only at hSw); go_simp; try with_reducible rfl)
    try simp only [Act.put, List.setIfInBounds_toArray, List.set_cons_zero, List.set_cons_succ]
    refine wpAnyH_take (i := 12) (oi := ({ dst := some 40, op := Op.move (Operand.tmp 6), type := 29, pos := "law.go:51", after := #[{ on := 11, ground := Ground.guard }], guard := some (11, false) } : Oper)) (v := ?_) rfl (by kernel_rfl) (by kernel_rfl) (by kernel_rfl) (fun _ _ _ h => h) (Or.inl ⟨by rfl, ?_⟩) (by assumption) ?_
    rotate_left 1
    · (intro w hSw; (try dsimp only at hSw); go_simp; try with_reducible rfl)
    try simp only [Act.put, List.setIfInBounds_toArray, List.set_cons_zero, List.set_cons_succ]
    refine wpAnyH_take (i := 13) (oi := ({ dst := some 41, op := Op.move (Operand.tmp 8), type := 29, pos := "law.go:51", after := #[{ on := 11, ground := Ground.guard }], guard := some (11, false) } : Oper)) (v := ?_) rfl (by kernel_rfl) (by kernel_rfl) (by kernel_rfl) (fun _ _ _ h => h) (Or.inl ⟨by rfl, ?_⟩) (by assumption) ?_
    rotate_left 1
    · (intro w hSw; (try dsimp only at hSw); go_simp; try with_reducible rfl)
    try simp only [Act.put, List.setIfInBounds_toArray, List.set_cons_zero, List.set_cons_succ]
    refine wpAnyH_ready (rs := [14]) (by kernel_rfl) (by simp) ?_
    refine AllReadyH.cons (o := ({ dst := some 42, op := Op.call { callee := Callee.value (Operand.func 14), args := #[Operand.tmp 40, Operand.tmp 41], argTypes := #[29, 29] }, type := 4, pos := "law.go:51", after := #[{ on := 12, ground := Ground.data }, { on := 13, ground := Ground.data }, { on := 11, ground := Ground.chain }, { on := 11, ground := Ground.guard }], guard := some (11, false) } : Oper)) rfl (fun K hK => ?_) AllReadyH.nil
    go_simp
    go_at_call 14
    refine (C14.out w5 HB5.out).mono ?_
    rintro e w6 ⟨rfl, hb6⟩
    have HB6 := Lib.hid (HB5.out.trans (hb6.mono HB5.out.size))
    go_wp2_with fail
    refine hK.out _ _ (HSF.out w6 HB6.out) (fun hHeld6 => ?_)
    clear hK K
    try simp only [Act.put, List.setIfInBounds_toArray, List.set_cons_zero, List.set_cons_succ]
    refine wpAnyH_take (i := 15) (oi := ({ dst := some 43, op := Op.unOp UnOp.not 4 (Operand.tmp 42), type := 4, pos := "law.go:51", after := #[{ on := 14, ground := Ground.data }, { on := 11, ground := Ground.guard }], guard := some (11, false) } : Oper)) (v := ?_) rfl (by kernel_rfl) (by kernel_rfl) (by kernel_rfl) (fun _ _ _ h => h) (Or.inl ⟨by rfl, ?_⟩) (by assumption) ?_
    rotate_left 1
    · (intro w hSw; (try dsimp only at hSw); go_simp; try with_reducible rfl)
    try simp only [Act.put, List.setIfInBounds_toArray, List.set_cons_zero, List.set_cons_succ]
    refine wpAnyH_take (i := 16) (oi := ({ dst := some 44, op := Op.pick (Operand.tmp 39) (Operand.const (Value.bool true)) (Operand.tmp 43), type := 4, pos := "law.go:51", after := #[{ on := 11, ground := Ground.data }, { on := 15, ground := Ground.data }], guard := none } : Oper)) (v := ?_) rfl (by kernel_rfl) (by kernel_rfl) (by kernel_rfl) (fun _ _ _ h => h) (Or.inl ⟨by rfl, ?_⟩) (by assumption) ?_
    rotate_left 1
    · (intro w hSw; (try dsimp only at hSw); go_simp; try with_reducible rfl)
    try simp only [Act.put, List.setIfInBounds_toArray, List.set_cons_zero, List.set_cons_succ]
    refine wpAnyH_take (i := 17) (oi := ({ dst := some 45, op := Op.move (Operand.tmp 44), type := 4, pos := "law.go:51", after := #[{ on := 16, ground := Ground.data }, { on := 14, ground := Ground.chain }], guard := none } : Oper)) (v := ?_) rfl (by kernel_rfl) (by kernel_rfl) (by kernel_rfl) (fun _ _ _ h => h) (Or.inl ⟨by rfl, ?_⟩) (by assumption) ?_
    rotate_left 1
    · (intro w hSw; (try dsimp only at hSw); go_simp; try with_reducible rfl)
    try simp only [Act.put, List.setIfInBounds_toArray, List.set_cons_zero, List.set_cons_succ]
    refine wpAnyH_take (i := 18) (oi := ({ dst := some 46, op := Op.move (Operand.tmp 0), type := 29, pos := "law.go:51", after := #[{ on := 17, ground := Ground.guard }], guard := some (17, false) } : Oper)) (v := ?_) rfl (by kernel_rfl) (by kernel_rfl) (by kernel_rfl) (fun _ _ _ h => h) (Or.inl ⟨by rfl, ?_⟩) (by assumption) ?_
    rotate_left 1
    · (intro w hSw; (try dsimp only at hSw); go_simp; try with_reducible rfl)
    try simp only [Act.put, List.setIfInBounds_toArray, List.set_cons_zero, List.set_cons_succ]
    refine wpAnyH_take (i := 20) (oi := ({ dst := some 48, op := Op.move (Operand.tmp 0), type := 29, pos := "law.go:51", after := #[{ on := 17, ground := Ground.guard }], guard := some (17, false) } : Oper)) (v := ?_) rfl (by kernel_rfl) (by kernel_rfl) (by kernel_rfl) (fun _ _ _ h => h) (Or.inl ⟨by rfl, ?_⟩) (by assumption) ?_
    rotate_left 1
    · (intro w hSw; (try dsimp only at hSw); go_simp; try with_reducible rfl)
    try simp only [Act.put, List.setIfInBounds_toArray, List.set_cons_zero, List.set_cons_succ]
    refine wpAnyH_ready (rs := [19]) (by kernel_rfl) (by simp) ?_
    refine AllReadyH.cons (o := ({ dst := some 47, op := Op.call { callee := Callee.value (Operand.func 15), args := #[Operand.tmp 46], argTypes := #[29] }, type := 25, pos := "law.go:51", after := #[{ on := 18, ground := Ground.data }, { on := 17, ground := Ground.chain }, { on := 17, ground := Ground.guard }], guard := some (17, false) } : Oper)) rfl (fun K hK => ?_) AllReadyH.nil
    · go_simp
      go_at_call 15
      refine (C15.out w6 HB6.out).mono ?_
      rintro e w7 ⟨rfl, hb7⟩
      have HB7 := Lib.hid (HB6.out.trans (hb7.mono HB6.out.size))
      go_wp2_with fail
      refine hK.out _ _ (HSF.out w7 HB7.out) (fun hHeld7 => ?_)
      clear hK K
      try simp only [Act.put, List.setIfInBounds_toArray, List.set_cons_zero, List.set_cons_succ]
      refine wpAnyH_ready (rs := [21]) (by kernel_rfl) (by simp) ?_
      refine AllReadyH.cons (o := ({ dst := some 49, op := Op.call { callee := Callee.value (Operand.func 16), args := #[Operand.tmp 48], argTypes := #[29] }, type := 24, pos := "law.go:51", after := #[{ on := 20, ground := Ground.data }, { on := 19, ground := Ground.chain }, { on := 17, ground := Ground.guard }], guard := some (17, false) } : Oper)) rfl (fun K hK => ?_) AllReadyH.nil
      go_simp
      go_at_call 16
      refine (C16.out w7 HB7.out).mono ?_
      rintro e w8 ⟨rfl, hb8⟩
      have HB8 := Lib.hid (HB7.out.trans (hb8.mono HB7.out.size))
      go_wp2_with fail
      refine hK.out _ _ (HSF.out w8 HB8.out) (fun hHeld8 => ?_)
      clear hK K
      try simp only [Act.put, List.setIfInBounds_toArray, List.set_cons_zero, List.set_cons_succ]
      refine wpAnyH_take (i := 22) (oi := ({ dst := some 50, op := Op.binOp BinOp.neq 25 (Operand.tmp 47) (Operand.tmp 49) 25, type := 4, pos := "law.go:51", after := #[{ on := 19, ground := Ground.data }, { on := 21, ground := Ground.data }, { on := 17, ground := Ground.guard }], guard := some (17, false) } : Oper)) (v := ?_) rfl (by kernel_rfl) (by kernel_rfl) (by kernel_rfl) (fun _ _ _ h => h) (Or.inl ⟨by rfl, ?_⟩) (by assumption) ?_
      rotate_left 1
      · (intro w hSw; (try dsimp only at hSw); go_simp; try with_reducible rfl)
      try simp only [Act.put, List.setIfInBounds_toArray, List.set_cons_zero, List.set_cons_succ]
      refine wpAnyH_take (i := 23) (oi := ({ dst := some 51, op := Op.pick (Operand.tmp 45) (Operand.const (Value.bool true)) (Operand.tmp 50), type := 4, pos := "law.go:51", after := #[{ on := 17, ground := Ground.data }, { on := 22, ground := Ground.data }], guard := none } : Oper)) (v := ?_) rfl (by kernel_rfl) (by kernel_rfl) (by kernel_rfl) (fun _ _ _ h => h) (Or.inl ⟨by rfl, ?_⟩) (by assumption) ?_
      rotate_left 1
      · (intro w hSw; (try dsimp only at hSw); go_simp; try with_reducible rfl)
      try simp only [Act.put, List.setIfInBounds_toArray, List.set_cons_zero, List.set_cons_succ]
      refine wpAnyH_done (by kernel_rfl) ?_ _
      go_wp2_with fail
      go_meet
      case rel => exact ⟨rfl, HB8.out⟩
end Go.Proofs.YtboadlhpanpljaaDoor
