import Derived.Test.YtkajpcjmcpollaaDoorCodeO
import Derived.Test.YtkajpcjmcpollaaDoorCodeL
import Derived.WalkKit
import Derived.ProofKit
import Derived.BigQuiet
import Derived.Deep.QuietTactic
import Derived.WalkSpells
import Derived.WalkLawsBesides
import Derived.Lib.Hide
import Derived.Deep.MidRow
import Derived.Deep.RegionLaw
import Derived.BigRegion
import Derived.Lib.SlBytesConst
import Derived.Laws.AppendOwnNone
import Derived.Deep.DeepMust
import Derived.Deep.AppendLies
import Derived.RegionTactic
import Derived.Deep.WholeRow
import Derived.BigFrame
import Derived.Deep.RegionWith
import Derived.Deep.RegionHeld3
import Derived.Maps.RangeWalk
import Derived.Laws.CopyOwn
import Derived.StillTailTactics
namespace Go.Proofs.YtkajpcjmcpollaaDoor
open Go.RowKit
attribute [local go_sem ↓] convC_eq
def oin : OR → List Int | .ok i _ => i | _ => []
def orest : OR → List Int | .ok _ r => r | _ => []
def oerr : OR → Int | .ok _ _ => 0 | .short => 6 | .sum => 8
theorem Fr.nil (w : World) (B : Nat) : Fr w B (.slice none 0 0) [] := ⟨Bs.nil w, fun h => by simp at h⟩
theorem openPost_fr {l : List Int} {w w' : World} {e : Ending} (h : OpenPost l w e w') : Below w.heap.size w w' ∧ ∃ v1 v2, e = .returned (.tuple #[v1, v2, .int .i64 (oerr (opn l))]) ∧ Fr w' w.heap.size v1 (oin (opn l)) ∧ Fr w' w.heap.size v2 (orest (opn l)) := by
  obtain ⟨hb, hp⟩ := h
  refine ⟨hb, ?_⟩
  cases ho : opn l with
  | short => rw [ho] at hp; exact ⟨_, _, hp, Fr.nil _ _, Fr.nil _ _⟩
  | sum => rw [ho] at hp; exact ⟨_, _, hp, Fr.nil _ _, Fr.nil _ _⟩
  | ok i r => rw [ho] at hp; obtain ⟨v1, v2, he, h1, h2⟩ := hp; exact ⟨v1, v2, he, h1.fr, h2.fr⟩
theorem ropenPost_fr {l : List Int} {w w' : World} {e : Ending} (h : ROpenPost l w e w') : Below w.heap.size w w' ∧ ∃ v1 v2, e = .returned (.tuple #[v1, v2, .int .i64 (oerr (opn l))]) ∧ Fr w' w.heap.size v1 (oin (opn l)) ∧ Fr w' w.heap.size v2 (orest (opn l)) := by
  obtain ⟨hb, hp⟩ := h
  refine ⟨hb, ?_⟩
  cases ho : opn l with
  | short => rw [ho] at hp; exact ⟨_, _, hp, Fr.nil _ _, Fr.nil _ _⟩
  | sum => rw [ho] at hp; exact ⟨_, _, hp, Fr.nil _ _, Fr.nil _ _⟩
  | ok i r => rw [ho] at hp; exact hp
/-- a store into another block than v's -/
theorem Fr.setCell {w : World} {B : Nat} {v : Value} {l : List Int} (h : Fr w B v l) (a : Addr) (x : Value) (hlt : a.block < B) : Fr (w.setCell a x) B v l := by
  refine ⟨?_, h.2⟩
  obtain ⟨⟨ad, cap, rfl, hc, hcell⟩, h2⟩ := h
  refine ⟨ad, cap, rfl, hc, fun h0 => ?_⟩
  obtain ⟨b, off, rfl, hb, hcells⟩ := hcell h0
  have hB := h2 h0 _ _ _ rfl
  refine ⟨b, off, rfl, by simpa [World.setCell] using hb, fun i hi => ?_⟩
  exact (World.cell?_setCell_other w a ⟨b, off + i, none⟩ x (fun e => by have := congrArg Addr.block e; simp at this hB; omega)).trans (hcells i hi)
set_option maxRecDepth 100000 in
set_option maxHeartbeats 6400000 in
theorem seals_walk (v1 : Value) (l : List Int) (w : World) (h1 : Bs w v1 l) (hr : Rng l) (hl : l.length ≤ 1048576) (hK : KC w) :
    Calls Tryd.prog 7 #[v1] w fun e w' => e = .returned (.bool true) ∧ Below w.heap.size w w' := by
  have H1 := Lib.hid h1
  have HR := Lib.hid hr
  have HK := Lib.hid hK
  clear h1 hr hK
  go_enter Tryd.func7, Tryd.ntmps7
  go_wp2_with fail
  refine (fixed_any w HK.out).mono ?_
  rintro e w1 ⟨rfl, b1⟩
  have B1 := Lib.hid b1
  have s1 := b1.size
  clear b1
  go_wp2_with (first
    | (refine wpList_build_empty (o := ⟨some 14, _, _, _, _, _⟩) rfl 25 5 1 rfl buildB ?_; intro v14 w2 ho2 hb2 hob2 hs2; have O2 := Lib.hid (show Own w2 w1.heap.size v14 [] from ho2); have B2 := Lib.hid hb2; have hs2' := hb2.size; clear ho2 hb2 hob2 hs2)
    | (at_builtin; refine wpList_append_Own (o := ⟨some 16, _, _, _, _, _⟩) rfl (Operand.tmp 14) (Operand.tmp 15) rfl w1.heap.size _ [] rfl O2.out _ l rfl ((H1.out.below B1.out).below B2.out) (by simp; omega) hs2' ?_; intro v16 w3 hown3 hb3; have O3 := Lib.hid (show Own w3 w1.heap.size v16 l from hown3); have B3 := Lib.hid (B1.out.trans ((B2.out.trans hb3).mono s1)); clear hown3 hb3))
  have s3 := B3.out.size
  obtain ⟨oa, oc, rfl, _, _⟩ := O3.out.bs
  refine (seal_any _ l w3 O3.out.bs (HK.out.below B3.out HK.out.1) (by omega)).mono ?_
  rintro e w4 ⟨v4, rfl, hown4, hb4⟩
  change Own w4 w3.heap.size v4 (sealed l) at hown4
  have B4 := Lib.hid (B3.out.trans (hb4.mono s3))
  have S4 := Lib.hid hown4.bs
  have O34 := Lib.hid (O3.out.below hb4 (Nat.le_refl _))
  have s4 := B4.out.size
  have s34 := hb4.size
  clear hb4 hown4
  go_wp2_with fail
  refine (open_any _ l w4 O34.out.bs HR.out (HK.out.below B4.out HK.out.1) (by omega)).mono ?_
  rintro e w5 hp5
  obtain ⟨hb5, v5, v6, rfl, f5, f6⟩ := openPost_fr hp5
  have B5 := Lib.hid (B4.out.trans (hb5.mono s4))
  have F5 := Lib.hid f5
  have F6 := Lib.hid f6
  have S5 := Lib.hid (S4.out.below hb5)
  have O35 := Lib.hid (O34.out.below hb5 (Nat.le_refl _))
  have s5 := B5.out.size
  have s45 := hb5.size
  clear hb5 hp5 f5 f6
  go_wp2_with fail
  refine (ropen_any _ l w5 (H1.out.below B5.out) HR.out (by omega)).mono ?_
  rintro e w6 hp6
  obtain ⟨hb6, v8, v9, rfl, f8, f9⟩ := ropenPost_fr hp6
  have B6 := Lib.hid (B5.out.trans (hb6.mono s5))
  have F8 := Lib.hid f8
  have F9 := Lib.hid f9
  have F56 := Lib.hid (F5.out.below hb6)
  have F66 := Lib.hid (F6.out.below hb6)
  have S6 := Lib.hid (S5.out.below hb6)
  have O36 := Lib.hid (O35.out.below hb6 (Nat.le_refl _))
  have s6 := B6.out.size
  have s56 := hb6.size
  clear hb6 hp6 f8 f9
  have HSL := Lib.hid (rseal_any v1 l w6.drew ((H1.out.below B6.out).below (Below.refl _ _).drew) (by omega))
  have bd : Below w6.heap.size w6 w6.drew := (Below.refl _ _).drew
  have BD := Lib.hid bd
  generalize hS1 : str (sealed l) = S1 at *
  have HS1 := Lib.hid hS1
  have hsf := fun (u : World) (hu : Below w6.heap.size w6 u) => (And.intro hu (⟨by rw [← hS1]; exact conv_bs (S6.out.below hu), conv_bs (F56.out.below hu).1, conv_bs (F66.out.below hu).1, conv_bs (F8.out.below hu).1, conv_bs (F9.out.below hu).1, conv_bs (O36.out.below hu (Nat.le_refl _)).bs, conv_bs (((H1.out.below B6.out)).below hu)⟩ : (convC v4).run Tryd.prog u = .ok (.string S1) u ∧ _ ∧ _ ∧ _ ∧ _ ∧ _ ∧ _))
  have HSF := Lib.hid hsf
  clear bd hS1 hsf
  generalize oerr (opn l) = E at *
  generalize hS2 : str (oin (opn l)) = S2 at *
  generalize hS3 : str (orest (opn l)) = S3 at *
  have HS2 := Lib.hid hS2
  have HS3 := Lib.hid hS3
  clear hS2 hS3
  generalize str l = S0 at *
  go_wp2_with fail
  refine wp_region_held_drew (S := (fun u => Below w6.heap.size w6 u ∧ (convC v4).run Tryd.prog u = .ok (.string S1) u ∧ (convC v5).run Tryd.prog u = .ok (.string S2) u ∧ (convC v6).run Tryd.prog u = .ok (.string S3) u ∧ (convC v8).run Tryd.prog u = .ok (.string S2) u ∧ (convC v9).run Tryd.prog u = .ok (.string S3) u ∧ (convC (.slice oa l.length oc)).run Tryd.prog u = .ok (.string S0) u ∧ (convC v1).run Tryd.prog u = .ok (.string S0) u)) (by kernel_rfl) (HSF.out w6.drew BD.out) (fun hHeld => ?_)
  refine wpAnyH_take (i := 0) (oi := ({ dst := some 31, op := Op.move (Operand.tmp 4), type := 25, pos := "law.go:101", after := #[], guard := none } : Oper)) (v := ?_) rfl (by kernel_rfl) (by kernel_rfl) (by kernel_rfl) (fun _ _ _ h => h) (Or.inl ⟨by rfl, ?_⟩) (by assumption) ?_
  rotate_left 1
  · (intro w hSw; (try dsimp only at hSw); go_simp; try with_reducible rfl)
  try simp only [Act.put, List.setIfInBounds_toArray, List.set_cons_zero, List.set_cons_succ]
  refine wpAnyH_take (i := 1) (oi := ({ dst := some 32, op := Op.convert 25 9 (Operand.tmp 31), type := 9, pos := "law.go:101", after := #[{ on := 0, ground := Ground.data }], guard := none } : Oper)) (v := ?_) rfl (by kernel_rfl) (by kernel_rfl) (by kernel_rfl) (fun _ _ _ h => h) (Or.inl ⟨by rfl, ?_⟩) (by assumption) ?_
  rotate_left 1
  · (intro w hSw; (try dsimp only at hSw); go_simp; try with_reducible rfl)
  try simp only [Act.put, List.setIfInBounds_toArray, List.set_cons_zero, List.set_cons_succ]
  refine wpAnyH_take (i := 2) (oi := ({ dst := some 33, op := Op.move (Operand.tmp 0), type := 25, pos := "law.go:101", after := #[], guard := none } : Oper)) (v := ?_) rfl (by kernel_rfl) (by kernel_rfl) (by kernel_rfl) (fun _ _ _ h => h) (Or.inl ⟨by rfl, ?_⟩) (by assumption) ?_
  rotate_left 1
  · (intro w hSw; (try dsimp only at hSw); go_simp; try with_reducible rfl)
  try simp only [Act.put, List.setIfInBounds_toArray, List.set_cons_zero, List.set_cons_succ]
  refine wpAnyH_ready (rs := [3]) (by kernel_rfl) (by simp) ?_
  refine AllReadyH.cons (o := ({ dst := some 34, op := Op.call { callee := Callee.value (Operand.func 22), args := #[Operand.tmp 33], argTypes := #[25] }, type := 25, pos := "law.go:101", after := #[{ on := 2, ground := Ground.data }], guard := none } : Oper)) rfl (fun K hK => ?_) AllReadyH.nil
  go_simp
  go_at_call 22
  refine HSL.out.mono ?_
  rintro e w7 ⟨v34, rfl, hown7, hb7⟩
  have HB7 := Lib.hid (BD.out.trans (hb7.mono (by simp)))
  have e8 := conv_bs hown7.bs
  rw [HS1.out] at e8
  clear hown7 hb7
  go_wp2_with fail
  refine hK.out _ _ (HSF.out w7 HB7.out) (fun hHeld7 => ?_)
  clear hK K
  try simp only [Act.put, List.setIfInBounds_toArray, List.set_cons_zero, List.set_cons_succ]
  refine wpAnyH_ready (rs := [4]) (by kernel_rfl) (by simp) ?_
  refine AllReadyH.cons (o := ({ dst := some 35, op := Op.convert 25 9 (Operand.tmp 34), type := 9, pos := "law.go:101", after := #[{ on := 3, ground := Ground.data }], guard := none } : Oper)) rfl (fun K hK => ?_) AllReadyH.nil
  go_simp
  refine hK.out _ _ (HSF.out w7 HB7.out) (fun hHeld7b => ?_)
  clear hK K e8
  try simp only [Act.put, List.setIfInBounds_toArray, List.set_cons_zero, List.set_cons_succ]
  refine wpAnyH_take (i := 5) (oi := ({ dst := some 36, op := Op.binOp BinOp.neq 9 (Operand.tmp 32) (Operand.tmp 35) 9, type := 4, pos := "law.go:101", after := #[{ on := 1, ground := Ground.data }, { on := 4, ground := Ground.data }], guard := none } : Oper)) (v := ?_) rfl (by kernel_rfl) (by kernel_rfl) (by kernel_rfl) (fun _ _ _ h => h) (Or.inl ⟨by rfl, ?_⟩) (by assumption) ?_
  rotate_left 1
  · (intro w hSw; (try dsimp only at hSw); go_simp; try with_reducible rfl)
  try simp only [Act.put, List.setIfInBounds_toArray, List.set_cons_zero, List.set_cons_succ]
  refine wpAnyH_take (i := 6) (oi := ({ dst := some 37, op := Op.move (Operand.tmp 36), type := 4, pos := "law.go:101", after := #[{ on := 5, ground := Ground.data }, { on := 3, ground := Ground.chain }], guard := none } : Oper)) (v := ?_) rfl (by kernel_rfl) (by kernel_rfl) (by kernel_rfl) (fun _ _ _ h => h) (Or.inl ⟨by rfl, ?_⟩) (by assumption) ?_
  rotate_left 1
  · (intro w hSw; (try dsimp only at hSw); go_simp; try with_reducible rfl)
  try simp only [Act.put, List.setIfInBounds_toArray, List.set_cons_zero, List.set_cons_succ]
  refine wpAnyH_take (i := 7) (oi := ({ dst := some 38, op := Op.move (Operand.tmp 5), type := 25, pos := "law.go:101", after := #[{ on := 6, ground := Ground.guard }], guard := some (6, false) } : Oper)) (v := ?_) rfl (by kernel_rfl) (by kernel_rfl) (by kernel_rfl) (fun _ _ _ h => h) (Or.inl ⟨by rfl, ?_⟩) (by assumption) ?_
  rotate_left 1
  · (intro w hSw; (try dsimp only at hSw); go_simp; try with_reducible rfl)
  try simp only [Act.put, List.setIfInBounds_toArray, List.set_cons_zero, List.set_cons_succ]
  refine wpAnyH_take (i := 8) (oi := ({ dst := some 39, op := Op.convert 25 9 (Operand.tmp 38), type := 9, pos := "law.go:101", after := #[{ on := 7, ground := Ground.data }, { on := 6, ground := Ground.guard }], guard := some (6, false) } : Oper)) (v := ?_) rfl (by kernel_rfl) (by kernel_rfl) (by kernel_rfl) (fun _ _ _ h => h) (Or.inl ⟨by rfl, ?_⟩) (by assumption) ?_
  rotate_left 1
  · (intro w hSw; (try dsimp only at hSw); go_simp; try with_reducible rfl)
  try simp only [Act.put, List.setIfInBounds_toArray, List.set_cons_zero, List.set_cons_succ]
  refine wpAnyH_take (i := 9) (oi := ({ dst := some 40, op := Op.move (Operand.tmp 8), type := 25, pos := "law.go:101", after := #[{ on := 6, ground := Ground.guard }], guard := some (6, false) } : Oper)) (v := ?_) rfl (by kernel_rfl) (by kernel_rfl) (by kernel_rfl) (fun _ _ _ h => h) (Or.inl ⟨by rfl, ?_⟩) (by assumption) ?_
  rotate_left 1
  · (intro w hSw; (try dsimp only at hSw); go_simp; try with_reducible rfl)
  try simp only [Act.put, List.setIfInBounds_toArray, List.set_cons_zero, List.set_cons_succ]
  refine wpAnyH_take (i := 10) (oi := ({ dst := some 41, op := Op.convert 25 9 (Operand.tmp 40), type := 9, pos := "law.go:101", after := #[{ on := 9, ground := Ground.data }, { on := 6, ground := Ground.guard }], guard := some (6, false) } : Oper)) (v := ?_) rfl (by kernel_rfl) (by kernel_rfl) (by kernel_rfl) (fun _ _ _ h => h) (Or.inl ⟨by rfl, ?_⟩) (by assumption) ?_
  rotate_left 1
  · (intro w hSw; (try dsimp only at hSw); go_simp; try with_reducible rfl)
  try simp only [Act.put, List.setIfInBounds_toArray, List.set_cons_zero, List.set_cons_succ]
  refine wpAnyH_take (i := 11) (oi := ({ dst := some 42, op := Op.binOp BinOp.neq 9 (Operand.tmp 39) (Operand.tmp 41) 9, type := 4, pos := "law.go:101", after := #[{ on := 8, ground := Ground.data }, { on := 10, ground := Ground.data }, { on := 6, ground := Ground.guard }], guard := some (6, false) } : Oper)) (v := ?_) rfl (by kernel_rfl) (by kernel_rfl) (by kernel_rfl) (fun _ _ _ h => h) (Or.inl ⟨by rfl, ?_⟩) (by assumption) ?_
  rotate_left 1
  · (intro w hSw; (try dsimp only at hSw); go_simp; try with_reducible rfl)
  try simp only [Act.put, List.setIfInBounds_toArray, List.set_cons_zero, List.set_cons_succ]
  refine wpAnyH_take (i := 12) (oi := ({ dst := some 43, op := Op.pick (Operand.tmp 37) (Operand.const (Value.bool true)) (Operand.tmp 42), type := 4, pos := "law.go:101", after := #[{ on := 6, ground := Ground.data }, { on := 11, ground := Ground.data }], guard := none } : Oper)) (v := ?_) rfl (by kernel_rfl) (by kernel_rfl) (by kernel_rfl) (fun _ _ _ h => h) (Or.inl ⟨by rfl, ?_⟩) (by assumption) ?_
  rotate_left 1
  · (intro w hSw; (try dsimp only at hSw); go_simp; try with_reducible rfl)
  try simp only [Act.put, List.setIfInBounds_toArray, List.set_cons_zero, List.set_cons_succ]
  refine wpAnyH_take (i := 13) (oi := ({ dst := some 44, op := Op.move (Operand.tmp 43), type := 4, pos := "law.go:101", after := #[{ on := 12, ground := Ground.data }, { on := 6, ground := Ground.chain }], guard := none } : Oper)) (v := ?_) rfl (by kernel_rfl) (by kernel_rfl) (by kernel_rfl) (fun _ _ _ h => h) (Or.inl ⟨by rfl, ?_⟩) (by assumption) ?_
  rotate_left 1
  · (intro w hSw; (try dsimp only at hSw); go_simp; try with_reducible rfl)
  try simp only [Act.put, List.setIfInBounds_toArray, List.set_cons_zero, List.set_cons_succ]
  refine wpAnyH_take (i := 14) (oi := ({ dst := some 45, op := Op.move (Operand.tmp 6), type := 25, pos := "law.go:101", after := #[{ on := 13, ground := Ground.guard }], guard := some (13, false) } : Oper)) (v := ?_) rfl (by kernel_rfl) (by kernel_rfl) (by kernel_rfl) (fun _ _ _ h => h) (Or.inl ⟨by rfl, ?_⟩) (by assumption) ?_
  rotate_left 1
  · (intro w hSw; (try dsimp only at hSw); go_simp; try with_reducible rfl)
  try simp only [Act.put, List.setIfInBounds_toArray, List.set_cons_zero, List.set_cons_succ]
  refine wpAnyH_take (i := 15) (oi := ({ dst := some 46, op := Op.convert 25 9 (Operand.tmp 45), type := 9, pos := "law.go:101", after := #[{ on := 14, ground := Ground.data }, { on := 13, ground := Ground.guard }], guard := some (13, false) } : Oper)) (v := ?_) rfl (by kernel_rfl) (by kernel_rfl) (by kernel_rfl) (fun _ _ _ h => h) (Or.inl ⟨by rfl, ?_⟩) (by assumption) ?_
  rotate_left 1
  · (intro w hSw; (try dsimp only at hSw); go_simp; try with_reducible rfl)
  try simp only [Act.put, List.setIfInBounds_toArray, List.set_cons_zero, List.set_cons_succ]
  refine wpAnyH_take (i := 16) (oi := ({ dst := some 47, op := Op.move (Operand.tmp 9), type := 25, pos := "law.go:101", after := #[{ on := 13, ground := Ground.guard }], guard := some (13, false) } : Oper)) (v := ?_) rfl (by kernel_rfl) (by kernel_rfl) (by kernel_rfl) (fun _ _ _ h => h) (Or.inl ⟨by rfl, ?_⟩) (by assumption) ?_
  rotate_left 1
  · (intro w hSw; (try dsimp only at hSw); go_simp; try with_reducible rfl)
  try simp only [Act.put, List.setIfInBounds_toArray, List.set_cons_zero, List.set_cons_succ]
  refine wpAnyH_take (i := 17) (oi := ({ dst := some 48, op := Op.convert 25 9 (Operand.tmp 47), type := 9, pos := "law.go:101", after := #[{ on := 16, ground := Ground.data }, { on := 13, ground := Ground.guard }], guard := some (13, false) } : Oper)) (v := ?_) rfl (by kernel_rfl) (by kernel_rfl) (by kernel_rfl) (fun _ _ _ h => h) (Or.inl ⟨by rfl, ?_⟩) (by assumption) ?_
  rotate_left 1
  · (intro w hSw; (try dsimp only at hSw); go_simp; try with_reducible rfl)
  try simp only [Act.put, List.setIfInBounds_toArray, List.set_cons_zero, List.set_cons_succ]
  refine wpAnyH_take (i := 18) (oi := ({ dst := some 49, op := Op.binOp BinOp.neq 9 (Operand.tmp 46) (Operand.tmp 48) 9, type := 4, pos := "law.go:101", after := #[{ on := 15, ground := Ground.data }, { on := 17, ground := Ground.data }, { on := 13, ground := Ground.guard }], guard := some (13, false) } : Oper)) (v := ?_) rfl (by kernel_rfl) (by kernel_rfl) (by kernel_rfl) (fun _ _ _ h => h) (Or.inl ⟨by rfl, ?_⟩) (by assumption) ?_
  rotate_left 1
  · (intro w hSw; (try dsimp only at hSw); go_simp; try with_reducible rfl)
  try simp only [Act.put, List.setIfInBounds_toArray, List.set_cons_zero, List.set_cons_succ]
  refine wpAnyH_take (i := 19) (oi := ({ dst := some 50, op := Op.pick (Operand.tmp 44) (Operand.const (Value.bool true)) (Operand.tmp 49), type := 4, pos := "law.go:101", after := #[{ on := 13, ground := Ground.data }, { on := 18, ground := Ground.data }], guard := none } : Oper)) (v := ?_) rfl (by kernel_rfl) (by kernel_rfl) (by kernel_rfl) (fun _ _ _ h => h) (Or.inl ⟨by rfl, ?_⟩) (by assumption) ?_
  rotate_left 1
  · (intro w hSw; (try dsimp only at hSw); go_simp; try with_reducible rfl)
  try simp only [Act.put, List.setIfInBounds_toArray, List.set_cons_zero, List.set_cons_succ]
  refine wpAnyH_take (i := 20) (oi := ({ dst := some 51, op := Op.move (Operand.tmp 50), type := 4, pos := "law.go:101", after := #[{ on := 19, ground := Ground.data }, { on := 13, ground := Ground.chain }], guard := none } : Oper)) (v := ?_) rfl (by kernel_rfl) (by kernel_rfl) (by kernel_rfl) (fun _ _ _ h => h) (Or.inl ⟨by rfl, ?_⟩) (by assumption) ?_
  rotate_left 1
  · (intro w hSw; (try dsimp only at hSw); go_simp; try with_reducible rfl)
  try simp only [Act.put, List.setIfInBounds_toArray, List.set_cons_zero, List.set_cons_succ]
  refine wpAnyH_take (i := 21) (oi := ({ dst := some 52, op := Op.move (Operand.tmp 7), type := 34, pos := "law.go:101", after := #[{ on := 20, ground := Ground.guard }], guard := some (20, false) } : Oper)) (v := ?_) rfl (by kernel_rfl) (by kernel_rfl) (by kernel_rfl) (fun _ _ _ h => h) (Or.inl ⟨by rfl, ?_⟩) (by assumption) ?_
  rotate_left 1
  · (intro w hSw; (try dsimp only at hSw); go_simp; try with_reducible rfl)
  try simp only [Act.put, List.setIfInBounds_toArray, List.set_cons_zero, List.set_cons_succ]
  refine wpAnyH_take (i := 22) (oi := ({ dst := some 53, op := Op.move (Operand.tmp 10), type := 34, pos := "law.go:101", after := #[{ on := 20, ground := Ground.guard }], guard := some (20, false) } : Oper)) (v := ?_) rfl (by kernel_rfl) (by kernel_rfl) (by kernel_rfl) (fun _ _ _ h => h) (Or.inl ⟨by rfl, ?_⟩) (by assumption) ?_
  rotate_left 1
  · (intro w hSw; (try dsimp only at hSw); go_simp; try with_reducible rfl)
  try simp only [Act.put, List.setIfInBounds_toArray, List.set_cons_zero, List.set_cons_succ]
  refine wpAnyH_take (i := 23) (oi := ({ dst := some 54, op := Op.binOp BinOp.neq 34 (Operand.tmp 52) (Operand.tmp 53) 34, type := 4, pos := "law.go:101", after := #[{ on := 21, ground := Ground.data }, { on := 22, ground := Ground.data }, { on := 20, ground := Ground.guard }], guard := some (20, false) } : Oper)) (v := ?_) rfl (by kernel_rfl) (by kernel_rfl) (by kernel_rfl) (fun _ _ _ h => h) (Or.inl ⟨by rfl, ?_⟩) (by assumption) ?_
  rotate_left 1
  · (intro w hSw; (try dsimp only at hSw); go_simp; try with_reducible rfl)
  try simp only [Act.put, List.setIfInBounds_toArray, List.set_cons_zero, List.set_cons_succ]
  refine wpAnyH_take (i := 24) (oi := ({ dst := some 55, op := Op.pick (Operand.tmp 51) (Operand.const (Value.bool true)) (Operand.tmp 54), type := 4, pos := "law.go:101", after := #[{ on := 20, ground := Ground.data }, { on := 23, ground := Ground.data }], guard := none } : Oper)) (v := ?_) rfl (by kernel_rfl) (by kernel_rfl) (by kernel_rfl) (fun _ _ _ h => h) (Or.inl ⟨by rfl, ?_⟩) (by assumption) ?_
  rotate_left 1
  · (intro w hSw; (try dsimp only at hSw); go_simp; try with_reducible rfl)
  try simp only [Act.put, List.setIfInBounds_toArray, List.set_cons_zero, List.set_cons_succ]
  refine wpAnyH_take (i := 25) (oi := ({ dst := some 56, op := Op.move (Operand.tmp 55), type := 4, pos := "law.go:101", after := #[{ on := 24, ground := Ground.data }, { on := 20, ground := Ground.chain }], guard := none } : Oper)) (v := ?_) rfl (by kernel_rfl) (by kernel_rfl) (by kernel_rfl) (fun _ _ _ h => h) (Or.inl ⟨by rfl, ?_⟩) (by assumption) ?_
  rotate_left 1
  · (intro w hSw; (try dsimp only at hSw); go_simp; try with_reducible rfl)
  try simp only [Act.put, List.setIfInBounds_toArray, List.set_cons_zero, List.set_cons_succ]
  refine wpAnyH_take (i := 26) (oi := ({ dst := some 57, op := Op.move (Operand.tmp 3), type := 25, pos := "law.go:101", after := #[{ on := 25, ground := Ground.guard }], guard := some (25, false) } : Oper)) (v := ?_) rfl (by kernel_rfl) (by kernel_rfl) (by kernel_rfl) (fun _ _ _ h => h) (Or.inl ⟨by rfl, ?_⟩) (by assumption) ?_
  rotate_left 1
  · (intro w hSw; (try dsimp only at hSw); go_simp; try with_reducible rfl)
  try simp only [Act.put, List.setIfInBounds_toArray, List.set_cons_zero, List.set_cons_succ]
  refine wpAnyH_take (i := 27) (oi := ({ dst := some 58, op := Op.convert 25 9 (Operand.tmp 57), type := 9, pos := "law.go:101", after := #[{ on := 26, ground := Ground.data }, { on := 25, ground := Ground.guard }], guard := some (25, false) } : Oper)) (v := ?_) rfl (by kernel_rfl) (by kernel_rfl) (by kernel_rfl) (fun _ _ _ h => h) (Or.inl ⟨by rfl, ?_⟩) (by assumption) ?_
  rotate_left 1
  · (intro w hSw; (try dsimp only at hSw); go_simp; try with_reducible rfl)
  try simp only [Act.put, List.setIfInBounds_toArray, List.set_cons_zero, List.set_cons_succ]
  refine wpAnyH_take (i := 28) (oi := ({ dst := some 59, op := Op.move (Operand.tmp 0), type := 25, pos := "law.go:101", after := #[{ on := 25, ground := Ground.guard }], guard := some (25, false) } : Oper)) (v := ?_) rfl (by kernel_rfl) (by kernel_rfl) (by kernel_rfl) (fun _ _ _ h => h) (Or.inl ⟨by rfl, ?_⟩) (by assumption) ?_
  rotate_left 1
  · (intro w hSw; (try dsimp only at hSw); go_simp; try with_reducible rfl)
  try simp only [Act.put, List.setIfInBounds_toArray, List.set_cons_zero, List.set_cons_succ]
  refine wpAnyH_take (i := 29) (oi := ({ dst := some 60, op := Op.convert 25 9 (Operand.tmp 59), type := 9, pos := "law.go:101", after := #[{ on := 28, ground := Ground.data }, { on := 25, ground := Ground.guard }], guard := some (25, false) } : Oper)) (v := ?_) rfl (by kernel_rfl) (by kernel_rfl) (by kernel_rfl) (fun _ _ _ h => h) (Or.inl ⟨by rfl, ?_⟩) (by assumption) ?_
  rotate_left 1
  · (intro w hSw; (try dsimp only at hSw); go_simp; try with_reducible rfl)
  try simp only [Act.put, List.setIfInBounds_toArray, List.set_cons_zero, List.set_cons_succ]
  refine wpAnyH_take (i := 30) (oi := ({ dst := some 61, op := Op.binOp BinOp.neq 9 (Operand.tmp 58) (Operand.tmp 60) 9, type := 4, pos := "law.go:101", after := #[{ on := 27, ground := Ground.data }, { on := 29, ground := Ground.data }, { on := 25, ground := Ground.guard }], guard := some (25, false) } : Oper)) (v := ?_) rfl (by kernel_rfl) (by kernel_rfl) (by kernel_rfl) (fun _ _ _ h => h) (Or.inl ⟨by rfl, ?_⟩) (by assumption) ?_
  rotate_left 1
  · (intro w hSw; (try dsimp only at hSw); go_simp; try with_reducible rfl)
  try simp only [Act.put, List.setIfInBounds_toArray, List.set_cons_zero, List.set_cons_succ]
  refine wpAnyH_take (i := 31) (oi := ({ dst := some 62, op := Op.pick (Operand.tmp 56) (Operand.const (Value.bool true)) (Operand.tmp 61), type := 4, pos := "law.go:101", after := #[{ on := 25, ground := Ground.data }, { on := 30, ground := Ground.data }], guard := none } : Oper)) (v := ?_) rfl (by kernel_rfl) (by kernel_rfl) (by kernel_rfl) (fun _ _ _ h => h) (Or.inl ⟨by rfl, ?_⟩) (by assumption) ?_
  rotate_left 1
  · (intro w hSw; (try dsimp only at hSw); go_simp; try with_reducible rfl)
  try simp only [Act.put, List.setIfInBounds_toArray, List.set_cons_zero, List.set_cons_succ]
  refine wpAnyH_done (by kernel_rfl) ?_ _
  go_wp2_with fail
  have s7 := HB7.out.size
  have G5 := Lib.hid (F56.out.below HB7.out)
  have G6 := Lib.hid (F66.out.below HB7.out)
  have G8 := Lib.hid (F8.out.below HB7.out)
  have G9 := Lib.hid (F9.out.below HB7.out)
  have B7 := Lib.hid (B6.out.trans (HB7.out.mono s6))
  have O37 := Lib.hid (O36.out.below HB7.out (Nat.le_refl _))
  by_cases h0 : 0 < l.length
  · obtain ⟨g, cap, cur, he, hg, _, hh, hsz⟩ := own_room O37.out h0
    injection he with he1 _ he2
    subst he1 he2
    have hg3 : g < w3.heap.size := (O3.out.lt g rfl).2
    have hall : ∀ j, j < l.length → ∃ y, cur[j]? = some (.int .u8 y) := fun j hj => by
      obtain ⟨a', c', e1, _, e2⟩ := O37.out.bs
      injection e1 with e1 _ _
      obtain ⟨b', o', e3, _, e4⟩ := e2 h0
      rw [e3] at e1
      injection e1 with e1
      injection e1 with e5 e6 _
      have e7 := e4 j hj
      rw [← e5, ← e6, Nat.zero_add, cell_of_row w7 g j _ _ _ hh] at e7
      exact ⟨_, e7⟩
    have HH := Lib.hid hh
    have HALL := Lib.hid hall
    clear hh hall
    go_loopw [11] (fun i wr => ∃ (k : Nat) (cur : Array Value), k ≤ l.length ∧ i = .int .i64 k ∧ wr.heap[g]? = some (.cells cur 5 (0, 0)) ∧ l.length ≤ cur.size ∧ (∀ j, j < l.length → ∃ y, cur[j]? = some (.int .u8 y)) ∧ Below w.heap.size w wr ∧ Fr wr w4.heap.size v5 (oin (opn l)) ∧ Fr wr w4.heap.size v6 (orest (opn l)) ∧ Fr wr w5.heap.size v8 (oin (opn l)) ∧ Fr wr w5.heap.size v9 (orest (opn l))) (fun i _ => l.length - (intOf i).toNat)
    case atStart => exact ⟨0, cur, Nat.zero_le _, rfl, HH.out, hsz, HALL.out, B7.out, G5.out, G6.out, G8.out, G9.out⟩
    case round =>
      obtain ⟨k, cu, hk, rfl, hh, hcs, hall, hbw, f5, f6, f8, f9⟩ := hrel
      have HBW := Lib.hid hbw
      have K5 := Lib.hid f5
      have K6 := Lib.hid f6
      have K8 := Lib.hid f8
      have K9 := Lib.hid f9
      have HA := Lib.hid hall
      by_cases hlt : k < l.length
      · obtain ⟨y, hy⟩ := hall k hlt
        have hck := (cell_of_row wr g k cu _ _ hh).trans hy
        have hfz := frozen_of_row wr g k cu 5 hh
        have HHC := Lib.hid hh
        clear hbw f5 f6 f8 f9 hh hall hy
        go_wp2_with fail
        go_roundw
        case rel =>
          refine ⟨k + 1, cu.setIfInBounds k (.int .u8 (bits BinOp.xor IntKind.u8 y 85)), by omega, by go_num, heap_setCell_same wr g k _ _ _ HHC.out, by simpa using hcs, fun j hj => ?_, HBW.out.setCell (show w.heap.size ≤ g by omega) _, K5.out.setCell ⟨g, k, none⟩ _ (show g < w4.heap.size by omega), K6.out.setCell ⟨g, k, none⟩ _ (show g < w4.heap.size by omega), K8.out.setCell ⟨g, k, none⟩ _ (show g < w5.heap.size by omega), K9.out.setCell ⟨g, k, none⟩ _ (show g < w5.heap.size by omega)⟩
          by_cases hjk : k = j
          · subst hjk; exact ⟨_, Array.getElem?_setIfInBounds_self_of_lt (by omega)⟩
          · obtain ⟨z, hz⟩ := HA.out j hj
            exact ⟨z, by rw [Array.getElem?_setIfInBounds_ne hjk]; exact hz⟩
        case measure => simp [intOf]; omega
      · have hkn : l.length ≤ k := by omega
        have e1 := conv_bs f5.1
        have e2 := conv_bs f6.1
        have e3 := conv_bs f8.1
        have e4 := conv_bs f9.1
        rw [HS2.out] at e1 e3
        rw [HS3.out] at e2 e4
        clear hbw f5 f6 f8 f9 hh hall hlt
        go_wp2_with fail
        go_ret
        exact ⟨by first | rfl | simp, HBW.out⟩
  · have hl0 : l.length = 0 := by omega
    have e1 := conv_bs G5.out.1
    have e2 := conv_bs G6.out.1
    have e3 := conv_bs G8.out.1
    have e4 := conv_bs G9.out.1
    rw [HS2.out] at e1 e3
    rw [HS3.out] at e2 e4
    have E4 := Lib.hid (And.intro e1 (And.intro e2 (And.intro e3 e4)))
    clear e1 e2 e3 e4
    go_loopw [11] (fun i wr => i = .int .i64 0 ∧ wr = w7) (fun i _ => l.length - (intOf i).toNat)
    case atStart => exact ⟨rfl, rfl⟩
    case round =>
      obtain ⟨rfl, rfl⟩ := hrel
      obtain ⟨e1, e2, e3, e4⟩ := E4.out
      go_wp2_with fail
      go_ret
      exact ⟨by first | rfl | simp, B7.out⟩
end Go.Proofs.YtkajpcjmcpollaaDoor
