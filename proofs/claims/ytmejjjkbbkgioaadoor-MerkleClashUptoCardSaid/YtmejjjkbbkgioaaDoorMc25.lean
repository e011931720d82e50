/-
  MerkleClash: for any two rows of bytes, entries and ranges (of bulk at most 1048576): two texts are told only where they are unlike and have one digest, and proofs of one tree have no clash. Conditions: the second form's bound; the table sha.constants as the program's text lays it (the card ties it).
-/
import Derived.Test.YtmejjjkbbkgioaaDoorMc23
import Derived.Test.YtmejjjkbbkgioaaDoorMc24
import Derived.Test.YtmejjjkbbkgioaaDoorCards
import Derived.Test.YtmejjjkbbkgioaaDoorTie
import Derived.WalkKit
import Derived.ProofKit
import Derived.OpenShut
import Derived.Deep.DeepHandedRow
import Derived.Deep.DeepWitnessRowRef
import Derived.Lib.LaidTab
namespace Go.Proofs.YtmejjjkbbkgioaaDoor
open Go.ChangeShapes Go.WideShapes Go.ChangeAt Go.RowKit Go.Deep
namespace lawClash
theorem laidIt {W : World} (h : laidMetH Tryd.prog Rows.merkleClashUptoRow.laid W) : KC W := by
  have h1 : Lib.TabIs Tryd.prog W "touchmark/sha.constants" .u32 Kt := Lib.tabIs_of_head (rest := []) gTab gTabType Tryd.underlying160 Tryd.underlying97 cells49 cells65 h
  have hc : ∀ t, t < 64 → W.cell? ⟨1, t, none⟩ = some (.int .u32 (Kt[t]?.getD 0)) := fun t ht => by
    have := h1.cell gTab t (by simpa [Kt] using ht)
    rw [this]
    simp [List.getD]
  exact ⟨World.block_lt_of_cell? _ _ (hc 0 (by omega)), hc⟩
set_option maxRecDepth 100000 in
theorem contract (H : Type) (enc : TypeId × Value → H) (W : World) (base : Nat) (args : Array Value) (ds gs : List (DataW H)) (before : List MemPlace)
    (hval : ∀ (j : Nat) t v, Tryd.f8.params[j]? = some t → args[j]? = some v → Value.okWide Tryd.prog W .any base t v)
    (hW : DataW.Whole enc Tryd.prog Tryd.f8.params.toList Rows.merkleClashSpec.vars false W args.toList ds gs before) (hL : laidMetH Tryd.prog Rows.merkleClashUptoRow.laid W) (hk : Rows.uptoSmall H (ds ++ gs) = true) :
    Calls Tryd.prog 8 args W fun e W' => ∃ v, e = .returned v ∧ Rows.merkleClashSpec.post enc Tryd.prog Tryd.f8 false true false false W args v W' := by
  have hW' := hW
  obtain ⟨p, q, hA0, hV, rfl, hfz, hnd⟩ := hW
  have hA : DataW.TrodAll enc Tryd.prog W 0 (fun _ => true) true Tryd.f8.params.toList args.toList ds p := hA0
  rw [Tryd.params8] at hA hval
  obtain ⟨v0, vs0, d0, ds0, p0, q0, hargs, rfl, rfl, h0, r0⟩ := trodAll_cons hA
  obtain ⟨v1, vs1, d1, ds1, p1, q1, rfl, rfl, rfl, h1, r1⟩ := trodAll_cons r0
  obtain ⟨v2, vs2, d2, ds2, p2, q2, rfl, rfl, rfl, h2, r2⟩ := trodAll_cons r1
  obtain ⟨v3, vs3, d3, ds3, p3, q3, rfl, rfl, rfl, h3, r3⟩ := trodAll_cons r2
  obtain ⟨v4, vs4, d4, ds4, p4, q4, rfl, rfl, rfl, h4, r4⟩ := trodAll_cons r3
  obtain ⟨rfl, rfl, rfl⟩ := trodAll_nil r4
  obtain rfl : args = #[v0, v1, v2, v3, v4] := by cases args; simp_all
  obtain ⟨rfl, rfl⟩ := trodVars_none hV
  obtain ⟨a0, b0, g0, j0⟩ := bs_of_trod Tryd.underlying31 Tryd.underlying5 cells5 (hval 0 31 v0 rfl rfl) h0
  obtain ⟨a1, b1, g1, j1⟩ := bs_of_trod Tryd.underlying31 Tryd.underlying5 cells5 (hval 1 31 v1 rfl rfl) h1
  have hbulk : Rows.uptoBulkAll ([d0, d1, d2, d3, d4] ++ []) ≤ 1048576 := of_decide_eq_true hk
  simp only [List.append_nil, Rows.uptoBulkAll] at hbulk
  obtain ⟨a2, b2, g2, -⟩ := ents_of_trod (hval 2 22 v2 rfl rfl) h2 (by omega)
  obtain ⟨f3, t3, e3, rfl, g3, k3, -, -⟩ := rng_of_trod (hval 3 24 v3 rfl rfl) h3 (by omega)
  obtain ⟨f4, t4, e4, rfl, g4, k4, -, -⟩ := rng_of_trod (hval 4 24 v4 rfl rfl) h4 (by omega)
  refine (clash_walk W v0 v1 v2 a0 a1 a2 f3 t3 e3 f4 t4 e4 b0 b1 b2 g0 g1 g2 g3 k3 g4 k4 (laidIt hL)).mono fun e W' ⟨he, hb⟩ => ⟨_, he, ?_⟩
  exact law_post (T := 4) laidOut (by rw [Tryd.params8]; decide +kernel) rfl rfl Tryd.underlying4 (fun gs h => by subst h; rfl) hW' hb
theorem laid_met (os : Os) : laidMet Tryd.prog Rows.merkleClashUptoRow.laid ((laidWorld os).forCall (fun _ _ => 0) ⟨#[], #[.slice none 0 0, .slice none 0 0, .slice none 0 0, .agg #[.string ⟨#[]⟩, .string ⟨#[]⟩, .bool false], .agg #[.string ⟨#[]⟩, .string ⟨#[]⟩, .bool false]], []⟩).memory :=
  laidMet_of_run' 8 (by kernel_rfl) (by kernel_rfl)
theorem reads (os : Os) {H : Type} (enc : TypeId × Value → H) : ∃ places, DataW.whole enc Tryd.prog ((laidWorld os).forCall (fun _ _ => 0) ⟨#[], #[.slice none 0 0, .slice none 0 0, .slice none 0 0, .agg #[.string ⟨#[]⟩, .string ⟨#[]⟩, .bool false], .agg #[.string ⟨#[]⟩, .string ⟨#[]⟩, .bool false]], []⟩).memory Tryd.f8.params.toList Rows.merkleClashSpec.vars false #[Value.slice none 0 0, Value.slice none 0 0, Value.slice none 0 0, Value.agg #[.string ⟨#[]⟩, .string ⟨#[]⟩, .bool false], Value.agg #[.string ⟨#[]⟩, .string ⟨#[]⟩, .bool false]].toList 8 = some ([.nil, .nil, .nil, .agg [.lit (.string []), .lit (.string []), .lit (.bool false)], .agg [.lit (.string []), .lit (.string []), .lit (.bool false)]], [], places) :=
  ⟨[], by kernel_rfl⟩
set_option maxRecDepth 100000 in
theorem liftedUpto (os : Os) (started : os.Started) (H : Type) (enc : TypeId × Value → H) (F : Stop.Interp) :
    ReturnsInHanded {} Tryd.checked os 8 .any ((Rows.OpenSpec.upto Rows.merkleClashSpec).preRow enc Tryd.prog Tryd.f8 Rows.merkleClashUptoRow.domain false Rows.merkleClashUptoRow.laid) (((Rows.OpenSpec.upto Rows.merkleClashSpec).at F).post enc Tryd.prog Tryd.f8 false true false false) := by
  obtain ⟨places, hx⟩ := reads os enc
  refine returnsInHanded_of_row (C := Tryd.checked) (s := Rows.OpenSpec.upto Rows.merkleClashSpec) own started (by kernel_rfl) Tryd.func8
    (witness_row_at (enc := enc) (C := Tryd.checked) false (laidWorld os) #[.slice none 0 0, .slice none 0 0, .slice none 0 0, .agg #[.string ⟨#[]⟩, .string ⟨#[]⟩, .bool false], .agg #[.string ⟨#[]⟩, .string ⟨#[]⟩, .bool false]] rfl (by kernel_rfl) (by kernel_rfl) (by kernel_rfl)
      (OpenSpec.preRow_of_cond 8 hx (by kernel_rfl) (fun k hk => by cases hk; kernel_rfl) (by kernel_rfl) (laid_met os))) ?_
  intro W base args ds gs before hval hW _ hcond _ hL _ _
  exact contract H enc W base args ds gs before hval hW hL (hcond _ rfl)
theorem saidUpto : Rows.MerkleClashUptoSaid :=
  OpenClaim.holds_of_cond 8 Tryd.f8 rfl rfl rfl rfl rfl rfl rfl ⟨rfl, rfl, rfl, rfl, rfl⟩ rfl rfl rfl rfl rfl (by kernel_rfl) Tryd.func8 (by kernel_rfl)
    (of_decide_eq_true (by kernel_rfl)) (by unfold Func.isWrapper; first | (rw [if_pos (by decide +kernel)]; kernel_rfl) | (rw [if_neg (by decide +kernel)]; exact ⟨rfl, rfl⟩))
    (fun os started H enc _ F => by rw [OpenClaim.pre_eq_preRow]; exact liftedUpto os started H enc F)
theorem plain (f : FuncId) (fn : Func) (hf : Tryd.pinned.checked.prog.funcNamed "touchmark/touchmarklaw07.MerkleClash" = some f) (hfn : Tryd.pinned.checked.prog.funcs[f]? = some fn) :
    false = Tryd.pinned.checked.prog.looks [] ∧ ∀ (j : Nat) t, fn.params[j]? = some t → Tryd.pinned.checked.prog.wantsStandIn t = false := by
  obtain rfl : f = 8 := Option.some.inj ((show Tryd.prog.funcNamed "touchmark/touchmarklaw07.MerkleClash" = some 8 by kernel_rfl).symm.trans hf) |>.symm
  obtain rfl : fn = Tryd.f8 := (Option.some.inj (Tryd.func8.symm.trans hfn)).symm
  refine ⟨by kernel_rfl, fun j t ht => ?_⟩
  have hm := Array.mem_of_getElem? ht
  rw [Tryd.params8] at hm
  have w0 : Tryd.prog.wantsStandIn 31 = false := by kernel_rfl
  have w1 : Tryd.prog.wantsStandIn 22 = false := by kernel_rfl
  have w2 : Tryd.prog.wantsStandIn 24 = false := by kernel_rfl
  simp at hm
  rcases hm with rfl | rfl | rfl
  · exact w0
  · exact w1
  · exact w2
/-- the card of the second form -/
theorem cardUpto : Rows.MerkleClashUptoCardSaid :=
  Claim7.holds_tied_plain_at .later [] _ _ _ _ saidUpto (fun _ h => by cases h) (by kernel_rfl) (fun _ h => by cases h) merkleClashUpto_row_tie rfl ⟨rfl, rfl⟩ (by kernel_rfl) rfl plain (by kernel_rfl)
end lawClash
end Go.Proofs.YtmejjjkbbkgioaaDoor
