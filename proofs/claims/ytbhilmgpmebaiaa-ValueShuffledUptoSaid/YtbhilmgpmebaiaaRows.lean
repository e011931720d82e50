/-
  No cell of these rows narrows 'for every input' (looked for: loops, veiled, ifaces, maps, wideKeys, modest, calm, conditions, laid).
  DERIVED. THE GIVEN ROWS OF THIS SEAT. 9 by the template 'for every input the law returns true; each argument reads behind the call as it read before'; 0 by the template 'total and deterministic' (their statements: YtbhilmgpmebaiaaTotals.lean).
  GIVEN WITH THE SEED: the statements are not yours to turn. If you find one false, say at which input.
  Laid BY PROGRAM, IN A SANDBOX (cutbox-rows.mjs): the forced cells as the released guide's own fill.sh prints them over the translation 21f632e75021c26a… (all of the seat's roots in one cut). By AI agents, Wed Nov 11 2026. No macro, syntax, notation, axiom, sorry.
-/
import Derived.Test.YtbhilmgpmebaiaaChecked
import GoSem.Claim
import GoSem.ClaimJoined
import GoSem.ClaimMapViews
import Derived.JoinedTies
import Derived.KernelRfl
namespace Go.Proofs.Ytbhilmgpmebaiaa
/- THE CELL 'sum', in the pinned program and in every row, IS THE sha256 OF THE DUMP (.gsa) THAT YtbhilmgpmebaiaaProg.lean LOADS. Nothing in Lean hashes anything: it is a label: what it is worth is what the hold of that sum in a sandbox is worth. -/
noncomputable def Try.pinned : Pinned := { name := "ytbhilmgpmebaiaa", sum := "21f632e75021c26a6266f4835936b474dce756220e1ba0a4c2274c6b17afac00", checked := Try.checked }
namespace Rows
def none {H : Type} : Left H := { results := [], args := [] }

/-- 'touchmarklaw08.ValueDoes': WHATEVER THE INPUT: true; the input reads as it did. -/
def valueDoesSpec : ChangeSpec := { name := "valueDoes", fn := fun _ => fun
  | [d1, d2, d3] => { results := [.lit (.bool true)], args := [d1, d2, d3] }
  | _ => none }
def valueDoesRow : OpenClaim := { program := "ytbhilmgpmebaiaa", sum := "21f632e75021c26a6266f4835936b474dce756220e1ba0a4c2274c6b17afac00", func := "touchmark/touchmarklaw08.ValueDoes", spec := "valueDoes", inPlace := ["internal/bytealg.abigen_runtime_cmpstring", "math/bits.Add64"], unfollowed := true, recurses := true, apart := false }
def ValueDoesSaid : Prop := valueDoesRow.holds Try.pinned (OpenSpec.ofChange valueDoesSpec)

/-- ITS FALSE NEIGHBOUR: 'it returns false'. Refute it at one input. -/
def valueDoesWrong : ChangeSpec := { name := "valueDoes", fn := fun _ => fun
  | [d1, d2, d3] => { results := [.lit (.bool false)], args := [d1, d2, d3] }
  | _ => none }
def ValueDoesWrongFalsely : Prop := valueDoesRow.holds Try.pinned (OpenSpec.ofChange valueDoesWrong)

/-- 'touchmarklaw08.ValueFolds': WHATEVER THE INPUT: true; the input reads as it did. -/
def valueFoldsSpec : ChangeSpec := { name := "valueFolds", fn := fun _ => fun
  | [d1, d2] => { results := [.lit (.bool true)], args := [d1, d2] }
  | _ => none }
def valueFoldsRow : OpenClaim := { program := "ytbhilmgpmebaiaa", sum := "21f632e75021c26a6266f4835936b474dce756220e1ba0a4c2274c6b17afac00", func := "touchmark/touchmarklaw08.ValueFolds", spec := "valueFolds", inPlace := ["internal/bytealg.abigen_runtime_cmpstring", "math/bits.Add64"], unfollowed := true, recurses := true, apart := false }
def ValueFoldsSaid : Prop := valueFoldsRow.holds Try.pinned (OpenSpec.ofChange valueFoldsSpec)

/-- ITS FALSE NEIGHBOUR: 'it returns false'. Refute it at one input. -/
def valueFoldsWrong : ChangeSpec := { name := "valueFolds", fn := fun _ => fun
  | [d1, d2] => { results := [.lit (.bool false)], args := [d1, d2] }
  | _ => none }
def ValueFoldsWrongFalsely : Prop := valueFoldsRow.holds Try.pinned (OpenSpec.ofChange valueFoldsWrong)

/-- 'touchmarklaw08.ValueOrders': WHATEVER THE INPUT: true; the input reads as it did. -/
def valueOrdersSpec : ChangeSpec := { name := "valueOrders", fn := fun _ => fun
  | [d1, d2, d3, d4] => { results := [.lit (.bool true)], args := [d1, d2, d3, d4] }
  | _ => none }
def valueOrdersRow : OpenClaim := { program := "ytbhilmgpmebaiaa", sum := "21f632e75021c26a6266f4835936b474dce756220e1ba0a4c2274c6b17afac00", func := "touchmark/touchmarklaw08.ValueOrders", spec := "valueOrders", inPlace := ["internal/bytealg.abigen_runtime_cmpstring", "math/bits.Add64"], unfollowed := true, recurses := true, apart := false }
def ValueOrdersSaid : Prop := valueOrdersRow.holds Try.pinned (OpenSpec.ofChange valueOrdersSpec)

/-- ITS FALSE NEIGHBOUR: 'it returns false'. Refute it at one input. -/
def valueOrdersWrong : ChangeSpec := { name := "valueOrders", fn := fun _ => fun
  | [d1, d2, d3, d4] => { results := [.lit (.bool false)], args := [d1, d2, d3, d4] }
  | _ => none }
def ValueOrdersWrongFalsely : Prop := valueOrdersRow.holds Try.pinned (OpenSpec.ofChange valueOrdersWrong)

/-- 'touchmarklaw08.ValueKinds': WHATEVER THE INPUT: true; the input reads as it did. -/
def valueKindsSpec : ChangeSpec := { name := "valueKinds", fn := fun _ => fun
  | [d1, d2, d3] => { results := [.lit (.bool true)], args := [d1, d2, d3] }
  | _ => none }
def valueKindsRow : OpenClaim := { program := "ytbhilmgpmebaiaa", sum := "21f632e75021c26a6266f4835936b474dce756220e1ba0a4c2274c6b17afac00", func := "touchmark/touchmarklaw08.ValueKinds", spec := "valueKinds", inPlace := ["internal/bytealg.abigen_runtime_cmpstring", "math/bits.Add64"], unfollowed := true, recurses := true, apart := false }
def ValueKindsSaid : Prop := valueKindsRow.holds Try.pinned (OpenSpec.ofChange valueKindsSpec)

/-- ITS FALSE NEIGHBOUR: 'it returns false'. Refute it at one input. -/
def valueKindsWrong : ChangeSpec := { name := "valueKinds", fn := fun _ => fun
  | [d1, d2, d3] => { results := [.lit (.bool false)], args := [d1, d2, d3] }
  | _ => none }
def ValueKindsWrongFalsely : Prop := valueKindsRow.holds Try.pinned (OpenSpec.ofChange valueKindsWrong)

/-- 'touchmarklaw08.ValueOrder': WHATEVER THE INPUT: true; the input reads as it did. -/
def valueOrderSpec : ChangeSpec := { name := "valueOrder", fn := fun _ => fun
  | [d1, d2, d3] => { results := [.lit (.bool true)], args := [d1, d2, d3] }
  | _ => none }
def valueOrderRow : OpenClaim := { program := "ytbhilmgpmebaiaa", sum := "21f632e75021c26a6266f4835936b474dce756220e1ba0a4c2274c6b17afac00", func := "touchmark/touchmarklaw08.ValueOrder", spec := "valueOrder", inPlace := ["internal/bytealg.abigen_runtime_cmpstring", "math/bits.Add64"], unfollowed := true, recurses := true, apart := false }
def ValueOrderSaid : Prop := valueOrderRow.holds Try.pinned (OpenSpec.ofChange valueOrderSpec)

/-- ITS FALSE NEIGHBOUR: 'it returns false'. Refute it at one input. -/
def valueOrderWrong : ChangeSpec := { name := "valueOrder", fn := fun _ => fun
  | [d1, d2, d3] => { results := [.lit (.bool false)], args := [d1, d2, d3] }
  | _ => none }
def ValueOrderWrongFalsely : Prop := valueOrderRow.holds Try.pinned (OpenSpec.ofChange valueOrderWrong)

/-- 'touchmarklaw08.ValueTyped': WHATEVER THE INPUT: true; the input reads as it did. -/
def valueTypedSpec : ChangeSpec := { name := "valueTyped", fn := fun _ => fun
  | [d1, d2, d3] => { results := [.lit (.bool true)], args := [d1, d2, d3] }
  | _ => none }
def valueTypedRow : OpenClaim := { program := "ytbhilmgpmebaiaa", sum := "21f632e75021c26a6266f4835936b474dce756220e1ba0a4c2274c6b17afac00", func := "touchmark/touchmarklaw08.ValueTyped", spec := "valueTyped", inPlace := ["internal/bytealg.abigen_runtime_cmpstring", "math/bits.Add64"], unfollowed := true, recurses := true, apart := false }
def ValueTypedSaid : Prop := valueTypedRow.holds Try.pinned (OpenSpec.ofChange valueTypedSpec)

/-- ITS FALSE NEIGHBOUR: 'it returns false'. Refute it at one input. -/
def valueTypedWrong : ChangeSpec := { name := "valueTyped", fn := fun _ => fun
  | [d1, d2, d3] => { results := [.lit (.bool false)], args := [d1, d2, d3] }
  | _ => none }
def ValueTypedWrongFalsely : Prop := valueTypedRow.holds Try.pinned (OpenSpec.ofChange valueTypedWrong)

/-- 'touchmarklaw08.ValueLogic': WHATEVER THE INPUT: true; the input reads as it did. -/
def valueLogicSpec : ChangeSpec := { name := "valueLogic", fn := fun _ => fun
  | [d1, d2] => { results := [.lit (.bool true)], args := [d1, d2] }
  | _ => none }
def valueLogicRow : OpenClaim := { program := "ytbhilmgpmebaiaa", sum := "21f632e75021c26a6266f4835936b474dce756220e1ba0a4c2274c6b17afac00", func := "touchmark/touchmarklaw08.ValueLogic", spec := "valueLogic", inPlace := ["internal/bytealg.abigen_runtime_cmpstring", "math/bits.Add64"], unfollowed := true, recurses := true, apart := false }
def ValueLogicSaid : Prop := valueLogicRow.holds Try.pinned (OpenSpec.ofChange valueLogicSpec)

/-- ITS FALSE NEIGHBOUR: 'it returns false'. Refute it at one input. -/
def valueLogicWrong : ChangeSpec := { name := "valueLogic", fn := fun _ => fun
  | [d1, d2] => { results := [.lit (.bool false)], args := [d1, d2] }
  | _ => none }
def ValueLogicWrongFalsely : Prop := valueLogicRow.holds Try.pinned (OpenSpec.ofChange valueLogicWrong)

/-- 'touchmarklaw08.ValueShuffled': WHATEVER THE INPUT: true; the input reads as it did. -/
def valueShuffledSpec : ChangeSpec := { name := "valueShuffled", fn := fun _ => fun
  | [d1, d2, d3, d4] => { results := [.lit (.bool true)], args := [d1, d2, d3, d4] }
  | _ => none }
def valueShuffledRow : OpenClaim := { program := "ytbhilmgpmebaiaa", sum := "21f632e75021c26a6266f4835936b474dce756220e1ba0a4c2274c6b17afac00", func := "touchmark/touchmarklaw08.ValueShuffled", spec := "valueShuffled", inPlace := ["internal/bytealg.abigen_runtime_cmpstring", "math/bits.Add64"], unfollowed := true, recurses := true, apart := false }
def ValueShuffledSaid : Prop := valueShuffledRow.holds Try.pinned (OpenSpec.ofChange valueShuffledSpec)

/-- ITS FALSE NEIGHBOUR: 'it returns false'. Refute it at one input. -/
def valueShuffledWrong : ChangeSpec := { name := "valueShuffled", fn := fun _ => fun
  | [d1, d2, d3, d4] => { results := [.lit (.bool false)], args := [d1, d2, d3, d4] }
  | _ => none }
def ValueShuffledWrongFalsely : Prop := valueShuffledRow.holds Try.pinned (OpenSpec.ofChange valueShuffledWrong)

/-- 'touchmarklaw08.ValueRounds': WHATEVER THE INPUT: true; the input reads as it did. -/
def valueRoundsSpec : ChangeSpec := { name := "valueRounds", fn := fun _ => fun
  | [d1, d2] => { results := [.lit (.bool true)], args := [d1, d2] }
  | _ => none }
def valueRoundsRow : OpenClaim := { program := "ytbhilmgpmebaiaa", sum := "21f632e75021c26a6266f4835936b474dce756220e1ba0a4c2274c6b17afac00", func := "touchmark/touchmarklaw08.ValueRounds", spec := "valueRounds", inPlace := ["internal/bytealg.abigen_runtime_cmpstring", "math/bits.Add64"], unfollowed := true, recurses := true, apart := false }
def ValueRoundsSaid : Prop := valueRoundsRow.holds Try.pinned (OpenSpec.ofChange valueRoundsSpec)

/-- ITS FALSE NEIGHBOUR: 'it returns false'. Refute it at one input. -/
def valueRoundsWrong : ChangeSpec := { name := "valueRounds", fn := fun _ => fun
  | [d1, d2] => { results := [.lit (.bool false)], args := [d1, d2] }
  | _ => none }
def ValueRoundsWrongFalsely : Prop := valueRoundsRow.holds Try.pinned (OpenSpec.ofChange valueRoundsWrong)

/- THE SECOND FORM. 'bulk': how many values and letters a reading holds, each counted each time it is reached (what is shared counts as often as it is met; a slice's spare places count too). A statement '..UptoSaid' is the law's where the arguments, and the package variables that the reading takes, are together of bulk at most 1048576: NARROWER than '..Said'. Prove '..Said' where nothing that the law and all that it calls make is longer than what came in: it says more and counts as full. Else prove '..UptoSaid'. A law counts once. -/
mutual
def uptoBulk {H : Type} : DataW H → Nat
  | .lit (.string bytes) => bytes.length + 1
  | .lit _ => 1
  | .nil => 1
  | .ptr d => uptoBulk d + 1
  | .slice elems spare => uptoBulkAll elems + uptoBulkAll spare + 1
  | .agg parts => uptoBulkAll parts + 1
  | .iface _ d => uptoBulk d + 1
  | .map entries => uptoBulkEntries entries + 1
  | .held _ => 1
def uptoBulkAll {H : Type} : List (DataW H) → Nat
  | [] => 0
  | d :: r => uptoBulk d + uptoBulkAll r
def uptoBulkEntries {H : Type} : List (Lit × DataW H) → Nat
  | [] => 0
  | x :: r => uptoBulkEntry x + uptoBulkEntries r
def uptoBulkEntry {H : Type} : Lit × DataW H → Nat
  | (.string bytes, d) => bytes.length + uptoBulk d + 1
  | (_, d) => uptoBulk d + 1
 end
def uptoSmall : (H : Type) → List (DataW H) → Bool := fun _ ds => decide (uptoBulkAll ds ≤ 1048576)
def OpenSpec.upto (s : _root_.Go.ChangeSpec) : _root_.Go.OpenSpec := { _root_.Go.OpenSpec.ofChange s with cond := some uptoSmall }

/-- 'touchmarklaw08.ValueDoes', WHERE WHAT IT READS IS OF BULK AT MOST 1048576: true; the input reads as it did. -/
def valueDoesUptoRow : OpenClaim := { program := "ytbhilmgpmebaiaa", sum := "21f632e75021c26a6266f4835936b474dce756220e1ba0a4c2274c6b17afac00", func := "touchmark/touchmarklaw08.ValueDoes", spec := "valueDoes", inPlace := ["internal/bytealg.abigen_runtime_cmpstring", "math/bits.Add64"], unfollowed := true, recurses := true, apart := false, narrowed := true }
def ValueDoesUptoSaid : Prop := valueDoesUptoRow.holds Try.pinned (OpenSpec.upto valueDoesSpec)

/-- 'touchmarklaw08.ValueFolds', WHERE WHAT IT READS IS OF BULK AT MOST 1048576: true; the input reads as it did. -/
def valueFoldsUptoRow : OpenClaim := { program := "ytbhilmgpmebaiaa", sum := "21f632e75021c26a6266f4835936b474dce756220e1ba0a4c2274c6b17afac00", func := "touchmark/touchmarklaw08.ValueFolds", spec := "valueFolds", inPlace := ["internal/bytealg.abigen_runtime_cmpstring", "math/bits.Add64"], unfollowed := true, recurses := true, apart := false, narrowed := true }
def ValueFoldsUptoSaid : Prop := valueFoldsUptoRow.holds Try.pinned (OpenSpec.upto valueFoldsSpec)

/-- 'touchmarklaw08.ValueOrders', WHERE WHAT IT READS IS OF BULK AT MOST 1048576: true; the input reads as it did. -/
def valueOrdersUptoRow : OpenClaim := { program := "ytbhilmgpmebaiaa", sum := "21f632e75021c26a6266f4835936b474dce756220e1ba0a4c2274c6b17afac00", func := "touchmark/touchmarklaw08.ValueOrders", spec := "valueOrders", inPlace := ["internal/bytealg.abigen_runtime_cmpstring", "math/bits.Add64"], unfollowed := true, recurses := true, apart := false, narrowed := true }
def ValueOrdersUptoSaid : Prop := valueOrdersUptoRow.holds Try.pinned (OpenSpec.upto valueOrdersSpec)

/-- 'touchmarklaw08.ValueKinds', WHERE WHAT IT READS IS OF BULK AT MOST 1048576: true; the input reads as it did. -/
def valueKindsUptoRow : OpenClaim := { program := "ytbhilmgpmebaiaa", sum := "21f632e75021c26a6266f4835936b474dce756220e1ba0a4c2274c6b17afac00", func := "touchmark/touchmarklaw08.ValueKinds", spec := "valueKinds", inPlace := ["internal/bytealg.abigen_runtime_cmpstring", "math/bits.Add64"], unfollowed := true, recurses := true, apart := false, narrowed := true }
def ValueKindsUptoSaid : Prop := valueKindsUptoRow.holds Try.pinned (OpenSpec.upto valueKindsSpec)

/-- 'touchmarklaw08.ValueOrder', WHERE WHAT IT READS IS OF BULK AT MOST 1048576: true; the input reads as it did. -/
def valueOrderUptoRow : OpenClaim := { program := "ytbhilmgpmebaiaa", sum := "21f632e75021c26a6266f4835936b474dce756220e1ba0a4c2274c6b17afac00", func := "touchmark/touchmarklaw08.ValueOrder", spec := "valueOrder", inPlace := ["internal/bytealg.abigen_runtime_cmpstring", "math/bits.Add64"], unfollowed := true, recurses := true, apart := false, narrowed := true }
def ValueOrderUptoSaid : Prop := valueOrderUptoRow.holds Try.pinned (OpenSpec.upto valueOrderSpec)

/-- 'touchmarklaw08.ValueTyped', WHERE WHAT IT READS IS OF BULK AT MOST 1048576: true; the input reads as it did. -/
def valueTypedUptoRow : OpenClaim := { program := "ytbhilmgpmebaiaa", sum := "21f632e75021c26a6266f4835936b474dce756220e1ba0a4c2274c6b17afac00", func := "touchmark/touchmarklaw08.ValueTyped", spec := "valueTyped", inPlace := ["internal/bytealg.abigen_runtime_cmpstring", "math/bits.Add64"], unfollowed := true, recurses := true, apart := false, narrowed := true }
def ValueTypedUptoSaid : Prop := valueTypedUptoRow.holds Try.pinned (OpenSpec.upto valueTypedSpec)

/-- 'touchmarklaw08.ValueLogic', WHERE WHAT IT READS IS OF BULK AT MOST 1048576: true; the input reads as it did. -/
def valueLogicUptoRow : OpenClaim := { program := "ytbhilmgpmebaiaa", sum := "21f632e75021c26a6266f4835936b474dce756220e1ba0a4c2274c6b17afac00", func := "touchmark/touchmarklaw08.ValueLogic", spec := "valueLogic", inPlace := ["internal/bytealg.abigen_runtime_cmpstring", "math/bits.Add64"], unfollowed := true, recurses := true, apart := false, narrowed := true }
def ValueLogicUptoSaid : Prop := valueLogicUptoRow.holds Try.pinned (OpenSpec.upto valueLogicSpec)

/-- 'touchmarklaw08.ValueShuffled', WHERE WHAT IT READS IS OF BULK AT MOST 1048576: true; the input reads as it did. -/
def valueShuffledUptoRow : OpenClaim := { program := "ytbhilmgpmebaiaa", sum := "21f632e75021c26a6266f4835936b474dce756220e1ba0a4c2274c6b17afac00", func := "touchmark/touchmarklaw08.ValueShuffled", spec := "valueShuffled", inPlace := ["internal/bytealg.abigen_runtime_cmpstring", "math/bits.Add64"], unfollowed := true, recurses := true, apart := false, narrowed := true }
def ValueShuffledUptoSaid : Prop := valueShuffledUptoRow.holds Try.pinned (OpenSpec.upto valueShuffledSpec)

/-- 'touchmarklaw08.ValueRounds', WHERE WHAT IT READS IS OF BULK AT MOST 1048576: true; the input reads as it did. -/
def valueRoundsUptoRow : OpenClaim := { program := "ytbhilmgpmebaiaa", sum := "21f632e75021c26a6266f4835936b474dce756220e1ba0a4c2274c6b17afac00", func := "touchmark/touchmarklaw08.ValueRounds", spec := "valueRounds", inPlace := ["internal/bytealg.abigen_runtime_cmpstring", "math/bits.Add64"], unfollowed := true, recurses := true, apart := false, narrowed := true }
def ValueRoundsUptoSaid : Prop := valueRoundsUptoRow.holds Try.pinned (OpenSpec.upto valueRoundsSpec)

end Rows
end Go.Proofs.Ytbhilmgpmebaiaa
