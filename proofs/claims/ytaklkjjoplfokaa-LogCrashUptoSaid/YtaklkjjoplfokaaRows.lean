/-
  No cell of these rows narrows 'for every input' (looked for: loops, veiled, ifaces, maps, wideKeys, modest, calm, conditions, laid).
  DERIVED. THE GIVEN ROWS OF THIS SEAT. 8 by the template 'for every input the law returns true; each argument reads behind the call as it read before'; 0 by the template 'total and deterministic' (their statements: YtaklkjjoplfokaaTotals.lean).
  GIVEN WITH THE SEED: the statements are not yours to turn. If you find one false, say at which input.
  Laid BY PROGRAM, IN A SANDBOX (cutbox-rows.mjs): the forced cells as the released guide's own fill.sh prints them over the translation 46667bccb57cad18… (all of the seat's roots in one cut). By AI agents, Wed Nov 11 2026. No macro, syntax, notation, axiom, sorry.
-/
import Derived.Test.YtaklkjjoplfokaaChecked
import GoSem.Claim
import GoSem.ClaimJoined
import GoSem.ClaimMapViews
import Derived.JoinedTies
import Derived.KernelRfl
namespace Go.Proofs.Ytaklkjjoplfokaa
/- THE CELL 'sum', in the pinned program and in every row, IS THE sha256 OF THE DUMP (.gsa) THAT YtaklkjjoplfokaaProg.lean LOADS. Nothing in Lean hashes anything: it is a label: what it is worth is what the hold of that sum in a sandbox is worth. -/
noncomputable def Try.pinned : Pinned := { name := "ytaklkjjoplfokaa", sum := "46667bccb57cad18e635a0f1f9ed0f6fbf801fb2a925022076e1a28a330cf1ba", checked := Try.checked }
namespace Rows
def none {H : Type} : Left H := { results := [], args := [] }

/-- 'touchmarklaw02.DiskDoes': WHATEVER THE INPUT: true; the input reads as it did. -/
def diskDoesSpec : ChangeSpec := { name := "diskDoes", fn := fun _ => fun
  | [d1, d2] => { results := [.lit (.bool true)], args := [d1, d2] }
  | _ => none }
def diskDoesRow : OpenClaim := { program := "ytaklkjjoplfokaa", sum := "46667bccb57cad18e635a0f1f9ed0f6fbf801fb2a925022076e1a28a330cf1ba", func := "touchmark/touchmarklaw02.DiskDoes", spec := "diskDoes", apart := false }
def DiskDoesSaid : Prop := diskDoesRow.holds Try.pinned (OpenSpec.ofChange diskDoesSpec)

/-- ITS FALSE NEIGHBOUR: 'it returns false'. Refute it at one input. -/
def diskDoesWrong : ChangeSpec := { name := "diskDoes", fn := fun _ => fun
  | [d1, d2] => { results := [.lit (.bool false)], args := [d1, d2] }
  | _ => none }
def DiskDoesWrongFalsely : Prop := diskDoesRow.holds Try.pinned (OpenSpec.ofChange diskDoesWrong)

/-- 'touchmarklaw02.DiskFirm': WHATEVER THE INPUT: true; the input reads as it did. -/
def diskFirmSpec : ChangeSpec := { name := "diskFirm", fn := fun _ => fun
  | [d1, d2, d3] => { results := [.lit (.bool true)], args := [d1, d2, d3] }
  | _ => none }
def diskFirmRow : OpenClaim := { program := "ytaklkjjoplfokaa", sum := "46667bccb57cad18e635a0f1f9ed0f6fbf801fb2a925022076e1a28a330cf1ba", func := "touchmark/touchmarklaw02.DiskFirm", spec := "diskFirm", apart := false }
def DiskFirmSaid : Prop := diskFirmRow.holds Try.pinned (OpenSpec.ofChange diskFirmSpec)

/-- ITS FALSE NEIGHBOUR: 'it returns false'. Refute it at one input. -/
def diskFirmWrong : ChangeSpec := { name := "diskFirm", fn := fun _ => fun
  | [d1, d2, d3] => { results := [.lit (.bool false)], args := [d1, d2, d3] }
  | _ => none }
def DiskFirmWrongFalsely : Prop := diskFirmRow.holds Try.pinned (OpenSpec.ofChange diskFirmWrong)

/-- 'touchmarklaw02.DiskFuse': WHATEVER THE INPUT: true; the input reads as it did. -/
def diskFuseSpec : ChangeSpec := { name := "diskFuse", fn := fun _ => fun
  | [d1, d2] => { results := [.lit (.bool true)], args := [d1, d2] }
  | _ => none }
def diskFuseRow : OpenClaim := { program := "ytaklkjjoplfokaa", sum := "46667bccb57cad18e635a0f1f9ed0f6fbf801fb2a925022076e1a28a330cf1ba", func := "touchmark/touchmarklaw02.DiskFuse", spec := "diskFuse", apart := false }
def DiskFuseSaid : Prop := diskFuseRow.holds Try.pinned (OpenSpec.ofChange diskFuseSpec)

/-- ITS FALSE NEIGHBOUR: 'it returns false'. Refute it at one input. -/
def diskFuseWrong : ChangeSpec := { name := "diskFuse", fn := fun _ => fun
  | [d1, d2] => { results := [.lit (.bool false)], args := [d1, d2] }
  | _ => none }
def DiskFuseWrongFalsely : Prop := diskFuseRow.holds Try.pinned (OpenSpec.ofChange diskFuseWrong)

/-- 'touchmarklaw04.LogDoes': WHATEVER THE INPUT: true; the input reads as it did. -/
def logDoesSpec : ChangeSpec := { name := "logDoes", fn := fun _ => fun
  | [d1, d2, d3, d4] => { results := [.lit (.bool true)], args := [d1, d2, d3, d4] }
  | _ => none }
def logDoesRow : OpenClaim := { program := "ytaklkjjoplfokaa", sum := "46667bccb57cad18e635a0f1f9ed0f6fbf801fb2a925022076e1a28a330cf1ba", func := "touchmark/touchmarklaw04.LogDoes", spec := "logDoes", apart := false }
def LogDoesSaid : Prop := logDoesRow.holds Try.pinned (OpenSpec.ofChange logDoesSpec)

/-- ITS FALSE NEIGHBOUR: 'it returns false'. Refute it at one input. -/
def logDoesWrong : ChangeSpec := { name := "logDoes", fn := fun _ => fun
  | [d1, d2, d3, d4] => { results := [.lit (.bool false)], args := [d1, d2, d3, d4] }
  | _ => none }
def LogDoesWrongFalsely : Prop := logDoesRow.holds Try.pinned (OpenSpec.ofChange logDoesWrong)

/-- 'touchmarklaw04.LogCrash': WHATEVER THE INPUT: true; the input reads as it did. -/
def logCrashSpec : ChangeSpec := { name := "logCrash", fn := fun _ => fun
  | [d1, d2, d3, d4, d5] => { results := [.lit (.bool true)], args := [d1, d2, d3, d4, d5] }
  | _ => none }
def logCrashRow : OpenClaim := { program := "ytaklkjjoplfokaa", sum := "46667bccb57cad18e635a0f1f9ed0f6fbf801fb2a925022076e1a28a330cf1ba", func := "touchmark/touchmarklaw04.LogCrash", spec := "logCrash", apart := false }
def LogCrashSaid : Prop := logCrashRow.holds Try.pinned (OpenSpec.ofChange logCrashSpec)

/-- ITS FALSE NEIGHBOUR: 'it returns false'. Refute it at one input. -/
def logCrashWrong : ChangeSpec := { name := "logCrash", fn := fun _ => fun
  | [d1, d2, d3, d4, d5] => { results := [.lit (.bool false)], args := [d1, d2, d3, d4, d5] }
  | _ => none }
def LogCrashWrongFalsely : Prop := logCrashRow.holds Try.pinned (OpenSpec.ofChange logCrashWrong)

/-- 'touchmarklaw04.LogFull': WHATEVER THE INPUT: true; the input reads as it did. -/
def logFullSpec : ChangeSpec := { name := "logFull", fn := fun _ => fun
  | [d1, d2, d3] => { results := [.lit (.bool true)], args := [d1, d2, d3] }
  | _ => none }
def logFullRow : OpenClaim := { program := "ytaklkjjoplfokaa", sum := "46667bccb57cad18e635a0f1f9ed0f6fbf801fb2a925022076e1a28a330cf1ba", func := "touchmark/touchmarklaw04.LogFull", spec := "logFull", apart := false }
def LogFullSaid : Prop := logFullRow.holds Try.pinned (OpenSpec.ofChange logFullSpec)

/-- ITS FALSE NEIGHBOUR: 'it returns false'. Refute it at one input. -/
def logFullWrong : ChangeSpec := { name := "logFull", fn := fun _ => fun
  | [d1, d2, d3] => { results := [.lit (.bool false)], args := [d1, d2, d3] }
  | _ => none }
def LogFullWrongFalsely : Prop := logFullRow.holds Try.pinned (OpenSpec.ofChange logFullWrong)

/-- 'touchmarklaw04.LogOld': WHATEVER THE INPUT: true; the input reads as it did. -/
def logOldSpec : ChangeSpec := { name := "logOld", fn := fun _ => fun
  | [d1, d2, d3] => { results := [.lit (.bool true)], args := [d1, d2, d3] }
  | _ => none }
def logOldRow : OpenClaim := { program := "ytaklkjjoplfokaa", sum := "46667bccb57cad18e635a0f1f9ed0f6fbf801fb2a925022076e1a28a330cf1ba", func := "touchmark/touchmarklaw04.LogOld", spec := "logOld", apart := false }
def LogOldSaid : Prop := logOldRow.holds Try.pinned (OpenSpec.ofChange logOldSpec)

/-- ITS FALSE NEIGHBOUR: 'it returns false'. Refute it at one input. -/
def logOldWrong : ChangeSpec := { name := "logOld", fn := fun _ => fun
  | [d1, d2, d3] => { results := [.lit (.bool false)], args := [d1, d2, d3] }
  | _ => none }
def LogOldWrongFalsely : Prop := logOldRow.holds Try.pinned (OpenSpec.ofChange logOldWrong)

/-- 'touchmarklaw05.PageHeld': WHATEVER THE INPUT: true; the input reads as it did. -/
def pageHeldSpec : ChangeSpec := { name := "pageHeld", fn := fun _ => fun
  | [d1, d2, d3, d4] => { results := [.lit (.bool true)], args := [d1, d2, d3, d4] }
  | _ => none }
def pageHeldRow : OpenClaim := { program := "ytaklkjjoplfokaa", sum := "46667bccb57cad18e635a0f1f9ed0f6fbf801fb2a925022076e1a28a330cf1ba", func := "touchmark/touchmarklaw05.PageHeld", spec := "pageHeld", inPlace := ["maps.clone"], unfollowed := true, recurses := true, apart := false }
def PageHeldSaid : Prop := pageHeldRow.holds Try.pinned (OpenSpec.ofChange pageHeldSpec)

/-- ITS FALSE NEIGHBOUR: 'it returns false'. Refute it at one input. -/
def pageHeldWrong : ChangeSpec := { name := "pageHeld", fn := fun _ => fun
  | [d1, d2, d3, d4] => { results := [.lit (.bool false)], args := [d1, d2, d3, d4] }
  | _ => none }
def PageHeldWrongFalsely : Prop := pageHeldRow.holds Try.pinned (OpenSpec.ofChange pageHeldWrong)

/- THE SECOND FORM. 'bulk': how many values and letters a reading holds, each counted each time it is reached (what is shared counts as often as it is met; a slice's spare places count too). A statement '..UptoSaid' is the law's where the arguments, and the package variables that the reading takes, are together of bulk at most 1048576: NARROWER than '..Said'. Prove '..Said' where nothing that the law and all that it calls make is longer than what came in: it says more and counts as full. Else prove '..UptoSaid'. A law counts once. -/
mutual
def uptoBulk {H : Type} : DataW H → Nat
  | .lit (.string bytes) => bytes.length + 1
  | .lit _ => 1
  | .nil => 1
  | .ptr d => uptoBulk d + 1
  | .slice elems spare => uptoBulkAll elems + uptoBulkAll spare + 1
  | .agg parts => uptoBulkAll parts + 1
  | .iface _ d => uptoBulk d + 1
  | .map entries => uptoBulkEntries entries + 1
  | .held _ => 1
def uptoBulkAll {H : Type} : List (DataW H) → Nat
  | [] => 0
  | d :: r => uptoBulk d + uptoBulkAll r
def uptoBulkEntries {H : Type} : List (Lit × DataW H) → Nat
  | [] => 0
  | x :: r => uptoBulkEntry x + uptoBulkEntries r
def uptoBulkEntry {H : Type} : Lit × DataW H → Nat
  | (.string bytes, d) => bytes.length + uptoBulk d + 1
  | (_, d) => uptoBulk d + 1
 end
def uptoSmall : (H : Type) → List (DataW H) → Bool := fun _ ds => decide (uptoBulkAll ds ≤ 1048576)
def OpenSpec.upto (s : _root_.Go.ChangeSpec) : _root_.Go.OpenSpec := { _root_.Go.OpenSpec.ofChange s with cond := some uptoSmall }

/-- 'touchmarklaw02.DiskDoes', WHERE WHAT IT READS IS OF BULK AT MOST 1048576: true; the input reads as it did. -/
def diskDoesUptoRow : OpenClaim := { program := "ytaklkjjoplfokaa", sum := "46667bccb57cad18e635a0f1f9ed0f6fbf801fb2a925022076e1a28a330cf1ba", func := "touchmark/touchmarklaw02.DiskDoes", spec := "diskDoes", apart := false, narrowed := true }
def DiskDoesUptoSaid : Prop := diskDoesUptoRow.holds Try.pinned (OpenSpec.upto diskDoesSpec)

/-- 'touchmarklaw02.DiskFirm', WHERE WHAT IT READS IS OF BULK AT MOST 1048576: true; the input reads as it did. -/
def diskFirmUptoRow : OpenClaim := { program := "ytaklkjjoplfokaa", sum := "46667bccb57cad18e635a0f1f9ed0f6fbf801fb2a925022076e1a28a330cf1ba", func := "touchmark/touchmarklaw02.DiskFirm", spec := "diskFirm", apart := false, narrowed := true }
def DiskFirmUptoSaid : Prop := diskFirmUptoRow.holds Try.pinned (OpenSpec.upto diskFirmSpec)

/-- 'touchmarklaw02.DiskFuse', WHERE WHAT IT READS IS OF BULK AT MOST 1048576: true; the input reads as it did. -/
def diskFuseUptoRow : OpenClaim := { program := "ytaklkjjoplfokaa", sum := "46667bccb57cad18e635a0f1f9ed0f6fbf801fb2a925022076e1a28a330cf1ba", func := "touchmark/touchmarklaw02.DiskFuse", spec := "diskFuse", apart := false, narrowed := true }
def DiskFuseUptoSaid : Prop := diskFuseUptoRow.holds Try.pinned (OpenSpec.upto diskFuseSpec)

/-- 'touchmarklaw04.LogDoes', WHERE WHAT IT READS IS OF BULK AT MOST 1048576: true; the input reads as it did. -/
def logDoesUptoRow : OpenClaim := { program := "ytaklkjjoplfokaa", sum := "46667bccb57cad18e635a0f1f9ed0f6fbf801fb2a925022076e1a28a330cf1ba", func := "touchmark/touchmarklaw04.LogDoes", spec := "logDoes", apart := false, narrowed := true }
def LogDoesUptoSaid : Prop := logDoesUptoRow.holds Try.pinned (OpenSpec.upto logDoesSpec)

/-- 'touchmarklaw04.LogCrash', WHERE WHAT IT READS IS OF BULK AT MOST 1048576: true; the input reads as it did. -/
def logCrashUptoRow : OpenClaim := { program := "ytaklkjjoplfokaa", sum := "46667bccb57cad18e635a0f1f9ed0f6fbf801fb2a925022076e1a28a330cf1ba", func := "touchmark/touchmarklaw04.LogCrash", spec := "logCrash", apart := false, narrowed := true }
def LogCrashUptoSaid : Prop := logCrashUptoRow.holds Try.pinned (OpenSpec.upto logCrashSpec)

/-- 'touchmarklaw04.LogFull', WHERE WHAT IT READS IS OF BULK AT MOST 1048576: true; the input reads as it did. -/
def logFullUptoRow : OpenClaim := { program := "ytaklkjjoplfokaa", sum := "46667bccb57cad18e635a0f1f9ed0f6fbf801fb2a925022076e1a28a330cf1ba", func := "touchmark/touchmarklaw04.LogFull", spec := "logFull", apart := false, narrowed := true }
def LogFullUptoSaid : Prop := logFullUptoRow.holds Try.pinned (OpenSpec.upto logFullSpec)

/-- 'touchmarklaw04.LogOld', WHERE WHAT IT READS IS OF BULK AT MOST 1048576: true; the input reads as it did. -/
def logOldUptoRow : OpenClaim := { program := "ytaklkjjoplfokaa", sum := "46667bccb57cad18e635a0f1f9ed0f6fbf801fb2a925022076e1a28a330cf1ba", func := "touchmark/touchmarklaw04.LogOld", spec := "logOld", apart := false, narrowed := true }
def LogOldUptoSaid : Prop := logOldUptoRow.holds Try.pinned (OpenSpec.upto logOldSpec)

/-- 'touchmarklaw05.PageHeld', WHERE WHAT IT READS IS OF BULK AT MOST 1048576: true; the input reads as it did. -/
def pageHeldUptoRow : OpenClaim := { program := "ytaklkjjoplfokaa", sum := "46667bccb57cad18e635a0f1f9ed0f6fbf801fb2a925022076e1a28a330cf1ba", func := "touchmark/touchmarklaw05.PageHeld", spec := "pageHeld", inPlace := ["maps.clone"], unfollowed := true, recurses := true, apart := false, narrowed := true }
def PageHeldUptoSaid : Prop := pageHeldUptoRow.holds Try.pinned (OpenSpec.upto pageHeldSpec)

end Rows
end Go.Proofs.Ytaklkjjoplfokaa
