/-
  No cell of these rows narrows 'for every input' (looked for: loops, veiled, ifaces, maps, wideKeys, modest, calm, conditions, laid).
  DERIVED. THE GIVEN ROWS OF THIS SEAT. 3 by the template 'for every input the law returns true; each argument reads behind the call as it read before'; 0 by the template 'total and deterministic' (their statements: YtdkjkibdncbibaaGreatTotals.lean).
  GIVEN WITH THE SEED: the statements are not yours to turn. If you find one false, say at which input.
  Laid BY PROGRAM, IN A SANDBOX (cutbox-rows.mjs): the forced cells as the released guide's own fill.sh prints them over the translation 802df0efedb7b7f1… (all of the seat's roots in one cut). By AI agents, Wed Nov 11 2026. No macro, syntax, notation, axiom, sorry.
-/
import Derived.Test.YtdkjkibdncbibaaGreatChecked
import GoSem.Claim
import GoSem.ClaimJoined
import GoSem.ClaimMapViews
import Derived.JoinedTies
import Derived.KernelRfl
namespace Go.Proofs.YtdkjkibdncbibaaGreat
/- THE CELL 'sum', in the pinned program and in every row, IS THE sha256 OF THE DUMP (.gsa) THAT YtdkjkibdncbibaaGreatProg.lean LOADS. Nothing in Lean hashes anything: it is a label: what it is worth is what the hold of that sum in a sandbox is worth. -/
noncomputable def Tryz.pinned : Pinned := { name := "ytdkjkibdncbibaagreat", sum := "802df0efedb7b7f15452909279448cb6f8be20685a71309f1bb520c06649cd11", checked := Tryz.checked }
namespace Rows
def none {H : Type} : Left H := { results := [], args := [] }

/-- 'touchmarklaw05.PageDoes': WHATEVER THE INPUT: true; the input reads as it did. -/
def pageDoesSpec : ChangeSpec := { name := "pageDoes", fn := fun _ => fun
  | [d1, d2, d3, d4, d5] => { results := [.lit (.bool true)], args := [d1, d2, d3, d4, d5] }
  | _ => none }
def pageDoesRow : OpenClaim := { program := "ytdkjkibdncbibaagreat", sum := "802df0efedb7b7f15452909279448cb6f8be20685a71309f1bb520c06649cd11", func := "touchmark/touchmarklaw05.PageDoes", spec := "pageDoes", inPlace := ["maps.clone"], unfollowed := true, recurses := true, apart := false }
def PageDoesSaid : Prop := pageDoesRow.holds Tryz.pinned (OpenSpec.ofChange pageDoesSpec)

/-- ITS FALSE NEIGHBOUR: 'it returns false'. Refute it at one input. -/
def pageDoesWrong : ChangeSpec := { name := "pageDoes", fn := fun _ => fun
  | [d1, d2, d3, d4, d5] => { results := [.lit (.bool false)], args := [d1, d2, d3, d4, d5] }
  | _ => none }
def PageDoesWrongFalsely : Prop := pageDoesRow.holds Tryz.pinned (OpenSpec.ofChange pageDoesWrong)

/-- 'touchmarklaw05.PageCrash': WHATEVER THE INPUT: true; the input reads as it did. -/
def pageCrashSpec : ChangeSpec := { name := "pageCrash", fn := fun _ => fun
  | [d1, d2, d3, d4, d5, d6] => { results := [.lit (.bool true)], args := [d1, d2, d3, d4, d5, d6] }
  | _ => none }
def pageCrashRow : OpenClaim := { program := "ytdkjkibdncbibaagreat", sum := "802df0efedb7b7f15452909279448cb6f8be20685a71309f1bb520c06649cd11", func := "touchmark/touchmarklaw05.PageCrash", spec := "pageCrash", inPlace := ["maps.clone"], unfollowed := true, recurses := true, apart := false }
def PageCrashSaid : Prop := pageCrashRow.holds Tryz.pinned (OpenSpec.ofChange pageCrashSpec)

/-- ITS FALSE NEIGHBOUR: 'it returns false'. Refute it at one input. -/
def pageCrashWrong : ChangeSpec := { name := "pageCrash", fn := fun _ => fun
  | [d1, d2, d3, d4, d5, d6] => { results := [.lit (.bool false)], args := [d1, d2, d3, d4, d5, d6] }
  | _ => none }
def PageCrashWrongFalsely : Prop := pageCrashRow.holds Tryz.pinned (OpenSpec.ofChange pageCrashWrong)

/-- 'touchmarklaw05.PageFull': WHATEVER THE INPUT: true; the input reads as it did. -/
def pageFullSpec : ChangeSpec := { name := "pageFull", fn := fun _ => fun
  | [d1, d2, d3] => { results := [.lit (.bool true)], args := [d1, d2, d3] }
  | _ => none }
def pageFullRow : OpenClaim := { program := "ytdkjkibdncbibaagreat", sum := "802df0efedb7b7f15452909279448cb6f8be20685a71309f1bb520c06649cd11", func := "touchmark/touchmarklaw05.PageFull", spec := "pageFull", inPlace := ["maps.clone"], unfollowed := true, recurses := true, apart := false }
def PageFullSaid : Prop := pageFullRow.holds Tryz.pinned (OpenSpec.ofChange pageFullSpec)

/-- ITS FALSE NEIGHBOUR: 'it returns false'. Refute it at one input. -/
def pageFullWrong : ChangeSpec := { name := "pageFull", fn := fun _ => fun
  | [d1, d2, d3] => { results := [.lit (.bool false)], args := [d1, d2, d3] }
  | _ => none }
def PageFullWrongFalsely : Prop := pageFullRow.holds Tryz.pinned (OpenSpec.ofChange pageFullWrong)

/- THE SECOND FORM. 'bulk': how many values and letters a reading holds, each counted each time it is reached (what is shared counts as often as it is met; a slice's spare places count too). A statement '..UptoSaid' is the law's where the arguments, and the package variables that the reading takes, are together of bulk at most 1048576: NARROWER than '..Said'. Prove '..Said' where nothing that the law and all that it calls make is longer than what came in: it says more and counts as full. Else prove '..UptoSaid'. A law counts once. -/
mutual
def uptoBulk {H : Type} : DataW H → Nat
  | .lit (.string bytes) => bytes.length + 1
  | .lit _ => 1
  | .nil => 1
  | .ptr d => uptoBulk d + 1
  | .slice elems spare => uptoBulkAll elems + uptoBulkAll spare + 1
  | .agg parts => uptoBulkAll parts + 1
  | .iface _ d => uptoBulk d + 1
  | .map entries => uptoBulkEntries entries + 1
  | .held _ => 1
def uptoBulkAll {H : Type} : List (DataW H) → Nat
  | [] => 0
  | d :: r => uptoBulk d + uptoBulkAll r
def uptoBulkEntries {H : Type} : List (Lit × DataW H) → Nat
  | [] => 0
  | x :: r => uptoBulkEntry x + uptoBulkEntries r
def uptoBulkEntry {H : Type} : Lit × DataW H → Nat
  | (.string bytes, d) => bytes.length + uptoBulk d + 1
  | (_, d) => uptoBulk d + 1
 end
def uptoSmall : (H : Type) → List (DataW H) → Bool := fun _ ds => decide (uptoBulkAll ds ≤ 1048576)
def OpenSpec.upto (s : _root_.Go.ChangeSpec) : _root_.Go.OpenSpec := { _root_.Go.OpenSpec.ofChange s with cond := some uptoSmall }

/-- 'touchmarklaw05.PageDoes', WHERE WHAT IT READS IS OF BULK AT MOST 1048576: true; the input reads as it did. -/
def pageDoesUptoRow : OpenClaim := { program := "ytdkjkibdncbibaagreat", sum := "802df0efedb7b7f15452909279448cb6f8be20685a71309f1bb520c06649cd11", func := "touchmark/touchmarklaw05.PageDoes", spec := "pageDoes", inPlace := ["maps.clone"], unfollowed := true, recurses := true, apart := false, narrowed := true }
def PageDoesUptoSaid : Prop := pageDoesUptoRow.holds Tryz.pinned (OpenSpec.upto pageDoesSpec)

/-- 'touchmarklaw05.PageCrash', WHERE WHAT IT READS IS OF BULK AT MOST 1048576: true; the input reads as it did. -/
def pageCrashUptoRow : OpenClaim := { program := "ytdkjkibdncbibaagreat", sum := "802df0efedb7b7f15452909279448cb6f8be20685a71309f1bb520c06649cd11", func := "touchmark/touchmarklaw05.PageCrash", spec := "pageCrash", inPlace := ["maps.clone"], unfollowed := true, recurses := true, apart := false, narrowed := true }
def PageCrashUptoSaid : Prop := pageCrashUptoRow.holds Tryz.pinned (OpenSpec.upto pageCrashSpec)

/-- 'touchmarklaw05.PageFull', WHERE WHAT IT READS IS OF BULK AT MOST 1048576: true; the input reads as it did. -/
def pageFullUptoRow : OpenClaim := { program := "ytdkjkibdncbibaagreat", sum := "802df0efedb7b7f15452909279448cb6f8be20685a71309f1bb520c06649cd11", func := "touchmark/touchmarklaw05.PageFull", spec := "pageFull", inPlace := ["maps.clone"], unfollowed := true, recurses := true, apart := false, narrowed := true }
def PageFullUptoSaid : Prop := pageFullUptoRow.holds Tryz.pinned (OpenSpec.upto pageFullSpec)

end Rows
end Go.Proofs.YtdkjkibdncbibaaGreat
