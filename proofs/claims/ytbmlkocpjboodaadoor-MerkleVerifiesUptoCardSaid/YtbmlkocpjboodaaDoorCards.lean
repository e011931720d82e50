/-
  DERIVED. GIVEN WITH THE SEED: THE CARDS: each row of YtbmlkocpjboodaaDoorRows.lean that lists a variable, with what it lists TIED to the program's text (the seventh form; the later family's looks); each row that meets fmt, with fmt's text TOLD by the authors' own Lean function (tested against real Go, not proved from fmt's source: count such statements apart). THE CARD IS WHAT COUNTS. Prove the row's statement (the work); the ties are given (YtbmlkocpjboodaaDoorTie.lean); close each card by the builder's one call (the guide's Derived/Test/ToyasCard.lean, 'card_holds'). Laid BY PROGRAM, IN A SANDBOX (cutbox-door.mjs). By AI agents, Wed Nov 11 2026. No macro, syntax, notation, axiom, sorry.
-/
import Derived.Test.YtbmlkocpjboodaaDoorRows
import GoSem.ClaimSeven
namespace Go.Proofs.YtbmlkocpjboodaaDoor
namespace Rows

/-- THE TIED CARD OF 'touchmarklaw07.MerkleBuilds'. -/
def merkleBuildsCard : Claim7 := { stood := { row := merkleBuildsRow, standIns := [], harness := (true, "6f1a313c8484ee18c97019f05cb741aa0f436b312fc83901c794327b35e2808a"), looks := false }, kinds := [], alts := [], laidByText := true, laidKinds := [.data], laidTests := true, laidLooks := .later }
def MerkleBuildsCardSaid : Prop := Claim7.holds Tryd.pinned (.plain (OpenSpec.ofChange merkleBuildsSpec)) merkleBuildsCard

/-- THE TIED CARD OF 'touchmarklaw07.MerkleSets'. -/
def merkleSetsCard : Claim7 := { stood := { row := merkleSetsRow, standIns := [], harness := (true, "6f1a313c8484ee18c97019f05cb741aa0f436b312fc83901c794327b35e2808a"), looks := false }, kinds := [], alts := [], laidByText := true, laidKinds := [.data], laidTests := true, laidLooks := .later }
def MerkleSetsCardSaid : Prop := Claim7.holds Tryd.pinned (.plain (OpenSpec.ofChange merkleSetsSpec)) merkleSetsCard

/-- THE TIED CARD OF 'touchmarklaw07.MerkleVerifies'. -/
def merkleVerifiesCard : Claim7 := { stood := { row := merkleVerifiesRow, standIns := [], harness := (true, "6f1a313c8484ee18c97019f05cb741aa0f436b312fc83901c794327b35e2808a"), looks := false }, kinds := [], alts := [], laidByText := true, laidKinds := [.data], laidTests := true, laidLooks := .later }
def MerkleVerifiesCardSaid : Prop := Claim7.holds Tryd.pinned (.plain (OpenSpec.ofChange merkleVerifiesSpec)) merkleVerifiesCard

/-- THE TIED CARD OF 'touchmarklaw07.MerkleComplete'. -/
def merkleCompleteCard : Claim7 := { stood := { row := merkleCompleteRow, standIns := [], harness := (true, "6f1a313c8484ee18c97019f05cb741aa0f436b312fc83901c794327b35e2808a"), looks := false }, kinds := [], alts := [], laidByText := true, laidKinds := [.data], laidTests := true, laidLooks := .later }
def MerkleCompleteCardSaid : Prop := Claim7.holds Tryd.pinned (.plain (OpenSpec.ofChange merkleCompleteSpec)) merkleCompleteCard

/-- THE TIED CARD OF 'touchmarklaw07.MerkleSound'. -/
def merkleSoundCard : Claim7 := { stood := { row := merkleSoundRow, standIns := [], harness := (true, "6f1a313c8484ee18c97019f05cb741aa0f436b312fc83901c794327b35e2808a"), looks := false }, kinds := [], alts := [], laidByText := true, laidKinds := [.data], laidTests := true, laidLooks := .later }
def MerkleSoundCardSaid : Prop := Claim7.holds Tryd.pinned (.plain (OpenSpec.ofChange merkleSoundSpec)) merkleSoundCard

/-- THE TIED CARD OF 'touchmarklaw07.MerkleClash'. -/
def merkleClashCard : Claim7 := { stood := { row := merkleClashRow, standIns := [], harness := (true, "6f1a313c8484ee18c97019f05cb741aa0f436b312fc83901c794327b35e2808a"), looks := false }, kinds := [], alts := [], laidByText := true, laidKinds := [.data], laidTests := true, laidLooks := .later }
def MerkleClashCardSaid : Prop := Claim7.holds Tryd.pinned (.plain (OpenSpec.ofChange merkleClashSpec)) merkleClashCard

/-- THE SECOND FORM's CARD OF 'touchmarklaw07.MerkleBuilds'. -/
def merkleBuildsUptoCard : Claim7 := { stood := { row := merkleBuildsUptoRow, standIns := [], harness := (true, "6f1a313c8484ee18c97019f05cb741aa0f436b312fc83901c794327b35e2808a"), looks := false }, kinds := [], alts := [], laidByText := true, laidKinds := [.data], laidTests := true, laidLooks := .later }
def MerkleBuildsUptoCardSaid : Prop := Claim7.holds Tryd.pinned (.plain (OpenSpec.upto merkleBuildsSpec)) merkleBuildsUptoCard

/-- THE SECOND FORM's CARD OF 'touchmarklaw07.MerkleSets'. -/
def merkleSetsUptoCard : Claim7 := { stood := { row := merkleSetsUptoRow, standIns := [], harness := (true, "6f1a313c8484ee18c97019f05cb741aa0f436b312fc83901c794327b35e2808a"), looks := false }, kinds := [], alts := [], laidByText := true, laidKinds := [.data], laidTests := true, laidLooks := .later }
def MerkleSetsUptoCardSaid : Prop := Claim7.holds Tryd.pinned (.plain (OpenSpec.upto merkleSetsSpec)) merkleSetsUptoCard

/-- THE SECOND FORM's CARD OF 'touchmarklaw07.MerkleVerifies'. -/
def merkleVerifiesUptoCard : Claim7 := { stood := { row := merkleVerifiesUptoRow, standIns := [], harness := (true, "6f1a313c8484ee18c97019f05cb741aa0f436b312fc83901c794327b35e2808a"), looks := false }, kinds := [], alts := [], laidByText := true, laidKinds := [.data], laidTests := true, laidLooks := .later }
def MerkleVerifiesUptoCardSaid : Prop := Claim7.holds Tryd.pinned (.plain (OpenSpec.upto merkleVerifiesSpec)) merkleVerifiesUptoCard

/-- THE SECOND FORM's CARD OF 'touchmarklaw07.MerkleComplete'. -/
def merkleCompleteUptoCard : Claim7 := { stood := { row := merkleCompleteUptoRow, standIns := [], harness := (true, "6f1a313c8484ee18c97019f05cb741aa0f436b312fc83901c794327b35e2808a"), looks := false }, kinds := [], alts := [], laidByText := true, laidKinds := [.data], laidTests := true, laidLooks := .later }
def MerkleCompleteUptoCardSaid : Prop := Claim7.holds Tryd.pinned (.plain (OpenSpec.upto merkleCompleteSpec)) merkleCompleteUptoCard

/-- THE SECOND FORM's CARD OF 'touchmarklaw07.MerkleSound'. -/
def merkleSoundUptoCard : Claim7 := { stood := { row := merkleSoundUptoRow, standIns := [], harness := (true, "6f1a313c8484ee18c97019f05cb741aa0f436b312fc83901c794327b35e2808a"), looks := false }, kinds := [], alts := [], laidByText := true, laidKinds := [.data], laidTests := true, laidLooks := .later }
def MerkleSoundUptoCardSaid : Prop := Claim7.holds Tryd.pinned (.plain (OpenSpec.upto merkleSoundSpec)) merkleSoundUptoCard

/-- THE SECOND FORM's CARD OF 'touchmarklaw07.MerkleClash'. -/
def merkleClashUptoCard : Claim7 := { stood := { row := merkleClashUptoRow, standIns := [], harness := (true, "6f1a313c8484ee18c97019f05cb741aa0f436b312fc83901c794327b35e2808a"), looks := false }, kinds := [], alts := [], laidByText := true, laidKinds := [.data], laidTests := true, laidLooks := .later }
def MerkleClashUptoCardSaid : Prop := Claim7.holds Tryd.pinned (.plain (OpenSpec.upto merkleClashSpec)) merkleClashUptoCard
end Rows
end Go.Proofs.YtbmlkocpjboodaaDoor
