/-
  DERIVED. GIVEN WITH THE SEED: THE CARDS: each row of YtkajpcjmcpollaaDoorRows.lean that lists a variable, with what it lists TIED to the program's text (the seventh form; the later family's looks); each row that meets fmt, with fmt's text TOLD by the authors' own Lean function (tested against real Go, not proved from fmt's source: count such statements apart). THE CARD IS WHAT COUNTS. Prove the row's statement (the work); the ties are given (YtkajpcjmcpollaaDoorTie.lean); close each card by the builder's one call (the guide's Derived/Test/ToyasCard.lean, 'card_holds'). Laid BY PROGRAM, IN A SANDBOX (cutbox-door.mjs). By AI agents, Wed Nov 11 2026. No macro, syntax, notation, axiom, sorry.
-/
import Derived.Test.YtkajpcjmcpollaaDoorRows
import GoSem.ClaimSeven
namespace Go.Proofs.YtkajpcjmcpollaaDoor
namespace Rows

/-- THE TIED CARD OF 'touchmarklaw03.CodeKeys'. -/
def codeKeysCard : Claim7 := { stood := { row := codeKeysRow, standIns := [], harness := (true, "32e455ba4cc725b819a019022193fbc963f04bc0eec6fc4654bc8116c3306059"), looks := false }, kinds := [], alts := [], laidByText := true, laidKinds := [.data], laidTests := true, laidLooks := .later }
def CodeKeysCardSaid : Prop := Claim7.holds Tryd.pinned (.plain (OpenSpec.ofChange codeKeysSpec)) codeKeysCard

/-- THE TIED CARD OF 'touchmarklaw03.CodeRows'. -/
def codeRowsCard : Claim7 := { stood := { row := codeRowsRow, standIns := [], harness := (true, "32e455ba4cc725b819a019022193fbc963f04bc0eec6fc4654bc8116c3306059"), looks := false }, kinds := [], alts := [], laidByText := true, laidKinds := [.data], laidTests := true, laidLooks := .later }
def CodeRowsCardSaid : Prop := Claim7.holds Tryd.pinned (.plain (OpenSpec.ofChange codeRowsSpec)) codeRowsCard

/-- THE TIED CARD OF 'touchmarklaw03.CodeOrders'. -/
def codeOrdersCard : Claim7 := { stood := { row := codeOrdersRow, standIns := [], harness := (true, "32e455ba4cc725b819a019022193fbc963f04bc0eec6fc4654bc8116c3306059"), looks := false }, kinds := [], alts := [], laidByText := true, laidKinds := [.data], laidTests := true, laidLooks := .later }
def CodeOrdersCardSaid : Prop := Claim7.holds Tryd.pinned (.plain (OpenSpec.ofChange codeOrdersSpec)) codeOrdersCard

/-- THE TIED CARD OF 'touchmarklaw03.CodeBack'. -/
def codeBackCard : Claim7 := { stood := { row := codeBackRow, standIns := [], harness := (true, "32e455ba4cc725b819a019022193fbc963f04bc0eec6fc4654bc8116c3306059"), looks := false }, kinds := [], alts := [], laidByText := true, laidKinds := [.data], laidTests := true, laidLooks := .later }
def CodeBackCardSaid : Prop := Claim7.holds Tryd.pinned (.plain (OpenSpec.ofChange codeBackSpec)) codeBackCard

/-- THE TIED CARD OF 'touchmarklaw03.CodeSeals'. -/
def codeSealsCard : Claim7 := { stood := { row := codeSealsRow, standIns := [], harness := (true, "32e455ba4cc725b819a019022193fbc963f04bc0eec6fc4654bc8116c3306059"), looks := false }, kinds := [], alts := [], laidByText := true, laidKinds := [.data], laidTests := true, laidLooks := .later }
def CodeSealsCardSaid : Prop := Claim7.holds Tryd.pinned (.plain (OpenSpec.ofChange codeSealsSpec)) codeSealsCard

/-- THE TIED CARD OF 'touchmarklaw03.CodeOpens'. -/
def codeOpensCard : Claim7 := { stood := { row := codeOpensRow, standIns := [], harness := (true, "32e455ba4cc725b819a019022193fbc963f04bc0eec6fc4654bc8116c3306059"), looks := false }, kinds := [], alts := [], laidByText := true, laidKinds := [.data], laidTests := true, laidLooks := .later }
def CodeOpensCardSaid : Prop := Claim7.holds Tryd.pinned (.plain (OpenSpec.ofChange codeOpensSpec)) codeOpensCard

/-- THE SECOND FORM's CARD OF 'touchmarklaw03.CodeKeys'. -/
def codeKeysUptoCard : Claim7 := { stood := { row := codeKeysUptoRow, standIns := [], harness := (true, "32e455ba4cc725b819a019022193fbc963f04bc0eec6fc4654bc8116c3306059"), looks := false }, kinds := [], alts := [], laidByText := true, laidKinds := [.data], laidTests := true, laidLooks := .later }
def CodeKeysUptoCardSaid : Prop := Claim7.holds Tryd.pinned (.plain (OpenSpec.upto codeKeysSpec)) codeKeysUptoCard

/-- THE SECOND FORM's CARD OF 'touchmarklaw03.CodeRows'. -/
def codeRowsUptoCard : Claim7 := { stood := { row := codeRowsUptoRow, standIns := [], harness := (true, "32e455ba4cc725b819a019022193fbc963f04bc0eec6fc4654bc8116c3306059"), looks := false }, kinds := [], alts := [], laidByText := true, laidKinds := [.data], laidTests := true, laidLooks := .later }
def CodeRowsUptoCardSaid : Prop := Claim7.holds Tryd.pinned (.plain (OpenSpec.upto codeRowsSpec)) codeRowsUptoCard

/-- THE SECOND FORM's CARD OF 'touchmarklaw03.CodeOrders'. -/
def codeOrdersUptoCard : Claim7 := { stood := { row := codeOrdersUptoRow, standIns := [], harness := (true, "32e455ba4cc725b819a019022193fbc963f04bc0eec6fc4654bc8116c3306059"), looks := false }, kinds := [], alts := [], laidByText := true, laidKinds := [.data], laidTests := true, laidLooks := .later }
def CodeOrdersUptoCardSaid : Prop := Claim7.holds Tryd.pinned (.plain (OpenSpec.upto codeOrdersSpec)) codeOrdersUptoCard

/-- THE SECOND FORM's CARD OF 'touchmarklaw03.CodeBack'. -/
def codeBackUptoCard : Claim7 := { stood := { row := codeBackUptoRow, standIns := [], harness := (true, "32e455ba4cc725b819a019022193fbc963f04bc0eec6fc4654bc8116c3306059"), looks := false }, kinds := [], alts := [], laidByText := true, laidKinds := [.data], laidTests := true, laidLooks := .later }
def CodeBackUptoCardSaid : Prop := Claim7.holds Tryd.pinned (.plain (OpenSpec.upto codeBackSpec)) codeBackUptoCard

/-- THE SECOND FORM's CARD OF 'touchmarklaw03.CodeSeals'. -/
def codeSealsUptoCard : Claim7 := { stood := { row := codeSealsUptoRow, standIns := [], harness := (true, "32e455ba4cc725b819a019022193fbc963f04bc0eec6fc4654bc8116c3306059"), looks := false }, kinds := [], alts := [], laidByText := true, laidKinds := [.data], laidTests := true, laidLooks := .later }
def CodeSealsUptoCardSaid : Prop := Claim7.holds Tryd.pinned (.plain (OpenSpec.upto codeSealsSpec)) codeSealsUptoCard

/-- THE SECOND FORM's CARD OF 'touchmarklaw03.CodeOpens'. -/
def codeOpensUptoCard : Claim7 := { stood := { row := codeOpensUptoRow, standIns := [], harness := (true, "32e455ba4cc725b819a019022193fbc963f04bc0eec6fc4654bc8116c3306059"), looks := false }, kinds := [], alts := [], laidByText := true, laidKinds := [.data], laidTests := true, laidLooks := .later }
def CodeOpensUptoCardSaid : Prop := Claim7.holds Tryd.pinned (.plain (OpenSpec.upto codeOpensSpec)) codeOpensUptoCard
end Rows
end Go.Proofs.YtkajpcjmcpollaaDoor
