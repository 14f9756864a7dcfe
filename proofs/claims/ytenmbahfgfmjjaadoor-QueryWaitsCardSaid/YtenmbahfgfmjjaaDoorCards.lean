/-
  DERIVED. GIVEN WITH THE SEED: THE CARDS: each row of YtenmbahfgfmjjaaDoorRows.lean that lists a variable, with what it lists TIED to the program's text (the seventh form; the later family's looks); each row that meets fmt, with fmt's text TOLD by the authors' own Lean function (tested against real Go, not proved from fmt's source: count such statements apart). THE CARD IS WHAT COUNTS. Prove the row's statement (the work); the ties are given (YtenmbahfgfmjjaaDoorTie.lean); close each card by the builder's one call (the guide's Derived/Test/ToyasCard.lean, 'card_holds'). Laid BY PROGRAM, IN A SANDBOX (cutbox-door.mjs). By AI agents, Wed Nov 11 2026. No macro, syntax, notation, axiom, sorry.
-/
import Derived.Test.YtenmbahfgfmjjaaDoorRows
import GoSem.ClaimSeven
namespace Go.Proofs.YtenmbahfgfmjjaaDoor
namespace Rows

/-- THE TIED CARD OF 'marshallinglaw09.QueryPuts'. -/
def queryPutsCard : Claim7 := { stood := { row := queryPutsRow, standIns := [], harness := (true, "f1bf7d2246d41086563005aef9b5300350a0cec43959b94be78a602208d5e5fb"), looks := false }, kinds := [], alts := [], laidByText := true, laidKinds := [.data, .data, .data], laidTests := true, laidLooks := .later }
def QueryPutsCardSaid : Prop := Claim7.holds Tryd.pinned (.plain (OpenSpec.ofChange queryPutsSpec)) queryPutsCard

/-- THE TIED CARD OF 'marshallinglaw09.QueryInputs'. -/
def queryInputsCard : Claim7 := { stood := { row := queryInputsRow, standIns := [], harness := (true, "f1bf7d2246d41086563005aef9b5300350a0cec43959b94be78a602208d5e5fb"), looks := false }, kinds := [], alts := [], laidByText := true, laidKinds := [.data, .data, .data], laidTests := true, laidLooks := .later }
def QueryInputsCardSaid : Prop := Claim7.holds Tryd.pinned (.plain (OpenSpec.ofChange queryInputsSpec)) queryInputsCard

/-- THE TIED CARD OF 'marshallinglaw09.QueryWaits'. -/
def queryWaitsCard : Claim7 := { stood := { row := queryWaitsRow, standIns := [], harness := (true, "f1bf7d2246d41086563005aef9b5300350a0cec43959b94be78a602208d5e5fb"), looks := false }, kinds := [], alts := [], laidByText := true, laidKinds := [.data, .data, .data], laidTests := true, laidLooks := .later }
def QueryWaitsCardSaid : Prop := Claim7.holds Tryd.pinned (.plain (OpenSpec.ofChange queryWaitsSpec)) queryWaitsCard

/-- THE TIED CARD OF 'marshallinglaw09.QueryLimits'. -/
def queryLimitsCard : Claim7 := { stood := { row := queryLimitsRow, standIns := [], harness := (true, "f1bf7d2246d41086563005aef9b5300350a0cec43959b94be78a602208d5e5fb"), looks := false }, kinds := [], alts := [], laidByText := true, laidKinds := [.data, .data, .data], laidTests := true, laidLooks := .later }
def QueryLimitsCardSaid : Prop := Claim7.holds Tryd.pinned (.plain (OpenSpec.ofChange queryLimitsSpec)) queryLimitsCard

/-- THE SECOND FORM's CARD OF 'marshallinglaw09.QueryPuts'. -/
def queryPutsUptoCard : Claim7 := { stood := { row := queryPutsUptoRow, standIns := [], harness := (true, "f1bf7d2246d41086563005aef9b5300350a0cec43959b94be78a602208d5e5fb"), looks := false }, kinds := [], alts := [], laidByText := true, laidKinds := [.data, .data, .data], laidTests := true, laidLooks := .later }
def QueryPutsUptoCardSaid : Prop := Claim7.holds Tryd.pinned (.plain (OpenSpec.upto queryPutsSpec)) queryPutsUptoCard

/-- THE SECOND FORM's CARD OF 'marshallinglaw09.QueryInputs'. -/
def queryInputsUptoCard : Claim7 := { stood := { row := queryInputsUptoRow, standIns := [], harness := (true, "f1bf7d2246d41086563005aef9b5300350a0cec43959b94be78a602208d5e5fb"), looks := false }, kinds := [], alts := [], laidByText := true, laidKinds := [.data, .data, .data], laidTests := true, laidLooks := .later }
def QueryInputsUptoCardSaid : Prop := Claim7.holds Tryd.pinned (.plain (OpenSpec.upto queryInputsSpec)) queryInputsUptoCard

/-- THE SECOND FORM's CARD OF 'marshallinglaw09.QueryWaits'. -/
def queryWaitsUptoCard : Claim7 := { stood := { row := queryWaitsUptoRow, standIns := [], harness := (true, "f1bf7d2246d41086563005aef9b5300350a0cec43959b94be78a602208d5e5fb"), looks := false }, kinds := [], alts := [], laidByText := true, laidKinds := [.data, .data, .data], laidTests := true, laidLooks := .later }
def QueryWaitsUptoCardSaid : Prop := Claim7.holds Tryd.pinned (.plain (OpenSpec.upto queryWaitsSpec)) queryWaitsUptoCard

/-- THE SECOND FORM's CARD OF 'marshallinglaw09.QueryLimits'. -/
def queryLimitsUptoCard : Claim7 := { stood := { row := queryLimitsUptoRow, standIns := [], harness := (true, "f1bf7d2246d41086563005aef9b5300350a0cec43959b94be78a602208d5e5fb"), looks := false }, kinds := [], alts := [], laidByText := true, laidKinds := [.data, .data, .data], laidTests := true, laidLooks := .later }
def QueryLimitsUptoCardSaid : Prop := Claim7.holds Tryd.pinned (.plain (OpenSpec.upto queryLimitsSpec)) queryLimitsUptoCard
end Rows
end Go.Proofs.YtenmbahfgfmjjaaDoor
