/-
  DERIVED. GIVEN WITH THE SEED: THE CARDS: each row of YtmajalobkcnobaaDoorRows.lean that lists a variable, with what it lists TIED to the program's text (the seventh form; the later family's looks); each row that meets fmt, with fmt's text TOLD by the authors' own Lean function (tested against real Go, not proved from fmt's source: count such statements apart). THE CARD IS WHAT COUNTS. Prove the row's statement (the work); the ties are given (YtmajalobkcnobaaDoorTie.lean); close each card by the builder's one call (the guide's Derived/Test/ToyasCard.lean, 'card_holds'). Laid BY PROGRAM, IN A SANDBOX (cutbox-door.mjs). By AI agents, Wed Nov 11 2026. No macro, syntax, notation, axiom, sorry.
-/
import Derived.Test.YtmajalobkcnobaaDoorRows
import GoSem.ClaimSeven
namespace Go.Proofs.YtmajalobkcnobaaDoor
namespace Rows

/-- THE TIED CARD OF 'leafmeshlaw03.CommNames'. -/
def commNamesCard : Claim7 := { stood := { row := commNamesRow, standIns := [], harness := (true, "70d2f0137d027b1c53b542ae8374976dc9d796eceed4fa4216a4b51fdcf2a092"), looks := false }, kinds := [], alts := [], laidByText := true, laidKinds := [.data], laidTests := true, laidLooks := .later }
def CommNamesCardSaid : Prop := Claim7.holds Tryd.pinned (.plain (OpenSpec.ofChange commNamesSpec)) commNamesCard

/-- THE TIED CARD OF 'leafmeshlaw03.CommCalls'. -/
def commCallsCard : Claim7 := { stood := { row := commCallsRow, standIns := [], harness := (true, "70d2f0137d027b1c53b542ae8374976dc9d796eceed4fa4216a4b51fdcf2a092"), looks := false }, kinds := [], alts := [], laidByText := true, laidKinds := [.data], laidTests := true, laidLooks := .later }
def CommCallsCardSaid : Prop := Claim7.holds Tryd.pinned (.plain (OpenSpec.ofChange commCallsSpec)) commCallsCard

/-- THE TIED CARD OF 'leafmeshlaw03.CommLists'. -/
def commListsCard : Claim7 := { stood := { row := commListsRow, standIns := [], harness := (true, "70d2f0137d027b1c53b542ae8374976dc9d796eceed4fa4216a4b51fdcf2a092"), looks := false }, kinds := [], alts := [], laidByText := true, laidKinds := [.data], laidTests := true, laidLooks := .later }
def CommListsCardSaid : Prop := Claim7.holds Tryd.pinned (.plain (OpenSpec.ofChange commListsSpec)) commListsCard

/-- THE TIED CARD OF 'leafmeshlaw03.CommBack'. -/
def commBackCard : Claim7 := { stood := { row := commBackRow, standIns := [], harness := (true, "70d2f0137d027b1c53b542ae8374976dc9d796eceed4fa4216a4b51fdcf2a092"), looks := false }, kinds := [], alts := [], laidByText := true, laidKinds := [.data], laidTests := true, laidLooks := .later }
def CommBackCardSaid : Prop := Claim7.holds Tryd.pinned (.plain (OpenSpec.ofChange commBackSpec)) commBackCard

/-- THE TIED CARD OF 'leafmeshlaw03.CommSorts'. -/
def commSortsCard : Claim7 := { stood := { row := commSortsRow, standIns := [], harness := (true, "70d2f0137d027b1c53b542ae8374976dc9d796eceed4fa4216a4b51fdcf2a092"), looks := false }, kinds := [], alts := [], laidByText := true, laidKinds := [.data], laidTests := true, laidLooks := .later }
def CommSortsCardSaid : Prop := Claim7.holds Tryd.pinned (.plain (OpenSpec.ofChange commSortsSpec)) commSortsCard

/-- THE TIED CARD OF 'leafmeshlaw03.CommTargets'. -/
def commTargetsCard : Claim7 := { stood := { row := commTargetsRow, standIns := [], harness := (true, "70d2f0137d027b1c53b542ae8374976dc9d796eceed4fa4216a4b51fdcf2a092"), looks := false }, kinds := [], alts := [], laidByText := true, laidKinds := [.data], laidTests := true, laidLooks := .later }
def CommTargetsCardSaid : Prop := Claim7.holds Tryd.pinned (.plain (OpenSpec.ofChange commTargetsSpec)) commTargetsCard

/-- THE SECOND FORM's CARD OF 'leafmeshlaw03.CommNames'. -/
def commNamesUptoCard : Claim7 := { stood := { row := commNamesUptoRow, standIns := [], harness := (true, "70d2f0137d027b1c53b542ae8374976dc9d796eceed4fa4216a4b51fdcf2a092"), looks := false }, kinds := [], alts := [], laidByText := true, laidKinds := [.data], laidTests := true, laidLooks := .later }
def CommNamesUptoCardSaid : Prop := Claim7.holds Tryd.pinned (.plain (OpenSpec.upto commNamesSpec)) commNamesUptoCard

/-- THE SECOND FORM's CARD OF 'leafmeshlaw03.CommCalls'. -/
def commCallsUptoCard : Claim7 := { stood := { row := commCallsUptoRow, standIns := [], harness := (true, "70d2f0137d027b1c53b542ae8374976dc9d796eceed4fa4216a4b51fdcf2a092"), looks := false }, kinds := [], alts := [], laidByText := true, laidKinds := [.data], laidTests := true, laidLooks := .later }
def CommCallsUptoCardSaid : Prop := Claim7.holds Tryd.pinned (.plain (OpenSpec.upto commCallsSpec)) commCallsUptoCard

/-- THE SECOND FORM's CARD OF 'leafmeshlaw03.CommLists'. -/
def commListsUptoCard : Claim7 := { stood := { row := commListsUptoRow, standIns := [], harness := (true, "70d2f0137d027b1c53b542ae8374976dc9d796eceed4fa4216a4b51fdcf2a092"), looks := false }, kinds := [], alts := [], laidByText := true, laidKinds := [.data], laidTests := true, laidLooks := .later }
def CommListsUptoCardSaid : Prop := Claim7.holds Tryd.pinned (.plain (OpenSpec.upto commListsSpec)) commListsUptoCard

/-- THE SECOND FORM's CARD OF 'leafmeshlaw03.CommBack'. -/
def commBackUptoCard : Claim7 := { stood := { row := commBackUptoRow, standIns := [], harness := (true, "70d2f0137d027b1c53b542ae8374976dc9d796eceed4fa4216a4b51fdcf2a092"), looks := false }, kinds := [], alts := [], laidByText := true, laidKinds := [.data], laidTests := true, laidLooks := .later }
def CommBackUptoCardSaid : Prop := Claim7.holds Tryd.pinned (.plain (OpenSpec.upto commBackSpec)) commBackUptoCard

/-- THE SECOND FORM's CARD OF 'leafmeshlaw03.CommSorts'. -/
def commSortsUptoCard : Claim7 := { stood := { row := commSortsUptoRow, standIns := [], harness := (true, "70d2f0137d027b1c53b542ae8374976dc9d796eceed4fa4216a4b51fdcf2a092"), looks := false }, kinds := [], alts := [], laidByText := true, laidKinds := [.data], laidTests := true, laidLooks := .later }
def CommSortsUptoCardSaid : Prop := Claim7.holds Tryd.pinned (.plain (OpenSpec.upto commSortsSpec)) commSortsUptoCard

/-- THE SECOND FORM's CARD OF 'leafmeshlaw03.CommTargets'. -/
def commTargetsUptoCard : Claim7 := { stood := { row := commTargetsUptoRow, standIns := [], harness := (true, "70d2f0137d027b1c53b542ae8374976dc9d796eceed4fa4216a4b51fdcf2a092"), looks := false }, kinds := [], alts := [], laidByText := true, laidKinds := [.data], laidTests := true, laidLooks := .later }
def CommTargetsUptoCardSaid : Prop := Claim7.holds Tryd.pinned (.plain (OpenSpec.upto commTargetsSpec)) commTargetsUptoCard
end Rows
end Go.Proofs.YtmajalobkcnobaaDoor
