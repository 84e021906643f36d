/-
  DERIVED. GIVEN WITH THE SEED: THE CARDS: each row of YtalkefmkophhiaaDoorRows.lean that lists a variable, with what it lists TIED to the program's text (the seventh form; the later family's looks); each row that meets fmt, with fmt's text TOLD by the authors' own Lean function (tested against real Go, not proved from fmt's source: count such statements apart). THE CARD IS WHAT COUNTS. Prove the row's statement (the work); the ties are given (YtalkefmkophhiaaDoorTie.lean); close each card by the builder's one call (the guide's Derived/Test/ToyasCard.lean, 'card_holds'). Laid BY PROGRAM, IN A SANDBOX (cutbox-door.mjs). By AI agents, Wed Nov 11 2026. No macro, syntax, notation, axiom, sorry.
-/
import Derived.Test.YtalkefmkophhiaaDoorRows
import GoSem.ClaimSeven
namespace Go.Proofs.YtalkefmkophhiaaDoor
namespace Rows

/-- THE TIED CARD OF 'counterpanelaw10.ModeTells'. -/
def modeTellsCard : Claim7 := { stood := { row := modeTellsRow, standIns := [], harness := (true, "af3b1fcefd7c5b35b1d223e0be9eaa0be9f9e48df00418fe1faf47cbd5a5f276"), looks := false }, kinds := [], alts := [], laidByText := true, laidKinds := [.data, .data, .data], laidTests := true, laidLooks := .later }
def ModeTellsCardSaid : Prop := Claim7.holds Tryd.pinned (.plain (OpenSpec.ofChange modeTellsSpec)) modeTellsCard

/-- THE TIED CARD OF 'counterpanelaw10.ModeLaws'. -/
def modeLawsCard : Claim7 := { stood := { row := modeLawsRow, standIns := [], harness := (true, "af3b1fcefd7c5b35b1d223e0be9eaa0be9f9e48df00418fe1faf47cbd5a5f276"), looks := false }, kinds := [], alts := [], laidByText := true, laidKinds := [.data, .data, .data], laidTests := true, laidLooks := .later }
def ModeLawsCardSaid : Prop := Claim7.holds Tryd.pinned (.plain (OpenSpec.ofChange modeLawsSpec)) modeLawsCard

/-- THE SECOND FORM's CARD OF 'counterpanelaw10.ModeTells'. -/
def modeTellsUptoCard : Claim7 := { stood := { row := modeTellsUptoRow, standIns := [], harness := (true, "af3b1fcefd7c5b35b1d223e0be9eaa0be9f9e48df00418fe1faf47cbd5a5f276"), looks := false }, kinds := [], alts := [], laidByText := true, laidKinds := [.data, .data, .data], laidTests := true, laidLooks := .later }
def ModeTellsUptoCardSaid : Prop := Claim7.holds Tryd.pinned (.plain (OpenSpec.upto modeTellsSpec)) modeTellsUptoCard

/-- THE SECOND FORM's CARD OF 'counterpanelaw10.ModeLaws'. -/
def modeLawsUptoCard : Claim7 := { stood := { row := modeLawsUptoRow, standIns := [], harness := (true, "af3b1fcefd7c5b35b1d223e0be9eaa0be9f9e48df00418fe1faf47cbd5a5f276"), looks := false }, kinds := [], alts := [], laidByText := true, laidKinds := [.data, .data, .data], laidTests := true, laidLooks := .later }
def ModeLawsUptoCardSaid : Prop := Claim7.holds Tryd.pinned (.plain (OpenSpec.upto modeLawsSpec)) modeLawsUptoCard
end Rows
end Go.Proofs.YtalkefmkophhiaaDoor
