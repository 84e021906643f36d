/-
  DERIVED. GIVEN WITH THE SEED: THE CARDS: each row of YtkhfmldheclddaaDoorRows.lean that lists a variable, with what it lists TIED to the program's text (the seventh form; the later family's looks); each row that meets fmt, with fmt's text TOLD by the authors' own Lean function (tested against real Go, not proved from fmt's source: count such statements apart). THE CARD IS WHAT COUNTS. Prove the row's statement (the work); the ties are given (YtkhfmldheclddaaDoorTie.lean); close each card by the builder's one call (the guide's Derived/Test/ToyasCard.lean, 'card_holds'). Laid BY PROGRAM, IN A SANDBOX (cutbox-door.mjs). By AI agents, Wed Nov 11 2026. No macro, syntax, notation, axiom, sorry.
-/
import Derived.Test.YtkhfmldheclddaaDoorRows
import GoSem.ClaimSeven
namespace Go.Proofs.YtkhfmldheclddaaDoor
namespace Rows

/-- THE TIED CARD OF 'counterpanelaw03.MixBack'. -/
def mixBackCard : Claim7 := { stood := { row := mixBackRow, standIns := [], harness := (true, "703c6c0d8ce0f57c88db35a0349cd02d31e918e54416da370984193f15fc96ae"), looks := false }, kinds := [], alts := [], laidByText := true, laidKinds := [.data], laidTests := true, laidLooks := .later }
def MixBackCardSaid : Prop := Claim7.holds Tryd.pinned (.plain (OpenSpec.ofChange mixBackSpec)) mixBackCard

/-- THE TIED CARD OF 'counterpanelaw03.MixSplits'. -/
def mixSplitsCard : Claim7 := { stood := { row := mixSplitsRow, standIns := [], harness := (true, "703c6c0d8ce0f57c88db35a0349cd02d31e918e54416da370984193f15fc96ae"), looks := false }, kinds := [], alts := [], laidByText := true, laidKinds := [.data], laidTests := true, laidLooks := .later }
def MixSplitsCardSaid : Prop := Claim7.holds Tryd.pinned (.plain (OpenSpec.ofChange mixSplitsSpec)) mixSplitsCard

/-- THE TIED CARD OF 'counterpanelaw03.MixLow'. -/
def mixLowCard : Claim7 := { stood := { row := mixLowRow, standIns := [], harness := (true, "703c6c0d8ce0f57c88db35a0349cd02d31e918e54416da370984193f15fc96ae"), looks := false }, kinds := [], alts := [], laidByText := true, laidKinds := [.data], laidTests := true, laidLooks := .later }
def MixLowCardSaid : Prop := Claim7.holds Tryd.pinned (.plain (OpenSpec.ofChange mixLowSpec)) mixLowCard

/-- THE SECOND FORM's CARD OF 'counterpanelaw03.MixBack'. -/
def mixBackUptoCard : Claim7 := { stood := { row := mixBackUptoRow, standIns := [], harness := (true, "703c6c0d8ce0f57c88db35a0349cd02d31e918e54416da370984193f15fc96ae"), looks := false }, kinds := [], alts := [], laidByText := true, laidKinds := [.data], laidTests := true, laidLooks := .later }
def MixBackUptoCardSaid : Prop := Claim7.holds Tryd.pinned (.plain (OpenSpec.upto mixBackSpec)) mixBackUptoCard

/-- THE SECOND FORM's CARD OF 'counterpanelaw03.MixSplits'. -/
def mixSplitsUptoCard : Claim7 := { stood := { row := mixSplitsUptoRow, standIns := [], harness := (true, "703c6c0d8ce0f57c88db35a0349cd02d31e918e54416da370984193f15fc96ae"), looks := false }, kinds := [], alts := [], laidByText := true, laidKinds := [.data], laidTests := true, laidLooks := .later }
def MixSplitsUptoCardSaid : Prop := Claim7.holds Tryd.pinned (.plain (OpenSpec.upto mixSplitsSpec)) mixSplitsUptoCard

/-- THE SECOND FORM's CARD OF 'counterpanelaw03.MixLow'. -/
def mixLowUptoCard : Claim7 := { stood := { row := mixLowUptoRow, standIns := [], harness := (true, "703c6c0d8ce0f57c88db35a0349cd02d31e918e54416da370984193f15fc96ae"), looks := false }, kinds := [], alts := [], laidByText := true, laidKinds := [.data], laidTests := true, laidLooks := .later }
def MixLowUptoCardSaid : Prop := Claim7.holds Tryd.pinned (.plain (OpenSpec.upto mixLowSpec)) mixLowUptoCard
end Rows
end Go.Proofs.YtkhfmldheclddaaDoor
