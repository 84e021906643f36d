/-
  DERIVED. GIVEN WITH THE SEED: THE CARDS: each row of YtihlmjknhgnjpaaDoorRows.lean that lists a variable, with what it lists TIED to the program's text (the seventh form; the later family's looks); each row that meets fmt, with fmt's text TOLD by the authors' own Lean function (tested against real Go, not proved from fmt's source: count such statements apart). THE CARD IS WHAT COUNTS. Prove the row's statement (the work); the ties are given (YtihlmjknhgnjpaaDoorTie.lean); close each card by the builder's one call (the guide's Derived/Test/ToyasCard.lean, 'card_holds'). Laid BY PROGRAM, IN A SANDBOX (cutbox-door.mjs). By AI agents, Wed Nov 11 2026. No macro, syntax, notation, axiom, sorry.
-/
import Derived.Test.YtihlmjknhgnjpaaDoorRows
import GoSem.ClaimSeven
namespace Go.Proofs.YtihlmjknhgnjpaaDoor
namespace Rows

/-- THE TIED CARD OF 'counterpanelaw08.EntryPuts'. -/
def entryPutsCard : Claim7 := { stood := { row := entryPutsRow, standIns := [], harness := (true, "ca8f42833a764cc77cca25e69485bc46aa5313556102ba640623d6015f67ab86"), looks := false }, kinds := [], alts := [], laidByText := true, laidKinds := [.data, .pinned], laidTests := true, laidLooks := .later }
def EntryPutsCardSaid : Prop := Claim7.holds Tryd.pinned (.plain (OpenSpec.ofChange entryPutsSpec)) entryPutsCard

/-- THE TIED CARD OF 'counterpanelaw08.EntryBack'. -/
def entryBackCard : Claim7 := { stood := { row := entryBackRow, standIns := [], harness := (true, "ca8f42833a764cc77cca25e69485bc46aa5313556102ba640623d6015f67ab86"), looks := false }, kinds := [], alts := [], laidByText := true, laidKinds := [.data, .pinned], laidTests := true, laidLooks := .later }
def EntryBackCardSaid : Prop := Claim7.holds Tryd.pinned (.plain (OpenSpec.ofChange entryBackSpec)) entryBackCard

/-- THE TIED CARD OF 'counterpanelaw08.EntryRecs'. -/
def entryRecsCard : Claim7 := { stood := { row := entryRecsRow, standIns := [], harness := (true, "ca8f42833a764cc77cca25e69485bc46aa5313556102ba640623d6015f67ab86"), looks := false }, kinds := [], alts := [], laidByText := true, laidKinds := [.data, .pinned], laidTests := true, laidLooks := .later }
def EntryRecsCardSaid : Prop := Claim7.holds Tryd.pinned (.plain (OpenSpec.ofChange entryRecsSpec)) entryRecsCard

/-- THE SECOND FORM's CARD OF 'counterpanelaw08.EntryPuts'. -/
def entryPutsUptoCard : Claim7 := { stood := { row := entryPutsUptoRow, standIns := [], harness := (true, "ca8f42833a764cc77cca25e69485bc46aa5313556102ba640623d6015f67ab86"), looks := false }, kinds := [], alts := [], laidByText := true, laidKinds := [.data, .pinned], laidTests := true, laidLooks := .later }
def EntryPutsUptoCardSaid : Prop := Claim7.holds Tryd.pinned (.plain (OpenSpec.upto entryPutsSpec)) entryPutsUptoCard

/-- THE SECOND FORM's CARD OF 'counterpanelaw08.EntryBack'. -/
def entryBackUptoCard : Claim7 := { stood := { row := entryBackUptoRow, standIns := [], harness := (true, "ca8f42833a764cc77cca25e69485bc46aa5313556102ba640623d6015f67ab86"), looks := false }, kinds := [], alts := [], laidByText := true, laidKinds := [.data, .pinned], laidTests := true, laidLooks := .later }
def EntryBackUptoCardSaid : Prop := Claim7.holds Tryd.pinned (.plain (OpenSpec.upto entryBackSpec)) entryBackUptoCard

/-- THE SECOND FORM's CARD OF 'counterpanelaw08.EntryRecs'. -/
def entryRecsUptoCard : Claim7 := { stood := { row := entryRecsUptoRow, standIns := [], harness := (true, "ca8f42833a764cc77cca25e69485bc46aa5313556102ba640623d6015f67ab86"), looks := false }, kinds := [], alts := [], laidByText := true, laidKinds := [.data, .pinned], laidTests := true, laidLooks := .later }
def EntryRecsUptoCardSaid : Prop := Claim7.holds Tryd.pinned (.plain (OpenSpec.upto entryRecsSpec)) entryRecsUptoCard
end Rows
end Go.Proofs.YtihlmjknhgnjpaaDoor
