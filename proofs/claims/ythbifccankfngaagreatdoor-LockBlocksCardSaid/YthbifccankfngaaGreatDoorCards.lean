/-
  DERIVED. GIVEN WITH THE SEED: THE CARDS: each row of YthbifccankfngaaGreatDoorRows.lean that lists a variable, with what it lists TIED to the program's text (the seventh form; the later family's looks); each row that meets fmt, with fmt's text TOLD by the authors' own Lean function (tested against real Go, not proved from fmt's source: count such statements apart). THE CARD IS WHAT COUNTS. Prove the row's statement (the work); the ties are given (YthbifccankfngaaGreatDoorTie.lean); close each card by the builder's one call (the guide's Derived/Test/ToyasCard.lean, 'card_holds'). Laid BY PROGRAM, IN A SANDBOX (cutbox-door.mjs). By AI agents, Wed Nov 11 2026. No macro, syntax, notation, axiom, sorry.
-/
import Derived.Test.YthbifccankfngaaGreatDoorRows
import GoSem.ClaimSeven
namespace Go.Proofs.YthbifccankfngaaGreatDoor
namespace Rows

/-- THE TIED CARD OF 'counterpanelaw11.LockDoes'. -/
def lockDoesCard : Claim7 := { stood := { row := lockDoesRow, standIns := [], harness := (true, "e3c288a4cfa54cc1924de4986228f31e6fec29c3b701fa856f454b76bf405cb1"), looks := false }, kinds := [], alts := [], laidByText := true, laidKinds := [.data, .data], laidTests := true, laidLooks := .later }
def LockDoesCardSaid : Prop := Claim7.holds Tryz.pinned (.plain (OpenSpec.ofChange lockDoesSpec)) lockDoesCard

/-- THE TIED CARD OF 'counterpanelaw11.LockSafe'. -/
def lockSafeCard : Claim7 := { stood := { row := lockSafeRow, standIns := [], harness := (true, "e3c288a4cfa54cc1924de4986228f31e6fec29c3b701fa856f454b76bf405cb1"), looks := false }, kinds := [], alts := [], laidByText := true, laidKinds := [.data, .data], laidTests := true, laidLooks := .later }
def LockSafeCardSaid : Prop := Claim7.holds Tryz.pinned (.plain (OpenSpec.ofChange lockSafeSpec)) lockSafeCard

/-- THE TIED CARD OF 'counterpanelaw11.LockBlocks'. -/
def lockBlocksCard : Claim7 := { stood := { row := lockBlocksRow, standIns := [], harness := (true, "e3c288a4cfa54cc1924de4986228f31e6fec29c3b701fa856f454b76bf405cb1"), looks := false }, kinds := [], alts := [], laidByText := true, laidKinds := [.data, .data], laidTests := true, laidLooks := .later }
def LockBlocksCardSaid : Prop := Claim7.holds Tryz.pinned (.plain (OpenSpec.ofChange lockBlocksSpec)) lockBlocksCard

/-- THE SECOND FORM's CARD OF 'counterpanelaw11.LockDoes'. -/
def lockDoesUptoCard : Claim7 := { stood := { row := lockDoesUptoRow, standIns := [], harness := (true, "e3c288a4cfa54cc1924de4986228f31e6fec29c3b701fa856f454b76bf405cb1"), looks := false }, kinds := [], alts := [], laidByText := true, laidKinds := [.data, .data], laidTests := true, laidLooks := .later }
def LockDoesUptoCardSaid : Prop := Claim7.holds Tryz.pinned (.plain (OpenSpec.upto lockDoesSpec)) lockDoesUptoCard

/-- THE SECOND FORM's CARD OF 'counterpanelaw11.LockSafe'. -/
def lockSafeUptoCard : Claim7 := { stood := { row := lockSafeUptoRow, standIns := [], harness := (true, "e3c288a4cfa54cc1924de4986228f31e6fec29c3b701fa856f454b76bf405cb1"), looks := false }, kinds := [], alts := [], laidByText := true, laidKinds := [.data, .data], laidTests := true, laidLooks := .later }
def LockSafeUptoCardSaid : Prop := Claim7.holds Tryz.pinned (.plain (OpenSpec.upto lockSafeSpec)) lockSafeUptoCard

/-- THE SECOND FORM's CARD OF 'counterpanelaw11.LockBlocks'. -/
def lockBlocksUptoCard : Claim7 := { stood := { row := lockBlocksUptoRow, standIns := [], harness := (true, "e3c288a4cfa54cc1924de4986228f31e6fec29c3b701fa856f454b76bf405cb1"), looks := false }, kinds := [], alts := [], laidByText := true, laidKinds := [.data, .data], laidTests := true, laidLooks := .later }
def LockBlocksUptoCardSaid : Prop := Claim7.holds Tryz.pinned (.plain (OpenSpec.upto lockBlocksSpec)) lockBlocksUptoCard
end Rows
end Go.Proofs.YthbifccankfngaaGreatDoor
