/-
  NARROWER THAN 'FOR EVERY INPUT', by the rows' own cells (each row's printed sentence says how): LockDoes: laid · LockSafe: laid · LockBlocks: laid.
  DERIVED. THE GIVEN ROWS OF THIS SEAT. 3 by the template 'for every input the law returns true; each argument reads behind the call as it read before'; 0 by the template 'total and deterministic' (their statements: YthbifccankfngaaGreatDoorTotals.lean).
  GIVEN WITH THE SEED: the statements are not yours to turn. If you find one false, say at which input.
  Laid BY PROGRAM, IN A SANDBOX (cutbox-rows.mjs): the forced cells as the released guide's own fill.sh prints them over the translation 52cf57803a6d1ed9… (all of the seat's roots in one cut). By AI agents, Wed Nov 11 2026. No macro, syntax, notation, axiom, sorry.
-/
import Derived.Test.YthbifccankfngaaGreatDoorChecked
import GoSem.Claim
import GoSem.ClaimJoined
import GoSem.ClaimMapViews
import Derived.JoinedTies
import Derived.KernelRfl
namespace Go.Proofs.YthbifccankfngaaGreatDoor
/- THE CELL 'sum', in the pinned program and in every row, IS THE sha256 OF THE DUMP (.gsa) THAT YthbifccankfngaaGreatDoorProg.lean LOADS. Nothing in Lean hashes anything: it is a label: what it is worth is what the hold of that sum in a sandbox is worth. -/
noncomputable def Tryz.pinned : Pinned := { name := "ythbifccankfngaagreatdoor", sum := "52cf57803a6d1ed984d70fe5ecbe56700a393d7a0b2511bfc9e4321a7ad35902", checked := Tryz.checked }
namespace Rows
def none {H : Type} : Left H := { results := [], args := [] }

/- WHAT THE LISTED PACKAGE-LEVEL VARIABLES READ AS WHEN THE CALL BEGINS. Each datum BY PROGRAM (the guide's laid-datum.mjs) off the statement by which the dump's own 'gosem.cut.vars' lays the variable. In a bare row this is a premise. The card (YthbifccankfngaaGreatDoorCards.lean) ties it to the program's text. -/
def laid_counterpane_mode_compatible {H : Type} : DataW H := .agg [.agg [.lit (.bool true), .lit (.bool true), .lit (.bool true), .lit (.bool true), .lit (.bool true), .lit (.bool true)], .agg [.lit (.bool true), .lit (.bool true), .lit (.bool true), .lit (.bool true), .lit (.bool true), .lit (.bool false)], .agg [.lit (.bool true), .lit (.bool true), .lit (.bool true), .lit (.bool false), .lit (.bool false), .lit (.bool false)], .agg [.lit (.bool true), .lit (.bool true), .lit (.bool false), .lit (.bool true), .lit (.bool false), .lit (.bool false)], .agg [.lit (.bool true), .lit (.bool true), .lit (.bool false), .lit (.bool false), .lit (.bool false), .lit (.bool false)], .agg [.lit (.bool true), .lit (.bool false), .lit (.bool false), .lit (.bool false), .lit (.bool false), .lit (.bool false)]]
def laid_counterpane_mode_permits {H : Type} : DataW H := .agg [.agg [.lit (.int .i64 0), .lit (.int .i64 0)], .agg [.lit (.int .i64 1), .lit (.int .i64 0)], .agg [.lit (.int .i64 1), .lit (.int .i64 1)], .agg [.lit (.int .i64 2), .lit (.int .i64 0)], .agg [.lit (.int .i64 2), .lit (.int .i64 1)], .agg [.lit (.int .i64 2), .lit (.int .i64 2)]]

/-- 'counterpanelaw11.LockDoes': WHATEVER THE INPUT: true; the input reads as it did. -/
def lockDoesSpec : ChangeSpec := { name := "lockDoes", fn := fun _ => fun
  | [d] => { results := [.lit (.bool true)], args := [d] }
  | _ => none }
def lockDoesRow : OpenClaim := { program := "ythbifccankfngaagreatdoor", sum := "52cf57803a6d1ed984d70fe5ecbe56700a393d7a0b2511bfc9e4321a7ad35902", func := "counterpane/counterpanelaw11.LockDoes", spec := "lockDoes", inPlace := ["slices.overlaps[counterpane/lock.Claim]"], unfollowed := true, recurses := true, named := ["counterpane/mode.permits", "counterpane/mode.compatible"], plainKeys := false, apart := false, laid := [("counterpane/mode.compatible", laid_counterpane_mode_compatible), ("counterpane/mode.permits", laid_counterpane_mode_permits)] }
def LockDoesSaid : Prop := lockDoesRow.holds Tryz.pinned (OpenSpec.ofChange lockDoesSpec)

/-- ITS FALSE NEIGHBOUR: 'it returns false'. Refute it at one input. -/
def lockDoesWrong : ChangeSpec := { name := "lockDoes", fn := fun _ => fun
  | [d] => { results := [.lit (.bool false)], args := [d] }
  | _ => none }
def LockDoesWrongFalsely : Prop := lockDoesRow.holds Tryz.pinned (OpenSpec.ofChange lockDoesWrong)

/-- 'counterpanelaw11.LockSafe': WHATEVER THE INPUT: true; the input reads as it did. -/
def lockSafeSpec : ChangeSpec := { name := "lockSafe", fn := fun _ => fun
  | [d] => { results := [.lit (.bool true)], args := [d] }
  | _ => none }
def lockSafeRow : OpenClaim := { program := "ythbifccankfngaagreatdoor", sum := "52cf57803a6d1ed984d70fe5ecbe56700a393d7a0b2511bfc9e4321a7ad35902", func := "counterpane/counterpanelaw11.LockSafe", spec := "lockSafe", inPlace := ["slices.overlaps[counterpane/lock.Claim]"], unfollowed := true, recurses := true, named := ["counterpane/mode.permits", "counterpane/mode.compatible"], plainKeys := false, apart := false, laid := [("counterpane/mode.compatible", laid_counterpane_mode_compatible), ("counterpane/mode.permits", laid_counterpane_mode_permits)] }
def LockSafeSaid : Prop := lockSafeRow.holds Tryz.pinned (OpenSpec.ofChange lockSafeSpec)

/-- ITS FALSE NEIGHBOUR: 'it returns false'. Refute it at one input. -/
def lockSafeWrong : ChangeSpec := { name := "lockSafe", fn := fun _ => fun
  | [d] => { results := [.lit (.bool false)], args := [d] }
  | _ => none }
def LockSafeWrongFalsely : Prop := lockSafeRow.holds Tryz.pinned (OpenSpec.ofChange lockSafeWrong)

/-- 'counterpanelaw11.LockBlocks': WHATEVER THE INPUT: true; the input reads as it did. -/
def lockBlocksSpec : ChangeSpec := { name := "lockBlocks", fn := fun _ => fun
  | [d1, d2] => { results := [.lit (.bool true)], args := [d1, d2] }
  | _ => none }
def lockBlocksRow : OpenClaim := { program := "ythbifccankfngaagreatdoor", sum := "52cf57803a6d1ed984d70fe5ecbe56700a393d7a0b2511bfc9e4321a7ad35902", func := "counterpane/counterpanelaw11.LockBlocks", spec := "lockBlocks", inPlace := ["slices.overlaps[counterpane/lock.Claim]"], unfollowed := true, recurses := true, named := ["counterpane/mode.permits", "counterpane/mode.compatible"], plainKeys := false, apart := false, laid := [("counterpane/mode.compatible", laid_counterpane_mode_compatible), ("counterpane/mode.permits", laid_counterpane_mode_permits)] }
def LockBlocksSaid : Prop := lockBlocksRow.holds Tryz.pinned (OpenSpec.ofChange lockBlocksSpec)

/-- ITS FALSE NEIGHBOUR: 'it returns false'. Refute it at one input. -/
def lockBlocksWrong : ChangeSpec := { name := "lockBlocks", fn := fun _ => fun
  | [d1, d2] => { results := [.lit (.bool false)], args := [d1, d2] }
  | _ => none }
def LockBlocksWrongFalsely : Prop := lockBlocksRow.holds Tryz.pinned (OpenSpec.ofChange lockBlocksWrong)

/- THE SECOND FORM. 'bulk': how many values and letters a reading holds, each counted each time it is reached (what is shared counts as often as it is met; a slice's spare places count too). A statement '..UptoSaid' is the law's where the arguments, and the package variables that the reading takes, are together of bulk at most 1048576: NARROWER than '..Said'. Prove '..Said' where nothing that the law and all that it calls make is longer than what came in: it says more and counts as full. Else prove '..UptoSaid'. A law counts once. -/
mutual
def uptoBulk {H : Type} : DataW H → Nat
  | .lit (.string bytes) => bytes.length + 1
  | .lit _ => 1
  | .nil => 1
  | .ptr d => uptoBulk d + 1
  | .slice elems spare => uptoBulkAll elems + uptoBulkAll spare + 1
  | .agg parts => uptoBulkAll parts + 1
  | .iface _ d => uptoBulk d + 1
  | .map entries => uptoBulkEntries entries + 1
  | .held _ => 1
def uptoBulkAll {H : Type} : List (DataW H) → Nat
  | [] => 0
  | d :: r => uptoBulk d + uptoBulkAll r
def uptoBulkEntries {H : Type} : List (Lit × DataW H) → Nat
  | [] => 0
  | x :: r => uptoBulkEntry x + uptoBulkEntries r
def uptoBulkEntry {H : Type} : Lit × DataW H → Nat
  | (.string bytes, d) => bytes.length + uptoBulk d + 1
  | (_, d) => uptoBulk d + 1
 end
def uptoSmall : (H : Type) → List (DataW H) → Bool := fun _ ds => decide (uptoBulkAll ds ≤ 1048576)
def OpenSpec.upto (s : _root_.Go.ChangeSpec) : _root_.Go.OpenSpec := { _root_.Go.OpenSpec.ofChange s with cond := some uptoSmall }

/-- 'counterpanelaw11.LockDoes', WHERE WHAT IT READS IS OF BULK AT MOST 1048576: true; the input reads as it did. -/
def lockDoesUptoRow : OpenClaim := { program := "ythbifccankfngaagreatdoor", sum := "52cf57803a6d1ed984d70fe5ecbe56700a393d7a0b2511bfc9e4321a7ad35902", func := "counterpane/counterpanelaw11.LockDoes", spec := "lockDoes", inPlace := ["slices.overlaps[counterpane/lock.Claim]"], unfollowed := true, recurses := true, named := ["counterpane/mode.permits", "counterpane/mode.compatible"], plainKeys := false, apart := false, laid := [("counterpane/mode.compatible", laid_counterpane_mode_compatible), ("counterpane/mode.permits", laid_counterpane_mode_permits)], narrowed := true }
def LockDoesUptoSaid : Prop := lockDoesUptoRow.holds Tryz.pinned (OpenSpec.upto lockDoesSpec)

/-- 'counterpanelaw11.LockSafe', WHERE WHAT IT READS IS OF BULK AT MOST 1048576: true; the input reads as it did. -/
def lockSafeUptoRow : OpenClaim := { program := "ythbifccankfngaagreatdoor", sum := "52cf57803a6d1ed984d70fe5ecbe56700a393d7a0b2511bfc9e4321a7ad35902", func := "counterpane/counterpanelaw11.LockSafe", spec := "lockSafe", inPlace := ["slices.overlaps[counterpane/lock.Claim]"], unfollowed := true, recurses := true, named := ["counterpane/mode.permits", "counterpane/mode.compatible"], plainKeys := false, apart := false, laid := [("counterpane/mode.compatible", laid_counterpane_mode_compatible), ("counterpane/mode.permits", laid_counterpane_mode_permits)], narrowed := true }
def LockSafeUptoSaid : Prop := lockSafeUptoRow.holds Tryz.pinned (OpenSpec.upto lockSafeSpec)

/-- 'counterpanelaw11.LockBlocks', WHERE WHAT IT READS IS OF BULK AT MOST 1048576: true; the input reads as it did. -/
def lockBlocksUptoRow : OpenClaim := { program := "ythbifccankfngaagreatdoor", sum := "52cf57803a6d1ed984d70fe5ecbe56700a393d7a0b2511bfc9e4321a7ad35902", func := "counterpane/counterpanelaw11.LockBlocks", spec := "lockBlocks", inPlace := ["slices.overlaps[counterpane/lock.Claim]"], unfollowed := true, recurses := true, named := ["counterpane/mode.permits", "counterpane/mode.compatible"], plainKeys := false, apart := false, laid := [("counterpane/mode.compatible", laid_counterpane_mode_compatible), ("counterpane/mode.permits", laid_counterpane_mode_permits)], narrowed := true }
def LockBlocksUptoSaid : Prop := lockBlocksUptoRow.holds Tryz.pinned (OpenSpec.upto lockBlocksSpec)

end Rows
end Go.Proofs.YthbifccankfngaaGreatDoor
