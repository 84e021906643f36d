/-
  NARROWER THAN 'FOR EVERY INPUT', by the rows' own cells (each row's printed sentence says how): ModeTells: laid · ModeLaws: laid.
  DERIVED. THE GIVEN ROWS OF THIS SEAT. 2 by the template 'for every input the law returns true; each argument reads behind the call as it read before'; 0 by the template 'total and deterministic' (their statements: YtalkefmkophhiaaDoorTotals.lean).
  GIVEN WITH THE SEED: the statements are not yours to turn. If you find one false, say at which input.
  Laid BY PROGRAM, IN A SANDBOX (cutbox-rows.mjs): the forced cells as the released guide's own fill.sh prints them over the translation 93ce611674894b3c… (all of the seat's roots in one cut). By AI agents, Wed Nov 11 2026. No macro, syntax, notation, axiom, sorry.
-/
import Derived.Test.YtalkefmkophhiaaDoorChecked
import GoSem.Claim
import GoSem.ClaimJoined
import GoSem.ClaimMapViews
import Derived.JoinedTies
import Derived.KernelRfl
namespace Go.Proofs.YtalkefmkophhiaaDoor
/- THE CELL 'sum', in the pinned program and in every row, IS THE sha256 OF THE DUMP (.gsa) THAT YtalkefmkophhiaaDoorProg.lean LOADS. Nothing in Lean hashes anything: it is a label: what it is worth is what the hold of that sum in a sandbox is worth. -/
noncomputable def Tryd.pinned : Pinned := { name := "ytalkefmkophhiaadoor", sum := "93ce611674894b3c60a9037f209add6ae2fc731c2139ea2132fa7f54d812821b", checked := Tryd.checked }
namespace Rows
def none {H : Type} : Left H := { results := [], args := [] }

/- WHAT THE LISTED PACKAGE-LEVEL VARIABLES READ AS WHEN THE CALL BEGINS. Each datum BY PROGRAM (the guide's laid-datum.mjs) off the statement by which the dump's own 'gosem.cut.vars' lays the variable. In a bare row this is a premise. The card (YtalkefmkophhiaaDoorCards.lean) ties it to the program's text. -/
def laid_counterpane_mode_compatible {H : Type} : DataW H := .agg [.agg [.lit (.bool true), .lit (.bool true), .lit (.bool true), .lit (.bool true), .lit (.bool true), .lit (.bool true)], .agg [.lit (.bool true), .lit (.bool true), .lit (.bool true), .lit (.bool true), .lit (.bool true), .lit (.bool false)], .agg [.lit (.bool true), .lit (.bool true), .lit (.bool true), .lit (.bool false), .lit (.bool false), .lit (.bool false)], .agg [.lit (.bool true), .lit (.bool true), .lit (.bool false), .lit (.bool true), .lit (.bool false), .lit (.bool false)], .agg [.lit (.bool true), .lit (.bool true), .lit (.bool false), .lit (.bool false), .lit (.bool false), .lit (.bool false)], .agg [.lit (.bool true), .lit (.bool false), .lit (.bool false), .lit (.bool false), .lit (.bool false), .lit (.bool false)]]
def laid_counterpane_mode_permits {H : Type} : DataW H := .agg [.agg [.lit (.int .i64 0), .lit (.int .i64 0)], .agg [.lit (.int .i64 1), .lit (.int .i64 0)], .agg [.lit (.int .i64 1), .lit (.int .i64 1)], .agg [.lit (.int .i64 2), .lit (.int .i64 0)], .agg [.lit (.int .i64 2), .lit (.int .i64 1)], .agg [.lit (.int .i64 2), .lit (.int .i64 2)]]
def laid_counterpane_mode_names {H : Type} : DataW H := .agg [.lit (.string [110, 111, 110, 101]), .lit (.string [105, 115]), .lit (.string [105, 120]), .lit (.string [115]), .lit (.string [115, 105, 120]), .lit (.string [120])]

/-- 'counterpanelaw10.ModeTells': WHATEVER THE INPUT: true; the input reads as it did. -/
def modeTellsSpec : ChangeSpec := { name := "modeTells", fn := fun _ => fun
  | [d1, d2] => { results := [.lit (.bool true)], args := [d1, d2] }
  | _ => none }
def modeTellsRow : OpenClaim := { program := "ytalkefmkophhiaadoor", sum := "93ce611674894b3c60a9037f209add6ae2fc731c2139ea2132fa7f54d812821b", func := "counterpane/counterpanelaw10.ModeTells", spec := "modeTells", named := ["counterpane/mode.compatible", "counterpane/mode.permits", "counterpane/mode.names"], apart := false, laid := [("counterpane/mode.compatible", laid_counterpane_mode_compatible), ("counterpane/mode.permits", laid_counterpane_mode_permits), ("counterpane/mode.names", laid_counterpane_mode_names)] }
def ModeTellsSaid : Prop := modeTellsRow.holds Tryd.pinned (OpenSpec.ofChange modeTellsSpec)

/-- ITS FALSE NEIGHBOUR: 'it returns false'. Refute it at one input. -/
def modeTellsWrong : ChangeSpec := { name := "modeTells", fn := fun _ => fun
  | [d1, d2] => { results := [.lit (.bool false)], args := [d1, d2] }
  | _ => none }
def ModeTellsWrongFalsely : Prop := modeTellsRow.holds Tryd.pinned (OpenSpec.ofChange modeTellsWrong)

/-- 'counterpanelaw10.ModeLaws': WHATEVER THE INPUT: true; the input reads as it did. -/
def modeLawsSpec : ChangeSpec := { name := "modeLaws", fn := fun _ => fun
  | [d1, d2, d3] => { results := [.lit (.bool true)], args := [d1, d2, d3] }
  | _ => none }
def modeLawsRow : OpenClaim := { program := "ytalkefmkophhiaadoor", sum := "93ce611674894b3c60a9037f209add6ae2fc731c2139ea2132fa7f54d812821b", func := "counterpane/counterpanelaw10.ModeLaws", spec := "modeLaws", named := ["counterpane/mode.compatible", "counterpane/mode.permits", "counterpane/mode.names"], apart := false, laid := [("counterpane/mode.compatible", laid_counterpane_mode_compatible), ("counterpane/mode.permits", laid_counterpane_mode_permits), ("counterpane/mode.names", laid_counterpane_mode_names)] }
def ModeLawsSaid : Prop := modeLawsRow.holds Tryd.pinned (OpenSpec.ofChange modeLawsSpec)

/-- ITS FALSE NEIGHBOUR: 'it returns false'. Refute it at one input. -/
def modeLawsWrong : ChangeSpec := { name := "modeLaws", fn := fun _ => fun
  | [d1, d2, d3] => { results := [.lit (.bool false)], args := [d1, d2, d3] }
  | _ => none }
def ModeLawsWrongFalsely : Prop := modeLawsRow.holds Tryd.pinned (OpenSpec.ofChange modeLawsWrong)

/- THE SECOND FORM. 'bulk': how many values and letters a reading holds, each counted each time it is reached (what is shared counts as often as it is met; a slice's spare places count too). A statement '..UptoSaid' is the law's where the arguments, and the package variables that the reading takes, are together of bulk at most 1048576: NARROWER than '..Said'. Prove '..Said' where nothing that the law and all that it calls make is longer than what came in: it says more and counts as full. Else prove '..UptoSaid'. A law counts once. -/
mutual
def uptoBulk {H : Type} : DataW H → Nat
  | .lit (.string bytes) => bytes.length + 1
  | .lit _ => 1
  | .nil => 1
  | .ptr d => uptoBulk d + 1
  | .slice elems spare => uptoBulkAll elems + uptoBulkAll spare + 1
  | .agg parts => uptoBulkAll parts + 1
  | .iface _ d => uptoBulk d + 1
  | .map entries => uptoBulkEntries entries + 1
  | .held _ => 1
def uptoBulkAll {H : Type} : List (DataW H) → Nat
  | [] => 0
  | d :: r => uptoBulk d + uptoBulkAll r
def uptoBulkEntries {H : Type} : List (Lit × DataW H) → Nat
  | [] => 0
  | x :: r => uptoBulkEntry x + uptoBulkEntries r
def uptoBulkEntry {H : Type} : Lit × DataW H → Nat
  | (.string bytes, d) => bytes.length + uptoBulk d + 1
  | (_, d) => uptoBulk d + 1
 end
def uptoSmall : (H : Type) → List (DataW H) → Bool := fun _ ds => decide (uptoBulkAll ds ≤ 1048576)
def OpenSpec.upto (s : _root_.Go.ChangeSpec) : _root_.Go.OpenSpec := { _root_.Go.OpenSpec.ofChange s with cond := some uptoSmall }

/-- 'counterpanelaw10.ModeTells', WHERE WHAT IT READS IS OF BULK AT MOST 1048576: true; the input reads as it did. -/
def modeTellsUptoRow : OpenClaim := { program := "ytalkefmkophhiaadoor", sum := "93ce611674894b3c60a9037f209add6ae2fc731c2139ea2132fa7f54d812821b", func := "counterpane/counterpanelaw10.ModeTells", spec := "modeTells", named := ["counterpane/mode.compatible", "counterpane/mode.permits", "counterpane/mode.names"], apart := false, laid := [("counterpane/mode.compatible", laid_counterpane_mode_compatible), ("counterpane/mode.permits", laid_counterpane_mode_permits), ("counterpane/mode.names", laid_counterpane_mode_names)], narrowed := true }
def ModeTellsUptoSaid : Prop := modeTellsUptoRow.holds Tryd.pinned (OpenSpec.upto modeTellsSpec)

/-- 'counterpanelaw10.ModeLaws', WHERE WHAT IT READS IS OF BULK AT MOST 1048576: true; the input reads as it did. -/
def modeLawsUptoRow : OpenClaim := { program := "ytalkefmkophhiaadoor", sum := "93ce611674894b3c60a9037f209add6ae2fc731c2139ea2132fa7f54d812821b", func := "counterpane/counterpanelaw10.ModeLaws", spec := "modeLaws", named := ["counterpane/mode.compatible", "counterpane/mode.permits", "counterpane/mode.names"], apart := false, laid := [("counterpane/mode.compatible", laid_counterpane_mode_compatible), ("counterpane/mode.permits", laid_counterpane_mode_permits), ("counterpane/mode.names", laid_counterpane_mode_names)], narrowed := true }
def ModeLawsUptoSaid : Prop := modeLawsUptoRow.holds Tryd.pinned (OpenSpec.upto modeLawsSpec)

end Rows
end Go.Proofs.YtalkefmkophhiaaDoor
