/-
  No cell of these rows narrows 'for every input' (looked for: loops, veiled, ifaces, maps, wideKeys, modest, calm, conditions, laid).
  DERIVED. THE GIVEN ROWS OF THIS SEAT. 5 by the template 'for every input the law returns true; each argument reads behind the call as it read before'; 0 by the template 'total and deterministic' (their statements: YtnkphpjnhjbokaaTotals.lean).
  GIVEN WITH THE SEED: the statements are not yours to turn. If you find one false, say at which input.
  Laid BY PROGRAM, IN A SANDBOX (cutbox-rows.mjs): the forced cells as the released guide's own fill.sh prints them over the translation 1b4d2021d712a514… (all of the seat's roots in one cut). By AI agents, Wed Nov 11 2026. No macro, syntax, notation, axiom, sorry.
-/
import Derived.Test.YtnkphpjnhjbokaaChecked
import GoSem.Claim
import GoSem.ClaimJoined
import GoSem.ClaimMapViews
import Derived.JoinedTies
import Derived.KernelRfl
namespace Go.Proofs.Ytnkphpjnhjbokaa
/- THE CELL 'sum', in the pinned program and in every row, IS THE sha256 OF THE DUMP (.gsa) THAT YtnkphpjnhjbokaaProg.lean LOADS. Nothing in Lean hashes anything: it is a label: what it is worth is what the hold of that sum in a sandbox is worth. -/
noncomputable def Try.pinned : Pinned := { name := "ytnkphpjnhjbokaa", sum := "1b4d2021d712a51435500b2455a3f9af37fd6454f3a032144d0886e1fca0bf4b", checked := Try.checked }
namespace Rows
def none {H : Type} : Left H := { results := [], args := [] }

/-- 'counterpanelaw12.CycleFinds': WHATEVER THE INPUT: true; the input reads as it did. -/
def cycleFindsSpec : ChangeSpec := { name := "cycleFinds", fn := fun _ => fun
  | [d1, d2] => { results := [.lit (.bool true)], args := [d1, d2] }
  | _ => none }
def cycleFindsRow : OpenClaim := { program := "ytnkphpjnhjbokaa", sum := "1b4d2021d712a51435500b2455a3f9af37fd6454f3a032144d0886e1fca0bf4b", func := "counterpane/counterpanelaw12.CycleFinds", spec := "cycleFinds", unfollowed := true, recurses := true, apart := false }
def CycleFindsSaid : Prop := cycleFindsRow.holds Try.pinned (OpenSpec.ofChange cycleFindsSpec)

/-- ITS FALSE NEIGHBOUR: 'it returns false'. Refute it at one input. -/
def cycleFindsWrong : ChangeSpec := { name := "cycleFinds", fn := fun _ => fun
  | [d1, d2] => { results := [.lit (.bool false)], args := [d1, d2] }
  | _ => none }
def CycleFindsWrongFalsely : Prop := cycleFindsRow.holds Try.pinned (OpenSpec.ofChange cycleFindsWrong)

/-- 'counterpanelaw12.CycleReaches': WHATEVER THE INPUT: true; the input reads as it did. -/
def cycleReachesSpec : ChangeSpec := { name := "cycleReaches", fn := fun _ => fun
  | [d1, d2] => { results := [.lit (.bool true)], args := [d1, d2] }
  | _ => none }
def cycleReachesRow : OpenClaim := { program := "ytnkphpjnhjbokaa", sum := "1b4d2021d712a51435500b2455a3f9af37fd6454f3a032144d0886e1fca0bf4b", func := "counterpane/counterpanelaw12.CycleReaches", spec := "cycleReaches", unfollowed := true, recurses := true, apart := false }
def CycleReachesSaid : Prop := cycleReachesRow.holds Try.pinned (OpenSpec.ofChange cycleReachesSpec)

/-- ITS FALSE NEIGHBOUR: 'it returns false'. Refute it at one input. -/
def cycleReachesWrong : ChangeSpec := { name := "cycleReaches", fn := fun _ => fun
  | [d1, d2] => { results := [.lit (.bool false)], args := [d1, d2] }
  | _ => none }
def CycleReachesWrongFalsely : Prop := cycleReachesRow.holds Try.pinned (OpenSpec.ofChange cycleReachesWrong)

/-- 'counterpanelaw12.CycleBreaks': WHATEVER THE INPUT: true; the input reads as it did. -/
def cycleBreaksSpec : ChangeSpec := { name := "cycleBreaks", fn := fun _ => fun
  | [d1, d2, d3] => { results := [.lit (.bool true)], args := [d1, d2, d3] }
  | _ => none }
def cycleBreaksRow : OpenClaim := { program := "ytnkphpjnhjbokaa", sum := "1b4d2021d712a51435500b2455a3f9af37fd6454f3a032144d0886e1fca0bf4b", func := "counterpane/counterpanelaw12.CycleBreaks", spec := "cycleBreaks", unfollowed := true, recurses := true, apart := false }
def CycleBreaksSaid : Prop := cycleBreaksRow.holds Try.pinned (OpenSpec.ofChange cycleBreaksSpec)

/-- ITS FALSE NEIGHBOUR: 'it returns false'. Refute it at one input. -/
def cycleBreaksWrong : ChangeSpec := { name := "cycleBreaks", fn := fun _ => fun
  | [d1, d2, d3] => { results := [.lit (.bool false)], args := [d1, d2, d3] }
  | _ => none }
def CycleBreaksWrongFalsely : Prop := cycleBreaksRow.holds Try.pinned (OpenSpec.ofChange cycleBreaksWrong)

/-- 'counterpanelaw12.CycleLeast': WHATEVER THE INPUT: true; the input reads as it did. -/
def cycleLeastSpec : ChangeSpec := { name := "cycleLeast", fn := fun _ => fun
  | [d1, d2] => { results := [.lit (.bool true)], args := [d1, d2] }
  | _ => none }
def cycleLeastRow : OpenClaim := { program := "ytnkphpjnhjbokaa", sum := "1b4d2021d712a51435500b2455a3f9af37fd6454f3a032144d0886e1fca0bf4b", func := "counterpane/counterpanelaw12.CycleLeast", spec := "cycleLeast", unfollowed := true, recurses := true, apart := false }
def CycleLeastSaid : Prop := cycleLeastRow.holds Try.pinned (OpenSpec.ofChange cycleLeastSpec)

/-- ITS FALSE NEIGHBOUR: 'it returns false'. Refute it at one input. -/
def cycleLeastWrong : ChangeSpec := { name := "cycleLeast", fn := fun _ => fun
  | [d1, d2] => { results := [.lit (.bool false)], args := [d1, d2] }
  | _ => none }
def CycleLeastWrongFalsely : Prop := cycleLeastRow.holds Try.pinned (OpenSpec.ofChange cycleLeastWrong)

/-- 'counterpanelaw12.CycleNone': WHATEVER THE INPUT: true; the input reads as it did. -/
def cycleNoneSpec : ChangeSpec := { name := "cycleNone", fn := fun _ => fun
  | [d1, d2] => { results := [.lit (.bool true)], args := [d1, d2] }
  | _ => none }
def cycleNoneRow : OpenClaim := { program := "ytnkphpjnhjbokaa", sum := "1b4d2021d712a51435500b2455a3f9af37fd6454f3a032144d0886e1fca0bf4b", func := "counterpane/counterpanelaw12.CycleNone", spec := "cycleNone", unfollowed := true, recurses := true, apart := false }
def CycleNoneSaid : Prop := cycleNoneRow.holds Try.pinned (OpenSpec.ofChange cycleNoneSpec)

/-- ITS FALSE NEIGHBOUR: 'it returns false'. Refute it at one input. -/
def cycleNoneWrong : ChangeSpec := { name := "cycleNone", fn := fun _ => fun
  | [d1, d2] => { results := [.lit (.bool false)], args := [d1, d2] }
  | _ => none }
def CycleNoneWrongFalsely : Prop := cycleNoneRow.holds Try.pinned (OpenSpec.ofChange cycleNoneWrong)

/- THE SECOND FORM. 'bulk': how many values and letters a reading holds, each counted each time it is reached (what is shared counts as often as it is met; a slice's spare places count too). A statement '..UptoSaid' is the law's where the arguments, and the package variables that the reading takes, are together of bulk at most 1048576: NARROWER than '..Said'. Prove '..Said' where nothing that the law and all that it calls make is longer than what came in: it says more and counts as full. Else prove '..UptoSaid'. A law counts once. -/
mutual
def uptoBulk {H : Type} : DataW H → Nat
  | .lit (.string bytes) => bytes.length + 1
  | .lit _ => 1
  | .nil => 1
  | .ptr d => uptoBulk d + 1
  | .slice elems spare => uptoBulkAll elems + uptoBulkAll spare + 1
  | .agg parts => uptoBulkAll parts + 1
  | .iface _ d => uptoBulk d + 1
  | .map entries => uptoBulkEntries entries + 1
  | .held _ => 1
def uptoBulkAll {H : Type} : List (DataW H) → Nat
  | [] => 0
  | d :: r => uptoBulk d + uptoBulkAll r
def uptoBulkEntries {H : Type} : List (Lit × DataW H) → Nat
  | [] => 0
  | x :: r => uptoBulkEntry x + uptoBulkEntries r
def uptoBulkEntry {H : Type} : Lit × DataW H → Nat
  | (.string bytes, d) => bytes.length + uptoBulk d + 1
  | (_, d) => uptoBulk d + 1
 end
def uptoSmall : (H : Type) → List (DataW H) → Bool := fun _ ds => decide (uptoBulkAll ds ≤ 1048576)
def OpenSpec.upto (s : _root_.Go.ChangeSpec) : _root_.Go.OpenSpec := { _root_.Go.OpenSpec.ofChange s with cond := some uptoSmall }

/-- 'counterpanelaw12.CycleFinds', WHERE WHAT IT READS IS OF BULK AT MOST 1048576: true; the input reads as it did. -/
def cycleFindsUptoRow : OpenClaim := { program := "ytnkphpjnhjbokaa", sum := "1b4d2021d712a51435500b2455a3f9af37fd6454f3a032144d0886e1fca0bf4b", func := "counterpane/counterpanelaw12.CycleFinds", spec := "cycleFinds", unfollowed := true, recurses := true, apart := false, narrowed := true }
def CycleFindsUptoSaid : Prop := cycleFindsUptoRow.holds Try.pinned (OpenSpec.upto cycleFindsSpec)

/-- 'counterpanelaw12.CycleReaches', WHERE WHAT IT READS IS OF BULK AT MOST 1048576: true; the input reads as it did. -/
def cycleReachesUptoRow : OpenClaim := { program := "ytnkphpjnhjbokaa", sum := "1b4d2021d712a51435500b2455a3f9af37fd6454f3a032144d0886e1fca0bf4b", func := "counterpane/counterpanelaw12.CycleReaches", spec := "cycleReaches", unfollowed := true, recurses := true, apart := false, narrowed := true }
def CycleReachesUptoSaid : Prop := cycleReachesUptoRow.holds Try.pinned (OpenSpec.upto cycleReachesSpec)

/-- 'counterpanelaw12.CycleBreaks', WHERE WHAT IT READS IS OF BULK AT MOST 1048576: true; the input reads as it did. -/
def cycleBreaksUptoRow : OpenClaim := { program := "ytnkphpjnhjbokaa", sum := "1b4d2021d712a51435500b2455a3f9af37fd6454f3a032144d0886e1fca0bf4b", func := "counterpane/counterpanelaw12.CycleBreaks", spec := "cycleBreaks", unfollowed := true, recurses := true, apart := false, narrowed := true }
def CycleBreaksUptoSaid : Prop := cycleBreaksUptoRow.holds Try.pinned (OpenSpec.upto cycleBreaksSpec)

/-- 'counterpanelaw12.CycleLeast', WHERE WHAT IT READS IS OF BULK AT MOST 1048576: true; the input reads as it did. -/
def cycleLeastUptoRow : OpenClaim := { program := "ytnkphpjnhjbokaa", sum := "1b4d2021d712a51435500b2455a3f9af37fd6454f3a032144d0886e1fca0bf4b", func := "counterpane/counterpanelaw12.CycleLeast", spec := "cycleLeast", unfollowed := true, recurses := true, apart := false, narrowed := true }
def CycleLeastUptoSaid : Prop := cycleLeastUptoRow.holds Try.pinned (OpenSpec.upto cycleLeastSpec)

/-- 'counterpanelaw12.CycleNone', WHERE WHAT IT READS IS OF BULK AT MOST 1048576: true; the input reads as it did. -/
def cycleNoneUptoRow : OpenClaim := { program := "ytnkphpjnhjbokaa", sum := "1b4d2021d712a51435500b2455a3f9af37fd6454f3a032144d0886e1fca0bf4b", func := "counterpane/counterpanelaw12.CycleNone", spec := "cycleNone", unfollowed := true, recurses := true, apart := false, narrowed := true }
def CycleNoneUptoSaid : Prop := cycleNoneUptoRow.holds Try.pinned (OpenSpec.upto cycleNoneSpec)

end Rows
end Go.Proofs.Ytnkphpjnhjbokaa
