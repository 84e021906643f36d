/-
  No cell of these rows narrows 'for every input' (looked for: loops, veiled, ifaces, maps, wideKeys, modest, calm, conditions, laid).
  DERIVED. THE GIVEN ROWS OF THIS SEAT. 3 by the template 'for every input the law returns true; each argument reads behind the call as it read before'; 0 by the template 'total and deterministic' (their statements: YtfmjnjhocpoafaaTotals.lean).
  GIVEN WITH THE SEED: the statements are not yours to turn. If you find one false, say at which input.
  Laid BY PROGRAM, IN A SANDBOX (cutbox-rows.mjs): the forced cells as the released guide's own fill.sh prints them over the translation cd83e471d16e73fd… (all of the seat's roots in one cut). By AI agents, Wed Nov 11 2026. No macro, syntax, notation, axiom, sorry.
-/
import Derived.Test.YtfmjnjhocpoafaaChecked
import GoSem.Claim
import GoSem.ClaimJoined
import GoSem.ClaimMapViews
import Derived.JoinedTies
import Derived.KernelRfl
namespace Go.Proofs.Ytfmjnjhocpoafaa
/- THE CELL 'sum', in the pinned program and in every row, IS THE sha256 OF THE DUMP (.gsa) THAT YtfmjnjhocpoafaaProg.lean LOADS. Nothing in Lean hashes anything: it is a label: what it is worth is what the hold of that sum in a sandbox is worth. -/
noncomputable def Try.pinned : Pinned := { name := "ytfmjnjhocpoafaa", sum := "cd83e471d16e73fd2de0b10a05ddc016700a784f1ca4625458fd2aaee70e0d26", checked := Try.checked }
namespace Rows
def none {H : Type} : Left H := { results := [], args := [] }

/-- 'counterpanelaw07.FreemapDoes': WHATEVER THE INPUT: true; the input reads as it did. -/
def freemapDoesSpec : ChangeSpec := { name := "freemapDoes", fn := fun _ => fun
  | [d1, d2] => { results := [.lit (.bool true)], args := [d1, d2] }
  | _ => none }
def freemapDoesRow : OpenClaim := { program := "ytfmjnjhocpoafaa", sum := "cd83e471d16e73fd2de0b10a05ddc016700a784f1ca4625458fd2aaee70e0d26", func := "counterpane/counterpanelaw07.FreemapDoes", spec := "freemapDoes", unfollowed := true, recurses := true, apart := false }
def FreemapDoesSaid : Prop := freemapDoesRow.holds Try.pinned (OpenSpec.ofChange freemapDoesSpec)

/-- ITS FALSE NEIGHBOUR: 'it returns false'. Refute it at one input. -/
def freemapDoesWrong : ChangeSpec := { name := "freemapDoes", fn := fun _ => fun
  | [d1, d2] => { results := [.lit (.bool false)], args := [d1, d2] }
  | _ => none }
def FreemapDoesWrongFalsely : Prop := freemapDoesRow.holds Try.pinned (OpenSpec.ofChange freemapDoesWrong)

/-- 'counterpanelaw07.FreemapBack': WHATEVER THE INPUT: true; the input reads as it did. -/
def freemapBackSpec : ChangeSpec := { name := "freemapBack", fn := fun _ => fun
  | [d1, d2] => { results := [.lit (.bool true)], args := [d1, d2] }
  | _ => none }
def freemapBackRow : OpenClaim := { program := "ytfmjnjhocpoafaa", sum := "cd83e471d16e73fd2de0b10a05ddc016700a784f1ca4625458fd2aaee70e0d26", func := "counterpane/counterpanelaw07.FreemapBack", spec := "freemapBack", unfollowed := true, recurses := true, apart := false }
def FreemapBackSaid : Prop := freemapBackRow.holds Try.pinned (OpenSpec.ofChange freemapBackSpec)

/-- ITS FALSE NEIGHBOUR: 'it returns false'. Refute it at one input. -/
def freemapBackWrong : ChangeSpec := { name := "freemapBack", fn := fun _ => fun
  | [d1, d2] => { results := [.lit (.bool false)], args := [d1, d2] }
  | _ => none }
def FreemapBackWrongFalsely : Prop := freemapBackRow.holds Try.pinned (OpenSpec.ofChange freemapBackWrong)

/-- 'counterpanelaw07.FreemapGives': WHATEVER THE INPUT: true; the input reads as it did. -/
def freemapGivesSpec : ChangeSpec := { name := "freemapGives", fn := fun _ => fun
  | [d1, d2, d3, d4] => { results := [.lit (.bool true)], args := [d1, d2, d3, d4] }
  | _ => none }
def freemapGivesRow : OpenClaim := { program := "ytfmjnjhocpoafaa", sum := "cd83e471d16e73fd2de0b10a05ddc016700a784f1ca4625458fd2aaee70e0d26", func := "counterpane/counterpanelaw07.FreemapGives", spec := "freemapGives", unfollowed := true, recurses := true, apart := false }
def FreemapGivesSaid : Prop := freemapGivesRow.holds Try.pinned (OpenSpec.ofChange freemapGivesSpec)

/-- ITS FALSE NEIGHBOUR: 'it returns false'. Refute it at one input. -/
def freemapGivesWrong : ChangeSpec := { name := "freemapGives", fn := fun _ => fun
  | [d1, d2, d3, d4] => { results := [.lit (.bool false)], args := [d1, d2, d3, d4] }
  | _ => none }
def FreemapGivesWrongFalsely : Prop := freemapGivesRow.holds Try.pinned (OpenSpec.ofChange freemapGivesWrong)

/- THE SECOND FORM. 'bulk': how many values and letters a reading holds, each counted each time it is reached (what is shared counts as often as it is met; a slice's spare places count too). A statement '..UptoSaid' is the law's where the arguments, and the package variables that the reading takes, are together of bulk at most 1048576: NARROWER than '..Said'. Prove '..Said' where nothing that the law and all that it calls make is longer than what came in: it says more and counts as full. Else prove '..UptoSaid'. A law counts once. -/
mutual
def uptoBulk {H : Type} : DataW H → Nat
  | .lit (.string bytes) => bytes.length + 1
  | .lit _ => 1
  | .nil => 1
  | .ptr d => uptoBulk d + 1
  | .slice elems spare => uptoBulkAll elems + uptoBulkAll spare + 1
  | .agg parts => uptoBulkAll parts + 1
  | .iface _ d => uptoBulk d + 1
  | .map entries => uptoBulkEntries entries + 1
  | .held _ => 1
def uptoBulkAll {H : Type} : List (DataW H) → Nat
  | [] => 0
  | d :: r => uptoBulk d + uptoBulkAll r
def uptoBulkEntries {H : Type} : List (Lit × DataW H) → Nat
  | [] => 0
  | x :: r => uptoBulkEntry x + uptoBulkEntries r
def uptoBulkEntry {H : Type} : Lit × DataW H → Nat
  | (.string bytes, d) => bytes.length + uptoBulk d + 1
  | (_, d) => uptoBulk d + 1
 end
def uptoSmall : (H : Type) → List (DataW H) → Bool := fun _ ds => decide (uptoBulkAll ds ≤ 1048576)
def OpenSpec.upto (s : _root_.Go.ChangeSpec) : _root_.Go.OpenSpec := { _root_.Go.OpenSpec.ofChange s with cond := some uptoSmall }

/-- 'counterpanelaw07.FreemapDoes', WHERE WHAT IT READS IS OF BULK AT MOST 1048576: true; the input reads as it did. -/
def freemapDoesUptoRow : OpenClaim := { program := "ytfmjnjhocpoafaa", sum := "cd83e471d16e73fd2de0b10a05ddc016700a784f1ca4625458fd2aaee70e0d26", func := "counterpane/counterpanelaw07.FreemapDoes", spec := "freemapDoes", unfollowed := true, recurses := true, apart := false, narrowed := true }
def FreemapDoesUptoSaid : Prop := freemapDoesUptoRow.holds Try.pinned (OpenSpec.upto freemapDoesSpec)

/-- 'counterpanelaw07.FreemapBack', WHERE WHAT IT READS IS OF BULK AT MOST 1048576: true; the input reads as it did. -/
def freemapBackUptoRow : OpenClaim := { program := "ytfmjnjhocpoafaa", sum := "cd83e471d16e73fd2de0b10a05ddc016700a784f1ca4625458fd2aaee70e0d26", func := "counterpane/counterpanelaw07.FreemapBack", spec := "freemapBack", unfollowed := true, recurses := true, apart := false, narrowed := true }
def FreemapBackUptoSaid : Prop := freemapBackUptoRow.holds Try.pinned (OpenSpec.upto freemapBackSpec)

/-- 'counterpanelaw07.FreemapGives', WHERE WHAT IT READS IS OF BULK AT MOST 1048576: true; the input reads as it did. -/
def freemapGivesUptoRow : OpenClaim := { program := "ytfmjnjhocpoafaa", sum := "cd83e471d16e73fd2de0b10a05ddc016700a784f1ca4625458fd2aaee70e0d26", func := "counterpane/counterpanelaw07.FreemapGives", spec := "freemapGives", unfollowed := true, recurses := true, apart := false, narrowed := true }
def FreemapGivesUptoSaid : Prop := freemapGivesUptoRow.holds Try.pinned (OpenSpec.upto freemapGivesSpec)

end Rows
end Go.Proofs.Ytfmjnjhocpoafaa
