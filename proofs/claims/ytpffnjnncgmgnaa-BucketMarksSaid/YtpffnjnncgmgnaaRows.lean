/-
  No cell of these rows narrows 'for every input' (looked for: loops, veiled, ifaces, maps, wideKeys, modest, calm, conditions, laid).
  DERIVED. THE GIVEN ROWS OF THIS SEAT. 4 by the template 'for every input the law returns true; each argument reads behind the call as it read before'; 0 by the template 'total and deterministic' (their statements: YtpffnjnncgmgnaaTotals.lean).
  GIVEN WITH THE SEED: the statements are not yours to turn. If you find one false, say at which input.
  Laid BY PROGRAM, IN A SANDBOX (cutbox-rows.mjs): the forced cells as the released guide's own fill.sh prints them over the translation 7e4b86418edc951d… (all of the seat's roots in one cut). By AI agents, Wed Nov 11 2026. No macro, syntax, notation, axiom, sorry.
-/
import Derived.Test.YtpffnjnncgmgnaaChecked
import GoSem.Claim
import GoSem.ClaimJoined
import GoSem.ClaimMapViews
import Derived.JoinedTies
import Derived.KernelRfl
namespace Go.Proofs.Ytpffnjnncgmgnaa
/- THE CELL 'sum', in the pinned program and in every row, IS THE sha256 OF THE DUMP (.gsa) THAT YtpffnjnncgmgnaaProg.lean LOADS. Nothing in Lean hashes anything: it is a label: what it is worth is what the hold of that sum in a sandbox is worth. -/
noncomputable def Try.pinned : Pinned := { name := "ytpffnjnncgmgnaa", sum := "7e4b86418edc951dec6d5ed1ae41efe23324ff67df56d96a3756065134e7b9b2", checked := Try.checked }
namespace Rows
def none {H : Type} : Left H := { results := [], args := [] }

/-- 'counterpanelaw13.BucketDoes': WHATEVER THE INPUT: true; the input reads as it did. -/
def bucketDoesSpec : ChangeSpec := { name := "bucketDoes", fn := fun _ => fun
  | [d1, d2, d3, d4] => { results := [.lit (.bool true)], args := [d1, d2, d3, d4] }
  | _ => none }
def bucketDoesRow : OpenClaim := { program := "ytpffnjnncgmgnaa", sum := "7e4b86418edc951dec6d5ed1ae41efe23324ff67df56d96a3756065134e7b9b2", func := "counterpane/counterpanelaw13.BucketDoes", spec := "bucketDoes", unfollowed := true, recurses := true, apart := false }
def BucketDoesSaid : Prop := bucketDoesRow.holds Try.pinned (OpenSpec.ofChange bucketDoesSpec)

/-- ITS FALSE NEIGHBOUR: 'it returns false'. Refute it at one input. -/
def bucketDoesWrong : ChangeSpec := { name := "bucketDoes", fn := fun _ => fun
  | [d1, d2, d3, d4] => { results := [.lit (.bool false)], args := [d1, d2, d3, d4] }
  | _ => none }
def BucketDoesWrongFalsely : Prop := bucketDoesRow.holds Try.pinned (OpenSpec.ofChange bucketDoesWrong)

/-- 'counterpanelaw13.BucketPages': WHATEVER THE INPUT: true; the input reads as it did. -/
def bucketPagesSpec : ChangeSpec := { name := "bucketPages", fn := fun _ => fun
  | [d1, d2, d3] => { results := [.lit (.bool true)], args := [d1, d2, d3] }
  | _ => none }
def bucketPagesRow : OpenClaim := { program := "ytpffnjnncgmgnaa", sum := "7e4b86418edc951dec6d5ed1ae41efe23324ff67df56d96a3756065134e7b9b2", func := "counterpane/counterpanelaw13.BucketPages", spec := "bucketPages", unfollowed := true, recurses := true, apart := false }
def BucketPagesSaid : Prop := bucketPagesRow.holds Try.pinned (OpenSpec.ofChange bucketPagesSpec)

/-- ITS FALSE NEIGHBOUR: 'it returns false'. Refute it at one input. -/
def bucketPagesWrong : ChangeSpec := { name := "bucketPages", fn := fun _ => fun
  | [d1, d2, d3] => { results := [.lit (.bool false)], args := [d1, d2, d3] }
  | _ => none }
def BucketPagesWrongFalsely : Prop := bucketPagesRow.holds Try.pinned (OpenSpec.ofChange bucketPagesWrong)

/-- 'counterpanelaw13.BucketOne': WHATEVER THE INPUT: true; the input reads as it did. -/
def bucketOneSpec : ChangeSpec := { name := "bucketOne", fn := fun _ => fun
  | [d] => { results := [.lit (.bool true)], args := [d] }
  | _ => none }
def bucketOneRow : OpenClaim := { program := "ytpffnjnncgmgnaa", sum := "7e4b86418edc951dec6d5ed1ae41efe23324ff67df56d96a3756065134e7b9b2", func := "counterpane/counterpanelaw13.BucketOne", spec := "bucketOne", unfollowed := true, recurses := true, apart := false }
def BucketOneSaid : Prop := bucketOneRow.holds Try.pinned (OpenSpec.ofChange bucketOneSpec)

/-- ITS FALSE NEIGHBOUR: 'it returns false'. Refute it at one input. -/
def bucketOneWrong : ChangeSpec := { name := "bucketOne", fn := fun _ => fun
  | [d] => { results := [.lit (.bool false)], args := [d] }
  | _ => none }
def BucketOneWrongFalsely : Prop := bucketOneRow.holds Try.pinned (OpenSpec.ofChange bucketOneWrong)

/-- 'counterpanelaw13.BucketMarks': WHATEVER THE INPUT: true; the input reads as it did. -/
def bucketMarksSpec : ChangeSpec := { name := "bucketMarks", fn := fun _ => fun
  | [d1, d2, d3] => { results := [.lit (.bool true)], args := [d1, d2, d3] }
  | _ => none }
def bucketMarksRow : OpenClaim := { program := "ytpffnjnncgmgnaa", sum := "7e4b86418edc951dec6d5ed1ae41efe23324ff67df56d96a3756065134e7b9b2", func := "counterpane/counterpanelaw13.BucketMarks", spec := "bucketMarks", unfollowed := true, recurses := true, apart := false }
def BucketMarksSaid : Prop := bucketMarksRow.holds Try.pinned (OpenSpec.ofChange bucketMarksSpec)

/-- ITS FALSE NEIGHBOUR: 'it returns false'. Refute it at one input. -/
def bucketMarksWrong : ChangeSpec := { name := "bucketMarks", fn := fun _ => fun
  | [d1, d2, d3] => { results := [.lit (.bool false)], args := [d1, d2, d3] }
  | _ => none }
def BucketMarksWrongFalsely : Prop := bucketMarksRow.holds Try.pinned (OpenSpec.ofChange bucketMarksWrong)

/- THE SECOND FORM. 'bulk': how many values and letters a reading holds, each counted each time it is reached (what is shared counts as often as it is met; a slice's spare places count too). A statement '..UptoSaid' is the law's where the arguments, and the package variables that the reading takes, are together of bulk at most 1048576: NARROWER than '..Said'. Prove '..Said' where nothing that the law and all that it calls make is longer than what came in: it says more and counts as full. Else prove '..UptoSaid'. A law counts once. -/
mutual
def uptoBulk {H : Type} : DataW H → Nat
  | .lit (.string bytes) => bytes.length + 1
  | .lit _ => 1
  | .nil => 1
  | .ptr d => uptoBulk d + 1
  | .slice elems spare => uptoBulkAll elems + uptoBulkAll spare + 1
  | .agg parts => uptoBulkAll parts + 1
  | .iface _ d => uptoBulk d + 1
  | .map entries => uptoBulkEntries entries + 1
  | .held _ => 1
def uptoBulkAll {H : Type} : List (DataW H) → Nat
  | [] => 0
  | d :: r => uptoBulk d + uptoBulkAll r
def uptoBulkEntries {H : Type} : List (Lit × DataW H) → Nat
  | [] => 0
  | x :: r => uptoBulkEntry x + uptoBulkEntries r
def uptoBulkEntry {H : Type} : Lit × DataW H → Nat
  | (.string bytes, d) => bytes.length + uptoBulk d + 1
  | (_, d) => uptoBulk d + 1
 end
def uptoSmall : (H : Type) → List (DataW H) → Bool := fun _ ds => decide (uptoBulkAll ds ≤ 1048576)
def OpenSpec.upto (s : _root_.Go.ChangeSpec) : _root_.Go.OpenSpec := { _root_.Go.OpenSpec.ofChange s with cond := some uptoSmall }

/-- 'counterpanelaw13.BucketDoes', WHERE WHAT IT READS IS OF BULK AT MOST 1048576: true; the input reads as it did. -/
def bucketDoesUptoRow : OpenClaim := { program := "ytpffnjnncgmgnaa", sum := "7e4b86418edc951dec6d5ed1ae41efe23324ff67df56d96a3756065134e7b9b2", func := "counterpane/counterpanelaw13.BucketDoes", spec := "bucketDoes", unfollowed := true, recurses := true, apart := false, narrowed := true }
def BucketDoesUptoSaid : Prop := bucketDoesUptoRow.holds Try.pinned (OpenSpec.upto bucketDoesSpec)

/-- 'counterpanelaw13.BucketPages', WHERE WHAT IT READS IS OF BULK AT MOST 1048576: true; the input reads as it did. -/
def bucketPagesUptoRow : OpenClaim := { program := "ytpffnjnncgmgnaa", sum := "7e4b86418edc951dec6d5ed1ae41efe23324ff67df56d96a3756065134e7b9b2", func := "counterpane/counterpanelaw13.BucketPages", spec := "bucketPages", unfollowed := true, recurses := true, apart := false, narrowed := true }
def BucketPagesUptoSaid : Prop := bucketPagesUptoRow.holds Try.pinned (OpenSpec.upto bucketPagesSpec)

/-- 'counterpanelaw13.BucketOne', WHERE WHAT IT READS IS OF BULK AT MOST 1048576: true; the input reads as it did. -/
def bucketOneUptoRow : OpenClaim := { program := "ytpffnjnncgmgnaa", sum := "7e4b86418edc951dec6d5ed1ae41efe23324ff67df56d96a3756065134e7b9b2", func := "counterpane/counterpanelaw13.BucketOne", spec := "bucketOne", unfollowed := true, recurses := true, apart := false, narrowed := true }
def BucketOneUptoSaid : Prop := bucketOneUptoRow.holds Try.pinned (OpenSpec.upto bucketOneSpec)

/-- 'counterpanelaw13.BucketMarks', WHERE WHAT IT READS IS OF BULK AT MOST 1048576: true; the input reads as it did. -/
def bucketMarksUptoRow : OpenClaim := { program := "ytpffnjnncgmgnaa", sum := "7e4b86418edc951dec6d5ed1ae41efe23324ff67df56d96a3756065134e7b9b2", func := "counterpane/counterpanelaw13.BucketMarks", spec := "bucketMarks", unfollowed := true, recurses := true, apart := false, narrowed := true }
def BucketMarksUptoSaid : Prop := bucketMarksUptoRow.holds Try.pinned (OpenSpec.upto bucketMarksSpec)

end Rows
end Go.Proofs.Ytpffnjnncgmgnaa
