/-
  No cell of these rows narrows 'for every input' (looked for: loops, veiled, ifaces, maps, wideKeys, modest, calm, conditions, laid).
  DERIVED. THE GIVEN ROWS OF THIS SEAT. 4 by the template 'for every input the law returns true; each argument reads behind the call as it read before'; 0 by the template 'total and deterministic' (their statements: YtjbohnnknfcjeaaTotals.lean).
  GIVEN WITH THE SEED: the statements are not yours to turn. If you find one false, say at which input.
  Laid BY PROGRAM, IN A SANDBOX (cutbox-rows.mjs): the forced cells as the released guide's own fill.sh prints them over the translation 5350cb0d83f05f85… (all of the seat's roots in one cut). By AI agents, Wed Nov 11 2026. No macro, syntax, notation, axiom, sorry.
-/
import Derived.Test.YtjbohnnknfcjeaaChecked
import GoSem.Claim
import GoSem.ClaimJoined
import GoSem.ClaimMapViews
import Derived.JoinedTies
import Derived.KernelRfl
namespace Go.Proofs.Ytjbohnnknfcjeaa
/- THE CELL 'sum', in the pinned program and in every row, IS THE sha256 OF THE DUMP (.gsa) THAT YtjbohnnknfcjeaaProg.lean LOADS. Nothing in Lean hashes anything: it is a label: what it is worth is what the hold of that sum in a sandbox is worth. -/
noncomputable def Try.pinned : Pinned := { name := "ytjbohnnknfcjeaa", sum := "5350cb0d83f05f85ceea2d46fcddeda1569b549e5dcf58a189dc2bc64ae01cb1", checked := Try.checked }
namespace Rows
def none {H : Type} : Left H := { results := [], args := [] }

/-- 'counterpanelaw15.ScaleCuts': WHATEVER THE INPUT: true; the input reads as it did. -/
def scaleCutsSpec : ChangeSpec := { name := "scaleCuts", fn := fun _ => fun
  | [d1, d2, d3] => { results := [.lit (.bool true)], args := [d1, d2, d3] }
  | _ => none }
def scaleCutsRow : OpenClaim := { program := "ytjbohnnknfcjeaa", sum := "5350cb0d83f05f85ceea2d46fcddeda1569b549e5dcf58a189dc2bc64ae01cb1", func := "counterpane/counterpanelaw15.ScaleCuts", spec := "scaleCuts", unfollowed := true, recurses := true, apart := false }
def ScaleCutsSaid : Prop := scaleCutsRow.holds Try.pinned (OpenSpec.ofChange scaleCutsSpec)

/-- ITS FALSE NEIGHBOUR: 'it returns false'. Refute it at one input. -/
def scaleCutsWrong : ChangeSpec := { name := "scaleCuts", fn := fun _ => fun
  | [d1, d2, d3] => { results := [.lit (.bool false)], args := [d1, d2, d3] }
  | _ => none }
def ScaleCutsWrongFalsely : Prop := scaleCutsRow.holds Try.pinned (OpenSpec.ofChange scaleCutsWrong)

/-- 'counterpanelaw15.ScaleEnds': WHATEVER THE INPUT: true; the input reads as it did. -/
def scaleEndsSpec : ChangeSpec := { name := "scaleEnds", fn := fun _ => fun
  | [d1, d2, d3] => { results := [.lit (.bool true)], args := [d1, d2, d3] }
  | _ => none }
def scaleEndsRow : OpenClaim := { program := "ytjbohnnknfcjeaa", sum := "5350cb0d83f05f85ceea2d46fcddeda1569b549e5dcf58a189dc2bc64ae01cb1", func := "counterpane/counterpanelaw15.ScaleEnds", spec := "scaleEnds", unfollowed := true, recurses := true, apart := false }
def ScaleEndsSaid : Prop := scaleEndsRow.holds Try.pinned (OpenSpec.ofChange scaleEndsSpec)

/-- ITS FALSE NEIGHBOUR: 'it returns false'. Refute it at one input. -/
def scaleEndsWrong : ChangeSpec := { name := "scaleEnds", fn := fun _ => fun
  | [d1, d2, d3] => { results := [.lit (.bool false)], args := [d1, d2, d3] }
  | _ => none }
def ScaleEndsWrongFalsely : Prop := scaleEndsRow.holds Try.pinned (OpenSpec.ofChange scaleEndsWrong)

/-- 'counterpanelaw15.ScaleMiddles': WHATEVER THE INPUT: true; the input reads as it did. -/
def scaleMiddlesSpec : ChangeSpec := { name := "scaleMiddles", fn := fun _ => fun
  | [d] => { results := [.lit (.bool true)], args := [d] }
  | _ => none }
def scaleMiddlesRow : OpenClaim := { program := "ytjbohnnknfcjeaa", sum := "5350cb0d83f05f85ceea2d46fcddeda1569b549e5dcf58a189dc2bc64ae01cb1", func := "counterpane/counterpanelaw15.ScaleMiddles", spec := "scaleMiddles", unfollowed := true, recurses := true, apart := false }
def ScaleMiddlesSaid : Prop := scaleMiddlesRow.holds Try.pinned (OpenSpec.ofChange scaleMiddlesSpec)

/-- ITS FALSE NEIGHBOUR: 'it returns false'. Refute it at one input. -/
def scaleMiddlesWrong : ChangeSpec := { name := "scaleMiddles", fn := fun _ => fun
  | [d] => { results := [.lit (.bool false)], args := [d] }
  | _ => none }
def ScaleMiddlesWrongFalsely : Prop := scaleMiddlesRow.holds Try.pinned (OpenSpec.ofChange scaleMiddlesWrong)

/-- 'counterpanelaw15.ScaleParts': WHATEVER THE INPUT: true; the input reads as it did. -/
def scalePartsSpec : ChangeSpec := { name := "scaleParts", fn := fun _ => fun
  | [d1, d2, d3] => { results := [.lit (.bool true)], args := [d1, d2, d3] }
  | _ => none }
def scalePartsRow : OpenClaim := { program := "ytjbohnnknfcjeaa", sum := "5350cb0d83f05f85ceea2d46fcddeda1569b549e5dcf58a189dc2bc64ae01cb1", func := "counterpane/counterpanelaw15.ScaleParts", spec := "scaleParts", unfollowed := true, recurses := true, apart := false }
def ScalePartsSaid : Prop := scalePartsRow.holds Try.pinned (OpenSpec.ofChange scalePartsSpec)

/-- ITS FALSE NEIGHBOUR: 'it returns false'. Refute it at one input. -/
def scalePartsWrong : ChangeSpec := { name := "scaleParts", fn := fun _ => fun
  | [d1, d2, d3] => { results := [.lit (.bool false)], args := [d1, d2, d3] }
  | _ => none }
def ScalePartsWrongFalsely : Prop := scalePartsRow.holds Try.pinned (OpenSpec.ofChange scalePartsWrong)

/- THE SECOND FORM. 'bulk': how many values and letters a reading holds, each counted each time it is reached (what is shared counts as often as it is met; a slice's spare places count too). A statement '..UptoSaid' is the law's where the arguments, and the package variables that the reading takes, are together of bulk at most 1048576: NARROWER than '..Said'. Prove '..Said' where nothing that the law and all that it calls make is longer than what came in: it says more and counts as full. Else prove '..UptoSaid'. A law counts once. -/
mutual
def uptoBulk {H : Type} : DataW H → Nat
  | .lit (.string bytes) => bytes.length + 1
  | .lit _ => 1
  | .nil => 1
  | .ptr d => uptoBulk d + 1
  | .slice elems spare => uptoBulkAll elems + uptoBulkAll spare + 1
  | .agg parts => uptoBulkAll parts + 1
  | .iface _ d => uptoBulk d + 1
  | .map entries => uptoBulkEntries entries + 1
  | .held _ => 1
def uptoBulkAll {H : Type} : List (DataW H) → Nat
  | [] => 0
  | d :: r => uptoBulk d + uptoBulkAll r
def uptoBulkEntries {H : Type} : List (Lit × DataW H) → Nat
  | [] => 0
  | x :: r => uptoBulkEntry x + uptoBulkEntries r
def uptoBulkEntry {H : Type} : Lit × DataW H → Nat
  | (.string bytes, d) => bytes.length + uptoBulk d + 1
  | (_, d) => uptoBulk d + 1
 end
def uptoSmall : (H : Type) → List (DataW H) → Bool := fun _ ds => decide (uptoBulkAll ds ≤ 1048576)
def OpenSpec.upto (s : _root_.Go.ChangeSpec) : _root_.Go.OpenSpec := { _root_.Go.OpenSpec.ofChange s with cond := some uptoSmall }

/-- 'counterpanelaw15.ScaleCuts', WHERE WHAT IT READS IS OF BULK AT MOST 1048576: true; the input reads as it did. -/
def scaleCutsUptoRow : OpenClaim := { program := "ytjbohnnknfcjeaa", sum := "5350cb0d83f05f85ceea2d46fcddeda1569b549e5dcf58a189dc2bc64ae01cb1", func := "counterpane/counterpanelaw15.ScaleCuts", spec := "scaleCuts", unfollowed := true, recurses := true, apart := false, narrowed := true }
def ScaleCutsUptoSaid : Prop := scaleCutsUptoRow.holds Try.pinned (OpenSpec.upto scaleCutsSpec)

/-- 'counterpanelaw15.ScaleEnds', WHERE WHAT IT READS IS OF BULK AT MOST 1048576: true; the input reads as it did. -/
def scaleEndsUptoRow : OpenClaim := { program := "ytjbohnnknfcjeaa", sum := "5350cb0d83f05f85ceea2d46fcddeda1569b549e5dcf58a189dc2bc64ae01cb1", func := "counterpane/counterpanelaw15.ScaleEnds", spec := "scaleEnds", unfollowed := true, recurses := true, apart := false, narrowed := true }
def ScaleEndsUptoSaid : Prop := scaleEndsUptoRow.holds Try.pinned (OpenSpec.upto scaleEndsSpec)

/-- 'counterpanelaw15.ScaleMiddles', WHERE WHAT IT READS IS OF BULK AT MOST 1048576: true; the input reads as it did. -/
def scaleMiddlesUptoRow : OpenClaim := { program := "ytjbohnnknfcjeaa", sum := "5350cb0d83f05f85ceea2d46fcddeda1569b549e5dcf58a189dc2bc64ae01cb1", func := "counterpane/counterpanelaw15.ScaleMiddles", spec := "scaleMiddles", unfollowed := true, recurses := true, apart := false, narrowed := true }
def ScaleMiddlesUptoSaid : Prop := scaleMiddlesUptoRow.holds Try.pinned (OpenSpec.upto scaleMiddlesSpec)

/-- 'counterpanelaw15.ScaleParts', WHERE WHAT IT READS IS OF BULK AT MOST 1048576: true; the input reads as it did. -/
def scalePartsUptoRow : OpenClaim := { program := "ytjbohnnknfcjeaa", sum := "5350cb0d83f05f85ceea2d46fcddeda1569b549e5dcf58a189dc2bc64ae01cb1", func := "counterpane/counterpanelaw15.ScaleParts", spec := "scaleParts", unfollowed := true, recurses := true, apart := false, narrowed := true }
def ScalePartsUptoSaid : Prop := scalePartsUptoRow.holds Try.pinned (OpenSpec.upto scalePartsSpec)

end Rows
end Go.Proofs.Ytjbohnnknfcjeaa
