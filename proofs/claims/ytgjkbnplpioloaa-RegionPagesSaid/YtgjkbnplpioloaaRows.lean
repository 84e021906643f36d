/-
  No cell of these rows narrows 'for every input' (looked for: loops, veiled, ifaces, maps, wideKeys, modest, calm, conditions, laid).
  DERIVED. THE GIVEN ROWS OF THIS SEAT. 5 by the template 'for every input the law returns true; each argument reads behind the call as it read before'; 0 by the template 'total and deterministic' (their statements: YtgjkbnplpioloaaTotals.lean).
  GIVEN WITH THE SEED: the statements are not yours to turn. If you find one false, say at which input.
  Laid BY PROGRAM, IN A SANDBOX (cutbox-rows.mjs): the forced cells as the released guide's own fill.sh prints them over the translation f74c58b42be88d03… (all of the seat's roots in one cut). By AI agents, Wed Nov 11 2026. No macro, syntax, notation, axiom, sorry.
-/
import Derived.Test.YtgjkbnplpioloaaChecked
import GoSem.Claim
import GoSem.ClaimJoined
import GoSem.ClaimMapViews
import Derived.JoinedTies
import Derived.KernelRfl
namespace Go.Proofs.Ytgjkbnplpioloaa
/- THE CELL 'sum', in the pinned program and in every row, IS THE sha256 OF THE DUMP (.gsa) THAT YtgjkbnplpioloaaProg.lean LOADS. Nothing in Lean hashes anything: it is a label: what it is worth is what the hold of that sum in a sandbox is worth. -/
noncomputable def Try.pinned : Pinned := { name := "ytgjkbnplpioloaa", sum := "f74c58b42be88d032c45351e988e8fef2b5c2348931f737250eb0c57dfb676ab", checked := Try.checked }
namespace Rows
def none {H : Type} : Left H := { results := [], args := [] }

/-- 'counterpanelaw16.RegionBoxes': WHATEVER THE INPUT: true; the input reads as it did. -/
def regionBoxesSpec : ChangeSpec := { name := "regionBoxes", fn := fun _ => fun
  | [d1, d2, d3, d4] => { results := [.lit (.bool true)], args := [d1, d2, d3, d4] }
  | _ => none }
def regionBoxesRow : OpenClaim := { program := "ytgjkbnplpioloaa", sum := "f74c58b42be88d032c45351e988e8fef2b5c2348931f737250eb0c57dfb676ab", func := "counterpane/counterpanelaw16.RegionBoxes", spec := "regionBoxes", unfollowed := true, recurses := true, apart := false }
def RegionBoxesSaid : Prop := regionBoxesRow.holds Try.pinned (OpenSpec.ofChange regionBoxesSpec)

/-- ITS FALSE NEIGHBOUR: 'it returns false'. Refute it at one input. -/
def regionBoxesWrong : ChangeSpec := { name := "regionBoxes", fn := fun _ => fun
  | [d1, d2, d3, d4] => { results := [.lit (.bool false)], args := [d1, d2, d3, d4] }
  | _ => none }
def RegionBoxesWrongFalsely : Prop := regionBoxesRow.holds Try.pinned (OpenSpec.ofChange regionBoxesWrong)

/-- 'counterpanelaw16.RegionDoes': WHATEVER THE INPUT: true; the input reads as it did. -/
def regionDoesSpec : ChangeSpec := { name := "regionDoes", fn := fun _ => fun
  | [d1, d2, d3] => { results := [.lit (.bool true)], args := [d1, d2, d3] }
  | _ => none }
def regionDoesRow : OpenClaim := { program := "ytgjkbnplpioloaa", sum := "f74c58b42be88d032c45351e988e8fef2b5c2348931f737250eb0c57dfb676ab", func := "counterpane/counterpanelaw16.RegionDoes", spec := "regionDoes", unfollowed := true, recurses := true, apart := false }
def RegionDoesSaid : Prop := regionDoesRow.holds Try.pinned (OpenSpec.ofChange regionDoesSpec)

/-- ITS FALSE NEIGHBOUR: 'it returns false'. Refute it at one input. -/
def regionDoesWrong : ChangeSpec := { name := "regionDoes", fn := fun _ => fun
  | [d1, d2, d3] => { results := [.lit (.bool false)], args := [d1, d2, d3] }
  | _ => none }
def RegionDoesWrongFalsely : Prop := regionDoesRow.holds Try.pinned (OpenSpec.ofChange regionDoesWrong)

/-- 'counterpanelaw16.RegionPages': WHATEVER THE INPUT: true; the input reads as it did. -/
def regionPagesSpec : ChangeSpec := { name := "regionPages", fn := fun _ => fun
  | [d1, d2, d3] => { results := [.lit (.bool true)], args := [d1, d2, d3] }
  | _ => none }
def regionPagesRow : OpenClaim := { program := "ytgjkbnplpioloaa", sum := "f74c58b42be88d032c45351e988e8fef2b5c2348931f737250eb0c57dfb676ab", func := "counterpane/counterpanelaw16.RegionPages", spec := "regionPages", unfollowed := true, recurses := true, apart := false }
def RegionPagesSaid : Prop := regionPagesRow.holds Try.pinned (OpenSpec.ofChange regionPagesSpec)

/-- ITS FALSE NEIGHBOUR: 'it returns false'. Refute it at one input. -/
def regionPagesWrong : ChangeSpec := { name := "regionPages", fn := fun _ => fun
  | [d1, d2, d3] => { results := [.lit (.bool false)], args := [d1, d2, d3] }
  | _ => none }
def RegionPagesWrongFalsely : Prop := regionPagesRow.holds Try.pinned (OpenSpec.ofChange regionPagesWrong)

/-- 'counterpanelaw16.RegionOne': WHATEVER THE INPUT: true; the input reads as it did. -/
def regionOneSpec : ChangeSpec := { name := "regionOne", fn := fun _ => fun
  | [d] => { results := [.lit (.bool true)], args := [d] }
  | _ => none }
def regionOneRow : OpenClaim := { program := "ytgjkbnplpioloaa", sum := "f74c58b42be88d032c45351e988e8fef2b5c2348931f737250eb0c57dfb676ab", func := "counterpane/counterpanelaw16.RegionOne", spec := "regionOne", unfollowed := true, recurses := true, apart := false }
def RegionOneSaid : Prop := regionOneRow.holds Try.pinned (OpenSpec.ofChange regionOneSpec)

/-- ITS FALSE NEIGHBOUR: 'it returns false'. Refute it at one input. -/
def regionOneWrong : ChangeSpec := { name := "regionOne", fn := fun _ => fun
  | [d] => { results := [.lit (.bool false)], args := [d] }
  | _ => none }
def RegionOneWrongFalsely : Prop := regionOneRow.holds Try.pinned (OpenSpec.ofChange regionOneWrong)

/-- 'counterpanelaw16.RegionHalves': WHATEVER THE INPUT: true; the input reads as it did. -/
def regionHalvesSpec : ChangeSpec := { name := "regionHalves", fn := fun _ => fun
  | [d1, d2, d3, d4] => { results := [.lit (.bool true)], args := [d1, d2, d3, d4] }
  | _ => none }
def regionHalvesRow : OpenClaim := { program := "ytgjkbnplpioloaa", sum := "f74c58b42be88d032c45351e988e8fef2b5c2348931f737250eb0c57dfb676ab", func := "counterpane/counterpanelaw16.RegionHalves", spec := "regionHalves", unfollowed := true, recurses := true, apart := false }
def RegionHalvesSaid : Prop := regionHalvesRow.holds Try.pinned (OpenSpec.ofChange regionHalvesSpec)

/-- ITS FALSE NEIGHBOUR: 'it returns false'. Refute it at one input. -/
def regionHalvesWrong : ChangeSpec := { name := "regionHalves", fn := fun _ => fun
  | [d1, d2, d3, d4] => { results := [.lit (.bool false)], args := [d1, d2, d3, d4] }
  | _ => none }
def RegionHalvesWrongFalsely : Prop := regionHalvesRow.holds Try.pinned (OpenSpec.ofChange regionHalvesWrong)

/- THE SECOND FORM. 'bulk': how many values and letters a reading holds, each counted each time it is reached (what is shared counts as often as it is met; a slice's spare places count too). A statement '..UptoSaid' is the law's where the arguments, and the package variables that the reading takes, are together of bulk at most 1048576: NARROWER than '..Said'. Prove '..Said' where nothing that the law and all that it calls make is longer than what came in: it says more and counts as full. Else prove '..UptoSaid'. A law counts once. -/
mutual
def uptoBulk {H : Type} : DataW H → Nat
  | .lit (.string bytes) => bytes.length + 1
  | .lit _ => 1
  | .nil => 1
  | .ptr d => uptoBulk d + 1
  | .slice elems spare => uptoBulkAll elems + uptoBulkAll spare + 1
  | .agg parts => uptoBulkAll parts + 1
  | .iface _ d => uptoBulk d + 1
  | .map entries => uptoBulkEntries entries + 1
  | .held _ => 1
def uptoBulkAll {H : Type} : List (DataW H) → Nat
  | [] => 0
  | d :: r => uptoBulk d + uptoBulkAll r
def uptoBulkEntries {H : Type} : List (Lit × DataW H) → Nat
  | [] => 0
  | x :: r => uptoBulkEntry x + uptoBulkEntries r
def uptoBulkEntry {H : Type} : Lit × DataW H → Nat
  | (.string bytes, d) => bytes.length + uptoBulk d + 1
  | (_, d) => uptoBulk d + 1
 end
def uptoSmall : (H : Type) → List (DataW H) → Bool := fun _ ds => decide (uptoBulkAll ds ≤ 1048576)
def OpenSpec.upto (s : _root_.Go.ChangeSpec) : _root_.Go.OpenSpec := { _root_.Go.OpenSpec.ofChange s with cond := some uptoSmall }

/-- 'counterpanelaw16.RegionBoxes', WHERE WHAT IT READS IS OF BULK AT MOST 1048576: true; the input reads as it did. -/
def regionBoxesUptoRow : OpenClaim := { program := "ytgjkbnplpioloaa", sum := "f74c58b42be88d032c45351e988e8fef2b5c2348931f737250eb0c57dfb676ab", func := "counterpane/counterpanelaw16.RegionBoxes", spec := "regionBoxes", unfollowed := true, recurses := true, apart := false, narrowed := true }
def RegionBoxesUptoSaid : Prop := regionBoxesUptoRow.holds Try.pinned (OpenSpec.upto regionBoxesSpec)

/-- 'counterpanelaw16.RegionDoes', WHERE WHAT IT READS IS OF BULK AT MOST 1048576: true; the input reads as it did. -/
def regionDoesUptoRow : OpenClaim := { program := "ytgjkbnplpioloaa", sum := "f74c58b42be88d032c45351e988e8fef2b5c2348931f737250eb0c57dfb676ab", func := "counterpane/counterpanelaw16.RegionDoes", spec := "regionDoes", unfollowed := true, recurses := true, apart := false, narrowed := true }
def RegionDoesUptoSaid : Prop := regionDoesUptoRow.holds Try.pinned (OpenSpec.upto regionDoesSpec)

/-- 'counterpanelaw16.RegionPages', WHERE WHAT IT READS IS OF BULK AT MOST 1048576: true; the input reads as it did. -/
def regionPagesUptoRow : OpenClaim := { program := "ytgjkbnplpioloaa", sum := "f74c58b42be88d032c45351e988e8fef2b5c2348931f737250eb0c57dfb676ab", func := "counterpane/counterpanelaw16.RegionPages", spec := "regionPages", unfollowed := true, recurses := true, apart := false, narrowed := true }
def RegionPagesUptoSaid : Prop := regionPagesUptoRow.holds Try.pinned (OpenSpec.upto regionPagesSpec)

/-- 'counterpanelaw16.RegionOne', WHERE WHAT IT READS IS OF BULK AT MOST 1048576: true; the input reads as it did. -/
def regionOneUptoRow : OpenClaim := { program := "ytgjkbnplpioloaa", sum := "f74c58b42be88d032c45351e988e8fef2b5c2348931f737250eb0c57dfb676ab", func := "counterpane/counterpanelaw16.RegionOne", spec := "regionOne", unfollowed := true, recurses := true, apart := false, narrowed := true }
def RegionOneUptoSaid : Prop := regionOneUptoRow.holds Try.pinned (OpenSpec.upto regionOneSpec)

/-- 'counterpanelaw16.RegionHalves', WHERE WHAT IT READS IS OF BULK AT MOST 1048576: true; the input reads as it did. -/
def regionHalvesUptoRow : OpenClaim := { program := "ytgjkbnplpioloaa", sum := "f74c58b42be88d032c45351e988e8fef2b5c2348931f737250eb0c57dfb676ab", func := "counterpane/counterpanelaw16.RegionHalves", spec := "regionHalves", unfollowed := true, recurses := true, apart := false, narrowed := true }
def RegionHalvesUptoSaid : Prop := regionHalvesUptoRow.holds Try.pinned (OpenSpec.upto regionHalvesSpec)

end Rows
end Go.Proofs.Ytgjkbnplpioloaa
