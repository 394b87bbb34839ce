/-
  No cell of these rows narrows 'for every input' (looked for: loops, veiled, ifaces, maps, wideKeys, modest, calm, conditions, laid).
  DERIVED. THE GIVEN ROWS OF THIS SEAT. 6 by the template 'for every input the law returns true; each argument reads behind the call as it read before'; 0 by the template 'total and deterministic' (their statements: YtcngonedcnddlaaTotals.lean).
  GIVEN WITH THE SEED: the statements are not yours to turn. If you find one false, say at which input.
  Laid BY PROGRAM, IN A SANDBOX (cutbox-rows.mjs): the forced cells as the released guide's own fill.sh prints them over the translation 38b9ca231b29bba4… (all of the seat's roots in one cut). By AI agents, Wed Nov 11 2026. No macro, syntax, notation, axiom, sorry.
-/
import Derived.Test.YtcngonedcnddlaaChecked
import GoSem.Claim
import GoSem.ClaimJoined
import GoSem.ClaimMapViews
import Derived.JoinedTies
import Derived.KernelRfl
namespace Go.Proofs.Ytcngonedcnddlaa
/- THE CELL 'sum', in the pinned program and in every row, IS THE sha256 OF THE DUMP (.gsa) THAT YtcngonedcnddlaaProg.lean LOADS. Nothing in Lean hashes anything: it is a label: what it is worth is what the hold of that sum in a sandbox is worth. -/
noncomputable def Try.pinned : Pinned := { name := "ytcngonedcnddlaa", sum := "38b9ca231b29bba4651596d4e2421569a4f4a1dd3c7e2f196ea9d4c9acebad44", checked := Try.checked }
namespace Rows
def none {H : Type} : Left H := { results := [], args := [] }

/-- 'freeboardlaw10.SuperNames': WHATEVER THE INPUT: true; the input reads as it did. -/
def superNamesSpec : ChangeSpec := { name := "superNames", fn := fun _ => fun
  | [] => { results := [.lit (.bool true)], args := [] }
  | _ => none }
def superNamesRow : OpenClaim := { program := "ytcngonedcnddlaa", sum := "38b9ca231b29bba4651596d4e2421569a4f4a1dd3c7e2f196ea9d4c9acebad44", func := "freeboard/freeboardlaw10.SuperNames", spec := "superNames", apart := false }
def SuperNamesSaid : Prop := superNamesRow.holds Try.pinned (OpenSpec.ofChange superNamesSpec)

/-- ITS FALSE NEIGHBOUR: 'it returns false'. Refute it at one input. -/
def superNamesWrong : ChangeSpec := { name := "superNames", fn := fun _ => fun
  | [] => { results := [.lit (.bool false)], args := [] }
  | _ => none }
def SuperNamesWrongFalsely : Prop := superNamesRow.holds Try.pinned (OpenSpec.ofChange superNamesWrong)

/-- 'freeboardlaw10.SuperDoes': WHATEVER THE INPUT: true; the input reads as it did. -/
def superDoesSpec : ChangeSpec := { name := "superDoes", fn := fun _ => fun
  | [d1, d2] => { results := [.lit (.bool true)], args := [d1, d2] }
  | _ => none }
def superDoesRow : OpenClaim := { program := "ytcngonedcnddlaa", sum := "38b9ca231b29bba4651596d4e2421569a4f4a1dd3c7e2f196ea9d4c9acebad44", func := "freeboard/freeboardlaw10.SuperDoes", spec := "superDoes", apart := false }
def SuperDoesSaid : Prop := superDoesRow.holds Try.pinned (OpenSpec.ofChange superDoesSpec)

/-- ITS FALSE NEIGHBOUR: 'it returns false'. Refute it at one input. -/
def superDoesWrong : ChangeSpec := { name := "superDoes", fn := fun _ => fun
  | [d1, d2] => { results := [.lit (.bool false)], args := [d1, d2] }
  | _ => none }
def SuperDoesWrongFalsely : Prop := superDoesRow.holds Try.pinned (OpenSpec.ofChange superDoesWrong)

/-- 'freeboardlaw10.SuperBack': WHATEVER THE INPUT: true; the input reads as it did. -/
def superBackSpec : ChangeSpec := { name := "superBack", fn := fun _ => fun
  | [d1, d2] => { results := [.lit (.bool true)], args := [d1, d2] }
  | _ => none }
def superBackRow : OpenClaim := { program := "ytcngonedcnddlaa", sum := "38b9ca231b29bba4651596d4e2421569a4f4a1dd3c7e2f196ea9d4c9acebad44", func := "freeboard/freeboardlaw10.SuperBack", spec := "superBack", apart := false }
def SuperBackSaid : Prop := superBackRow.holds Try.pinned (OpenSpec.ofChange superBackSpec)

/-- ITS FALSE NEIGHBOUR: 'it returns false'. Refute it at one input. -/
def superBackWrong : ChangeSpec := { name := "superBack", fn := fun _ => fun
  | [d1, d2] => { results := [.lit (.bool false)], args := [d1, d2] }
  | _ => none }
def SuperBackWrongFalsely : Prop := superBackRow.holds Try.pinned (OpenSpec.ofChange superBackWrong)

/-- 'freeboardlaw10.SuperTurns': WHATEVER THE INPUT: true; the input reads as it did. -/
def superTurnsSpec : ChangeSpec := { name := "superTurns", fn := fun _ => fun
  | [d1, d2, d3] => { results := [.lit (.bool true)], args := [d1, d2, d3] }
  | _ => none }
def superTurnsRow : OpenClaim := { program := "ytcngonedcnddlaa", sum := "38b9ca231b29bba4651596d4e2421569a4f4a1dd3c7e2f196ea9d4c9acebad44", func := "freeboard/freeboardlaw10.SuperTurns", spec := "superTurns", apart := false }
def SuperTurnsSaid : Prop := superTurnsRow.holds Try.pinned (OpenSpec.ofChange superTurnsSpec)

/-- ITS FALSE NEIGHBOUR: 'it returns false'. Refute it at one input. -/
def superTurnsWrong : ChangeSpec := { name := "superTurns", fn := fun _ => fun
  | [d1, d2, d3] => { results := [.lit (.bool false)], args := [d1, d2, d3] }
  | _ => none }
def SuperTurnsWrongFalsely : Prop := superTurnsRow.holds Try.pinned (OpenSpec.ofChange superTurnsWrong)

/-- 'freeboardlaw10.SuperUnlike': WHATEVER THE INPUT: true; the input reads as it did. -/
def superUnlikeSpec : ChangeSpec := { name := "superUnlike", fn := fun _ => fun
  | [d1, d2, d3] => { results := [.lit (.bool true)], args := [d1, d2, d3] }
  | _ => none }
def superUnlikeRow : OpenClaim := { program := "ytcngonedcnddlaa", sum := "38b9ca231b29bba4651596d4e2421569a4f4a1dd3c7e2f196ea9d4c9acebad44", func := "freeboard/freeboardlaw10.SuperUnlike", spec := "superUnlike", unfollowed := true, recurses := true, apart := false }
def SuperUnlikeSaid : Prop := superUnlikeRow.holds Try.pinned (OpenSpec.ofChange superUnlikeSpec)

/-- ITS FALSE NEIGHBOUR: 'it returns false'. Refute it at one input. -/
def superUnlikeWrong : ChangeSpec := { name := "superUnlike", fn := fun _ => fun
  | [d1, d2, d3] => { results := [.lit (.bool false)], args := [d1, d2, d3] }
  | _ => none }
def SuperUnlikeWrongFalsely : Prop := superUnlikeRow.holds Try.pinned (OpenSpec.ofChange superUnlikeWrong)

/-- 'freeboardlaw10.SuperBounds': WHATEVER THE INPUT: true; the input reads as it did. -/
def superBoundsSpec : ChangeSpec := { name := "superBounds", fn := fun _ => fun
  | [d] => { results := [.lit (.bool true)], args := [d] }
  | _ => none }
def superBoundsRow : OpenClaim := { program := "ytcngonedcnddlaa", sum := "38b9ca231b29bba4651596d4e2421569a4f4a1dd3c7e2f196ea9d4c9acebad44", func := "freeboard/freeboardlaw10.SuperBounds", spec := "superBounds", apart := false }
def SuperBoundsSaid : Prop := superBoundsRow.holds Try.pinned (OpenSpec.ofChange superBoundsSpec)

/-- ITS FALSE NEIGHBOUR: 'it returns false'. Refute it at one input. -/
def superBoundsWrong : ChangeSpec := { name := "superBounds", fn := fun _ => fun
  | [d] => { results := [.lit (.bool false)], args := [d] }
  | _ => none }
def SuperBoundsWrongFalsely : Prop := superBoundsRow.holds Try.pinned (OpenSpec.ofChange superBoundsWrong)

/- THE SECOND FORM. 'bulk': how many values and letters a reading holds, each counted each time it is reached (what is shared counts as often as it is met; a slice's spare places count too). A statement '..UptoSaid' is the law's where the arguments, and the package variables that the reading takes, are together of bulk at most 1048576: NARROWER than '..Said'. Prove '..Said' where nothing that the law and all that it calls make is longer than what came in: it says more and counts as full. Else prove '..UptoSaid'. A law counts once. -/
mutual
def uptoBulk {H : Type} : DataW H → Nat
  | .lit (.string bytes) => bytes.length + 1
  | .lit _ => 1
  | .nil => 1
  | .ptr d => uptoBulk d + 1
  | .slice elems spare => uptoBulkAll elems + uptoBulkAll spare + 1
  | .agg parts => uptoBulkAll parts + 1
  | .iface _ d => uptoBulk d + 1
  | .map entries => uptoBulkEntries entries + 1
  | .held _ => 1
def uptoBulkAll {H : Type} : List (DataW H) → Nat
  | [] => 0
  | d :: r => uptoBulk d + uptoBulkAll r
def uptoBulkEntries {H : Type} : List (Lit × DataW H) → Nat
  | [] => 0
  | x :: r => uptoBulkEntry x + uptoBulkEntries r
def uptoBulkEntry {H : Type} : Lit × DataW H → Nat
  | (.string bytes, d) => bytes.length + uptoBulk d + 1
  | (_, d) => uptoBulk d + 1
 end
def uptoSmall : (H : Type) → List (DataW H) → Bool := fun _ ds => decide (uptoBulkAll ds ≤ 1048576)
def OpenSpec.upto (s : _root_.Go.ChangeSpec) : _root_.Go.OpenSpec := { _root_.Go.OpenSpec.ofChange s with cond := some uptoSmall }

/-- 'freeboardlaw10.SuperNames', WHERE WHAT IT READS IS OF BULK AT MOST 1048576: true; the input reads as it did. -/
def superNamesUptoRow : OpenClaim := { program := "ytcngonedcnddlaa", sum := "38b9ca231b29bba4651596d4e2421569a4f4a1dd3c7e2f196ea9d4c9acebad44", func := "freeboard/freeboardlaw10.SuperNames", spec := "superNames", apart := false, narrowed := true }
def SuperNamesUptoSaid : Prop := superNamesUptoRow.holds Try.pinned (OpenSpec.upto superNamesSpec)

/-- 'freeboardlaw10.SuperDoes', WHERE WHAT IT READS IS OF BULK AT MOST 1048576: true; the input reads as it did. -/
def superDoesUptoRow : OpenClaim := { program := "ytcngonedcnddlaa", sum := "38b9ca231b29bba4651596d4e2421569a4f4a1dd3c7e2f196ea9d4c9acebad44", func := "freeboard/freeboardlaw10.SuperDoes", spec := "superDoes", apart := false, narrowed := true }
def SuperDoesUptoSaid : Prop := superDoesUptoRow.holds Try.pinned (OpenSpec.upto superDoesSpec)

/-- 'freeboardlaw10.SuperBack', WHERE WHAT IT READS IS OF BULK AT MOST 1048576: true; the input reads as it did. -/
def superBackUptoRow : OpenClaim := { program := "ytcngonedcnddlaa", sum := "38b9ca231b29bba4651596d4e2421569a4f4a1dd3c7e2f196ea9d4c9acebad44", func := "freeboard/freeboardlaw10.SuperBack", spec := "superBack", apart := false, narrowed := true }
def SuperBackUptoSaid : Prop := superBackUptoRow.holds Try.pinned (OpenSpec.upto superBackSpec)

/-- 'freeboardlaw10.SuperTurns', WHERE WHAT IT READS IS OF BULK AT MOST 1048576: true; the input reads as it did. -/
def superTurnsUptoRow : OpenClaim := { program := "ytcngonedcnddlaa", sum := "38b9ca231b29bba4651596d4e2421569a4f4a1dd3c7e2f196ea9d4c9acebad44", func := "freeboard/freeboardlaw10.SuperTurns", spec := "superTurns", apart := false, narrowed := true }
def SuperTurnsUptoSaid : Prop := superTurnsUptoRow.holds Try.pinned (OpenSpec.upto superTurnsSpec)

/-- 'freeboardlaw10.SuperUnlike', WHERE WHAT IT READS IS OF BULK AT MOST 1048576: true; the input reads as it did. -/
def superUnlikeUptoRow : OpenClaim := { program := "ytcngonedcnddlaa", sum := "38b9ca231b29bba4651596d4e2421569a4f4a1dd3c7e2f196ea9d4c9acebad44", func := "freeboard/freeboardlaw10.SuperUnlike", spec := "superUnlike", unfollowed := true, recurses := true, apart := false, narrowed := true }
def SuperUnlikeUptoSaid : Prop := superUnlikeUptoRow.holds Try.pinned (OpenSpec.upto superUnlikeSpec)

/-- 'freeboardlaw10.SuperBounds', WHERE WHAT IT READS IS OF BULK AT MOST 1048576: true; the input reads as it did. -/
def superBoundsUptoRow : OpenClaim := { program := "ytcngonedcnddlaa", sum := "38b9ca231b29bba4651596d4e2421569a4f4a1dd3c7e2f196ea9d4c9acebad44", func := "freeboard/freeboardlaw10.SuperBounds", spec := "superBounds", apart := false, narrowed := true }
def SuperBoundsUptoSaid : Prop := superBoundsUptoRow.holds Try.pinned (OpenSpec.upto superBoundsSpec)

end Rows
end Go.Proofs.Ytcngonedcnddlaa
