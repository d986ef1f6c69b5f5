/-
  No cell of these rows narrows 'for every input' (looked for: loops, veiled, ifaces, maps, wideKeys, modest, calm, conditions, laid).
  DERIVED. THE GIVEN ROWS OF THIS SEAT. 5 by the template 'for every input the law returns true; each argument reads behind the call as it read before'; 0 by the template 'total and deterministic' (their statements: YtbhnpidbgckinaaTotals.lean).
  GIVEN WITH THE SEED: the statements are not yours to turn. If you find one false, say at which input.
  Laid BY PROGRAM, IN A SANDBOX (cutbox-rows.mjs): the forced cells as the released guide's own fill.sh prints them over the translation df9ef27f5d8d2fdb… (all of the seat's roots in one cut). By AI agents, Wed Nov 11 2026. No macro, syntax, notation, axiom, sorry.
-/
import Derived.Test.YtbhnpidbgckinaaChecked
import GoSem.Claim
import GoSem.ClaimJoined
import GoSem.ClaimMapViews
import Derived.JoinedTies
import Derived.KernelRfl
namespace Go.Proofs.Ytbhnpidbgckinaa
/- THE CELL 'sum', in the pinned program and in every row, IS THE sha256 OF THE DUMP (.gsa) THAT YtbhnpidbgckinaaProg.lean LOADS. Nothing in Lean hashes anything: it is a label: what it is worth is what the hold of that sum in a sandbox is worth. -/
noncomputable def Try.pinned : Pinned := { name := "ytbhnpidbgckinaa", sum := "df9ef27f5d8d2fdb899d2290ae50fafb1eacb616cae070c0ccdd68daa827819d", checked := Try.checked }
namespace Rows
def none {H : Type} : Left H := { results := [], args := [] }

/-- 'petasoslaw13.GreedyTells': WHATEVER THE INPUT: true; the input reads as it did. -/
def greedyTellsSpec : ChangeSpec := { name := "greedyTells", fn := fun _ => fun
  | [d1, d2, d3, d4] => { results := [.lit (.bool true)], args := [d1, d2, d3, d4] }
  | _ => none }
def greedyTellsRow : OpenClaim := { program := "ytbhnpidbgckinaa", sum := "df9ef27f5d8d2fdb899d2290ae50fafb1eacb616cae070c0ccdd68daa827819d", func := "petasos/petasoslaw13.GreedyTells", spec := "greedyTells", unfollowed := true, recurses := true, apart := false }
def GreedyTellsSaid : Prop := greedyTellsRow.holds Try.pinned (OpenSpec.ofChange greedyTellsSpec)

/-- ITS FALSE NEIGHBOUR: 'it returns false'. Refute it at one input. -/
def greedyTellsWrong : ChangeSpec := { name := "greedyTells", fn := fun _ => fun
  | [d1, d2, d3, d4] => { results := [.lit (.bool false)], args := [d1, d2, d3, d4] }
  | _ => none }
def GreedyTellsWrongFalsely : Prop := greedyTellsRow.holds Try.pinned (OpenSpec.ofChange greedyTellsWrong)

/-- 'petasoslaw13.GreedyWays': WHATEVER THE INPUT: true; the input reads as it did. -/
def greedyWaysSpec : ChangeSpec := { name := "greedyWays", fn := fun _ => fun
  | [d1, d2, d3, d4] => { results := [.lit (.bool true)], args := [d1, d2, d3, d4] }
  | _ => none }
def greedyWaysRow : OpenClaim := { program := "ytbhnpidbgckinaa", sum := "df9ef27f5d8d2fdb899d2290ae50fafb1eacb616cae070c0ccdd68daa827819d", func := "petasos/petasoslaw13.GreedyWays", spec := "greedyWays", unfollowed := true, recurses := true, apart := false }
def GreedyWaysSaid : Prop := greedyWaysRow.holds Try.pinned (OpenSpec.ofChange greedyWaysSpec)

/-- ITS FALSE NEIGHBOUR: 'it returns false'. Refute it at one input. -/
def greedyWaysWrong : ChangeSpec := { name := "greedyWays", fn := fun _ => fun
  | [d1, d2, d3, d4] => { results := [.lit (.bool false)], args := [d1, d2, d3, d4] }
  | _ => none }
def GreedyWaysWrongFalsely : Prop := greedyWaysRow.holds Try.pinned (OpenSpec.ofChange greedyWaysWrong)

/-- 'petasoslaw13.GreedyNone': WHATEVER THE INPUT: true; the input reads as it did. -/
def greedyNoneSpec : ChangeSpec := { name := "greedyNone", fn := fun _ => fun
  | [d1, d2, d3] => { results := [.lit (.bool true)], args := [d1, d2, d3] }
  | _ => none }
def greedyNoneRow : OpenClaim := { program := "ytbhnpidbgckinaa", sum := "df9ef27f5d8d2fdb899d2290ae50fafb1eacb616cae070c0ccdd68daa827819d", func := "petasos/petasoslaw13.GreedyNone", spec := "greedyNone", unfollowed := true, recurses := true, apart := false }
def GreedyNoneSaid : Prop := greedyNoneRow.holds Try.pinned (OpenSpec.ofChange greedyNoneSpec)

/-- ITS FALSE NEIGHBOUR: 'it returns false'. Refute it at one input. -/
def greedyNoneWrong : ChangeSpec := { name := "greedyNone", fn := fun _ => fun
  | [d1, d2, d3] => { results := [.lit (.bool false)], args := [d1, d2, d3] }
  | _ => none }
def GreedyNoneWrongFalsely : Prop := greedyNoneRow.holds Try.pinned (OpenSpec.ofChange greedyNoneWrong)

/-- 'petasoslaw13.GreedyBetter': WHATEVER THE INPUT: true; the input reads as it did. -/
def greedyBetterSpec : ChangeSpec := { name := "greedyBetter", fn := fun _ => fun
  | [d1, d2, d3, d4] => { results := [.lit (.bool true)], args := [d1, d2, d3, d4] }
  | _ => none }
def greedyBetterRow : OpenClaim := { program := "ytbhnpidbgckinaa", sum := "df9ef27f5d8d2fdb899d2290ae50fafb1eacb616cae070c0ccdd68daa827819d", func := "petasos/petasoslaw13.GreedyBetter", spec := "greedyBetter", unfollowed := true, recurses := true, apart := false }
def GreedyBetterSaid : Prop := greedyBetterRow.holds Try.pinned (OpenSpec.ofChange greedyBetterSpec)

/-- ITS FALSE NEIGHBOUR: 'it returns false'. Refute it at one input. -/
def greedyBetterWrong : ChangeSpec := { name := "greedyBetter", fn := fun _ => fun
  | [d1, d2, d3, d4] => { results := [.lit (.bool false)], args := [d1, d2, d3, d4] }
  | _ => none }
def GreedyBetterWrongFalsely : Prop := greedyBetterRow.holds Try.pinned (OpenSpec.ofChange greedyBetterWrong)

/-- 'petasoslaw13.GreedyNear': WHATEVER THE INPUT: true; the input reads as it did. -/
def greedyNearSpec : ChangeSpec := { name := "greedyNear", fn := fun _ => fun
  | [d1, d2, d3, d4] => { results := [.lit (.bool true)], args := [d1, d2, d3, d4] }
  | _ => none }
def greedyNearRow : OpenClaim := { program := "ytbhnpidbgckinaa", sum := "df9ef27f5d8d2fdb899d2290ae50fafb1eacb616cae070c0ccdd68daa827819d", func := "petasos/petasoslaw13.GreedyNear", spec := "greedyNear", unfollowed := true, recurses := true, apart := false }
def GreedyNearSaid : Prop := greedyNearRow.holds Try.pinned (OpenSpec.ofChange greedyNearSpec)

/-- ITS FALSE NEIGHBOUR: 'it returns false'. Refute it at one input. -/
def greedyNearWrong : ChangeSpec := { name := "greedyNear", fn := fun _ => fun
  | [d1, d2, d3, d4] => { results := [.lit (.bool false)], args := [d1, d2, d3, d4] }
  | _ => none }
def GreedyNearWrongFalsely : Prop := greedyNearRow.holds Try.pinned (OpenSpec.ofChange greedyNearWrong)

/- THE SECOND FORM. 'bulk': how many values and letters a reading holds, each counted each time it is reached (what is shared counts as often as it is met; a slice's spare places count too). A statement '..UptoSaid' is the law's where the arguments, and the package variables that the reading takes, are together of bulk at most 1048576: NARROWER than '..Said'. Prove '..Said' where nothing that the law and all that it calls make is longer than what came in: it says more and counts as full. Else prove '..UptoSaid'. A law counts once. -/
mutual
def uptoBulk {H : Type} : DataW H → Nat
  | .lit (.string bytes) => bytes.length + 1
  | .lit _ => 1
  | .nil => 1
  | .ptr d => uptoBulk d + 1
  | .slice elems spare => uptoBulkAll elems + uptoBulkAll spare + 1
  | .agg parts => uptoBulkAll parts + 1
  | .iface _ d => uptoBulk d + 1
  | .map entries => uptoBulkEntries entries + 1
  | .held _ => 1
def uptoBulkAll {H : Type} : List (DataW H) → Nat
  | [] => 0
  | d :: r => uptoBulk d + uptoBulkAll r
def uptoBulkEntries {H : Type} : List (Lit × DataW H) → Nat
  | [] => 0
  | x :: r => uptoBulkEntry x + uptoBulkEntries r
def uptoBulkEntry {H : Type} : Lit × DataW H → Nat
  | (.string bytes, d) => bytes.length + uptoBulk d + 1
  | (_, d) => uptoBulk d + 1
 end
def uptoSmall : (H : Type) → List (DataW H) → Bool := fun _ ds => decide (uptoBulkAll ds ≤ 1048576)
def OpenSpec.upto (s : _root_.Go.ChangeSpec) : _root_.Go.OpenSpec := { _root_.Go.OpenSpec.ofChange s with cond := some uptoSmall }

/-- 'petasoslaw13.GreedyTells', WHERE WHAT IT READS IS OF BULK AT MOST 1048576: true; the input reads as it did. -/
def greedyTellsUptoRow : OpenClaim := { program := "ytbhnpidbgckinaa", sum := "df9ef27f5d8d2fdb899d2290ae50fafb1eacb616cae070c0ccdd68daa827819d", func := "petasos/petasoslaw13.GreedyTells", spec := "greedyTells", unfollowed := true, recurses := true, apart := false, narrowed := true }
def GreedyTellsUptoSaid : Prop := greedyTellsUptoRow.holds Try.pinned (OpenSpec.upto greedyTellsSpec)

/-- 'petasoslaw13.GreedyWays', WHERE WHAT IT READS IS OF BULK AT MOST 1048576: true; the input reads as it did. -/
def greedyWaysUptoRow : OpenClaim := { program := "ytbhnpidbgckinaa", sum := "df9ef27f5d8d2fdb899d2290ae50fafb1eacb616cae070c0ccdd68daa827819d", func := "petasos/petasoslaw13.GreedyWays", spec := "greedyWays", unfollowed := true, recurses := true, apart := false, narrowed := true }
def GreedyWaysUptoSaid : Prop := greedyWaysUptoRow.holds Try.pinned (OpenSpec.upto greedyWaysSpec)

/-- 'petasoslaw13.GreedyNone', WHERE WHAT IT READS IS OF BULK AT MOST 1048576: true; the input reads as it did. -/
def greedyNoneUptoRow : OpenClaim := { program := "ytbhnpidbgckinaa", sum := "df9ef27f5d8d2fdb899d2290ae50fafb1eacb616cae070c0ccdd68daa827819d", func := "petasos/petasoslaw13.GreedyNone", spec := "greedyNone", unfollowed := true, recurses := true, apart := false, narrowed := true }
def GreedyNoneUptoSaid : Prop := greedyNoneUptoRow.holds Try.pinned (OpenSpec.upto greedyNoneSpec)

/-- 'petasoslaw13.GreedyBetter', WHERE WHAT IT READS IS OF BULK AT MOST 1048576: true; the input reads as it did. -/
def greedyBetterUptoRow : OpenClaim := { program := "ytbhnpidbgckinaa", sum := "df9ef27f5d8d2fdb899d2290ae50fafb1eacb616cae070c0ccdd68daa827819d", func := "petasos/petasoslaw13.GreedyBetter", spec := "greedyBetter", unfollowed := true, recurses := true, apart := false, narrowed := true }
def GreedyBetterUptoSaid : Prop := greedyBetterUptoRow.holds Try.pinned (OpenSpec.upto greedyBetterSpec)

/-- 'petasoslaw13.GreedyNear', WHERE WHAT IT READS IS OF BULK AT MOST 1048576: true; the input reads as it did. -/
def greedyNearUptoRow : OpenClaim := { program := "ytbhnpidbgckinaa", sum := "df9ef27f5d8d2fdb899d2290ae50fafb1eacb616cae070c0ccdd68daa827819d", func := "petasos/petasoslaw13.GreedyNear", spec := "greedyNear", unfollowed := true, recurses := true, apart := false, narrowed := true }
def GreedyNearUptoSaid : Prop := greedyNearUptoRow.holds Try.pinned (OpenSpec.upto greedyNearSpec)

end Rows
end Go.Proofs.Ytbhnpidbgckinaa
