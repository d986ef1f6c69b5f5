/-
  No cell of these rows narrows 'for every input' (looked for: loops, veiled, ifaces, maps, wideKeys, modest, calm, conditions, laid).
  DERIVED. THE GIVEN ROWS OF THIS SEAT. 6 by the template 'for every input the law returns true; each argument reads behind the call as it read before'; 0 by the template 'total and deterministic' (their statements: YtpdijfhjdbmamaaTotals.lean).
  GIVEN WITH THE SEED: the statements are not yours to turn. If you find one false, say at which input.
  Laid BY PROGRAM, IN A SANDBOX (cutbox-rows.mjs): the forced cells as the released guide's own fill.sh prints them over the translation 63e1850c592323c1… (all of the seat's roots in one cut). By AI agents, Wed Nov 11 2026. No macro, syntax, notation, axiom, sorry.
-/
import Derived.Test.YtpdijfhjdbmamaaChecked
import GoSem.Claim
import GoSem.ClaimJoined
import GoSem.ClaimMapViews
import Derived.JoinedTies
import Derived.KernelRfl
namespace Go.Proofs.Ytpdijfhjdbmamaa
/- THE CELL 'sum', in the pinned program and in every row, IS THE sha256 OF THE DUMP (.gsa) THAT YtpdijfhjdbmamaaProg.lean LOADS. Nothing in Lean hashes anything: it is a label: what it is worth is what the hold of that sum in a sandbox is worth. -/
noncomputable def Try.pinned : Pinned := { name := "ytpdijfhjdbmamaa", sum := "63e1850c592323c18f47434fcec51c753d634679c971fe003943c3b5611ce615", checked := Try.checked }
namespace Rows
def none {H : Type} : Left H := { results := [], args := [] }

/-- 'petasoslaw05.BoxTells': WHATEVER THE INPUT: true; the input reads as it did. -/
def boxTellsSpec : ChangeSpec := { name := "boxTells", fn := fun _ => fun
  | [d1, d2, d3, d4, d5] => { results := [.lit (.bool true)], args := [d1, d2, d3, d4, d5] }
  | _ => none }
def boxTellsRow : OpenClaim := { program := "ytpdijfhjdbmamaa", sum := "63e1850c592323c18f47434fcec51c753d634679c971fe003943c3b5611ce615", func := "petasos/petasoslaw05.BoxTells", spec := "boxTells", unfollowed := true, recurses := true, apart := false }
def BoxTellsSaid : Prop := boxTellsRow.holds Try.pinned (OpenSpec.ofChange boxTellsSpec)

/-- ITS FALSE NEIGHBOUR: 'it returns false'. Refute it at one input. -/
def boxTellsWrong : ChangeSpec := { name := "boxTells", fn := fun _ => fun
  | [d1, d2, d3, d4, d5] => { results := [.lit (.bool false)], args := [d1, d2, d3, d4, d5] }
  | _ => none }
def BoxTellsWrongFalsely : Prop := boxTellsRow.holds Try.pinned (OpenSpec.ofChange boxTellsWrong)

/-- 'petasoslaw05.BoxSpans': WHATEVER THE INPUT: true; the input reads as it did. -/
def boxSpansSpec : ChangeSpec := { name := "boxSpans", fn := fun _ => fun
  | [d1, d2] => { results := [.lit (.bool true)], args := [d1, d2] }
  | _ => none }
def boxSpansRow : OpenClaim := { program := "ytpdijfhjdbmamaa", sum := "63e1850c592323c18f47434fcec51c753d634679c971fe003943c3b5611ce615", func := "petasos/petasoslaw05.BoxSpans", spec := "boxSpans", apart := false }
def BoxSpansSaid : Prop := boxSpansRow.holds Try.pinned (OpenSpec.ofChange boxSpansSpec)

/-- ITS FALSE NEIGHBOUR: 'it returns false'. Refute it at one input. -/
def boxSpansWrong : ChangeSpec := { name := "boxSpans", fn := fun _ => fun
  | [d1, d2] => { results := [.lit (.bool false)], args := [d1, d2] }
  | _ => none }
def BoxSpansWrongFalsely : Prop := boxSpansRow.holds Try.pinned (OpenSpec.ofChange boxSpansWrong)

/-- 'petasoslaw05.BoxRound': WHATEVER THE INPUT: true; the input reads as it did. -/
def boxRoundSpec : ChangeSpec := { name := "boxRound", fn := fun _ => fun
  | [d1, d2] => { results := [.lit (.bool true)], args := [d1, d2] }
  | _ => none }
def boxRoundRow : OpenClaim := { program := "ytpdijfhjdbmamaa", sum := "63e1850c592323c18f47434fcec51c753d634679c971fe003943c3b5611ce615", func := "petasos/petasoslaw05.BoxRound", spec := "boxRound", apart := false }
def BoxRoundSaid : Prop := boxRoundRow.holds Try.pinned (OpenSpec.ofChange boxRoundSpec)

/-- ITS FALSE NEIGHBOUR: 'it returns false'. Refute it at one input. -/
def boxRoundWrong : ChangeSpec := { name := "boxRound", fn := fun _ => fun
  | [d1, d2] => { results := [.lit (.bool false)], args := [d1, d2] }
  | _ => none }
def BoxRoundWrongFalsely : Prop := boxRoundRow.holds Try.pinned (OpenSpec.ofChange boxRoundWrong)

/-- 'petasoslaw05.BoxMatches': WHATEVER THE INPUT: true; the input reads as it did. -/
def boxMatchesSpec : ChangeSpec := { name := "boxMatches", fn := fun _ => fun
  | [d1, d2] => { results := [.lit (.bool true)], args := [d1, d2] }
  | _ => none }
def boxMatchesRow : OpenClaim := { program := "ytpdijfhjdbmamaa", sum := "63e1850c592323c18f47434fcec51c753d634679c971fe003943c3b5611ce615", func := "petasos/petasoslaw05.BoxMatches", spec := "boxMatches", apart := false }
def BoxMatchesSaid : Prop := boxMatchesRow.holds Try.pinned (OpenSpec.ofChange boxMatchesSpec)

/-- ITS FALSE NEIGHBOUR: 'it returns false'. Refute it at one input. -/
def boxMatchesWrong : ChangeSpec := { name := "boxMatches", fn := fun _ => fun
  | [d1, d2] => { results := [.lit (.bool false)], args := [d1, d2] }
  | _ => none }
def BoxMatchesWrongFalsely : Prop := boxMatchesRow.holds Try.pinned (OpenSpec.ofChange boxMatchesWrong)

/-- 'petasoslaw05.BoxParts': WHATEVER THE INPUT: true; the input reads as it did. -/
def boxPartsSpec : ChangeSpec := { name := "boxParts", fn := fun _ => fun
  | [d1, d2, d3, d4] => { results := [.lit (.bool true)], args := [d1, d2, d3, d4] }
  | _ => none }
def boxPartsRow : OpenClaim := { program := "ytpdijfhjdbmamaa", sum := "63e1850c592323c18f47434fcec51c753d634679c971fe003943c3b5611ce615", func := "petasos/petasoslaw05.BoxParts", spec := "boxParts", apart := false }
def BoxPartsSaid : Prop := boxPartsRow.holds Try.pinned (OpenSpec.ofChange boxPartsSpec)

/-- ITS FALSE NEIGHBOUR: 'it returns false'. Refute it at one input. -/
def boxPartsWrong : ChangeSpec := { name := "boxParts", fn := fun _ => fun
  | [d1, d2, d3, d4] => { results := [.lit (.bool false)], args := [d1, d2, d3, d4] }
  | _ => none }
def BoxPartsWrongFalsely : Prop := boxPartsRow.holds Try.pinned (OpenSpec.ofChange boxPartsWrong)

/-- 'petasoslaw05.BoxPacks': WHATEVER THE INPUT: true; the input reads as it did. -/
def boxPacksSpec : ChangeSpec := { name := "boxPacks", fn := fun _ => fun
  | [d1, d2, d3] => { results := [.lit (.bool true)], args := [d1, d2, d3] }
  | _ => none }
def boxPacksRow : OpenClaim := { program := "ytpdijfhjdbmamaa", sum := "63e1850c592323c18f47434fcec51c753d634679c971fe003943c3b5611ce615", func := "petasos/petasoslaw05.BoxPacks", spec := "boxPacks", apart := false }
def BoxPacksSaid : Prop := boxPacksRow.holds Try.pinned (OpenSpec.ofChange boxPacksSpec)

/-- ITS FALSE NEIGHBOUR: 'it returns false'. Refute it at one input. -/
def boxPacksWrong : ChangeSpec := { name := "boxPacks", fn := fun _ => fun
  | [d1, d2, d3] => { results := [.lit (.bool false)], args := [d1, d2, d3] }
  | _ => none }
def BoxPacksWrongFalsely : Prop := boxPacksRow.holds Try.pinned (OpenSpec.ofChange boxPacksWrong)

/- THE SECOND FORM. 'bulk': how many values and letters a reading holds, each counted each time it is reached (what is shared counts as often as it is met; a slice's spare places count too). A statement '..UptoSaid' is the law's where the arguments, and the package variables that the reading takes, are together of bulk at most 1048576: NARROWER than '..Said'. Prove '..Said' where nothing that the law and all that it calls make is longer than what came in: it says more and counts as full. Else prove '..UptoSaid'. A law counts once. -/
mutual
def uptoBulk {H : Type} : DataW H → Nat
  | .lit (.string bytes) => bytes.length + 1
  | .lit _ => 1
  | .nil => 1
  | .ptr d => uptoBulk d + 1
  | .slice elems spare => uptoBulkAll elems + uptoBulkAll spare + 1
  | .agg parts => uptoBulkAll parts + 1
  | .iface _ d => uptoBulk d + 1
  | .map entries => uptoBulkEntries entries + 1
  | .held _ => 1
def uptoBulkAll {H : Type} : List (DataW H) → Nat
  | [] => 0
  | d :: r => uptoBulk d + uptoBulkAll r
def uptoBulkEntries {H : Type} : List (Lit × DataW H) → Nat
  | [] => 0
  | x :: r => uptoBulkEntry x + uptoBulkEntries r
def uptoBulkEntry {H : Type} : Lit × DataW H → Nat
  | (.string bytes, d) => bytes.length + uptoBulk d + 1
  | (_, d) => uptoBulk d + 1
 end
def uptoSmall : (H : Type) → List (DataW H) → Bool := fun _ ds => decide (uptoBulkAll ds ≤ 1048576)
def OpenSpec.upto (s : _root_.Go.ChangeSpec) : _root_.Go.OpenSpec := { _root_.Go.OpenSpec.ofChange s with cond := some uptoSmall }

/-- 'petasoslaw05.BoxTells', WHERE WHAT IT READS IS OF BULK AT MOST 1048576: true; the input reads as it did. -/
def boxTellsUptoRow : OpenClaim := { program := "ytpdijfhjdbmamaa", sum := "63e1850c592323c18f47434fcec51c753d634679c971fe003943c3b5611ce615", func := "petasos/petasoslaw05.BoxTells", spec := "boxTells", unfollowed := true, recurses := true, apart := false, narrowed := true }
def BoxTellsUptoSaid : Prop := boxTellsUptoRow.holds Try.pinned (OpenSpec.upto boxTellsSpec)

/-- 'petasoslaw05.BoxSpans', WHERE WHAT IT READS IS OF BULK AT MOST 1048576: true; the input reads as it did. -/
def boxSpansUptoRow : OpenClaim := { program := "ytpdijfhjdbmamaa", sum := "63e1850c592323c18f47434fcec51c753d634679c971fe003943c3b5611ce615", func := "petasos/petasoslaw05.BoxSpans", spec := "boxSpans", apart := false, narrowed := true }
def BoxSpansUptoSaid : Prop := boxSpansUptoRow.holds Try.pinned (OpenSpec.upto boxSpansSpec)

/-- 'petasoslaw05.BoxRound', WHERE WHAT IT READS IS OF BULK AT MOST 1048576: true; the input reads as it did. -/
def boxRoundUptoRow : OpenClaim := { program := "ytpdijfhjdbmamaa", sum := "63e1850c592323c18f47434fcec51c753d634679c971fe003943c3b5611ce615", func := "petasos/petasoslaw05.BoxRound", spec := "boxRound", apart := false, narrowed := true }
def BoxRoundUptoSaid : Prop := boxRoundUptoRow.holds Try.pinned (OpenSpec.upto boxRoundSpec)

/-- 'petasoslaw05.BoxMatches', WHERE WHAT IT READS IS OF BULK AT MOST 1048576: true; the input reads as it did. -/
def boxMatchesUptoRow : OpenClaim := { program := "ytpdijfhjdbmamaa", sum := "63e1850c592323c18f47434fcec51c753d634679c971fe003943c3b5611ce615", func := "petasos/petasoslaw05.BoxMatches", spec := "boxMatches", apart := false, narrowed := true }
def BoxMatchesUptoSaid : Prop := boxMatchesUptoRow.holds Try.pinned (OpenSpec.upto boxMatchesSpec)

/-- 'petasoslaw05.BoxParts', WHERE WHAT IT READS IS OF BULK AT MOST 1048576: true; the input reads as it did. -/
def boxPartsUptoRow : OpenClaim := { program := "ytpdijfhjdbmamaa", sum := "63e1850c592323c18f47434fcec51c753d634679c971fe003943c3b5611ce615", func := "petasos/petasoslaw05.BoxParts", spec := "boxParts", apart := false, narrowed := true }
def BoxPartsUptoSaid : Prop := boxPartsUptoRow.holds Try.pinned (OpenSpec.upto boxPartsSpec)

/-- 'petasoslaw05.BoxPacks', WHERE WHAT IT READS IS OF BULK AT MOST 1048576: true; the input reads as it did. -/
def boxPacksUptoRow : OpenClaim := { program := "ytpdijfhjdbmamaa", sum := "63e1850c592323c18f47434fcec51c753d634679c971fe003943c3b5611ce615", func := "petasos/petasoslaw05.BoxPacks", spec := "boxPacks", apart := false, narrowed := true }
def BoxPacksUptoSaid : Prop := boxPacksUptoRow.holds Try.pinned (OpenSpec.upto boxPacksSpec)

end Rows
end Go.Proofs.Ytpdijfhjdbmamaa
