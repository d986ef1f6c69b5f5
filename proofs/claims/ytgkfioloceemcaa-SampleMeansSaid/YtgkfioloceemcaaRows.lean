/-
  No cell of these rows narrows 'for every input' (looked for: loops, veiled, ifaces, maps, wideKeys, modest, calm, conditions, laid).
  DERIVED. THE GIVEN ROWS OF THIS SEAT. 4 by the template 'for every input the law returns true; each argument reads behind the call as it read before'; 0 by the template 'total and deterministic' (their statements: YtgkfioloceemcaaTotals.lean).
  GIVEN WITH THE SEED: the statements are not yours to turn. If you find one false, say at which input.
  Laid BY PROGRAM, IN A SANDBOX (cutbox-rows.mjs): the forced cells as the released guide's own fill.sh prints them over the translation 2abd218c34d8297f… (all of the seat's roots in one cut). By AI agents, Wed Nov 11 2026. No macro, syntax, notation, axiom, sorry.
-/
import Derived.Test.YtgkfioloceemcaaChecked
import GoSem.Claim
import GoSem.ClaimJoined
import GoSem.ClaimMapViews
import Derived.JoinedTies
import Derived.KernelRfl
namespace Go.Proofs.Ytgkfioloceemcaa
/- THE CELL 'sum', in the pinned program and in every row, IS THE sha256 OF THE DUMP (.gsa) THAT YtgkfioloceemcaaProg.lean LOADS. Nothing in Lean hashes anything: it is a label: what it is worth is what the hold of that sum in a sandbox is worth. -/
noncomputable def Try.pinned : Pinned := { name := "ytgkfioloceemcaa", sum := "2abd218c34d8297ff2b7dc64c826e8b08dc77fedf489fd9388dacacbf0edbe2d", checked := Try.checked }
namespace Rows
def none {H : Type} : Left H := { results := [], args := [] }

/-- 'petasoslaw16.SampleWalks': WHATEVER THE INPUT: true; the input reads as it did. -/
def sampleWalksSpec : ChangeSpec := { name := "sampleWalks", fn := fun _ => fun
  | [d1, d2, d3, d4, d5] => { results := [.lit (.bool true)], args := [d1, d2, d3, d4, d5] }
  | _ => none }
def sampleWalksRow : OpenClaim := { program := "ytgkfioloceemcaa", sum := "2abd218c34d8297ff2b7dc64c826e8b08dc77fedf489fd9388dacacbf0edbe2d", func := "petasos/petasoslaw16.SampleWalks", spec := "sampleWalks", unfollowed := true, recurses := true, apart := false }
def SampleWalksSaid : Prop := sampleWalksRow.holds Try.pinned (OpenSpec.ofChange sampleWalksSpec)

/-- ITS FALSE NEIGHBOUR: 'it returns false'. Refute it at one input. -/
def sampleWalksWrong : ChangeSpec := { name := "sampleWalks", fn := fun _ => fun
  | [d1, d2, d3, d4, d5] => { results := [.lit (.bool false)], args := [d1, d2, d3, d4, d5] }
  | _ => none }
def SampleWalksWrongFalsely : Prop := sampleWalksRow.holds Try.pinned (OpenSpec.ofChange sampleWalksWrong)

/-- 'petasoslaw16.SampleMean': WHATEVER THE INPUT: true; the input reads as it did. -/
def sampleMeanSpec : ChangeSpec := { name := "sampleMean", fn := fun _ => fun
  | [d1, d2, d3] => { results := [.lit (.bool true)], args := [d1, d2, d3] }
  | _ => none }
def sampleMeanRow : OpenClaim := { program := "ytgkfioloceemcaa", sum := "2abd218c34d8297ff2b7dc64c826e8b08dc77fedf489fd9388dacacbf0edbe2d", func := "petasos/petasoslaw16.SampleMean", spec := "sampleMean", unfollowed := true, recurses := true, apart := false }
def SampleMeanSaid : Prop := sampleMeanRow.holds Try.pinned (OpenSpec.ofChange sampleMeanSpec)

/-- ITS FALSE NEIGHBOUR: 'it returns false'. Refute it at one input. -/
def sampleMeanWrong : ChangeSpec := { name := "sampleMean", fn := fun _ => fun
  | [d1, d2, d3] => { results := [.lit (.bool false)], args := [d1, d2, d3] }
  | _ => none }
def SampleMeanWrongFalsely : Prop := sampleMeanRow.holds Try.pinned (OpenSpec.ofChange sampleMeanWrong)

/-- 'petasoslaw16.SampleStays': WHATEVER THE INPUT: true; the input reads as it did. -/
def sampleStaysSpec : ChangeSpec := { name := "sampleStays", fn := fun _ => fun
  | [d1, d2, d3, d4, d5] => { results := [.lit (.bool true)], args := [d1, d2, d3, d4, d5] }
  | _ => none }
def sampleStaysRow : OpenClaim := { program := "ytgkfioloceemcaa", sum := "2abd218c34d8297ff2b7dc64c826e8b08dc77fedf489fd9388dacacbf0edbe2d", func := "petasos/petasoslaw16.SampleStays", spec := "sampleStays", unfollowed := true, recurses := true, apart := false }
def SampleStaysSaid : Prop := sampleStaysRow.holds Try.pinned (OpenSpec.ofChange sampleStaysSpec)

/-- ITS FALSE NEIGHBOUR: 'it returns false'. Refute it at one input. -/
def sampleStaysWrong : ChangeSpec := { name := "sampleStays", fn := fun _ => fun
  | [d1, d2, d3, d4, d5] => { results := [.lit (.bool false)], args := [d1, d2, d3, d4, d5] }
  | _ => none }
def SampleStaysWrongFalsely : Prop := sampleStaysRow.holds Try.pinned (OpenSpec.ofChange sampleStaysWrong)

/-- 'petasoslaw16.SampleMeans': WHATEVER THE INPUT: true; the input reads as it did. -/
def sampleMeansSpec : ChangeSpec := { name := "sampleMeans", fn := fun _ => fun
  | [d1, d2] => { results := [.lit (.bool true)], args := [d1, d2] }
  | _ => none }
def sampleMeansRow : OpenClaim := { program := "ytgkfioloceemcaa", sum := "2abd218c34d8297ff2b7dc64c826e8b08dc77fedf489fd9388dacacbf0edbe2d", func := "petasos/petasoslaw16.SampleMeans", spec := "sampleMeans", unfollowed := true, recurses := true, apart := false }
def SampleMeansSaid : Prop := sampleMeansRow.holds Try.pinned (OpenSpec.ofChange sampleMeansSpec)

/-- ITS FALSE NEIGHBOUR: 'it returns false'. Refute it at one input. -/
def sampleMeansWrong : ChangeSpec := { name := "sampleMeans", fn := fun _ => fun
  | [d1, d2] => { results := [.lit (.bool false)], args := [d1, d2] }
  | _ => none }
def SampleMeansWrongFalsely : Prop := sampleMeansRow.holds Try.pinned (OpenSpec.ofChange sampleMeansWrong)

/- THE SECOND FORM. 'bulk': how many values and letters a reading holds, each counted each time it is reached (what is shared counts as often as it is met; a slice's spare places count too). A statement '..UptoSaid' is the law's where the arguments, and the package variables that the reading takes, are together of bulk at most 1048576: NARROWER than '..Said'. Prove '..Said' where nothing that the law and all that it calls make is longer than what came in: it says more and counts as full. Else prove '..UptoSaid'. A law counts once. -/
mutual
def uptoBulk {H : Type} : DataW H → Nat
  | .lit (.string bytes) => bytes.length + 1
  | .lit _ => 1
  | .nil => 1
  | .ptr d => uptoBulk d + 1
  | .slice elems spare => uptoBulkAll elems + uptoBulkAll spare + 1
  | .agg parts => uptoBulkAll parts + 1
  | .iface _ d => uptoBulk d + 1
  | .map entries => uptoBulkEntries entries + 1
  | .held _ => 1
def uptoBulkAll {H : Type} : List (DataW H) → Nat
  | [] => 0
  | d :: r => uptoBulk d + uptoBulkAll r
def uptoBulkEntries {H : Type} : List (Lit × DataW H) → Nat
  | [] => 0
  | x :: r => uptoBulkEntry x + uptoBulkEntries r
def uptoBulkEntry {H : Type} : Lit × DataW H → Nat
  | (.string bytes, d) => bytes.length + uptoBulk d + 1
  | (_, d) => uptoBulk d + 1
 end
def uptoSmall : (H : Type) → List (DataW H) → Bool := fun _ ds => decide (uptoBulkAll ds ≤ 1048576)
def OpenSpec.upto (s : _root_.Go.ChangeSpec) : _root_.Go.OpenSpec := { _root_.Go.OpenSpec.ofChange s with cond := some uptoSmall }

/-- 'petasoslaw16.SampleWalks', WHERE WHAT IT READS IS OF BULK AT MOST 1048576: true; the input reads as it did. -/
def sampleWalksUptoRow : OpenClaim := { program := "ytgkfioloceemcaa", sum := "2abd218c34d8297ff2b7dc64c826e8b08dc77fedf489fd9388dacacbf0edbe2d", func := "petasos/petasoslaw16.SampleWalks", spec := "sampleWalks", unfollowed := true, recurses := true, apart := false, narrowed := true }
def SampleWalksUptoSaid : Prop := sampleWalksUptoRow.holds Try.pinned (OpenSpec.upto sampleWalksSpec)

/-- 'petasoslaw16.SampleMean', WHERE WHAT IT READS IS OF BULK AT MOST 1048576: true; the input reads as it did. -/
def sampleMeanUptoRow : OpenClaim := { program := "ytgkfioloceemcaa", sum := "2abd218c34d8297ff2b7dc64c826e8b08dc77fedf489fd9388dacacbf0edbe2d", func := "petasos/petasoslaw16.SampleMean", spec := "sampleMean", unfollowed := true, recurses := true, apart := false, narrowed := true }
def SampleMeanUptoSaid : Prop := sampleMeanUptoRow.holds Try.pinned (OpenSpec.upto sampleMeanSpec)

/-- 'petasoslaw16.SampleStays', WHERE WHAT IT READS IS OF BULK AT MOST 1048576: true; the input reads as it did. -/
def sampleStaysUptoRow : OpenClaim := { program := "ytgkfioloceemcaa", sum := "2abd218c34d8297ff2b7dc64c826e8b08dc77fedf489fd9388dacacbf0edbe2d", func := "petasos/petasoslaw16.SampleStays", spec := "sampleStays", unfollowed := true, recurses := true, apart := false, narrowed := true }
def SampleStaysUptoSaid : Prop := sampleStaysUptoRow.holds Try.pinned (OpenSpec.upto sampleStaysSpec)

/-- 'petasoslaw16.SampleMeans', WHERE WHAT IT READS IS OF BULK AT MOST 1048576: true; the input reads as it did. -/
def sampleMeansUptoRow : OpenClaim := { program := "ytgkfioloceemcaa", sum := "2abd218c34d8297ff2b7dc64c826e8b08dc77fedf489fd9388dacacbf0edbe2d", func := "petasos/petasoslaw16.SampleMeans", spec := "sampleMeans", unfollowed := true, recurses := true, apart := false, narrowed := true }
def SampleMeansUptoSaid : Prop := sampleMeansUptoRow.holds Try.pinned (OpenSpec.upto sampleMeansSpec)

end Rows
end Go.Proofs.Ytgkfioloceemcaa
