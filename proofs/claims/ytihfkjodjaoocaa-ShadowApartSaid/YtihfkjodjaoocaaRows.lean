/-
  No cell of these rows narrows 'for every input' (looked for: loops, veiled, ifaces, maps, wideKeys, modest, calm, conditions, laid).
  DERIVED. THE GIVEN ROWS OF THIS SEAT. 3 by the template 'for every input the law returns true; each argument reads behind the call as it read before'; 0 by the template 'total and deterministic' (their statements: YtihfkjodjaoocaaTotals.lean).
  GIVEN WITH THE SEED: the statements are not yours to turn. If you find one false, say at which input.
  Laid BY PROGRAM, IN A SANDBOX (cutbox-rows.mjs): the forced cells as the released guide's own fill.sh prints them over the translation f49ea680afbe180e… (all of the seat's roots in one cut). By AI agents, Wed Nov 11 2026. No macro, syntax, notation, axiom, sorry.
-/
import Derived.Test.YtihfkjodjaoocaaChecked
import GoSem.Claim
import GoSem.ClaimJoined
import GoSem.ClaimMapViews
import Derived.JoinedTies
import Derived.KernelRfl
namespace Go.Proofs.Ytihfkjodjaoocaa
/- THE CELL 'sum', in the pinned program and in every row, IS THE sha256 OF THE DUMP (.gsa) THAT YtihfkjodjaoocaaProg.lean LOADS. Nothing in Lean hashes anything: it is a label: what it is worth is what the hold of that sum in a sandbox is worth. -/
noncomputable def Try.pinned : Pinned := { name := "ytihfkjodjaoocaa", sum := "f49ea680afbe180e24189af0adcb373e900262860aaa6a9dd6cf54954774a836", checked := Try.checked }
namespace Rows
def none {H : Type} : Left H := { results := [], args := [] }

/-- 'petasoslaw10.ShadowNil': WHATEVER THE INPUT: true; the input reads as it did. -/
def shadowNilSpec : ChangeSpec := { name := "shadowNil", fn := fun _ => fun
  | [d1, d2] => { results := [.lit (.bool true)], args := [d1, d2] }
  | _ => none }
def shadowNilRow : OpenClaim := { program := "ytihfkjodjaoocaa", sum := "f49ea680afbe180e24189af0adcb373e900262860aaa6a9dd6cf54954774a836", func := "petasos/petasoslaw10.ShadowNil", spec := "shadowNil", unfollowed := true, recurses := true, plainKeys := false, apart := false }
def ShadowNilSaid : Prop := shadowNilRow.holds Try.pinned (OpenSpec.ofChange shadowNilSpec)

/-- ITS FALSE NEIGHBOUR: 'it returns false'. Refute it at one input. -/
def shadowNilWrong : ChangeSpec := { name := "shadowNil", fn := fun _ => fun
  | [d1, d2] => { results := [.lit (.bool false)], args := [d1, d2] }
  | _ => none }
def ShadowNilWrongFalsely : Prop := shadowNilRow.holds Try.pinned (OpenSpec.ofChange shadowNilWrong)

/-- 'petasoslaw10.ShadowApart': WHATEVER THE INPUT: true; the input reads as it did. -/
def shadowApartSpec : ChangeSpec := { name := "shadowApart", fn := fun _ => fun
  | [d1, d2, d3, d4] => { results := [.lit (.bool true)], args := [d1, d2, d3, d4] }
  | _ => none }
def shadowApartRow : OpenClaim := { program := "ytihfkjodjaoocaa", sum := "f49ea680afbe180e24189af0adcb373e900262860aaa6a9dd6cf54954774a836", func := "petasos/petasoslaw10.ShadowApart", spec := "shadowApart", unfollowed := true, recurses := true, plainKeys := false, apart := false }
def ShadowApartSaid : Prop := shadowApartRow.holds Try.pinned (OpenSpec.ofChange shadowApartSpec)

/-- ITS FALSE NEIGHBOUR: 'it returns false'. Refute it at one input. -/
def shadowApartWrong : ChangeSpec := { name := "shadowApart", fn := fun _ => fun
  | [d1, d2, d3, d4] => { results := [.lit (.bool false)], args := [d1, d2, d3, d4] }
  | _ => none }
def ShadowApartWrongFalsely : Prop := shadowApartRow.holds Try.pinned (OpenSpec.ofChange shadowApartWrong)

/-- 'petasoslaw10.ShadowSets': WHATEVER THE INPUT: true; the input reads as it did. -/
def shadowSetsSpec : ChangeSpec := { name := "shadowSets", fn := fun _ => fun
  | [d1, d2, d3] => { results := [.lit (.bool true)], args := [d1, d2, d3] }
  | _ => none }
def shadowSetsRow : OpenClaim := { program := "ytihfkjodjaoocaa", sum := "f49ea680afbe180e24189af0adcb373e900262860aaa6a9dd6cf54954774a836", func := "petasos/petasoslaw10.ShadowSets", spec := "shadowSets", unfollowed := true, recurses := true, plainKeys := false, apart := false }
def ShadowSetsSaid : Prop := shadowSetsRow.holds Try.pinned (OpenSpec.ofChange shadowSetsSpec)

/-- ITS FALSE NEIGHBOUR: 'it returns false'. Refute it at one input. -/
def shadowSetsWrong : ChangeSpec := { name := "shadowSets", fn := fun _ => fun
  | [d1, d2, d3] => { results := [.lit (.bool false)], args := [d1, d2, d3] }
  | _ => none }
def ShadowSetsWrongFalsely : Prop := shadowSetsRow.holds Try.pinned (OpenSpec.ofChange shadowSetsWrong)

/- THE SECOND FORM. 'bulk': how many values and letters a reading holds, each counted each time it is reached (what is shared counts as often as it is met; a slice's spare places count too). A statement '..UptoSaid' is the law's where the arguments, and the package variables that the reading takes, are together of bulk at most 1048576: NARROWER than '..Said'. Prove '..Said' where nothing that the law and all that it calls make is longer than what came in: it says more and counts as full. Else prove '..UptoSaid'. A law counts once. -/
mutual
def uptoBulk {H : Type} : DataW H → Nat
  | .lit (.string bytes) => bytes.length + 1
  | .lit _ => 1
  | .nil => 1
  | .ptr d => uptoBulk d + 1
  | .slice elems spare => uptoBulkAll elems + uptoBulkAll spare + 1
  | .agg parts => uptoBulkAll parts + 1
  | .iface _ d => uptoBulk d + 1
  | .map entries => uptoBulkEntries entries + 1
  | .held _ => 1
def uptoBulkAll {H : Type} : List (DataW H) → Nat
  | [] => 0
  | d :: r => uptoBulk d + uptoBulkAll r
def uptoBulkEntries {H : Type} : List (Lit × DataW H) → Nat
  | [] => 0
  | x :: r => uptoBulkEntry x + uptoBulkEntries r
def uptoBulkEntry {H : Type} : Lit × DataW H → Nat
  | (.string bytes, d) => bytes.length + uptoBulk d + 1
  | (_, d) => uptoBulk d + 1
 end
def uptoSmall : (H : Type) → List (DataW H) → Bool := fun _ ds => decide (uptoBulkAll ds ≤ 1048576)
def OpenSpec.upto (s : _root_.Go.ChangeSpec) : _root_.Go.OpenSpec := { _root_.Go.OpenSpec.ofChange s with cond := some uptoSmall }

/-- 'petasoslaw10.ShadowNil', WHERE WHAT IT READS IS OF BULK AT MOST 1048576: true; the input reads as it did. -/
def shadowNilUptoRow : OpenClaim := { program := "ytihfkjodjaoocaa", sum := "f49ea680afbe180e24189af0adcb373e900262860aaa6a9dd6cf54954774a836", func := "petasos/petasoslaw10.ShadowNil", spec := "shadowNil", unfollowed := true, recurses := true, plainKeys := false, apart := false, narrowed := true }
def ShadowNilUptoSaid : Prop := shadowNilUptoRow.holds Try.pinned (OpenSpec.upto shadowNilSpec)

/-- 'petasoslaw10.ShadowApart', WHERE WHAT IT READS IS OF BULK AT MOST 1048576: true; the input reads as it did. -/
def shadowApartUptoRow : OpenClaim := { program := "ytihfkjodjaoocaa", sum := "f49ea680afbe180e24189af0adcb373e900262860aaa6a9dd6cf54954774a836", func := "petasos/petasoslaw10.ShadowApart", spec := "shadowApart", unfollowed := true, recurses := true, plainKeys := false, apart := false, narrowed := true }
def ShadowApartUptoSaid : Prop := shadowApartUptoRow.holds Try.pinned (OpenSpec.upto shadowApartSpec)

/-- 'petasoslaw10.ShadowSets', WHERE WHAT IT READS IS OF BULK AT MOST 1048576: true; the input reads as it did. -/
def shadowSetsUptoRow : OpenClaim := { program := "ytihfkjodjaoocaa", sum := "f49ea680afbe180e24189af0adcb373e900262860aaa6a9dd6cf54954774a836", func := "petasos/petasoslaw10.ShadowSets", spec := "shadowSets", unfollowed := true, recurses := true, plainKeys := false, apart := false, narrowed := true }
def ShadowSetsUptoSaid : Prop := shadowSetsUptoRow.holds Try.pinned (OpenSpec.upto shadowSetsSpec)

end Rows
end Go.Proofs.Ytihfkjodjaoocaa
