/-
  No cell of these rows narrows 'for every input' (looked for: loops, veiled, ifaces, maps, wideKeys, modest, calm, conditions, laid).
  DERIVED. THE GIVEN ROWS OF THIS SEAT. 4 by the template 'for every input the law returns true; each argument reads behind the call as it read before'; 0 by the template 'total and deterministic' (their statements: YtjjgckbjoficgaaTotals.lean).
  GIVEN WITH THE SEED: the statements are not yours to turn. If you find one false, say at which input.
  Laid BY PROGRAM, IN A SANDBOX (cutbox-rows.mjs): the forced cells as the released guide's own fill.sh prints them over the translation 6f7dacaacf6210da… (all of the seat's roots in one cut). By AI agents, Wed Nov 11 2026. No macro, syntax, notation, axiom, sorry.
-/
import Derived.Test.YtjjgckbjoficgaaChecked
import GoSem.Claim
import GoSem.ClaimJoined
import GoSem.ClaimMapViews
import Derived.JoinedTies
import Derived.KernelRfl
namespace Go.Proofs.Ytjjgckbjoficgaa
/- THE CELL 'sum', in the pinned program and in every row, IS THE sha256 OF THE DUMP (.gsa) THAT YtjjgckbjoficgaaProg.lean LOADS. Nothing in Lean hashes anything: it is a label: what it is worth is what the hold of that sum in a sandbox is worth. -/
noncomputable def Try.pinned : Pinned := { name := "ytjjgckbjoficgaa", sum := "6f7dacaacf6210daf81c851052a3c89d501dfa26e65aac0725403ab5f700881c", checked := Try.checked }
namespace Rows
def none {H : Type} : Left H := { results := [], args := [] }

/-- 'petasoslaw04.RecordTells': WHATEVER THE INPUT: true; the input reads as it did. -/
def recordTellsSpec : ChangeSpec := { name := "recordTells", fn := fun _ => fun
  | [d1, d2, d3, d4, d5] => { results := [.lit (.bool true)], args := [d1, d2, d3, d4, d5] }
  | _ => none }
def recordTellsRow : OpenClaim := { program := "ytjjgckbjoficgaa", sum := "6f7dacaacf6210daf81c851052a3c89d501dfa26e65aac0725403ab5f700881c", func := "petasos/petasoslaw04.RecordTells", spec := "recordTells", unfollowed := true, recurses := true, apart := false }
def RecordTellsSaid : Prop := recordTellsRow.holds Try.pinned (OpenSpec.ofChange recordTellsSpec)

/-- ITS FALSE NEIGHBOUR: 'it returns false'. Refute it at one input. -/
def recordTellsWrong : ChangeSpec := { name := "recordTells", fn := fun _ => fun
  | [d1, d2, d3, d4, d5] => { results := [.lit (.bool false)], args := [d1, d2, d3, d4, d5] }
  | _ => none }
def RecordTellsWrongFalsely : Prop := recordTellsRow.holds Try.pinned (OpenSpec.ofChange recordTellsWrong)

/-- 'petasoslaw04.RecordNewer': WHATEVER THE INPUT: true; the input reads as it did. -/
def recordNewerSpec : ChangeSpec := { name := "recordNewer", fn := fun _ => fun
  | [d1, d2, d3] => { results := [.lit (.bool true)], args := [d1, d2, d3] }
  | _ => none }
def recordNewerRow : OpenClaim := { program := "ytjjgckbjoficgaa", sum := "6f7dacaacf6210daf81c851052a3c89d501dfa26e65aac0725403ab5f700881c", func := "petasos/petasoslaw04.RecordNewer", spec := "recordNewer", apart := false }
def RecordNewerSaid : Prop := recordNewerRow.holds Try.pinned (OpenSpec.ofChange recordNewerSpec)

/-- ITS FALSE NEIGHBOUR: 'it returns false'. Refute it at one input. -/
def recordNewerWrong : ChangeSpec := { name := "recordNewer", fn := fun _ => fun
  | [d1, d2, d3] => { results := [.lit (.bool false)], args := [d1, d2, d3] }
  | _ => none }
def RecordNewerWrongFalsely : Prop := recordNewerRow.holds Try.pinned (OpenSpec.ofChange recordNewerWrong)

/-- 'petasoslaw04.RecordOwn': WHATEVER THE INPUT: true; the input reads as it did. -/
def recordOwnSpec : ChangeSpec := { name := "recordOwn", fn := fun _ => fun
  | [d1, d2, d3, d4] => { results := [.lit (.bool true)], args := [d1, d2, d3, d4] }
  | _ => none }
def recordOwnRow : OpenClaim := { program := "ytjjgckbjoficgaa", sum := "6f7dacaacf6210daf81c851052a3c89d501dfa26e65aac0725403ab5f700881c", func := "petasos/petasoslaw04.RecordOwn", spec := "recordOwn", apart := false }
def RecordOwnSaid : Prop := recordOwnRow.holds Try.pinned (OpenSpec.ofChange recordOwnSpec)

/-- ITS FALSE NEIGHBOUR: 'it returns false'. Refute it at one input. -/
def recordOwnWrong : ChangeSpec := { name := "recordOwn", fn := fun _ => fun
  | [d1, d2, d3, d4] => { results := [.lit (.bool false)], args := [d1, d2, d3, d4] }
  | _ => none }
def RecordOwnWrongFalsely : Prop := recordOwnRow.holds Try.pinned (OpenSpec.ofChange recordOwnWrong)

/-- 'petasoslaw04.RecordWrong': WHATEVER THE INPUT: true; the input reads as it did. -/
def recordWrongSpec : ChangeSpec := { name := "recordWrong", fn := fun _ => fun
  | [d1, d2] => { results := [.lit (.bool true)], args := [d1, d2] }
  | _ => none }
def recordWrongRow : OpenClaim := { program := "ytjjgckbjoficgaa", sum := "6f7dacaacf6210daf81c851052a3c89d501dfa26e65aac0725403ab5f700881c", func := "petasos/petasoslaw04.RecordWrong", spec := "recordWrong", apart := false }
def RecordWrongSaid : Prop := recordWrongRow.holds Try.pinned (OpenSpec.ofChange recordWrongSpec)

/-- ITS FALSE NEIGHBOUR: 'it returns false'. Refute it at one input. -/
def recordWrongWrong : ChangeSpec := { name := "recordWrong", fn := fun _ => fun
  | [d1, d2] => { results := [.lit (.bool false)], args := [d1, d2] }
  | _ => none }
def RecordWrongWrongFalsely : Prop := recordWrongRow.holds Try.pinned (OpenSpec.ofChange recordWrongWrong)

/- THE SECOND FORM. 'bulk': how many values and letters a reading holds, each counted each time it is reached (what is shared counts as often as it is met; a slice's spare places count too). A statement '..UptoSaid' is the law's where the arguments, and the package variables that the reading takes, are together of bulk at most 1048576: NARROWER than '..Said'. Prove '..Said' where nothing that the law and all that it calls make is longer than what came in: it says more and counts as full. Else prove '..UptoSaid'. A law counts once. -/
mutual
def uptoBulk {H : Type} : DataW H → Nat
  | .lit (.string bytes) => bytes.length + 1
  | .lit _ => 1
  | .nil => 1
  | .ptr d => uptoBulk d + 1
  | .slice elems spare => uptoBulkAll elems + uptoBulkAll spare + 1
  | .agg parts => uptoBulkAll parts + 1
  | .iface _ d => uptoBulk d + 1
  | .map entries => uptoBulkEntries entries + 1
  | .held _ => 1
def uptoBulkAll {H : Type} : List (DataW H) → Nat
  | [] => 0
  | d :: r => uptoBulk d + uptoBulkAll r
def uptoBulkEntries {H : Type} : List (Lit × DataW H) → Nat
  | [] => 0
  | x :: r => uptoBulkEntry x + uptoBulkEntries r
def uptoBulkEntry {H : Type} : Lit × DataW H → Nat
  | (.string bytes, d) => bytes.length + uptoBulk d + 1
  | (_, d) => uptoBulk d + 1
 end
def uptoSmall : (H : Type) → List (DataW H) → Bool := fun _ ds => decide (uptoBulkAll ds ≤ 1048576)
def OpenSpec.upto (s : _root_.Go.ChangeSpec) : _root_.Go.OpenSpec := { _root_.Go.OpenSpec.ofChange s with cond := some uptoSmall }

/-- 'petasoslaw04.RecordTells', WHERE WHAT IT READS IS OF BULK AT MOST 1048576: true; the input reads as it did. -/
def recordTellsUptoRow : OpenClaim := { program := "ytjjgckbjoficgaa", sum := "6f7dacaacf6210daf81c851052a3c89d501dfa26e65aac0725403ab5f700881c", func := "petasos/petasoslaw04.RecordTells", spec := "recordTells", unfollowed := true, recurses := true, apart := false, narrowed := true }
def RecordTellsUptoSaid : Prop := recordTellsUptoRow.holds Try.pinned (OpenSpec.upto recordTellsSpec)

/-- 'petasoslaw04.RecordNewer', WHERE WHAT IT READS IS OF BULK AT MOST 1048576: true; the input reads as it did. -/
def recordNewerUptoRow : OpenClaim := { program := "ytjjgckbjoficgaa", sum := "6f7dacaacf6210daf81c851052a3c89d501dfa26e65aac0725403ab5f700881c", func := "petasos/petasoslaw04.RecordNewer", spec := "recordNewer", apart := false, narrowed := true }
def RecordNewerUptoSaid : Prop := recordNewerUptoRow.holds Try.pinned (OpenSpec.upto recordNewerSpec)

/-- 'petasoslaw04.RecordOwn', WHERE WHAT IT READS IS OF BULK AT MOST 1048576: true; the input reads as it did. -/
def recordOwnUptoRow : OpenClaim := { program := "ytjjgckbjoficgaa", sum := "6f7dacaacf6210daf81c851052a3c89d501dfa26e65aac0725403ab5f700881c", func := "petasos/petasoslaw04.RecordOwn", spec := "recordOwn", apart := false, narrowed := true }
def RecordOwnUptoSaid : Prop := recordOwnUptoRow.holds Try.pinned (OpenSpec.upto recordOwnSpec)

/-- 'petasoslaw04.RecordWrong', WHERE WHAT IT READS IS OF BULK AT MOST 1048576: true; the input reads as it did. -/
def recordWrongUptoRow : OpenClaim := { program := "ytjjgckbjoficgaa", sum := "6f7dacaacf6210daf81c851052a3c89d501dfa26e65aac0725403ab5f700881c", func := "petasos/petasoslaw04.RecordWrong", spec := "recordWrong", apart := false, narrowed := true }
def RecordWrongUptoSaid : Prop := recordWrongUptoRow.holds Try.pinned (OpenSpec.upto recordWrongSpec)

end Rows
end Go.Proofs.Ytjjgckbjoficgaa
