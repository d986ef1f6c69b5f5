/-
  No cell of these rows narrows 'for every input' (looked for: loops, veiled, ifaces, maps, wideKeys, modest, calm, conditions, laid).
  DERIVED. THE GIVEN ROWS OF THIS SEAT. 6 by the template 'for every input the law returns true; each argument reads behind the call as it read before'; 0 by the template 'total and deterministic' (their statements: YthhelhhlofdehaaTotals.lean).
  GIVEN WITH THE SEED: the statements are not yours to turn. If you find one false, say at which input.
  Laid BY PROGRAM, IN A SANDBOX (cutbox-rows.mjs): the forced cells as the released guide's own fill.sh prints them over the translation ad5d728f5ad3de31… (all of the seat's roots in one cut). By AI agents, Wed Nov 11 2026. No macro, syntax, notation, axiom, sorry.
-/
import Derived.Test.YthhelhhlofdehaaChecked
import GoSem.Claim
import GoSem.ClaimJoined
import GoSem.ClaimMapViews
import Derived.JoinedTies
import Derived.KernelRfl
namespace Go.Proofs.Ythhelhhlofdehaa
/- THE CELL 'sum', in the pinned program and in every row, IS THE sha256 OF THE DUMP (.gsa) THAT YthhelhhlofdehaaProg.lean LOADS. Nothing in Lean hashes anything: it is a label: what it is worth is what the hold of that sum in a sandbox is worth. -/
noncomputable def Try.pinned : Pinned := { name := "ythhelhhlofdehaa", sum := "ad5d728f5ad3de31ebb362da8a7324b8c634f242a02ec1d2e35e5091c36aa538", checked := Try.checked }
namespace Rows
def none {H : Type} : Left H := { results := [], args := [] }

/-- 'petasoslaw06.MessageTells': WHATEVER THE INPUT: true; the input reads as it did. -/
def messageTellsSpec : ChangeSpec := { name := "messageTells", fn := fun _ => fun
  | [d1, d2, d3] => { results := [.lit (.bool true)], args := [d1, d2, d3] }
  | _ => none }
def messageTellsRow : OpenClaim := { program := "ythhelhhlofdehaa", sum := "ad5d728f5ad3de31ebb362da8a7324b8c634f242a02ec1d2e35e5091c36aa538", func := "petasos/petasoslaw06.MessageTells", spec := "messageTells", unfollowed := true, recurses := true, apart := false }
def MessageTellsSaid : Prop := messageTellsRow.holds Try.pinned (OpenSpec.ofChange messageTellsSpec)

/-- ITS FALSE NEIGHBOUR: 'it returns false'. Refute it at one input. -/
def messageTellsWrong : ChangeSpec := { name := "messageTells", fn := fun _ => fun
  | [d1, d2, d3] => { results := [.lit (.bool false)], args := [d1, d2, d3] }
  | _ => none }
def MessageTellsWrongFalsely : Prop := messageTellsRow.holds Try.pinned (OpenSpec.ofChange messageTellsWrong)

/-- 'petasoslaw06.MessageBack': WHATEVER THE INPUT: true; the input reads as it did. -/
def messageBackSpec : ChangeSpec := { name := "messageBack", fn := fun _ => fun
  | [d1, d2, d3, d4] => { results := [.lit (.bool true)], args := [d1, d2, d3, d4] }
  | _ => none }
def messageBackRow : OpenClaim := { program := "ythhelhhlofdehaa", sum := "ad5d728f5ad3de31ebb362da8a7324b8c634f242a02ec1d2e35e5091c36aa538", func := "petasos/petasoslaw06.MessageBack", spec := "messageBack", unfollowed := true, recurses := true, apart := false }
def MessageBackSaid : Prop := messageBackRow.holds Try.pinned (OpenSpec.ofChange messageBackSpec)

/-- ITS FALSE NEIGHBOUR: 'it returns false'. Refute it at one input. -/
def messageBackWrong : ChangeSpec := { name := "messageBack", fn := fun _ => fun
  | [d1, d2, d3, d4] => { results := [.lit (.bool false)], args := [d1, d2, d3, d4] }
  | _ => none }
def MessageBackWrongFalsely : Prop := messageBackRow.holds Try.pinned (OpenSpec.ofChange messageBackWrong)

/-- 'petasoslaw06.MessageTurned': WHATEVER THE INPUT: true; the input reads as it did. -/
def messageTurnedSpec : ChangeSpec := { name := "messageTurned", fn := fun _ => fun
  | [d1, d2, d3, d4] => { results := [.lit (.bool true)], args := [d1, d2, d3, d4] }
  | _ => none }
def messageTurnedRow : OpenClaim := { program := "ythhelhhlofdehaa", sum := "ad5d728f5ad3de31ebb362da8a7324b8c634f242a02ec1d2e35e5091c36aa538", func := "petasos/petasoslaw06.MessageTurned", spec := "messageTurned", unfollowed := true, recurses := true, apart := false }
def MessageTurnedSaid : Prop := messageTurnedRow.holds Try.pinned (OpenSpec.ofChange messageTurnedSpec)

/-- ITS FALSE NEIGHBOUR: 'it returns false'. Refute it at one input. -/
def messageTurnedWrong : ChangeSpec := { name := "messageTurned", fn := fun _ => fun
  | [d1, d2, d3, d4] => { results := [.lit (.bool false)], args := [d1, d2, d3, d4] }
  | _ => none }
def MessageTurnedWrongFalsely : Prop := messageTurnedRow.holds Try.pinned (OpenSpec.ofChange messageTurnedWrong)

/-- 'petasoslaw07.DiceRoll': WHATEVER THE INPUT: true; the input reads as it did. -/
def diceRollSpec : ChangeSpec := { name := "diceRoll", fn := fun _ => fun
  | [d1, d2, d3] => { results := [.lit (.bool true)], args := [d1, d2, d3] }
  | _ => none }
def diceRollRow : OpenClaim := { program := "ythhelhhlofdehaa", sum := "ad5d728f5ad3de31ebb362da8a7324b8c634f242a02ec1d2e35e5091c36aa538", func := "petasos/petasoslaw07.DiceRoll", spec := "diceRoll", apart := false }
def DiceRollSaid : Prop := diceRollRow.holds Try.pinned (OpenSpec.ofChange diceRollSpec)

/-- ITS FALSE NEIGHBOUR: 'it returns false'. Refute it at one input. -/
def diceRollWrong : ChangeSpec := { name := "diceRoll", fn := fun _ => fun
  | [d1, d2, d3] => { results := [.lit (.bool false)], args := [d1, d2, d3] }
  | _ => none }
def DiceRollWrongFalsely : Prop := diceRollRow.holds Try.pinned (OpenSpec.ofChange diceRollWrong)

/-- 'petasoslaw07.DiceWithin': WHATEVER THE INPUT: true; the input reads as it did. -/
def diceWithinSpec : ChangeSpec := { name := "diceWithin", fn := fun _ => fun
  | [d1, d2] => { results := [.lit (.bool true)], args := [d1, d2] }
  | _ => none }
def diceWithinRow : OpenClaim := { program := "ythhelhhlofdehaa", sum := "ad5d728f5ad3de31ebb362da8a7324b8c634f242a02ec1d2e35e5091c36aa538", func := "petasos/petasoslaw07.DiceWithin", spec := "diceWithin", apart := false }
def DiceWithinSaid : Prop := diceWithinRow.holds Try.pinned (OpenSpec.ofChange diceWithinSpec)

/-- ITS FALSE NEIGHBOUR: 'it returns false'. Refute it at one input. -/
def diceWithinWrong : ChangeSpec := { name := "diceWithin", fn := fun _ => fun
  | [d1, d2] => { results := [.lit (.bool false)], args := [d1, d2] }
  | _ => none }
def DiceWithinWrongFalsely : Prop := diceWithinRow.holds Try.pinned (OpenSpec.ofChange diceWithinWrong)

/-- 'petasoslaw07.DiceFork': WHATEVER THE INPUT: true; the input reads as it did. -/
def diceForkSpec : ChangeSpec := { name := "diceFork", fn := fun _ => fun
  | [d1, d2, d3] => { results := [.lit (.bool true)], args := [d1, d2, d3] }
  | _ => none }
def diceForkRow : OpenClaim := { program := "ythhelhhlofdehaa", sum := "ad5d728f5ad3de31ebb362da8a7324b8c634f242a02ec1d2e35e5091c36aa538", func := "petasos/petasoslaw07.DiceFork", spec := "diceFork", apart := false }
def DiceForkSaid : Prop := diceForkRow.holds Try.pinned (OpenSpec.ofChange diceForkSpec)

/-- ITS FALSE NEIGHBOUR: 'it returns false'. Refute it at one input. -/
def diceForkWrong : ChangeSpec := { name := "diceFork", fn := fun _ => fun
  | [d1, d2, d3] => { results := [.lit (.bool false)], args := [d1, d2, d3] }
  | _ => none }
def DiceForkWrongFalsely : Prop := diceForkRow.holds Try.pinned (OpenSpec.ofChange diceForkWrong)

/- THE SECOND FORM. 'bulk': how many values and letters a reading holds, each counted each time it is reached (what is shared counts as often as it is met; a slice's spare places count too). A statement '..UptoSaid' is the law's where the arguments, and the package variables that the reading takes, are together of bulk at most 1048576: NARROWER than '..Said'. Prove '..Said' where nothing that the law and all that it calls make is longer than what came in: it says more and counts as full. Else prove '..UptoSaid'. A law counts once. -/
mutual
def uptoBulk {H : Type} : DataW H → Nat
  | .lit (.string bytes) => bytes.length + 1
  | .lit _ => 1
  | .nil => 1
  | .ptr d => uptoBulk d + 1
  | .slice elems spare => uptoBulkAll elems + uptoBulkAll spare + 1
  | .agg parts => uptoBulkAll parts + 1
  | .iface _ d => uptoBulk d + 1
  | .map entries => uptoBulkEntries entries + 1
  | .held _ => 1
def uptoBulkAll {H : Type} : List (DataW H) → Nat
  | [] => 0
  | d :: r => uptoBulk d + uptoBulkAll r
def uptoBulkEntries {H : Type} : List (Lit × DataW H) → Nat
  | [] => 0
  | x :: r => uptoBulkEntry x + uptoBulkEntries r
def uptoBulkEntry {H : Type} : Lit × DataW H → Nat
  | (.string bytes, d) => bytes.length + uptoBulk d + 1
  | (_, d) => uptoBulk d + 1
 end
def uptoSmall : (H : Type) → List (DataW H) → Bool := fun _ ds => decide (uptoBulkAll ds ≤ 1048576)
def OpenSpec.upto (s : _root_.Go.ChangeSpec) : _root_.Go.OpenSpec := { _root_.Go.OpenSpec.ofChange s with cond := some uptoSmall }

/-- 'petasoslaw06.MessageTells', WHERE WHAT IT READS IS OF BULK AT MOST 1048576: true; the input reads as it did. -/
def messageTellsUptoRow : OpenClaim := { program := "ythhelhhlofdehaa", sum := "ad5d728f5ad3de31ebb362da8a7324b8c634f242a02ec1d2e35e5091c36aa538", func := "petasos/petasoslaw06.MessageTells", spec := "messageTells", unfollowed := true, recurses := true, apart := false, narrowed := true }
def MessageTellsUptoSaid : Prop := messageTellsUptoRow.holds Try.pinned (OpenSpec.upto messageTellsSpec)

/-- 'petasoslaw06.MessageBack', WHERE WHAT IT READS IS OF BULK AT MOST 1048576: true; the input reads as it did. -/
def messageBackUptoRow : OpenClaim := { program := "ythhelhhlofdehaa", sum := "ad5d728f5ad3de31ebb362da8a7324b8c634f242a02ec1d2e35e5091c36aa538", func := "petasos/petasoslaw06.MessageBack", spec := "messageBack", unfollowed := true, recurses := true, apart := false, narrowed := true }
def MessageBackUptoSaid : Prop := messageBackUptoRow.holds Try.pinned (OpenSpec.upto messageBackSpec)

/-- 'petasoslaw06.MessageTurned', WHERE WHAT IT READS IS OF BULK AT MOST 1048576: true; the input reads as it did. -/
def messageTurnedUptoRow : OpenClaim := { program := "ythhelhhlofdehaa", sum := "ad5d728f5ad3de31ebb362da8a7324b8c634f242a02ec1d2e35e5091c36aa538", func := "petasos/petasoslaw06.MessageTurned", spec := "messageTurned", unfollowed := true, recurses := true, apart := false, narrowed := true }
def MessageTurnedUptoSaid : Prop := messageTurnedUptoRow.holds Try.pinned (OpenSpec.upto messageTurnedSpec)

/-- 'petasoslaw07.DiceRoll', WHERE WHAT IT READS IS OF BULK AT MOST 1048576: true; the input reads as it did. -/
def diceRollUptoRow : OpenClaim := { program := "ythhelhhlofdehaa", sum := "ad5d728f5ad3de31ebb362da8a7324b8c634f242a02ec1d2e35e5091c36aa538", func := "petasos/petasoslaw07.DiceRoll", spec := "diceRoll", apart := false, narrowed := true }
def DiceRollUptoSaid : Prop := diceRollUptoRow.holds Try.pinned (OpenSpec.upto diceRollSpec)

/-- 'petasoslaw07.DiceWithin', WHERE WHAT IT READS IS OF BULK AT MOST 1048576: true; the input reads as it did. -/
def diceWithinUptoRow : OpenClaim := { program := "ythhelhhlofdehaa", sum := "ad5d728f5ad3de31ebb362da8a7324b8c634f242a02ec1d2e35e5091c36aa538", func := "petasos/petasoslaw07.DiceWithin", spec := "diceWithin", apart := false, narrowed := true }
def DiceWithinUptoSaid : Prop := diceWithinUptoRow.holds Try.pinned (OpenSpec.upto diceWithinSpec)

/-- 'petasoslaw07.DiceFork', WHERE WHAT IT READS IS OF BULK AT MOST 1048576: true; the input reads as it did. -/
def diceForkUptoRow : OpenClaim := { program := "ythhelhhlofdehaa", sum := "ad5d728f5ad3de31ebb362da8a7324b8c634f242a02ec1d2e35e5091c36aa538", func := "petasos/petasoslaw07.DiceFork", spec := "diceFork", apart := false, narrowed := true }
def DiceForkUptoSaid : Prop := diceForkUptoRow.holds Try.pinned (OpenSpec.upto diceForkSpec)

end Rows
end Go.Proofs.Ythhelhhlofdehaa
