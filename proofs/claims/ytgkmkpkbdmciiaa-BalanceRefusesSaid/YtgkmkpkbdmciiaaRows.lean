/-
  No cell of these rows narrows 'for every input' (looked for: loops, veiled, ifaces, maps, wideKeys, modest, calm, conditions, laid).
  DERIVED. THE GIVEN ROWS OF THIS SEAT. 4 by the template 'for every input the law returns true; each argument reads behind the call as it read before'; 0 by the template 'total and deterministic' (their statements: YtgkmkpkbdmciiaaTotals.lean).
  GIVEN WITH THE SEED: the statements are not yours to turn. If you find one false, say at which input.
  Laid BY PROGRAM, IN A SANDBOX (cutbox-rows.mjs): the forced cells as the released guide's own fill.sh prints them over the translation 3576961a4d563d1e… (all of the seat's roots in one cut). By AI agents, Wed Nov 11 2026. No macro, syntax, notation, axiom, sorry.
-/
import Derived.Test.YtgkmkpkbdmciiaaChecked
import GoSem.Claim
import GoSem.ClaimJoined
import GoSem.ClaimMapViews
import Derived.JoinedTies
import Derived.KernelRfl
namespace Go.Proofs.Ytgkmkpkbdmciiaa
/- THE CELL 'sum', in the pinned program and in every row, IS THE sha256 OF THE DUMP (.gsa) THAT YtgkmkpkbdmciiaaProg.lean LOADS. Nothing in Lean hashes anything: it is a label: what it is worth is what the hold of that sum in a sandbox is worth. -/
noncomputable def Try.pinned : Pinned := { name := "ytgkmkpkbdmciiaa", sum := "3576961a4d563d1ea081381e0d4377191e8ec812f4ee8bf13cbab1bc223d2ffe", checked := Try.checked }
namespace Rows
def none {H : Type} : Left H := { results := [], args := [] }

/-- 'petasoslaw17.BalanceTells': WHATEVER THE INPUT: true; the input reads as it did. -/
def balanceTellsSpec : ChangeSpec := { name := "balanceTells", fn := fun _ => fun
  | [d1, d2] => { results := [.lit (.bool true)], args := [d1, d2] }
  | _ => none }
def balanceTellsRow : OpenClaim := { program := "ytgkmkpkbdmciiaa", sum := "3576961a4d563d1ea081381e0d4377191e8ec812f4ee8bf13cbab1bc223d2ffe", func := "petasos/petasoslaw17.BalanceTells", spec := "balanceTells", unfollowed := true, recurses := true, apart := false }
def BalanceTellsSaid : Prop := balanceTellsRow.holds Try.pinned (OpenSpec.ofChange balanceTellsSpec)

/-- ITS FALSE NEIGHBOUR: 'it returns false'. Refute it at one input. -/
def balanceTellsWrong : ChangeSpec := { name := "balanceTells", fn := fun _ => fun
  | [d1, d2] => { results := [.lit (.bool false)], args := [d1, d2] }
  | _ => none }
def BalanceTellsWrongFalsely : Prop := balanceTellsRow.holds Try.pinned (OpenSpec.ofChange balanceTellsWrong)

/-- 'petasoslaw17.BalanceHalf': WHATEVER THE INPUT: true; the input reads as it did. -/
def balanceHalfSpec : ChangeSpec := { name := "balanceHalf", fn := fun _ => fun
  | [d1, d2, d3] => { results := [.lit (.bool true)], args := [d1, d2, d3] }
  | _ => none }
def balanceHalfRow : OpenClaim := { program := "ytgkmkpkbdmciiaa", sum := "3576961a4d563d1ea081381e0d4377191e8ec812f4ee8bf13cbab1bc223d2ffe", func := "petasos/petasoslaw17.BalanceHalf", spec := "balanceHalf", unfollowed := true, recurses := true, apart := false }
def BalanceHalfSaid : Prop := balanceHalfRow.holds Try.pinned (OpenSpec.ofChange balanceHalfSpec)

/-- ITS FALSE NEIGHBOUR: 'it returns false'. Refute it at one input. -/
def balanceHalfWrong : ChangeSpec := { name := "balanceHalf", fn := fun _ => fun
  | [d1, d2, d3] => { results := [.lit (.bool false)], args := [d1, d2, d3] }
  | _ => none }
def BalanceHalfWrongFalsely : Prop := balanceHalfRow.holds Try.pinned (OpenSpec.ofChange balanceHalfWrong)

/-- 'petasoslaw17.BalanceMiddle': WHATEVER THE INPUT: true; the input reads as it did. -/
def balanceMiddleSpec : ChangeSpec := { name := "balanceMiddle", fn := fun _ => fun
  | [d1, d2] => { results := [.lit (.bool true)], args := [d1, d2] }
  | _ => none }
def balanceMiddleRow : OpenClaim := { program := "ytgkmkpkbdmciiaa", sum := "3576961a4d563d1ea081381e0d4377191e8ec812f4ee8bf13cbab1bc223d2ffe", func := "petasos/petasoslaw17.BalanceMiddle", spec := "balanceMiddle", unfollowed := true, recurses := true, apart := false }
def BalanceMiddleSaid : Prop := balanceMiddleRow.holds Try.pinned (OpenSpec.ofChange balanceMiddleSpec)

/-- ITS FALSE NEIGHBOUR: 'it returns false'. Refute it at one input. -/
def balanceMiddleWrong : ChangeSpec := { name := "balanceMiddle", fn := fun _ => fun
  | [d1, d2] => { results := [.lit (.bool false)], args := [d1, d2] }
  | _ => none }
def BalanceMiddleWrongFalsely : Prop := balanceMiddleRow.holds Try.pinned (OpenSpec.ofChange balanceMiddleWrong)

/-- 'petasoslaw17.BalanceRefuses': WHATEVER THE INPUT: true; the input reads as it did. -/
def balanceRefusesSpec : ChangeSpec := { name := "balanceRefuses", fn := fun _ => fun
  | [d1, d2, d3] => { results := [.lit (.bool true)], args := [d1, d2, d3] }
  | _ => none }
def balanceRefusesRow : OpenClaim := { program := "ytgkmkpkbdmciiaa", sum := "3576961a4d563d1ea081381e0d4377191e8ec812f4ee8bf13cbab1bc223d2ffe", func := "petasos/petasoslaw17.BalanceRefuses", spec := "balanceRefuses", unfollowed := true, recurses := true, apart := false }
def BalanceRefusesSaid : Prop := balanceRefusesRow.holds Try.pinned (OpenSpec.ofChange balanceRefusesSpec)

/-- ITS FALSE NEIGHBOUR: 'it returns false'. Refute it at one input. -/
def balanceRefusesWrong : ChangeSpec := { name := "balanceRefuses", fn := fun _ => fun
  | [d1, d2, d3] => { results := [.lit (.bool false)], args := [d1, d2, d3] }
  | _ => none }
def BalanceRefusesWrongFalsely : Prop := balanceRefusesRow.holds Try.pinned (OpenSpec.ofChange balanceRefusesWrong)

/- THE SECOND FORM. 'bulk': how many values and letters a reading holds, each counted each time it is reached (what is shared counts as often as it is met; a slice's spare places count too). A statement '..UptoSaid' is the law's where the arguments, and the package variables that the reading takes, are together of bulk at most 1048576: NARROWER than '..Said'. Prove '..Said' where nothing that the law and all that it calls make is longer than what came in: it says more and counts as full. Else prove '..UptoSaid'. A law counts once. -/
mutual
def uptoBulk {H : Type} : DataW H → Nat
  | .lit (.string bytes) => bytes.length + 1
  | .lit _ => 1
  | .nil => 1
  | .ptr d => uptoBulk d + 1
  | .slice elems spare => uptoBulkAll elems + uptoBulkAll spare + 1
  | .agg parts => uptoBulkAll parts + 1
  | .iface _ d => uptoBulk d + 1
  | .map entries => uptoBulkEntries entries + 1
  | .held _ => 1
def uptoBulkAll {H : Type} : List (DataW H) → Nat
  | [] => 0
  | d :: r => uptoBulk d + uptoBulkAll r
def uptoBulkEntries {H : Type} : List (Lit × DataW H) → Nat
  | [] => 0
  | x :: r => uptoBulkEntry x + uptoBulkEntries r
def uptoBulkEntry {H : Type} : Lit × DataW H → Nat
  | (.string bytes, d) => bytes.length + uptoBulk d + 1
  | (_, d) => uptoBulk d + 1
 end
def uptoSmall : (H : Type) → List (DataW H) → Bool := fun _ ds => decide (uptoBulkAll ds ≤ 1048576)
def OpenSpec.upto (s : _root_.Go.ChangeSpec) : _root_.Go.OpenSpec := { _root_.Go.OpenSpec.ofChange s with cond := some uptoSmall }

/-- 'petasoslaw17.BalanceTells', WHERE WHAT IT READS IS OF BULK AT MOST 1048576: true; the input reads as it did. -/
def balanceTellsUptoRow : OpenClaim := { program := "ytgkmkpkbdmciiaa", sum := "3576961a4d563d1ea081381e0d4377191e8ec812f4ee8bf13cbab1bc223d2ffe", func := "petasos/petasoslaw17.BalanceTells", spec := "balanceTells", unfollowed := true, recurses := true, apart := false, narrowed := true }
def BalanceTellsUptoSaid : Prop := balanceTellsUptoRow.holds Try.pinned (OpenSpec.upto balanceTellsSpec)

/-- 'petasoslaw17.BalanceHalf', WHERE WHAT IT READS IS OF BULK AT MOST 1048576: true; the input reads as it did. -/
def balanceHalfUptoRow : OpenClaim := { program := "ytgkmkpkbdmciiaa", sum := "3576961a4d563d1ea081381e0d4377191e8ec812f4ee8bf13cbab1bc223d2ffe", func := "petasos/petasoslaw17.BalanceHalf", spec := "balanceHalf", unfollowed := true, recurses := true, apart := false, narrowed := true }
def BalanceHalfUptoSaid : Prop := balanceHalfUptoRow.holds Try.pinned (OpenSpec.upto balanceHalfSpec)

/-- 'petasoslaw17.BalanceMiddle', WHERE WHAT IT READS IS OF BULK AT MOST 1048576: true; the input reads as it did. -/
def balanceMiddleUptoRow : OpenClaim := { program := "ytgkmkpkbdmciiaa", sum := "3576961a4d563d1ea081381e0d4377191e8ec812f4ee8bf13cbab1bc223d2ffe", func := "petasos/petasoslaw17.BalanceMiddle", spec := "balanceMiddle", unfollowed := true, recurses := true, apart := false, narrowed := true }
def BalanceMiddleUptoSaid : Prop := balanceMiddleUptoRow.holds Try.pinned (OpenSpec.upto balanceMiddleSpec)

/-- 'petasoslaw17.BalanceRefuses', WHERE WHAT IT READS IS OF BULK AT MOST 1048576: true; the input reads as it did. -/
def balanceRefusesUptoRow : OpenClaim := { program := "ytgkmkpkbdmciiaa", sum := "3576961a4d563d1ea081381e0d4377191e8ec812f4ee8bf13cbab1bc223d2ffe", func := "petasos/petasoslaw17.BalanceRefuses", spec := "balanceRefuses", unfollowed := true, recurses := true, apart := false, narrowed := true }
def BalanceRefusesUptoSaid : Prop := balanceRefusesUptoRow.holds Try.pinned (OpenSpec.upto balanceRefusesSpec)

end Rows
end Go.Proofs.Ytgkmkpkbdmciiaa
