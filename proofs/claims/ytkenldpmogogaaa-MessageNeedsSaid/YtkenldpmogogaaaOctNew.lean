/- A new writer of package octet. -/
import Derived.Test.YtkenldpmogogaaaOctBytes
set_option maxRecDepth 4000
namespace Go.Proofs.Ytkenldpmogogaaa
open Go.RowKit Mem
attribute [local irreducible] Go.Calls

/-- the cells of a new writer -/
def wnew : List Value := wcs (.pointer none) (List.replicate 64 0) 0
theorem wnew_info : (Try.prog.info? 58).map (fun i => (i.zero, i.size)) = some (some (.agg wnew.toArray), 66) := by kernel_rfl
theorem wr_new (w : World) : WrAt (w.alloc (.cells wnew.toArray 58)) w.heap.size [] :=
  ⟨.pointer none, [], List.replicate 64 0, Blk.new w _ _, by simp, rfl, by simp, by simp⟩
theorem WrAt.below {w w' : World} {b : Nat} {l : List Int} (h : WrAt w b l) (k : Below w.heap.size w w') : WrAt w' b l := h.keep k
end Go.Proofs.Ytkenldpmogogaaa
