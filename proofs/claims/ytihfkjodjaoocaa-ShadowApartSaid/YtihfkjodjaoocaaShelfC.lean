/- The contracts of package shelf, as landed: what its laws lean on. -/
import Derived.Test.YtihfkjodjaoocaaShMath
import Derived.Test.YtihfkjodjaoocaaShNew
import Derived.Test.YtihfkjodjaoocaaShGet
import Derived.Test.YtihfkjodjaoocaaShCut2
set_option maxRecDepth 4000
namespace Go.Proofs.Ytihfkjodjaoocaa
open Go.RowKit Mem
attribute [local irreducible] Go.Calls
theorem shget_any (b : Nat) (W R : Nat → Prop) (L : List Ent) (v i : Int) (w : World) (h : ShAt w b W R L) (bv : 0 ≤ v ∧ v ≤ 4294967295) (bi : 0 ≤ i ∧ i ≤ 18446744073709551615) :
    Calls Try.prog 40 #[.pointer (some ⟨b, 0, none⟩), .agg #[.int .u32 v, .int .u64 i]] w fun e w' => ∃ x, e = .returned (.tuple #[.agg (ecl (getE L v i).1 x).toArray, .bool (getE L v i).2]) ∧ Rd (intE .u32) w' x (getE L v i).1.2.1.2.2 ∧ Below w.heap.size w w' :=
  (shgetR_any b W R L v i w h bv bi).mono fun _ _ ⟨x, he, hr, hb⟩ => ⟨x, he, hr.rd, hb⟩
theorem shscan_any (b : Nat) (W R : Nat → Prop) (L : List Ent) (f t : Int) (w : World) (h : ShAt w b W R L) (_ : 0 ≤ f ∧ f ≤ 4294967295) (_ : 0 ≤ t ∧ t ≤ 4294967295) :
    Calls Try.prog 24 #[.pointer (some ⟨b, 0, none⟩), .agg #[.int .u32 f, .int .u32 t]] w fun e w' => ∃ v, e = .returned v ∧ EntsIn (fun j => ¬ W j ∧ (R j ∨ w.heap.size ≤ j)) w' v (scanL f t L) ∧ Below w.heap.size w w' :=
  (shscanR_any b W R L f t w h).mono fun _ _ ⟨v, he, ho, hb⟩ => ⟨v, he, ho.ents.mono (fun j _ hj => ⟨fun hw => by have := h.lt (h.sub hw); omega, .inr hj⟩), hb⟩
end Go.Proofs.Ytihfkjodjaoocaa
