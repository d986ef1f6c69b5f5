/- Contracts of package record and its reference: Client, Own, Right, Newer. -/
import Derived.Test.YtihfkjodjaoocaaMem
import Derived.Lib.EndianBits
set_option maxRecDepth 4000
namespace Go.Proofs.Ytihfkjodjaoocaa
open Go.RowKit Mem
set_option linter.unusedSimpArgs false
set_option linter.unusedVariables false
attribute [local irreducible] Go.Calls

/-- whose an id is -/
def clientV (id : Int) : Int := if 16 ≤ id / 4294967296 then -1 else id / 4294967296
theorem clientV_bd (id : Int) (h : 0 ≤ id) : -1 ≤ clientV id ∧ clientV id < 16 := by unfold clientV; split <;> omega
theorem shr32 (id : Int) : id / 2 ^ 32 = id / 4294967296 := rfl
/-- the id of a client's number -/
def ownV (c n : Int) : Int := if c < 0 ∨ 16 ≤ c then 0 else c * 4294967296 + n
theorem or32 (c n : Int) (hc : 0 ≤ c ∧ c < 16) (hn : 0 ≤ n ∧ n ≤ 4294967295) : bits .or .u64 (c * 4294967296) n = c * 4294967296 + n := by
  have e1 : (2 : Int) ^ 32 = 4294967296 := rfl
  have e2 : (2 : Int) ^ 64 = 18446744073709551616 := rfl
  exact bits_join .u64 64 (by decide) wraps_u64 32 (c * 4294967296) n (by omega) (by rw [e1]; omega) (by omega) hn.1 (by omega) (by omega)
/-- may it be a record of so many attributes, with so many values? -/
def rightV (attrs id ver : Int) (n : Nat) : Bool := decide (1 ≤ attrs) && decide (attrs ≤ 8) && decide ((n : Int) = attrs) && decide (0 ≤ clientV id) && decide (1 ≤ ver)
/-- is an entry of that version, gone or not, to stand in another one's place? -/
def newerV (v1 : Int) (g1 : Bool) (v2 : Int) (g2 : Bool) : Bool := if v1 = v2 then g1 && !g2 else decide (v1 > v2)
set_option maxHeartbeats 1000000 in
theorem newer_any (x1 i1 v1 x2 i2 v2 : Int) (g1 g2 : Bool) (h1 : 0 ≤ v1) (h2 : 0 ≤ v2) (a1 a2 : Option Addr) (n1 c1 n2 c2 : Nat) (w : World) :
    Calls Try.prog 49 #[.agg #[.int .u32 x1, .int .u64 i1, .int .u64 v1, .slice a1 n1 c1, .bool g1], .agg #[.int .u32 x2, .int .u64 i2, .int .u64 v2, .slice a2 n2 c2, .bool g2]] w
      fun e w' => e = .returned (.bool (newerV v1 g1 v2 g2)) ∧ Below w.heap.size w w' := by
  by_cases h : v1 = v2
  · have hr : newerV v1 g1 v2 g2 = (g1 && !g2) := if_pos h
    rw [hr]
    have hd : (v1 == v2) = true := by simpa using h
    cases g1 <;> (
      go_enter Try.func49, Try.ntmps49
      go_wp2_with fail
      go_ret
      exact ⟨rfl, more (more (Below.refl _ _) _) _⟩)
  · have hr : newerV v1 g1 v2 g2 = decide (v1 > v2) := if_neg h
    rw [hr]
    have hd : (v1 == v2) = false := by simpa using h
    go_enter Try.func49, Try.ntmps49
    go_wp2_with fail
    go_ret
    exact ⟨rfl, more (more (Below.refl _ _) _) _⟩
set_option maxHeartbeats 1000000 in
theorem rnewer_any (x1 i1 v1 x2 i2 v2 : Int) (g1 g2 : Bool) (h1 : 0 ≤ v1) (h2 : 0 ≤ v2) (a1 a2 : Option Addr) (n1 c1 n2 c2 : Nat) (w : World) :
    Calls Try.prog 28 #[.agg #[.int .u32 x1, .int .u64 i1, .int .u64 v1, .slice a1 n1 c1, .bool g1], .agg #[.int .u32 x2, .int .u64 i2, .int .u64 v2, .slice a2 n2 c2, .bool g2]] w
      fun e w' => e = .returned (.bool (newerV v1 g1 v2 g2)) ∧ Below w.heap.size w w' := by
  by_cases h : v1 = v2
  · have hr : newerV v1 g1 v2 g2 = (g1 && !g2) := if_pos h
    rw [hr]
    subst h
    cases g1 <;> (
      go_enter Try.func28, Try.ntmps28
      go_wp2_with fail
      go_ret
      exact ⟨rfl, more (more (Below.refl _ _) _) _⟩)
  · have hr : newerV v1 g1 v2 g2 = decide (v1 > v2) := if_neg h
    rw [hr]
    have hd : (v1 == v2) = false := by simpa using h
    by_cases hgt : v1 > v2
    · rw [decide_eq_true hgt]
      go_enter Try.func28, Try.ntmps28
      go_wp2_with fail
      go_ret
      exact ⟨rfl, more (more (Below.refl _ _) _) _⟩
    · rw [decide_eq_false hgt]
      go_enter Try.func28, Try.ntmps28
      go_wp2_with fail
      go_ret
      exact ⟨rfl, more (more (Below.refl _ _) _) _⟩
end Go.Proofs.Ytihfkjodjaoocaa
