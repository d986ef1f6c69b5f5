/- Plain arithmetic of spans on the circle of 2^32 values: no Go in sight. -/
namespace Go.Proofs.Ytcpfdnndhgofgaa.Cir
/-- steps from f to v -/
def far (f v : Int) : Int := (v - f) % 4294967296
/-- steps from f to v, a whole round if they are alike -/
def beh (f v : Int) : Int := (v - f - 1) % 4294967296 + 1
/-- the value half way, rounded down -/
def mid (f t : Int) : Int := (f + beh f t / 2) % 4294967296
theorem far_bd (f v : Int) : 0 ≤ far f v ∧ far f v ≤ 4294967295 := by unfold far; omega
theorem beh_bd (f v : Int) : 1 ≤ beh f v ∧ beh f v ≤ 4294967296 := by unfold beh; omega
theorem beh_self (f : Int) : beh f f = 4294967296 := by unfold beh; omega
theorem beh_far (f v : Int) (h : far f v ≠ 0) : beh f v = far f v := by unfold far at *; unfold beh; omega
attribute [irreducible] far beh mid
end Go.Proofs.Ytcpfdnndhgofgaa.Cir
