/- Plain arithmetic of spans on the circle of 2^32 values: no Go in sight. -/
namespace Go.Proofs.Ytgkfioloceemcaa.Cir
/-- steps from f to v -/
def far (f v : Int) : Int := (v - f) % 4294967296
/-- steps from f to v, a whole round if they are alike -/
def beh (f v : Int) : Int := (v - f - 1) % 4294967296 + 1
/-- the value half way, rounded down -/
def mid (f t : Int) : Int := (f + beh f t / 2) % 4294967296
theorem far_bd (f v : Int) : 0 ≤ far f v ∧ far f v ≤ 4294967295 := by unfold far; omega
theorem beh_bd (f v : Int) : 1 ≤ beh f v ∧ beh f v ≤ 4294967296 := by unfold beh; omega
theorem beh_self (f : Int) : beh f f = 4294967296 := by unfold beh; omega
theorem beh_far (f v : Int) (h : far f v ≠ 0) : beh f v = far f v := by unfold far at *; unfold beh; omega
/-- b, or as far as (f, t] goes -/
def cutHi (f t b : Int) : Int := if beh f t < b then beh f t else b
/-- the piece of (f, t] that is more than a, at most b steps behind f -/
def cutL (f t a b : Int) : List (Int × Int) := if cutHi f t b ≤ a then [] else [((f + a) % 4294967296, (f + cutHi f t b) % 4294967296)]
def meetL (f t g u : Int) : List (Int × Int) :=
  if g = u then [(f, t)] else if far f g + beh g u ≤ 4294967296 then cutL f t (far f g) (far f g + beh g u) else cutL f t 0 (far f g + beh g u - 4294967296) ++ cutL f t (far f g) 4294967296
def lessL (f t g u : Int) : List (Int × Int) := if g = u then [] else meetL f t u g
theorem cutHi_bd (f t b : Int) (hb : 0 ≤ b) : 0 ≤ cutHi f t b ∧ cutHi f t b ≤ b ∧ cutHi f t b ≤ beh f t := by
  have := beh_bd f t
  unfold cutHi; split <;> omega
theorem cutL_len (f t a b : Int) : (cutL f t a b).length ≤ 1 := by unfold cutL; split <;> simp
attribute [irreducible] far beh mid
end Go.Proofs.Ytgkfioloceemcaa.Cir
