/- What the laws of messages share: Pack and Take of both sides with one answer; messages held against each other. -/
import Derived.Test.YthhelhhlofdehaaMsgRtake
import Derived.Test.YthhelhhlofdehaaSameMsg
import Derived.Test.YthhelhhlofdehaaMsgFew
set_option maxRecDepth 4000
namespace Go.Proofs.Ythhelhhlofdehaa
open Go.RowKit Mem
set_option linter.unusedSimpArgs false
set_option linter.unusedVariables false
attribute [local irreducible] Go.Calls

/-- what Pack tells -/
def pkV (attrs : Int) (m : Msg) : List Int × Int := if rightM attrs m = true then (packM m, 0) else ([], 4)
def PkU (p : List Int) (err : Int) (w : World) (e : Ending) (w' : World) : Prop := ∃ x, e = .returned (.tuple #[x, .int .i64 err]) ∧ Rd (intE .u8) w' x p ∧ Below w.heap.size w w'
theorem pk_u {attrs : Int} {m : Msg} {w : World} {e : Ending} {w' : World} (h : PkPost attrs m w e w') : PkU (pkV attrs m).1 (pkV attrs m).2 w e w' := by
  unfold pkV
  rcases h with ⟨h1, h2, h3⟩ | ⟨h1, x, h2, h3, h4⟩
  · rw [if_neg (by rw [h1]; decide)]
    exact ⟨_, h2, Rd.nil _ _ (by unfold maxLen; omega), h3⟩
  · rw [if_pos h1]
    exact ⟨x, h2, h3.rd, h4⟩
theorem opk_u (attrs : Int) (m : Msg) (v b r : Value) (w : World) (h : MRd w m v b r) (hb : MB m) : Calls Try.prog 12 #[.int .i64 attrs, .agg (mcs m v b r).toArray] w (PkU (pkV attrs m).1 (pkV attrs m).2 w) := (ompack_row attrs m v b r w h hb).mono fun _ _ h => pk_u h
theorem rpk_u (attrs : Int) (m : Msg) (v b r : Value) (w : World) (h : MRd w m v b r) (hb : MB m) : Calls Try.prog 13 #[.int .i64 attrs, .agg (mcs m v b r).toArray] w (PkU (pkV attrs m).1 (pkV attrs m).2 w) := (rmpack_any attrs m v b r w h hb).mono fun _ _ h => pk_u h
/-- what Take tells -/
def TkU (m : Msg) (err : Int) (w : World) (e : Ending) (w' : World) : Prop := ∃ v b r, e = .returned (.tuple #[.agg (mcs m v b r).toArray, .int .i64 err]) ∧ MRd w' m v b r ∧ MB m ∧ Below w.heap.size w w'
theorem otk_u {m : Msg} {err : Int} (attrs : Int) (v : Value) (l : List Int) (w : World) (hT : takeV attrs l = (m, err)) (h : Rd (intE .u8) w v l) (hlm : l.length ≤ 1000000) (hb : Byt l) : Calls Try.prog 14 #[.int .i64 attrs, v] w (TkU m err w) := by
  have := omtake_any attrs v l w h hlm hb
  rw [hT] at this
  exact this
theorem rtk_u {m : Msg} {err : Int} (attrs : Int) (v : Value) (l : List Int) (w : World) (hT : takeV attrs l = (m, err)) (h : Rd (intE .u8) w v l) (hlm : l.length ≤ 1000000) (hb : Byt l) : Calls Try.prog 15 #[.int .i64 attrs, v] w (TkU m err w) := by
  have := rmtake_any attrs v l w h hlm hb
  rw [hT] at this
  exact this
theorem sameM_self (m : Msg) : sameM m m = true := by simp [sameM, sameE, sameV]
theorem sameM_eq {m n : Msg} (h : sameM m n = true) : m = n := by
  cases m
  cases n
  simp [sameM, sameE, sameV] at h
  simp_all
theorem message_yes (m : Msg) (v1 b1 r1 v2 b2 r2 : Value) (w : World) (h1 : MRd w m v1 b1 r1) (h2 : MRd w m v2 b2 r2) :
    Calls Try.prog 19 #[.agg (mcs m v1 b1 r1).toArray, .agg (mcs m v2 b2 r2).toArray] w fun e w' => e = .returned (.bool true) ∧ Below w.heap.size w w' := by
  rw [← sameM_self m]
  exact message_any m m v1 b1 r1 v2 b2 r2 w h1 h2
theorem takeV_ok {attrs : Int} {l : List Int} {m : Msg} (h : takeV attrs l = (m, 0)) : packM m = l ∧ rightM attrs m = true := by
  unfold takeV at h
  by_cases h1 : ¬ (1 ≤ attrs ∧ attrs ≤ 8)
  · rw [if_pos h1] at h; injection h with _ h; cases h
  rw [if_neg h1] at h
  by_cases h2 : l.length < 9
  · rw [if_pos h2] at h; injection h with _ h; cases h
  rw [if_neg h2] at h
  by_cases h3 : ¬ (1 ≤ gq l 0 1 ∧ gq l 0 1 ≤ 6)
  · rw [if_pos h3] at h; injection h with _ h; cases h
  rw [if_neg h3] at h
  by_cases h4 : l.length < lenQ attrs.toNat l (gq l 0 1)
  · rw [if_pos h4] at h; injection h with _ h; cases h
  rw [if_neg h4] at h
  by_cases h5 : rightM attrs (msgQ attrs.toNat l) = true ∧ packM (msgQ attrs.toNat l) = l
  · rw [if_pos h5] at h
    injection h with h _
    subst h
    exact ⟨h5.2, h5.1⟩
  · rw [if_neg h5] at h; injection h with _ h; cases h
end Go.Proofs.Ythhelhhlofdehaa
