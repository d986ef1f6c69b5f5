/- What the laws of shadows share: lists by owner; entries whose values the reach bounds; objects that leave each other be. -/
import Derived.Test.YtihfkjodjaoocaaShMath
import Derived.Test.YtihfkjodjaoocaaSameEnts
import Derived.Test.YtihfkjodjaoocaaKindsW
set_option maxRecDepth 4000
namespace Go.Proofs.Ytihfkjodjaoocaa.Mem
open Go.ChangeShapes Go.WideShapes Go.ChangeAt Go.RowKit Go.Joins Go.Deep
set_option linter.unusedVariables false
/-- a slice of 32-bit numbers within the reach -/
def kVals : Kd (List Int) where
  size := 1
  rd w cs l := (kSlice (kInt .u32)).rd w cs l ∧ l.length ≤ 35184372087808
  len h := (kSlice (kInt .u32)).len h.1
  keep h k := ⟨(kSlice (kInt .u32)).keep h.1 k, h.2⟩
theorem opensw_vals {H : Type} {enc : TypeId × Value → H} {P : Program} {t e : TypeId} (h : P.underlying t = some (.slice e)) (hc : P.cellsOf t = 1) (he : P.underlying e = some (.int .u32)) (hce : P.cellsOf e = 1) (hb : P.bytesOf e = 4) : OpensW enc P t kVals := by
  refine ⟨hc, fun w base spare held fuel cs x hx hs => ?_⟩
  obtain ⟨y, hy⟩ := (opens_slice (A := kInt .u32) h hc (by decide) (opens_int he hce)).2 w base spare held fuel cs x hx
  refine ⟨y, hy, ?_⟩
  obtain ⟨a', c', e', _⟩ := hy
  rcases open_slice h hx with ⟨rfl, _⟩ | ⟨a, len, cap, m, n, D, Pl, rfl, _, hl, hm, hmm, rfl, hi⟩
  · injection e' with e'
    injection e' with _ e2 _
    omega
  · injection e' with e'
    injection e' with _ e2 _
    have := hs ((len + (m - len)) * P.bytesOf e) (by
      unfold DataW.weights
      simp [h])
    rw [hb] at this
    have hr : reachBytes = 140737488351232 := rfl
    omega
/-- what each element says more -/
theorem kslice_imp {α : Type} {A A' : Kd α} {P : α → Prop} (hs : A.size = A'.size) (hi : ∀ w es y, A.rd w es y → A'.rd w es y ∧ P y) {w : World} {cs : List Value} {l : List α} (h : (kSlice A).rd w cs l) : (kSlice A').rd w cs l ∧ ∀ y ∈ l, P y := by
  obtain ⟨a, c, e, h1, h2, h3⟩ := h
  refine ⟨⟨a, c, e, h1, h2, fun hl => ?_⟩, fun y hy => ?_⟩
  · obtain ⟨g, off, ha, hc⟩ := h3 hl
    refine ⟨g, off, ha, fun i y hy => ?_⟩
    obtain ⟨es, he, hr⟩ := hc i y hy
    exact ⟨es, by rw [← hs]; exact he, (hi w es y hr).1⟩
  · obtain ⟨i, hi', rfl⟩ := List.getElem_of_mem hy
    obtain ⟨g, off, ha, hc⟩ := h3 (by omega)
    obtain ⟨es, he, hr⟩ := hc i _ (List.getElem?_eq_getElem hi')
    exact (hi w es _ hr).2
end Go.Proofs.Ytihfkjodjaoocaa.Mem
namespace Go.Proofs.Ytihfkjodjaoocaa
open Go.RowKit Mem
set_option linter.unusedSimpArgs false
set_option linter.unusedVariables false

abbrev entryKW : Kd Ent := kPair (kInt .u32) (kPair (kPair (kInt .u64) (kPair (kInt .u64) kVals)) kBool)
abbrev entsKW : Kd (List Ent) := kSlice entryKW
theorem opensw_ents {H : Type} {enc : TypeId × Value → H} : OpensW enc Try.prog 31 entsKW :=
  opensw_slice Try.underlying31 (by kernel_rfl) (by decide)
    (opensw_struct Try.underlying28 (by kernel_rfl) (fieldsw_cons rfl (opens_int Try.underlying22 (by kernel_rfl)).w (fieldsw_cons rfl
      (opensw_struct Try.underlying26 (by kernel_rfl) (fieldsw_cons rfl (opens_int Try.underlying23 (by kernel_rfl)).w (fieldsw_cons rfl (opens_int Try.underlying23 (by kernel_rfl)).w (fieldsw_one rfl (opensw_vals Try.underlying24 (by kernel_rfl) Try.underlying22 (by kernel_rfl) (by kernel_rfl))))))
      (fieldsw_one rfl (opens_bool Try.underlying4 (by kernel_rfl)).w))))
theorem ents_of_kdw {w : World} {v : Value} {L : List Ent} (h : entsKW.rd w [v] L) : EntsIn (fun j => j < w.heap.size) w v L ∧ ∀ y ∈ L, okE y := by
  obtain ⟨h1, h2⟩ := kslice_imp (A := entryKW) (A' := entryK) (P := fun y => y.2.1.2.2.length ≤ 35184372087808) rfl (fun w es y hy => by
    obtain ⟨q1, ⟨q2, q3, q4, q5⟩, q6⟩ := hy
    exact ⟨⟨q1, ⟨q2, q3, q4⟩, q6⟩, q5⟩) h
  obtain ⟨h3, h4⟩ := ents_of_kd h1
  exact ⟨h3, fun y hy => ⟨h4 y hy, h2 y hy⟩⟩
/-- another list of one owner -/
def updF (F : Int → List Ent) (o : Int) (L : List Ent) : Int → List Ent := fun p => if p = o then L else F p
theorem updF_at (F : Int → List Ent) (o : Int) (L : List Ent) : updF F o L o = L := if_pos rfl
theorem updF_ne {F : Int → List Ent} {o p : Int} {L : List Ent} (h : p ≠ o) : updF F o L p = F p := if_neg h
theorem updF_upd (F : Int → List Ent) (o : Int) (L M : List Ent) : updF (updF F o L) o M = updF F o M := by
  funext p
  unfold updF
  split <;> rfl
/-- neither writes what the other one reads -/
def Apt (W R W1 R1 : Nat → Prop) : Prop := (∀ j, R j → ¬ W1 j) ∧ ∀ j, R1 j → ¬ W j
theorem Apt.symm {W R W1 R1 : Nat → Prop} (h : Apt W R W1 R1) : Apt W1 R1 W R := ⟨h.2, h.1⟩
theorem Apt.step {W R W1 R1 W' R' : Nat → Prop} {n : Nat} (h : Apt W R W1 R1) (hw : ∀ j, W' j → W j ∨ n ≤ j) (hr : ∀ j, R' j → R j ∨ n ≤ j) (o1 : ∀ j, W1 j → j < n) (o2 : ∀ j, R1 j → j < n) : Apt W' R' W1 R1 := by
  refine ⟨fun j hj hq => ?_, fun j hj hq => ?_⟩
  · rcases hr j hj with e | e
    · exact h.1 j e hq
    · have := o1 j hq; omega
  · rcases hw j hq with e | e
    · exact h.2 j hj e
    · have := o2 j hj; omega
/-- one owner alone -/
theorem owners_one {os : List Int} {F : Int → List Ent} (hs : os.Pairwise (· < ·)) (hm : ∀ o, o ∈ os ↔ (0 ≤ o ∧ o ≤ 4294967295) ∧ F o ≠ []) {p : Int} (hp : 0 ≤ p ∧ p ≤ 4294967295) (hF : ∀ o, o ≠ p → F o = []) : os = if F p = [] then [] else [p] := by
  by_cases h : F p = []
  · rw [if_pos h]
    refine List.eq_nil_iff_forall_not_mem.2 fun o ho => ?_
    have := (hm o).1 ho
    by_cases e : o = p
    · rw [e] at this; exact this.2 h
    · exact this.2 (hF o e)
  · rw [if_neg h]
    have hall : ∀ o ∈ os, o = p := fun o ho => by
      by_cases e : o = p
      · exact e
      · exact absurd (hF o e) ((hm o).1 ho).2
    have hpm : p ∈ os := (hm p).2 ⟨hp, h⟩
    match os, hs, hall, hpm with
    | [q], _, hall, _ => rw [hall q (by simp)]
    | q :: q' :: r, hs, hall, _ =>
      have h1 := hall q (by simp)
      have h2 := hall q' (by simp)
      have h3 := (List.pairwise_cons.1 hs).1 q' (by simp)
      omega
end Go.Proofs.Ytihfkjodjaoocaa
