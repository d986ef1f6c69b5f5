/- The document's answers for package octet (petasosref03): Text, and the reader. -/
import Derived.Test.YtejmidfkedalgaaRefOctet
import Derived.Test.YtejmidfkedalgaaOctRefPlans
import Derived.Test.YtejmidfkedalgaaRun
namespace Go.Proofs.Ytejmidfkedalgaa
open Go.RowKit Mem
set_option linter.unusedSimpArgs false
set_option linter.unusedVariables false
attribute [local irreducible] Go.Calls

theorem sz2 : szN 2 = 2 := by decide
/-- what Text writes of a text of at most 65,535 bytes -/
def txt (l : List Int) : List Int := be 2 l.length ++ l
set_option maxHeartbeats 1000000 in
theorem rtext_any (b t : Value) (l m : List Int) (w : World) (h : Rd (intE .u8) w b l) (ht : Rd (intE .u8) w t m) (hl : l.length ≤ 1000000) (hm : m.length ≤ 65535) :
    Calls Try.prog 10 #[b, t] w (PutPost w (l ++ txt m)) := by
  obtain ⟨a, c, rfl, h1, h2⟩ := ht.form
  have hcut := run_cut_to byteElem a m.length c m.length h1
  rw [cutA_zero] at hcut
  go_enter Try.func10, Try.ntmps10
  go_wp2_with fail
  refine Run.region_walk (S := fun z => Below w.heap.size w z)
    rtext.rows2 rtext.plan2 (l := ?steps1) (by kernel_rfl) (by kernel_rfl) (by kernel_rfl) (by kernel_rfl) ?written1 (Below.refl _ _).drew ?onward1
  case written1 =>
    simp only [rtext.plan2, Run.stepsOf, Run.stepOf, Run.guardOf, List.getElem?_toArray, List.getElem?_cons_zero, List.getElem?_cons_succ, Option.map_some, Option.map_none, Option.bind_some, Option.toList_some, List.map_cons, List.map_nil, List.cons_append, List.nil_append]
    rfl
  repeat ((first
    | (refine Run.takes (v := ?_) ?_ ?_; rotate_left; (· intro w' hS'; go_simp; (try with_reducible rfl)))
    | (refine Run.takesG (v := ?_) ?_ ?_ ?_; rotate_left; (· simp only [List.getElem?_cons_zero, List.getElem?_cons_succ]); (· intro w' hS'; go_simp; (try with_reducible rfl)))
    | (refine Run.skipsT ?_ ?_; (· simp only [List.getElem?_cons_zero, List.getElem?_cons_succ]))
    | (refine Run.skipsF ?_ ?_; (· simp only [List.getElem?_cons_zero, List.getElem?_cons_succ]))
    | (refine Run.skipsU ?_ ?_; (· simp only [List.getElem?_cons_zero, List.getElem?_cons_succ]))
    | (refine Run.passT ?_ ?_; (· simp only [List.getElem?_cons_zero, List.getElem?_cons_succ]))
    | (refine Run.passF ?_ ?_; (· simp only [List.getElem?_cons_zero, List.getElem?_cons_succ]))
    | (refine Run.passU ?_ ?_; (· simp only [List.getElem?_cons_zero, List.getElem?_cons_succ]))
    | fail); simp only [Act.put, List.setIfInBounds_toArray, List.set_cons_zero, List.set_cons_succ])
  have hwr : IntKind.u64.wrap (m.length : Int) = (m.length : Int) := IntWalk.u64_in _ (by omega)
  rw [hwr]
  refine Run.runs (Run.callF 12 (by kernel_rfl) (fun hS => rput_any b l m.length 2 (by omega) _ (h.keep hS) hl) rfl ?_)
  rintro hS e z1 ⟨v1, rfl, ho1, hz1⟩
  have hz2 := nest hS hz1
  refine ⟨_, rfl, hz2, ?_⟩
  simp only [Act.put, List.setIfInBounds_toArray, List.set_cons_zero, List.set_cons_succ]
  replace ho1 := ho1.mono hS.size
  rw [sz2] at ho1
  clear hS hz1
  refine Run.runs (Run.one (fun hS K hK => ?_))
  refine wp_append (m := m) (bytes := 1) byteElem Nat.zero_lt_one (.tmp 12) (.tmp 15) rfl rfl ho1 rfl (ht.keep hz2) (by simp [maxLen, be_len]; omega) (by simp [be_len]; omega) hz2.size ?_
  intro v9 y hr9 hk9 hg9 _
  have hb9 := hz2.trans hk9
  refine hK.out _ _ hb9 ?_
  clear hK K hS hk9 hg9
  repeat ((first
    | (refine Run.takes (v := ?_) ?_ ?_; rotate_left; (· intro w' hS'; go_simp; (try with_reducible rfl)))
    | (refine Run.takesG (v := ?_) ?_ ?_ ?_; rotate_left; (· simp only [List.getElem?_cons_zero, List.getElem?_cons_succ]); (· intro w' hS'; go_simp; (try with_reducible rfl)))
    | (refine Run.skipsT ?_ ?_; (· simp only [List.getElem?_cons_zero, List.getElem?_cons_succ]))
    | (refine Run.skipsF ?_ ?_; (· simp only [List.getElem?_cons_zero, List.getElem?_cons_succ]))
    | (refine Run.skipsU ?_ ?_; (· simp only [List.getElem?_cons_zero, List.getElem?_cons_succ]))
    | (refine Run.passT ?_ ?_; (· simp only [List.getElem?_cons_zero, List.getElem?_cons_succ]))
    | (refine Run.passF ?_ ?_; (· simp only [List.getElem?_cons_zero, List.getElem?_cons_succ]))
    | (refine Run.passU ?_ ?_; (· simp only [List.getElem?_cons_zero, List.getElem?_cons_succ]))
    | fail); simp only [Act.put, List.setIfInBounds_toArray, List.set_cons_zero, List.set_cons_succ])
  refine Run.ends (fun _ => ?_)
  go_wp2_with fail
  go_ret
  exact ⟨v9, rfl, by unfold txt; rw [← List.append_assoc]; exact hr9, hb9⟩
end Go.Proofs.Ytejmidfkedalgaa
