/- Walk of CircleWithin. -/
import Derived.Test.YtcpfdnndhgofgaaSame
namespace Go.Proofs.Ytcpfdnndhgofgaa.circleWithin
open Go.RowKit Cir
set_option linter.unusedSimpArgs false
attribute [local irreducible] Go.Calls

theorem meet_whole (f t g : Int) (w : World) :
    Calls Try.prog 21 #[.agg #[.int .u32 f, .int .u32 t], .agg #[.int .u32 g, .int .u32 g]] w (CutPost w.heap.size w [(f, t)]) := by
  have := meet_any f t g g w
  have e : meetL f t g g = [(f, t)] := by unfold meetL; rw [if_pos rfl]
  rwa [e] at this
theorem meet_self (f t : Int) (bf : 0 ≤ f ∧ f ≤ 4294967295) (bt : 0 ≤ t ∧ t ≤ 4294967295) (w : World) :
    Calls Try.prog 21 #[.agg #[.int .u32 f, .int .u32 t], .agg #[.int .u32 f, .int .u32 t]] w (CutPost w.heap.size w [(f, t)]) := by
  have := meet_any f t f t w
  have e : meetL f t f t = [(f, t)] := by
    unfold meetL
    by_cases h : f = t
    · rw [if_pos h]
    · have h1 : far f f = 0 := by unfold far; omega
      have h2 := beh_bd f t
      have h3 : (f + beh f t) % 4294967296 = t := by unfold beh; omega
      rw [if_neg h, h1, if_pos (by omega), Int.zero_add]
      unfold cutL cutHi
      rw [if_neg (by omega), if_neg (by omega), Int.add_zero, h3]
      congr 2
      omega
  rwa [e] at this
theorem less_whole (f t g : Int) (w : World) :
    Calls Try.prog 23 #[.agg #[.int .u32 f, .int .u32 t], .agg #[.int .u32 g, .int .u32 g]] w (CutPost w.heap.size w []) := by
  have := less_any f t g g w
  have e : lessL f t g g = [] := by unfold lessL; rw [if_pos rfl]
  rwa [e] at this
theorem less_self (f t : Int) (bf : 0 ≤ f ∧ f ≤ 4294967295) (bt : 0 ≤ t ∧ t ≤ 4294967295) (w : World) :
    Calls Try.prog 23 #[.agg #[.int .u32 f, .int .u32 t], .agg #[.int .u32 f, .int .u32 t]] w (CutPost w.heap.size w []) := by
  have := less_any f t f t w
  have e : lessL f t f t = [] := by
    unfold lessL
    by_cases h : f = t
    · rw [if_pos h]
    · have h1 : far f t + beh t f = 4294967296 := by unfold far beh; omega
      have h2 : beh f t = far f t := by unfold far beh; omega
      have h3 := far_bd f t
      have hf : ¬ t = f := fun e => h e.symm
      rw [if_neg h]
      unfold meetL
      rw [if_neg hf, h1, if_pos (by omega)]
      unfold cutL cutHi
      rw [h2, if_pos (by omega)]
  rwa [e] at this

theorem kept4 {W a b : World} {p0 p1 p2 p3 : Addr} {x0 x1 x2 x3 : Value} (h : a.cell? p0 = some x0 ∧ a.cell? p1 = some x1 ∧ a.cell? p2 = some x2 ∧ a.cell? p3 = some x3 ∧ Below W.heap.size W a) (k : Below a.heap.size a b) :
    b.cell? p0 = some x0 ∧ b.cell? p1 = some x1 ∧ b.cell? p2 = some x2 ∧ b.cell? p3 = some x3 ∧ Below W.heap.size W b := ⟨kc k h.1, kc k h.2.1, kc k h.2.2.1, kc k h.2.2.2.1, nest h.2.2.2.2 k⟩

set_option maxHeartbeats 2000000 in
theorem walk (f t : Int) (bf : 0 ≤ f ∧ f ≤ 4294967295) (bt : 0 ≤ t ∧ t ≤ 4294967295) (g : Int) (_bg : 0 ≤ g ∧ g ≤ 4294967295) (w : World) :
    Calls Try.prog 9 #[.agg #[.int .u32 f, .int .u32 t], .int .u32 g] w fun e w' => e = .returned (.bool true) ∧ Below w.heap.size w w' := by
  go_enter Try.func9, Try.ntmps9
  go_wp2_with (first
    | (go_at_call 21; refine (meet_whole f t g _).mono ?_; rintro e w1 ⟨v, rfl, ho, hk⟩
       have hc0 := kc hk (p := ⟨w.heap.size, 0, none⟩) (x := .int .u32 f) (by simp)
       have hc1 := kc hk (p := ⟨w.heap.size, 1, none⟩) (x := .int .u32 t) (by simp)
       have hc2 := kc hk (p := ⟨w.heap.size + 1, 0, none⟩) (x := .int .u32 g) (by simp)
       have hc3 := kc hk (p := ⟨w.heap.size + 1, 1, none⟩) (x := .int .u32 g) (by simp)
       have hk1 : Below w.heap.size w w1 := nest (more (more (Below.refl _ _) _) _) hk))
  refine Run.region_walk (S := fun z => z.cell? ⟨w.heap.size, 0, none⟩ = some (.int .u32 f) ∧ z.cell? ⟨w.heap.size, 1, none⟩ = some (.int .u32 t) ∧ z.cell? ⟨w.heap.size + 1, 0, none⟩ = some (.int .u32 g) ∧ z.cell? ⟨w.heap.size + 1, 1, none⟩ = some (.int .u32 g) ∧ Below w1.heap.size w1 z)
    rows3 plan3 (l := ?steps7) (by kernel_rfl) (by kernel_rfl) (by kernel_rfl) (by kernel_rfl) ?written7 ⟨hc0, hc1, hc2, hc3, (Below.refl _ _).drew⟩ ?onward7
  case written7 =>
    simp only [plan3, Run.stepsOf, Run.stepOf, Run.guardOf, List.getElem?_toArray, List.getElem?_cons_zero, List.getElem?_cons_succ, Option.map_some, Option.map_none, Option.bind_some, Option.toList_some, List.map_cons, List.map_nil, List.cons_append, List.nil_append]
    rfl
  repeat ((first
    | (refine Run.takes (v := ?_) ?_ ?_; rotate_left; (· intro w' hS'; go_simp; (try with_reducible rfl)))
    | (refine Run.takesG (v := ?_) ?_ ?_ ?_; rotate_left; (· simp only [List.getElem?_cons_zero, List.getElem?_cons_succ]); (· intro w' hS'; go_simp; (try with_reducible rfl)))
    | (refine Run.skipsT ?_ ?_; (· simp only [List.getElem?_cons_zero, List.getElem?_cons_succ]))
    | (refine Run.skipsF ?_ ?_; (· simp only [List.getElem?_cons_zero, List.getElem?_cons_succ]))
    | (refine Run.skipsU ?_ ?_; (· simp only [List.getElem?_cons_zero, List.getElem?_cons_succ]))
    | (refine Run.passT ?_ ?_; (· simp only [List.getElem?_cons_zero, List.getElem?_cons_succ]))
    | (refine Run.passF ?_ ?_; (· simp only [List.getElem?_cons_zero, List.getElem?_cons_succ]))
    | (refine Run.passU ?_ ?_; (· simp only [List.getElem?_cons_zero, List.getElem?_cons_succ]))
    | (refine Run.runs ?_
       (first
       | (refine Run.callF 11 (by kernel_rfl) (fun hS => awake_any _) rfl ?_)
       | (refine Run.callG 11 (by kernel_rfl) ?_ (fun hS => awake_any _) rfl ?_; (· simp only [List.getElem?_cons_zero, List.getElem?_cons_succ]))
       | (refine Run.callF 23 (by kernel_rfl) (fun hS => less_self f t bf bt _) rfl ?_)
       | (refine Run.callG 23 (by kernel_rfl) ?_ (fun hS => less_self f t bf bt _) rfl ?_; (· simp only [List.getElem?_cons_zero, List.getElem?_cons_succ]))
       | (refine Run.callF 23 (by kernel_rfl) (fun hS => less_whole f t g _) rfl ?_)
       | (refine Run.callG 23 (by kernel_rfl) ?_ (fun hS => less_whole f t g _) rfl ?_; (· simp only [List.getElem?_cons_zero, List.getElem?_cons_succ]))
       | fail)
       (first
       | (rintro hS e z ⟨v', rfl, ho', hz⟩; obtain ⟨a', c', rfl⟩ := ho'.form; refine ⟨_, rfl, kept4 hS hz, ?_⟩)
       | (rintro hS e w' ⟨rfl, rfl⟩; refine ⟨_, rfl, hS, ?_⟩)
       | (rintro hS e w' ⟨rfl, hb⟩; refine ⟨_, rfl, kept4 hS hb, ?_⟩)
       | fail))
    | fail); simp only [Act.put, List.setIfInBounds_toArray, List.set_cons_zero, List.set_cons_succ])
  refine Run.runs (Run.oneG ?_ (fun hS1 K hK => ?_))
  · simp only [List.getElem?_cons_zero, List.getElem?_cons_succ]
  go_simp
  have hS2 := kept4 hS1 (more (Below.refl _ _) (Obj.cells #[Value.int IntKind.u32 f, Value.int IntKind.u32 t] 24))
  refine hK.out _ _ hS2 ?_
  clear hK K
  refine Run.runs (Run.callG 20 (by kernel_rfl) ?_ (fun hS => plain_yes _ 0 v _ [(f, t)] (by simp) _ (ho.below hS.2.2.2.2) (SpansAt.made 0 _ _ f t (Nat.zero_le _) rfl)) rfl ?_)
  · simp only [List.getElem?_cons_zero, List.getElem?_cons_succ]
  rintro hS e z ⟨rfl, hb⟩
  refine ⟨_, rfl, kept4 hS hb, ?_⟩
  simp only [Act.put, List.setIfInBounds_toArray, List.set_cons_zero, List.set_cons_succ]
  repeat ((first
    | (refine Run.takes (v := ?_) ?_ ?_; rotate_left; (· intro w' hS'; go_simp; (try with_reducible rfl)))
    | (refine Run.takesG (v := ?_) ?_ ?_ ?_; rotate_left; (· simp only [List.getElem?_cons_zero, List.getElem?_cons_succ]); (· intro w' hS'; go_simp; (try with_reducible rfl)))
    | (refine Run.skipsT ?_ ?_; (· simp only [List.getElem?_cons_zero, List.getElem?_cons_succ]))
    | (refine Run.skipsF ?_ ?_; (· simp only [List.getElem?_cons_zero, List.getElem?_cons_succ]))
    | (refine Run.skipsU ?_ ?_; (· simp only [List.getElem?_cons_zero, List.getElem?_cons_succ]))
    | (refine Run.passT ?_ ?_; (· simp only [List.getElem?_cons_zero, List.getElem?_cons_succ]))
    | (refine Run.passF ?_ ?_; (· simp only [List.getElem?_cons_zero, List.getElem?_cons_succ]))
    | (refine Run.passU ?_ ?_; (· simp only [List.getElem?_cons_zero, List.getElem?_cons_succ]))
    | (refine Run.runs ?_
       (first
       | (refine Run.callF 11 (by kernel_rfl) (fun hS => awake_any _) rfl ?_)
       | (refine Run.callG 11 (by kernel_rfl) ?_ (fun hS => awake_any _) rfl ?_; (· simp only [List.getElem?_cons_zero, List.getElem?_cons_succ]))
       | (refine Run.callF 23 (by kernel_rfl) (fun hS => less_self f t bf bt _) rfl ?_)
       | (refine Run.callG 23 (by kernel_rfl) ?_ (fun hS => less_self f t bf bt _) rfl ?_; (· simp only [List.getElem?_cons_zero, List.getElem?_cons_succ]))
       | (refine Run.callF 23 (by kernel_rfl) (fun hS => less_whole f t g _) rfl ?_)
       | (refine Run.callG 23 (by kernel_rfl) ?_ (fun hS => less_whole f t g _) rfl ?_; (· simp only [List.getElem?_cons_zero, List.getElem?_cons_succ]))
       | fail)
       (first
       | (rintro hS e z ⟨v', rfl, ho', hz⟩; obtain ⟨a', c', rfl⟩ := ho'.form; refine ⟨_, rfl, kept4 hS hz, ?_⟩)
       | (rintro hS e w' ⟨rfl, rfl⟩; refine ⟨_, rfl, hS, ?_⟩)
       | (rintro hS e w' ⟨rfl, hb⟩; refine ⟨_, rfl, kept4 hS hb, ?_⟩)
       | fail))
    | fail); simp only [Act.put, List.setIfInBounds_toArray, List.set_cons_zero, List.set_cons_succ])
  refine Run.both ?_ ?_
  · refine Run.callG 21 (by kernel_rfl) ?_ (fun hS => meet_self f t bf bt _) rfl ?_
    · simp only [List.getElem?_cons_zero, List.getElem?_cons_succ]
    rintro hS e z ⟨v2, rfl, ho2, hz⟩
    refine ⟨_, rfl, kept4 hS hz, ?_⟩
    simp only [Act.put, List.setIfInBounds_toArray, List.set_cons_zero, List.set_cons_succ]
    refine Run.oneG ?_ (fun hS4 K hK => ?_)
    · simp only [List.getElem?_cons_zero, List.getElem?_cons_succ]
    go_simp
    refine hK.out _ _ (kept4 hS4 (more (Below.refl _ _) (Obj.cells #[Value.int IntKind.u32 f, Value.int IntKind.u32 t] 24))) ?_
    clear hK K
    refine Run.runs (Run.callG 20 (by kernel_rfl) ?_ (fun hS => plain_yes _ 0 v2 _ [(f, t)] (by simp) _ (ho2.below (more (Below.refl _ _) _)) (SpansAt.made 0 _ _ f t (Nat.zero_le _) rfl)) rfl ?_)
    · simp only [List.getElem?_cons_zero, List.getElem?_cons_succ]
    rintro hS e z ⟨rfl, hb⟩
    refine ⟨_, rfl, kept4 hS hb, ?_⟩
    simp only [Act.put, List.setIfInBounds_toArray, List.set_cons_zero, List.set_cons_succ]
    repeat ((first
      | (refine Run.takes (v := ?_) ?_ ?_; rotate_left; (· intro w' hS'; go_simp; (try with_reducible rfl)))
      | (refine Run.takesG (v := ?_) ?_ ?_ ?_; rotate_left; (· simp only [List.getElem?_cons_zero, List.getElem?_cons_succ]); (· intro w' hS'; go_simp; (try with_reducible rfl)))
      | (refine Run.skipsT ?_ ?_; (· simp only [List.getElem?_cons_zero, List.getElem?_cons_succ]))
      | (refine Run.skipsF ?_ ?_; (· simp only [List.getElem?_cons_zero, List.getElem?_cons_succ]))
      | (refine Run.skipsU ?_ ?_; (· simp only [List.getElem?_cons_zero, List.getElem?_cons_succ]))
      | (refine Run.passT ?_ ?_; (· simp only [List.getElem?_cons_zero, List.getElem?_cons_succ]))
      | (refine Run.passF ?_ ?_; (· simp only [List.getElem?_cons_zero, List.getElem?_cons_succ]))
      | (refine Run.passU ?_ ?_; (· simp only [List.getElem?_cons_zero, List.getElem?_cons_succ]))
      | (refine Run.runs ?_
         (first
         | (refine Run.callF 11 (by kernel_rfl) (fun hS => awake_any _) rfl ?_)
         | (refine Run.callG 11 (by kernel_rfl) ?_ (fun hS => awake_any _) rfl ?_; (· simp only [List.getElem?_cons_zero, List.getElem?_cons_succ]))
         | (refine Run.callF 23 (by kernel_rfl) (fun hS => less_self f t bf bt _) rfl ?_)
         | (refine Run.callG 23 (by kernel_rfl) ?_ (fun hS => less_self f t bf bt _) rfl ?_; (· simp only [List.getElem?_cons_zero, List.getElem?_cons_succ]))
         | (refine Run.callF 23 (by kernel_rfl) (fun hS => less_whole f t g _) rfl ?_)
         | (refine Run.callG 23 (by kernel_rfl) ?_ (fun hS => less_whole f t g _) rfl ?_; (· simp only [List.getElem?_cons_zero, List.getElem?_cons_succ]))
         | fail)
         (first
         | (rintro hS e z ⟨v', rfl, ho', hz⟩; obtain ⟨a', c', rfl⟩ := ho'.form; refine ⟨_, rfl, kept4 hS hz, ?_⟩)
         | (rintro hS e w' ⟨rfl, rfl⟩; refine ⟨_, rfl, hS, ?_⟩)
         | (rintro hS e w' ⟨rfl, hb⟩; refine ⟨_, rfl, kept4 hS hb, ?_⟩)
         | fail))
      | fail); simp only [Act.put, List.setIfInBounds_toArray, List.set_cons_zero, List.set_cons_succ])
    refine Run.ends (fun hS => ?_)
    go_wp2_with fail
    go_ret
    exact ⟨rfl, nest hk1 hS.2.2.2.2⟩
  · refine Run.oneG ?_ (fun hS4 K hK => ?_)
    · simp only [List.getElem?_cons_zero, List.getElem?_cons_succ]
    go_simp
    refine hK.out _ _ (kept4 hS4 (more (Below.refl _ _) (Obj.cells #[Value.int IntKind.u32 f, Value.int IntKind.u32 t] 24))) ?_
    clear hK K
    refine Run.callG 21 (by kernel_rfl) ?_ (fun hS => meet_self f t bf bt _) rfl ?_
    · simp only [List.getElem?_cons_zero, List.getElem?_cons_succ]
    rintro hS e z ⟨v2, rfl, ho2, hz⟩
    refine ⟨_, rfl, kept4 hS hz, ?_⟩
    simp only [Act.put, List.setIfInBounds_toArray, List.set_cons_zero, List.set_cons_succ]
    refine Run.runs (Run.callG 20 (by kernel_rfl) ?_ (fun hS => plain_yes _ 0 v2 _ [(f, t)] (by simp) _ ho2 ((SpansAt.made 0 _ _ f t (Nat.zero_le _) rfl).below hz)) rfl ?_)
    · simp only [List.getElem?_cons_zero, List.getElem?_cons_succ]
    rintro hS e z ⟨rfl, hb⟩
    refine ⟨_, rfl, kept4 hS hb, ?_⟩
    simp only [Act.put, List.setIfInBounds_toArray, List.set_cons_zero, List.set_cons_succ]
    repeat ((first
      | (refine Run.takes (v := ?_) ?_ ?_; rotate_left; (· intro w' hS'; go_simp; (try with_reducible rfl)))
      | (refine Run.takesG (v := ?_) ?_ ?_ ?_; rotate_left; (· simp only [List.getElem?_cons_zero, List.getElem?_cons_succ]); (· intro w' hS'; go_simp; (try with_reducible rfl)))
      | (refine Run.skipsT ?_ ?_; (· simp only [List.getElem?_cons_zero, List.getElem?_cons_succ]))
      | (refine Run.skipsF ?_ ?_; (· simp only [List.getElem?_cons_zero, List.getElem?_cons_succ]))
      | (refine Run.skipsU ?_ ?_; (· simp only [List.getElem?_cons_zero, List.getElem?_cons_succ]))
      | (refine Run.passT ?_ ?_; (· simp only [List.getElem?_cons_zero, List.getElem?_cons_succ]))
      | (refine Run.passF ?_ ?_; (· simp only [List.getElem?_cons_zero, List.getElem?_cons_succ]))
      | (refine Run.passU ?_ ?_; (· simp only [List.getElem?_cons_zero, List.getElem?_cons_succ]))
      | (refine Run.runs ?_
         (first
         | (refine Run.callF 11 (by kernel_rfl) (fun hS => awake_any _) rfl ?_)
         | (refine Run.callG 11 (by kernel_rfl) ?_ (fun hS => awake_any _) rfl ?_; (· simp only [List.getElem?_cons_zero, List.getElem?_cons_succ]))
         | (refine Run.callF 23 (by kernel_rfl) (fun hS => less_self f t bf bt _) rfl ?_)
         | (refine Run.callG 23 (by kernel_rfl) ?_ (fun hS => less_self f t bf bt _) rfl ?_; (· simp only [List.getElem?_cons_zero, List.getElem?_cons_succ]))
         | (refine Run.callF 23 (by kernel_rfl) (fun hS => less_whole f t g _) rfl ?_)
         | (refine Run.callG 23 (by kernel_rfl) ?_ (fun hS => less_whole f t g _) rfl ?_; (· simp only [List.getElem?_cons_zero, List.getElem?_cons_succ]))
         | fail)
         (first
         | (rintro hS e z ⟨v', rfl, ho', hz⟩; obtain ⟨a', c', rfl⟩ := ho'.form; refine ⟨_, rfl, kept4 hS hz, ?_⟩)
         | (rintro hS e w' ⟨rfl, rfl⟩; refine ⟨_, rfl, hS, ?_⟩)
         | (rintro hS e w' ⟨rfl, hb⟩; refine ⟨_, rfl, kept4 hS hb, ?_⟩)
         | fail))
      | fail); simp only [Act.put, List.setIfInBounds_toArray, List.set_cons_zero, List.set_cons_succ])
    refine Run.ends (fun hS => ?_)
    go_wp2_with fail
    go_ret
    exact ⟨rfl, nest hk1 hS.2.2.2.2⟩
end Go.Proofs.Ytcpfdnndhgofgaa.circleWithin
