/- Walk of CircleBeside. -/
import Derived.Test.YtcpfdnndhgofgaaSame
namespace Go.Proofs.Ytcpfdnndhgofgaa.circleBeside
open Go.RowKit Cir
set_option linter.unusedSimpArgs false
set_option linter.unusedVariables false
attribute [local irreducible] Go.Calls

/-- p is a steps behind f, q b steps behind p -/
structure Two (f p q a b : Int) : Prop where
  ff : 0 ≤ f ∧ f ≤ 4294967295
  ha : 1 ≤ a ∧ a ≤ 1073741824
  hb : 1 ≤ b ∧ b ≤ 1073741824
  hp : p = (f + a) % 4294967296
  hq : q = (f + a + b) % 4294967296
theorem Two.facts {f p q a b : Int} (h : Two f p q a b) : far f p = a ∧ beh f p = a ∧ beh p q = b ∧ beh f q = a + b ∧ far p f = 4294967296 - a ∧ beh p f = 4294967296 - a ∧ far f q = a + b ∧ beh q p = 4294967296 - b ∧ far f f = 0 := by
  obtain ⟨ff, ha, hb, rfl, rfl⟩ := h
  refine ⟨?_, ?_, ?_, ?_, ?_, ?_, ?_, ?_, ?_⟩ <;> (try unfold far) <;> (try unfold beh) <;> omega
theorem Two.unlike {f p q a b : Int} (h : Two f p q a b) : ¬ f = p ∧ ¬ p = q := by
  obtain ⟨ff, ha, hb, rfl, rfl⟩ := h
  constructor <;> omega
theorem m1 {f p q a b : Int} (h : Two f p q a b) : meetL f p p q = [] := by
  obtain ⟨h1, h2, h3, h4, h5, h6, h7, h8, h9⟩ := h.facts
  have hh := h.ha; have hk := h.hb
  unfold meetL
  rw [if_neg h.unlike.2, h1, h3, if_pos (by omega)]
  unfold cutL cutHi
  rw [h2, if_pos (by omega)]
theorem m2 {f p q a b : Int} (h : Two f p q a b) : meetL p q f p = [] := by
  obtain ⟨h1, h2, h3, h4, h5, h6, h7, h8, h9⟩ := h.facts
  have hh := h.ha; have hk := h.hb
  unfold meetL
  rw [if_neg h.unlike.1, h5, h2, if_pos (by omega)]
  unfold cutL cutHi
  rw [h3, if_pos (by omega)]
theorem l1 {f p q a b : Int} (h : Two f p q a b) : lessL f q f p = [(p, q)] := by
  obtain ⟨h1, h2, h3, h4, h5, h6, h7, h8, h9⟩ := h.facts
  have hh := h.ha; have hk := h.hb
  have hu : ¬ p = f := fun e => h.unlike.1 e.symm
  unfold lessL
  rw [if_neg h.unlike.1]
  unfold meetL
  rw [if_neg hu, h1, h6, if_pos (by omega)]
  unfold cutL
  have e : cutHi f q (a + (4294967296 - a)) = a + b := by unfold cutHi; rw [h4, if_pos (by omega)]
  rw [e, if_neg (by omega), h.hp, h.hq, ← Int.add_assoc]
theorem l2 {f p q a b : Int} (h : Two f p q a b) : lessL f q p q = [(f, p)] := by
  obtain ⟨h1, h2, h3, h4, h5, h6, h7, h8, h9⟩ := h.facts
  have hh := h.ha; have hk := h.hb; have hf := h.ff
  have hu : ¬ q = p := fun e => h.unlike.2 e.symm
  unfold lessL
  rw [if_neg h.unlike.2]
  unfold meetL
  rw [if_neg hu, h7, h8, if_neg (by omega), show a + b + (4294967296 - b) - 4294967296 = a from by omega]
  unfold cutL
  have e1 : cutHi f q a = a := by unfold cutHi; rw [h4, if_neg (by omega)]
  have e2 : cutHi f q 4294967296 = a + b := by unfold cutHi; rw [h4, if_pos (by omega)]
  rw [e1, e2, if_neg (by omega), if_pos (Int.le_refl _), h.hp, Int.add_zero, show f % 4294967296 = f from by omega]
  rfl
theorem m3 {f p q a b : Int} (h : Two f p q a b) : meetL f q f p = [(f, p)] := by
  obtain ⟨h1, h2, h3, h4, h5, h6, h7, h8, h9⟩ := h.facts
  have hh := h.ha; have hk := h.hb; have hf := h.ff
  unfold meetL
  rw [if_neg h.unlike.1, h9, h2, if_pos (by omega), Int.zero_add]
  unfold cutL
  have e1 : cutHi f q a = a := by unfold cutHi; rw [h4, if_neg (by omega)]
  rw [e1, if_neg (by omega), h.hp, Int.add_zero, show f % 4294967296 = f from by omega]
theorem c1 {f p q a b : Int} (h : Two f p q a b) (w : World) :
    Calls Try.prog 21 #[.agg #[.int .u32 f, .int .u32 p], .agg #[.int .u32 p, .int .u32 q]] w (CutPost w.heap.size w []) := by
  have := meet_any f p p q w
  rwa [m1 h] at this
theorem c2 {f p q a b : Int} (h : Two f p q a b) (w : World) :
    Calls Try.prog 21 #[.agg #[.int .u32 p, .int .u32 q], .agg #[.int .u32 f, .int .u32 p]] w (CutPost w.heap.size w []) := by
  have := meet_any p q f p w
  rwa [m2 h] at this
theorem c3 {f p q a b : Int} (h : Two f p q a b) (w : World) :
    Calls Try.prog 23 #[.agg #[.int .u32 f, .int .u32 q], .agg #[.int .u32 f, .int .u32 p]] w (CutPost w.heap.size w [(p, q)]) := by
  have := less_any f q f p w
  rwa [l1 h] at this
theorem c4 {f p q a b : Int} (h : Two f p q a b) (w : World) :
    Calls Try.prog 23 #[.agg #[.int .u32 f, .int .u32 q], .agg #[.int .u32 p, .int .u32 q]] w (CutPost w.heap.size w [(f, p)]) := by
  have := less_any f q p q w
  rwa [l2 h] at this
theorem c5 {f p q a b : Int} (h : Two f p q a b) (w : World) :
    Calls Try.prog 21 #[.agg #[.int .u32 f, .int .u32 q], .agg #[.int .u32 f, .int .u32 p]] w (CutPost w.heap.size w [(f, p)]) := by
  have := meet_any f q f p w
  rwa [m3 h] at this
theorem cell_new (w : World) (x0 x1 : Value) (t : TypeId) (n : Nat) (hn : n = w.heap.size) : (w.alloc (Obj.cells #[x0, x1] t)).cell? ⟨n, 0, none⟩ = some x0 ∧ (w.alloc (Obj.cells #[x0, x1] t)).cell? ⟨n, 1, none⟩ = some x1 := by
  subst hn
  constructor <;> simp
theorem kept6 {W a b : World} {p0 p1 p2 p3 p4 p5 : Addr} {x0 x1 x2 x3 x4 x5 : Value} (h : a.cell? p0 = some x0 ∧ a.cell? p1 = some x1 ∧ a.cell? p2 = some x2 ∧ a.cell? p3 = some x3 ∧ a.cell? p4 = some x4 ∧ a.cell? p5 = some x5 ∧ Below W.heap.size W a) (k : Below a.heap.size a b) :
    b.cell? p0 = some x0 ∧ b.cell? p1 = some x1 ∧ b.cell? p2 = some x2 ∧ b.cell? p3 = some x3 ∧ b.cell? p4 = some x4 ∧ b.cell? p5 = some x5 ∧ Below W.heap.size W b :=
  ⟨kc k h.1, kc k h.2.1, kc k h.2.2.1, kc k h.2.2.2.1, kc k h.2.2.2.2.1, kc k h.2.2.2.2.2.1, nest h.2.2.2.2.2.2 k⟩

set_option maxHeartbeats 4000000 in
theorem walk0 (f a b p q : Int) (w : World) (ha : 0 ≤ a ∧ a ≤ 4294967295) (hb0 : 0 ≤ b ∧ b ≤ 4294967295) (h : Two f p q (1 + a % 1073741824) (1 + b % 1073741824)) :
    Calls Try.prog 10 #[.int .u32 f, .int .u32 a, .int .u32 b] w fun e w' => e = .returned (.bool true) ∧ Below w.heap.size w w' := by
  have ff := h.ff
  have ep : (f + (1 + a % 1073741824)) % 4294967296 = p := h.hp.symm
  have eq : (p + (1 + b % 1073741824)) % 4294967296 = q := by rw [h.hp, h.hq]; omega
  go_enter Try.func10, Try.ntmps10
  go_wp2_with fail
  simp only [eq]
  generalize hW : ((w.alloc (Obj.cells #[Value.int IntKind.u32 f, Value.int IntKind.u32 p] 24)).alloc (Obj.cells #[Value.int IntKind.u32 p, Value.int IntKind.u32 q] 24)).alloc (Obj.cells #[Value.int IntKind.u32 f, Value.int IntKind.u32 q] 24) = W
  have hb0 : Below w.heap.size w W := hW ▸ more (more (more (Below.refl _ _) _) _) _
  have hc0 : W.cell? ⟨w.heap.size, 0, none⟩ = some (.int .u32 f) := by rw [← hW]; exact ((World.cell?_alloc_lt _ _ _ (by simp <;> omega)).trans ((World.cell?_alloc_lt _ _ _ (by simp <;> omega)).trans (cell_new _ _ _ _ _ (by simp)).1))
  have hc1 : W.cell? ⟨w.heap.size, 1, none⟩ = some (.int .u32 p) := by rw [← hW]; exact ((World.cell?_alloc_lt _ _ _ (by simp <;> omega)).trans ((World.cell?_alloc_lt _ _ _ (by simp <;> omega)).trans (cell_new _ _ _ _ _ (by simp)).2))
  have hc2 : W.cell? ⟨w.heap.size + 1, 0, none⟩ = some (.int .u32 p) := by rw [← hW]; exact ((World.cell?_alloc_lt _ _ _ (by simp <;> omega)).trans (cell_new _ _ _ _ _ (by simp)).1)
  have hc3 : W.cell? ⟨w.heap.size + 1, 1, none⟩ = some (.int .u32 q) := by rw [← hW]; exact ((World.cell?_alloc_lt _ _ _ (by simp <;> omega)).trans (cell_new _ _ _ _ _ (by simp)).2)
  have hc4 : W.cell? ⟨w.heap.size + 1 + 1, 0, none⟩ = some (.int .u32 f) := by rw [← hW]; exact (cell_new _ _ _ _ _ (by simp)).1
  have hc5 : W.cell? ⟨w.heap.size + 1 + 1, 1, none⟩ = some (.int .u32 q) := by rw [← hW]; exact (cell_new _ _ _ _ _ (by simp)).2
  clear hW
  refine Run.region_walk (S := fun z => z.cell? ⟨w.heap.size, 0, none⟩ = some (.int .u32 f) ∧ z.cell? ⟨w.heap.size, 1, none⟩ = some (.int .u32 p) ∧ z.cell? ⟨w.heap.size + 1, 0, none⟩ = some (.int .u32 p) ∧ z.cell? ⟨w.heap.size + 1, 1, none⟩ = some (.int .u32 q) ∧ z.cell? ⟨w.heap.size + 1 + 1, 0, none⟩ = some (.int .u32 f) ∧ z.cell? ⟨w.heap.size + 1 + 1, 1, none⟩ = some (.int .u32 q) ∧ Below W.heap.size W z)
    rows4 plan4 (l := ?steps11) (by kernel_rfl) (by kernel_rfl) (by kernel_rfl) (by kernel_rfl) ?written11 ⟨hc0, hc1, hc2, hc3, hc4, hc5, (Below.refl _ _).drew⟩ ?onward11
  case written11 =>
    simp only [plan4, Run.stepsOf, Run.stepOf, Run.guardOf, List.getElem?_toArray, List.getElem?_cons_zero, List.getElem?_cons_succ, Option.map_some, Option.map_none, Option.bind_some, Option.toList_some, List.map_cons, List.map_nil, List.cons_append, List.nil_append]
    rfl
  repeat ((first
    | (refine Run.takes (v := ?_) ?_ ?_; rotate_left; (· intro w' hS'; go_simp; (try with_reducible rfl)))
    | (refine Run.takesG (v := ?_) ?_ ?_ ?_; rotate_left; (· simp only [List.getElem?_cons_zero, List.getElem?_cons_succ]); (· intro w' hS'; go_simp; (try with_reducible rfl)))
    | (refine Run.skipsT ?_ ?_; (· simp only [List.getElem?_cons_zero, List.getElem?_cons_succ]))
    | (refine Run.skipsF ?_ ?_; (· simp only [List.getElem?_cons_zero, List.getElem?_cons_succ]))
    | (refine Run.skipsU ?_ ?_; (· simp only [List.getElem?_cons_zero, List.getElem?_cons_succ]))
    | (refine Run.passT ?_ ?_; (· simp only [List.getElem?_cons_zero, List.getElem?_cons_succ]))
    | (refine Run.passF ?_ ?_; (· simp only [List.getElem?_cons_zero, List.getElem?_cons_succ]))
    | (refine Run.passU ?_ ?_; (· simp only [List.getElem?_cons_zero, List.getElem?_cons_succ]))
    | (refine Run.runs ?_
       (first
       | (refine Run.callF 11 (by kernel_rfl) (fun hS => awake_any _) rfl ?_)
       | (refine Run.callG 11 (by kernel_rfl) ?_ (fun hS => awake_any _) rfl ?_; (· simp only [List.getElem?_cons_zero, List.getElem?_cons_succ]))
       | (refine Run.callF 21 (by kernel_rfl) (fun hS => c1 h _) rfl ?_)
       | (refine Run.callG 21 (by kernel_rfl) ?_ (fun hS => c1 h _) rfl ?_; (· simp only [List.getElem?_cons_zero, List.getElem?_cons_succ]))
       | (refine Run.callF 21 (by kernel_rfl) (fun hS => c2 h _) rfl ?_)
       | (refine Run.callG 21 (by kernel_rfl) ?_ (fun hS => c2 h _) rfl ?_; (· simp only [List.getElem?_cons_zero, List.getElem?_cons_succ]))
       | fail)
       (first
       | (rintro hS e z ⟨v', rfl, ho', hz⟩; obtain ⟨a', c', rfl⟩ := ho'.form; refine ⟨_, rfl, kept6 hS hz, ?_⟩)
       | (rintro hS e w' ⟨rfl, rfl⟩; refine ⟨_, rfl, hS, ?_⟩)
       | (rintro hS e w' ⟨rfl, hb⟩; refine ⟨_, rfl, kept6 hS hb, ?_⟩)
       | fail))
    | fail); simp only [Act.put, List.setIfInBounds_toArray, List.set_cons_zero, List.set_cons_succ])
  all_goals refine Run.both ?_ ?_
  all_goals first
    | (refine Run.callG 23 (by kernel_rfl) ?_ (fun hS => c3 h _) rfl ?_
       (· simp only [List.getElem?_cons_zero, List.getElem?_cons_succ])
       rintro hS e z ⟨v2, rfl, ho2, hz⟩
       refine ⟨_, rfl, kept6 hS hz, ?_⟩
       simp only [Act.put, List.setIfInBounds_toArray, List.set_cons_zero, List.set_cons_succ]
       refine Run.oneG ?_ (fun hS4 K hK => ?_)
       (· simp only [List.getElem?_cons_zero, List.getElem?_cons_succ])
       go_simp
       refine hK.out _ _ (kept6 hS4 (more (Below.refl _ _) (Obj.cells #[Value.int IntKind.u32 p, Value.int IntKind.u32 q] 24))) ?_
       clear hK K
       refine Run.runs (Run.callG 20 (by kernel_rfl) ?_ (fun hS => plain_yes _ 0 v2 _ [(p, q)] (by simp) _ (ho2.below (more (Below.refl _ _) _)) (SpansAt.made 0 _ _ p q (Nat.zero_le _) rfl)) rfl ?_)
       (· simp only [List.getElem?_cons_zero, List.getElem?_cons_succ]))
    | (refine Run.oneG ?_ (fun hS4 K hK => ?_)
       (· simp only [List.getElem?_cons_zero, List.getElem?_cons_succ])
       go_simp
       refine hK.out _ _ (kept6 hS4 (more (Below.refl _ _) (Obj.cells #[Value.int IntKind.u32 p, Value.int IntKind.u32 q] 24))) ?_
       clear hK K
       refine Run.callG 23 (by kernel_rfl) ?_ (fun hS => c3 h _) rfl ?_
       (· simp only [List.getElem?_cons_zero, List.getElem?_cons_succ])
       rintro hS e z ⟨v2, rfl, ho2, hz⟩
       refine ⟨_, rfl, kept6 hS hz, ?_⟩
       simp only [Act.put, List.setIfInBounds_toArray, List.set_cons_zero, List.set_cons_succ]
       refine Run.runs (Run.callG 20 (by kernel_rfl) ?_ (fun hS => plain_yes _ 0 v2 _ [(p, q)] (by simp) _ ho2 ((SpansAt.made 0 _ _ p q (Nat.zero_le _) rfl).below hz)) rfl ?_)
       (· simp only [List.getElem?_cons_zero, List.getElem?_cons_succ]))
  all_goals rintro hS e z ⟨rfl, hb⟩
  all_goals refine ⟨_, rfl, kept6 hS hb, ?_⟩
  all_goals simp only [Act.put, List.setIfInBounds_toArray, List.set_cons_zero, List.set_cons_succ]
  all_goals
    repeat ((first
      | (refine Run.takes (v := ?_) ?_ ?_; rotate_left; (· intro w' hS'; go_simp; (try with_reducible rfl)))
      | (refine Run.takesG (v := ?_) ?_ ?_ ?_; rotate_left; (· simp only [List.getElem?_cons_zero, List.getElem?_cons_succ]); (· intro w' hS'; go_simp; (try with_reducible rfl)))
      | (refine Run.skipsT ?_ ?_; (· simp only [List.getElem?_cons_zero, List.getElem?_cons_succ]))
      | (refine Run.skipsF ?_ ?_; (· simp only [List.getElem?_cons_zero, List.getElem?_cons_succ]))
      | (refine Run.skipsU ?_ ?_; (· simp only [List.getElem?_cons_zero, List.getElem?_cons_succ]))
      | (refine Run.passT ?_ ?_; (· simp only [List.getElem?_cons_zero, List.getElem?_cons_succ]))
      | (refine Run.passF ?_ ?_; (· simp only [List.getElem?_cons_zero, List.getElem?_cons_succ]))
      | (refine Run.passU ?_ ?_; (· simp only [List.getElem?_cons_zero, List.getElem?_cons_succ]))
      | (refine Run.runs ?_
         (first
         | (refine Run.callF 11 (by kernel_rfl) (fun hS => awake_any _) rfl ?_)
         | (refine Run.callG 11 (by kernel_rfl) ?_ (fun hS => awake_any _) rfl ?_; (· simp only [List.getElem?_cons_zero, List.getElem?_cons_succ]))
         | (refine Run.callF 21 (by kernel_rfl) (fun hS => c1 h _) rfl ?_)
         | (refine Run.callG 21 (by kernel_rfl) ?_ (fun hS => c1 h _) rfl ?_; (· simp only [List.getElem?_cons_zero, List.getElem?_cons_succ]))
         | (refine Run.callF 21 (by kernel_rfl) (fun hS => c2 h _) rfl ?_)
         | (refine Run.callG 21 (by kernel_rfl) ?_ (fun hS => c2 h _) rfl ?_; (· simp only [List.getElem?_cons_zero, List.getElem?_cons_succ]))
         | fail)
         (first
         | (rintro hS e z ⟨v', rfl, ho', hz⟩; obtain ⟨a', c', rfl⟩ := ho'.form; refine ⟨_, rfl, kept6 hS hz, ?_⟩)
         | (rintro hS e w' ⟨rfl, rfl⟩; refine ⟨_, rfl, hS, ?_⟩)
         | (rintro hS e w' ⟨rfl, hb⟩; refine ⟨_, rfl, kept6 hS hb, ?_⟩)
         | fail))
      | fail); simp only [Act.put, List.setIfInBounds_toArray, List.set_cons_zero, List.set_cons_succ])
  all_goals refine Run.both ?_ ?_
  all_goals first
    | (refine Run.callG 23 (by kernel_rfl) ?_ (fun hS => c4 h _) rfl ?_
       (· simp only [List.getElem?_cons_zero, List.getElem?_cons_succ])
       rintro hS e z ⟨v2, rfl, ho2, hz⟩
       refine ⟨_, rfl, kept6 hS hz, ?_⟩
       simp only [Act.put, List.setIfInBounds_toArray, List.set_cons_zero, List.set_cons_succ]
       refine Run.oneG ?_ (fun hS4 K hK => ?_)
       (· simp only [List.getElem?_cons_zero, List.getElem?_cons_succ])
       go_simp
       refine hK.out _ _ (kept6 hS4 (more (Below.refl _ _) (Obj.cells #[Value.int IntKind.u32 f, Value.int IntKind.u32 p] 24))) ?_
       clear hK K
       refine Run.runs (Run.callG 20 (by kernel_rfl) ?_ (fun hS => plain_yes _ 0 v2 _ [(f, p)] (by simp) _ (ho2.below (more (Below.refl _ _) _)) (SpansAt.made 0 _ _ f p (Nat.zero_le _) rfl)) rfl ?_)
       (· simp only [List.getElem?_cons_zero, List.getElem?_cons_succ]))
    | (refine Run.oneG ?_ (fun hS4 K hK => ?_)
       (· simp only [List.getElem?_cons_zero, List.getElem?_cons_succ])
       go_simp
       refine hK.out _ _ (kept6 hS4 (more (Below.refl _ _) (Obj.cells #[Value.int IntKind.u32 f, Value.int IntKind.u32 p] 24))) ?_
       clear hK K
       refine Run.callG 23 (by kernel_rfl) ?_ (fun hS => c4 h _) rfl ?_
       (· simp only [List.getElem?_cons_zero, List.getElem?_cons_succ])
       rintro hS e z ⟨v2, rfl, ho2, hz⟩
       refine ⟨_, rfl, kept6 hS hz, ?_⟩
       simp only [Act.put, List.setIfInBounds_toArray, List.set_cons_zero, List.set_cons_succ]
       refine Run.runs (Run.callG 20 (by kernel_rfl) ?_ (fun hS => plain_yes _ 0 v2 _ [(f, p)] (by simp) _ ho2 ((SpansAt.made 0 _ _ f p (Nat.zero_le _) rfl).below hz)) rfl ?_)
       (· simp only [List.getElem?_cons_zero, List.getElem?_cons_succ]))
  all_goals rintro hS e z ⟨rfl, hb⟩
  all_goals refine ⟨_, rfl, kept6 hS hb, ?_⟩
  all_goals simp only [Act.put, List.setIfInBounds_toArray, List.set_cons_zero, List.set_cons_succ]
  all_goals
    repeat ((first
      | (refine Run.takes (v := ?_) ?_ ?_; rotate_left; (· intro w' hS'; go_simp; (try with_reducible rfl)))
      | (refine Run.takesG (v := ?_) ?_ ?_ ?_; rotate_left; (· simp only [List.getElem?_cons_zero, List.getElem?_cons_succ]); (· intro w' hS'; go_simp; (try with_reducible rfl)))
      | (refine Run.skipsT ?_ ?_; (· simp only [List.getElem?_cons_zero, List.getElem?_cons_succ]))
      | (refine Run.skipsF ?_ ?_; (· simp only [List.getElem?_cons_zero, List.getElem?_cons_succ]))
      | (refine Run.skipsU ?_ ?_; (· simp only [List.getElem?_cons_zero, List.getElem?_cons_succ]))
      | (refine Run.passT ?_ ?_; (· simp only [List.getElem?_cons_zero, List.getElem?_cons_succ]))
      | (refine Run.passF ?_ ?_; (· simp only [List.getElem?_cons_zero, List.getElem?_cons_succ]))
      | (refine Run.passU ?_ ?_; (· simp only [List.getElem?_cons_zero, List.getElem?_cons_succ]))
      | (refine Run.runs ?_
         (first
         | (refine Run.callF 11 (by kernel_rfl) (fun hS => awake_any _) rfl ?_)
         | (refine Run.callG 11 (by kernel_rfl) ?_ (fun hS => awake_any _) rfl ?_; (· simp only [List.getElem?_cons_zero, List.getElem?_cons_succ]))
         | (refine Run.callF 21 (by kernel_rfl) (fun hS => c1 h _) rfl ?_)
         | (refine Run.callG 21 (by kernel_rfl) ?_ (fun hS => c1 h _) rfl ?_; (· simp only [List.getElem?_cons_zero, List.getElem?_cons_succ]))
         | (refine Run.callF 21 (by kernel_rfl) (fun hS => c2 h _) rfl ?_)
         | (refine Run.callG 21 (by kernel_rfl) ?_ (fun hS => c2 h _) rfl ?_; (· simp only [List.getElem?_cons_zero, List.getElem?_cons_succ]))
         | fail)
         (first
         | (rintro hS e z ⟨v', rfl, ho', hz⟩; obtain ⟨a', c', rfl⟩ := ho'.form; refine ⟨_, rfl, kept6 hS hz, ?_⟩)
         | (rintro hS e w' ⟨rfl, rfl⟩; refine ⟨_, rfl, hS, ?_⟩)
         | (rintro hS e w' ⟨rfl, hb⟩; refine ⟨_, rfl, kept6 hS hb, ?_⟩)
         | fail))
      | fail); simp only [Act.put, List.setIfInBounds_toArray, List.set_cons_zero, List.set_cons_succ])
  all_goals refine Run.both ?_ ?_
  all_goals first
    | (refine Run.callG 21 (by kernel_rfl) ?_ (fun hS => c5 h _) rfl ?_
       (· simp only [List.getElem?_cons_zero, List.getElem?_cons_succ])
       rintro hS e z ⟨v2, rfl, ho2, hz⟩
       refine ⟨_, rfl, kept6 hS hz, ?_⟩
       simp only [Act.put, List.setIfInBounds_toArray, List.set_cons_zero, List.set_cons_succ]
       refine Run.oneG ?_ (fun hS4 K hK => ?_)
       (· simp only [List.getElem?_cons_zero, List.getElem?_cons_succ])
       go_simp
       refine hK.out _ _ (kept6 hS4 (more (Below.refl _ _) (Obj.cells #[Value.int IntKind.u32 f, Value.int IntKind.u32 p] 24))) ?_
       clear hK K
       refine Run.runs (Run.callG 20 (by kernel_rfl) ?_ (fun hS => plain_yes _ 0 v2 _ [(f, p)] (by simp) _ (ho2.below (more (Below.refl _ _) _)) (SpansAt.made 0 _ _ f p (Nat.zero_le _) rfl)) rfl ?_)
       (· simp only [List.getElem?_cons_zero, List.getElem?_cons_succ]))
    | (refine Run.oneG ?_ (fun hS4 K hK => ?_)
       (· simp only [List.getElem?_cons_zero, List.getElem?_cons_succ])
       go_simp
       refine hK.out _ _ (kept6 hS4 (more (Below.refl _ _) (Obj.cells #[Value.int IntKind.u32 f, Value.int IntKind.u32 p] 24))) ?_
       clear hK K
       refine Run.callG 21 (by kernel_rfl) ?_ (fun hS => c5 h _) rfl ?_
       (· simp only [List.getElem?_cons_zero, List.getElem?_cons_succ])
       rintro hS e z ⟨v2, rfl, ho2, hz⟩
       refine ⟨_, rfl, kept6 hS hz, ?_⟩
       simp only [Act.put, List.setIfInBounds_toArray, List.set_cons_zero, List.set_cons_succ]
       refine Run.runs (Run.callG 20 (by kernel_rfl) ?_ (fun hS => plain_yes _ 0 v2 _ [(f, p)] (by simp) _ ho2 ((SpansAt.made 0 _ _ f p (Nat.zero_le _) rfl).below hz)) rfl ?_)
       (· simp only [List.getElem?_cons_zero, List.getElem?_cons_succ]))
  all_goals rintro hS e z ⟨rfl, hb⟩
  all_goals refine ⟨_, rfl, kept6 hS hb, ?_⟩
  all_goals simp only [Act.put, List.setIfInBounds_toArray, List.set_cons_zero, List.set_cons_succ]
  all_goals
    repeat ((first
      | (refine Run.takes (v := ?_) ?_ ?_; rotate_left; (· intro w' hS'; go_simp; (try with_reducible rfl)))
      | (refine Run.takesG (v := ?_) ?_ ?_ ?_; rotate_left; (· simp only [List.getElem?_cons_zero, List.getElem?_cons_succ]); (· intro w' hS'; go_simp; (try with_reducible rfl)))
      | (refine Run.skipsT ?_ ?_; (· simp only [List.getElem?_cons_zero, List.getElem?_cons_succ]))
      | (refine Run.skipsF ?_ ?_; (· simp only [List.getElem?_cons_zero, List.getElem?_cons_succ]))
      | (refine Run.skipsU ?_ ?_; (· simp only [List.getElem?_cons_zero, List.getElem?_cons_succ]))
      | (refine Run.passT ?_ ?_; (· simp only [List.getElem?_cons_zero, List.getElem?_cons_succ]))
      | (refine Run.passF ?_ ?_; (· simp only [List.getElem?_cons_zero, List.getElem?_cons_succ]))
      | (refine Run.passU ?_ ?_; (· simp only [List.getElem?_cons_zero, List.getElem?_cons_succ]))
      | (refine Run.runs ?_
         (first
         | (refine Run.callF 11 (by kernel_rfl) (fun hS => awake_any _) rfl ?_)
         | (refine Run.callG 11 (by kernel_rfl) ?_ (fun hS => awake_any _) rfl ?_; (· simp only [List.getElem?_cons_zero, List.getElem?_cons_succ]))
         | (refine Run.callF 21 (by kernel_rfl) (fun hS => c1 h _) rfl ?_)
         | (refine Run.callG 21 (by kernel_rfl) ?_ (fun hS => c1 h _) rfl ?_; (· simp only [List.getElem?_cons_zero, List.getElem?_cons_succ]))
         | (refine Run.callF 21 (by kernel_rfl) (fun hS => c2 h _) rfl ?_)
         | (refine Run.callG 21 (by kernel_rfl) ?_ (fun hS => c2 h _) rfl ?_; (· simp only [List.getElem?_cons_zero, List.getElem?_cons_succ]))
         | fail)
         (first
         | (rintro hS e z ⟨v', rfl, ho', hz⟩; obtain ⟨a', c', rfl⟩ := ho'.form; refine ⟨_, rfl, kept6 hS hz, ?_⟩)
         | (rintro hS e w' ⟨rfl, rfl⟩; refine ⟨_, rfl, hS, ?_⟩)
         | (rintro hS e w' ⟨rfl, hb⟩; refine ⟨_, rfl, kept6 hS hb, ?_⟩)
         | fail))
      | fail); simp only [Act.put, List.setIfInBounds_toArray, List.set_cons_zero, List.set_cons_succ])
  all_goals refine Run.ends (fun hS => ?_)
  all_goals go_wp2_with fail
  all_goals go_ret
  all_goals exact ⟨rfl, nest hb0 hS.2.2.2.2.2.2⟩

theorem walk (f : Int) (ff : 0 ≤ f ∧ f ≤ 4294967295) (a : Int) (ha : 0 ≤ a ∧ a ≤ 4294967295) (b : Int) (hb : 0 ≤ b ∧ b ≤ 4294967295) (w : World) :
    Calls Try.prog 10 #[.int .u32 f, .int .u32 a, .int .u32 b] w fun e w' => e = .returned (.bool true) ∧ Below w.heap.size w w' :=
  walk0 f a b _ _ w ha hb ⟨ff, by omega, by omega, rfl, rfl⟩
end Go.Proofs.Ytcpfdnndhgofgaa.circleBeside
