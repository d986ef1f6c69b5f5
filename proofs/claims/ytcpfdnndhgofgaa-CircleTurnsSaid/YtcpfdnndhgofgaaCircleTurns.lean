/- Walk of CircleTurns. -/
import Derived.Test.YtcpfdnndhgofgaaSame
import Derived.Test.YtcpfdnndhgofgaaTurnsMath
namespace Go.Proofs.Ytcpfdnndhgofgaa.circleTurns
open Go.RowKit Cir
set_option linter.unusedSimpArgs false
set_option linter.unusedVariables false

theorem turn_any (f t n : Int) (p : Addr) (w : World) (hp : w.cell? p = some (.int .u32 n)) :
    Calls Try.prog 25 #[.agg #[.int .u32 f, .int .u32 t], .pointer (some p)] w fun e w' => e = .returned (.agg #[.int .u32 (trn n f), .int .u32 (trn n t)]) ∧ Below w.heap.size w w' := by
  have hlt := World.block_lt_of_cell? _ _ hp
  have a0 : ∀ o, (w.alloc o).cell? p = some (.int .u32 n) := fun o => (World.cell?_alloc_lt _ _ _ hlt).trans hp
  have a1 : ∀ o o', ((w.alloc o).alloc o').cell? p = some (.int .u32 n) := fun o o' => (World.cell?_alloc_lt _ _ _ (by simp; omega)).trans (a0 o)
  go_enter Try.func25, Try.ntmps25
  go_wp2
  refine bodyPost_ret (v := .agg #[.int .u32 (trn n f), .int .u32 (trn n t)]) (by simp [results, Try.results25, go_sem, trn]) rfl ⟨rfl, more (more (Below.refl _ _) _) _⟩

/-- a list of spans in memory, for a loop over it -/
theorem SpansAt.loop {B : Nat} {w : World} {v : Value} {l : List (Int × Int)} (h : SpansAt B w v l) :
    ∃ a g c, v = .slice a l.length c ∧ (0 < l.length → a = some ⟨g, 0, none⟩ ∧ g < w.heap.size) ∧ ∀ i, i < l.length → w.cell? ⟨g, i * 2, none⟩ = some (.int .u32 (l.getD i (0, 0)).1) ∧ w.cell? ⟨g, i * 2 + 1, none⟩ = some (.int .u32 (l.getD i (0, 0)).2) := by
  by_cases h0 : 0 < l.length
  · obtain ⟨g, c, hv, hg, hc⟩ := h.cells h0
    exact ⟨_, g, c, hv, fun _ => ⟨rfl, hg⟩, hc⟩
  · obtain ⟨a, c, hv⟩ := h.form
    exact ⟨a, 0, c, hv, fun h => absurd h h0, fun i hi => absurd hi (by omega)⟩

theorem kept5 {W a b : World} {p0 p1 p2 p3 p4 : Addr} {x0 x1 x2 x3 x4 : Value} (h : a.cell? p0 = some x0 ∧ a.cell? p1 = some x1 ∧ a.cell? p2 = some x2 ∧ a.cell? p3 = some x3 ∧ a.cell? p4 = some x4 ∧ Below W.heap.size W a) (k : Below a.heap.size a b) :
    b.cell? p0 = some x0 ∧ b.cell? p1 = some x1 ∧ b.cell? p2 = some x2 ∧ b.cell? p3 = some x3 ∧ b.cell? p4 = some x4 ∧ Below W.heap.size W b := ⟨kc k h.1, kc k h.2.1, kc k h.2.2.1, kc k h.2.2.2.1, kc k h.2.2.2.2.1, nest h.2.2.2.2.2 k⟩
theorem kept3 {W a b : World} {p0 p1 p4 : Addr} {x0 x1 x4 : Value} (h : a.cell? p0 = some x0 ∧ a.cell? p1 = some x1 ∧ a.cell? p4 = some x4 ∧ Below W.heap.size W a) (k : Below a.heap.size a b) :
    b.cell? p0 = some x0 ∧ b.cell? p1 = some x1 ∧ b.cell? p4 = some x4 ∧ Below W.heap.size W b := ⟨kc k h.1, kc k h.2.1, kc k h.2.2.1, nest h.2.2.2 k⟩
theorem cell_new (w : World) (x0 x1 : Value) (t : TypeId) (n : Nat) (hn : n = w.heap.size) : (w.alloc (Obj.cells #[x0, x1] t)).cell? ⟨n, 0, none⟩ = some x0 ∧ (w.alloc (Obj.cells #[x0, x1] t)).cell? ⟨n, 1, none⟩ = some x1 := by
  subst hn
  constructor <;> simp
theorem cell_new1 (w : World) (x0 : Value) (t : TypeId) (n : Nat) (hn : n = w.heap.size) : (w.alloc (Obj.cells #[x0] t)).cell? ⟨n, 0, none⟩ = some x0 := by
  subst hn
  simp

set_option maxHeartbeats 4000000 in
theorem walk (f t : Int) (bf : 0 ≤ f ∧ f ≤ 4294967295) (bt : 0 ≤ t ∧ t ≤ 4294967295) (g u : Int) (bg : 0 ≤ g ∧ g ≤ 4294967295) (bu : 0 ≤ u ∧ u ≤ 4294967295) (n : Int) (bn : 0 ≤ n ∧ n ≤ 4294967295) (w : World) :
    Calls Try.prog 5 #[.agg #[.int .u32 f, .int .u32 t], .agg #[.int .u32 g, .int .u32 u], .int .u32 n] w fun e w' => e = .returned (.bool true) ∧ Below w.heap.size w w' := by
  go_enter Try.func5, Try.ntmps5
  go_wp2_with fail
  generalize hW : ((w.alloc (Obj.cells #[Value.int IntKind.u32 f, Value.int IntKind.u32 t] 24)).alloc (Obj.cells #[Value.int IntKind.u32 g, Value.int IntKind.u32 u] 24)).alloc (Obj.cells #[Value.int IntKind.u32 n] 22) = W
  have hb0 : Below w.heap.size w W := hW ▸ more (more (more (Below.refl _ _) _) _) _
  have hc0 : W.cell? ⟨w.heap.size, 0, none⟩ = some (.int .u32 f) := by rw [← hW]; exact (World.cell?_alloc_lt _ _ _ (by simp <;> omega)).trans ((World.cell?_alloc_lt _ _ _ (by simp)).trans (cell_new _ _ _ _ _ (by simp)).1)
  have hc1 : W.cell? ⟨w.heap.size, 1, none⟩ = some (.int .u32 t) := by rw [← hW]; exact (World.cell?_alloc_lt _ _ _ (by simp <;> omega)).trans ((World.cell?_alloc_lt _ _ _ (by simp)).trans (cell_new _ _ _ _ _ (by simp)).2)
  have hc2 : W.cell? ⟨w.heap.size + 1, 0, none⟩ = some (.int .u32 g) := by rw [← hW]; exact (World.cell?_alloc_lt _ _ _ (by simp)).trans (cell_new _ _ _ _ _ (by simp)).1
  have hc3 : W.cell? ⟨w.heap.size + 1, 1, none⟩ = some (.int .u32 u) := by rw [← hW]; exact (World.cell?_alloc_lt _ _ _ (by simp)).trans (cell_new _ _ _ _ _ (by simp)).2
  have hc4 : W.cell? ⟨w.heap.size + 1 + 1, 0, none⟩ = some (.int .u32 n) := by rw [← hW]; exact cell_new1 _ _ _ _ (by simp)
  clear hW
  refine Run.region_walk (S := fun z => z.cell? ⟨w.heap.size, 0, none⟩ = some (.int .u32 f) ∧ z.cell? ⟨w.heap.size, 1, none⟩ = some (.int .u32 t) ∧ z.cell? ⟨w.heap.size + 1, 0, none⟩ = some (.int .u32 g) ∧ z.cell? ⟨w.heap.size + 1, 1, none⟩ = some (.int .u32 u) ∧ z.cell? ⟨w.heap.size + 1 + 1, 0, none⟩ = some (.int .u32 n) ∧ Below W.heap.size W z)
    rows2 plan2 (l := ?steps17) (by kernel_rfl) (by kernel_rfl) (by kernel_rfl) (by kernel_rfl) ?written17 ⟨hc0, hc1, hc2, hc3, hc4, (Below.refl _ _).drew⟩ ?onward17
  case written17 =>
    simp only [plan2, Run.stepsOf, Run.stepOf, Run.guardOf, List.getElem?_toArray, List.getElem?_cons_zero, List.getElem?_cons_succ, Option.map_some, Option.map_none, Option.bind_some, Option.toList_some, List.map_cons, List.map_nil, List.cons_append, List.nil_append]
    rfl
  repeat ((first
    | (refine Run.takes (v := ?_) ?_ ?_; rotate_left; (· intro w' hS'; go_simp; (try with_reducible rfl)))
    | (refine Run.takesG (v := ?_) ?_ ?_ ?_; rotate_left; (· simp only [List.getElem?_cons_zero, List.getElem?_cons_succ]); (· intro w' hS'; go_simp; (try with_reducible rfl)))
    | (refine Run.skipsT ?_ ?_; (· simp only [List.getElem?_cons_zero, List.getElem?_cons_succ]))
    | (refine Run.skipsF ?_ ?_; (· simp only [List.getElem?_cons_zero, List.getElem?_cons_succ]))
    | (refine Run.skipsU ?_ ?_; (· simp only [List.getElem?_cons_zero, List.getElem?_cons_succ]))
    | (refine Run.passT ?_ ?_; (· simp only [List.getElem?_cons_zero, List.getElem?_cons_succ]))
    | (refine Run.passF ?_ ?_; (· simp only [List.getElem?_cons_zero, List.getElem?_cons_succ]))
    | (refine Run.passU ?_ ?_; (· simp only [List.getElem?_cons_zero, List.getElem?_cons_succ]))
    | fail); simp only [Act.put, List.setIfInBounds_toArray, List.set_cons_zero, List.set_cons_succ])
  refine Run.runs (Run.callF 21 (by kernel_rfl) (fun hS => meet_any f t g u _) rfl ?_)
  rintro hS0 e z1 ⟨v1, rfl, ho1, hz1⟩
  refine ⟨_, rfl, kept5 hS0 hz1, ?_⟩
  simp only [Act.put, List.setIfInBounds_toArray, List.set_cons_zero, List.set_cons_succ]
  refine Run.runs (Run.one (fun hS K hK => ?_))
  go_simp
  refine (turn_any f t n _ _ hS.2.2.2.2.1).mono ?_
  rintro e z2 ⟨rfl, hz2⟩
  refine hK.out _ _ (kept5 hS hz2) ?_
  clear hK K hS
  refine Run.runs (Run.one (fun hS K hK => ?_))
  go_simp
  refine (turn_any g u n _ _ hS.2.2.2.2.1).mono ?_
  rintro e z3 ⟨rfl, hz3⟩
  refine hK.out _ _ (kept5 hS hz3) ?_
  clear hK K hS
  refine Run.runs (Run.callF 21 (by kernel_rfl) (fun hS => meet_any (trn n f) (trn n t) (trn n g) (trn n u) _) rfl ?_)
  rintro hS e z4 ⟨v2, rfl, ho2, hz4⟩
  have hS2 := kept5 hS hz4
  refine ⟨_, rfl, hS2, ?_⟩
  simp only [Act.put, List.setIfInBounds_toArray, List.set_cons_zero, List.set_cons_succ]
  repeat ((first
    | (refine Run.takes (v := ?_) ?_ ?_; rotate_left; (· intro w' hS'; go_simp; (try with_reducible rfl)))
    | (refine Run.takesG (v := ?_) ?_ ?_ ?_; rotate_left; (· simp only [List.getElem?_cons_zero, List.getElem?_cons_succ]); (· intro w' hS'; go_simp; (try with_reducible rfl)))
    | (refine Run.skipsT ?_ ?_; (· simp only [List.getElem?_cons_zero, List.getElem?_cons_succ]))
    | (refine Run.skipsF ?_ ?_; (· simp only [List.getElem?_cons_zero, List.getElem?_cons_succ]))
    | (refine Run.skipsU ?_ ?_; (· simp only [List.getElem?_cons_zero, List.getElem?_cons_succ]))
    | (refine Run.passT ?_ ?_; (· simp only [List.getElem?_cons_zero, List.getElem?_cons_succ]))
    | (refine Run.passF ?_ ?_; (· simp only [List.getElem?_cons_zero, List.getElem?_cons_succ]))
    | (refine Run.passU ?_ ?_; (· simp only [List.getElem?_cons_zero, List.getElem?_cons_succ]))
    | fail); simp only [Act.put, List.setIfInBounds_toArray, List.set_cons_zero, List.set_cons_succ])
  refine Run.ends (fun _ => ?_)
  have ho3 := ((ho1.below hz2).below hz3).below hz4
  obtain ⟨a1, g1, n1, rfl, ha1, hl1⟩ := SpansAt.loop ho3
  obtain ⟨a2, g2, n2, rfl, ha2, hl2⟩ := SpansAt.loop ho2
  rw [meet_trn n f t g u bg bu] at *
  rw [List.length_map] at *
  have hl3 : ∀ i, i < (meetL f t g u).length → z4.cell? ⟨g2, i * 2, none⟩ = some (.int .u32 (trn n ((meetL f t g u).getD i (0, 0)).1)) ∧ z4.cell? ⟨g2, i * 2 + 1, none⟩ = some (.int .u32 (trn n ((meetL f t g u).getD i (0, 0)).2)) := by
    intro i hi
    have := hl2 i hi
    have e : ((meetL f t g u).map (trnS n)).getD i (0, 0) = trnS n ((meetL f t g u).getD i (0, 0)) := by simp [List.getD, List.getElem?_map, hi]
    rw [e] at this
    exact this
  have hsym := Lib.hid (meet_sym f t g u bf bt bg bu)
  have hlm := meet_len f t g u
  generalize hgm : meetL f t g u = l1 at *
  clear hgm
  have hlen : l1.length ≤ 1000 := by omega
  generalize hN : l1.length = N at *
  have HN := Lib.hid hN
  have HL1 := Lib.hid hl1
  have HL3 := Lib.hid hl3
  have HA1 := Lib.hid ha1
  have HA2 := Lib.hid ha2
  obtain ⟨d0, d1, d2, d3, d4, hk2⟩ := hS2
  have hk : Below w.heap.size w z4 := nest hb0 hk2
  clear hl1 hl2 hl3 ha1 ha2 ho1 ho2 ho3 hz1 hz2 hz3 hz4 hS0 hS hc0 hc1 hc2 hc3 hc4 hb0 hk2 hN
  have ew1 : (far f t != far (IntKind.u32.wrap (f + n)) (IntKind.u32.wrap (t + n))) = false := by
    have : far (IntKind.u32.wrap (f + n)) (IntKind.u32.wrap (t + n)) = far f t := by rw [IntKind.wrap_u32, IntKind.wrap_u32]; exact far_trn n f t
    rw [this]; simp
  go_wp2_with fail
  refine Run.region_walk (S := fun z => z.cell? ⟨w.heap.size, 0, none⟩ = some (.int .u32 f) ∧ z.cell? ⟨w.heap.size, 1, none⟩ = some (.int .u32 t) ∧ z.cell? ⟨w.heap.size + 1, 0, none⟩ = some (.int .u32 g) ∧ z.cell? ⟨w.heap.size + 1, 1, none⟩ = some (.int .u32 u) ∧ z.cell? ⟨w.heap.size + 1 + 1, 0, none⟩ = some (.int .u32 n) ∧ Below z4.heap.size z4 z)
    rows3 plan3 (l := ?steps19) (by kernel_rfl) (by kernel_rfl) (by kernel_rfl) (by kernel_rfl) ?written19 ⟨d0, d1, d2, d3, d4, (Below.refl _ _).drew⟩ ?onward19
  case written19 =>
    simp only [plan3, Run.stepsOf, Run.stepOf, Run.guardOf, List.getElem?_toArray, List.getElem?_cons_zero, List.getElem?_cons_succ, Option.map_some, Option.map_none, Option.bind_some, Option.toList_some, List.map_cons, List.map_nil, List.cons_append, List.nil_append]
    rfl
  repeat ((first
    | (refine Run.takes (v := ?_) ?_ ?_; rotate_left; (· intro w' hS'; go_simp; (try with_reducible rfl)))
    | (refine Run.takesG (v := ?_) ?_ ?_ ?_; rotate_left; (· simp only [List.getElem?_cons_zero, List.getElem?_cons_succ]); (· intro w' hS'; go_simp; (try with_reducible rfl)))
    | (refine Run.skipsT ?_ ?_; (· simp only [List.getElem?_cons_zero, List.getElem?_cons_succ]))
    | (refine Run.skipsF ?_ ?_; (· simp only [List.getElem?_cons_zero, List.getElem?_cons_succ]))
    | (refine Run.skipsU ?_ ?_; (· simp only [List.getElem?_cons_zero, List.getElem?_cons_succ]))
    | (refine Run.passT ?_ ?_; (· simp only [List.getElem?_cons_zero, List.getElem?_cons_succ]))
    | (refine Run.passF ?_ ?_; (· simp only [List.getElem?_cons_zero, List.getElem?_cons_succ]))
    | (refine Run.passU ?_ ?_; (· simp only [List.getElem?_cons_zero, List.getElem?_cons_succ]))
    | (refine Run.runs ?_
       (first
       | (refine Run.callF 11 (by kernel_rfl) (fun hS => awake_any _) rfl ?_)
       | (refine Run.callG 11 (by kernel_rfl) ?_ (fun hS => awake_any _) rfl ?_; (· simp only [List.getElem?_cons_zero, List.getElem?_cons_succ]))
       | (refine Run.callF 16 (by kernel_rfl) (fun hS => far_any _ _ _) rfl ?_)
       | (refine Run.callG 16 (by kernel_rfl) ?_ (fun hS => far_any _ _ _) rfl ?_; (· simp only [List.getElem?_cons_zero, List.getElem?_cons_succ]))
       | fail)
       (first
       | (rintro hS e w' ⟨rfl, rfl⟩; refine ⟨_, rfl, hS, ?_⟩)
       | (rintro hS e w' ⟨rfl, hb⟩; refine ⟨_, rfl, kept5 hS hb, ?_⟩)
       | fail))
    | fail); simp only [Act.put, List.setIfInBounds_toArray, List.set_cons_zero, List.set_cons_succ])
  refine Run.ends (fun hS3 => ?_)
  clear ew1
  have hk5 := hS3.2.2.2.2.2
  clear hS3
  go_wp2_with fail
  go_loopw [10, 12] (fun s i wr => ∃ k : Nat, k ≤ N ∧ i = .int .i64 k ∧ s = .int .u64 (szs (l1.take k)) ∧ Below z4.heap.size z4 wr) (fun _ i _ => N - (intOf i).toNat)
  case atStart => exact ⟨0, Nat.zero_le _, rfl, (by simp [szs]), hk5⟩
  case round =>
    obtain ⟨k, hkl, rfl, rfl, hb⟩ := hrel
    have q2 := szs_bd (l1.take k)
    have q3 : (l1.take k).length ≤ k := List.length_take_le _ _
    by_cases hlt : k < N
    · obtain ⟨he1, hg1⟩ := HA1.out (by omega)
      obtain ⟨he2, hg2⟩ := HA2.out (by omega)
      subst he1 he2
      have c0 := (hb.cell (p := ⟨w.heap.size + 1 + 1, 0, none⟩) (World.block_lt_of_cell? _ _ d4)).trans d4
      have c1 := (hb.cell (p := ⟨g1, k * 2, none⟩) hg1).trans (HL1.out k hlt).1
      have c2 := (hb.cell (p := ⟨g1, k * 2 + 1, none⟩) hg1).trans (HL1.out k hlt).2
      have c3 := (hb.cell (p := ⟨g2, k * 2, none⟩) hg2).trans (HL3.out k hlt).1
      have c4 := (hb.cell (p := ⟨g2, k * 2 + 1, none⟩) hg2).trans (HL3.out k hlt).2
      have hst := Lib.hid (szs_take l1 k (by rw [HN.out]; exact hlt))
      generalize l1.getD k (0, 0) = s at *
      obtain ⟨p, q⟩ := s
      simp only [] at c1 c2 c3 c4
      have q4 := beh_bd p q
      go_wp2_with fail
      refine Run.region_walk (S := fun z => z.cell? ⟨w.heap.size + 1 + 1, 0, none⟩ = some (.int .u32 n) ∧ z.cell? ⟨g1, k * 2, none⟩ = some (.int .u32 p) ∧ z.cell? ⟨g1, k * 2 + 1, none⟩ = some (.int .u32 q) ∧ z.cell? ⟨g2, k * 2, none⟩ = some (.int .u32 (trn n p)) ∧ z.cell? ⟨g2, k * 2 + 1, none⟩ = some (.int .u32 (trn n q)) ∧ Below wr.heap.size wr z)
        rows8 plan8 (l := ?steps20) (by kernel_rfl) (by kernel_rfl) (by kernel_rfl) (by kernel_rfl) ?written20 ⟨c0, c1, c2, c3, c4, (Below.refl _ _).drew⟩ ?onward20
      case written20 =>
        simp only [plan8, Run.stepsOf, Run.stepOf, Run.guardOf, List.getElem?_toArray, List.getElem?_cons_zero, List.getElem?_cons_succ, Option.map_some, Option.map_none, Option.bind_some, Option.toList_some, List.map_cons, List.map_nil, List.cons_append, List.nil_append]
        rfl
      repeat ((first
        | (refine Run.takes (v := ?_) ?_ ?_; rotate_left; (· intro w' hS'; go_simp; (try with_reducible rfl)))
        | (refine Run.takesG (v := ?_) ?_ ?_ ?_; rotate_left; (· simp only [List.getElem?_cons_zero, List.getElem?_cons_succ]); (· intro w' hS'; go_simp; (try with_reducible rfl)))
        | (refine Run.skipsT ?_ ?_; (· simp only [List.getElem?_cons_zero, List.getElem?_cons_succ]))
        | (refine Run.skipsF ?_ ?_; (· simp only [List.getElem?_cons_zero, List.getElem?_cons_succ]))
        | (refine Run.skipsU ?_ ?_; (· simp only [List.getElem?_cons_zero, List.getElem?_cons_succ]))
        | (refine Run.passT ?_ ?_; (· simp only [List.getElem?_cons_zero, List.getElem?_cons_succ]))
        | (refine Run.passF ?_ ?_; (· simp only [List.getElem?_cons_zero, List.getElem?_cons_succ]))
        | (refine Run.passU ?_ ?_; (· simp only [List.getElem?_cons_zero, List.getElem?_cons_succ]))
        | fail); simp only [Act.put, List.setIfInBounds_toArray, List.set_cons_zero, List.set_cons_succ])
      refine Run.runs (Run.one (fun hS K hK => ?_))
      go_simp
      refine (turn_any p q n _ _ hS.1).mono ?_
      rintro e z5 ⟨rfl, hz5⟩
      refine hK.out _ _ (kept5 hS hz5) ?_
      clear hK K hS
      repeat ((first
        | (refine Run.takes (v := ?_) ?_ ?_; rotate_left; (· intro w' hS'; go_simp; (try with_reducible rfl)))
        | (refine Run.takesG (v := ?_) ?_ ?_ ?_; rotate_left; (· simp only [List.getElem?_cons_zero, List.getElem?_cons_succ]); (· intro w' hS'; go_simp; (try with_reducible rfl)))
        | (refine Run.skipsT ?_ ?_; (· simp only [List.getElem?_cons_zero, List.getElem?_cons_succ]))
        | (refine Run.skipsF ?_ ?_; (· simp only [List.getElem?_cons_zero, List.getElem?_cons_succ]))
        | (refine Run.skipsU ?_ ?_; (· simp only [List.getElem?_cons_zero, List.getElem?_cons_succ]))
        | (refine Run.passT ?_ ?_; (· simp only [List.getElem?_cons_zero, List.getElem?_cons_succ]))
        | (refine Run.passF ?_ ?_; (· simp only [List.getElem?_cons_zero, List.getElem?_cons_succ]))
        | (refine Run.passU ?_ ?_; (· simp only [List.getElem?_cons_zero, List.getElem?_cons_succ]))
        | fail); simp only [Act.put, List.setIfInBounds_toArray, List.set_cons_zero, List.set_cons_succ])
      refine Run.ends (fun hS6 => ?_)
      obtain ⟨f0, f1, f2, f3, f4, hk6⟩ := hS6
      clear c0 c1 c2 c3 c4
      go_wp2_with (go_at_call 14; refine (size_any _ _ _).mono ?_; rintro e w5 ⟨rfl, hk7⟩)
      go_roundw
      case rel => exact ⟨k + 1, by omega, by go_num, by rw [hst.out]; (try go_num), nest hb (nest hk6 hk7)⟩
      case measure => simp [intOf]; omega
    · have hkn : k = N := by omega
      subst hkn
      have et : szs (l1.take k) = szs l1 := by rw [List.take_of_length_le (by rw [HN.out]; exact Nat.le_refl _)]
      rw [et] at *
      have r1 := szs_bd l1
      have hlm1 : (l1.length : Int) ≤ 2 := by rw [HN.out]; omega
      clear q2 q3 hkl hlt HA1 HA2 HL1 HL3 et HN
      replace d0 := (hb.cell (p := ⟨w.heap.size, 0, none⟩) (World.block_lt_of_cell? _ _ d0)).trans d0
      replace d1 := (hb.cell (p := ⟨w.heap.size, 1, none⟩) (World.block_lt_of_cell? _ _ d1)).trans d1
      replace d2 := (hb.cell (p := ⟨w.heap.size + 1, 0, none⟩) (World.block_lt_of_cell? _ _ d2)).trans d2
      replace d3 := (hb.cell (p := ⟨w.heap.size + 1, 1, none⟩) (World.block_lt_of_cell? _ _ d3)).trans d3
      replace d4 := (hb.cell (p := ⟨w.heap.size + 1 + 1, 0, none⟩) (World.block_lt_of_cell? _ _ d4)).trans d4
      have hlm2 := meet_len g u f t
      generalize hl3e : meetL g u f t = l3 at *
      have hmm : ∀ w : World, Calls Try.prog 21 #[.agg #[.int .u32 g, .int .u32 u], .agg #[.int .u32 f, .int .u32 t]] w (CutPost w.heap.size w l3) := fun w => hl3e ▸ meet_any g u f t w
      have HMM := Lib.hid hmm
      clear hmm hl3e
      go_wp2_with (go_at_call 21; refine (HMM.out _).mono ?_; rintro e z6 ⟨v3, rfl, ho6, hz6⟩
                   obtain ⟨a3, g3, n3, rfl, ha3, hl3⟩ := SpansAt.loop ho6
                   replace d0 := kc hz6 d0
                   replace d1 := kc hz6 d1
                   replace d4 := kc hz6 d4
                   have HA3 := Lib.hid ha3
                   have HL3 := Lib.hid hl3
                   have hkz := nest hb hz6
                   clear ha3 hl3 ho6 hz6 hb d2 d3)
      go_loopw [11, 14] (fun s i wr => ∃ k : Nat, k ≤ l3.length ∧ i = .int .i64 k ∧ s = .int .u64 (szs (l3.take k)) ∧ Below z6.heap.size z6 wr) (fun _ i _ => l3.length - (intOf i).toNat)
      case atStart => exact ⟨0, Nat.zero_le _, rfl, (by simp [szs]), Below.refl _ _⟩
      case round =>
        obtain ⟨j, hjl, rfl, rfl, hb⟩ := hrel
        have q2 := szs_bd (l3.take j)
        have q3 : (l3.take j).length ≤ j := List.length_take_le _ _
        by_cases hlt : j < l3.length
        · obtain ⟨he3, hg3⟩ := HA3.out (by omega)
          subst he3
          have c1 := (hb.cell (p := ⟨g3, j * 2, none⟩) hg3).trans (HL3.out j hlt).1
          have c2 := (hb.cell (p := ⟨g3, j * 2 + 1, none⟩) hg3).trans (HL3.out j hlt).2
          have hst := Lib.hid (szs_take l3 j hlt)
          generalize l3.getD j (0, 0) = s at *
          obtain ⟨p, q⟩ := s
          simp only [] at c1 c2
          have q4 := beh_bd p q
          go_wp2_with (go_at_call 14; refine (size_any _ _ _).mono ?_; rintro e w5 ⟨rfl, hk7⟩)
          go_roundw
          case rel => exact ⟨j + 1, by omega, by go_num, by rw [hst.out]; (try go_num), nest hb hk7⟩
          case measure => simp [intOf]; omega
        · have hkn : j = l3.length := by omega
          subst hkn
          rw [List.take_length] at *
          have e9 : szs l3 = szs l1 := hsym.out.symm
          rw [e9]
          clear q2 q3 hjl hlt HA3 HL3 e9
          replace d0 := (hb.cell (p := ⟨w.heap.size, 0, none⟩) (World.block_lt_of_cell? _ _ d0)).trans d0
          replace d1 := (hb.cell (p := ⟨w.heap.size, 1, none⟩) (World.block_lt_of_cell? _ _ d1)).trans d1
          replace d4 := (hb.cell (p := ⟨w.heap.size + 1 + 1, 0, none⟩) (World.block_lt_of_cell? _ _ d4)).trans d4
          go_wp2_with fail
          have hb' := hb
          have e8 : (mid (trn n f) (trn n t) == IntKind.u32.wrap (mid f t + n)) = true := by
            rw [mid_trn, IntKind.wrap_u32]; unfold trn; simp
          refine Run.region_walk (S := fun z => z.cell? ⟨w.heap.size, 0, none⟩ = some (.int .u32 f) ∧ z.cell? ⟨w.heap.size, 1, none⟩ = some (.int .u32 t) ∧ z.cell? ⟨w.heap.size + 1 + 1, 0, none⟩ = some (.int .u32 n) ∧ Below wr.heap.size wr z)
            rows17 plan17 (l := ?steps22) (by kernel_rfl) (by kernel_rfl) (by kernel_rfl) (by kernel_rfl) ?written22 ⟨d0, d1, d4, (Below.refl _ _).drew⟩ ?onward22
          case written22 =>
            simp only [plan17, Run.stepsOf, Run.stepOf, Run.guardOf, List.getElem?_toArray, List.getElem?_cons_zero, List.getElem?_cons_succ, Option.map_some, Option.map_none, Option.bind_some, Option.toList_some, List.map_cons, List.map_nil, List.cons_append, List.nil_append]
            rfl
          repeat ((first
            | (refine Run.takes (v := ?_) ?_ ?_; rotate_left; (· intro w' hS'; go_simp; (try with_reducible rfl)))
            | (refine Run.takesG (v := ?_) ?_ ?_ ?_; rotate_left; (· simp only [List.getElem?_cons_zero, List.getElem?_cons_succ]); (· intro w' hS'; go_simp; (try with_reducible rfl)))
            | (refine Run.skipsT ?_ ?_; (· simp only [List.getElem?_cons_zero, List.getElem?_cons_succ]))
            | (refine Run.skipsF ?_ ?_; (· simp only [List.getElem?_cons_zero, List.getElem?_cons_succ]))
            | (refine Run.skipsU ?_ ?_; (· simp only [List.getElem?_cons_zero, List.getElem?_cons_succ]))
            | (refine Run.passT ?_ ?_; (· simp only [List.getElem?_cons_zero, List.getElem?_cons_succ]))
            | (refine Run.passF ?_ ?_; (· simp only [List.getElem?_cons_zero, List.getElem?_cons_succ]))
            | (refine Run.passU ?_ ?_; (· simp only [List.getElem?_cons_zero, List.getElem?_cons_succ]))
            | fail); simp only [Act.put, List.setIfInBounds_toArray, List.set_cons_zero, List.set_cons_succ])
          refine Run.runs (Run.oneG ?_ (fun hS K hK => ?_))
          · simp only [List.getElem?_cons_zero, List.getElem?_cons_succ]
          go_simp
          refine (turn_any f t n _ _ hS.2.2.1).mono ?_
          rintro e z5 ⟨rfl, hz5⟩
          refine hK.out _ _ (kept3 hS hz5) ?_
          clear hK K hS
          repeat ((first
            | (refine Run.takes (v := ?_) ?_ ?_; rotate_left; (· intro w' hS'; go_simp; (try with_reducible rfl)))
            | (refine Run.takesG (v := ?_) ?_ ?_ ?_; rotate_left; (· simp only [List.getElem?_cons_zero, List.getElem?_cons_succ]); (· intro w' hS'; go_simp; (try with_reducible rfl)))
            | (refine Run.skipsT ?_ ?_; (· simp only [List.getElem?_cons_zero, List.getElem?_cons_succ]))
            | (refine Run.skipsF ?_ ?_; (· simp only [List.getElem?_cons_zero, List.getElem?_cons_succ]))
            | (refine Run.skipsU ?_ ?_; (· simp only [List.getElem?_cons_zero, List.getElem?_cons_succ]))
            | (refine Run.passT ?_ ?_; (· simp only [List.getElem?_cons_zero, List.getElem?_cons_succ]))
            | (refine Run.passF ?_ ?_; (· simp only [List.getElem?_cons_zero, List.getElem?_cons_succ]))
            | (refine Run.passU ?_ ?_; (· simp only [List.getElem?_cons_zero, List.getElem?_cons_succ]))
            | (refine Run.runs ?_
               (first
               | (refine Run.callF 18 (by kernel_rfl) (fun hS => middle_any _ _ _) rfl ?_)
               | (refine Run.callG 18 (by kernel_rfl) ?_ (fun hS => middle_any _ _ _) rfl ?_; (· simp only [List.getElem?_cons_zero, List.getElem?_cons_succ]))
               | fail)
               (first
               | (rintro hS e w' ⟨rfl, rfl⟩; refine ⟨_, rfl, hS, ?_⟩)
               | (rintro hS e w' ⟨rfl, hb⟩; refine ⟨_, rfl, kept3 hS hb, ?_⟩)
               | fail))
            | fail); simp only [Act.put, List.setIfInBounds_toArray, List.set_cons_zero, List.set_cons_succ])
          refine Run.ends (fun hS6 => ?_)
          clear d0 d1 d4
          go_wp2_with fail
          go_ret
          exact ⟨rfl, nest hk (nest hkz (nest hb' hS6.2.2.2))⟩
end Go.Proofs.Ytcpfdnndhgofgaa.circleTurns
