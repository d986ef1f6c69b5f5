/- Walk of CircleMakesUp. -/
import Derived.Test.YtcpfdnndhgofgaaSame
import Derived.Test.YtcpfdnndhgofgaaMakesMath
namespace Go.Proofs.Ytcpfdnndhgofgaa.circleMakesUp
open Go.RowKit Cir
set_option linter.unusedSimpArgs false
set_option linter.unusedVariables false

theorem kept4 {W a b : World} {p0 p1 p2 p3 : Addr} {x0 x1 x2 x3 : Value} (h : a.cell? p0 = some x0 ∧ a.cell? p1 = some x1 ∧ a.cell? p2 = some x2 ∧ a.cell? p3 = some x3 ∧ Below W.heap.size W a) (k : Below a.heap.size a b) :
    b.cell? p0 = some x0 ∧ b.cell? p1 = some x1 ∧ b.cell? p2 = some x2 ∧ b.cell? p3 = some x3 ∧ Below W.heap.size W b := ⟨kc k h.1, kc k h.2.1, kc k h.2.2.1, kc k h.2.2.2.1, nest h.2.2.2.2 k⟩
theorem cell_new (w : World) (x0 x1 : Value) (t : TypeId) (n : Nat) (hn : n = w.heap.size) : (w.alloc (Obj.cells #[x0, x1] t)).cell? ⟨n, 0, none⟩ = some x0 ∧ (w.alloc (Obj.cells #[x0, x1] t)).cell? ⟨n, 1, none⟩ = some x1 := by
  subst hn
  constructor <;> simp
/-- a list of spans in memory, for a loop over it -/
theorem SpansAt.loop {B : Nat} {w : World} {v : Value} {l : List (Int × Int)} (h : SpansAt B w v l) :
    ∃ a g c, v = .slice a l.length c ∧ (0 < l.length → a = some ⟨g, 0, none⟩ ∧ g < w.heap.size) ∧ ∀ i, i < l.length → w.cell? ⟨g, i * 2, none⟩ = some (.int .u32 (l.getD i (0, 0)).1) ∧ w.cell? ⟨g, i * 2 + 1, none⟩ = some (.int .u32 (l.getD i (0, 0)).2) := by
  by_cases h0 : 0 < l.length
  · obtain ⟨g, c, hv, hg, hc⟩ := h.cells h0
    exact ⟨_, g, c, hv, fun _ => ⟨rfl, hg⟩, hc⟩
  · obtain ⟨a, c, hv⟩ := h.form
    exact ⟨a, 0, c, hv, fun h => absurd h h0, fun i hi => absurd hi (by omega)⟩

set_option maxHeartbeats 4000000 in
theorem walk (f t : Int) (bf : 0 ≤ f ∧ f ≤ 4294967295) (bt : 0 ≤ t ∧ t ≤ 4294967295) (g u : Int) (bg : 0 ≤ g ∧ g ≤ 4294967295) (bu : 0 ≤ u ∧ u ≤ 4294967295) (x : Int) (bx : 0 ≤ x ∧ x ≤ 4294967295) (w : World) :
    Calls Try.prog 4 #[.agg #[.int .u32 f, .int .u32 t], .agg #[.int .u32 g, .int .u32 u], .int .u32 x] w fun e w' => e = .returned (.bool true) ∧ Below w.heap.size w w' := by
  go_enter Try.func4, Try.ntmps4
  go_wp2_with fail
  generalize hW : (w.alloc (Obj.cells #[Value.int IntKind.u32 f, Value.int IntKind.u32 t] 24)).alloc (Obj.cells #[Value.int IntKind.u32 g, Value.int IntKind.u32 u] 24) = W
  have hb0 : Below w.heap.size w W := hW ▸ more (more (Below.refl _ _) _) _
  have hc0 : W.cell? ⟨w.heap.size, 0, none⟩ = some (.int .u32 f) := by rw [← hW]; exact ((World.cell?_alloc_lt _ _ _ (by simp)).trans (cell_new _ _ _ _ _ (by simp)).1)
  have hc1 : W.cell? ⟨w.heap.size, 1, none⟩ = some (.int .u32 t) := by rw [← hW]; exact ((World.cell?_alloc_lt _ _ _ (by simp)).trans (cell_new _ _ _ _ _ (by simp)).2)
  have hc2 : W.cell? ⟨w.heap.size + 1, 0, none⟩ = some (.int .u32 g) := by rw [← hW]; exact (cell_new _ _ _ _ _ (by simp)).1
  have hc3 : W.cell? ⟨w.heap.size + 1, 1, none⟩ = some (.int .u32 u) := by rw [← hW]; exact (cell_new _ _ _ _ _ (by simp)).2
  clear hW
  refine Run.region_walk (S := fun z => z.cell? ⟨w.heap.size, 0, none⟩ = some (.int .u32 f) ∧ z.cell? ⟨w.heap.size, 1, none⟩ = some (.int .u32 t) ∧ z.cell? ⟨w.heap.size + 1, 0, none⟩ = some (.int .u32 g) ∧ z.cell? ⟨w.heap.size + 1, 1, none⟩ = some (.int .u32 u) ∧ Below W.heap.size W z)
    rows1 plan1 (l := ?steps15) (by kernel_rfl) (by kernel_rfl) (by kernel_rfl) (by kernel_rfl) ?written15 ⟨hc0, hc1, hc2, hc3, (Below.refl _ _).drew⟩ ?onward15
  case written15 =>
    simp only [plan1, Run.stepsOf, Run.stepOf, Run.guardOf, List.getElem?_toArray, List.getElem?_cons_zero, List.getElem?_cons_succ, Option.map_some, Option.map_none, Option.bind_some, Option.toList_some, List.map_cons, List.map_nil, List.cons_append, List.nil_append]
    rfl
  repeat ((first
    | (refine Run.takes (v := ?_) ?_ ?_; rotate_left; (· intro w' hS'; go_simp; (try with_reducible rfl)))
    | (refine Run.takesG (v := ?_) ?_ ?_ ?_; rotate_left; (· simp only [List.getElem?_cons_zero, List.getElem?_cons_succ]); (· intro w' hS'; go_simp; (try with_reducible rfl)))
    | (refine Run.skipsT ?_ ?_; (· simp only [List.getElem?_cons_zero, List.getElem?_cons_succ]))
    | (refine Run.skipsF ?_ ?_; (· simp only [List.getElem?_cons_zero, List.getElem?_cons_succ]))
    | (refine Run.skipsU ?_ ?_; (· simp only [List.getElem?_cons_zero, List.getElem?_cons_succ]))
    | (refine Run.passT ?_ ?_; (· simp only [List.getElem?_cons_zero, List.getElem?_cons_succ]))
    | (refine Run.passF ?_ ?_; (· simp only [List.getElem?_cons_zero, List.getElem?_cons_succ]))
    | (refine Run.passU ?_ ?_; (· simp only [List.getElem?_cons_zero, List.getElem?_cons_succ]))
    | fail); simp only [Act.put, List.setIfInBounds_toArray, List.set_cons_zero, List.set_cons_succ])
  refine Run.runs (Run.callF 21 (by kernel_rfl) (fun hS => meet_any f t g u _) rfl ?_)
  rintro hS e z1 ⟨v1, rfl, ho1, hz1⟩
  refine ⟨_, rfl, kept4 hS hz1, ?_⟩
  simp only [Act.put, List.setIfInBounds_toArray, List.set_cons_zero, List.set_cons_succ]
  refine Run.runs (Run.callF 23 (by kernel_rfl) (fun hS => less_any f t g u _) rfl ?_)
  rintro hS1 e z2 ⟨v2, rfl, ho2, hz2⟩
  have hS2 := kept4 hS1 hz2
  refine ⟨_, rfl, hS2, ?_⟩
  simp only [Act.put, List.setIfInBounds_toArray, List.set_cons_zero, List.set_cons_succ]
  repeat ((first
    | (refine Run.takes (v := ?_) ?_ ?_; rotate_left; (· intro w' hS'; go_simp; (try with_reducible rfl)))
    | (refine Run.takesG (v := ?_) ?_ ?_ ?_; rotate_left; (· simp only [List.getElem?_cons_zero, List.getElem?_cons_succ]); (· intro w' hS'; go_simp; (try with_reducible rfl)))
    | (refine Run.skipsT ?_ ?_; (· simp only [List.getElem?_cons_zero, List.getElem?_cons_succ]))
    | (refine Run.skipsF ?_ ?_; (· simp only [List.getElem?_cons_zero, List.getElem?_cons_succ]))
    | (refine Run.skipsU ?_ ?_; (· simp only [List.getElem?_cons_zero, List.getElem?_cons_succ]))
    | (refine Run.passT ?_ ?_; (· simp only [List.getElem?_cons_zero, List.getElem?_cons_succ]))
    | (refine Run.passF ?_ ?_; (· simp only [List.getElem?_cons_zero, List.getElem?_cons_succ]))
    | (refine Run.passU ?_ ?_; (· simp only [List.getElem?_cons_zero, List.getElem?_cons_succ]))
    | fail); simp only [Act.put, List.setIfInBounds_toArray, List.set_cons_zero, List.set_cons_succ])
  refine Run.ends (fun _ => ?_)
  have ho3 := ho1.below hz2
  obtain ⟨a1, g1, n1, rfl, ha1, hl1⟩ := SpansAt.loop ho3
  obtain ⟨a2, g2, n2, rfl, ha2, hl2⟩ := SpansAt.loop ho2
  have hcm := meet_cnt f t g u x bx
  have hcl := less_cnt f t g u x bg bu bx
  have hsz := makes_szs f t g u bg bu
  have hlm := meet_len f t g u
  have hll := less_len f t g u
  generalize meetL f t g u = l1 at *
  generalize lessL f t g u = l2 at *
  obtain ⟨d0, d1, d2, d3, hk2⟩ := hS2
  have hk : Below w.heap.size w z2 := nest hb0 hk2
  clear ho1 ho2 ho3 hS hS1 hz1 hz2 hc0 hc1 hc2 hc3 hb0 hk2
  have HL1 := Lib.hid hl1
  have HL2 := Lib.hid hl2
  have HA1 := Lib.hid ha1
  have HA2 := Lib.hid ha2
  have HCM := Lib.hid hcm
  have HCL := Lib.hid hcl
  have HSZ := Lib.hid hsz
  clear hl1 hl2 ha1 ha2 hcm hcl hsz
  go_wp2_with fail
  go_loopw [9, 10, 11] (fun c s i wr => ∃ k : Nat, k ≤ l1.length ∧ i = .int .i64 k ∧ c = .int .i64 (cnt x (l1.take k)) ∧ s = .int .u64 (szs (l1.take k)) ∧ Below z2.heap.size z2 wr) (fun _ _ i _ => l1.length - (intOf i).toNat)
  case atStart => exact ⟨0, Nat.zero_le _, rfl, (by simp [cnt]), (by simp [szs]), Below.refl _ _⟩
  case round =>
    obtain ⟨k, hkl, rfl, rfl, rfl, hb⟩ := hrel
    have q1 := cnt_bd x (l1.take k)
    have q2 := szs_bd (l1.take k)
    have q3 : (l1.take k).length ≤ k := List.length_take_le _ _
    by_cases hlt : k < l1.length
    · obtain ⟨he, hgl⟩ := HA1.out (by omega)
      subst he
      have c1 := (hb.cell (p := ⟨g1, k * 2, none⟩) hgl).trans (HL1.out k hlt).1
      have c2 := (hb.cell (p := ⟨g1, k * 2 + 1, none⟩) hgl).trans (HL1.out k hlt).2
      have hct := Lib.hid (cnt_take x l1 k hlt)
      have hst := Lib.hid (szs_take l1 k hlt)
      generalize l1.getD k (0, 0) = s at *
      obtain ⟨p, q⟩ := s
      simp only [] at c1 c2
      have q4 := beh_bd p q
      by_cases hh : beh p x ≤ beh p q
      · have hd : one (hasB (p, q) x) = 1 := by unfold one hasB; simp [hh]
        have hd' := Lib.hid hd
        clear hd
        go_wp2_with (first
          | (go_at_call 12; refine (has_yes _ _ _ _ hh).mono ?_; rintro e w4 ⟨rfl, hk4⟩
             have c3 := kc hk4 c1
             have c4 := kc hk4 c2
             clear c1 c2)
          | (go_at_call 14; refine (size_any _ _ _).mono ?_; rintro e w5 ⟨rfl, hk5⟩))
        go_roundw
        case rel => exact ⟨k + 1, by omega, by go_num, by rw [hct.out, hd'.out]; (try go_num), by rw [hst.out]; (try go_num), nest (nest hb hk4) hk5⟩
        case measure => simp [intOf]; omega
      · have hd : one (hasB (p, q) x) = 0 := by unfold one hasB; simp [hh]
        have hd' := Lib.hid hd
        have hh' : beh p q < beh p x := by omega
        clear hd
        go_wp2_with (first
          | (go_at_call 12; refine (has_no _ _ _ _ hh').mono ?_; rintro e w4 ⟨rfl, hk4⟩
             have c3 := kc hk4 c1
             have c4 := kc hk4 c2
             clear c1 c2)
          | (go_at_call 14; refine (size_any _ _ _).mono ?_; rintro e w5 ⟨rfl, hk5⟩))
        go_roundw
        case rel => exact ⟨k + 1, by omega, by go_num, by rw [hct.out, hd'.out]; (try go_num), by rw [hst.out]; (try go_num), nest (nest hb hk4) hk5⟩
        case measure => simp [intOf]; omega
    · have hkn : k = l1.length := by omega
      subst hkn
      rw [List.take_length] at *
      have r1 := cnt_bd x l1
      have r2 := szs_bd l1
      clear q1 q2 q3 hkl hlt HA1 HL1
      go_wp2_with fail
      go_loopw [9, 10, 13] (fun c s i wr => ∃ k : Nat, k ≤ l2.length ∧ i = .int .i64 k ∧ c = .int .i64 (cnt x l1 + cnt x (l2.take k)) ∧ s = .int .u64 (szs l1 + szs (l2.take k)) ∧ Below z2.heap.size z2 wr) (fun _ _ i _ => l2.length - (intOf i).toNat)
      case atStart => exact ⟨0, Nat.zero_le _, rfl, (by simp [cnt]), (by simp [szs]), hb⟩
      case round =>
        obtain ⟨k, hkl, rfl, rfl, rfl, hb⟩ := hrel
        have q1 := cnt_bd x (l2.take k)
        have q2 := szs_bd (l2.take k)
        have q3 : (l2.take k).length ≤ k := List.length_take_le _ _
        by_cases hlt : k < l2.length
        · obtain ⟨he, hgl⟩ := HA2.out (by omega)
          subst he
          have c1 := (hb.cell (p := ⟨g2, k * 2, none⟩) hgl).trans (HL2.out k hlt).1
          have c2 := (hb.cell (p := ⟨g2, k * 2 + 1, none⟩) hgl).trans (HL2.out k hlt).2
          have hct := Lib.hid (cnt_take x l2 k hlt)
          have hst := Lib.hid (szs_take l2 k hlt)
          generalize l2.getD k (0, 0) = s at *
          obtain ⟨p, q⟩ := s
          simp only [] at c1 c2
          have q4 := beh_bd p q
          by_cases hh : beh p x ≤ beh p q
          · have hd : one (hasB (p, q) x) = 1 := by unfold one hasB; simp [hh]
            have hd' := Lib.hid hd
            clear hd
            go_wp2_with (first
              | (go_at_call 12; refine (has_yes _ _ _ _ hh).mono ?_; rintro e w4 ⟨rfl, hk4⟩
                 have c3 := kc hk4 c1
                 have c4 := kc hk4 c2
                 clear c1 c2)
              | (go_at_call 14; refine (size_any _ _ _).mono ?_; rintro e w5 ⟨rfl, hk5⟩))
            go_roundw
            case rel => exact ⟨k + 1, by omega, by go_num, by rw [hct.out, hd'.out]; (try (congr 1; omega)), by rw [hst.out]; (try (congr 1; omega)), nest (nest hb hk4) hk5⟩
            case measure => simp [intOf]; omega
          · have hd : one (hasB (p, q) x) = 0 := by unfold one hasB; simp [hh]
            have hd' := Lib.hid hd
            have hh' : beh p q < beh p x := by omega
            clear hd
            go_wp2_with (first
              | (go_at_call 12; refine (has_no _ _ _ _ hh').mono ?_; rintro e w4 ⟨rfl, hk4⟩
                 have c3 := kc hk4 c1
                 have c4 := kc hk4 c2
                 clear c1 c2)
              | (go_at_call 14; refine (size_any _ _ _).mono ?_; rintro e w5 ⟨rfl, hk5⟩))
            go_roundw
            case rel => exact ⟨k + 1, by omega, by go_num, by rw [hct.out, hd'.out]; (try (congr 1; omega)), by rw [hst.out]; (try (congr 1; omega)), nest (nest hb hk4) hk5⟩
            case measure => simp [intOf]; omega
        · have hkn : k = l2.length := by omega
          subst hkn
          rw [List.take_length] at *
          clear q1 q2 q3 hkl hlt HA2 HL2
          have l1n : (l1.length : Int) ≤ 2 := by omega
          have l2n : (l2.length : Int) ≤ 2 := by omega
          replace d0 := (hb.cell (p := ⟨w.heap.size, 0, none⟩) (World.block_lt_of_cell? _ _ d0)).trans d0
          replace d1 := (hb.cell (p := ⟨w.heap.size, 1, none⟩) (World.block_lt_of_cell? _ _ d1)).trans d1
          replace d2 := (hb.cell (p := ⟨w.heap.size + 1, 0, none⟩) (World.block_lt_of_cell? _ _ d2)).trans d2
          replace d3 := (hb.cell (p := ⟨w.heap.size + 1, 1, none⟩) (World.block_lt_of_cell? _ _ d3)).trans d3
          have e3 := HSZ.out
          by_cases hA : beh f x ≤ beh f t
          · by_cases hB : beh g x ≤ beh g u
            · have e1 : cnt x l1 = 1 := by rw [HCM.out]; simp [one, hasB, hA, hB]
              have e2 : cnt x l2 = 0 := by rw [HCL.out]; simp [one, hasB, hA, hB]
              rw [e1, e2, e3]
              clear e1 e2 e3 r1 r2 HCM HCL HSZ
              have s1 := beh_bd f t
              go_wp2_with (first
              | (go_at_call 11; refine (awake_any _).mono ?_; rintro e wa ⟨rfl, hka⟩; replace d0 := kc hka d0; replace d1 := kc hka d1; replace d2 := kc hka d2; replace d3 := kc hka d3; replace hb := nest hb hka)
              | (go_at_call 14; refine (size_any _ _ _).mono ?_; rintro e wa ⟨rfl, hka⟩; replace d0 := kc hka d0; replace d1 := kc hka d1; replace d2 := kc hka d2; replace d3 := kc hka d3; replace hb := nest hb hka)
              | (go_at_call 12; (first | (refine (has_yes _ _ _ _ ?_).mono ?_; (with_reducible assumption)) | (refine (has_no _ _ _ _ ?_).mono ?_; (with_reducible assumption))); rintro e wa ⟨rfl, hka⟩; replace d0 := kc hka d0; replace d1 := kc hka d1; replace d2 := kc hka d2; replace d3 := kc hka d3; replace hb := nest hb hka))
              go_ret
              exact ⟨rfl, nest hk hb⟩
            · have e1 : cnt x l1 = 0 := by rw [HCM.out]; simp [one, hasB, hA, hB]
              have e2 : cnt x l2 = 1 := by rw [HCL.out]; simp [one, hasB, hA, hB]
              have hB' : beh g u < beh g x := by omega
              rw [e1, e2, e3]
              clear e1 e2 e3 r1 r2 HCM HCL HSZ
              have s1 := beh_bd f t
              go_wp2_with (first
              | (go_at_call 11; refine (awake_any _).mono ?_; rintro e wa ⟨rfl, hka⟩; replace d0 := kc hka d0; replace d1 := kc hka d1; replace d2 := kc hka d2; replace d3 := kc hka d3; replace hb := nest hb hka)
              | (go_at_call 14; refine (size_any _ _ _).mono ?_; rintro e wa ⟨rfl, hka⟩; replace d0 := kc hka d0; replace d1 := kc hka d1; replace d2 := kc hka d2; replace d3 := kc hka d3; replace hb := nest hb hka)
              | (go_at_call 12; (first | (refine (has_yes _ _ _ _ ?_).mono ?_; (with_reducible assumption)) | (refine (has_no _ _ _ _ ?_).mono ?_; (with_reducible assumption))); rintro e wa ⟨rfl, hka⟩; replace d0 := kc hka d0; replace d1 := kc hka d1; replace d2 := kc hka d2; replace d3 := kc hka d3; replace hb := nest hb hka))
              go_ret
              exact ⟨rfl, nest hk hb⟩
          · by_cases hB : beh g x ≤ beh g u
            · have e1 : cnt x l1 = 0 := by rw [HCM.out]; simp [one, hasB, hA, hB]
              have e2 : cnt x l2 = 0 := by rw [HCL.out]; simp [one, hasB, hA, hB]
              have hA' : beh f t < beh f x := by omega
              rw [e1, e2, e3]
              clear e1 e2 e3 r1 r2 HCM HCL HSZ
              have s1 := beh_bd f t
              go_wp2_with (first
              | (go_at_call 11; refine (awake_any _).mono ?_; rintro e wa ⟨rfl, hka⟩; replace d0 := kc hka d0; replace d1 := kc hka d1; replace d2 := kc hka d2; replace d3 := kc hka d3; replace hb := nest hb hka)
              | (go_at_call 14; refine (size_any _ _ _).mono ?_; rintro e wa ⟨rfl, hka⟩; replace d0 := kc hka d0; replace d1 := kc hka d1; replace d2 := kc hka d2; replace d3 := kc hka d3; replace hb := nest hb hka)
              | (go_at_call 12; (first | (refine (has_yes _ _ _ _ ?_).mono ?_; (with_reducible assumption)) | (refine (has_no _ _ _ _ ?_).mono ?_; (with_reducible assumption))); rintro e wa ⟨rfl, hka⟩; replace d0 := kc hka d0; replace d1 := kc hka d1; replace d2 := kc hka d2; replace d3 := kc hka d3; replace hb := nest hb hka))
              go_ret
              exact ⟨rfl, nest hk hb⟩
            · have e1 : cnt x l1 = 0 := by rw [HCM.out]; simp [one, hasB, hA, hB]
              have e2 : cnt x l2 = 0 := by rw [HCL.out]; simp [one, hasB, hA, hB]
              have hA' : beh f t < beh f x := by omega
              have hB' : beh g u < beh g x := by omega
              rw [e1, e2, e3]
              clear e1 e2 e3 r1 r2 HCM HCL HSZ
              have s1 := beh_bd f t
              go_wp2_with (first
              | (go_at_call 11; refine (awake_any _).mono ?_; rintro e wa ⟨rfl, hka⟩; replace d0 := kc hka d0; replace d1 := kc hka d1; replace d2 := kc hka d2; replace d3 := kc hka d3; replace hb := nest hb hka)
              | (go_at_call 14; refine (size_any _ _ _).mono ?_; rintro e wa ⟨rfl, hka⟩; replace d0 := kc hka d0; replace d1 := kc hka d1; replace d2 := kc hka d2; replace d3 := kc hka d3; replace hb := nest hb hka)
              | (go_at_call 12; (first | (refine (has_yes _ _ _ _ ?_).mono ?_; (with_reducible assumption)) | (refine (has_no _ _ _ _ ?_).mono ?_; (with_reducible assumption))); rintro e wa ⟨rfl, hka⟩; replace d0 := kc hka d0; replace d1 := kc hka d1; replace d2 := kc hka d2; replace d3 := kc hka d3; replace hb := nest hb hka))
              go_ret
              exact ⟨rfl, nest hk hb⟩
end Go.Proofs.Ytcpfdnndhgofgaa.circleMakesUp
