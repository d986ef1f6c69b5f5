/- Walk of petasosref01.Parts. -/
import Derived.Test.YthdcgobdcdfefaaParts
set_option maxRecDepth 4000
namespace Go.Proofs.Ythdcgobdcdfefaa
open Go.RowKit Cir
set_option linter.unusedSimpArgs false
set_option linter.unusedVariables false
namespace Cir
/-- as far as n goes -/
def hiP (n b : Int) : Int := if n < b then n else b
/-- one more part, cut at n, joined to the last one where it begins there -/
def addP (n : Int) (out : List (Int × Int)) (x : Int × Int) : List (Int × Int) :=
  if hiP n x.2 ≤ x.1 then out else
  match out.reverse with
  | [] => [(x.1, hiP n x.2)]
  | y :: r => if y.2 = x.1 then r.reverse ++ [(y.1, hiP n x.2)] else out ++ [(x.1, hiP n x.2)]
def outP (n : Int) (l : List (Int × Int)) : List (Int × Int) := l.foldl (addP n) []
theorem outP_take (n : Int) (l : List (Int × Int)) (k : Nat) (h : k < l.length) : outP n (l.take (k + 1)) = addP n (outP n (l.take k)) (l.getD k (0, 0)) := by
  unfold outP
  rw [List.take_succ_eq_append_getElem h, List.foldl_append]
  simp [h]
theorem addP_len (n : Int) (out : List (Int × Int)) (x : Int × Int) : (addP n out x).length ≤ out.length + 1 := by
  unfold addP
  split
  · omega
  · split
    · simp
    · rename_i y r h
      have : out.length = r.length + 1 := by rw [← List.length_reverse, h]; simp
      split <;> simp <;> omega
theorem outP_len (n : Int) (l : List (Int × Int)) : (outP n l).length ≤ l.length := by
  have : ∀ (l out : List (Int × Int)), (l.foldl (addP n) out).length ≤ out.length + l.length := by
    intro l
    induction l with
    | nil => intro out; simp
    | cons x l ih => intro out; have h1 := ih (addP n out x); have h2 := addP_len n out x; simp only [List.foldl_cons, List.length_cons]; omega
  simpa [outP] using this l []
end Cir

set_option maxHeartbeats 4000000 in
theorem parts_one (f t g u : Int) (bf : 0 ≤ f ∧ f ≤ 4294967295) (bt : 0 ≤ t ∧ t ≤ 4294967295) (bg : 0 ≤ g ∧ g ≤ 4294967295) (bu : 0 ≤ u ∧ u ≤ 4294967295) (hf : far f g + beh g u ≤ 4294967296) (w : World) :
    Calls Try.prog 39 #[.agg #[.int .u32 f, .int .u32 t], .agg #[.int .u32 g, .int .u32 u]] w fun e w' => ∃ v, e = .returned v ∧ PartsAt w.heap.size w' v (outP (beh f t) [(far f g, far f g + beh g u)]) ∧ Below w.heap.size w w' := by
  have b1 := far_bd f g
  have b2 := beh_bd g u
  have b3 := beh_bd f t
  have ed : IntKind.u64.wrap (IntKind.u32.wrap (g - f)) = far f g := by rw [IntKind.wrap_u32]; rw [IntWalk.u64_in _ (by omega)]; unfold far; rfl
  go_enter Try.func39, Try.ntmps39
  go_wp2_with fail
  generalize hW : (w.alloc (Obj.cells #[Value.int IntKind.u32 f, Value.int IntKind.u32 t] 46)).alloc (Obj.cells #[Value.int IntKind.u32 g, Value.int IntKind.u32 u] 46) = W
  have hb0 : Below w.heap.size w W := hW ▸ more (more (Below.refl _ _) _) _
  have hc0 : W.cell? ⟨w.heap.size, 0, none⟩ = some (.int .u32 f) := by rw [← hW]; simp
  have hc1 : W.cell? ⟨w.heap.size, 1, none⟩ = some (.int .u32 t) := by rw [← hW]; simp
  have hc2 : W.cell? ⟨w.heap.size + 1, 0, none⟩ = some (.int .u32 g) := by rw [← hW]; simp
  have hc3 : W.cell? ⟨w.heap.size + 1, 1, none⟩ = some (.int .u32 u) := by rw [← hW]; simp
  clear hW
  refine Run.region_walk (S := fun z => z.cell? ⟨w.heap.size, 0, none⟩ = some (.int .u32 f) ∧ z.cell? ⟨w.heap.size, 1, none⟩ = some (.int .u32 t) ∧ z.cell? ⟨w.heap.size + 1, 0, none⟩ = some (.int .u32 g) ∧ z.cell? ⟨w.heap.size + 1, 1, none⟩ = some (.int .u32 u) ∧ Below W.heap.size W z)
    rparts.rows1 rparts.plan1 (l := ?steps1) (by kernel_rfl) (by kernel_rfl) (by kernel_rfl) (by kernel_rfl) ?written1 ⟨hc0, hc1, hc2, hc3, (Below.refl _ _).drew⟩ ?onward1
  case written1 =>
    simp only [rparts.plan1, Run.stepsOf, Run.stepOf, Run.guardOf, List.getElem?_toArray, List.getElem?_cons_zero, List.getElem?_cons_succ, Option.map_some, Option.map_none, Option.bind_some, Option.toList_some, List.map_cons, List.map_nil, List.cons_append, List.nil_append, List.append_eq]
    rfl
  repeat ((first
    | (refine Run.takes (v := ?_) ?_ ?_; rotate_left; (· intro w' hS'; go_simp; (try with_reducible rfl)))
    | (refine Run.takesG (v := ?_) ?_ ?_ ?_; rotate_left; (· simp only [List.getElem?_cons_zero, List.getElem?_cons_succ]); (· intro w' hS'; go_simp; (try with_reducible rfl)))
    | (refine Run.skipsT ?_ ?_; (· simp only [List.getElem?_cons_zero, List.getElem?_cons_succ]))
    | (refine Run.skipsF ?_ ?_; (· simp only [List.getElem?_cons_zero, List.getElem?_cons_succ]))
    | (refine Run.skipsU ?_ ?_; (· simp only [List.getElem?_cons_zero, List.getElem?_cons_succ]))
    | (refine Run.passT ?_ ?_; (· simp only [List.getElem?_cons_zero, List.getElem?_cons_succ]))
    | (refine Run.passF ?_ ?_; (· simp only [List.getElem?_cons_zero, List.getElem?_cons_succ]))
    | (refine Run.passU ?_ ?_; (· simp only [List.getElem?_cons_zero, List.getElem?_cons_succ]))
    | (refine Run.runs ?_
       (first
       | (refine Run.callF 24 (by kernel_rfl) (fun hS => rsize_any g u bg bu _) rfl ?_)
       | (refine Run.callG 24 (by kernel_rfl) ?_ (fun hS => rsize_any g u bg bu _) rfl ?_; (· simp only [List.getElem?_cons_zero, List.getElem?_cons_succ]))
       | (refine Run.callF 24 (by kernel_rfl) (fun hS => rsize_any f t bf bt _) rfl ?_)
       | (refine Run.callG 24 (by kernel_rfl) ?_ (fun hS => rsize_any f t bf bt _) rfl ?_; (· simp only [List.getElem?_cons_zero, List.getElem?_cons_succ]))
       | fail)
       (first
       | (rintro hS e w' ⟨rfl, rfl⟩; refine ⟨_, rfl, hS, ?_⟩)
       | (rintro hS e w' ⟨rfl, hb⟩; refine ⟨_, rfl, ⟨kc hb hS.1, kc hb hS.2.1, kc hb hS.2.2.1, kc hb hS.2.2.2.1, nest hS.2.2.2.2 hb⟩, ?_⟩)
       | fail))
    | fail); simp only [Act.put, List.setIfInBounds_toArray, List.set_cons_zero, List.set_cons_succ])
  refine Run.ends (fun hS => ?_)
  clear ed
  have hk0 : Below w.heap.size w w' := nest hb0 hS.2.2.2.2
  clear hS
  go_wp2_with (at_builtin; refine append_part w' rfl (.tmp 36) (.tmp 42) rfl w'.heap.size _ [] (far f g) (far f g + beh g u) w'.heap.size rfl (PartsAt.nil _ _) (by simp) (Nat.le_refl _) rfl rfl ?_; intro v' z0 hp hgg hk1; clear hgg)
  simp only [List.nil_append] at hp
  obtain ⟨a1, g1, n1, rfl, ha1, hl1⟩ := PartsAt.loop hp
  have HA1 := Lib.hid ha1
  have HL1 := Lib.hid hl1
  generalize hll : [(far f g, far f g + beh g u)] = l0 at *
  have hlen : l0.length ≤ 2 := by rw [← hll]; simp
  have hq0 : ∀ i, i < l0.length → 0 ≤ (l0.getD i (0, 0)).1 ∧ (l0.getD i (0, 0)).1 ≤ 4294967296 ∧ 0 ≤ (l0.getD i (0, 0)).2 ∧ (l0.getD i (0, 0)).2 ≤ 4294967296 := by
    rw [← hll]
    intro i hi
    have : i = 0 := by simpa using hi
    subst this
    simp
    omega
  have HQ := Lib.hid hq0
  have HLL := Lib.hid hll
  clear hq0 ha1 hl1 hll
  generalize hne : beh f t = n at *
  have HNE := Lib.hid hne
  clear hne
  go_wp2_with fail
  go_loopw [9, 10] (fun o i wr => ∃ k : Nat, k ≤ l0.length ∧ i = .int .i64 k ∧ PartsAt z0.heap.size wr o (outP n (l0.take k)) ∧ Below z0.heap.size z0 wr) (fun _ i _ => l0.length - (intOf i).toNat)
  case atStart => exact ⟨0, Nat.zero_le _, rfl, PartsAt.nil _ _, Below.refl _ _⟩
  case round =>
    obtain ⟨k, hkl, rfl, hpo, hb⟩ := hrel
    by_cases hlt : k < l0.length
    · obtain ⟨he, hgl⟩ := HA1.out (by omega)
      subst he
      have c1 := (hb.cell (p := ⟨g1, k * 2, none⟩) hgl).trans (HL1.out k hlt).1
      have c2 := (hb.cell (p := ⟨g1, k * 2 + 1, none⟩) hgl).trans (HL1.out k hlt).2
      have hot := Lib.hid (outP_take n l0 k hlt)
      have hol := outP_len n (l0.take k)
      have htl : (l0.take k).length ≤ k := List.length_take_le _ _
      have hqq := HQ.out k hlt
      generalize l0.getD k (0, 0) = s at *
      obtain ⟨p, q⟩ := s
      simp only [] at c1 c2 hqq
      generalize hoe : outP n (l0.take k) = ol at *
      clear hoe
      have hm : (if n < q then n else q) = hiP n q := rfl
      have hmb : 0 ≤ hiP n q ∧ hiP n q ≤ 4294967296 := by unfold hiP; split <;> omega
      generalize hhi : hiP n q = m at *
      go_wp2_with fail
      refine Run.region_walk (S := fun z => z.cell? ⟨g1, k * 2, none⟩ = some (.int .u64 p) ∧ z.cell? ⟨g1, k * 2 + 1, none⟩ = some (.int .u64 q) ∧ Below wr.heap.size wr z)
        rparts.rows10 rparts.plan10 (l := ?steps2) (by kernel_rfl) (by kernel_rfl) (by kernel_rfl) (by kernel_rfl) ?written2 ⟨c1, c2, (Below.refl _ _).drew⟩ ?onward2
      case written2 =>
        simp only [rparts.plan10, Run.stepsOf, Run.stepOf, Run.guardOf, List.getElem?_toArray, List.getElem?_cons_zero, List.getElem?_cons_succ, Option.map_some, Option.map_none, Option.bind_some, Option.toList_some, List.map_cons, List.map_nil, List.cons_append, List.nil_append, List.append_eq]
        rfl
      repeat ((first
        | (refine Run.takes (v := ?_) ?_ ?_; rotate_left; (· intro w' hS'; go_simp; (try with_reducible rfl)))
        | (refine Run.takesG (v := ?_) ?_ ?_ ?_; rotate_left; (· simp only [List.getElem?_cons_zero, List.getElem?_cons_succ]); (· intro w' hS'; go_simp; (try with_reducible rfl)))
        | (refine Run.skipsT ?_ ?_; (· simp only [List.getElem?_cons_zero, List.getElem?_cons_succ]))
        | (refine Run.skipsF ?_ ?_; (· simp only [List.getElem?_cons_zero, List.getElem?_cons_succ]))
        | (refine Run.skipsU ?_ ?_; (· simp only [List.getElem?_cons_zero, List.getElem?_cons_succ]))
        | (refine Run.passT ?_ ?_; (· simp only [List.getElem?_cons_zero, List.getElem?_cons_succ]))
        | (refine Run.passF ?_ ?_; (· simp only [List.getElem?_cons_zero, List.getElem?_cons_succ]))
        | (refine Run.passU ?_ ?_; (· simp only [List.getElem?_cons_zero, List.getElem?_cons_succ]))
        | fail); simp only [Act.put, List.setIfInBounds_toArray, List.set_cons_zero, List.set_cons_succ])
      refine Run.runs (Run.one (fun hS K hK => ?_))
      go_simp
      refine hK.out _ _ ⟨kc (more (Below.refl _ _) _) hS.1, kc (more (Below.refl _ _) _) hS.2.1, more hS.2.2 _⟩ ?_
      clear hK K hS
      refine Run.runs (Run.one (fun hS K hK => ?_))
      go_simp
      have hX : Below wr.heap.size wr (wr.alloc (Obj.cells #[Value.int IntKind.u64 p, Value.int IntKind.u64 m] 70)).drew := (more (Below.refl _ _) _).drew
      refine hK.out _ _ ⟨kc hX c1, kc hX c2, hX⟩ ?_
      clear hK K hS
      refine Run.ends (fun _ => ?_)
      have x0 : (wr.alloc (Obj.cells #[Value.int IntKind.u64 p, Value.int IntKind.u64 m] 70)).drew.cell? ⟨wr.heap.size, 0, none⟩ = some (.int .u64 p) := by simp
      have x1 : (wr.alloc (Obj.cells #[Value.int IntKind.u64 p, Value.int IntKind.u64 m] 70)).drew.cell? ⟨wr.heap.size, 1, none⟩ = some (.int .u64 m) := by simp
      have hpy := hpo.below hX
      have hlt2 : wr.heap.size < (wr.alloc (Obj.cells #[Value.int IntKind.u64 p, Value.int IntKind.u64 m] 70)).drew.heap.size := by simp
      generalize (wr.alloc (Obj.cells #[Value.int IntKind.u64 p, Value.int IntKind.u64 m] 70)).drew = y at *
      clear c1 c2 hm hpo
      have hby := nest hb hX
      by_cases hskip : m ≤ p
      · have ea : addP n ol (p, q) = ol := by unfold addP; rw [hhi, if_pos hskip]
        have EA := Lib.hid ea
        clear ea hhi
        go_wp2_with fail
        go_roundw
        case rel => exact ⟨k + 1, by omega, by go_num, by rw [hot.out, EA.out]; exact hpy, hby⟩
        case measure => simp [intOf]; omega
      · rcases List.eq_nil_or_concat ol with rfl | ⟨os, s9, rfl⟩
        · obtain ⟨a9, c9, rfl⟩ := hpy.form
          have ea : addP n [] (p, q) = [(p, m)] := by unfold addP; rw [hhi, if_neg hskip]; rfl
          have EA := Lib.hid ea
          clear ea hhi
          go_wp2_with fail
          refine Run.region_walk (S := fun z => z.cell? ⟨wr.heap.size, 0, none⟩ = some (.int .u64 p) ∧ z.cell? ⟨wr.heap.size, 1, none⟩ = some (.int .u64 m))
            rparts.rows12 rparts.plan12 (l := ?steps3) (by kernel_rfl) (by kernel_rfl) (by kernel_rfl) (by kernel_rfl) ?written3 ⟨x0, x1⟩ ?onward3
          case written3 =>
            simp only [rparts.plan12, Run.stepsOf, Run.stepOf, Run.guardOf, List.getElem?_toArray, List.getElem?_cons_zero, List.getElem?_cons_succ, Option.map_some, Option.map_none, Option.bind_some, Option.toList_some, List.map_cons, List.map_nil, List.cons_append, List.nil_append, List.append_eq]
            rfl
          repeat ((first
            | (refine Run.takes (v := ?_) ?_ ?_; rotate_left; (· intro w' hS'; go_simp; (try with_reducible rfl)))
            | (refine Run.takesG (v := ?_) ?_ ?_ ?_; rotate_left; (· simp only [List.getElem?_cons_zero, List.getElem?_cons_succ]); (· intro w' hS'; go_simp; (try with_reducible rfl)))
            | (refine Run.skipsT ?_ ?_; (· simp only [List.getElem?_cons_zero, List.getElem?_cons_succ]))
            | (refine Run.skipsF ?_ ?_; (· simp only [List.getElem?_cons_zero, List.getElem?_cons_succ]))
            | (refine Run.skipsU ?_ ?_; (· simp only [List.getElem?_cons_zero, List.getElem?_cons_succ]))
            | (refine Run.passT ?_ ?_; (· simp only [List.getElem?_cons_zero, List.getElem?_cons_succ]))
            | (refine Run.passF ?_ ?_; (· simp only [List.getElem?_cons_zero, List.getElem?_cons_succ]))
            | (refine Run.passU ?_ ?_; (· simp only [List.getElem?_cons_zero, List.getElem?_cons_succ]))
            | fail); simp only [Act.put, List.setIfInBounds_toArray, List.set_cons_zero, List.set_cons_succ])
          refine Run.ends (fun _ => ?_)
          have hdy : Below y.heap.size y y.drew := (Below.refl _ _).drew
          have hp2 := hpy.below hdy
          have hby2 := nest hby hdy
          replace x0 := kc hdy x0
          replace x1 := kc hdy x1
          clear hdy
          generalize y.drew = y2 at *
          go_wp2_with (at_builtin; refine append_part y2 rfl (.tmp 91) (.tmp 93) rfl z0.heap.size _ [] p m y2.heap.size rfl hp2 (by simp) hby2.size rfl rfl ?_; intro v9 w9 hp9 hgg9 hk9; clear hgg9)
          go_roundw
          case rel => exact ⟨k + 1, by omega, by go_num, by rw [hot.out, EA.out]; exact hp9, hby2.trans hk9⟩
          case measure => simp [intOf]; omega
        · obtain ⟨x, yy⟩ := s9
          rw [List.concat_eq_append] at *
          have hlo : (os ++ [(x, yy)]).length = os.length + 1 := by simp
          obtain ⟨a9, g9, c9, rfl, ha9, hl9⟩ := hpy.loop
          obtain ⟨rfl, hg9⟩ := ha9 (by rw [hlo]; omega)
          have hle := hl9 os.length (by rw [hlo]; omega)
          have hgd : (os ++ [(x, yy)]).getD os.length (0, 0) = (x, yy) := by simp [List.getD]
          rw [hgd] at hle
          obtain ⟨y0, y1⟩ := hle
          simp only [] at y0 y1
          clear hl9 ha9
          rw [hlo] at *
          have hosl : (os.length : Int) ≤ 2 := by have h9 := hol; simp at h9; omega
          have i1 : IntKind.i64.wrap ((os.length : Int) + 1 - 1) = (os.length : Int) := by rw [Int.add_sub_cancel]; exact IntWalk.i64_in _ (by omega)
          have i3 : IntKind.i64.wrap (os.length : Int) = (os.length : Int) := IntWalk.i64_in _ (by omega)
          have i4 : (os.length : Int) < (os.length : Int) + 1 := by omega
          have i5 : (0 : Int) ≤ (os.length : Int) := by omega
          by_cases hj : yy = p
          · subst hj
            have ea : addP n (os ++ [(x, yy)]) (yy, q) = os ++ [(x, m)] := by unfold addP; rw [hhi, if_neg hskip]; simp
            have EA := Lib.hid ea
            clear ea hhi
            go_wp2_with fail
            refine Run.region_walk (S := fun z => z.cell? ⟨g9, os.length * 2 + 1, none⟩ = some (.int .u64 yy) ∧ z.cell? ⟨wr.heap.size, 0, none⟩ = some (.int .u64 yy) ∧ z.cell? ⟨wr.heap.size, 1, none⟩ = some (.int .u64 m))
              rparts.rows12 rparts.plan12 (l := ?steps4) (by kernel_rfl) (by kernel_rfl) (by kernel_rfl) (by kernel_rfl) ?written4 ⟨y1, x0, x1⟩ ?onward4
            case written4 =>
              simp only [rparts.plan12, Run.stepsOf, Run.stepOf, Run.guardOf, List.getElem?_toArray, List.getElem?_cons_zero, List.getElem?_cons_succ, Option.map_some, Option.map_none, Option.bind_some, Option.toList_some, List.map_cons, List.map_nil, List.cons_append, List.nil_append, List.append_eq]
              rfl
            repeat ((first
              | (refine Run.takes (v := ?_) ?_ ?_; rotate_left; (· intro w' hS'; go_simp; (try with_reducible rfl)))
              | (refine Run.takesG (v := ?_) ?_ ?_ ?_; rotate_left; (· simp only [List.getElem?_cons_zero, List.getElem?_cons_succ]); (· intro w' hS'; go_simp; (try with_reducible rfl)))
              | (refine Run.skipsT ?_ ?_; (· simp only [List.getElem?_cons_zero, List.getElem?_cons_succ]))
              | (refine Run.skipsF ?_ ?_; (· simp only [List.getElem?_cons_zero, List.getElem?_cons_succ]))
              | (refine Run.skipsU ?_ ?_; (· simp only [List.getElem?_cons_zero, List.getElem?_cons_succ]))
              | (refine Run.passT ?_ ?_; (· simp only [List.getElem?_cons_zero, List.getElem?_cons_succ]))
              | (refine Run.passF ?_ ?_; (· simp only [List.getElem?_cons_zero, List.getElem?_cons_succ]))
              | (refine Run.passU ?_ ?_; (· simp only [List.getElem?_cons_zero, List.getElem?_cons_succ]))
              | fail); simp only [Act.put, List.setIfInBounds_toArray, List.set_cons_zero, List.set_cons_succ])
            refine Run.ends (fun _ => ?_)
            have hdy : Below y.heap.size y y.drew := (Below.refl _ _).drew
            have hp2 := hpy.below hdy
            have hby2 := nest hby hdy
            replace x0 := kc hdy x0
            replace x1 := kc hdy x1
            replace y1 := kc hdy y1
            clear hdy
            generalize y.drew = y2 at *
            have hp3 : y2.ownsRow z0.heap.size 70 2 (.slice (some ⟨g9, 0, none⟩) (os.length + 1) c9) (os.length + 1) (flatP (os ++ [(x, yy)])) := by
              have := hp2
              unfold PartsAt at this
              rwa [show (os ++ [(x, yy)]).length = os.length + 1 by simp] at this
            have fz := World.ownsRow.frozenAt hp3 (os.length * 2 + 1)
            have hst9 := World.ownsRow.stored hp3 (os.length * 2 + 1) (.int .u64 m)
            have hgb : z0.heap.size ≤ g9 := (World.ownsRow.lt hp3 g9 rfl).1
            have hp4 : PartsAt z0.heap.size (y2.setCell ⟨g9, os.length * 2 + 1, none⟩ (.int .u64 m)) (.slice (some ⟨g9, 0, none⟩) (os.length + 1) c9) (os ++ [(x, m)]) := by
              unfold PartsAt
              have e9 : (os ++ [(x, m)]).length = os.length + 1 := by simp
              have e8 : ∀ os : List (Int × Int), (flatP (os ++ [(x, yy)])).set (os.length * 2 + 1) (Value.int IntKind.u64 m) = flatP (os ++ [(x, m)]) := by
                intro os
                rw [flatP_snoc, flatP_snoc]
                have e7 : (flatP os).length = os.length * 2 := by induction os with | nil => rfl | cons s os ih => simp only [flatP, List.flatMap_cons, List.length_append, List.length_cons, List.length_nil] at *; omega
                rw [List.set_append_right _ _ (by omega), e7]
                simp
              rw [e9, ← e8]
              exact hst9.1
            have hk9 : Below z0.heap.size z0 (y2.setCell ⟨g9, os.length * 2 + 1, none⟩ (.int .u64 m)) := hby2.setCell hgb _
            clear hp3 hst9 hp2
            go_wp2
            go_roundw
            case rel => exact ⟨k + 1, by omega, by go_num, by rw [hot.out, EA.out]; exact hp4, hk9⟩
            case measure => simp [intOf]; omega
          · have ea : addP n (os ++ [(x, yy)]) (p, q) = os ++ [(x, yy)] ++ [(p, m)] := by unfold addP; rw [hhi, if_neg hskip]; simp [hj]
            have EA := Lib.hid ea
            have hj' : (yy == p) = false := by simpa using hj
            clear ea hhi
            go_wp2_with fail
            refine Run.region_walk (S := fun z => z.cell? ⟨g9, os.length * 2 + 1, none⟩ = some (.int .u64 yy) ∧ z.cell? ⟨wr.heap.size, 0, none⟩ = some (.int .u64 p) ∧ z.cell? ⟨wr.heap.size, 1, none⟩ = some (.int .u64 m))
              rparts.rows12 rparts.plan12 (l := ?steps5) (by kernel_rfl) (by kernel_rfl) (by kernel_rfl) (by kernel_rfl) ?written5 ⟨y1, x0, x1⟩ ?onward5
            case written5 =>
              simp only [rparts.plan12, Run.stepsOf, Run.stepOf, Run.guardOf, List.getElem?_toArray, List.getElem?_cons_zero, List.getElem?_cons_succ, Option.map_some, Option.map_none, Option.bind_some, Option.toList_some, List.map_cons, List.map_nil, List.cons_append, List.nil_append, List.append_eq]
              rfl
            repeat ((first
              | (refine Run.takes (v := ?_) ?_ ?_; rotate_left; (· intro w' hS'; go_simp; (try with_reducible rfl)))
              | (refine Run.takesG (v := ?_) ?_ ?_ ?_; rotate_left; (· simp only [List.getElem?_cons_zero, List.getElem?_cons_succ]); (· intro w' hS'; go_simp; (try with_reducible rfl)))
              | (refine Run.skipsT ?_ ?_; (· simp only [List.getElem?_cons_zero, List.getElem?_cons_succ]))
              | (refine Run.skipsF ?_ ?_; (· simp only [List.getElem?_cons_zero, List.getElem?_cons_succ]))
              | (refine Run.skipsU ?_ ?_; (· simp only [List.getElem?_cons_zero, List.getElem?_cons_succ]))
              | (refine Run.passT ?_ ?_; (· simp only [List.getElem?_cons_zero, List.getElem?_cons_succ]))
              | (refine Run.passF ?_ ?_; (· simp only [List.getElem?_cons_zero, List.getElem?_cons_succ]))
              | (refine Run.passU ?_ ?_; (· simp only [List.getElem?_cons_zero, List.getElem?_cons_succ]))
              | fail); simp only [Act.put, List.setIfInBounds_toArray, List.set_cons_zero, List.set_cons_succ])
            refine Run.ends (fun _ => ?_)
            have hdy : Below y.heap.size y y.drew := (Below.refl _ _).drew
            have hp2 := hpy.below hdy
            have hby2 := nest hby hdy
            replace x0 := kc hdy x0
            replace x1 := kc hdy x1
            clear hdy y0 y1
            generalize y.drew = y2 at *
            go_wp2_with (at_builtin; refine append_part y2 rfl (.tmp 91) (.tmp 93) rfl z0.heap.size _ (os ++ [(x, yy)]) p m y2.heap.size rfl hp2 (by simp; omega) hby2.size rfl rfl ?_; intro v9 w9 hp9 hgg9 hk9; clear hgg9)
            go_roundw
            case rel => exact ⟨k + 1, by omega, by go_num, by rw [hot.out, EA.out]; exact hp9, hby2.trans hk9⟩
            case measure => simp [intOf]; omega
    · have hkn : k = l0.length := by omega
      have htk : outP n (l0.take k) = outP (beh f t) [(far f g, far f g + beh g u)] := by rw [hkn, List.take_length, ← HLL.out, HNE.out]
      rw [htk] at hpo
      have hkk : Below w.heap.size w wr := nest (nest hk0 hk1) hb
      have hpz := hpo.mono (nest hk0 hk1).size
      clear htk hkn HLL HNE HQ HA1 HL1
      go_wp2
      go_ret
      exact ⟨_, rfl, hpz, hkk⟩

set_option maxHeartbeats 4000000 in
theorem parts_two (f t g u : Int) (bf : 0 ≤ f ∧ f ≤ 4294967295) (bt : 0 ≤ t ∧ t ≤ 4294967295) (bg : 0 ≤ g ∧ g ≤ 4294967295) (bu : 0 ≤ u ∧ u ≤ 4294967295) (hf : 4294967296 < far f g + beh g u) (w : World) :
    Calls Try.prog 39 #[.agg #[.int .u32 f, .int .u32 t], .agg #[.int .u32 g, .int .u32 u]] w fun e w' => ∃ v, e = .returned v ∧ PartsAt w.heap.size w' v (outP (beh f t) [(0, far f g + beh g u - 4294967296), (far f g, 4294967296)]) ∧ Below w.heap.size w w' := by
  have b1 := far_bd f g
  have b2 := beh_bd g u
  have b3 := beh_bd f t
  have ed : IntKind.u64.wrap (IntKind.u32.wrap (g - f)) = far f g := by rw [IntKind.wrap_u32]; rw [IntWalk.u64_in _ (by omega)]; unfold far; rfl
  go_enter Try.func39, Try.ntmps39
  go_wp2_with fail
  generalize hW : (w.alloc (Obj.cells #[Value.int IntKind.u32 f, Value.int IntKind.u32 t] 46)).alloc (Obj.cells #[Value.int IntKind.u32 g, Value.int IntKind.u32 u] 46) = W
  have hb0 : Below w.heap.size w W := hW ▸ more (more (Below.refl _ _) _) _
  have hc0 : W.cell? ⟨w.heap.size, 0, none⟩ = some (.int .u32 f) := by rw [← hW]; simp
  have hc1 : W.cell? ⟨w.heap.size, 1, none⟩ = some (.int .u32 t) := by rw [← hW]; simp
  have hc2 : W.cell? ⟨w.heap.size + 1, 0, none⟩ = some (.int .u32 g) := by rw [← hW]; simp
  have hc3 : W.cell? ⟨w.heap.size + 1, 1, none⟩ = some (.int .u32 u) := by rw [← hW]; simp
  clear hW
  refine Run.region_walk (S := fun z => z.cell? ⟨w.heap.size, 0, none⟩ = some (.int .u32 f) ∧ z.cell? ⟨w.heap.size, 1, none⟩ = some (.int .u32 t) ∧ z.cell? ⟨w.heap.size + 1, 0, none⟩ = some (.int .u32 g) ∧ z.cell? ⟨w.heap.size + 1, 1, none⟩ = some (.int .u32 u) ∧ Below W.heap.size W z)
    rparts.rows1 rparts.plan1 (l := ?steps6) (by kernel_rfl) (by kernel_rfl) (by kernel_rfl) (by kernel_rfl) ?written6 ⟨hc0, hc1, hc2, hc3, (Below.refl _ _).drew⟩ ?onward6
  case written6 =>
    simp only [rparts.plan1, Run.stepsOf, Run.stepOf, Run.guardOf, List.getElem?_toArray, List.getElem?_cons_zero, List.getElem?_cons_succ, Option.map_some, Option.map_none, Option.bind_some, Option.toList_some, List.map_cons, List.map_nil, List.cons_append, List.nil_append, List.append_eq]
    rfl
  repeat ((first
    | (refine Run.takes (v := ?_) ?_ ?_; rotate_left; (· intro w' hS'; go_simp; (try with_reducible rfl)))
    | (refine Run.takesG (v := ?_) ?_ ?_ ?_; rotate_left; (· simp only [List.getElem?_cons_zero, List.getElem?_cons_succ]); (· intro w' hS'; go_simp; (try with_reducible rfl)))
    | (refine Run.skipsT ?_ ?_; (· simp only [List.getElem?_cons_zero, List.getElem?_cons_succ]))
    | (refine Run.skipsF ?_ ?_; (· simp only [List.getElem?_cons_zero, List.getElem?_cons_succ]))
    | (refine Run.skipsU ?_ ?_; (· simp only [List.getElem?_cons_zero, List.getElem?_cons_succ]))
    | (refine Run.passT ?_ ?_; (· simp only [List.getElem?_cons_zero, List.getElem?_cons_succ]))
    | (refine Run.passF ?_ ?_; (· simp only [List.getElem?_cons_zero, List.getElem?_cons_succ]))
    | (refine Run.passU ?_ ?_; (· simp only [List.getElem?_cons_zero, List.getElem?_cons_succ]))
    | (refine Run.runs ?_
       (first
       | (refine Run.callF 24 (by kernel_rfl) (fun hS => rsize_any g u bg bu _) rfl ?_)
       | (refine Run.callG 24 (by kernel_rfl) ?_ (fun hS => rsize_any g u bg bu _) rfl ?_; (· simp only [List.getElem?_cons_zero, List.getElem?_cons_succ]))
       | (refine Run.callF 24 (by kernel_rfl) (fun hS => rsize_any f t bf bt _) rfl ?_)
       | (refine Run.callG 24 (by kernel_rfl) ?_ (fun hS => rsize_any f t bf bt _) rfl ?_; (· simp only [List.getElem?_cons_zero, List.getElem?_cons_succ]))
       | fail)
       (first
       | (rintro hS e w' ⟨rfl, rfl⟩; refine ⟨_, rfl, hS, ?_⟩)
       | (rintro hS e w' ⟨rfl, hb⟩; refine ⟨_, rfl, ⟨kc hb hS.1, kc hb hS.2.1, kc hb hS.2.2.1, kc hb hS.2.2.2.1, nest hS.2.2.2.2 hb⟩, ?_⟩)
       | fail))
    | fail); simp only [Act.put, List.setIfInBounds_toArray, List.set_cons_zero, List.set_cons_succ])
  refine Run.ends (fun hS => ?_)
  clear ed
  have hk0 : Below w.heap.size w w' := nest hb0 hS.2.2.2.2
  clear hS
  have es : far f g + (4294967296 - far f g) = 4294967296 := by omega
  go_wp2_with (first
    | (at_builtin; refine append_part w' rfl (.tmp 26) (.tmp 32) rfl w'.heap.size _ [] 0 (far f g + beh g u - 4294967296) w'.heap.size rfl (PartsAt.nil _ _) (by simp) (Nat.le_refl _) rfl rfl ?_; intro v5 z5 hp5 hgg5 hk5; clear hgg5)
    | (at_builtin; refine append_part z5 rfl (.tmp 36) (.tmp 42) rfl w'.heap.size _ ([] ++ [(0, far f g + beh g u - 4294967296)]) (far f g) 4294967296 z5.heap.size rfl hp5 (by simp) hk5.size rfl rfl ?_; intro v' z0 hp hgg hk6; clear hgg; have hk1 := hk5.trans hk6))
  simp only [List.nil_append, List.cons_append] at hp
  obtain ⟨a1, g1, n1, rfl, ha1, hl1⟩ := PartsAt.loop hp
  have HA1 := Lib.hid ha1
  have HL1 := Lib.hid hl1
  generalize hll : [(0, far f g + beh g u - 4294967296), (far f g, 4294967296)] = l0 at *
  have hlen : l0.length ≤ 2 := by rw [← hll]; simp
  have hq0 : ∀ i, i < l0.length → 0 ≤ (l0.getD i (0, 0)).1 ∧ (l0.getD i (0, 0)).1 ≤ 4294967296 ∧ 0 ≤ (l0.getD i (0, 0)).2 ∧ (l0.getD i (0, 0)).2 ≤ 4294967296 := by
    rw [← hll]
    intro i hi
    have : i = 0 ∨ i = 1 := by simp at hi; omega
    rcases this with rfl | rfl <;> simp <;> omega
  have HQ := Lib.hid hq0
  have HLL := Lib.hid hll
  clear hq0 ha1 hl1 hll
  generalize hne : beh f t = n at *
  have HNE := Lib.hid hne
  clear hne
  go_wp2_with fail
  go_loopw [9, 10] (fun o i wr => ∃ k : Nat, k ≤ l0.length ∧ i = .int .i64 k ∧ PartsAt z0.heap.size wr o (outP n (l0.take k)) ∧ Below z0.heap.size z0 wr) (fun _ i _ => l0.length - (intOf i).toNat)
  case atStart => exact ⟨0, Nat.zero_le _, rfl, PartsAt.nil _ _, Below.refl _ _⟩
  case round =>
    obtain ⟨k, hkl, rfl, hpo, hb⟩ := hrel
    by_cases hlt : k < l0.length
    · obtain ⟨he, hgl⟩ := HA1.out (by omega)
      subst he
      have c1 := (hb.cell (p := ⟨g1, k * 2, none⟩) hgl).trans (HL1.out k hlt).1
      have c2 := (hb.cell (p := ⟨g1, k * 2 + 1, none⟩) hgl).trans (HL1.out k hlt).2
      have hot := Lib.hid (outP_take n l0 k hlt)
      have hol := outP_len n (l0.take k)
      have htl : (l0.take k).length ≤ k := List.length_take_le _ _
      have hqq := HQ.out k hlt
      generalize l0.getD k (0, 0) = s at *
      obtain ⟨p, q⟩ := s
      simp only [] at c1 c2 hqq
      generalize hoe : outP n (l0.take k) = ol at *
      clear hoe
      have hm : (if n < q then n else q) = hiP n q := rfl
      have hmb : 0 ≤ hiP n q ∧ hiP n q ≤ 4294967296 := by unfold hiP; split <;> omega
      generalize hhi : hiP n q = m at *
      go_wp2_with fail
      refine Run.region_walk (S := fun z => z.cell? ⟨g1, k * 2, none⟩ = some (.int .u64 p) ∧ z.cell? ⟨g1, k * 2 + 1, none⟩ = some (.int .u64 q) ∧ Below wr.heap.size wr z)
        rparts.rows10 rparts.plan10 (l := ?steps7) (by kernel_rfl) (by kernel_rfl) (by kernel_rfl) (by kernel_rfl) ?written7 ⟨c1, c2, (Below.refl _ _).drew⟩ ?onward7
      case written7 =>
        simp only [rparts.plan10, Run.stepsOf, Run.stepOf, Run.guardOf, List.getElem?_toArray, List.getElem?_cons_zero, List.getElem?_cons_succ, Option.map_some, Option.map_none, Option.bind_some, Option.toList_some, List.map_cons, List.map_nil, List.cons_append, List.nil_append, List.append_eq]
        rfl
      repeat ((first
        | (refine Run.takes (v := ?_) ?_ ?_; rotate_left; (· intro w' hS'; go_simp; (try with_reducible rfl)))
        | (refine Run.takesG (v := ?_) ?_ ?_ ?_; rotate_left; (· simp only [List.getElem?_cons_zero, List.getElem?_cons_succ]); (· intro w' hS'; go_simp; (try with_reducible rfl)))
        | (refine Run.skipsT ?_ ?_; (· simp only [List.getElem?_cons_zero, List.getElem?_cons_succ]))
        | (refine Run.skipsF ?_ ?_; (· simp only [List.getElem?_cons_zero, List.getElem?_cons_succ]))
        | (refine Run.skipsU ?_ ?_; (· simp only [List.getElem?_cons_zero, List.getElem?_cons_succ]))
        | (refine Run.passT ?_ ?_; (· simp only [List.getElem?_cons_zero, List.getElem?_cons_succ]))
        | (refine Run.passF ?_ ?_; (· simp only [List.getElem?_cons_zero, List.getElem?_cons_succ]))
        | (refine Run.passU ?_ ?_; (· simp only [List.getElem?_cons_zero, List.getElem?_cons_succ]))
        | fail); simp only [Act.put, List.setIfInBounds_toArray, List.set_cons_zero, List.set_cons_succ])
      refine Run.runs (Run.one (fun hS K hK => ?_))
      go_simp
      refine hK.out _ _ ⟨kc (more (Below.refl _ _) _) hS.1, kc (more (Below.refl _ _) _) hS.2.1, more hS.2.2 _⟩ ?_
      clear hK K hS
      refine Run.runs (Run.one (fun hS K hK => ?_))
      go_simp
      have hX : Below wr.heap.size wr (wr.alloc (Obj.cells #[Value.int IntKind.u64 p, Value.int IntKind.u64 m] 70)).drew := (more (Below.refl _ _) _).drew
      refine hK.out _ _ ⟨kc hX c1, kc hX c2, hX⟩ ?_
      clear hK K hS
      refine Run.ends (fun _ => ?_)
      have x0 : (wr.alloc (Obj.cells #[Value.int IntKind.u64 p, Value.int IntKind.u64 m] 70)).drew.cell? ⟨wr.heap.size, 0, none⟩ = some (.int .u64 p) := by simp
      have x1 : (wr.alloc (Obj.cells #[Value.int IntKind.u64 p, Value.int IntKind.u64 m] 70)).drew.cell? ⟨wr.heap.size, 1, none⟩ = some (.int .u64 m) := by simp
      have hpy := hpo.below hX
      have hlt2 : wr.heap.size < (wr.alloc (Obj.cells #[Value.int IntKind.u64 p, Value.int IntKind.u64 m] 70)).drew.heap.size := by simp
      generalize (wr.alloc (Obj.cells #[Value.int IntKind.u64 p, Value.int IntKind.u64 m] 70)).drew = y at *
      clear c1 c2 hm hpo
      have hby := nest hb hX
      by_cases hskip : m ≤ p
      · have ea : addP n ol (p, q) = ol := by unfold addP; rw [hhi, if_pos hskip]
        have EA := Lib.hid ea
        clear ea hhi
        go_wp2_with fail
        go_roundw
        case rel => exact ⟨k + 1, by omega, by go_num, by rw [hot.out, EA.out]; exact hpy, hby⟩
        case measure => simp [intOf]; omega
      · rcases List.eq_nil_or_concat ol with rfl | ⟨os, s9, rfl⟩
        · obtain ⟨a9, c9, rfl⟩ := hpy.form
          have ea : addP n [] (p, q) = [(p, m)] := by unfold addP; rw [hhi, if_neg hskip]; rfl
          have EA := Lib.hid ea
          clear ea hhi
          go_wp2_with fail
          refine Run.region_walk (S := fun z => z.cell? ⟨wr.heap.size, 0, none⟩ = some (.int .u64 p) ∧ z.cell? ⟨wr.heap.size, 1, none⟩ = some (.int .u64 m))
            rparts.rows12 rparts.plan12 (l := ?steps8) (by kernel_rfl) (by kernel_rfl) (by kernel_rfl) (by kernel_rfl) ?written8 ⟨x0, x1⟩ ?onward8
          case written8 =>
            simp only [rparts.plan12, Run.stepsOf, Run.stepOf, Run.guardOf, List.getElem?_toArray, List.getElem?_cons_zero, List.getElem?_cons_succ, Option.map_some, Option.map_none, Option.bind_some, Option.toList_some, List.map_cons, List.map_nil, List.cons_append, List.nil_append, List.append_eq]
            rfl
          repeat ((first
            | (refine Run.takes (v := ?_) ?_ ?_; rotate_left; (· intro w' hS'; go_simp; (try with_reducible rfl)))
            | (refine Run.takesG (v := ?_) ?_ ?_ ?_; rotate_left; (· simp only [List.getElem?_cons_zero, List.getElem?_cons_succ]); (· intro w' hS'; go_simp; (try with_reducible rfl)))
            | (refine Run.skipsT ?_ ?_; (· simp only [List.getElem?_cons_zero, List.getElem?_cons_succ]))
            | (refine Run.skipsF ?_ ?_; (· simp only [List.getElem?_cons_zero, List.getElem?_cons_succ]))
            | (refine Run.skipsU ?_ ?_; (· simp only [List.getElem?_cons_zero, List.getElem?_cons_succ]))
            | (refine Run.passT ?_ ?_; (· simp only [List.getElem?_cons_zero, List.getElem?_cons_succ]))
            | (refine Run.passF ?_ ?_; (· simp only [List.getElem?_cons_zero, List.getElem?_cons_succ]))
            | (refine Run.passU ?_ ?_; (· simp only [List.getElem?_cons_zero, List.getElem?_cons_succ]))
            | fail); simp only [Act.put, List.setIfInBounds_toArray, List.set_cons_zero, List.set_cons_succ])
          refine Run.ends (fun _ => ?_)
          have hdy : Below y.heap.size y y.drew := (Below.refl _ _).drew
          have hp2 := hpy.below hdy
          have hby2 := nest hby hdy
          replace x0 := kc hdy x0
          replace x1 := kc hdy x1
          clear hdy
          generalize y.drew = y2 at *
          go_wp2_with (at_builtin; refine append_part y2 rfl (.tmp 91) (.tmp 93) rfl z0.heap.size _ [] p m y2.heap.size rfl hp2 (by simp) hby2.size rfl rfl ?_; intro v9 w9 hp9 hgg9 hk9; clear hgg9)
          go_roundw
          case rel => exact ⟨k + 1, by omega, by go_num, by rw [hot.out, EA.out]; exact hp9, hby2.trans hk9⟩
          case measure => simp [intOf]; omega
        · obtain ⟨x, yy⟩ := s9
          rw [List.concat_eq_append] at *
          have hlo : (os ++ [(x, yy)]).length = os.length + 1 := by simp
          obtain ⟨a9, g9, c9, rfl, ha9, hl9⟩ := hpy.loop
          obtain ⟨rfl, hg9⟩ := ha9 (by rw [hlo]; omega)
          have hle := hl9 os.length (by rw [hlo]; omega)
          have hgd : (os ++ [(x, yy)]).getD os.length (0, 0) = (x, yy) := by simp [List.getD]
          rw [hgd] at hle
          obtain ⟨y0, y1⟩ := hle
          simp only [] at y0 y1
          clear hl9 ha9
          rw [hlo] at *
          have hosl : (os.length : Int) ≤ 2 := by have h9 := hol; simp at h9; omega
          have i1 : IntKind.i64.wrap ((os.length : Int) + 1 - 1) = (os.length : Int) := by rw [Int.add_sub_cancel]; exact IntWalk.i64_in _ (by omega)
          have i3 : IntKind.i64.wrap (os.length : Int) = (os.length : Int) := IntWalk.i64_in _ (by omega)
          have i4 : (os.length : Int) < (os.length : Int) + 1 := by omega
          have i5 : (0 : Int) ≤ (os.length : Int) := by omega
          by_cases hj : yy = p
          · subst hj
            have ea : addP n (os ++ [(x, yy)]) (yy, q) = os ++ [(x, m)] := by unfold addP; rw [hhi, if_neg hskip]; simp
            have EA := Lib.hid ea
            clear ea hhi
            go_wp2_with fail
            refine Run.region_walk (S := fun z => z.cell? ⟨g9, os.length * 2 + 1, none⟩ = some (.int .u64 yy) ∧ z.cell? ⟨wr.heap.size, 0, none⟩ = some (.int .u64 yy) ∧ z.cell? ⟨wr.heap.size, 1, none⟩ = some (.int .u64 m))
              rparts.rows12 rparts.plan12 (l := ?steps9) (by kernel_rfl) (by kernel_rfl) (by kernel_rfl) (by kernel_rfl) ?written9 ⟨y1, x0, x1⟩ ?onward9
            case written9 =>
              simp only [rparts.plan12, Run.stepsOf, Run.stepOf, Run.guardOf, List.getElem?_toArray, List.getElem?_cons_zero, List.getElem?_cons_succ, Option.map_some, Option.map_none, Option.bind_some, Option.toList_some, List.map_cons, List.map_nil, List.cons_append, List.nil_append, List.append_eq]
              rfl
            repeat ((first
              | (refine Run.takes (v := ?_) ?_ ?_; rotate_left; (· intro w' hS'; go_simp; (try with_reducible rfl)))
              | (refine Run.takesG (v := ?_) ?_ ?_ ?_; rotate_left; (· simp only [List.getElem?_cons_zero, List.getElem?_cons_succ]); (· intro w' hS'; go_simp; (try with_reducible rfl)))
              | (refine Run.skipsT ?_ ?_; (· simp only [List.getElem?_cons_zero, List.getElem?_cons_succ]))
              | (refine Run.skipsF ?_ ?_; (· simp only [List.getElem?_cons_zero, List.getElem?_cons_succ]))
              | (refine Run.skipsU ?_ ?_; (· simp only [List.getElem?_cons_zero, List.getElem?_cons_succ]))
              | (refine Run.passT ?_ ?_; (· simp only [List.getElem?_cons_zero, List.getElem?_cons_succ]))
              | (refine Run.passF ?_ ?_; (· simp only [List.getElem?_cons_zero, List.getElem?_cons_succ]))
              | (refine Run.passU ?_ ?_; (· simp only [List.getElem?_cons_zero, List.getElem?_cons_succ]))
              | fail); simp only [Act.put, List.setIfInBounds_toArray, List.set_cons_zero, List.set_cons_succ])
            refine Run.ends (fun _ => ?_)
            have hdy : Below y.heap.size y y.drew := (Below.refl _ _).drew
            have hp2 := hpy.below hdy
            have hby2 := nest hby hdy
            replace x0 := kc hdy x0
            replace x1 := kc hdy x1
            replace y1 := kc hdy y1
            clear hdy
            generalize y.drew = y2 at *
            have hp3 : y2.ownsRow z0.heap.size 70 2 (.slice (some ⟨g9, 0, none⟩) (os.length + 1) c9) (os.length + 1) (flatP (os ++ [(x, yy)])) := by
              have := hp2
              unfold PartsAt at this
              rwa [show (os ++ [(x, yy)]).length = os.length + 1 by simp] at this
            have fz := World.ownsRow.frozenAt hp3 (os.length * 2 + 1)
            have hst9 := World.ownsRow.stored hp3 (os.length * 2 + 1) (.int .u64 m)
            have hgb : z0.heap.size ≤ g9 := (World.ownsRow.lt hp3 g9 rfl).1
            have hp4 : PartsAt z0.heap.size (y2.setCell ⟨g9, os.length * 2 + 1, none⟩ (.int .u64 m)) (.slice (some ⟨g9, 0, none⟩) (os.length + 1) c9) (os ++ [(x, m)]) := by
              unfold PartsAt
              have e9 : (os ++ [(x, m)]).length = os.length + 1 := by simp
              have e8 : ∀ os : List (Int × Int), (flatP (os ++ [(x, yy)])).set (os.length * 2 + 1) (Value.int IntKind.u64 m) = flatP (os ++ [(x, m)]) := by
                intro os
                rw [flatP_snoc, flatP_snoc]
                have e7 : (flatP os).length = os.length * 2 := by induction os with | nil => rfl | cons s os ih => simp only [flatP, List.flatMap_cons, List.length_append, List.length_cons, List.length_nil] at *; omega
                rw [List.set_append_right _ _ (by omega), e7]
                simp
              rw [e9, ← e8]
              exact hst9.1
            have hk9 : Below z0.heap.size z0 (y2.setCell ⟨g9, os.length * 2 + 1, none⟩ (.int .u64 m)) := hby2.setCell hgb _
            clear hp3 hst9 hp2
            go_wp2
            go_roundw
            case rel => exact ⟨k + 1, by omega, by go_num, by rw [hot.out, EA.out]; exact hp4, hk9⟩
            case measure => simp [intOf]; omega
          · have ea : addP n (os ++ [(x, yy)]) (p, q) = os ++ [(x, yy)] ++ [(p, m)] := by unfold addP; rw [hhi, if_neg hskip]; simp [hj]
            have EA := Lib.hid ea
            have hj' : (yy == p) = false := by simpa using hj
            clear ea hhi
            go_wp2_with fail
            refine Run.region_walk (S := fun z => z.cell? ⟨g9, os.length * 2 + 1, none⟩ = some (.int .u64 yy) ∧ z.cell? ⟨wr.heap.size, 0, none⟩ = some (.int .u64 p) ∧ z.cell? ⟨wr.heap.size, 1, none⟩ = some (.int .u64 m))
              rparts.rows12 rparts.plan12 (l := ?steps10) (by kernel_rfl) (by kernel_rfl) (by kernel_rfl) (by kernel_rfl) ?written10 ⟨y1, x0, x1⟩ ?onward10
            case written10 =>
              simp only [rparts.plan12, Run.stepsOf, Run.stepOf, Run.guardOf, List.getElem?_toArray, List.getElem?_cons_zero, List.getElem?_cons_succ, Option.map_some, Option.map_none, Option.bind_some, Option.toList_some, List.map_cons, List.map_nil, List.cons_append, List.nil_append, List.append_eq]
              rfl
            repeat ((first
              | (refine Run.takes (v := ?_) ?_ ?_; rotate_left; (· intro w' hS'; go_simp; (try with_reducible rfl)))
              | (refine Run.takesG (v := ?_) ?_ ?_ ?_; rotate_left; (· simp only [List.getElem?_cons_zero, List.getElem?_cons_succ]); (· intro w' hS'; go_simp; (try with_reducible rfl)))
              | (refine Run.skipsT ?_ ?_; (· simp only [List.getElem?_cons_zero, List.getElem?_cons_succ]))
              | (refine Run.skipsF ?_ ?_; (· simp only [List.getElem?_cons_zero, List.getElem?_cons_succ]))
              | (refine Run.skipsU ?_ ?_; (· simp only [List.getElem?_cons_zero, List.getElem?_cons_succ]))
              | (refine Run.passT ?_ ?_; (· simp only [List.getElem?_cons_zero, List.getElem?_cons_succ]))
              | (refine Run.passF ?_ ?_; (· simp only [List.getElem?_cons_zero, List.getElem?_cons_succ]))
              | (refine Run.passU ?_ ?_; (· simp only [List.getElem?_cons_zero, List.getElem?_cons_succ]))
              | fail); simp only [Act.put, List.setIfInBounds_toArray, List.set_cons_zero, List.set_cons_succ])
            refine Run.ends (fun _ => ?_)
            have hdy : Below y.heap.size y y.drew := (Below.refl _ _).drew
            have hp2 := hpy.below hdy
            have hby2 := nest hby hdy
            replace x0 := kc hdy x0
            replace x1 := kc hdy x1
            clear hdy y0 y1
            generalize y.drew = y2 at *
            go_wp2_with (at_builtin; refine append_part y2 rfl (.tmp 91) (.tmp 93) rfl z0.heap.size _ (os ++ [(x, yy)]) p m y2.heap.size rfl hp2 (by simp; omega) hby2.size rfl rfl ?_; intro v9 w9 hp9 hgg9 hk9; clear hgg9)
            go_roundw
            case rel => exact ⟨k + 1, by omega, by go_num, by rw [hot.out, EA.out]; exact hp9, hby2.trans hk9⟩
            case measure => simp [intOf]; omega
    · have hkn : k = l0.length := by omega
      have htk : outP n (l0.take k) = outP (beh f t) [(0, far f g + beh g u - 4294967296), (far f g, 4294967296)] := by rw [hkn, List.take_length, ← HLL.out, HNE.out]
      rw [htk] at hpo
      have hkk : Below w.heap.size w wr := nest (nest hk0 hk1) hb
      have hpz := hpo.mono (nest hk0 hk1).size
      clear htk hkn HLL HNE HQ HA1 HL1
      go_wp2
      go_ret
      exact ⟨_, rfl, hpz, hkk⟩
end Go.Proofs.Ythdcgobdcdfefaa
