/- Walks of package cover: Gaps, Fork. -/
import Derived.Test.YtbdijeekekaibaaCover
namespace Go.Proofs.Ytbdijeekekaibaa
open Go.RowKit Cir Mem
set_option linter.unusedSimpArgs false
set_option linter.unusedVariables false
attribute [local irreducible] Go.Calls

theorem spanElem : Elem Try.prog 25 24 2 8 := elem_of (z := .agg #[.int .u32 0, .int .u32 0]) Try.underlying25 (by kernel_rfl) rfl
def GapsPost (w : World) (l : List (Int × Int)) (e : Ending) (w' : World) : Prop := ∃ v, e = .returned v ∧ Row (pairE .u32) 24 w.heap.size w' v l ∧ Below w.heap.size w w'
theorem cgaps_nil (w : World) : Calls Try.prog 15 #[.pointer none] w (GapsPost w []) := by
  go_enter Try.func15, Try.ntmps15
  go_wp2
  go_ret
  exact ⟨_, rfl, Row.nil, Below.refl _ _⟩

theorem cgaps_none (w : World) : Calls Try.prog 15 #[.pointer none] w fun e w' => e = .returned (.slice none 0 0) ∧ Below w.heap.size w w' := by
  go_enter Try.func15, Try.ntmps15
  go_wp2
  go_ret
  exact ⟨rfl, Below.refl _ _⟩

set_option maxHeartbeats 2000000 in
theorem cgaps_any (B b : Nat) (f t n : Int) (l : List (Int × Int)) (w : World) (h : CoverAt B w b f t l) (hn : Norm n 0 l) (hn0 : 0 ≤ n ∧ n ≤ 4294967296) (hl : l.length ≤ 1000000) :
    Calls Try.prog 15 #[.pointer (some ⟨b, 0, none⟩)] w (GapsPost w (l.map (spanP f))) := by
  obtain ⟨_, v, hblk, hrow⟩ := h
  obtain ⟨a, g, c, rfl, hlc, hcm, ha, hc⟩ := hrow.loop
  have HA := Lib.hid ha
  have HC := Lib.hid hc
  have HN := Lib.hid hn
  have hv : w.cell? ⟨b, 2, none⟩ = some (.slice a l.length c) := hblk.cell 2
  have hf : w.cell? ⟨b, 0, none⟩ = some (.int .u32 f) := hblk.cell 0
  have hbl := hblk.lt
  clear ha hc hrow hn hblk hlc hcm
  go_enter Try.func15, Try.ntmps15
  go_wp2_with fail
  clear hv
  go_loopw [3, 13] (fun o i wr => ∃ k : Nat, k ≤ l.length ∧ i = .int .i64 k ∧ Row (pairE .u32) 24 w.heap.size wr o ((l.take k).map (spanP f)) ∧ Below w.heap.size w wr) (fun _ i _ => l.length - (intOf i).toNat)
  case atStart => exact ⟨0, Nat.zero_le _, rfl, Row.nil, Below.refl _ _⟩
  case round =>
    obtain ⟨k, hk, rfl, hro, hb⟩ := hrel
    by_cases hlt : k < l.length
    · obtain ⟨rfl, hg⟩ := HA.out (by omega)
      have d1 := (hb.cell (p := ⟨g, k * 2, none⟩) hg).trans (HC.out k hlt).1
      have d2 := (hb.cell (p := ⟨g, k * 2 + 1, none⟩) hg).trans (HC.out k hlt).2
      have d0 := (hb.cell (p := ⟨b, 0, none⟩) hbl).trans hf
      have b1 := HN.out.at hlt
      have htk : (l.take (k + 1)).map (spanP f) = (l.take k).map (spanP f) ++ [spanP f (l.getD k (0, 0))] := by
        rw [List.take_succ_eq_append_getElem hlt, List.map_append]; simp [hlt]
      have HTK := Lib.hid htk
      clear htk
      have htl : ((l.take k).map (spanP f)).length ≤ k := by rw [List.length_map]; exact List.length_take_le _ _
      generalize l.getD k (0, 0) = s at *
      obtain ⟨p, q⟩ := s
      simp only [] at d1 d2 b1
      generalize (l.take k).map (spanP f) = ol at *
      have e1 : IntKind.u32.wrap (f + IntKind.u32.wrap p) = (f + p) % 4294967296 := by rw [IntKind.wrap_u32, IntKind.wrap_u32]; omega
      have e2 : IntKind.u32.wrap (f + IntKind.u32.wrap q) = (f + q) % 4294967296 := by rw [IntKind.wrap_u32, IntKind.wrap_u32]; omega
      go_wp2_with fail
      generalize hX : wr.alloc (Obj.cells #[Value.int IntKind.u64 p, Value.int IntKind.u64 q] 49) = X
      have hk0 : Below wr.heap.size wr X := hX ▸ more (Below.refl _ _) _
      have x0 : X.cell? ⟨wr.heap.size, 0, none⟩ = some (.int .u64 p) := by rw [← hX]; simp
      have x1 : X.cell? ⟨wr.heap.size, 1, none⟩ = some (.int .u64 q) := by rw [← hX]; simp
      have hbX : Below w.heap.size w X := nest hb hk0
      have d3 := kc hk0 d0
      have hroX := hro.keep hk0
      have hne := hro.new_ne (Nat.le_refl _)
      clear hX d0 d1 d2 hro
      refine Run.region_walk (S := fun z => z.cell? ⟨b, 0, none⟩ = some (.int .u32 f) ∧ z.cell? ⟨wr.heap.size, 0, none⟩ = some (.int .u64 p) ∧ z.cell? ⟨wr.heap.size, 1, none⟩ = some (.int .u64 q) ∧ Below w.heap.size w z)
        cgaps.rows7 cgaps.plan7 (l := ?steps4) (by kernel_rfl) (by kernel_rfl) (by kernel_rfl) (by kernel_rfl) ?written4 ⟨d3, x0, x1, hbX.drew⟩ ?onward4
      case written4 =>
        simp only [cgaps.plan7, Run.stepsOf, Run.stepOf, Run.guardOf, List.getElem?_toArray, List.getElem?_cons_zero, List.getElem?_cons_succ, Option.map_some, Option.map_none, Option.bind_some, Option.toList_some, List.map_cons, List.map_nil, List.cons_append, List.nil_append]
        rfl
      repeat ((first
        | (refine Run.takes (v := ?_) ?_ ?_; rotate_left; (· intro w' hS'; go_simp; (try with_reducible rfl)))
        | (refine Run.takesG (v := ?_) ?_ ?_ ?_; rotate_left; (· simp only [List.getElem?_cons_zero, List.getElem?_cons_succ]); (· intro w' hS'; go_simp; (try with_reducible rfl)))
        | (refine Run.skipsT ?_ ?_; (· simp only [List.getElem?_cons_zero, List.getElem?_cons_succ]))
        | (refine Run.skipsF ?_ ?_; (· simp only [List.getElem?_cons_zero, List.getElem?_cons_succ]))
        | (refine Run.skipsU ?_ ?_; (· simp only [List.getElem?_cons_zero, List.getElem?_cons_succ]))
        | (refine Run.passT ?_ ?_; (· simp only [List.getElem?_cons_zero, List.getElem?_cons_succ]))
        | (refine Run.passF ?_ ?_; (· simp only [List.getElem?_cons_zero, List.getElem?_cons_succ]))
        | (refine Run.passU ?_ ?_; (· simp only [List.getElem?_cons_zero, List.getElem?_cons_succ]))
        | fail); simp only [Act.put, List.setIfInBounds_toArray, List.set_cons_zero, List.set_cons_succ])
      refine Run.runs (Run.one (fun hS K hK => ?_))
      go_simp
      have hY : Below X.heap.size X (X.alloc (Obj.cells #[Value.int IntKind.u32 ((f + p) % 4294967296), Value.int IntKind.u32 ((f + q) % 4294967296)] 24)).drew := (more (Below.refl _ _) _).drew
      refine hK.out _ _ ⟨kc hY d3, kc hY x0, kc hY x1, nest hbX hY⟩ ?_
      clear hK K hS
      refine Run.runs (Run.one (fun hS K hK => ?_))
      refine wp_append (m := [((f + p) % 4294967296, (f + q) % 4294967296)]) spanElem Nat.zero_lt_two (.tmp 17) (.tmp 37) rfl rfl (hroX.keep hY) rfl (Rd.fresh X.drew _ _ _ _ rfl rfl) (by simp [maxLen]; omega) (by simp; omega) (nest hbX hY).size ?_
      intro v9 y hr9 hk9 hg9 _
      have hky : Below w.heap.size w y := (nest hbX hY).trans hk9
      refine hK.out _ _ ⟨(hky.cell (p := ⟨b, 0, none⟩) hbl).trans hf, hg9.cell (kc hY x0) hne, hg9.cell (kc hY x1) hne, hky⟩ ?_
      clear hK K hS hY hg9 hk9 hroX
      repeat ((first
        | (refine Run.takes (v := ?_) ?_ ?_; rotate_left; (· intro w' hS'; go_simp; (try with_reducible rfl)))
        | (refine Run.takesG (v := ?_) ?_ ?_ ?_; rotate_left; (· simp only [List.getElem?_cons_zero, List.getElem?_cons_succ]); (· intro w' hS'; go_simp; (try with_reducible rfl)))
        | (refine Run.skipsT ?_ ?_; (· simp only [List.getElem?_cons_zero, List.getElem?_cons_succ]))
        | (refine Run.skipsF ?_ ?_; (· simp only [List.getElem?_cons_zero, List.getElem?_cons_succ]))
        | (refine Run.skipsU ?_ ?_; (· simp only [List.getElem?_cons_zero, List.getElem?_cons_succ]))
        | (refine Run.passT ?_ ?_; (· simp only [List.getElem?_cons_zero, List.getElem?_cons_succ]))
        | (refine Run.passF ?_ ?_; (· simp only [List.getElem?_cons_zero, List.getElem?_cons_succ]))
        | (refine Run.passU ?_ ?_; (· simp only [List.getElem?_cons_zero, List.getElem?_cons_succ]))
        | fail); simp only [Act.put, List.setIfInBounds_toArray, List.set_cons_zero, List.set_cons_succ])
      refine Run.ends (fun _ => ?_)
      clear d3 x0 x1 e1 e2
      go_wp2_with fail
      go_roundw
      case rel => exact ⟨k + 1, by omega, by go_num, by rw [HTK.out]; exact hr9, hky⟩
      case measure => simp [intOf]; omega
    · have hkn : k = l.length := by omega
      subst hkn
      rw [List.take_length] at hro
      go_wp2
      go_ret
      exact ⟨_, rfl, hro, hb⟩

/-! ### Fork -/
def ClonePost (w : World) (l : List (Int × Int)) (e : Ending) (w' : World) : Prop := ∃ v', e = .returned v' ∧ Row (pairE .u64) 49 w.heap.size w' v' l ∧ Below w.heap.size w w'
theorem clone_any (B : Nat) (v : Value) (l : List (Int × Int)) (w : World) (h : Row (pairE .u64) 49 B w v l) (hl : l.length ≤ 1000000) :
    Calls Try.prog 32 #[v] w (ClonePost w l) := by
  rcases h.form with ⟨rfl, rfl⟩ | ⟨g, c, rfl, _, _, h1, h2⟩
  · have he : ∀ w : World, (binOp .eql 50 (.slice none 0 0) (.slice none 0 0)).run Try.prog w = .ok (.bool true) w := fun w => Lib.run_eql_slice_nil w _ _ none 0 0 0 0 Try.underlying50
    go_enter Try.func32, Try.ntmps32
    go_wp2
    go_ret
    exact ⟨_, rfl, Row.nil, Below.refl _ _⟩
  · have he : ∀ w : World, (binOp .eql 50 (.slice (some ⟨g, 0, none⟩) l.length c) (.slice none 0 0)).run Try.prog w = .ok (.bool false) w := fun w => Lib.run_eql_slice_nil w _ _ (some ⟨g, 0, none⟩) _ _ 0 0 Try.underlying50
    have hrd := h.rd
    have hX : Below w.heap.size w (w.alloc (Obj.cells #[] 49)) := more (Below.refl _ _) _
    go_enter Try.func32, Try.ntmps32
    go_wp2_with (at_builtin; go_must (refine wpList_append (E := pairE .u64) (B := w.heap.size) (l := []) (m := l) (bytes := 16) stretchElem Nat.zero_lt_two rfl (.tmp 5) (.tmp 6) rfl rfl (Row.lit _ w #[] [] 0 _ rfl rfl rfl (Nat.le_refl _) (Nat.zero_le _)) rfl (hrd.keep hX) (by simp [maxLen]; omega) (by simp; omega) hX.size ?_); intro v9 y hr9 hk9 hg9 _)
    go_ret
    exact ⟨v9, rfl, hr9, hX.trans hk9⟩

def ForkPost (w : World) (f t : Int) (l : List (Int × Int)) (e : Ending) (w' : World) : Prop := ∃ b, e = .returned (.pointer (some ⟨b, 0, none⟩)) ∧ CoverAt w.heap.size w' b f t l ∧ Below w.heap.size w w'
theorem cfork_nil (w : World) : Calls Try.prog 18 #[.pointer none] w fun e w' => e = .returned (.pointer none) ∧ Below w.heap.size w w' := by
  go_enter Try.func18, Try.ntmps18
  go_wp2
  go_ret
  exact ⟨rfl, Below.refl _ _⟩
set_option maxHeartbeats 1000000 in
theorem cfork_any (B b : Nat) (f t : Int) (l : List (Int × Int)) (w : World) (h : CoverAt B w b f t l) (hl : l.length ≤ 1000000) :
    Calls Try.prog 18 #[.pointer (some ⟨b, 0, none⟩)] w (ForkPost w f t l) := by
  obtain ⟨_, v, hblk, hrow⟩ := h
  have d0 : w.cell? ⟨b, 0, none⟩ = some (.int .u32 f) := hblk.cell 0
  have d1 : w.cell? ⟨b, 1, none⟩ = some (.int .u32 t) := hblk.cell 1
  have d2 : w.cell? ⟨b, 2, none⟩ = some v := hblk.cell 2
  clear hblk
  go_enter Try.func18, Try.ntmps18
  go_wp2_with fail
  refine Run.region_walk (S := fun z => z.cell? ⟨b, 0, none⟩ = some (.int .u32 f) ∧ z.cell? ⟨b, 1, none⟩ = some (.int .u32 t) ∧ z.cell? ⟨b, 2, none⟩ = some v ∧ Below w.heap.size w z)
    cfork.rows3 cfork.plan3 (l := ?steps6) (by kernel_rfl) (by kernel_rfl) (by kernel_rfl) (by kernel_rfl) ?written6 ⟨d0, d1, d2, (Below.refl _ _).drew⟩ ?onward6
  case written6 =>
    simp only [cfork.plan3, Run.stepsOf, Run.stepOf, Run.guardOf, List.getElem?_toArray, List.getElem?_cons_zero, List.getElem?_cons_succ, Option.map_some, Option.map_none, Option.bind_some, Option.toList_some, List.map_cons, List.map_nil, List.cons_append, List.nil_append]
    rfl
  repeat ((first
    | (refine Run.takes (v := ?_) ?_ ?_; rotate_left; (· intro w' hS'; go_simp; (try with_reducible rfl)))
    | (refine Run.takesG (v := ?_) ?_ ?_ ?_; rotate_left; (· simp only [List.getElem?_cons_zero, List.getElem?_cons_succ]); (· intro w' hS'; go_simp; (try with_reducible rfl)))
    | (refine Run.skipsT ?_ ?_; (· simp only [List.getElem?_cons_zero, List.getElem?_cons_succ]))
    | (refine Run.skipsF ?_ ?_; (· simp only [List.getElem?_cons_zero, List.getElem?_cons_succ]))
    | (refine Run.skipsU ?_ ?_; (· simp only [List.getElem?_cons_zero, List.getElem?_cons_succ]))
    | (refine Run.passT ?_ ?_; (· simp only [List.getElem?_cons_zero, List.getElem?_cons_succ]))
    | (refine Run.passF ?_ ?_; (· simp only [List.getElem?_cons_zero, List.getElem?_cons_succ]))
    | (refine Run.passU ?_ ?_; (· simp only [List.getElem?_cons_zero, List.getElem?_cons_succ]))
    | fail); simp only [Act.put, List.setIfInBounds_toArray, List.set_cons_zero, List.set_cons_succ])
  refine Run.runs (Run.callF 32 (by kernel_rfl) (fun hS => clone_any B v l _ (hrow.keep hS.2.2.2) hl) rfl ?_)
  rintro hS e x ⟨v1, rfl, hr1, hk1⟩
  obtain ⟨a9, c9, rfl, _, _⟩ := hr1.rd.form
  have hx := nest hS.2.2.2 hk1
  refine ⟨_, rfl, ⟨kc hk1 hS.1, kc hk1 hS.2.1, kc hk1 hS.2.2.1, hx⟩, ?_⟩
  have hr2 := hr1.mono hS.2.2.2.size
  clear hS hr1 hk1
  simp only [Act.put, List.setIfInBounds_toArray, List.set_cons_zero, List.set_cons_succ]
  repeat ((first
    | (refine Run.takes (v := ?_) ?_ ?_; rotate_left; (· intro w' hS'; go_simp; (try with_reducible rfl)))
    | (refine Run.takesG (v := ?_) ?_ ?_ ?_; rotate_left; (· simp only [List.getElem?_cons_zero, List.getElem?_cons_succ]); (· intro w' hS'; go_simp; (try with_reducible rfl)))
    | (refine Run.skipsT ?_ ?_; (· simp only [List.getElem?_cons_zero, List.getElem?_cons_succ]))
    | (refine Run.skipsF ?_ ?_; (· simp only [List.getElem?_cons_zero, List.getElem?_cons_succ]))
    | (refine Run.skipsU ?_ ?_; (· simp only [List.getElem?_cons_zero, List.getElem?_cons_succ]))
    | (refine Run.passT ?_ ?_; (· simp only [List.getElem?_cons_zero, List.getElem?_cons_succ]))
    | (refine Run.passF ?_ ?_; (· simp only [List.getElem?_cons_zero, List.getElem?_cons_succ]))
    | (refine Run.passU ?_ ?_; (· simp only [List.getElem?_cons_zero, List.getElem?_cons_succ]))
    | fail); simp only [Act.put, List.setIfInBounds_toArray, List.set_cons_zero, List.set_cons_succ])
  refine Run.runs (Run.one (fun hS K hK => ?_))
  go_simp
  have hX : Below x.heap.size x (x.alloc (Obj.cells #[Value.int IntKind.u32 f, Value.int IntKind.u32 t, .slice a9 l.length c9] 52)) := more (Below.refl _ _) _
  refine hK.out _ _ ⟨kc hX hS.1, kc hX hS.2.1, kc hX hS.2.2.1, nest hS.2.2.2 hX⟩ ?_
  clear hK K
  repeat ((first
    | (refine Run.takes (v := ?_) ?_ ?_; rotate_left; (· intro w' hS'; go_simp; (try with_reducible rfl)))
    | (refine Run.takesG (v := ?_) ?_ ?_ ?_; rotate_left; (· simp only [List.getElem?_cons_zero, List.getElem?_cons_succ]); (· intro w' hS'; go_simp; (try with_reducible rfl)))
    | (refine Run.skipsT ?_ ?_; (· simp only [List.getElem?_cons_zero, List.getElem?_cons_succ]))
    | (refine Run.skipsF ?_ ?_; (· simp only [List.getElem?_cons_zero, List.getElem?_cons_succ]))
    | (refine Run.skipsU ?_ ?_; (· simp only [List.getElem?_cons_zero, List.getElem?_cons_succ]))
    | (refine Run.passT ?_ ?_; (· simp only [List.getElem?_cons_zero, List.getElem?_cons_succ]))
    | (refine Run.passF ?_ ?_; (· simp only [List.getElem?_cons_zero, List.getElem?_cons_succ]))
    | (refine Run.passU ?_ ?_; (· simp only [List.getElem?_cons_zero, List.getElem?_cons_succ]))
    | fail); simp only [Act.put, List.setIfInBounds_toArray, List.set_cons_zero, List.set_cons_succ])
  refine Run.ends (fun hS2 => ?_)
  go_wp2_with fail
  go_ret
  exact ⟨x.heap.size, rfl, ⟨hx.size, _, Blk.new _ _ _, hr2.keep hX⟩, nest hx hX⟩
end Go.Proofs.Ytbdijeekekaibaa
