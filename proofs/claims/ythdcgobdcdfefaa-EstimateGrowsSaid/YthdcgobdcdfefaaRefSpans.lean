/- Walk of petasosref01.Spans. -/
import Derived.Test.YthdcgobdcdfefaaPartsWalk
set_option maxRecDepth 4000
namespace Go.Proofs.Ythdcgobdcdfefaa
open Go.RowKit Cir
set_option linter.unusedSimpArgs false
set_option linter.unusedVariables false

/-- the span of a part, from f on -/
def spanP (f : Int) (p : Int × Int) : Int × Int := ((f + p.1) % 4294967296, (f + p.2) % 4294967296)

theorem append_span {o : Oper} {a : Act} {K : Act → World → Prop} {Q : Exit → Act → World → Prop} (w : World) (s x : Operand)
    (ho : o.op = .call { callee := .builtin .append, args := #[s, x], argTypes := #[58, 58] })
    (B : Nat) (v : Value) (l : List (Int × Int)) (p q : Int) (n : Nat) (hs : a.eval s = v) (hown : SpansAt B w v l) (hl : l.length ≤ 1000) (hB : B ≤ w.heap.size) (hn : n = w.heap.size)
    (hx : a.eval x = .slice (some ⟨n, 0, none⟩) 1 1)
    (h : ∀ v' w', SpansAt B w' v' (l ++ [(p, q)]) → Below B w w' → K (a.put o.dst v') w') :
    o.wp Try.prog a (w.alloc (Obj.cells #[Value.int IntKind.u32 p, Value.int IntKind.u32 q] 46)) K Q := by
  subst hn
  obtain ⟨i0, hi, hz0, hz1, hz2⟩ := info_parts spanInfo
  have hown' : w.ownsRow B 46 2 v l.length (flat l) := hown
  refine wp_append_own _ s x 58 ho B 46 i0 (.agg #[.int .u32 0, .int .u32 0]) 2 8 Try.underlying58 hi hz0 hz1 hz2 rfl Nat.zero_lt_two v l.length (flat l) hs (hown'.alloc _)
    ⟨w.heap.size, 0, none⟩ 1 1 [.int .u32 p, .int .u32 q] hx rfl (World.news_of_block (cs := #[.int .u32 p, .int .u32 q]) (t := 46) (fr := (0, 0)) (heap_alloc_new w _)) (by simp [Value.oneCell'])
    (by unfold maxLen; omega) (by omega) (by simp; omega) ?_
  intro v' w1 hown2 hgrow _
  refine h v' w1 ?_ (((Below.refl B w).alloc hB _).grown hgrow (by simp; omega) (fun k hk' => (World.ownsRow.lt hown' k hk').1))
  unfold SpansAt
  rw [flat_snoc, List.length_append]
  exact hown2

set_option maxHeartbeats 4000000 in
theorem rspans_any (f t : Int) (B : Nat) (v : Value) (l : List (Int × Int)) (hl : l.length ≤ 100) (hq0 : ∀ i, i < l.length → 0 ≤ (l.getD i (0, 0)).1 ∧ (l.getD i (0, 0)).1 ≤ 4294967296 ∧ 0 ≤ (l.getD i (0, 0)).2 ∧ (l.getD i (0, 0)).2 ≤ 4294967296)
    (w : World) (hp : PartsAt B w v l) :
    Calls Try.prog 38 #[.agg #[.int .u32 f, .int .u32 t], v] w (CutPost w.heap.size w (l.map (spanP f))) := by
  obtain ⟨a1, g1, n1, rfl, ha1, hl1⟩ := PartsAt.loop hp
  have HA1 := Lib.hid ha1
  have HL1 := Lib.hid hl1
  have HQ := Lib.hid hq0
  clear hq0 ha1 hl1 hp
  go_enter Try.func38, Try.ntmps38
  go_wp2_with fail
  generalize hW : w.alloc (Obj.cells #[Value.int IntKind.u32 f, Value.int IntKind.u32 t] 46) = W
  have hb0 : Below w.heap.size w W := hW ▸ more (Below.refl _ _) _
  have hc0 : W.cell? ⟨w.heap.size, 0, none⟩ = some (.int .u32 f) := by rw [← hW]; simp
  have hwl : w.heap.size < W.heap.size := by rw [← hW]; simp
  clear hW
  go_loopw [5, 6] (fun o i wr => ∃ k : Nat, k ≤ l.length ∧ i = .int .i64 k ∧ SpansAt W.heap.size wr o ((l.take k).map (spanP f)) ∧ Below W.heap.size W wr) (fun _ i _ => l.length - (intOf i).toNat)
  case atStart => exact ⟨0, Nat.zero_le _, rfl, SpansAt.nil _ _, Below.refl _ _⟩
  case round =>
    obtain ⟨k, hkl, rfl, hpo, hb⟩ := hrel
    by_cases hlt : k < l.length
    · obtain ⟨he, hgl⟩ := HA1.out (by omega)
      subst he
      have hbw := nest hb0 hb
      have c0 := (hb.cell (p := ⟨w.heap.size, 0, none⟩) hwl).trans hc0
      have c1 := (hbw.cell (p := ⟨g1, k * 2, none⟩) hgl).trans (HL1.out k hlt).1
      have c2 := (hbw.cell (p := ⟨g1, k * 2 + 1, none⟩) hgl).trans (HL1.out k hlt).2
      have hqq := HQ.out k hlt
      have htk : (l.take (k + 1)).map (spanP f) = (l.take k).map (spanP f) ++ [spanP f (l.getD k (0, 0))] := by
        rw [List.take_succ_eq_append_getElem hlt, List.map_append]; simp [hlt]
      have HTK := Lib.hid htk
      clear htk
      have htl : ((l.take k).map (spanP f)).length ≤ k := by rw [List.length_map]; exact List.length_take_le _ _
      generalize l.getD k (0, 0) = s at *
      obtain ⟨p, q⟩ := s
      simp only [] at c1 c2 hqq
      generalize (l.take k).map (spanP f) = ol at *
      have e1 : IntKind.u32.wrap (f + IntKind.u32.wrap p) = (f + p) % 4294967296 := by rw [IntKind.wrap_u32, IntKind.wrap_u32]; omega
      have e2 : IntKind.u32.wrap (f + IntKind.u32.wrap q) = (f + q) % 4294967296 := by rw [IntKind.wrap_u32, IntKind.wrap_u32]; omega
      go_wp2_with fail
      refine Run.region_walk (S := fun z => z.cell? ⟨w.heap.size, 0, none⟩ = some (.int .u32 f) ∧ z.cell? ⟨g1, k * 2, none⟩ = some (.int .u64 p) ∧ z.cell? ⟨g1, k * 2 + 1, none⟩ = some (.int .u64 q) ∧ Below W.heap.size W z)
        rspans.rows4 rspans.plan4 (l := ?steps1) (by kernel_rfl) (by kernel_rfl) (by kernel_rfl) (by kernel_rfl) ?written1 ⟨c0, c1, c2, hb.drew⟩ ?onward1
      case written1 =>
        simp only [rspans.plan4, Run.stepsOf, Run.stepOf, Run.guardOf, List.getElem?_toArray, List.getElem?_cons_zero, List.getElem?_cons_succ, Option.map_some, Option.map_none, Option.bind_some, Option.toList_some, List.map_cons, List.map_nil, List.cons_append, List.nil_append, List.append_eq]
        rfl
      repeat ((first
        | (refine Run.takes (v := ?_) ?_ ?_; rotate_left; (· intro w' hS'; go_simp; (try with_reducible rfl)))
        | (refine Run.takesG (v := ?_) ?_ ?_ ?_; rotate_left; (· simp only [List.getElem?_cons_zero, List.getElem?_cons_succ]); (· intro w' hS'; go_simp; (try with_reducible rfl)))
        | (refine Run.skipsT ?_ ?_; (· simp only [List.getElem?_cons_zero, List.getElem?_cons_succ]))
        | (refine Run.skipsF ?_ ?_; (· simp only [List.getElem?_cons_zero, List.getElem?_cons_succ]))
        | (refine Run.skipsU ?_ ?_; (· simp only [List.getElem?_cons_zero, List.getElem?_cons_succ]))
        | (refine Run.passT ?_ ?_; (· simp only [List.getElem?_cons_zero, List.getElem?_cons_succ]))
        | (refine Run.passF ?_ ?_; (· simp only [List.getElem?_cons_zero, List.getElem?_cons_succ]))
        | (refine Run.passU ?_ ?_; (· simp only [List.getElem?_cons_zero, List.getElem?_cons_succ]))
        | fail); simp only [Act.put, List.setIfInBounds_toArray, List.set_cons_zero, List.set_cons_succ])
      refine Run.runs (Run.one (fun hS K hK => ?_))
      go_simp
      have hX : Below wr.heap.size wr (wr.alloc (Obj.cells #[Value.int IntKind.u32 ((f + p) % 4294967296), Value.int IntKind.u32 ((f + q) % 4294967296)] 46)).drew := (more (Below.refl _ _) _).drew
      refine hK.out _ _ ⟨kc hX c0, kc hX c1, kc hX c2, nest hb hX⟩ ?_
      clear hK K hS
      refine Run.runs (Run.one (fun hS K hK => ?_))
      refine append_span wr.drew (.tmp 13) (.tmp 33) rfl W.heap.size _ ol ((f + p) % 4294967296) ((f + q) % 4294967296) wr.heap.size rfl (hpo.below (Below.refl _ _).drew) (by omega) hb.size rfl rfl ?_
      intro v9 y hp9 hk9
      have hky : Below W.heap.size W y := hb.trans (((Below.refl _ _).drew).trans hk9)
      have hky2 := nest hb0 hky
      refine hK.out _ _ ⟨(hky.cell (p := ⟨w.heap.size, 0, none⟩) hwl).trans hc0, (hky2.cell (p := ⟨g1, k * 2, none⟩) hgl).trans ((hbw.cell (p := ⟨g1, k * 2, none⟩) hgl).symm.trans c1), (hky2.cell (p := ⟨g1, k * 2 + 1, none⟩) hgl).trans ((hbw.cell (p := ⟨g1, k * 2 + 1, none⟩) hgl).symm.trans c2), hky⟩ ?_
      clear hK K hS hX
      simp only [Act.put, List.setIfInBounds_toArray, List.set_cons_zero, List.set_cons_succ]
      repeat ((first
        | (refine Run.takes (v := ?_) ?_ ?_; rotate_left; (· intro w' hS'; go_simp; (try with_reducible rfl)))
        | (refine Run.takesG (v := ?_) ?_ ?_ ?_; rotate_left; (· simp only [List.getElem?_cons_zero, List.getElem?_cons_succ]); (· intro w' hS'; go_simp; (try with_reducible rfl)))
        | (refine Run.skipsT ?_ ?_; (· simp only [List.getElem?_cons_zero, List.getElem?_cons_succ]))
        | (refine Run.skipsF ?_ ?_; (· simp only [List.getElem?_cons_zero, List.getElem?_cons_succ]))
        | (refine Run.skipsU ?_ ?_; (· simp only [List.getElem?_cons_zero, List.getElem?_cons_succ]))
        | (refine Run.passT ?_ ?_; (· simp only [List.getElem?_cons_zero, List.getElem?_cons_succ]))
        | (refine Run.passF ?_ ?_; (· simp only [List.getElem?_cons_zero, List.getElem?_cons_succ]))
        | (refine Run.passU ?_ ?_; (· simp only [List.getElem?_cons_zero, List.getElem?_cons_succ]))
        | fail); simp only [Act.put, List.setIfInBounds_toArray, List.set_cons_zero, List.set_cons_succ])
      refine Run.ends (fun _ => ?_)
      clear c0 c1 c2 e1 e2
      go_wp2_with fail
      go_roundw
      case rel => exact ⟨k + 1, by omega, by go_num, by rw [HTK.out]; exact hp9, hky⟩
      case measure => simp [intOf]; omega
    · have hkn : k = l.length := by omega
      subst hkn
      rw [List.take_length] at hpo
      go_wp2
      go_ret
      exact ⟨_, rfl, hpo.mono hb0.size, nest hb0 hb⟩
end Go.Proofs.Ythdcgobdcdfefaa
