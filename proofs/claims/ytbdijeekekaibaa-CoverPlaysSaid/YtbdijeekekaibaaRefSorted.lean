/- Walk of petasosref01.sorted. -/
import Derived.Test.YtbdijeekekaibaaRefCover
namespace Go.Proofs.Ytbdijeekekaibaa
open Go.RowKit Cir Mem
set_option linter.unusedSimpArgs false
set_option linter.unusedVariables false
attribute [local irreducible] Go.Calls

def SortPost (w : World) (l : List (Int × Int)) (e : Ending) (w' : World) : Prop := ∃ v, e = .returned v ∧ Row (pairE .u64) 58 w.heap.size w' v l ∧ Below w.heap.size w w'
set_option maxHeartbeats 4000000 in
theorem rsorted_any (B : Nat) (v : Value) (l : List (Int × Int)) (w : World) (h : Row (pairE .u64) 58 B w v l) (hl : l.length ≤ 1000) :
    Calls Try.prog 25 #[v] w (SortPost w (srt l)) := by
  obtain ⟨a, g, c, rfl, hlc, hcm, ha, hc⟩ := h.loop
  have HA := Lib.hid ha
  have HC := Lib.hid hc
  clear ha hc h hlc hcm
  go_enter Try.func25, Try.ntmps25
  go_wp2_with fail
  go_loopw [3, 4, 5] (fun o i kv wr => ∃ k : Nat, k ≤ l.length ∧ i = .int .i64 k ∧ Row (pairE .u64) 58 w.heap.size wr o (srt (l.take k)) ∧ Below w.heap.size w wr) (fun _ i _ _ => l.length - (intOf i).toNat)
  case atStart => exact ⟨0, Nat.zero_le _, rfl, by rw [List.take_zero, srt_nil]; exact Row.nil, Below.refl _ _⟩
  case round =>
    obtain ⟨k, hk, rfl, hro, hb⟩ := hrel
    by_cases hlt : k < l.length
    · obtain ⟨rfl, hg⟩ := HA.out (by omega)
      have d1 := (hb.cell (p := ⟨g, k * 2, none⟩) hg).trans (HC.out k hlt).1
      have d2 := (hb.cell (p := ⟨g, k * 2 + 1, none⟩) hg).trans (HC.out k hlt).2
      have hst := Lib.hid (srt_take l k hlt)
      have hol : (srt (l.take k)).length ≤ 1000 := by have h1 := (srt_facts (l.take k)).2.2; have h2 := List.length_take_le k l; omega
      generalize l.getD k (0, 0) = x at *
      obtain ⟨p, q⟩ := x
      simp only [] at d1 d2
      generalize srt (l.take k) = out at *
      obtain ⟨ao, go, co, rfl, hoc, hom, hao, hocell⟩ := hro.loop
      have HAO := Lib.hid hao
      have HOC := Lib.hid hocell
      have HRO := Lib.hid hro
      clear hao hocell hro
      go_wp2_with fail
      go_loopw [5] (fun j wi => ∃ m : Nat, m ≤ out.length ∧ j = .int .i64 m ∧ posN out (p, q) m = posN out (p, q) out.length ∧ Below wr.heap.size wr wi) (fun j _ => (intOf j).toNat)
      case atStart => exact ⟨out.length, Nat.le_refl _, rfl, rfl, Below.refl _ _⟩
      case round =>
        obtain ⟨m, hm, rfl, hpos, hbi⟩ := hrel
        have HPOS := Lib.hid hpos
        clear hpos
        have i6 : (k : Int) < (l.length : Int) := by omega
        by_cases hm0 : m = 0
        · have hposm : posN out (p, q) m = m := by rw [hm0]; rfl
          have HPM := Lib.hid hposm
          have e0 : ¬ (0 : Int) < (m : Int) := by omega
          have e1 : ¬ 0 < m := by omega
          have HM0 := Lib.hid hm0
          clear hm0
          have x1 := kc hbi d1
          clear hposm
          go_wp2_with fail
          refine Run.region_walk (S := fun z => z.cell? ⟨g, k * 2, none⟩ = some (.int .u64 p) ∧ Below wr.heap.size wr z)
            rsorted.rows5 rsorted.plan5 (l := ?_) (by kernel_rfl) (by kernel_rfl) (by kernel_rfl) (by kernel_rfl) ?_ ⟨x1, (Below.refl _ _).drew⟩ ?_
          rotate_left
          (· simp only [rsorted.plan5, Run.stepsOf, Run.stepOf, Run.guardOf, List.getElem?_toArray, List.getElem?_cons_zero, List.getElem?_cons_succ, Option.map_some, Option.map_none, Option.bind_some, Option.toList_some, List.map_cons, List.map_nil, List.cons_append, List.nil_append]
             rfl)
          repeat ((first
            | (refine Run.takes (v := ?_) ?_ ?_; rotate_left; (· intro w' hS'; go_simp; (try with_reducible rfl)))
            | (refine Run.takesG (v := ?_) ?_ ?_ ?_; rotate_left; (· simp only [List.getElem?_cons_zero, List.getElem?_cons_succ]); (· intro w' hS'; go_simp; (try with_reducible rfl)))
            | (refine Run.skipsT ?_ ?_; (· simp only [List.getElem?_cons_zero, List.getElem?_cons_succ]))
            | (refine Run.skipsF ?_ ?_; (· simp only [List.getElem?_cons_zero, List.getElem?_cons_succ]))
            | (refine Run.skipsU ?_ ?_; (· simp only [List.getElem?_cons_zero, List.getElem?_cons_succ]))
            | (refine Run.passT ?_ ?_; (· simp only [List.getElem?_cons_zero, List.getElem?_cons_succ]))
            | (refine Run.passF ?_ ?_; (· simp only [List.getElem?_cons_zero, List.getElem?_cons_succ]))
            | (refine Run.passU ?_ ?_; (· simp only [List.getElem?_cons_zero, List.getElem?_cons_succ]))
            | fail); simp only [Act.put, List.setIfInBounds_toArray, List.set_cons_zero, List.set_cons_succ])
          refine Run.ends (fun hS => ?_)
          have hbi2 := nest hbi hS.2
          clear hS x1 hbi e0 e1
          have hbi := hbi2
          clear hbi2
          generalize wr.drew = wj at *
          have hpm : posN out (p, q) out.length = m := by rw [← HPOS.out]; exact HPM.out
          have hins : ins out (p, q) = out.take m ++ ([(p, q)] ++ out.drop m) := by unfold ins; rw [hpm]
          have HINS := Lib.hid hins
          clear hpm hins
          have hcut1 := run_cut_to partElem ao out.length co m (by omega)
          have hcut2 := run_cut_from partElem ao out.length co m hm hoc
          have hro2 := (HRO.out.keep hbi).rd
          have g0 : Rd (pairE .u64) wj (.slice (cutA ao co 0 2) m co) (out.take m) := by
            have h9 : Rd (pairE .u64) wj (.slice (cutA ao co 0 2) (m - 0) (co - 0)) ((out.take m).drop 0) := hro2.cutA (Nat.zero_le _) hm
            simpa using h9
          have g2 : Rd (pairE .u64) wj (.slice (cutA ao co m 2) (out.length - m) (co - m)) (out.drop m) := by
            have h9 : Rd (pairE .u64) wj (.slice (cutA ao co m 2) (out.length - m) (co - m)) ((out.take out.length).drop m) := hro2.cutA hm (Nat.le_refl _)
            simpa using h9
          have G0 := Lib.hid g0
          have G2 := Lib.hid g2
          have x1 := kc hbi d1
          have x2 := kc hbi d2
          have hbw := nest hb hbi
          have htl : (out.take m).length ≤ 1000 := by rw [List.length_take]; omega
          have hdl : (out.drop m).length ≤ 1000 := by rw [List.length_drop]; omega
          clear g0 g2 hro2 HPM
          go_wp2_with fail
          refine Run.region_walk (S := fun z => z.cell? ⟨g, k * 2, none⟩ = some (.int .u64 p) ∧ z.cell? ⟨g, k * 2 + 1, none⟩ = some (.int .u64 q) ∧ Below wj.heap.size wj z)
            rsorted.rows7 rsorted.plan7 (l := ?_) (by kernel_rfl) (by kernel_rfl) (by kernel_rfl) (by kernel_rfl) ?_ ⟨x1, x2, (Below.refl _ _).drew⟩ ?_
          rotate_left
          (· simp only [rsorted.plan7, Run.stepsOf, Run.stepOf, Run.guardOf, List.getElem?_toArray, List.getElem?_cons_zero, List.getElem?_cons_succ, Option.map_some, Option.map_none, Option.bind_some, Option.toList_some, List.map_cons, List.map_nil, List.cons_append, List.nil_append]
             rfl)
          repeat ((first
            | (refine Run.takes (v := ?_) ?_ ?_; rotate_left; (· intro w' hS'; go_simp; (try with_reducible rfl)))
            | (refine Run.takesG (v := ?_) ?_ ?_ ?_; rotate_left; (· simp only [List.getElem?_cons_zero, List.getElem?_cons_succ]); (· intro w' hS'; go_simp; (try with_reducible rfl)))
            | (refine Run.skipsT ?_ ?_; (· simp only [List.getElem?_cons_zero, List.getElem?_cons_succ]))
            | (refine Run.skipsF ?_ ?_; (· simp only [List.getElem?_cons_zero, List.getElem?_cons_succ]))
            | (refine Run.skipsU ?_ ?_; (· simp only [List.getElem?_cons_zero, List.getElem?_cons_succ]))
            | (refine Run.passT ?_ ?_; (· simp only [List.getElem?_cons_zero, List.getElem?_cons_succ]))
            | (refine Run.passF ?_ ?_; (· simp only [List.getElem?_cons_zero, List.getElem?_cons_succ]))
            | (refine Run.passU ?_ ?_; (· simp only [List.getElem?_cons_zero, List.getElem?_cons_succ]))
            | fail); simp only [Act.put, List.setIfInBounds_toArray, List.set_cons_zero, List.set_cons_succ])
          refine Run.both ?_ ?_
          all_goals first
            | (refine Run.one (fun hS K hK => ?_)
               refine wp_append (E := pairE .u64) (B := wj.heap.size) (T := 58) (v := .slice none 0 0) (l := []) (m := out.take m) (bytes := 16) partElem Nat.zero_lt_two (.const (.slice none 0 0)) (.tmp 34) rfl rfl Row.nil rfl (G0.out.keep hS.2.2) (by simp only [maxLen, List.length_nil]; omega) (by simp only [List.length_nil]; omega) hS.2.2.size ?_
               intro v1 z1 hr1 hk1 hg1 _
               have hb1 : Below wj.heap.size wj z1 := hS.2.2.trans hk1
               refine hK.out _ _ ⟨hg1.cell hS.1 (by simp [Value.ownBlock]), hg1.cell hS.2.1 (by simp [Value.ownBlock]), hb1⟩ ?_
               clear hK K hS hk1 hg1
               simp only [Act.put, List.setIfInBounds_toArray, List.set_cons_zero, List.set_cons_succ]
               refine Run.one (fun hS K hK => ?_)
               go_simp
               have hX := more (Below.refl z1.heap.size z1) (Obj.cells #[Value.int IntKind.u64 p, Value.int IntKind.u64 q] 58)
               have hr2 := hr1.keep hX
               have hf : Rd (pairE .u64) (z1.alloc (Obj.cells #[Value.int IntKind.u64 p, Value.int IntKind.u64 q] 58)) (.slice (some ⟨z1.heap.size, 0, none⟩) 1 1) [(p, q)] := Rd.fresh z1 _ _ _ _ rfl rfl
               refine hK.out _ _ ⟨kc hX hS.1, kc hX hS.2.1, nest hS.2.2 hX⟩ ?_
               clear hK K hS hr1
               generalize hZ : z1.alloc (Obj.cells #[Value.int IntKind.u64 p, Value.int IntKind.u64 q] 58) = z2 at *)
            | (refine Run.one (fun hS K hK => ?_)
               go_simp
               have hX := (more (Below.refl wj.heap.size wj) (Obj.cells #[Value.int IntKind.u64 p, Value.int IntKind.u64 q] 58)).drew
               have hf0 : Rd (pairE .u64) (wj.alloc (Obj.cells #[Value.int IntKind.u64 p, Value.int IntKind.u64 q] 58)).drew (.slice (some ⟨wj.heap.size, 0, none⟩) 1 1) [(p, q)] := (Rd.fresh wj _ _ _ _ rfl rfl).keep (Below.refl _ _).drew
               refine hK.out _ _ ⟨kc hX x1, kc hX x2, hX⟩ ?_
               clear hK K hS
               generalize hZ : (wj.alloc (Obj.cells #[Value.int IntKind.u64 p, Value.int IntKind.u64 q] 58)).drew = z1 at *
               refine Run.one (fun hS K hK => ?_)
               refine wp_append (E := pairE .u64) (B := wj.heap.size) (T := 58) (v := .slice none 0 0) (l := []) (m := out.take m) (bytes := 16) partElem Nat.zero_lt_two (.const (.slice none 0 0)) (.tmp 34) rfl rfl Row.nil rfl (G0.out.keep hS.2.2) (by simp only [maxLen, List.length_nil]; omega) (by simp only [List.length_nil]; omega) hS.2.2.size ?_
               intro v1 z2 hr2 hk1 hg1 _
               have hb1 : Below wj.heap.size wj z2 := hS.2.2.trans hk1
               have hf : Rd (pairE .u64) z2 (.slice (some ⟨wj.heap.size, 0, none⟩) 1 1) [(p, q)] := hf0.keep (grown_below hg1 (Nat.le_refl _) (fun k hk => by simp [Value.ownBlock] at hk))
               refine hK.out _ _ ⟨hg1.cell hS.1 (by simp [Value.ownBlock]), hg1.cell hS.2.1 (by simp [Value.ownBlock]), hb1⟩ ?_
               clear hK K hS hk1 hg1 hf0
               simp only [Act.put, List.setIfInBounds_toArray, List.set_cons_zero, List.set_cons_succ])
          all_goals rw [List.nil_append] at hr2
          all_goals refine Run.runs (Run.one (fun hS K hK => ?_))
          all_goals refine wp_append (E := pairE .u64) (B := wj.heap.size) (T := 58) (l := out.take m) (m := [(p, q)]) (bytes := 16) partElem Nat.zero_lt_two (.tmp 35) (.tmp 40) rfl rfl hr2 rfl hf (by simp only [maxLen, List.length_cons, List.length_nil]; omega) (by simp only [List.length_cons, List.length_nil]; omega) hS.2.2.size ?_
          all_goals intro v3 z3 hr3 hk3 _ _
          all_goals have hb3 : Below wj.heap.size wj z3 := hS.2.2.trans hk3
          all_goals refine hK.out _ _ ⟨kc hb3 x1, kc hb3 x2, hb3⟩ ?_
          all_goals clear hK K hS hr2 hf hk3
          all_goals simp only [Act.put, List.setIfInBounds_toArray, List.set_cons_zero, List.set_cons_succ]
          all_goals refine Run.runs (Run.one (fun hS K hK => ?_))
          all_goals refine wp_append (E := pairE .u64) (B := wj.heap.size) (T := 58) (l := out.take m ++ [(p, q)]) (m := out.drop m) (bytes := 16) partElem Nat.zero_lt_two (.tmp 41) (.tmp 44) rfl rfl hr3 rfl (G2.out.keep hS.2.2) (by simp only [maxLen, List.length_append, List.length_cons, List.length_nil]; omega) (by simp only [List.length_append, List.length_cons, List.length_nil]; omega) hS.2.2.size ?_
          all_goals intro v4 z4 hr4 hk4 _ _
          all_goals have hb4 : Below wj.heap.size wj z4 := hS.2.2.trans hk4
          all_goals refine hK.out _ _ ⟨kc hb4 x1, kc hb4 x2, hb4⟩ ?_
          all_goals clear hK K hS hr3 hk4
          all_goals simp only [Act.put, List.setIfInBounds_toArray, List.set_cons_zero, List.set_cons_succ]
          all_goals
            repeat ((first
              | (refine Run.takes (v := ?_) ?_ ?_; rotate_left; (· intro w' hS'; go_simp; (try with_reducible rfl)))
              | (refine Run.takesG (v := ?_) ?_ ?_ ?_; rotate_left; (· simp only [List.getElem?_cons_zero, List.getElem?_cons_succ]); (· intro w' hS'; go_simp; (try with_reducible rfl)))
              | (refine Run.skipsT ?_ ?_; (· simp only [List.getElem?_cons_zero, List.getElem?_cons_succ]))
              | (refine Run.skipsF ?_ ?_; (· simp only [List.getElem?_cons_zero, List.getElem?_cons_succ]))
              | (refine Run.skipsU ?_ ?_; (· simp only [List.getElem?_cons_zero, List.getElem?_cons_succ]))
              | (refine Run.passT ?_ ?_; (· simp only [List.getElem?_cons_zero, List.getElem?_cons_succ]))
              | (refine Run.passF ?_ ?_; (· simp only [List.getElem?_cons_zero, List.getElem?_cons_succ]))
              | (refine Run.passU ?_ ?_; (· simp only [List.getElem?_cons_zero, List.getElem?_cons_succ]))
              | fail); simp only [Act.put, List.setIfInBounds_toArray, List.set_cons_zero, List.set_cons_succ])
          all_goals refine Run.ends (fun _ => ?_)
          all_goals rw [List.append_assoc, ← HINS.out] at hr4
          all_goals clear hcut1 hcut2 x1 x2
          all_goals go_wp2_with fail
          all_goals
            go_roundw
            case rel => exact ⟨k + 1, by omega, by go_num, by rw [hst.out]; exact hr4.mono hbw.size, nest hbw hb4⟩
            case measure => simp [intOf]; omega
        · obtain ⟨m', hm'⟩ : ∃ m', m = m' + 1 := ⟨m - 1, by omega⟩
          obtain ⟨rfl, hgo⟩ := HAO.out (by omega)
          have d3 := (hbi.cell (p := ⟨go, m' * 2, none⟩) hgo).trans (HOC.out m' (by omega)).1
          have x1 := kc hbi d1
          have hp1 : posN out (p, q) m = if p < (out.getD m' (0, 0)).1 then posN out (p, q) m' else m := by rw [hm', posN]
          have HP1 := Lib.hid hp1
          clear hp1
          generalize (out.getD m' (0, 0)).1 = p' at *
          have i1 : IntKind.i64.wrap ((m : Int) - 1) = (m' : Int) := by rw [show (m : Int) - 1 = (m' : Int) from by omega]; exact IntWalk.i64_in _ (by omega)
          have i5 : (m' : Int) < (out.length : Int) := by omega
          have i9 : 0 < (m : Int) := by omega
          have i10 : 0 < m := by omega
          have HM' := Lib.hid hm'
          clear hm'
          by_cases hpp : p < p'
          · go_wp2_with fail
            refine Run.region_walk (S := fun z => z.cell? ⟨g, k * 2, none⟩ = some (.int .u64 p) ∧ z.cell? ⟨go, m' * 2, none⟩ = some (.int .u64 p') ∧ Below wr.heap.size wr z)
              rsorted.rows5 rsorted.plan5 (l := ?_) (by kernel_rfl) (by kernel_rfl) (by kernel_rfl) (by kernel_rfl) ?_ ⟨x1, d3, (Below.refl _ _).drew⟩ ?_
            rotate_left
            (· simp only [rsorted.plan5, Run.stepsOf, Run.stepOf, Run.guardOf, List.getElem?_toArray, List.getElem?_cons_zero, List.getElem?_cons_succ, Option.map_some, Option.map_none, Option.bind_some, Option.toList_some, List.map_cons, List.map_nil, List.cons_append, List.nil_append]
               rfl)
            repeat ((first
              | (refine Run.takes (v := ?_) ?_ ?_; rotate_left; (· intro w' hS'; go_simp; (try with_reducible rfl)))
              | (refine Run.takesG (v := ?_) ?_ ?_ ?_; rotate_left; (· simp only [List.getElem?_cons_zero, List.getElem?_cons_succ]); (· intro w' hS'; go_simp; (try with_reducible rfl)))
              | (refine Run.skipsT ?_ ?_; (· simp only [List.getElem?_cons_zero, List.getElem?_cons_succ]))
              | (refine Run.skipsF ?_ ?_; (· simp only [List.getElem?_cons_zero, List.getElem?_cons_succ]))
              | (refine Run.skipsU ?_ ?_; (· simp only [List.getElem?_cons_zero, List.getElem?_cons_succ]))
              | (refine Run.passT ?_ ?_; (· simp only [List.getElem?_cons_zero, List.getElem?_cons_succ]))
              | (refine Run.passF ?_ ?_; (· simp only [List.getElem?_cons_zero, List.getElem?_cons_succ]))
              | (refine Run.passU ?_ ?_; (· simp only [List.getElem?_cons_zero, List.getElem?_cons_succ]))
              | fail); simp only [Act.put, List.setIfInBounds_toArray, List.set_cons_zero, List.set_cons_succ])
            refine Run.ends (fun hS => ?_)
            have hbi2 := nest hbi hS.2.2
            clear hS x1 d3 i1
            have k1 : (m : Int) - 1 = (m' : Int) := by have := HM'.out; omega
            go_wp2_with fail
            go_roundw
            case rel => exact ⟨m', by have := HM'.out; omega, by first | rfl | (congr 1), by rw [← HPOS.out, HP1.out, if_pos hpp], hbi2⟩
            case measure => have := HM'.out; simp [intOf]; omega
          · have hpf : decide (p < p') = false := by simpa using hpp
            go_wp2_with fail
            refine Run.region_walk (S := fun z => z.cell? ⟨g, k * 2, none⟩ = some (.int .u64 p) ∧ z.cell? ⟨go, m' * 2, none⟩ = some (.int .u64 p') ∧ Below wr.heap.size wr z)
              rsorted.rows5 rsorted.plan5 (l := ?_) (by kernel_rfl) (by kernel_rfl) (by kernel_rfl) (by kernel_rfl) ?_ ⟨x1, d3, (Below.refl _ _).drew⟩ ?_
            rotate_left
            (· simp only [rsorted.plan5, Run.stepsOf, Run.stepOf, Run.guardOf, List.getElem?_toArray, List.getElem?_cons_zero, List.getElem?_cons_succ, Option.map_some, Option.map_none, Option.bind_some, Option.toList_some, List.map_cons, List.map_nil, List.cons_append, List.nil_append]
               rfl)
            repeat ((first
              | (refine Run.takes (v := ?_) ?_ ?_; rotate_left; (· intro w' hS'; go_simp; (try with_reducible rfl)))
              | (refine Run.takesG (v := ?_) ?_ ?_ ?_; rotate_left; (· simp only [List.getElem?_cons_zero, List.getElem?_cons_succ]); (· intro w' hS'; go_simp; (try with_reducible rfl)))
              | (refine Run.skipsT ?_ ?_; (· simp only [List.getElem?_cons_zero, List.getElem?_cons_succ]))
              | (refine Run.skipsF ?_ ?_; (· simp only [List.getElem?_cons_zero, List.getElem?_cons_succ]))
              | (refine Run.skipsU ?_ ?_; (· simp only [List.getElem?_cons_zero, List.getElem?_cons_succ]))
              | (refine Run.passT ?_ ?_; (· simp only [List.getElem?_cons_zero, List.getElem?_cons_succ]))
              | (refine Run.passF ?_ ?_; (· simp only [List.getElem?_cons_zero, List.getElem?_cons_succ]))
              | (refine Run.passU ?_ ?_; (· simp only [List.getElem?_cons_zero, List.getElem?_cons_succ]))
              | fail); simp only [Act.put, List.setIfInBounds_toArray, List.set_cons_zero, List.set_cons_succ])
            refine Run.ends (fun hS => ?_)
            have hbi2 := nest hbi hS.2.2
            have hposm : posN out (p, q) m = m := by rw [HP1.out, if_neg (by omega)]
            have HPM := Lib.hid hposm
            clear hS x1 d3 hbi hposm hpf i1
            have hbi := hbi2
            clear hbi2
            generalize wr.drew = wj at *
            have hpm : posN out (p, q) out.length = m := by rw [← HPOS.out]; exact HPM.out
            have hins : ins out (p, q) = out.take m ++ ([(p, q)] ++ out.drop m) := by unfold ins; rw [hpm]
            have HINS := Lib.hid hins
            clear hpm hins
            have hcut1 := run_cut_to partElem (some ⟨go, 0, none⟩) out.length co m (by omega)
            have hcut2 := run_cut_from partElem (some ⟨go, 0, none⟩) out.length co m hm hoc
            have hro2 := (HRO.out.keep hbi).rd
            have g0 : Rd (pairE .u64) wj (.slice (cutA (some ⟨go, 0, none⟩) co 0 2) m co) (out.take m) := by
              have h9 : Rd (pairE .u64) wj (.slice (cutA (some ⟨go, 0, none⟩) co 0 2) (m - 0) (co - 0)) ((out.take m).drop 0) := hro2.cutA (Nat.zero_le _) hm
              simpa using h9
            have g2 : Rd (pairE .u64) wj (.slice (cutA (some ⟨go, 0, none⟩) co m 2) (out.length - m) (co - m)) (out.drop m) := by
              have h9 : Rd (pairE .u64) wj (.slice (cutA (some ⟨go, 0, none⟩) co m 2) (out.length - m) (co - m)) ((out.take out.length).drop m) := hro2.cutA hm (Nat.le_refl _)
              simpa using h9
            have G0 := Lib.hid g0
            have G2 := Lib.hid g2
            have x1 := kc hbi d1
            have x2 := kc hbi d2
            have hbw := nest hb hbi
            have htl : (out.take m).length ≤ 1000 := by rw [List.length_take]; omega
            have hdl : (out.drop m).length ≤ 1000 := by rw [List.length_drop]; omega
            clear g0 g2 hro2 HPM
            go_wp2_with fail
            refine Run.region_walk (S := fun z => z.cell? ⟨g, k * 2, none⟩ = some (.int .u64 p) ∧ z.cell? ⟨g, k * 2 + 1, none⟩ = some (.int .u64 q) ∧ Below wj.heap.size wj z)
              rsorted.rows7 rsorted.plan7 (l := ?_) (by kernel_rfl) (by kernel_rfl) (by kernel_rfl) (by kernel_rfl) ?_ ⟨x1, x2, (Below.refl _ _).drew⟩ ?_
            rotate_left
            (· simp only [rsorted.plan7, Run.stepsOf, Run.stepOf, Run.guardOf, List.getElem?_toArray, List.getElem?_cons_zero, List.getElem?_cons_succ, Option.map_some, Option.map_none, Option.bind_some, Option.toList_some, List.map_cons, List.map_nil, List.cons_append, List.nil_append]
               rfl)
            repeat ((first
              | (refine Run.takes (v := ?_) ?_ ?_; rotate_left; (· intro w' hS'; go_simp; (try with_reducible rfl)))
              | (refine Run.takesG (v := ?_) ?_ ?_ ?_; rotate_left; (· simp only [List.getElem?_cons_zero, List.getElem?_cons_succ]); (· intro w' hS'; go_simp; (try with_reducible rfl)))
              | (refine Run.skipsT ?_ ?_; (· simp only [List.getElem?_cons_zero, List.getElem?_cons_succ]))
              | (refine Run.skipsF ?_ ?_; (· simp only [List.getElem?_cons_zero, List.getElem?_cons_succ]))
              | (refine Run.skipsU ?_ ?_; (· simp only [List.getElem?_cons_zero, List.getElem?_cons_succ]))
              | (refine Run.passT ?_ ?_; (· simp only [List.getElem?_cons_zero, List.getElem?_cons_succ]))
              | (refine Run.passF ?_ ?_; (· simp only [List.getElem?_cons_zero, List.getElem?_cons_succ]))
              | (refine Run.passU ?_ ?_; (· simp only [List.getElem?_cons_zero, List.getElem?_cons_succ]))
              | fail); simp only [Act.put, List.setIfInBounds_toArray, List.set_cons_zero, List.set_cons_succ])
            refine Run.both ?_ ?_
            all_goals first
              | (refine Run.one (fun hS K hK => ?_)
                 refine wp_append (E := pairE .u64) (B := wj.heap.size) (T := 58) (v := .slice none 0 0) (l := []) (m := out.take m) (bytes := 16) partElem Nat.zero_lt_two (.const (.slice none 0 0)) (.tmp 34) rfl rfl Row.nil rfl (G0.out.keep hS.2.2) (by simp only [maxLen, List.length_nil]; omega) (by simp only [List.length_nil]; omega) hS.2.2.size ?_
                 intro v1 z1 hr1 hk1 hg1 _
                 have hb1 : Below wj.heap.size wj z1 := hS.2.2.trans hk1
                 refine hK.out _ _ ⟨hg1.cell hS.1 (by simp [Value.ownBlock]), hg1.cell hS.2.1 (by simp [Value.ownBlock]), hb1⟩ ?_
                 clear hK K hS hk1 hg1
                 simp only [Act.put, List.setIfInBounds_toArray, List.set_cons_zero, List.set_cons_succ]
                 refine Run.one (fun hS K hK => ?_)
                 go_simp
                 have hX := more (Below.refl z1.heap.size z1) (Obj.cells #[Value.int IntKind.u64 p, Value.int IntKind.u64 q] 58)
                 have hr2 := hr1.keep hX
                 have hf : Rd (pairE .u64) (z1.alloc (Obj.cells #[Value.int IntKind.u64 p, Value.int IntKind.u64 q] 58)) (.slice (some ⟨z1.heap.size, 0, none⟩) 1 1) [(p, q)] := Rd.fresh z1 _ _ _ _ rfl rfl
                 refine hK.out _ _ ⟨kc hX hS.1, kc hX hS.2.1, nest hS.2.2 hX⟩ ?_
                 clear hK K hS hr1
                 generalize hZ : z1.alloc (Obj.cells #[Value.int IntKind.u64 p, Value.int IntKind.u64 q] 58) = z2 at *)
              | (refine Run.one (fun hS K hK => ?_)
                 go_simp
                 have hX := (more (Below.refl wj.heap.size wj) (Obj.cells #[Value.int IntKind.u64 p, Value.int IntKind.u64 q] 58)).drew
                 have hf0 : Rd (pairE .u64) (wj.alloc (Obj.cells #[Value.int IntKind.u64 p, Value.int IntKind.u64 q] 58)).drew (.slice (some ⟨wj.heap.size, 0, none⟩) 1 1) [(p, q)] := (Rd.fresh wj _ _ _ _ rfl rfl).keep (Below.refl _ _).drew
                 refine hK.out _ _ ⟨kc hX x1, kc hX x2, hX⟩ ?_
                 clear hK K hS
                 generalize hZ : (wj.alloc (Obj.cells #[Value.int IntKind.u64 p, Value.int IntKind.u64 q] 58)).drew = z1 at *
                 refine Run.one (fun hS K hK => ?_)
                 refine wp_append (E := pairE .u64) (B := wj.heap.size) (T := 58) (v := .slice none 0 0) (l := []) (m := out.take m) (bytes := 16) partElem Nat.zero_lt_two (.const (.slice none 0 0)) (.tmp 34) rfl rfl Row.nil rfl (G0.out.keep hS.2.2) (by simp only [maxLen, List.length_nil]; omega) (by simp only [List.length_nil]; omega) hS.2.2.size ?_
                 intro v1 z2 hr2 hk1 hg1 _
                 have hb1 : Below wj.heap.size wj z2 := hS.2.2.trans hk1
                 have hf : Rd (pairE .u64) z2 (.slice (some ⟨wj.heap.size, 0, none⟩) 1 1) [(p, q)] := hf0.keep (grown_below hg1 (Nat.le_refl _) (fun k hk => by simp [Value.ownBlock] at hk))
                 refine hK.out _ _ ⟨hg1.cell hS.1 (by simp [Value.ownBlock]), hg1.cell hS.2.1 (by simp [Value.ownBlock]), hb1⟩ ?_
                 clear hK K hS hk1 hg1 hf0
                 simp only [Act.put, List.setIfInBounds_toArray, List.set_cons_zero, List.set_cons_succ])
            all_goals rw [List.nil_append] at hr2
            all_goals refine Run.runs (Run.one (fun hS K hK => ?_))
            all_goals refine wp_append (E := pairE .u64) (B := wj.heap.size) (T := 58) (l := out.take m) (m := [(p, q)]) (bytes := 16) partElem Nat.zero_lt_two (.tmp 35) (.tmp 40) rfl rfl hr2 rfl hf (by simp only [maxLen, List.length_cons, List.length_nil]; omega) (by simp only [List.length_cons, List.length_nil]; omega) hS.2.2.size ?_
            all_goals intro v3 z3 hr3 hk3 _ _
            all_goals have hb3 : Below wj.heap.size wj z3 := hS.2.2.trans hk3
            all_goals refine hK.out _ _ ⟨kc hb3 x1, kc hb3 x2, hb3⟩ ?_
            all_goals clear hK K hS hr2 hf hk3
            all_goals simp only [Act.put, List.setIfInBounds_toArray, List.set_cons_zero, List.set_cons_succ]
            all_goals refine Run.runs (Run.one (fun hS K hK => ?_))
            all_goals refine wp_append (E := pairE .u64) (B := wj.heap.size) (T := 58) (l := out.take m ++ [(p, q)]) (m := out.drop m) (bytes := 16) partElem Nat.zero_lt_two (.tmp 41) (.tmp 44) rfl rfl hr3 rfl (G2.out.keep hS.2.2) (by simp only [maxLen, List.length_append, List.length_cons, List.length_nil]; omega) (by simp only [List.length_append, List.length_cons, List.length_nil]; omega) hS.2.2.size ?_
            all_goals intro v4 z4 hr4 hk4 _ _
            all_goals have hb4 : Below wj.heap.size wj z4 := hS.2.2.trans hk4
            all_goals refine hK.out _ _ ⟨kc hb4 x1, kc hb4 x2, hb4⟩ ?_
            all_goals clear hK K hS hr3 hk4
            all_goals simp only [Act.put, List.setIfInBounds_toArray, List.set_cons_zero, List.set_cons_succ]
            all_goals
              repeat ((first
                | (refine Run.takes (v := ?_) ?_ ?_; rotate_left; (· intro w' hS'; go_simp; (try with_reducible rfl)))
                | (refine Run.takesG (v := ?_) ?_ ?_ ?_; rotate_left; (· simp only [List.getElem?_cons_zero, List.getElem?_cons_succ]); (· intro w' hS'; go_simp; (try with_reducible rfl)))
                | (refine Run.skipsT ?_ ?_; (· simp only [List.getElem?_cons_zero, List.getElem?_cons_succ]))
                | (refine Run.skipsF ?_ ?_; (· simp only [List.getElem?_cons_zero, List.getElem?_cons_succ]))
                | (refine Run.skipsU ?_ ?_; (· simp only [List.getElem?_cons_zero, List.getElem?_cons_succ]))
                | (refine Run.passT ?_ ?_; (· simp only [List.getElem?_cons_zero, List.getElem?_cons_succ]))
                | (refine Run.passF ?_ ?_; (· simp only [List.getElem?_cons_zero, List.getElem?_cons_succ]))
                | (refine Run.passU ?_ ?_; (· simp only [List.getElem?_cons_zero, List.getElem?_cons_succ]))
                | fail); simp only [Act.put, List.setIfInBounds_toArray, List.set_cons_zero, List.set_cons_succ])
            all_goals refine Run.ends (fun _ => ?_)
            all_goals rw [List.append_assoc, ← HINS.out] at hr4
            all_goals clear hcut1 hcut2 x1 x2
            all_goals go_wp2_with fail
            all_goals
              go_roundw
              case rel => exact ⟨k + 1, by omega, by go_num, by rw [hst.out]; exact hr4.mono hbw.size, nest hbw hb4⟩
              case measure => simp [intOf]; omega
    · have hkn : k = l.length := by omega
      subst hkn
      rw [List.take_length] at hro
      go_wp2_with fail
      go_ret
      exact ⟨_, rfl, hro, hb⟩
end Go.Proofs.Ytbdijeekekaibaa
