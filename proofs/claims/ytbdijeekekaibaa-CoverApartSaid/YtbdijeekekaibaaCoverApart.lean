/- Walk of CoverApart. -/
import Derived.Test.YtbdijeekekaibaaCoverAwake
import Derived.Test.YtbdijeekekaibaaApartMath
namespace Go.Proofs.Ytbdijeekekaibaa.coverApart
open Go.RowKit Cir Mem
set_option linter.unusedSimpArgs false
set_option linter.unusedVariables false
attribute [local irreducible] Go.Calls

theorem norm0 (f t : Int) : Norm (beh f t) 0 [(0, beh f t)] := by
  have := beh_bd f t
  exact ⟨Int.le_refl _, by show (0 : Int) < _; omega, Int.le_refl _, trivial⟩

set_option maxRecDepth 100000 in
set_option maxHeartbeats 8000000 in
theorem walk (f t : Int) (bf : 0 ≤ f ∧ f ≤ 4294967295) (bt : 0 ≤ t ∧ t ≤ 4294967295) (v : Value) (ls : List (Int × Int)) (w : World)
    (hv : Rd (pairE .u32) w v ls) (hw : ∀ x ∈ ls, (0 ≤ x.1 ∧ x.1 ≤ 4294967295) ∧ (0 ≤ x.2 ∧ x.2 ≤ 4294967295)) :
    Calls Try.prog 7 #[.agg #[.int .u32 f, .int .u32 t], v] w fun e w' => e = .returned (.bool true) ∧ Below w.heap.size w w' := by
  obtain ⟨a0, c0, rfl, hc1, hc2⟩ := hv.form
  have HV := Lib.hid hv
  have HW := Lib.hid hw
  clear hv hw
  go_enter Try.func7, Try.ntmps7
  go_wp2_with fail
  generalize hW : w.alloc (Obj.cells #[Value.int IntKind.u32 f, Value.int IntKind.u32 t] 24) = W
  have hb0 : Below w.heap.size w W := hW ▸ more (Below.refl _ _) _
  have m0 : W.cell? ⟨w.heap.size, 0, none⟩ = some (.int .u32 f) := by rw [← hW]; simp
  have m1 : W.cell? ⟨w.heap.size, 1, none⟩ = some (.int .u32 t) := by rw [← hW]; simp
  have hwW : w.heap.size < W.heap.size := World.block_lt_of_cell? W _ m0
  clear hW
  refine (cnew_any f t W).mono ?_
  rintro e w1 ⟨b, rfl, hcv, hk1⟩
  have hwb := hcv.1
  replace m0 := kc hk1 m0
  replace m1 := kc hk1 m1
  have hb1 := nest hb0 hk1
  clear hk1
  go_wp2_with fail
  refine (cawake_any w1).mono ?_
  rintro e w2 ⟨rfl, hk2⟩
  replace hcv := hcv.keep hk2
  replace m0 := kc hk2 m0
  replace m1 := kc hk2 m1
  have hb2 := nest hb1 hk2
  clear hk2 hb1
  have bd := beh_bd f t
  by_cases hlong : 30 < ls.length
  · have hl1 : (30 : Int) < (ls.length : Int) := by omega
    go_wp2_with fail
    refine (cawake_any w2).mono ?_
    rintro e w3 ⟨rfl, hk3⟩
    go_wp2_with fail
    go_ret
    exact ⟨rfl, nest hb2 hk3⟩
  · have hl1 : ¬ (30 : Int) < (ls.length : Int) := by omega
    go_wp2_with fail
    go_loopw [6] (fun i wr => ∃ (k : Nat) (l : List (Int × Int)), k ≤ ls.length ∧ i = .int .i64 k ∧ CoverAt W.heap.size wr b f t l ∧ Norm (beh f t) 0 l ∧ l.length ≤ 1 + 2 * k ∧ Off f l (ls.take k) ∧
      wr.cell? ⟨w.heap.size, 0, none⟩ = some (.int .u32 f) ∧ wr.cell? ⟨w.heap.size, 1, none⟩ = some (.int .u32 t) ∧ Below w.heap.size w wr) (fun i _ => ls.length - (intOf i).toNat)
    case atStart => exact ⟨0, _, Nat.zero_le _, rfl, hcv, norm0 f t, by simp, by rw [List.take_zero]; exact off_nil _ _, m0, m1, hb2⟩
    case round =>
      obtain ⟨k, l, hk, rfl, hcw, hn, hll, hoff, q0, q1, hb⟩ := hrel
      have HN := Lib.hid hn
      have HO := Lib.hid hoff
      clear hn hoff m0 m1 hcv
      by_cases hlt : k < ls.length
      · obtain ⟨gc, off, c', hv', _, _, hcell⟩ := (HV.out.keep hb).pairs (by omega)
        injection hv' with e1 e2 e3
        subst e1 e3
        obtain ⟨d1, d2⟩ := hcell k hlt
        have hz := HW.out (ls.getD k (0, 0)) (by simp [List.getD, hlt])
        have hot : Off f l (ls.take k) → ∀ g u, (g, u) = ls.getD k (0, 0) → (0 ≤ g ∧ g ≤ 4294967295) → (0 ≤ u ∧ u ≤ 4294967295) → Off f (addL (prts f t g u) l) (ls.take (k + 1)) := by
          intro h g u e hg hu
          rw [List.take_succ_eq_append_getElem hlt]
          have e2 : ls[k] = (g, u) := by rw [e]; simp [List.getD, hlt]
          rw [e2]
          exact off_add f t l _ g u bf hg hu HN.out h
        have HOT := Lib.hid (hot HO.out)
        generalize ls.getD k (0, 0) = s at *
        obtain ⟨g, u⟩ := s
        simp only [] at d1 d2 hz
        clear hcell e2 hot
        go_wp2_with fail
        refine (cadd_any W.heap.size b f t g u bf bt hz.1 hz.2 l wr hcw HN.out (by omega)).mono ?_
        rintro e w3 ⟨rfl, hc3, ho3⟩
        have hlt2 := prts_lt f t g u hz.1 hz.2
        have hl2 := addL_len _ hlt2 HN.out
        replace hl2 := Nat.le_trans hl2 (Nat.add_le_add_left (prts_bd f t g u hz.1 hz.2).1 _)
        replace q0 := World.grownBy.cell ho3 q0 (by simp; omega)
        replace q1 := World.grownBy.cell ho3 q1 (by simp; omega)
        have hb3 := hb.trans (ho3.below (show w.heap.size ≤ b by omega) hb.size)
        clear ho3 d1 d2
        go_wp2_with fail
        go_roundw
        case rel => exact ⟨k + 1, _, by omega, by go_num, hc3, addL_norm _ hlt2 HN.out, by omega, HOT.out g u rfl hz.1 hz.2, q0, q1, hb3⟩
        case measure => simp [intOf]; omega
      · have hkk : k = ls.length := by omega
        subst hkk
        rw [List.take_length] at HO
        have hlen : l.length ≤ 100 := by omega
        go_wp2_with fail
        refine (cgaps_any W.heap.size b f t (beh f t) l wr hcw HN.out (by omega) (by omega)).mono ?_
        rintro e w6 ⟨v6, rfl, hr6, hk6⟩
        replace hcw := hcw.keep hk6
        replace q0 := kc hk6 q0
        replace q1 := kc hk6 q1
        have hb6 := nest hb hk6
        obtain ⟨ag, gg, cg, rfl, _, _, hag, hgc⟩ := hr6.loop
        rw [List.length_map] at hag hgc
        have HR := Lib.hid hr6
        have HAG := Lib.hid hag
        have HGC := Lib.hid hgc
        clear hr6 hag hgc hk6 hb
        have hlm : (l.map (spanP f)).length = l.length := List.length_map ..
        rw [hlm]
        go_wp2_with fail
        go_loopw [8, 9] (fun s i wr => ∃ k : Nat, k ≤ l.length ∧ i = .int .i64 k ∧ s = .int .u64 (sumL (l.take k)) ∧ Below w6.heap.size w6 wr) (fun _ i _ => l.length - (intOf i).toNat)
        case atStart => exact ⟨0, Nat.zero_le _, rfl, by simp [sumL_nil], Below.refl _ _⟩
        case round =>
          obtain ⟨k, hk, rfl, rfl, hb⟩ := hrel
          by_cases hlt : k < l.length
          · obtain ⟨rfl, hg⟩ := HAG.out (by omega)
            have d1 := (hb.cell (p := ⟨gg, k * 2, none⟩) hg).trans (HGC.out k hlt).1
            have d2 := (hb.cell (p := ⟨gg, k * 2 + 1, none⟩) hg).trans (HGC.out k hlt).2
            have b1 := HN.out.at hlt
            have HS := Lib.hid (sumL_take hlt)
            have s1 := sumL_bd (HN.out.take k) (by omega)
            have s2 := sumL_bd (HN.out.take (k + 1)) (by omega)
            rw [sumL_take hlt] at s2
            have hmem : l.getD k (0, 0) ∈ l := by simp [List.getD, hlt]
            have HPREV := Lib.hid (fun m (h : k = m + 1) => HN.out.le m k (by omega) hlt)
            have hss : ((l.map (spanP f)).getD k (0, 0)) = spanP f (l.getD k (0, 0)) := by simp [List.getD, hlt]
            rw [hss] at d1 d2
            clear hss
            generalize hpq : l.getD k (0, 0) = s at *
            obtain ⟨p, q⟩ := s
            simp only [spanP] at d1 d2 b1 s2
            have HPQ := Lib.hid hpq
            have HBS := Lib.hid (beh_step f p q bf b1.1 b1.2.1 (by omega))
            have HMP := Lib.hid (meet_part f t p q bf bt b1.1 b1.2.1 b1.2.2)
            clear hpq
            have HMEM := Lib.hid hmem
            clear hmem
            generalize sumL (l.take k) = sm at *
            go_wp2_with fail
            refine (rsize_any _ _ (step_bd f p) (step_bd f q) _).mono ?_
            rintro e x ⟨rfl, hkx⟩
            rw [HBS.out]
            have hbx := nest hb hkx
            replace d1 := kc hkx d1
            replace d2 := kc hkx d2
            have m0 := kc hbx q0
            have m1 := kc hbx q1
            clear hkx hb
            by_cases hk0 : k = 0
            · subst hk0
              simp only [Nat.zero_mul, Nat.zero_add] at d1 d2
              go_wp2_with fail
              refine Run.region_walk (S := fun z => z.cell? ⟨w.heap.size, 0, none⟩ = some (.int .u32 f) ∧ z.cell? ⟨w.heap.size, 1, none⟩ = some (.int .u32 t) ∧ z.cell? ⟨gg, 0, none⟩ = some (.int .u32 ((f + p) % 4294967296)) ∧ z.cell? ⟨gg, 1, none⟩ = some (.int .u32 ((f + q) % 4294967296)) ∧ Below x.heap.size x z)
                lapart.rows13 lapart.plan13 (l := ?steps1) (by kernel_rfl) (by kernel_rfl) (by kernel_rfl) (by kernel_rfl) ?written1 ⟨m0, m1, d1, d2, (Below.refl _ _).drew⟩ ?onward1
              case written1 =>
                simp only [lapart.plan13, Run.stepsOf, Run.stepOf, Run.guardOf, List.getElem?_toArray, List.getElem?_cons_zero, List.getElem?_cons_succ, Option.map_some, Option.map_none, Option.bind_some, Option.toList_some, List.map_cons, List.map_nil, List.cons_append, List.nil_append]
                rfl
              repeat ((first
                | (refine Run.takes (v := ?_) ?_ ?_; rotate_left; (· intro w' hS'; go_simp; (try with_reducible rfl)))
                | (refine Run.takesG (v := ?_) ?_ ?_ ?_; rotate_left; (· simp only [List.getElem?_cons_zero, List.getElem?_cons_succ]); (· intro w' hS'; go_simp; (try with_reducible rfl)))
                | (refine Run.skipsT ?_ ?_; (· simp only [List.getElem?_cons_zero, List.getElem?_cons_succ]))
                | (refine Run.skipsF ?_ ?_; (· simp only [List.getElem?_cons_zero, List.getElem?_cons_succ]))
                | (refine Run.skipsU ?_ ?_; (· simp only [List.getElem?_cons_zero, List.getElem?_cons_succ]))
                | (refine Run.passT ?_ ?_; (· simp only [List.getElem?_cons_zero, List.getElem?_cons_succ]))
                | (refine Run.passF ?_ ?_; (· simp only [List.getElem?_cons_zero, List.getElem?_cons_succ]))
                | (refine Run.passU ?_ ?_; (· simp only [List.getElem?_cons_zero, List.getElem?_cons_succ]))
                | fail); simp only [Act.put, List.setIfInBounds_toArray, List.set_cons_zero, List.set_cons_succ])
              refine Run.both ?_ ?_
              all_goals first
                | (refine Run.callF 20 (by kernel_rfl) (fun hS => rmeet_any f t _ _ bf bt (step_bd f p) (step_bd f q) _) rfl ?_
                   rintro hS e z1 ⟨v1, rfl, ho1, hz1⟩
                   refine ⟨_, rfl, ⟨kc hz1 hS.1, kc hz1 hS.2.1, kc hz1 hS.2.2.1, kc hz1 hS.2.2.2.1, nest hS.2.2.2.2 hz1⟩, ?_⟩
                   simp only [Act.put, List.setIfInBounds_toArray, List.set_cons_zero, List.set_cons_succ]
                   clear hS
                   refine Run.one (fun hS K hK => ?_)
                   go_simp
                   have hlt9 := more (Below.refl z1.heap.size z1) (Obj.cells #[Value.int IntKind.u32 ((f + p) % 4294967296), Value.int IntKind.u32 ((f + q) % 4294967296)] 24)
                   have hr1 := SpansAt.below ho1 hlt9
                   have hr2 : Row (pairE .u32) 24 0 (z1.alloc (Obj.cells #[Value.int IntKind.u32 ((f + p) % 4294967296), Value.int IntKind.u32 ((f + q) % 4294967296)] 24)) (.slice (some ⟨z1.heap.size, 0, none⟩) 1 1) [spanP f (p, q)] := Row.lit _ _ _ _ _ _ rfl rfl rfl (Nat.zero_le _) (by simp [maxLen])
                   refine hK.out _ _ ⟨kc hlt9 hS.1, kc hlt9 hS.2.1, kc hlt9 hS.2.2.1, kc hlt9 hS.2.2.2.1, nest hS.2.2.2.2 hlt9⟩ ?_
                   clear hK K hS
                   generalize hZ : z1.alloc (Obj.cells #[Value.int IntKind.u32 ((f + p) % 4294967296), Value.int IntKind.u32 ((f + q) % 4294967296)] 24) = z2 at *
                   skip)
                | (refine Run.one (fun hS K hK => ?_)
                   go_simp
                   have hlt8 := (more (Below.refl x.heap.size x) (Obj.cells #[Value.int IntKind.u32 ((f + p) % 4294967296), Value.int IntKind.u32 ((f + q) % 4294967296)] 24)).drew
                   have hlt9 : Below x.drew.heap.size x.drew (x.alloc (Obj.cells #[Value.int IntKind.u32 ((f + p) % 4294967296), Value.int IntKind.u32 ((f + q) % 4294967296)] 24)).drew := ⟨hlt8.os, hlt8.tape, hlt8.output, hlt8.size, hlt8.block⟩
                   have hr0 : Row (pairE .u32) 24 0 (x.alloc (Obj.cells #[Value.int IntKind.u32 ((f + p) % 4294967296), Value.int IntKind.u32 ((f + q) % 4294967296)] 24)).drew (.slice (some ⟨x.heap.size, 0, none⟩) 1 1) [spanP f (p, q)] := Row.lit _ x _ _ _ _ rfl rfl rfl (Nat.zero_le _) (by simp [maxLen])
                   refine hK.out _ _ ⟨kc hlt9 hS.1, kc hlt9 hS.2.1, kc hlt9 hS.2.2.1, kc hlt9 hS.2.2.2.1, nest hS.2.2.2.2 hlt9⟩ ?_
                   clear hK K hS
                   generalize hZ : (x.alloc (Obj.cells #[Value.int IntKind.u32 ((f + p) % 4294967296), Value.int IntKind.u32 ((f + q) % 4294967296)] 24)).drew = z1 at *
                   refine Run.callF 20 (by kernel_rfl) (fun hS => rmeet_any f t _ _ bf bt (step_bd f p) (step_bd f q) _) rfl ?_
                   rintro hS e z2 ⟨v1, rfl, hr1, hz2⟩
                   refine ⟨_, rfl, ⟨kc hz2 hS.1, kc hz2 hS.2.1, kc hz2 hS.2.2.1, kc hz2 hS.2.2.2.1, nest hS.2.2.2.2 hz2⟩, ?_⟩
                   simp only [Act.put, List.setIfInBounds_toArray, List.set_cons_zero, List.set_cons_succ]
                   have hr2 := hr0.keep hz2
                   clear hS hr0
                   skip)
              all_goals rw [HMP.out] at hr1
              all_goals refine Run.runs (Run.callF 14 (by kernel_rfl) (fun hS => plain_yes _ 0 v1 _ [spanP f (p, q)] (by simp) _ hr1 hr2) rfl ?_)
              all_goals rintro hS e z3 ⟨rfl, hz3⟩
              all_goals refine ⟨_, rfl, ⟨kc hz3 hS.1, kc hz3 hS.2.1, kc hz3 hS.2.2.1, kc hz3 hS.2.2.2.1, nest hS.2.2.2.2 hz3⟩, ?_⟩
              all_goals simp only [Act.put, List.setIfInBounds_toArray, List.set_cons_zero, List.set_cons_succ]
              all_goals clear hS hr1 hr2
              all_goals
                repeat ((first
                  | (refine Run.takes (v := ?_) ?_ ?_; rotate_left; (· intro w' hS'; go_simp; (try with_reducible rfl)))
                  | (refine Run.takesG (v := ?_) ?_ ?_ ?_; rotate_left; (· simp only [List.getElem?_cons_zero, List.getElem?_cons_succ]); (· intro w' hS'; go_simp; (try with_reducible rfl)))
                  | (refine Run.skipsT ?_ ?_; (· simp only [List.getElem?_cons_zero, List.getElem?_cons_succ]))
                  | (refine Run.skipsF ?_ ?_; (· simp only [List.getElem?_cons_zero, List.getElem?_cons_succ]))
                  | (refine Run.skipsU ?_ ?_; (· simp only [List.getElem?_cons_zero, List.getElem?_cons_succ]))
                  | (refine Run.passT ?_ ?_; (· simp only [List.getElem?_cons_zero, List.getElem?_cons_succ]))
                  | (refine Run.passF ?_ ?_; (· simp only [List.getElem?_cons_zero, List.getElem?_cons_succ]))
                  | (refine Run.passU ?_ ?_; (· simp only [List.getElem?_cons_zero, List.getElem?_cons_succ]))
                  | fail); simp only [Act.put, List.setIfInBounds_toArray, List.set_cons_zero, List.set_cons_succ])
              all_goals refine Run.ends (fun hS => ?_)
              all_goals have hbz := nest hbx hS.2.2.2.2
              all_goals clear hS
              all_goals go_wp2_with fail
              all_goals
                clear hbx d1 d2 m0 m1
                go_loopw [10] (fun i wr => ∃ j : Nat, j ≤ ls.length ∧ i = .int .i64 j ∧ Below w6.heap.size w6 wr) (fun i _ => ls.length - (intOf i).toNat)
                case atStart => exact ⟨0, Nat.zero_le _, rfl, hbz⟩
                case round =>
                  obtain ⟨j, hj, rfl, hbi⟩ := hrel
                  by_cases hjl : j < ls.length
                  · have d1 := (hbi.cell (p := ⟨gg, 0 * 2, none⟩) hg).trans (HGC.out 0 hlt).1
                    have d2 := (hbi.cell (p := ⟨gg, 0 * 2 + 1, none⟩) hg).trans (HGC.out 0 hlt).2
                    have hss : ((l.map (spanP f)).getD 0 (0, 0)) = spanP f (p, q) := by rw [← HPQ.out]; simp [List.getD, hlt]
                    rw [hss] at d1 d2
                    simp only [spanP] at d1 d2
                    simp only [Nat.zero_mul, Nat.zero_add] at d1 d2
                    obtain ⟨ga, off, c', hv', _, _, hcell⟩ := (HV.out.keep (nest hb6 hbi)).pairs (by omega)
                    injection hv' with e1 e2 e3
                    subst e1 e3
                    obtain ⟨d4, d5⟩ := hcell j hjl
                    have hzz := HW.out (ls.getD j (0, 0)) (by simp [List.getD, hjl])
                    have hmm : ls.getD j (0, 0) ∈ ls := by simp [List.getD, hjl]
                    clear hcell e2 hss
                    generalize ls.getD j (0, 0) = s9 at *
                    obtain ⟨g9, u9⟩ := s9
                    simp only [] at d4 d5 hzz
                    have HEM := Lib.hid (off_meet f t p q g9 u9 l ls bf HN.out HMEM.out hzz.1 hzz.2 hmm HO.out)
                    clear hmm
                    go_wp2_with fail
                    refine Run.region_walk (S := fun z => z.cell? ⟨gg, 0, none⟩ = some (.int .u32 ((f + p) % 4294967296)) ∧ z.cell? ⟨gg, 1, none⟩ = some (.int .u32 ((f + q) % 4294967296)) ∧ z.cell? ⟨ga, off + j * 2, none⟩ = some (.int .u32 g9) ∧ z.cell? ⟨ga, off + j * 2 + 1, none⟩ = some (.int .u32 u9) ∧ Below wr.heap.size wr z)
                      lapart.rows17 lapart.plan17 (l := ?_) (by kernel_rfl) (by kernel_rfl) (by kernel_rfl) (by kernel_rfl) ?_ ⟨d1, d2, d4, d5, (Below.refl _ _).drew⟩ ?_
                    rotate_left
                    (· simp only [lapart.plan17, Run.stepsOf, Run.stepOf, Run.guardOf, List.getElem?_toArray, List.getElem?_cons_zero, List.getElem?_cons_succ, Option.map_some, Option.map_none, Option.bind_some, Option.toList_some, List.map_cons, List.map_nil, List.cons_append, List.nil_append]
                       rfl)
                    repeat ((first
                      | (refine Run.takes (v := ?_) ?_ ?_; rotate_left; (· intro w' hS'; go_simp; (try with_reducible rfl)))
                      | (refine Run.takesG (v := ?_) ?_ ?_ ?_; rotate_left; (· simp only [List.getElem?_cons_zero, List.getElem?_cons_succ]); (· intro w' hS'; go_simp; (try with_reducible rfl)))
                      | (refine Run.skipsT ?_ ?_; (· simp only [List.getElem?_cons_zero, List.getElem?_cons_succ]))
                      | (refine Run.skipsF ?_ ?_; (· simp only [List.getElem?_cons_zero, List.getElem?_cons_succ]))
                      | (refine Run.skipsU ?_ ?_; (· simp only [List.getElem?_cons_zero, List.getElem?_cons_succ]))
                      | (refine Run.passT ?_ ?_; (· simp only [List.getElem?_cons_zero, List.getElem?_cons_succ]))
                      | (refine Run.passF ?_ ?_; (· simp only [List.getElem?_cons_zero, List.getElem?_cons_succ]))
                      | (refine Run.passU ?_ ?_; (· simp only [List.getElem?_cons_zero, List.getElem?_cons_succ]))
                      | fail); simp only [Act.put, List.setIfInBounds_toArray, List.set_cons_zero, List.set_cons_succ])
                    refine Run.runs (Run.callF 20 (by kernel_rfl) (fun hS => rmeet_any _ _ g9 u9 (step_bd f p) (step_bd f q) hzz.1 hzz.2 _) rfl ?_)
                    rintro hS e z9 ⟨v9, rfl, ho9, hz9⟩
                    rw [HEM.out] at ho9
                    obtain ⟨a9, c9, rfl⟩ := ho9.form
                    refine ⟨_, rfl, ⟨kc hz9 hS.1, kc hz9 hS.2.1, kc hz9 hS.2.2.1, kc hz9 hS.2.2.2.1, nest hS.2.2.2.2 hz9⟩, ?_⟩
                    simp only [Act.put, List.setIfInBounds_toArray, List.set_cons_zero, List.set_cons_succ]
                    clear hS
                    repeat ((first
                      | (refine Run.takes (v := ?_) ?_ ?_; rotate_left; (· intro w' hS'; go_simp; (try with_reducible rfl)))
                      | (refine Run.takesG (v := ?_) ?_ ?_ ?_; rotate_left; (· simp only [List.getElem?_cons_zero, List.getElem?_cons_succ]); (· intro w' hS'; go_simp; (try with_reducible rfl)))
                      | (refine Run.skipsT ?_ ?_; (· simp only [List.getElem?_cons_zero, List.getElem?_cons_succ]))
                      | (refine Run.skipsF ?_ ?_; (· simp only [List.getElem?_cons_zero, List.getElem?_cons_succ]))
                      | (refine Run.skipsU ?_ ?_; (· simp only [List.getElem?_cons_zero, List.getElem?_cons_succ]))
                      | (refine Run.passT ?_ ?_; (· simp only [List.getElem?_cons_zero, List.getElem?_cons_succ]))
                      | (refine Run.passF ?_ ?_; (· simp only [List.getElem?_cons_zero, List.getElem?_cons_succ]))
                      | (refine Run.passU ?_ ?_; (· simp only [List.getElem?_cons_zero, List.getElem?_cons_succ]))
                      | fail); simp only [Act.put, List.setIfInBounds_toArray, List.set_cons_zero, List.set_cons_succ])
                    refine Run.ends (fun hS => ?_)
                    have hbj := nest hbi hS.2.2.2.2
                    clear hS d1 d2 d4 d5
                    go_wp2_with fail
                    go_roundw
                    case rel => exact ⟨j + 1, by omega, by go_num, hbj⟩
                    case measure => simp [intOf]; omega
                  · have hjj : j = ls.length := by omega
                    subst hjj
                    go_wp2_with fail
                    go_roundw
                    case rel => exact ⟨0 + 1, by omega, by go_num, by rw [HS.out], hbi⟩
                    case measure => simp [intOf]; omega
            · obtain ⟨m, rfl⟩ : ∃ m, k = m + 1 := ⟨k - 1, by omega⟩
              have d3 := kc hbx (HGC.out m (by omega)).2
              have hss : ((l.map (spanP f)).getD m (0, 0)) = spanP f (l.getD m (0, 0)) := by simp [List.getD, show m < l.length by omega]
              rw [hss] at d3
              have hprev := HPREV.out m rfl
              have b2 := HN.out.at (k := m) (by omega)
              generalize l.getD m (0, 0) = s' at *
              obtain ⟨p', q'⟩ := s'
              simp only [spanP] at d3 hprev b2
              have i1 : IntKind.i64.wrap ((m : Int) + 1 - 1) = (m : Int) := by rw [Int.add_sub_cancel]; exact IntWalk.i64_in _ (by omega)
              have i2 : IntKind.u32.wrap ((f + p) % 4294967296 - f) = p := by rw [IntKind.wrap_u32]; omega
              have i3 : IntKind.u32.wrap ((f + q') % 4294967296 - f) = q' := by rw [IntKind.wrap_u32]; omega
              have i4 : decide (p < q') = false := by simp; omega
              have i5 : ((m : Int) + 1) < (l.length : Int) := by omega
              have i6 : (m : Int) < (l.length : Int) := by omega
              have i9 : IntKind.i64.wrap (((m + 1 : Nat) : Int) - 1) = (m : Int) := by rw [show ((m + 1 : Nat) : Int) - 1 = (m : Int) from by omega]; exact IntWalk.i64_in _ (by omega)
              have i10 : IntKind.i64.wrap (m : Int) = (m : Int) := IntWalk.i64_in _ (by omega)
              have i7 : ((m : Int) + 1).toNat = m + 1 := by omega
              have i8 : 0 ≤ (m : Int) + 1 := by omega
              clear hss hprev
              go_wp2_with fail
              refine Run.region_walk (S := fun z => z.cell? ⟨w.heap.size, 0, none⟩ = some (.int .u32 f) ∧ z.cell? ⟨w.heap.size, 1, none⟩ = some (.int .u32 t) ∧ z.cell? ⟨gg, (m + 1) * 2, none⟩ = some (.int .u32 ((f + p) % 4294967296)) ∧ z.cell? ⟨gg, (m + 1) * 2 + 1, none⟩ = some (.int .u32 ((f + q) % 4294967296)) ∧ z.cell? ⟨gg, m * 2 + 1, none⟩ = some (.int .u32 ((f + q') % 4294967296)) ∧ Below x.heap.size x z)
                lapart.rows13 lapart.plan13 (l := ?steps5) (by kernel_rfl) (by kernel_rfl) (by kernel_rfl) (by kernel_rfl) ?written5 ⟨m0, m1, d1, d2, d3, (Below.refl _ _).drew⟩ ?onward5
              case written5 =>
                simp only [lapart.plan13, Run.stepsOf, Run.stepOf, Run.guardOf, List.getElem?_toArray, List.getElem?_cons_zero, List.getElem?_cons_succ, Option.map_some, Option.map_none, Option.bind_some, Option.toList_some, List.map_cons, List.map_nil, List.cons_append, List.nil_append]
                rfl
              repeat ((first
                | (refine Run.takes (v := ?_) ?_ ?_; rotate_left; (· intro w' hS'; go_simp; (try with_reducible rfl)))
                | (refine Run.takesG (v := ?_) ?_ ?_ ?_; rotate_left; (· simp only [List.getElem?_cons_zero, List.getElem?_cons_succ]); (· intro w' hS'; go_simp; (try with_reducible rfl)))
                | (refine Run.skipsT ?_ ?_; (· simp only [List.getElem?_cons_zero, List.getElem?_cons_succ]))
                | (refine Run.skipsF ?_ ?_; (· simp only [List.getElem?_cons_zero, List.getElem?_cons_succ]))
                | (refine Run.skipsU ?_ ?_; (· simp only [List.getElem?_cons_zero, List.getElem?_cons_succ]))
                | (refine Run.passT ?_ ?_; (· simp only [List.getElem?_cons_zero, List.getElem?_cons_succ]))
                | (refine Run.passF ?_ ?_; (· simp only [List.getElem?_cons_zero, List.getElem?_cons_succ]))
                | (refine Run.passU ?_ ?_; (· simp only [List.getElem?_cons_zero, List.getElem?_cons_succ]))
                | fail); simp only [Act.put, List.setIfInBounds_toArray, List.set_cons_zero, List.set_cons_succ])
              refine Run.both ?_ ?_
              all_goals first
                | (refine Run.callF 20 (by kernel_rfl) (fun hS => rmeet_any f t _ _ bf bt (step_bd f p) (step_bd f q) _) rfl ?_
                   rintro hS e z1 ⟨v1, rfl, ho1, hz1⟩
                   refine ⟨_, rfl, ⟨kc hz1 hS.1, kc hz1 hS.2.1, kc hz1 hS.2.2.1, kc hz1 hS.2.2.2.1, kc hz1 hS.2.2.2.2.1, nest hS.2.2.2.2.2 hz1⟩, ?_⟩
                   simp only [Act.put, List.setIfInBounds_toArray, List.set_cons_zero, List.set_cons_succ]
                   clear hS
                   refine Run.one (fun hS K hK => ?_)
                   go_simp
                   have hlt9 := more (Below.refl z1.heap.size z1) (Obj.cells #[Value.int IntKind.u32 ((f + p) % 4294967296), Value.int IntKind.u32 ((f + q) % 4294967296)] 24)
                   have hr1 := SpansAt.below ho1 hlt9
                   have hr2 : Row (pairE .u32) 24 0 (z1.alloc (Obj.cells #[Value.int IntKind.u32 ((f + p) % 4294967296), Value.int IntKind.u32 ((f + q) % 4294967296)] 24)) (.slice (some ⟨z1.heap.size, 0, none⟩) 1 1) [spanP f (p, q)] := Row.lit _ _ _ _ _ _ rfl rfl rfl (Nat.zero_le _) (by simp [maxLen])
                   refine hK.out _ _ ⟨kc hlt9 hS.1, kc hlt9 hS.2.1, kc hlt9 hS.2.2.1, kc hlt9 hS.2.2.2.1, kc hlt9 hS.2.2.2.2.1, nest hS.2.2.2.2.2 hlt9⟩ ?_
                   clear hK K hS
                   generalize hZ : z1.alloc (Obj.cells #[Value.int IntKind.u32 ((f + p) % 4294967296), Value.int IntKind.u32 ((f + q) % 4294967296)] 24) = z2 at *
                   skip)
                | (refine Run.one (fun hS K hK => ?_)
                   go_simp
                   have hlt8 := (more (Below.refl x.heap.size x) (Obj.cells #[Value.int IntKind.u32 ((f + p) % 4294967296), Value.int IntKind.u32 ((f + q) % 4294967296)] 24)).drew
                   have hlt9 : Below x.drew.heap.size x.drew (x.alloc (Obj.cells #[Value.int IntKind.u32 ((f + p) % 4294967296), Value.int IntKind.u32 ((f + q) % 4294967296)] 24)).drew := ⟨hlt8.os, hlt8.tape, hlt8.output, hlt8.size, hlt8.block⟩
                   have hr0 : Row (pairE .u32) 24 0 (x.alloc (Obj.cells #[Value.int IntKind.u32 ((f + p) % 4294967296), Value.int IntKind.u32 ((f + q) % 4294967296)] 24)).drew (.slice (some ⟨x.heap.size, 0, none⟩) 1 1) [spanP f (p, q)] := Row.lit _ x _ _ _ _ rfl rfl rfl (Nat.zero_le _) (by simp [maxLen])
                   refine hK.out _ _ ⟨kc hlt9 hS.1, kc hlt9 hS.2.1, kc hlt9 hS.2.2.1, kc hlt9 hS.2.2.2.1, kc hlt9 hS.2.2.2.2.1, nest hS.2.2.2.2.2 hlt9⟩ ?_
                   clear hK K hS
                   generalize hZ : (x.alloc (Obj.cells #[Value.int IntKind.u32 ((f + p) % 4294967296), Value.int IntKind.u32 ((f + q) % 4294967296)] 24)).drew = z1 at *
                   refine Run.callF 20 (by kernel_rfl) (fun hS => rmeet_any f t _ _ bf bt (step_bd f p) (step_bd f q) _) rfl ?_
                   rintro hS e z2 ⟨v1, rfl, hr1, hz2⟩
                   refine ⟨_, rfl, ⟨kc hz2 hS.1, kc hz2 hS.2.1, kc hz2 hS.2.2.1, kc hz2 hS.2.2.2.1, kc hz2 hS.2.2.2.2.1, nest hS.2.2.2.2.2 hz2⟩, ?_⟩
                   simp only [Act.put, List.setIfInBounds_toArray, List.set_cons_zero, List.set_cons_succ]
                   have hr2 := hr0.keep hz2
                   clear hS hr0
                   skip)
              all_goals rw [HMP.out] at hr1
              all_goals refine Run.runs (Run.callF 14 (by kernel_rfl) (fun hS => plain_yes _ 0 v1 _ [spanP f (p, q)] (by simp) _ hr1 hr2) rfl ?_)
              all_goals rintro hS e z3 ⟨rfl, hz3⟩
              all_goals refine ⟨_, rfl, ⟨kc hz3 hS.1, kc hz3 hS.2.1, kc hz3 hS.2.2.1, kc hz3 hS.2.2.2.1, kc hz3 hS.2.2.2.2.1, nest hS.2.2.2.2.2 hz3⟩, ?_⟩
              all_goals simp only [Act.put, List.setIfInBounds_toArray, List.set_cons_zero, List.set_cons_succ]
              all_goals clear hS hr1 hr2
              all_goals
                repeat ((first
                  | (refine Run.takes (v := ?_) ?_ ?_; rotate_left; (· intro w' hS'; go_simp; (try with_reducible rfl)))
                  | (refine Run.takesG (v := ?_) ?_ ?_ ?_; rotate_left; (· simp only [List.getElem?_cons_zero, List.getElem?_cons_succ]); (· intro w' hS'; go_simp; (try with_reducible rfl)))
                  | (refine Run.skipsT ?_ ?_; (· simp only [List.getElem?_cons_zero, List.getElem?_cons_succ]))
                  | (refine Run.skipsF ?_ ?_; (· simp only [List.getElem?_cons_zero, List.getElem?_cons_succ]))
                  | (refine Run.skipsU ?_ ?_; (· simp only [List.getElem?_cons_zero, List.getElem?_cons_succ]))
                  | (refine Run.passT ?_ ?_; (· simp only [List.getElem?_cons_zero, List.getElem?_cons_succ]))
                  | (refine Run.passF ?_ ?_; (· simp only [List.getElem?_cons_zero, List.getElem?_cons_succ]))
                  | (refine Run.passU ?_ ?_; (· simp only [List.getElem?_cons_zero, List.getElem?_cons_succ]))
                  | fail); simp only [Act.put, List.setIfInBounds_toArray, List.set_cons_zero, List.set_cons_succ])
              all_goals refine Run.ends (fun hS => ?_)
              all_goals have hbz := nest hbx hS.2.2.2.2.2
              all_goals clear hS
              all_goals go_wp2_with fail
              all_goals
                clear hbx d1 d2 m0 m1
                go_loopw [10] (fun i wr => ∃ j : Nat, j ≤ ls.length ∧ i = .int .i64 j ∧ Below w6.heap.size w6 wr) (fun i _ => ls.length - (intOf i).toNat)
                case atStart => exact ⟨0, Nat.zero_le _, rfl, hbz⟩
                case round =>
                  obtain ⟨j, hj, rfl, hbi⟩ := hrel
                  by_cases hjl : j < ls.length
                  · have d1 := (hbi.cell (p := ⟨gg, (m + 1) * 2, none⟩) hg).trans (HGC.out (m + 1) hlt).1
                    have d2 := (hbi.cell (p := ⟨gg, (m + 1) * 2 + 1, none⟩) hg).trans (HGC.out (m + 1) hlt).2
                    have hss : ((l.map (spanP f)).getD (m + 1) (0, 0)) = spanP f (p, q) := by rw [← HPQ.out]; simp [List.getD, hlt]
                    rw [hss] at d1 d2
                    simp only [spanP] at d1 d2
                    skip
                    obtain ⟨ga, off, c', hv', _, _, hcell⟩ := (HV.out.keep (nest hb6 hbi)).pairs (by omega)
                    injection hv' with e1 e2 e3
                    subst e1 e3
                    obtain ⟨d4, d5⟩ := hcell j hjl
                    have hzz := HW.out (ls.getD j (0, 0)) (by simp [List.getD, hjl])
                    have hmm : ls.getD j (0, 0) ∈ ls := by simp [List.getD, hjl]
                    clear hcell e2 hss
                    generalize ls.getD j (0, 0) = s9 at *
                    obtain ⟨g9, u9⟩ := s9
                    simp only [] at d4 d5 hzz
                    have HEM := Lib.hid (off_meet f t p q g9 u9 l ls bf HN.out HMEM.out hzz.1 hzz.2 hmm HO.out)
                    clear hmm
                    go_wp2_with fail
                    refine Run.region_walk (S := fun z => z.cell? ⟨gg, (m + 1) * 2, none⟩ = some (.int .u32 ((f + p) % 4294967296)) ∧ z.cell? ⟨gg, (m + 1) * 2 + 1, none⟩ = some (.int .u32 ((f + q) % 4294967296)) ∧ z.cell? ⟨ga, off + j * 2, none⟩ = some (.int .u32 g9) ∧ z.cell? ⟨ga, off + j * 2 + 1, none⟩ = some (.int .u32 u9) ∧ Below wr.heap.size wr z)
                      lapart.rows17 lapart.plan17 (l := ?_) (by kernel_rfl) (by kernel_rfl) (by kernel_rfl) (by kernel_rfl) ?_ ⟨d1, d2, d4, d5, (Below.refl _ _).drew⟩ ?_
                    rotate_left
                    (· simp only [lapart.plan17, Run.stepsOf, Run.stepOf, Run.guardOf, List.getElem?_toArray, List.getElem?_cons_zero, List.getElem?_cons_succ, Option.map_some, Option.map_none, Option.bind_some, Option.toList_some, List.map_cons, List.map_nil, List.cons_append, List.nil_append]
                       rfl)
                    repeat ((first
                      | (refine Run.takes (v := ?_) ?_ ?_; rotate_left; (· intro w' hS'; go_simp; (try with_reducible rfl)))
                      | (refine Run.takesG (v := ?_) ?_ ?_ ?_; rotate_left; (· simp only [List.getElem?_cons_zero, List.getElem?_cons_succ]); (· intro w' hS'; go_simp; (try with_reducible rfl)))
                      | (refine Run.skipsT ?_ ?_; (· simp only [List.getElem?_cons_zero, List.getElem?_cons_succ]))
                      | (refine Run.skipsF ?_ ?_; (· simp only [List.getElem?_cons_zero, List.getElem?_cons_succ]))
                      | (refine Run.skipsU ?_ ?_; (· simp only [List.getElem?_cons_zero, List.getElem?_cons_succ]))
                      | (refine Run.passT ?_ ?_; (· simp only [List.getElem?_cons_zero, List.getElem?_cons_succ]))
                      | (refine Run.passF ?_ ?_; (· simp only [List.getElem?_cons_zero, List.getElem?_cons_succ]))
                      | (refine Run.passU ?_ ?_; (· simp only [List.getElem?_cons_zero, List.getElem?_cons_succ]))
                      | fail); simp only [Act.put, List.setIfInBounds_toArray, List.set_cons_zero, List.set_cons_succ])
                    refine Run.runs (Run.callF 20 (by kernel_rfl) (fun hS => rmeet_any _ _ g9 u9 (step_bd f p) (step_bd f q) hzz.1 hzz.2 _) rfl ?_)
                    rintro hS e z9 ⟨v9, rfl, ho9, hz9⟩
                    rw [HEM.out] at ho9
                    obtain ⟨a9, c9, rfl⟩ := ho9.form
                    refine ⟨_, rfl, ⟨kc hz9 hS.1, kc hz9 hS.2.1, kc hz9 hS.2.2.1, kc hz9 hS.2.2.2.1, nest hS.2.2.2.2 hz9⟩, ?_⟩
                    simp only [Act.put, List.setIfInBounds_toArray, List.set_cons_zero, List.set_cons_succ]
                    clear hS
                    repeat ((first
                      | (refine Run.takes (v := ?_) ?_ ?_; rotate_left; (· intro w' hS'; go_simp; (try with_reducible rfl)))
                      | (refine Run.takesG (v := ?_) ?_ ?_ ?_; rotate_left; (· simp only [List.getElem?_cons_zero, List.getElem?_cons_succ]); (· intro w' hS'; go_simp; (try with_reducible rfl)))
                      | (refine Run.skipsT ?_ ?_; (· simp only [List.getElem?_cons_zero, List.getElem?_cons_succ]))
                      | (refine Run.skipsF ?_ ?_; (· simp only [List.getElem?_cons_zero, List.getElem?_cons_succ]))
                      | (refine Run.skipsU ?_ ?_; (· simp only [List.getElem?_cons_zero, List.getElem?_cons_succ]))
                      | (refine Run.passT ?_ ?_; (· simp only [List.getElem?_cons_zero, List.getElem?_cons_succ]))
                      | (refine Run.passF ?_ ?_; (· simp only [List.getElem?_cons_zero, List.getElem?_cons_succ]))
                      | (refine Run.passU ?_ ?_; (· simp only [List.getElem?_cons_zero, List.getElem?_cons_succ]))
                      | fail); simp only [Act.put, List.setIfInBounds_toArray, List.set_cons_zero, List.set_cons_succ])
                    refine Run.ends (fun hS => ?_)
                    have hbj := nest hbi hS.2.2.2.2
                    clear hS d1 d2 d4 d5
                    go_wp2_with fail
                    go_roundw
                    case rel => exact ⟨j + 1, by omega, by go_num, hbj⟩
                    case measure => simp [intOf]; omega
                  · have hjj : j = ls.length := by omega
                    subst hjj
                    go_wp2_with fail
                    go_roundw
                    case rel => exact ⟨(m + 1) + 1, by omega, by go_num, by rw [HS.out], hbi⟩
                    case measure => simp [intOf]; omega
          · have hkk : k = l.length := by omega
            subst hkk
            rw [List.take_length]
            have hbw := nest hb6 hb
            go_wp2_with fail
            refine (cleft_any W.heap.size b f t (beh f t) l _ (hcw.keep hb) HN.out (by omega)).mono ?_
            rintro e y ⟨rfl, hky⟩
            go_wp2_with fail
            go_ret
            exact ⟨rfl, nest hbw hky⟩
end Go.Proofs.Ytbdijeekekaibaa.coverApart
