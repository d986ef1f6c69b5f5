/- Walk of CoverPieces. -/
import Derived.Test.YtbdijeekekaibaaCoverAwake
import Derived.Test.YtbdijeekekaibaaPiecesMath
namespace Go.Proofs.Ytbdijeekekaibaa.coverPieces
open Go.RowKit Cir Mem
set_option linter.unusedSimpArgs false
set_option linter.unusedVariables false
attribute [local irreducible] Go.Calls

theorem keep3 {W a b : World} {p0 p1 : Addr} {x0 x1 : Value} (h : a.cell? p0 = some x0 ∧ a.cell? p1 = some x1 ∧ Below W.heap.size W a) (k : Below a.heap.size a b) : b.cell? p0 = some x0 ∧ b.cell? p1 = some x1 ∧ Below W.heap.size W b := ⟨kc k h.1, kc k h.2.1, nest h.2.2 k⟩
theorem norm0 (f t : Int) : Norm (beh f t) 0 [(0, beh f t)] := by
  have := beh_bd f t
  exact ⟨Int.le_refl _, by show (0 : Int) < _; omega, Int.le_refl _, trivial⟩

set_option maxHeartbeats 8000000 in
theorem walk (f t : Int) (bf : 0 ≤ f ∧ f ≤ 4294967295) (bt : 0 ≤ t ∧ t ≤ 4294967295) (g u : Int) (bg : 0 ≤ g ∧ g ≤ 4294967295) (bu : 0 ≤ u ∧ u ≤ 4294967295) (v : Value) (cl : List Int) (w : World)
    (hv : Rd (intE .u32) w v cl) (hw : ∀ x ∈ cl, 0 ≤ x ∧ x ≤ 4294967295) :
    Calls Try.prog 6 #[.agg #[.int .u32 f, .int .u32 t], .agg #[.int .u32 g, .int .u32 u], v] w fun e w' => e = .returned (.bool true) ∧ Below w.heap.size w w' := by
  obtain ⟨a0, c0, rfl, hc1, hc2⟩ := hv.form
  have HV := Lib.hid hv
  have HW := Lib.hid hw
  clear hv hw
  go_enter Try.func6, Try.ntmps6
  go_wp2_with fail
  generalize hW : (w.alloc (Obj.cells #[Value.int IntKind.u32 f, Value.int IntKind.u32 t] 24)).alloc (Obj.cells #[Value.int IntKind.u32 g, Value.int IntKind.u32 u] 24) = W
  have hb0 : Below w.heap.size w W := hW ▸ more (more (Below.refl _ _) _) _
  have s0 : W.cell? ⟨w.heap.size, 0, none⟩ = some (.int .u32 f) := by rw [← hW]; simp
  have s1 : W.cell? ⟨w.heap.size, 1, none⟩ = some (.int .u32 t) := by rw [← hW]; simp
  have y0 : W.cell? ⟨w.heap.size + 1, 0, none⟩ = some (.int .u32 g) := by rw [← hW]; simp
  have y1 : W.cell? ⟨w.heap.size + 1, 1, none⟩ = some (.int .u32 u) := by rw [← hW]; simp
  have hwW : w.heap.size + 1 < W.heap.size := World.block_lt_of_cell? W _ y0
  clear hW
  refine Run.region_walk (S := fun z => z.cell? ⟨w.heap.size, 0, none⟩ = some (.int .u32 f) ∧ z.cell? ⟨w.heap.size, 1, none⟩ = some (.int .u32 t) ∧ Below W.heap.size W z)
    lpieces.rows1 lpieces.plan1 (l := ?steps1) (by kernel_rfl) (by kernel_rfl) (by kernel_rfl) (by kernel_rfl) ?written1 ⟨s0, s1, (Below.refl _ _).drew⟩ ?onward1
  case written1 =>
    simp only [lpieces.plan1, Run.stepsOf, Run.stepOf, Run.guardOf, List.getElem?_toArray, List.getElem?_cons_zero, List.getElem?_cons_succ, Option.map_some, Option.map_none, Option.bind_some, Option.toList_some, List.map_cons, List.map_nil, List.cons_append, List.nil_append]
    rfl
  repeat ((first
    | (refine Run.takes (v := ?_) ?_ ?_; rotate_left; (· intro w' hS'; go_simp; (try with_reducible rfl)))
    | (refine Run.takesG (v := ?_) ?_ ?_ ?_; rotate_left; (· simp only [List.getElem?_cons_zero, List.getElem?_cons_succ]); (· intro w' hS'; go_simp; (try with_reducible rfl)))
    | (refine Run.skipsT ?_ ?_; (· simp only [List.getElem?_cons_zero, List.getElem?_cons_succ]))
    | (refine Run.skipsF ?_ ?_; (· simp only [List.getElem?_cons_zero, List.getElem?_cons_succ]))
    | (refine Run.skipsU ?_ ?_; (· simp only [List.getElem?_cons_zero, List.getElem?_cons_succ]))
    | (refine Run.passT ?_ ?_; (· simp only [List.getElem?_cons_zero, List.getElem?_cons_succ]))
    | (refine Run.passF ?_ ?_; (· simp only [List.getElem?_cons_zero, List.getElem?_cons_succ]))
    | (refine Run.passU ?_ ?_; (· simp only [List.getElem?_cons_zero, List.getElem?_cons_succ]))
    | fail); simp only [Act.put, List.setIfInBounds_toArray, List.set_cons_zero, List.set_cons_succ])
  refine Run.runs (Run.callF 8 (by kernel_rfl) (fun hS => cnew_any f t _) rfl ?_)
  rintro hS e w1 ⟨ba, rfl, hca, hk1⟩
  refine ⟨_, rfl, keep3 hS hk1, ?_⟩
  have hsz1 := hS.2.2.size
  clear hS
  simp only [Act.put, List.setIfInBounds_toArray, List.set_cons_zero, List.set_cons_succ]
  refine Run.runs (Run.callF 8 (by kernel_rfl) (fun hS => cnew_any f t _) rfl ?_)
  rintro hS e w2 ⟨bb, rfl, hcb, hk2⟩
  refine ⟨_, rfl, keep3 hS hk2, ?_⟩
  have hne : ba ≠ bb := by have := hca.lt; have := hcb.1; omega
  replace hca := (hca.keep hk2).mono hsz1
  replace hcb := hcb.mono (Nat.le_trans hsz1 hk1.size)
  have hW2 := nest hS.2.2 hk2
  clear hS hk1 hk2 s0 s1
  simp only [Act.put, List.setIfInBounds_toArray, List.set_cons_zero, List.set_cons_succ]
  repeat ((first
    | (refine Run.takes (v := ?_) ?_ ?_; rotate_left; (· intro w' hS'; go_simp; (try with_reducible rfl)))
    | (refine Run.takesG (v := ?_) ?_ ?_ ?_; rotate_left; (· simp only [List.getElem?_cons_zero, List.getElem?_cons_succ]); (· intro w' hS'; go_simp; (try with_reducible rfl)))
    | (refine Run.skipsT ?_ ?_; (· simp only [List.getElem?_cons_zero, List.getElem?_cons_succ]))
    | (refine Run.skipsF ?_ ?_; (· simp only [List.getElem?_cons_zero, List.getElem?_cons_succ]))
    | (refine Run.skipsU ?_ ?_; (· simp only [List.getElem?_cons_zero, List.getElem?_cons_succ]))
    | (refine Run.passT ?_ ?_; (· simp only [List.getElem?_cons_zero, List.getElem?_cons_succ]))
    | (refine Run.passF ?_ ?_; (· simp only [List.getElem?_cons_zero, List.getElem?_cons_succ]))
    | (refine Run.passU ?_ ?_; (· simp only [List.getElem?_cons_zero, List.getElem?_cons_succ]))
    | fail); simp only [Act.put, List.setIfInBounds_toArray, List.set_cons_zero, List.set_cons_succ])
  refine Run.ends (fun _ => ?_)
  replace y0 := kc hW2 y0
  replace y1 := kc hW2 y1
  have hb2 := nest hb0 hW2
  have hwa := hca.1
  have hwb := hcb.1
  clear hW2
  go_wp2_with fail
  refine (cawake_any w2).mono ?_
  rintro e w3 ⟨rfl, hk3⟩
  replace hca := hca.keep hk3
  replace hcb := hcb.keep hk3
  replace y0 := kc hk3 y0
  replace y1 := kc hk3 y1
  have hb3 := nest hb2 hk3
  clear hk3 hb2
  have bdf := beh_bd f t
  have bdg := beh_bd g u
  go_wp2_with fail
  refine (cadd_any W.heap.size ba f t g u bf bt bg bu _ w3 hca (norm0 f t) (by simp)).mono ?_
  rintro e w4 ⟨rfl, hca4, ho4⟩
  replace hcb := hcb.only ho4 hca (fun e => hne e.symm)
  replace y0 := World.grownBy.cell ho4 y0 (by simp; omega)
  replace y1 := World.grownBy.cell ho4 y1 (by simp; omega)
  have hb4 := hb3.trans (ho4.below (show w.heap.size ≤ ba by omega) hb3.size)
  have HLA := Lib.hid (left_all f t g u bf bg bu)
  have HNA := Lib.hid (addL_norm (prts f t g u) (prts_lt f t g u bg bu) (norm0 f t))
  have hla := addL_len (prts f t g u) (prts_lt f t g u bg bu) (norm0 f t)
  have hpb := (prts_bd f t g u bg bu).1
  simp only [List.length_cons, List.length_nil] at hla
  generalize addL (prts f t g u) [(0, beh f t)] = la at *
  clear ho4 hca hb3
  go_wp2_with fail
  refine Run.region_walk (S := fun z => z.cell? ⟨w.heap.size + 1, 0, none⟩ = some (.int .u32 g) ∧ z.cell? ⟨w.heap.size + 1, 1, none⟩ = some (.int .u32 u) ∧ Below w4.heap.size w4 z)
    lpieces.rows6 lpieces.plan6 (l := ?steps3) (by kernel_rfl) (by kernel_rfl) (by kernel_rfl) (by kernel_rfl) ?written3 ⟨y0, y1, (Below.refl _ _).drew⟩ ?onward3
  case written3 =>
    simp only [lpieces.plan6, Run.stepsOf, Run.stepOf, Run.guardOf, List.getElem?_toArray, List.getElem?_cons_zero, List.getElem?_cons_succ, Option.map_some, Option.map_none, Option.bind_some, Option.toList_some, List.map_cons, List.map_nil, List.cons_append, List.nil_append]
    rfl
  repeat ((first
    | (refine Run.takes (v := ?_) ?_ ?_; rotate_left; (· intro w' hS'; go_simp; (try with_reducible rfl)))
    | (refine Run.takesG (v := ?_) ?_ ?_ ?_; rotate_left; (· simp only [List.getElem?_cons_zero, List.getElem?_cons_succ]); (· intro w' hS'; go_simp; (try with_reducible rfl)))
    | (refine Run.skipsT ?_ ?_; (· simp only [List.getElem?_cons_zero, List.getElem?_cons_succ]))
    | (refine Run.skipsF ?_ ?_; (· simp only [List.getElem?_cons_zero, List.getElem?_cons_succ]))
    | (refine Run.skipsU ?_ ?_; (· simp only [List.getElem?_cons_zero, List.getElem?_cons_succ]))
    | (refine Run.passT ?_ ?_; (· simp only [List.getElem?_cons_zero, List.getElem?_cons_succ]))
    | (refine Run.passF ?_ ?_; (· simp only [List.getElem?_cons_zero, List.getElem?_cons_succ]))
    | (refine Run.passU ?_ ?_; (· simp only [List.getElem?_cons_zero, List.getElem?_cons_succ]))
    | (refine Run.runs ?_
       (first
       | (refine Run.callF 19 (by kernel_rfl) (fun hS => rsize_any g u bg bu _) rfl ?_)
       | (refine Run.callG 19 (by kernel_rfl) ?_ (fun hS => rsize_any g u bg bu _) rfl ?_; (· simp only [List.getElem?_cons_zero, List.getElem?_cons_succ]))
       | fail)
       (first
       | (rintro hS e w' ⟨rfl, rfl⟩; refine ⟨_, rfl, hS, ?_⟩)
       | (rintro hS e w' ⟨rfl, hb⟩; refine ⟨_, rfl, keep3 hS hb, ?_⟩)
       | fail))
    | fail); simp only [Act.put, List.setIfInBounds_toArray, List.set_cons_zero, List.set_cons_succ])
  refine Run.ends (fun hS => ?_)
  rename_i w5 _ _
  obtain ⟨y2, y3, hk5⟩ := hS
  replace hca4 := hca4.keep hk5
  replace hcb := hcb.keep hk5
  have hb5 := nest hb4 hk5
  have n0 := norm0 f t
  have HL0 := Lib.hid (left_begin f (beh f t) g bdf.1)
  have hs0 := sumL_bd n0 (by omega)
  have hsA := sumL_bd HNA.out (by omega)
  generalize hl0 : [((0 : Int), beh f t)] = l0 at *
  have HL0E := Lib.hid hl0
  have hll0 : l0.length = 1 := by rw [← hl0]; rfl
  clear hl0 y0 y1 hk5 hb4
  have HN0 := Lib.hid n0
  clear n0
  go_wp2_with fail
  go_loopw [10, 11, 12, 13] (fun ms at_ left i wr => ∃ (k : Nat) (c : Int) (lb : List (Int × Int)), (k ≤ cl.length ∧ k ≤ 20) ∧ i = .int .i64 k ∧ (0 ≤ c ∧ c < beh g u) ∧ at_ = .int .u32 ((g + c) % 4294967296) ∧ left = .int .u64 (beh g u - c) ∧ ms = .int .u64 (sumL l0 - sumL lb) ∧
    CoverAt W.heap.size wr bb f t lb ∧ CoverAt W.heap.size wr ba f t la ∧ Norm (beh f t) 0 lb ∧ sumL lb ≤ sumL l0 ∧ CLeft f (beh f t) g c lb ∧ lb.length ≤ 1 + 2 * k ∧ wr.cell? ⟨w.heap.size + 1, 1, none⟩ = some (.int .u32 u) ∧ Below w.heap.size w wr) (fun _ _ _ i _ => cl.length - (intOf i).toNat)
  case atStart =>
    refine ⟨0, 0, l0, ⟨Nat.zero_le _, Nat.zero_le _⟩, rfl, ⟨Int.le_refl _, by omega⟩, ?_, by simp, by simp, hcb, hca4, HN0.out, Int.le_refl _, HL0.out, by omega, y3, hb5⟩
    rw [Int.add_zero, Int.emod_eq_of_lt bg.1 (by omega)]
  case round =>
    obtain ⟨k, c, lb, hk, rfl, hc, rfl, rfl, rfl, hcw, hcwa, hnb, hle, hlf, hlen, yy, hb⟩ := hrel
    have hsB := sumL_bd hnb (by omega)
    have HNB := Lib.hid hnb
    have HLF := Lib.hid hlf
    clear hnb hlf
    by_cases hgo : k < cl.length ∧ k < 20
    · obtain ⟨h1, h2⟩ := hgo
      obtain ⟨gc, off, c', hv', _, _, hcell⟩ := (HV.out.keep hb).cells (by omega)
      injection hv' with e1 e2 e3
      subst e1 e3
      have d1 : wr.cell? ⟨gc, off + k, none⟩ = some (.int .u32 cl[k]) := by have := hcell k h1 0 (show 0 < 1 by omega); simpa [intE] using this
      have hz := HW.out cl[k] (List.getElem_mem h1)
      generalize cl[k] = s at *
      clear hcell e2
      have hk20 : ((k : Int) < 20) := by omega
      have hk1 : (k : Int) < (cl.length : Int) := by omega
      by_cases hs0' : s = 0
      · subst hs0'
        go_wp2_with fail
        go_roundw
        case rel => exact ⟨k + 1, c, lb, ⟨by omega, by omega⟩, by go_num, hc, rfl, rfl, rfl, hcw, hcwa, HNB.out, hle, HLF.out, by omega, yy, hb⟩
        case measure => simp [intOf]; omega
      · have hs1 : (s == 0) = false := by simpa using hs0'
        by_cases hsl : beh g u - c ≤ s
        · go_wp2_with fail
          go_roundw
          case rel => exact ⟨k + 1, c, lb, ⟨by omega, by omega⟩, by go_num, hc, rfl, rfl, rfl, hcw, hcwa, HNB.out, hle, HLF.out, by omega, yy, hb⟩
          case measure => simp [intOf]; omega
        · have hs2 : decide (beh g u - c ≤ s) = false := by simpa using hsl
          have hb7 : (g + c) % 4294967296 ≤ 4294967295 := by omega
          have hb8 : 0 ≤ (g + c) % 4294967296 := by omega
          have hsp : 1 ≤ s := by omega
          go_wp2_with fail
          rw [show g + c + s = g + (c + s) from by omega]
          have k1 : 0 ≤ (g + (c + s)) % 4294967296 ∧ (g + (c + s)) % 4294967296 ≤ 4294967295 := by omega
          have HL := Lib.hid (left_add f t g c s lb bf bg hc.1 hsp (by omega) HLF.out HNB.out)
          have hlt2 := prts_lt f t _ _ ⟨hb8, hb7⟩ k1
          have HN := Lib.hid (addL_norm _ hlt2 HNB.out)
          have hl2 := addL_len _ hlt2 HNB.out
          have hp2 := (prts_bd f t _ _ ⟨hb8, hb7⟩ k1).1
          replace hl2 := Nat.le_trans hl2 (Nat.add_le_add_left hp2 _)
          have hls := addL_less _ hlt2 HNB.out
          have hs6 := sumL_bd HN.out (by omega)
          refine (cadd_any W.heap.size bb f t _ _ bf bt ⟨hb8, hb7⟩ k1 lb wr hcw HNB.out (by omega)).mono ?_
          rintro e w6 ⟨rfl, hc6, ho6⟩
          have hca6 := hcwa.only ho6 hcw hne
          have yy6 := World.grownBy.cell ho6 yy (by simp; omega)
          have hb6 := hb.trans (ho6.below (show w.heap.size ≤ bb by omega) hb.size)
          clear ho6 hcw hcwa yy hb hlt2 hp2 k1
          generalize addL (prts f t ((g + c) % 4294967296) ((g + (c + s)) % 4294967296)) lb = lc at *
          have j1 : 0 ≤ sumL l0 - sumL lb + (sumL lb - sumL lc) := by omega
          have j2 : sumL l0 - sumL lb + (sumL lb - sumL lc) ≤ 4294967296 := by omega
          have j3 : 0 ≤ sumL l0 - sumL lb := by omega
          have j4 : 0 ≤ sumL lb - sumL lc := by omega
          go_wp2_with fail
          go_roundw
          case rel => exact ⟨k + 1, c + s, lc, ⟨by omega, by omega⟩, by go_num, ⟨by omega, by omega⟩, by congr 1; omega, by congr 1; omega, by congr 1; omega, hc6, hca6, HN.out, by omega, HL.out, by omega, yy6, hb6⟩
          case measure => simp [intOf]; omega
    · have hkk : (k : Int) < (cl.length : Int) → ¬ (k : Int) < 20 := by omega
      have hends : (k < cl.length ∧ 20 ≤ k) ∨ (¬ k < cl.length) := by omega
      have hb7 : (g + c) % 4294967296 ≤ 4294967295 := by omega
      have hb8 : 0 ≤ (g + c) % 4294967296 := by omega
      have hl1 := left_add f t g c (beh g u - c) lb bf bg hc.1 (by omega) (by omega) HLF.out HNB.out
      rw [to_is g u bg bu c, show c + (beh g u - c) = beh g u from by omega] at hl1
      have hlt2 := prts_lt f t ((g + c) % 4294967296) u ⟨hb8, hb7⟩ bu
      have hn1 := addL_norm _ hlt2 HNB.out
      have hls := addL_less _ hlt2 HNB.out
      have hsame : addL (prts f t ((g + c) % 4294967296) u) lb = la := left_one hl1 HLA.out hn1 HNA.out
      have HS := Lib.hid hsame
      rw [hsame] at hls
      clear hl1 hlt2 hn1 hsame hkk
      have hq : (sumL l0 - sumL la == sumL l0 - sumL lb + (sumL lb - sumL la)) = true := by rw [beq_iff_eq]; omega
      have HQ := Lib.hid hq
      have j1 : 0 ≤ sumL l0 - sumL lb + (sumL lb - sumL la) := by omega
      have j2 : sumL l0 - sumL lb + (sumL lb - sumL la) ≤ 4294967296 := by omega
      have j3 : 0 ≤ sumL l0 - sumL lb := by omega
      have j4 : 0 ≤ sumL lb - sumL la := by omega
      clear hq
      rcases hends with ⟨h1, h2⟩ | h1
      all_goals
        have hk1 : ((k : Int) < 20) ∨ ¬ ((k : Int) < 20) := by omega
        clear hk1
        go_wp2_with fail
        refine (cadd_any W.heap.size bb f t _ u bf bt ⟨hb8, hb7⟩ bu lb wr hcw HNB.out (by omega)).mono ?_
        rintro e w6 ⟨rfl, hc6, ho6⟩
        rw [HS.out] at hc6 ⊢
        have hca6 := hcwa.only ho6 hcw hne
        have hb6 := hb.trans (ho6.below (show w.heap.size ≤ bb by omega) hb.size)
        have hq2 := HQ.out
        go_wp2_with fail
        clear hq2
        refine (cgaps_any W.heap.size ba f t (beh f t) la w6 hca6 HNA.out (by omega) (by omega)).mono ?_
        rintro e w7 ⟨v7, rfl, hr7, hk7⟩
        have hcb7 := hc6.keep hk7
        have hca7 := hca6.keep hk7
        have hb7' := nest hb6 hk7
        go_wp2_with fail
        refine (cgaps_any W.heap.size bb f t (beh f t) la w7 hcb7 HNA.out (by omega) (by omega)).mono ?_
        rintro e w8 ⟨v8, rfl, hr8, hk8⟩
        have hcb8 := hcb7.keep hk8
        have hca8 := hca7.keep hk8
        have hb8' := nest hb7' hk8
        go_wp2_with fail
        refine (plain_yes _ _ v7 v8 (la.map (spanP f)) (by rw [List.length_map]; omega) _ (hr7.keep hk8) hr8).mono ?_
        rintro e w9 ⟨rfl, hk9⟩
        have hcb9 := hcb8.keep hk9
        have hca9 := hca8.keep hk9
        have hb9 := nest hb8' hk9
        go_wp2_with fail
        refine (cleft_any W.heap.size ba f t (beh f t) la w9 hca9 HNA.out (by omega)).mono ?_
        rintro e wa ⟨rfl, hka⟩
        have hcba := hcb9.keep hka
        have hba := nest hb9 hka
        go_wp2_with fail
        refine (cleft_any W.heap.size bb f t (beh f t) la wa hcba HNA.out (by omega)).mono ?_
        rintro e wb ⟨rfl, hkb⟩
        go_wp2_with fail
        go_ret
        exact ⟨rfl, nest hba hkb⟩
end Go.Proofs.Ytbdijeekekaibaa.coverPieces
