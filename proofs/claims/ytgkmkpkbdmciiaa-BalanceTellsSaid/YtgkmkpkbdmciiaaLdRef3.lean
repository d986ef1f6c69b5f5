/- The document's answer for package balance (petasosref17): Plan. -/
import Derived.Test.YtgkmkpkbdmciiaaLdRef2
import Derived.Test.YtgkmkpkbdmciiaaEnts
set_option maxRecDepth 4000
namespace Go.Proofs.Ytgkmkpkbdmciiaa
open Go.RowKit Mem
set_option linter.unusedSimpArgs false
set_option linter.unusedVariables false
attribute [local irreducible] Go.Calls

theorem mv_info : (Try.prog.info? 33).map (·.size) = some 2 := by kernel_rfl
theorem mv_one (p e : Int) : (#[.int .u32 p, .int .u32 e] : Array Value).all (·.oneCell') = true := by simp [Value.oneCell']
theorem only_cell {b : Nat} {w w' : World} (h : Only b w w') {p : Addr} (hp : p.block ≠ b) (hl : p.block < w.heap.size) : w'.cell? p = w.cell? p := by
  unfold World.cell?
  rw [h.block p.block hl (by intro e; injection e with e; exact hp e)]
def valsE (es : List Ent) : List Int := es.map (·.1)
theorem valsE_at (es : List Ent) (i : Nat) : (valsE es).getD i 0 = (es.getD i e0).1 := by
  unfold valsE
  simp only [List.getD_eq_getElem?_getD, List.getElem?_map]
  cases es[i]? <;> rfl
set_option maxRecDepth 100000 in
set_option maxHeartbeats 4000000 in
theorem rplan_any (v1 v2 : Value) (l : List Ld) (es : List Ent) (Q : Nat → Prop) (w : World) (h : Rd ldE w v1 l) (hl : l.length ≤ 1000000) (h2 : EntsIn Q w v2 es) :
    Calls Try.prog 15 #[v1, v2] w fun e w' => e = .returned (.tuple #[.agg #[.int .u32 (planV l (valsE es)).1.1, .int .u32 (planV l (valsE es)).1.2], .int .i64 (planV l (valsE es)).2]) ∧ Below w.heap.size w w' := by
  have HMY := Lib.hid (fun z (hz : Below w.heap.size w z) => rmay_any v1 l z (h.keep hz))
  have HHV := Lib.hid (fun z (hz : Below w.heap.size w z) => rheavy_any v1 l z (h.keep hz) hl)
  have HLT := Lib.hid (fun z (hz : Below w.heap.size w z) => rlight_any v1 l z (h.keep hz) hl)
  have HP : Hid (planV l (valsE es) = if mayB l = false then ((0, 0), 1) else if (heavyV l).2 = false ∨ (lightV l).2 = false ∨ (valsE es).length < 2 ∨ (valsE es).getD ((valsE es).length / 2) 0 = (heavyV l).1.1 then ((0, 0), 20) else (((lightV l).1.1, (valsE es).getD ((valsE es).length / 2) 0), 0)) := Lib.hid rfl
  have hvl : (valsE es).length = es.length := by simp [valsE]
  rw [hvl, valsE_at] at HP
  obtain ⟨a1, c1, rfl, _, _⟩ := h.form
  obtain ⟨a, g, off, c, rfl, hc1, hc2, hga, hcs⟩ := h2.at
  have hc2' : c ≤ 9223372036854775807 := hc2
  have HC := Lib.hid hcs
  have HG := Lib.hid hga
  clear h h2 hcs hga hvl
  obtain ⟨my, hmy⟩ : ∃ b, b = mayB l := ⟨_, rfl⟩
  rw [← hmy] at HMY HP
  obtain ⟨⟨⟨hp, he⟩, his⟩, hhv⟩ : ∃ q, q = heavyV l := ⟨_, rfl⟩
  rw [← hhv] at HHV HP
  obtain ⟨⟨⟨lp, le⟩, lis⟩, hlt⟩ : ∃ q, q = lightV l := ⟨_, rfl⟩
  rw [← hlt] at HLT HP
  dsimp only at HHV HLT HP
  obtain ⟨RES, hRES⟩ : ∃ x, x = planV l (valsE es) := ⟨_, rfl⟩
  rw [← hRES] at HP ⊢
  clear hmy hhv hlt hRES
  have HK0 : Hid (Below w.heap.size w (w.alloc (.cells #[.int .u32 0, .int .u32 0] 33))) := Lib.hid (more_one _ _)
  have HR0 : Hid (Blk (w.alloc (.cells #[.int .u32 0, .int .u32 0] 33)) w.heap.size 33 #[.int .u32 0, .int .u32 0]) := Lib.hid (Blk.new _ _ _)
  go_enter Try.func15, Try.ntmps15
  go_upto_region 1 with fail
  generalize w.alloc (.cells #[.int .u32 0, .int .u32 0] 33) = w1 at *
  obtain ⟨r, hr⟩ : ∃ r, r = w.heap.size := ⟨_, rfl⟩
  have HRE := Lib.hid hr
  rw [← hr] at HR0 ⊢
  clear hr
  cases my with
  | false =>
    have HRR : Hid (RES = ((0, 0), 1)) := Lib.hid (by rw [HP.out, if_pos rfl])
    obtain rfl := HRR.out
    go_upto_region 2 with (go_at_call 28; refine (HMY.out _ HK0.out).mono ?_; rintro e w2 ⟨rfl, hk⟩)
    have HR2 := Lib.hid (HR0.out.keep hk)
    have HK2 := Lib.hid (nest HK0.out hk)
    clear hk
    go_wp2_with (refine at_store 4 rfl ?_; refine wpList_store_row rfl 33 (.tmp 4) (.tmp 13) rfl r #[.int .u32 0, .int .u32 0] rfl rfl 33 _ HR2.out mv_info rfl (mv_one _ _) ?_)
    (try simp only [Exit.inBlock, Exit.then])
    refine bodyPost_ret (results_blk_tmp (l := [.int .u32 0, .int .u32 0]) rfl Try.underlying33 mv_info rfl rfl (Blk.rowS HR2.out _)) rfl ?_
    exact ⟨rfl, HK2.out.trans ((Only.rowS w2 _).below (by rw [HRE.out]; exact Nat.le_refl _) HK2.out.size)⟩
  | true =>
    rw [if_neg (by simp)] at HP
    go_upto_region 3 with (go_at_call 28; refine (HMY.out _ HK0.out).mono ?_; rintro e w2 ⟨rfl, hk⟩)
    have HK2 := Lib.hid (nest HK0.out hk)
    have HR2 := Lib.hid (HR0.out.keep hk)
    clear hk HK0 HR0 HMY
    go_upto_region 4 with (go_at_call 11; refine (HHV.out _ HK2.out).mono ?_; rintro e w3 ⟨rfl, hk⟩)
    have hk4 : Below w2.heap.size w2 (w3.alloc (.cells #[.int .u32 hp, .int .i64 he] 29)) := more hk _
    have HA4 : Hid (Blk (w3.alloc (.cells #[.int .u32 hp, .int .i64 he] 29)) w3.heap.size 29 #[.int .u32 hp, .int .i64 he]) := Lib.hid (Blk.new _ _ _)
    have HK4 := Lib.hid (nest HK2.out hk4)
    have HR4 := Lib.hid (HR2.out.keep hk4)
    clear hk hk4 HK2 HR2 HHV
    generalize w3.alloc (.cells #[.int .u32 hp, .int .i64 he] 29) = w4 at *
    obtain ⟨x, hx⟩ : ∃ x, x = w3.heap.size := ⟨_, rfl⟩
    rw [← hx] at HA4 ⊢
    clear hx
    go_upto_region 5 with (go_at_call 13; refine (HLT.out _ HK4.out).mono ?_; rintro e w5 ⟨rfl, hk⟩)
    have hk6 : Below w4.heap.size w4 (w5.alloc (.cells #[.int .u32 lp, .int .i64 le] 29)) := more hk _
    have HB6 : Hid (Blk (w5.alloc (.cells #[.int .u32 lp, .int .i64 le] 29)) w5.heap.size 29 #[.int .u32 lp, .int .i64 le]) := Lib.hid (Blk.new _ _ _)
    have HA6 := Lib.hid (HA4.out.keep hk6)
    have HK6 := Lib.hid (nest HK4.out hk6)
    have HR6 := Lib.hid (HR4.out.keep hk6)
    have HRN : Hid (r < w5.heap.size) := Lib.hid (Nat.lt_of_lt_of_le HR4.out.lt hk.size)
    clear hk hk6 HK4 HR4 HA4 HLT
    generalize w5.alloc (.cells #[.int .u32 lp, .int .i64 le] 29) = w6 at *
    obtain ⟨y, hy⟩ : ∃ x, x = w5.heap.size := ⟨_, rfl⟩
    rw [← hy] at HB6 HRN ⊢
    clear hy
    have c0 : w6.drew.cell? ⟨x, 0, none⟩ = some (.int .u32 hp) := HA6.out.cell 0
    cases his with
    | false =>
      have HRR : Hid (RES = ((0, 0), 20)) := Lib.hid (by rw [HP.out, if_pos (.inl rfl)])
      obtain rfl := HRR.out
      refine Run.region_walk (S := fun z => z.cell? ⟨x, 0, none⟩ = some (.int .u32 hp) ∧ Below w6.heap.size w6 z)
        rlplan.rows5 rlplan.plan5 (l := ?_) (by kernel_rfl) (by kernel_rfl) (by kernel_rfl) (by kernel_rfl) ?_ ⟨c0, (Below.refl _ _).drew⟩ ?_
      rotate_left
      (· simp only [rlplan.plan5, Run.stepsOf, Run.stepOf, Run.guardOf, List.getElem?_toArray, List.getElem?_cons_zero, List.getElem?_cons_succ, Option.map_some, Option.map_none, Option.bind_some, Option.toList_some, List.map_cons, List.map_nil, List.cons_append, List.nil_append, List.append_eq]
         rfl)
      repeat ((first
        | (refine Run.takes (v := ?_) ?_ ?_; rotate_left; (· intro w' hS'; (first | (have h1 := hS'.1; go_simp; done) | (go_simp; (try with_reducible rfl)))))
        | (refine Run.takesG (v := ?_) ?_ ?_ ?_; rotate_left; (· simp only [List.getElem?_cons_zero, List.getElem?_cons_succ]); (· intro w' hS'; (first | (have h1 := hS'.1; go_simp; done) | (go_simp; (try with_reducible rfl)))))
        | (refine Run.skipsT ?_ ?_; (· simp only [List.getElem?_cons_zero, List.getElem?_cons_succ]))
        | (refine Run.skipsF ?_ ?_; (· simp only [List.getElem?_cons_zero, List.getElem?_cons_succ]))
        | (refine Run.skipsU ?_ ?_; (· simp only [List.getElem?_cons_zero, List.getElem?_cons_succ]))
        | (refine Run.passT ?_ ?_; (· simp only [List.getElem?_cons_zero, List.getElem?_cons_succ]))
        | (refine Run.passF ?_ ?_; (· simp only [List.getElem?_cons_zero, List.getElem?_cons_succ]))
        | (refine Run.passU ?_ ?_; (· simp only [List.getElem?_cons_zero, List.getElem?_cons_succ]))
        | fail); simp only [Act.put, List.setIfInBounds_toArray, List.set_cons_zero, List.set_cons_succ])
      refine Run.ends (fun hS => ?_)
      clear hS c0
      have HR7 := Lib.hid (HR6.out.keep (Below.refl _ _).drew)
      have HK7 := Lib.hid (nest HK6.out (Below.refl _ _).drew)
      go_wp2_with (refine at_store 4 rfl ?_; refine wpList_store_row rfl 33 (.tmp 4) (.tmp 47) rfl r #[.int .u32 0, .int .u32 0] rfl rfl 33 _ HR7.out mv_info rfl (mv_one _ _) ?_)
      (try simp only [Exit.inBlock, Exit.then])
      refine bodyPost_ret (results_blk_tmp (l := [.int .u32 0, .int .u32 0]) rfl Try.underlying33 mv_info rfl rfl (Blk.rowS HR7.out _)) rfl ?_
      exact ⟨rfl, HK7.out.trans ((Only.rowS _ _).below (by rw [HRE.out]; exact Nat.le_refl _) HK7.out.size)⟩
    | true =>
      cases lis with
      | false =>
        have HRR : Hid (RES = ((0, 0), 20)) := Lib.hid (by rw [HP.out, if_pos (.inr (.inl rfl))])
        obtain rfl := HRR.out
        refine Run.region_walk (S := fun z => z.cell? ⟨x, 0, none⟩ = some (.int .u32 hp) ∧ Below w6.heap.size w6 z)
          rlplan.rows5 rlplan.plan5 (l := ?_) (by kernel_rfl) (by kernel_rfl) (by kernel_rfl) (by kernel_rfl) ?_ ⟨c0, (Below.refl _ _).drew⟩ ?_
        rotate_left
        (· simp only [rlplan.plan5, Run.stepsOf, Run.stepOf, Run.guardOf, List.getElem?_toArray, List.getElem?_cons_zero, List.getElem?_cons_succ, Option.map_some, Option.map_none, Option.bind_some, Option.toList_some, List.map_cons, List.map_nil, List.cons_append, List.nil_append, List.append_eq]
           rfl)
        repeat ((first
          | (refine Run.takes (v := ?_) ?_ ?_; rotate_left; (· intro w' hS'; (first | (have h1 := hS'.1; go_simp; done) | (go_simp; (try with_reducible rfl)))))
          | (refine Run.takesG (v := ?_) ?_ ?_ ?_; rotate_left; (· simp only [List.getElem?_cons_zero, List.getElem?_cons_succ]); (· intro w' hS'; (first | (have h1 := hS'.1; go_simp; done) | (go_simp; (try with_reducible rfl)))))
          | (refine Run.skipsT ?_ ?_; (· simp only [List.getElem?_cons_zero, List.getElem?_cons_succ]))
          | (refine Run.skipsF ?_ ?_; (· simp only [List.getElem?_cons_zero, List.getElem?_cons_succ]))
          | (refine Run.skipsU ?_ ?_; (· simp only [List.getElem?_cons_zero, List.getElem?_cons_succ]))
          | (refine Run.passT ?_ ?_; (· simp only [List.getElem?_cons_zero, List.getElem?_cons_succ]))
          | (refine Run.passF ?_ ?_; (· simp only [List.getElem?_cons_zero, List.getElem?_cons_succ]))
          | (refine Run.passU ?_ ?_; (· simp only [List.getElem?_cons_zero, List.getElem?_cons_succ]))
          | fail); simp only [Act.put, List.setIfInBounds_toArray, List.set_cons_zero, List.set_cons_succ])
        refine Run.ends (fun hS => ?_)
        clear hS c0
        have HR7 := Lib.hid (HR6.out.keep (Below.refl _ _).drew)
        have HK7 := Lib.hid (nest HK6.out (Below.refl _ _).drew)
        go_wp2_with (refine at_store 4 rfl ?_; refine wpList_store_row rfl 33 (.tmp 4) (.tmp 47) rfl r #[.int .u32 0, .int .u32 0] rfl rfl 33 _ HR7.out mv_info rfl (mv_one _ _) ?_)
        (try simp only [Exit.inBlock, Exit.then])
        refine bodyPost_ret (results_blk_tmp (l := [.int .u32 0, .int .u32 0]) rfl Try.underlying33 mv_info rfl rfl (Blk.rowS HR7.out _)) rfl ?_
        exact ⟨rfl, HK7.out.trans ((Only.rowS _ _).below (by rw [HRE.out]; exact Nat.le_refl _) HK7.out.size)⟩
      | true =>
        by_cases h2 : es.length < 2
        · have h3 : decide ((es.length : Int) < 2) = true := by simp; omega
          have HRR : Hid (RES = ((0, 0), 20)) := Lib.hid (by rw [HP.out, if_pos (.inr (.inr (.inl h2)))])
          obtain rfl := HRR.out
          refine Run.region_walk (S := fun z => z.cell? ⟨x, 0, none⟩ = some (.int .u32 hp) ∧ Below w6.heap.size w6 z)
            rlplan.rows5 rlplan.plan5 (l := ?_) (by kernel_rfl) (by kernel_rfl) (by kernel_rfl) (by kernel_rfl) ?_ ⟨c0, (Below.refl _ _).drew⟩ ?_
          rotate_left
          (· simp only [rlplan.plan5, Run.stepsOf, Run.stepOf, Run.guardOf, List.getElem?_toArray, List.getElem?_cons_zero, List.getElem?_cons_succ, Option.map_some, Option.map_none, Option.bind_some, Option.toList_some, List.map_cons, List.map_nil, List.cons_append, List.nil_append, List.append_eq]
             rfl)
          repeat ((first
            | (refine Run.takes (v := ?_) ?_ ?_; rotate_left; (· intro w' hS'; (first | (have h1 := hS'.1; go_simp; done) | (go_simp; (try with_reducible rfl)))))
            | (refine Run.takesG (v := ?_) ?_ ?_ ?_; rotate_left; (· simp only [List.getElem?_cons_zero, List.getElem?_cons_succ]); (· intro w' hS'; (first | (have h1 := hS'.1; go_simp; done) | (go_simp; (try with_reducible rfl)))))
            | (refine Run.skipsT ?_ ?_; (· simp only [List.getElem?_cons_zero, List.getElem?_cons_succ]))
            | (refine Run.skipsF ?_ ?_; (· simp only [List.getElem?_cons_zero, List.getElem?_cons_succ]))
            | (refine Run.skipsU ?_ ?_; (· simp only [List.getElem?_cons_zero, List.getElem?_cons_succ]))
            | (refine Run.passT ?_ ?_; (· simp only [List.getElem?_cons_zero, List.getElem?_cons_succ]))
            | (refine Run.passF ?_ ?_; (· simp only [List.getElem?_cons_zero, List.getElem?_cons_succ]))
            | (refine Run.passU ?_ ?_; (· simp only [List.getElem?_cons_zero, List.getElem?_cons_succ]))
            | fail); simp only [Act.put, List.setIfInBounds_toArray, List.set_cons_zero, List.set_cons_succ])
          refine Run.ends (fun hS => ?_)
          clear hS c0
          have HR7 := Lib.hid (HR6.out.keep (Below.refl _ _).drew)
          have HK7 := Lib.hid (nest HK6.out (Below.refl _ _).drew)
          go_wp2_with (refine at_store 4 rfl ?_; refine wpList_store_row rfl 33 (.tmp 4) (.tmp 47) rfl r #[.int .u32 0, .int .u32 0] rfl rfl 33 _ HR7.out mv_info rfl (mv_one _ _) ?_)
          (try simp only [Exit.inBlock, Exit.then])
          refine bodyPost_ret (results_blk_tmp (l := [.int .u32 0, .int .u32 0]) rfl Try.underlying33 mv_info rfl rfl (Blk.rowS HR7.out _)) rfl ?_
          exact ⟨rfl, HK7.out.trans ((Only.rowS _ _).below (by rw [HRE.out]; exact Nat.le_refl _) HK7.out.size)⟩
        · have h3 : decide ((es.length : Int) < 2) = false := by simp; omega
          obtain ⟨rfl, _, hgl⟩ := HG.out (by omega)
          have HGL := Lib.hid hgl
          obtain ⟨mid, hmid⟩ : ∃ m, m = es.length / 2 := ⟨_, rfl⟩
          have hml : mid < es.length := by omega
          have hml2 : (mid : Int) < (es.length : Int) := by omega
          have hq : (es.length : Int).tdiv 2 = (mid : Int) := by rw [Int.tdiv_eq_ediv_of_nonneg (by omega)]; omega
          have hmw : IntKind.i64.wrap (mid : Int) = (mid : Int) := IntWalk.i64_in _ (by omega)
          obtain ⟨xx, k0, _⟩ := HC.out mid hml
          rw [← hmid] at HP
          obtain ⟨u, hu⟩ : ∃ u, u = (es.getD mid e0).1 := ⟨_, rfl⟩
          rw [← hu] at HP k0
          have d0 : w6.drew.cell? ⟨g, off + mid * 5, none⟩ = some (.int .u32 u) := (HK6.out.cell (p := ⟨g, off + mid * 5, none⟩) hgl).trans k0
          have H2 := Lib.hid h2
          have HD0 := Lib.hid k0
          clear hu hmid k0 h2 hgl
          by_cases hup : u = hp
          · have hup2 : (u == hp) = true := by simpa using hup
            have HUP := Lib.hid hup
            have HRR : Hid (RES = ((0, 0), 20)) := Lib.hid (by rw [HP.out, if_pos (.inr (.inr (.inr hup)))])
            obtain rfl := HRR.out
            clear hup
            refine Run.region_walk (S := fun z => z.cell? ⟨x, 0, none⟩ = some (.int .u32 hp) ∧ z.cell? ⟨g, off + mid * 5, none⟩ = some (.int .u32 u) ∧ Below w6.heap.size w6 z)
              rlplan.rows5 rlplan.plan5 (l := ?_) (by kernel_rfl) (by kernel_rfl) (by kernel_rfl) (by kernel_rfl) ?_ ⟨c0, d0, (Below.refl _ _).drew⟩ ?_
            rotate_left
            (· simp only [rlplan.plan5, Run.stepsOf, Run.stepOf, Run.guardOf, List.getElem?_toArray, List.getElem?_cons_zero, List.getElem?_cons_succ, Option.map_some, Option.map_none, Option.bind_some, Option.toList_some, List.map_cons, List.map_nil, List.cons_append, List.nil_append, List.append_eq]
               rfl)
            repeat ((first
              | (refine Run.takes (v := ?_) ?_ ?_; rotate_left; (· intro w' hS'; (first | (have h1 := hS'.1; have h2 := hS'.2.1; go_simp; done) | (go_simp; (try with_reducible rfl)))))
              | (refine Run.takesG (v := ?_) ?_ ?_ ?_; rotate_left; (· simp only [List.getElem?_cons_zero, List.getElem?_cons_succ]); (· intro w' hS'; (first | (have h1 := hS'.1; have h2 := hS'.2.1; go_simp; done) | (go_simp; (try with_reducible rfl)))))
              | (refine Run.skipsT ?_ ?_; (· simp only [List.getElem?_cons_zero, List.getElem?_cons_succ]))
              | (refine Run.skipsF ?_ ?_; (· simp only [List.getElem?_cons_zero, List.getElem?_cons_succ]))
              | (refine Run.skipsU ?_ ?_; (· simp only [List.getElem?_cons_zero, List.getElem?_cons_succ]))
              | (refine Run.passT ?_ ?_; (· simp only [List.getElem?_cons_zero, List.getElem?_cons_succ]))
              | (refine Run.passF ?_ ?_; (· simp only [List.getElem?_cons_zero, List.getElem?_cons_succ]))
              | (refine Run.passU ?_ ?_; (· simp only [List.getElem?_cons_zero, List.getElem?_cons_succ]))
              | fail); simp only [Act.put, List.setIfInBounds_toArray, List.set_cons_zero, List.set_cons_succ])
            refine Run.ends (fun hS => ?_)
            clear hS c0 d0
            have HR7 := Lib.hid (HR6.out.keep (Below.refl _ _).drew)
            have HK7 := Lib.hid (nest HK6.out (Below.refl _ _).drew)
            go_wp2_with (refine at_store 4 rfl ?_; refine wpList_store_row rfl 33 (.tmp 4) (.tmp 47) rfl r #[.int .u32 0, .int .u32 0] rfl rfl 33 _ HR7.out mv_info rfl (mv_one _ _) ?_)
            (try simp only [Exit.inBlock, Exit.then])
            refine bodyPost_ret (results_blk_tmp (l := [.int .u32 0, .int .u32 0]) rfl Try.underlying33 mv_info rfl rfl (Blk.rowS HR7.out _)) rfl ?_
            exact ⟨rfl, HK7.out.trans ((Only.rowS _ _).below (by rw [HRE.out]; exact Nat.le_refl _) HK7.out.size)⟩
          · have hup2 : (u == hp) = false := beq_eq_false_iff_ne.2 hup
            have HRR : Hid (RES = ((lp, u), 0)) := Lib.hid (by rw [HP.out, if_neg]; rintro (h | h | h | h); exact absurd h (by simp); exact absurd h (by simp); exact H2.out h; exact hup h)
            obtain rfl := HRR.out
            clear hup
            refine Run.region_walk (S := fun z => z.cell? ⟨x, 0, none⟩ = some (.int .u32 hp) ∧ z.cell? ⟨g, off + mid * 5, none⟩ = some (.int .u32 u) ∧ Below w6.heap.size w6 z)
              rlplan.rows5 rlplan.plan5 (l := ?_) (by kernel_rfl) (by kernel_rfl) (by kernel_rfl) (by kernel_rfl) ?_ ⟨c0, d0, (Below.refl _ _).drew⟩ ?_
            rotate_left
            (· simp only [rlplan.plan5, Run.stepsOf, Run.stepOf, Run.guardOf, List.getElem?_toArray, List.getElem?_cons_zero, List.getElem?_cons_succ, Option.map_some, Option.map_none, Option.bind_some, Option.toList_some, List.map_cons, List.map_nil, List.cons_append, List.nil_append, List.append_eq]
               rfl)
            repeat ((first
              | (refine Run.takes (v := ?_) ?_ ?_; rotate_left; (· intro w' hS'; (first | (have h1 := hS'.1; have h2 := hS'.2.1; go_simp; done) | (go_simp; (try with_reducible rfl)))))
              | (refine Run.takesG (v := ?_) ?_ ?_ ?_; rotate_left; (· simp only [List.getElem?_cons_zero, List.getElem?_cons_succ]); (· intro w' hS'; (first | (have h1 := hS'.1; have h2 := hS'.2.1; go_simp; done) | (go_simp; (try with_reducible rfl)))))
              | (refine Run.skipsT ?_ ?_; (· simp only [List.getElem?_cons_zero, List.getElem?_cons_succ]))
              | (refine Run.skipsF ?_ ?_; (· simp only [List.getElem?_cons_zero, List.getElem?_cons_succ]))
              | (refine Run.skipsU ?_ ?_; (· simp only [List.getElem?_cons_zero, List.getElem?_cons_succ]))
              | (refine Run.passT ?_ ?_; (· simp only [List.getElem?_cons_zero, List.getElem?_cons_succ]))
              | (refine Run.passF ?_ ?_; (· simp only [List.getElem?_cons_zero, List.getElem?_cons_succ]))
              | (refine Run.passU ?_ ?_; (· simp only [List.getElem?_cons_zero, List.getElem?_cons_succ]))
              | fail); simp only [Act.put, List.setIfInBounds_toArray, List.set_cons_zero, List.set_cons_succ])
            refine Run.ends (fun hS => ?_)
            clear hS c0 d0
            have HR7 := Lib.hid (HR6.out.keep (Below.refl _ _).drew)
            have HK7 := Lib.hid (nest HK6.out (Below.refl _ _).drew)
            have HB7 := Lib.hid (HB6.out.keep (Below.refl _ _).drew)
            have HD7 : Hid (w6.drew.cell? ⟨g, off + mid * 5, none⟩ = some (.int .u32 u)) := Lib.hid ((HK6.out.cell (p := ⟨g, off + mid * 5, none⟩) HGL.out).trans HD0.out)
            generalize w6.drew = w7 at *
            go_upto_region 7 with fail
            have d7 : w7.drew.cell? ⟨g, off + mid * 5, none⟩ = some (.int .u32 u) := HD7.out
            have b7 : w7.drew.cell? ⟨y, 0, none⟩ = some (.int .u32 lp) := HB7.out.cell 0
            refine Run.region_walk (S := fun z => z.cell? ⟨y, 0, none⟩ = some (.int .u32 lp) ∧ z.cell? ⟨g, off + mid * 5, none⟩ = some (.int .u32 u))
              rlplan.rows7 rlplan.plan7 (l := ?_) (by kernel_rfl) (by kernel_rfl) (by kernel_rfl) (by kernel_rfl) ?_ ⟨b7, d7⟩ ?_
            rotate_left
            (· simp only [rlplan.plan7, Run.stepsOf, Run.stepOf, Run.guardOf, List.getElem?_toArray, List.getElem?_cons_zero, List.getElem?_cons_succ, Option.map_some, Option.map_none, Option.bind_some, Option.toList_some, List.map_cons, List.map_nil, List.cons_append, List.nil_append, List.append_eq]
               rfl)
            repeat ((first
              | (refine Run.takes (v := ?_) ?_ ?_; rotate_left; (· intro w' hS'; (first | (have h1 := hS'.1; have h2 := hS'.2; go_simp; done) | (go_simp; (try with_reducible rfl)))))
              | (refine Run.takesG (v := ?_) ?_ ?_ ?_; rotate_left; (· simp only [List.getElem?_cons_zero, List.getElem?_cons_succ]); (· intro w' hS'; (first | (have h1 := hS'.1; have h2 := hS'.2; go_simp; done) | (go_simp; (try with_reducible rfl)))))
              | (refine Run.skipsT ?_ ?_; (· simp only [List.getElem?_cons_zero, List.getElem?_cons_succ]))
              | (refine Run.skipsF ?_ ?_; (· simp only [List.getElem?_cons_zero, List.getElem?_cons_succ]))
              | (refine Run.skipsU ?_ ?_; (· simp only [List.getElem?_cons_zero, List.getElem?_cons_succ]))
              | (refine Run.passT ?_ ?_; (· simp only [List.getElem?_cons_zero, List.getElem?_cons_succ]))
              | (refine Run.passF ?_ ?_; (· simp only [List.getElem?_cons_zero, List.getElem?_cons_succ]))
              | (refine Run.passU ?_ ?_; (· simp only [List.getElem?_cons_zero, List.getElem?_cons_succ]))
              | fail); simp only [Act.put, List.setIfInBounds_toArray, List.set_cons_zero, List.set_cons_succ])
            refine Run.runs (Run.one (fun hS K hK => ?_))
            have HR8 := Lib.hid (HR7.out.keep (Below.refl _ _).drew)
            have HK8 := Lib.hid (nest HK7.out (Below.refl _ _).drew)
            clear HR7 HK7 HB7 HD7
            generalize w7.drew = w8 at *
            refine wp_store_row 33 (.tmp 4) (.tmp 57) rfl r #[.int .u32 lp, .int .u32 u] rfl rfl 33 _ HR8.out mv_info rfl (mv_one _ _) ?_
            have on := Only.rowS (b := r) w8 #[.int .u32 lp, .int .u32 u]
            have HR9 := Lib.hid (Blk.rowS HR8.out #[.int .u32 lp, .int .u32 u])
            have HK9 : Hid (Below w.heap.size w (w8.setRow r #[.int .u32 lp, .int .u32 u])) := Lib.hid (HK8.out.trans (on.below (by rw [HRE.out]; exact Nat.le_refl _) HK8.out.size))
            have s1 : (w8.setRow r #[.int .u32 lp, .int .u32 u]).cell? ⟨y, 0, none⟩ = some (.int .u32 lp) := by rw [← b7]; exact only_cell on (show y ≠ r by have := HRN.out; omega) (World.block_lt_of_cell? w8 _ b7)
            have s2 : (w8.setRow r #[.int .u32 lp, .int .u32 u]).cell? ⟨g, off + mid * 5, none⟩ = some (.int .u32 u) := by rw [← d7]; exact only_cell on (show g ≠ r by have := HRE.out; have := HGL.out; omega) (World.block_lt_of_cell? w8 _ d7)
            refine hK.out _ _ ⟨s1, s2⟩ ?_
            clear hK K hS on s1 s2 b7 d7
            simp only [Act.put, List.setIfInBounds_toArray, List.set_cons_zero, List.set_cons_succ]
            generalize w8.setRow r #[.int .u32 lp, .int .u32 u] = w9 at *
            repeat ((first
              | (refine Run.takes (v := ?_) ?_ ?_; rotate_left; (· intro w' hS'; go_simp; (try with_reducible rfl)))
              | (refine Run.takesG (v := ?_) ?_ ?_ ?_; rotate_left; (· simp only [List.getElem?_cons_zero, List.getElem?_cons_succ]); (· intro w' hS'; go_simp; (try with_reducible rfl)))
              | (refine Run.skipsT ?_ ?_; (· simp only [List.getElem?_cons_zero, List.getElem?_cons_succ]))
              | (refine Run.skipsF ?_ ?_; (· simp only [List.getElem?_cons_zero, List.getElem?_cons_succ]))
              | (refine Run.skipsU ?_ ?_; (· simp only [List.getElem?_cons_zero, List.getElem?_cons_succ]))
              | (refine Run.passT ?_ ?_; (· simp only [List.getElem?_cons_zero, List.getElem?_cons_succ]))
              | (refine Run.passF ?_ ?_; (· simp only [List.getElem?_cons_zero, List.getElem?_cons_succ]))
              | (refine Run.passU ?_ ?_; (· simp only [List.getElem?_cons_zero, List.getElem?_cons_succ]))
              | fail); simp only [Act.put, List.setIfInBounds_toArray, List.set_cons_zero, List.set_cons_succ])
            refine Run.ends (fun hS => ?_)
            clear hS
            go_wp2_with fail
            (try simp only [Exit.inBlock, Exit.then])
            refine bodyPost_ret (results_blk_tmp (l := [.int .u32 lp, .int .u32 u]) rfl Try.underlying33 mv_info rfl rfl HR9.out) rfl ?_
            exact ⟨rfl, HK9.out⟩
end Go.Proofs.Ytgkmkpkbdmciiaa
