/- Walks beneath package balance: how two loads are compared, by the closures of Heavy and Light. -/
import Derived.Test.YtgkmkpkbdmciiaaBalCmp
set_option maxRecDepth 4000
namespace Go.Proofs.Ytgkmkpkbdmciiaa.Mem
open Go Go.RowKit
/-- a slice literal of two numbers -/
theorem run_fill_ints (k1 k2 : IntKind) (x y : Int) (Z : Array Value) (hZ : Z.size = 2 * 1) : Instr.fill (fun i => some (i * 1, 1)) Z [(0, .int k1 x), (1, .int k2 y)] = some #[.int k1 x, .int k2 y] := by
  match Z, hZ with
  | ⟨[u, v]⟩, _ => simp [Instr.fill, Value.cells]
theorem wp_build_ints {P : Program} {t e : TypeId} {bytes : Nat} (I : Elem P t e 1 bytes) {o : Oper} {a : Act} {w : World} {K : Act → World → Prop} {Q : Exit → Act → World → Prop} {x y : Operand} (ho : o.op = .buildSlice t 2 #[(0, x), (1, y)])
    {k1 k2 : IntKind} {c d : Int} (hx : a.eval x = .int k1 c) (hy : a.eval y = .int k2 d) (h : K (a.put o.dst (.slice (some ⟨w.heap.size, 0, none⟩) 2 2)) (w.alloc (.cells #[.int k1 c, .int k2 d] e))) : o.wp P a w K Q := by
  obtain ⟨hu, i, z, hi, hz, hs, _, hzs⟩ := I
  refine wp_buildSlice t e 2 _ ho #[.int k1 c, .int k2 d] i z hu hi hz (by omega) (by omega) ?_ h
  have e1 : (#[(0, x), (1, y)].map fun (i, x) => (i, a.eval x)).toList = [(0, .int k1 c), (1, .int k2 d)] := by simp [hx, hy]
  rw [e1, hs]
  exact run_fill_ints _ _ _ _ _ (by simp)
end Go.Proofs.Ytgkmkpkbdmciiaa.Mem
namespace Go.Proofs.Ytgkmkpkbdmciiaa
open Go.RowKit Mem
set_option linter.unusedSimpArgs false
set_option linter.unusedVariables false
attribute [local irreducible] Go.Calls

theorem intElem : Elem Try.prog 62 3 1 8 := elem_of (z := .int .i64 0) Try.underlying62 (by kernel_rfl) rfl
set_option maxHeartbeats 2000000 in
set_option maxRecDepth 100000 in
theorem bhcmp_any (a b : Ld) (w : World) : Calls Try.prog 21 #[ldv a, ldv b] w fun e w' => e = .returned (.int .i64 (cmpL a b true)) ∧ Below w.heap.size w w' := by
  obtain ⟨p, e⟩ := a
  obtain ⟨q, f⟩ := b
  obtain ⟨c1, hc1⟩ : ∃ x, x = Lib.compareInt f e := ⟨_, rfl⟩
  obtain ⟨c2, hc2⟩ : ∃ x, x = Lib.compareInt p q := ⟨_, rfl⟩
  have HO : Hid (cmpL (p, e) (q, f) true = orV [c1, c2]) := Lib.hid (by rw [hc1, hc2]; rfl)
  have H1 := Lib.hid (fun z => cmpI_any f e z)
  have H2 := Lib.hid (fun z => cmp32_any p q z)
  rw [← hc1] at H1
  rw [← hc2] at H2
  rw [HO.out]
  clear hc1 hc2 HO
  obtain ⟨RES, hRES⟩ : ∃ x, x = orV [c1, c2] := ⟨_, rfl⟩
  rw [← hRES]
  have HR := Lib.hid hRES
  clear hRES
  have HK := Lib.hid (more_two w (.cells #[.int .u32 p, .int .i64 e] 29) (.cells #[.int .u32 q, .int .i64 f] 29))
  have HA : Hid (Blk ((w.alloc (.cells #[.int .u32 p, .int .i64 e] 29)).alloc (.cells #[.int .u32 q, .int .i64 f] 29)) w.heap.size 29 #[.int .u32 p, .int .i64 e]) := Lib.hid ((Blk.new w _ _).keep (more_one _ _))
  have HB : Hid (Blk ((w.alloc (.cells #[.int .u32 p, .int .i64 e] 29)).alloc (.cells #[.int .u32 q, .int .i64 f] 29)) (w.heap.size + 1) 29 #[.int .u32 q, .int .i64 f]) := Lib.hid (Blk.newAt _ _ _ (size_alloc _ _).symm)
  dsimp only [ldv]
  go_enter Try.func21, Try.ntmps21
  go_upto_region 1 with fail
  generalize (w.alloc (.cells #[.int .u32 p, .int .i64 e] 29)).alloc (.cells #[.int .u32 q, .int .i64 f] 29) = w1 at *
  obtain ⟨ga, hga⟩ : ∃ g, g = w.heap.size := ⟨_, rfl⟩
  rw [← hga] at HA HB ⊢
  clear hga
  have a0 : w1.drew.cell? ⟨ga, 0, none⟩ = some (.int .u32 p) := HA.out.cell 0
  have a1 : w1.drew.cell? ⟨ga, 1, none⟩ = some (.int .i64 e) := HA.out.cell 1
  have b0 : w1.drew.cell? ⟨ga + 1, 0, none⟩ = some (.int .u32 q) := HB.out.cell 0
  have b1 : w1.drew.cell? ⟨ga + 1, 1, none⟩ = some (.int .i64 f) := HB.out.cell 1
  refine Run.region_walk (S := fun z => z.cell? ⟨ga, 0, none⟩ = some (.int .u32 p) ∧ z.cell? ⟨ga, 1, none⟩ = some (.int .i64 e) ∧ z.cell? ⟨ga + 1, 0, none⟩ = some (.int .u32 q) ∧ z.cell? ⟨ga + 1, 1, none⟩ = some (.int .i64 f) ∧ Below w.heap.size w z)
    bchf.rows1 bchf.plan1 (l := ?steps1) (by kernel_rfl) (by kernel_rfl) (by kernel_rfl) (by kernel_rfl) ?written1 ⟨a0, a1, b0, b1, HK.out.drew⟩ ?onward1
  case written1 =>
    simp only [bchf.plan1, Run.stepsOf, Run.stepOf, Run.guardOf, List.getElem?_toArray, List.getElem?_cons_zero, List.getElem?_cons_succ, Option.map_some, Option.map_none, Option.bind_some, Option.toList_some, List.map_cons, List.map_nil, List.cons_append, List.nil_append, List.append_eq]
    rfl
  repeat ((first
    | (refine Run.takes (v := ?_) ?_ ?_; rotate_left; (· intro w' hS'; (first | (have h1 := hS'.1; have h2 := hS'.2.1; have h3 := hS'.2.2.1; have h4 := hS'.2.2.2.1; go_simp; done) | (go_simp; (try with_reducible rfl)))))
    | (refine Run.takesG (v := ?_) ?_ ?_ ?_; rotate_left; (· simp only [List.getElem?_cons_zero, List.getElem?_cons_succ]); (· intro w' hS'; (first | (have h1 := hS'.1; have h2 := hS'.2.1; have h3 := hS'.2.2.1; have h4 := hS'.2.2.2.1; go_simp; done) | (go_simp; (try with_reducible rfl)))))
    | (refine Run.skipsT ?_ ?_; (· simp only [List.getElem?_cons_zero, List.getElem?_cons_succ]))
    | (refine Run.skipsF ?_ ?_; (· simp only [List.getElem?_cons_zero, List.getElem?_cons_succ]))
    | (refine Run.skipsU ?_ ?_; (· simp only [List.getElem?_cons_zero, List.getElem?_cons_succ]))
    | (refine Run.passT ?_ ?_; (· simp only [List.getElem?_cons_zero, List.getElem?_cons_succ]))
    | (refine Run.passF ?_ ?_; (· simp only [List.getElem?_cons_zero, List.getElem?_cons_succ]))
    | (refine Run.passU ?_ ?_; (· simp only [List.getElem?_cons_zero, List.getElem?_cons_succ]))
    | (refine Run.runs ?_
       (first
       | (refine Run.callF 23 (by kernel_rfl) (fun hS => H1.out _) rfl ?_)
       | (refine Run.callG 23 (by kernel_rfl) ?_ (fun hS => H1.out _) rfl ?_; (· simp only [List.getElem?_cons_zero, List.getElem?_cons_succ]))
       | (refine Run.callF 24 (by kernel_rfl) (fun hS => H2.out _) rfl ?_)
       | (refine Run.callG 24 (by kernel_rfl) ?_ (fun hS => H2.out _) rfl ?_; (· simp only [List.getElem?_cons_zero, List.getElem?_cons_succ]))
       | fail)
       (first
       | (rintro hS e w' ⟨rfl, rfl⟩; refine ⟨_, rfl, hS, ?_⟩)
       | fail))
    | fail); simp only [Act.put, List.setIfInBounds_toArray, List.set_cons_zero, List.set_cons_succ])
  refine Run.runs (Run.one (fun hS K hK => ?_))
  refine wp_build_ints (t := 62) (e := 3) (bytes := 8) (x := .tmp 9) (y := .tmp 14) intElem rfl rfl rfl ?_
  have hb2 : Below w.heap.size w (w1.drew.alloc (.cells #[.int .i64 c1, .int .i64 c2] 3)) := nest hS.2.2.2.2 (more_one _ _)
  have R2 : Hid (Rd (intE .i64) (w1.drew.alloc (.cells #[.int .i64 c1, .int .i64 c2] 3)) (.slice (some ⟨w1.drew.heap.size, 0, none⟩) 2 2) [c1, c2]) := Lib.hid (Row.lit (E := intE .i64) (T := 3) 0 w1.drew #[.int .i64 c1, .int .i64 c2] [c1, c2] 2 _ rfl rfl rfl (Nat.zero_le _) (show 2 ≤ maxLen by decide)).rd
  refine hK.out _ _ ⟨kc (more_one _ _) hS.1, kc (more_one _ _) hS.2.1, kc (more_one _ _) hS.2.2.1, kc (more_one _ _) hS.2.2.2.1, hb2⟩ ?_
  clear hK K hS a0 a1 b0 b1
  simp only [Act.put, List.setIfInBounds_toArray, List.set_cons_zero, List.set_cons_succ]
  have HOR := Lib.hid (or_any _ _ _ R2.out)
  rw [← HR.out] at HOR
  refine Run.runs (Run.callF 22 (by kernel_rfl) (fun hS => HOR.out) rfl ?_)
  rintro hS e w' ⟨rfl, rfl⟩
  refine ⟨_, rfl, hS, ?_⟩
  simp only [Act.put, List.setIfInBounds_toArray, List.set_cons_zero, List.set_cons_succ]
  clear hS HOR R2
  have HB2 := Lib.hid hb2
  clear hb2
  repeat ((first
    | (refine Run.takes (v := ?_) ?_ ?_; rotate_left; (· intro w' hS'; go_simp; (try with_reducible rfl)))
    | (refine Run.takesG (v := ?_) ?_ ?_ ?_; rotate_left; (· simp only [List.getElem?_cons_zero, List.getElem?_cons_succ]); (· intro w' hS'; go_simp; (try with_reducible rfl)))
    | (refine Run.skipsT ?_ ?_; (· simp only [List.getElem?_cons_zero, List.getElem?_cons_succ]))
    | (refine Run.skipsF ?_ ?_; (· simp only [List.getElem?_cons_zero, List.getElem?_cons_succ]))
    | (refine Run.skipsU ?_ ?_; (· simp only [List.getElem?_cons_zero, List.getElem?_cons_succ]))
    | (refine Run.passT ?_ ?_; (· simp only [List.getElem?_cons_zero, List.getElem?_cons_succ]))
    | (refine Run.passF ?_ ?_; (· simp only [List.getElem?_cons_zero, List.getElem?_cons_succ]))
    | (refine Run.passU ?_ ?_; (· simp only [List.getElem?_cons_zero, List.getElem?_cons_succ]))
    | fail); simp only [Act.put, List.setIfInBounds_toArray, List.set_cons_zero, List.set_cons_succ])
  refine Run.ends (fun hS => ?_)
  clear hS
  go_wp2_with fail
  go_ret
  exact ⟨rfl, HB2.out⟩
set_option maxHeartbeats 2000000 in
set_option maxRecDepth 100000 in
theorem blcmp_any (a b : Ld) (w : World) : Calls Try.prog 27 #[ldv a, ldv b] w fun e w' => e = .returned (.int .i64 (cmpL a b false)) ∧ Below w.heap.size w w' := by
  obtain ⟨p, e⟩ := a
  obtain ⟨q, f⟩ := b
  obtain ⟨c1, hc1⟩ : ∃ x, x = Lib.compareInt e f := ⟨_, rfl⟩
  obtain ⟨c2, hc2⟩ : ∃ x, x = Lib.compareInt p q := ⟨_, rfl⟩
  have HO : Hid (cmpL (p, e) (q, f) false = orV [c1, c2]) := Lib.hid (by rw [hc1, hc2]; rfl)
  have H1 := Lib.hid (fun z => cmpI_any e f z)
  have H2 := Lib.hid (fun z => cmp32_any p q z)
  rw [← hc1] at H1
  rw [← hc2] at H2
  rw [HO.out]
  clear hc1 hc2 HO
  obtain ⟨RES, hRES⟩ : ∃ x, x = orV [c1, c2] := ⟨_, rfl⟩
  rw [← hRES]
  have HR := Lib.hid hRES
  clear hRES
  have HK := Lib.hid (more_two w (.cells #[.int .u32 p, .int .i64 e] 29) (.cells #[.int .u32 q, .int .i64 f] 29))
  have HA : Hid (Blk ((w.alloc (.cells #[.int .u32 p, .int .i64 e] 29)).alloc (.cells #[.int .u32 q, .int .i64 f] 29)) w.heap.size 29 #[.int .u32 p, .int .i64 e]) := Lib.hid ((Blk.new w _ _).keep (more_one _ _))
  have HB : Hid (Blk ((w.alloc (.cells #[.int .u32 p, .int .i64 e] 29)).alloc (.cells #[.int .u32 q, .int .i64 f] 29)) (w.heap.size + 1) 29 #[.int .u32 q, .int .i64 f]) := Lib.hid (Blk.newAt _ _ _ (size_alloc _ _).symm)
  dsimp only [ldv]
  go_enter Try.func27, Try.ntmps27
  go_upto_region 1 with fail
  generalize (w.alloc (.cells #[.int .u32 p, .int .i64 e] 29)).alloc (.cells #[.int .u32 q, .int .i64 f] 29) = w1 at *
  obtain ⟨ga, hga⟩ : ∃ g, g = w.heap.size := ⟨_, rfl⟩
  rw [← hga] at HA HB ⊢
  clear hga
  have a0 : w1.drew.cell? ⟨ga, 0, none⟩ = some (.int .u32 p) := HA.out.cell 0
  have a1 : w1.drew.cell? ⟨ga, 1, none⟩ = some (.int .i64 e) := HA.out.cell 1
  have b0 : w1.drew.cell? ⟨ga + 1, 0, none⟩ = some (.int .u32 q) := HB.out.cell 0
  have b1 : w1.drew.cell? ⟨ga + 1, 1, none⟩ = some (.int .i64 f) := HB.out.cell 1
  refine Run.region_walk (S := fun z => z.cell? ⟨ga, 0, none⟩ = some (.int .u32 p) ∧ z.cell? ⟨ga, 1, none⟩ = some (.int .i64 e) ∧ z.cell? ⟨ga + 1, 0, none⟩ = some (.int .u32 q) ∧ z.cell? ⟨ga + 1, 1, none⟩ = some (.int .i64 f) ∧ Below w.heap.size w z)
    bclf.rows1 bclf.plan1 (l := ?steps3) (by kernel_rfl) (by kernel_rfl) (by kernel_rfl) (by kernel_rfl) ?written3 ⟨a0, a1, b0, b1, HK.out.drew⟩ ?onward3
  case written3 =>
    simp only [bclf.plan1, Run.stepsOf, Run.stepOf, Run.guardOf, List.getElem?_toArray, List.getElem?_cons_zero, List.getElem?_cons_succ, Option.map_some, Option.map_none, Option.bind_some, Option.toList_some, List.map_cons, List.map_nil, List.cons_append, List.nil_append, List.append_eq]
    rfl
  repeat ((first
    | (refine Run.takes (v := ?_) ?_ ?_; rotate_left; (· intro w' hS'; (first | (have h1 := hS'.1; have h2 := hS'.2.1; have h3 := hS'.2.2.1; have h4 := hS'.2.2.2.1; go_simp; done) | (go_simp; (try with_reducible rfl)))))
    | (refine Run.takesG (v := ?_) ?_ ?_ ?_; rotate_left; (· simp only [List.getElem?_cons_zero, List.getElem?_cons_succ]); (· intro w' hS'; (first | (have h1 := hS'.1; have h2 := hS'.2.1; have h3 := hS'.2.2.1; have h4 := hS'.2.2.2.1; go_simp; done) | (go_simp; (try with_reducible rfl)))))
    | (refine Run.skipsT ?_ ?_; (· simp only [List.getElem?_cons_zero, List.getElem?_cons_succ]))
    | (refine Run.skipsF ?_ ?_; (· simp only [List.getElem?_cons_zero, List.getElem?_cons_succ]))
    | (refine Run.skipsU ?_ ?_; (· simp only [List.getElem?_cons_zero, List.getElem?_cons_succ]))
    | (refine Run.passT ?_ ?_; (· simp only [List.getElem?_cons_zero, List.getElem?_cons_succ]))
    | (refine Run.passF ?_ ?_; (· simp only [List.getElem?_cons_zero, List.getElem?_cons_succ]))
    | (refine Run.passU ?_ ?_; (· simp only [List.getElem?_cons_zero, List.getElem?_cons_succ]))
    | (refine Run.runs ?_
       (first
       | (refine Run.callF 23 (by kernel_rfl) (fun hS => H1.out _) rfl ?_)
       | (refine Run.callG 23 (by kernel_rfl) ?_ (fun hS => H1.out _) rfl ?_; (· simp only [List.getElem?_cons_zero, List.getElem?_cons_succ]))
       | (refine Run.callF 24 (by kernel_rfl) (fun hS => H2.out _) rfl ?_)
       | (refine Run.callG 24 (by kernel_rfl) ?_ (fun hS => H2.out _) rfl ?_; (· simp only [List.getElem?_cons_zero, List.getElem?_cons_succ]))
       | fail)
       (first
       | (rintro hS e w' ⟨rfl, rfl⟩; refine ⟨_, rfl, hS, ?_⟩)
       | fail))
    | fail); simp only [Act.put, List.setIfInBounds_toArray, List.set_cons_zero, List.set_cons_succ])
  refine Run.runs (Run.one (fun hS K hK => ?_))
  refine wp_build_ints (t := 62) (e := 3) (bytes := 8) (x := .tmp 9) (y := .tmp 14) intElem rfl rfl rfl ?_
  have hb2 : Below w.heap.size w (w1.drew.alloc (.cells #[.int .i64 c1, .int .i64 c2] 3)) := nest hS.2.2.2.2 (more_one _ _)
  have R2 : Hid (Rd (intE .i64) (w1.drew.alloc (.cells #[.int .i64 c1, .int .i64 c2] 3)) (.slice (some ⟨w1.drew.heap.size, 0, none⟩) 2 2) [c1, c2]) := Lib.hid (Row.lit (E := intE .i64) (T := 3) 0 w1.drew #[.int .i64 c1, .int .i64 c2] [c1, c2] 2 _ rfl rfl rfl (Nat.zero_le _) (show 2 ≤ maxLen by decide)).rd
  refine hK.out _ _ ⟨kc (more_one _ _) hS.1, kc (more_one _ _) hS.2.1, kc (more_one _ _) hS.2.2.1, kc (more_one _ _) hS.2.2.2.1, hb2⟩ ?_
  clear hK K hS a0 a1 b0 b1
  simp only [Act.put, List.setIfInBounds_toArray, List.set_cons_zero, List.set_cons_succ]
  have HOR := Lib.hid (or_any _ _ _ R2.out)
  rw [← HR.out] at HOR
  refine Run.runs (Run.callF 22 (by kernel_rfl) (fun hS => HOR.out) rfl ?_)
  rintro hS e w' ⟨rfl, rfl⟩
  refine ⟨_, rfl, hS, ?_⟩
  simp only [Act.put, List.setIfInBounds_toArray, List.set_cons_zero, List.set_cons_succ]
  clear hS HOR R2
  have HB2 := Lib.hid hb2
  clear hb2
  repeat ((first
    | (refine Run.takes (v := ?_) ?_ ?_; rotate_left; (· intro w' hS'; go_simp; (try with_reducible rfl)))
    | (refine Run.takesG (v := ?_) ?_ ?_ ?_; rotate_left; (· simp only [List.getElem?_cons_zero, List.getElem?_cons_succ]); (· intro w' hS'; go_simp; (try with_reducible rfl)))
    | (refine Run.skipsT ?_ ?_; (· simp only [List.getElem?_cons_zero, List.getElem?_cons_succ]))
    | (refine Run.skipsF ?_ ?_; (· simp only [List.getElem?_cons_zero, List.getElem?_cons_succ]))
    | (refine Run.skipsU ?_ ?_; (· simp only [List.getElem?_cons_zero, List.getElem?_cons_succ]))
    | (refine Run.passT ?_ ?_; (· simp only [List.getElem?_cons_zero, List.getElem?_cons_succ]))
    | (refine Run.passF ?_ ?_; (· simp only [List.getElem?_cons_zero, List.getElem?_cons_succ]))
    | (refine Run.passU ?_ ?_; (· simp only [List.getElem?_cons_zero, List.getElem?_cons_succ]))
    | fail); simp only [Act.put, List.setIfInBounds_toArray, List.set_cons_zero, List.set_cons_succ])
  refine Run.ends (fun hS => ?_)
  clear hS
  go_wp2_with fail
  go_ret
  exact ⟨rfl, HB2.out⟩
end Go.Proofs.Ytgkmkpkbdmciiaa
