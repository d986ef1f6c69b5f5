/- Walk of package cover: Add. -/
import Derived.Test.YtbdijeekekaibaaCover4
import Derived.Test.YtbdijeekekaibaaCoverMath2
namespace Go.Proofs.Ytbdijeekekaibaa
open Go.RowKit Cir Mem
set_option linter.unusedSimpArgs false
set_option linter.unusedVariables false
attribute [local irreducible] Go.Calls

theorem cadd_nil (g u : Int) (w : World) : Calls Try.prog 10 #[.pointer none, .agg #[.int .u32 g, .int .u32 u]] w fun e w' => e = .returned (.int .u64 0) ∧ Below w.heap.size w w' := by
  go_enter Try.func10, Try.ntmps10
  go_wp2
  go_ret
  exact ⟨rfl, more (Below.refl _ _) _⟩
def AddPost (B b : Nat) (f t g u : Int) (l : List (Int × Int)) (w : World) (e : Ending) (w' : World) : Prop :=
  e = .returned (.int .u64 (sumL l - sumL (addL (prts f t g u) l))) ∧ CoverAt B w' b f t (addL (prts f t g u) l) ∧ Only b w w'

set_option maxHeartbeats 4000000 in
theorem cadd_any (B b : Nat) (f t g u : Int) (bf : 0 ≤ f ∧ f ≤ 4294967295) (bt : 0 ≤ t ∧ t ≤ 4294967295) (bg : 0 ≤ g ∧ g ≤ 4294967295) (bu : 0 ≤ u ∧ u ≤ 4294967295) (l : List (Int × Int)) (w : World) (h : CoverAt B w b f t l)
    (hn : Norm (beh f t) 0 l) (hl : l.length ≤ 900000) :
    Calls Try.prog 10 #[.pointer (some ⟨b, 0, none⟩), .agg #[.int .u32 g, .int .u32 u]] w (AddPost B b f t g u l w) := by
  have hbd := beh_bd f t
  obtain ⟨hB, v, hblk, hrow⟩ := h
  have f0 : w.cell? ⟨b, 0, none⟩ = some (.int .u32 f) := hblk.cell 0
  have f1 : w.cell? ⟨b, 1, none⟩ = some (.int .u32 t) := hblk.cell 1
  have hbl := hblk.lt
  have HP := Lib.hid (prts_norm f t g u bg bu)
  have hpl := (prts_bd f t g u bg bu).1
  have HPE := Lib.hid (meet_is f t g u bf bt bg bu)
  go_enter Try.func10, Try.ntmps10
  go_wp2_with fail
  generalize hW : w.alloc (Obj.cells #[Value.int IntKind.u32 g, Value.int IntKind.u32 u] 24) = W
  have hb0 : Below w.heap.size w W := hW ▸ more (Below.refl _ _) _
  have hc0 : W.cell? ⟨w.heap.size, 0, none⟩ = some (.int .u32 g) := by rw [← hW]; simp
  have hc1 : W.cell? ⟨w.heap.size, 1, none⟩ = some (.int .u32 u) := by rw [← hW]; simp
  have g0 := kc hb0 f0
  have g1 := kc hb0 f1
  clear hW
  refine Run.region_walk (S := fun z => z.cell? ⟨w.heap.size, 0, none⟩ = some (.int .u32 g) ∧ z.cell? ⟨w.heap.size, 1, none⟩ = some (.int .u32 u) ∧ z.cell? ⟨b, 0, none⟩ = some (.int .u32 f) ∧ z.cell? ⟨b, 1, none⟩ = some (.int .u32 t) ∧ Below W.heap.size W z)
    cadd.rows4 cadd.plan4 (l := ?steps13) (by kernel_rfl) (by kernel_rfl) (by kernel_rfl) (by kernel_rfl) ?written13 ⟨hc0, hc1, g0, g1, (Below.refl _ _).drew⟩ ?onward13
  case written13 =>
    simp only [cadd.plan4, Run.stepsOf, Run.stepOf, Run.guardOf, List.getElem?_toArray, List.getElem?_cons_zero, List.getElem?_cons_succ, Option.map_some, Option.map_none, Option.bind_some, Option.toList_some, List.map_cons, List.map_nil, List.cons_append, List.nil_append]
    rfl
  repeat ((first
    | (refine Run.takes (v := ?_) ?_ ?_; rotate_left; (· intro w' hS'; go_simp; (try with_reducible rfl)))
    | (refine Run.takesG (v := ?_) ?_ ?_ ?_; rotate_left; (· simp only [List.getElem?_cons_zero, List.getElem?_cons_succ]); (· intro w' hS'; go_simp; (try with_reducible rfl)))
    | (refine Run.skipsT ?_ ?_; (· simp only [List.getElem?_cons_zero, List.getElem?_cons_succ]))
    | (refine Run.skipsF ?_ ?_; (· simp only [List.getElem?_cons_zero, List.getElem?_cons_succ]))
    | (refine Run.skipsU ?_ ?_; (· simp only [List.getElem?_cons_zero, List.getElem?_cons_succ]))
    | (refine Run.passT ?_ ?_; (· simp only [List.getElem?_cons_zero, List.getElem?_cons_succ]))
    | (refine Run.passF ?_ ?_; (· simp only [List.getElem?_cons_zero, List.getElem?_cons_succ]))
    | (refine Run.passU ?_ ?_; (· simp only [List.getElem?_cons_zero, List.getElem?_cons_succ]))
    | fail); simp only [Act.put, List.setIfInBounds_toArray, List.set_cons_zero, List.set_cons_succ])
  refine Run.runs (Run.callF 22 (by kernel_rfl) (fun hS => meet_any f t g u _) rfl ?_)
  rintro hS e x ⟨v1, rfl, ho1, hk1⟩
  have hx : Below w.heap.size w x := nest (nest hb0 hS.2.2.2.2) hk1
  have hrs : Row (pairE .u32) 24 w.heap.size x v1 (meetL f t g u) := SpansAt.mono ho1 (nest hb0 hS.2.2.2.2).size
  rw [HPE.out] at hrs
  refine ⟨_, rfl, ⟨kc hk1 hS.1, kc hk1 hS.2.1, kc hk1 hS.2.2.1, kc hk1 hS.2.2.2.1, nest hS.2.2.2.2 hk1⟩, ?_⟩
  clear hS ho1 hk1 g0 g1 hc0 hc1
  obtain ⟨a1, gb, c1, rfl, h1, h2, hag, hcells⟩ := hrs.loop
  have hown : (Value.slice a1 ((prts f t g u).map (spanP f)).length c1).ownBlock ≠ some b := fun e => by
    have := (hrs.block b e).1
    omega
  rw [List.length_map] at hag hcells hown
  simp only [List.length_map] at *
  have HAG := Lib.hid hag
  have HC := Lib.hid hcells
  clear hag hcells h1 h2 hrs
  generalize hP : prts f t g u = P at *
  have HPP := Lib.hid hP
  clear hP
  simp only [Act.put, List.setIfInBounds_toArray, List.set_cons_zero, List.set_cons_succ]
  repeat ((first
    | (refine Run.takes (v := ?_) ?_ ?_; rotate_left; (· intro w' hS'; go_simp; (try with_reducible rfl)))
    | (refine Run.takesG (v := ?_) ?_ ?_ ?_; rotate_left; (· simp only [List.getElem?_cons_zero, List.getElem?_cons_succ]); (· intro w' hS'; go_simp; (try with_reducible rfl)))
    | (refine Run.skipsT ?_ ?_; (· simp only [List.getElem?_cons_zero, List.getElem?_cons_succ]))
    | (refine Run.skipsF ?_ ?_; (· simp only [List.getElem?_cons_zero, List.getElem?_cons_succ]))
    | (refine Run.skipsU ?_ ?_; (· simp only [List.getElem?_cons_zero, List.getElem?_cons_succ]))
    | (refine Run.passT ?_ ?_; (· simp only [List.getElem?_cons_zero, List.getElem?_cons_succ]))
    | (refine Run.passF ?_ ?_; (· simp only [List.getElem?_cons_zero, List.getElem?_cons_succ]))
    | (refine Run.passU ?_ ?_; (· simp only [List.getElem?_cons_zero, List.getElem?_cons_succ]))
    | fail); simp only [Act.put, List.setIfInBounds_toArray, List.set_cons_zero, List.set_cons_succ])
  refine Run.ends (fun _ => ?_)
  have hcx : CoverAt B x b f t l := ⟨hB, v, hblk.keep hx, hrow.keep hx⟩
  have hpp : ∀ p ∈ P, p.1 < p.2 := fun p hp => (HP.out.all p hp).2.1
  have HQ := Lib.hid hpp
  clear hpp hblk hrow f0 f1
  go_wp2_with fail
  go_loopw [5, 18] (fun s i wr => ∃ k : Nat, k ≤ P.length ∧ i = .int .i64 k ∧ s = .int .u64 (sumL l - sumL (addL (P.take k) l)) ∧ CoverAt B wr b f t (addL (P.take k) l) ∧ Only b x wr) (fun _ i _ => P.length - (intOf i).toNat)
  case atStart => exact ⟨0, Nat.zero_le _, rfl, by simp [addL_nil], by rw [List.take_zero, addL_nil]; exact hcx, Only.refl _ _⟩
  case round =>
    obtain ⟨k, hk, rfl, rfl, hcw, hon⟩ := hrel
    have hno := addL_norm (P.take k) (fun p hp => HQ.out p (List.mem_of_mem_take hp)) hn
    have hll := addL_len (P.take k) (fun p hp => HQ.out p (List.mem_of_mem_take hp)) hn
    have hls := addL_less (P.take k) (fun p hp => HQ.out p (List.mem_of_mem_take hp)) hn
    have htk : (P.take k).length ≤ k := List.length_take_le _ _
    have s1 := sumL_bd hno (by omega)
    have s0 := sumL_bd hn (by omega)
    by_cases hlt : k < P.length
    · obtain ⟨rfl, hg⟩ := HAG.out (by omega)
      have hne : gb ≠ b := fun e => hown (by simp [Value.ownBlock, e])
      have d1 := World.grownBy.cell hon (HC.out k hlt).1 (by intro e; injection e; contradiction)
      have d2 := World.grownBy.cell hon (HC.out k hlt).2 (by intro e; injection e; contradiction)
      have hpm := HP.out.at hlt
      have HT := Lib.hid (addL_take P l k hlt)
      have hss : ((P.map (spanP f)).getD k (0, 0)) = spanP f (P.getD k (0, 0)) := by simp [List.getD, hlt]
      rw [hss] at d1 d2
      clear hss
      generalize P.getD k (0, 0) = s at *
      obtain ⟨p, q⟩ := s
      simp only [spanP] at d1 d2 hpm
      generalize addL (P.take k) l = lk at *
      have HFS := Lib.hid (far_step f p bf (by omega))
      have HBS := Lib.hid (beh_step f p q bf hpm.1 hpm.2.1 (by omega))
      have hsf := sum_fill hpm.2.1 hno
      have hfl := fill_less hpm.2.1 hno
      have s2 := sumL_bd (fill_norm hpm.2.1 hno) (by omega)
      have HSF := Lib.hid hsf
      have hcb : 0 ≤ cntL p q lk ∧ cntL p q lk ≤ sumL lk := by omega
      clear hsf
      obtain ⟨hB', v', hblk', hrow'⟩ := id hcw
      have k0 : wr.cell? ⟨b, 0, none⟩ = some (.int .u32 f) := hblk'.cell 0
      have hbw := hblk'.lt
      go_wp2_with fail
      generalize hX : wr.alloc (Obj.cells #[Value.int IntKind.u32 ((f + p) % 4294967296), Value.int IntKind.u32 ((f + q) % 4294967296)] 24) = X
      have hk0 : Below wr.heap.size wr X := hX ▸ more (Below.refl _ _) _
      have x0 : X.cell? ⟨wr.heap.size, 0, none⟩ = some (.int .u32 ((f + p) % 4294967296)) := by rw [← hX]; simp
      have x1 : X.cell? ⟨wr.heap.size, 1, none⟩ = some (.int .u32 ((f + q) % 4294967296)) := by rw [← hX]; simp
      have k1 := kc hk0 k0
      clear hX d1 d2 k0
      refine Run.region_walk (S := fun z => z.cell? ⟨b, 0, none⟩ = some (.int .u32 f) ∧ z.cell? ⟨wr.heap.size, 0, none⟩ = some (.int .u32 ((f + p) % 4294967296)) ∧ z.cell? ⟨wr.heap.size, 1, none⟩ = some (.int .u32 ((f + q) % 4294967296)) ∧ Below X.heap.size X z)
        cadd.rows7 cadd.plan7 (l := ?steps15) (by kernel_rfl) (by kernel_rfl) (by kernel_rfl) (by kernel_rfl) ?written15 ⟨k1, x0, x1, (Below.refl _ _).drew⟩ ?onward15
      case written15 =>
        simp only [cadd.plan7, Run.stepsOf, Run.stepOf, Run.guardOf, List.getElem?_toArray, List.getElem?_cons_zero, List.getElem?_cons_succ, Option.map_some, Option.map_none, Option.bind_some, Option.toList_some, List.map_cons, List.map_nil, List.cons_append, List.nil_append]
        rfl
      repeat ((first
        | (refine Run.takes (v := ?_) ?_ ?_; rotate_left; (· intro w' hS'; go_simp; (try with_reducible rfl)))
        | (refine Run.takesG (v := ?_) ?_ ?_ ?_; rotate_left; (· simp only [List.getElem?_cons_zero, List.getElem?_cons_succ]); (· intro w' hS'; go_simp; (try with_reducible rfl)))
        | (refine Run.skipsT ?_ ?_; (· simp only [List.getElem?_cons_zero, List.getElem?_cons_succ]))
        | (refine Run.skipsF ?_ ?_; (· simp only [List.getElem?_cons_zero, List.getElem?_cons_succ]))
        | (refine Run.skipsU ?_ ?_; (· simp only [List.getElem?_cons_zero, List.getElem?_cons_succ]))
        | (refine Run.passT ?_ ?_; (· simp only [List.getElem?_cons_zero, List.getElem?_cons_succ]))
        | (refine Run.passF ?_ ?_; (· simp only [List.getElem?_cons_zero, List.getElem?_cons_succ]))
        | (refine Run.passU ?_ ?_; (· simp only [List.getElem?_cons_zero, List.getElem?_cons_succ]))
        | (refine Run.runs ?_
           (first
           | (refine Run.callF 23 (by kernel_rfl) (fun hS => far_any f ((f + p) % 4294967296) _) rfl ?_)
           | (refine Run.callG 23 (by kernel_rfl) ?_ (fun hS => far_any f ((f + p) % 4294967296) _) rfl ?_; (· simp only [List.getElem?_cons_zero, List.getElem?_cons_succ]))
           | fail)
           (first
           | (rintro hS e w' ⟨rfl, rfl⟩; refine ⟨_, rfl, hS, ?_⟩)
           | fail))
        | fail); simp only [Act.put, List.setIfInBounds_toArray, List.set_cons_zero, List.set_cons_succ])
      refine Run.ends (fun _ => ?_)
      have hXd : Below wr.heap.size wr X.drew := nest hk0 (Below.refl _ _).drew
      have y0 : X.drew.cell? ⟨wr.heap.size, 0, none⟩ = some (.int .u32 ((f + p) % 4294967296)) := x0
      have y1 : X.drew.cell? ⟨wr.heap.size, 1, none⟩ = some (.int .u32 ((f + q) % 4294967296)) := x1
      have hcX := hcw.keep hXd
      have hoX := hon.trans (Only.of_below hXd)
      clear k1 x0 x1 hk0 hblk' hrow' hcw hon
      generalize X.drew = Y at *
      rw [HFS.out, IntWalk.u64_in p (by omega)]
      go_wp2_with fail
      refine (size_any _ _ _).mono ?_
      rintro e Z ⟨rfl, hkz⟩
      rw [HBS.out]
      have hcZ := hcX.keep hkz
      have hoZ := hoX.trans (Only.of_below hkz)
      clear hcX hoX y0 y1
      have hpq : p + (q - p) = q := by omega
      have HPQ := Lib.hid hpq
      have i1 : p + (q - p) ≤ 4294967296 := by omega
      have i2 : 0 ≤ p + (q - p) := by omega
      have i3 : 0 ≤ q - p := by omega
      clear hpq
      go_wp2_with fail
      try rw [HPQ.out]
      refine (cfill_any B b f t (beh f t) p q lk Z hcZ hno (by omega) hpm.2.1 hpm.1 (by omega) (by omega)).mono ?_
      rintro e V ⟨rfl, hcV, hoV⟩
      have hoW := hoZ.trans hoV
      have j1 : 0 ≤ sumL l - sumL lk + cntL p q lk := by omega
      have j2 : sumL l - sumL lk + cntL p q lk ≤ 4294967296 := by omega
      have j3 : 0 ≤ sumL l - sumL lk := by omega
      have HV := Lib.hid (show sumL l - sumL lk + cntL p q lk = sumL l - sumL (fillL p q lk) by have := HSF.out; omega)
      go_wp2_with fail
      go_roundw
      case rel => exact ⟨k + 1, by omega, by go_num, by rw [HV.out, HT.out], by rw [HT.out]; exact hcV, hoW⟩
      case measure => simp [intOf]; omega
    · have hkn : k = P.length := by omega
      have e1 : P.take k = P := by rw [hkn, List.take_length]
      rw [e1] at hcw ⊢
      have hfin : sumL l - sumL (addL P l) = sumL l - sumL (addL (prts f t g u) l) := by rw [HPP.out]
      have HF := Lib.hid hfin
      rw [← HPP.out] at hcw
      clear e1 hkn hfin hno hll hls htk s1
      generalize sumL l - sumL (addL P l) = sm at *
      go_wp2_with fail
      go_ret
      exact ⟨congrArg (fun n => Ending.returned (.int .u64 n)) HF.out, hcw, (Only.of_below hx).trans hon⟩
end Go.Proofs.Ytbdijeekekaibaa
