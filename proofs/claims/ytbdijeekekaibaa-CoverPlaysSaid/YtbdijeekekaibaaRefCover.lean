/- Walks of the document's own cover (petasosref01.Cover): many. -/
import Derived.Test.YtbdijeekekaibaaRefCoverMath
import Derived.Test.YtbdijeekekaibaaRefCoverPlans
import Derived.Test.YtbdijeekekaibaaMem
import Derived.Test.YtbdijeekekaibaaRefMeet
namespace Go.Proofs.Ytbdijeekekaibaa
open Go.RowKit Cir Mem
set_option linter.unusedSimpArgs false
set_option linter.unusedVariables false
attribute [local irreducible] Go.Calls

theorem partElem : Elem Try.prog 29 58 2 16 := elem_of (z := .agg #[.int .u64 0, .int .u64 0]) Try.underlying29 (by kernel_rfl) rfl

set_option maxHeartbeats 1000000 in
theorem rmany_any (B : Nat) (v : Value) (n : Int) (l : List (Int × Int)) (w : World) (h : Row (pairE .u64) 58 B w v l) (hn : Norm n 0 l) (hn0 : 0 ≤ n ∧ n ≤ 4294967296) :
    Calls Try.prog 27 #[v] w fun e w' => e = .returned (.int .u64 (sumL l)) ∧ Below w.heap.size w w' := by
  have hlen := hn.len hn0.1
  obtain ⟨a, g, c, rfl, hlc, hcm, ha, hc⟩ := h.loop
  have HA := Lib.hid ha
  have HC := Lib.hid hc
  have HN := Lib.hid hn
  clear ha hc h hn hlc hcm
  go_enter Try.func27, Try.ntmps27
  go_wp2_with fail
  go_loopw [3, 4] (fun s i wr => ∃ k : Nat, k ≤ l.length ∧ i = .int .i64 k ∧ s = .int .u64 (sumL (l.take k)) ∧ Below w.heap.size w wr) (fun _ i _ => l.length - (intOf i).toNat)
  case atStart => exact ⟨0, Nat.zero_le _, rfl, by simp [sumL_nil], Below.refl _ _⟩
  case round =>
    obtain ⟨k, hk, rfl, rfl, hb⟩ := hrel
    by_cases hlt : k < l.length
    · obtain ⟨rfl, hg⟩ := HA.out (by omega)
      have d1 := (hb.cell (p := ⟨g, k * 2, none⟩) hg).trans (HC.out k hlt).1
      have d2 := (hb.cell (p := ⟨g, k * 2 + 1, none⟩) hg).trans (HC.out k hlt).2
      have b1 := HN.out.at hlt
      have b2 := sumL_bd (HN.out.take k) hn0.1
      have b3 := sumL_bd (HN.out.take (k + 1)) hn0.1
      have hs := Lib.hid (sumL_take hlt)
      rw [sumL_take hlt] at b3
      generalize (l.getD k (0, 0)).1 = x at *
      generalize (l.getD k (0, 0)).2 = y at *
      generalize sumL (l.take k) = s at *
      have j1 : 0 ≤ s + y := by omega
      have j2 : s + y ≤ 8589934592 := by omega
      have j3 : 0 ≤ s + y - x := by omega
      have j4 : s + y - x ≤ 8589934592 := by omega
      have e1 : IntKind.u64.wrap (s + y) = s + y := IntWalk.u64_in _ (by omega)
      have e2 : IntKind.u64.wrap (s + y - x) = s + y - x := IntWalk.u64_in _ (by omega)
      go_wp2_with fail
      refine Run.region_walk (S := fun z => z.cell? ⟨g, k * 2, none⟩ = some (.int .u64 x) ∧ z.cell? ⟨g, k * 2 + 1, none⟩ = some (.int .u64 y) ∧ Below w.heap.size w z)
        rmany.rows4 rmany.plan4 (l := ?steps1) (by kernel_rfl) (by kernel_rfl) (by kernel_rfl) (by kernel_rfl) ?written1 ⟨d1, d2, hb.drew⟩ ?onward1
      case written1 =>
        simp only [rmany.plan4, Run.stepsOf, Run.stepOf, Run.guardOf, List.getElem?_toArray, List.getElem?_cons_zero, List.getElem?_cons_succ, Option.map_some, Option.map_none, Option.bind_some, Option.toList_some, List.map_cons, List.map_nil, List.cons_append, List.nil_append]
        rfl
      repeat ((first
        | (refine Run.takes (v := ?_) ?_ ?_; rotate_left; (· intro w' hS'; go_simp; (try with_reducible rfl)))
        | (refine Run.takesG (v := ?_) ?_ ?_ ?_; rotate_left; (· simp only [List.getElem?_cons_zero, List.getElem?_cons_succ]); (· intro w' hS'; go_simp; (try with_reducible rfl)))
        | (refine Run.skipsT ?_ ?_; (· simp only [List.getElem?_cons_zero, List.getElem?_cons_succ]))
        | (refine Run.skipsF ?_ ?_; (· simp only [List.getElem?_cons_zero, List.getElem?_cons_succ]))
        | (refine Run.skipsU ?_ ?_; (· simp only [List.getElem?_cons_zero, List.getElem?_cons_succ]))
        | (refine Run.passT ?_ ?_; (· simp only [List.getElem?_cons_zero, List.getElem?_cons_succ]))
        | (refine Run.passF ?_ ?_; (· simp only [List.getElem?_cons_zero, List.getElem?_cons_succ]))
        | (refine Run.passU ?_ ?_; (· simp only [List.getElem?_cons_zero, List.getElem?_cons_succ]))
        | fail); simp only [Act.put, List.setIfInBounds_toArray, List.set_cons_zero, List.set_cons_succ])
      refine Run.ends (fun hS => ?_)
      have hb2 := hS.2.2
      clear hS d1 d2 e1 e2
      go_wp2
      go_roundw
      case rel => exact ⟨k + 1, by omega, by go_num, by rw [hs.out]; congr 1; omega, hb2⟩
      case measure => simp [intOf]; omega
    · have hkn : k = l.length := by omega
      subst hkn
      rw [List.take_length]
      go_wp2
      go_ret
      exact ⟨rfl, hb⟩

/-- the document's cover at block b -/
def RefAt (B : Nat) (w : World) (b : Nat) (f t : Int) (P : List (Int × Int)) : Prop :=
  B ≤ b ∧ ∃ v, Blk w b 31 #[.int .u32 f, .int .u32 t, v] ∧ Row (pairE .u64) 58 B w v P
theorem RefAt.keep {B : Nat} {w w' : World} {b : Nat} {f t : Int} {l : List (Int × Int)} (h : RefAt B w b f t l) (k : Below w.heap.size w w') : RefAt B w' b f t l := by
  obtain ⟨h0, v, h1, h2⟩ := h
  exact ⟨h0, v, h1.keep k, h2.keep k⟩

set_option maxHeartbeats 1000000 in
theorem rcleft_any (B b : Nat) (f t : Int) (bf : 0 ≤ f ∧ f ≤ 4294967295) (bt : 0 ≤ t ∧ t ≤ 4294967295) (l : List (Int × Int)) (w : World) (h : RefAt B w b f t l) (hn : Norm (beh f t) 0 l) :
    Calls Try.prog 13 #[.pointer (some ⟨b, 0, none⟩)] w fun e w' => e = .returned (.int .u64 (beh f t - sumL l)) ∧ Below w.heap.size w w' := by
  obtain ⟨_, v, hblk, hrow⟩ := h
  have bd := beh_bd f t
  have hs := sumL_bd hn (by omega)
  have d0 : w.cell? ⟨b, 0, none⟩ = some (.int .u32 f) := hblk.cell 0
  have d1 : w.cell? ⟨b, 1, none⟩ = some (.int .u32 t) := hblk.cell 1
  have d2 : w.cell? ⟨b, 2, none⟩ = some v := hblk.cell 2
  have HN := Lib.hid hn
  have HR := Lib.hid hrow
  clear hblk hn hrow
  go_enter Try.func13, Try.ntmps13
  go_wp2_with fail
  refine Run.region_walk (S := fun z => z.cell? ⟨b, 0, none⟩ = some (.int .u32 f) ∧ z.cell? ⟨b, 1, none⟩ = some (.int .u32 t) ∧ z.cell? ⟨b, 2, none⟩ = some v ∧ Below w.heap.size w z)
    rcleft.rows1 rcleft.plan1 (l := ?steps2) (by kernel_rfl) (by kernel_rfl) (by kernel_rfl) (by kernel_rfl) ?written2 ⟨d0, d1, d2, (Below.refl _ _).drew⟩ ?onward2
  case written2 =>
    simp only [rcleft.plan1, Run.stepsOf, Run.stepOf, Run.guardOf, List.getElem?_toArray, List.getElem?_cons_zero, List.getElem?_cons_succ, Option.map_some, Option.map_none, Option.bind_some, Option.toList_some, List.map_cons, List.map_nil, List.cons_append, List.nil_append]
    rfl
  repeat ((first
    | (refine Run.takes (v := ?_) ?_ ?_; rotate_left; (· intro w' hS'; go_simp; (try with_reducible rfl)))
    | (refine Run.takesG (v := ?_) ?_ ?_ ?_; rotate_left; (· simp only [List.getElem?_cons_zero, List.getElem?_cons_succ]); (· intro w' hS'; go_simp; (try with_reducible rfl)))
    | (refine Run.skipsT ?_ ?_; (· simp only [List.getElem?_cons_zero, List.getElem?_cons_succ]))
    | (refine Run.skipsF ?_ ?_; (· simp only [List.getElem?_cons_zero, List.getElem?_cons_succ]))
    | (refine Run.skipsU ?_ ?_; (· simp only [List.getElem?_cons_zero, List.getElem?_cons_succ]))
    | (refine Run.passT ?_ ?_; (· simp only [List.getElem?_cons_zero, List.getElem?_cons_succ]))
    | (refine Run.passF ?_ ?_; (· simp only [List.getElem?_cons_zero, List.getElem?_cons_succ]))
    | (refine Run.passU ?_ ?_; (· simp only [List.getElem?_cons_zero, List.getElem?_cons_succ]))
    | (refine Run.runs ?_
       (first
       | (refine Run.callF 19 (by kernel_rfl) (fun hS => rsize_any f t bf bt _) rfl ?_)
       | (refine Run.callG 19 (by kernel_rfl) ?_ (fun hS => rsize_any f t bf bt _) rfl ?_; (· simp only [List.getElem?_cons_zero, List.getElem?_cons_succ]))
       | (refine Run.callF 27 (by kernel_rfl) (fun hS => rmany_any B v (beh f t) l _ (HR.out.keep hS.2.2.2) HN.out (by omega)) rfl ?_)
       | (refine Run.callG 27 (by kernel_rfl) ?_ (fun hS => rmany_any B v (beh f t) l _ (HR.out.keep hS.2.2.2) HN.out (by omega)) rfl ?_; (· simp only [List.getElem?_cons_zero, List.getElem?_cons_succ]))
       | fail)
       (first
       | (rintro hS e w' ⟨rfl, rfl⟩; refine ⟨_, rfl, hS, ?_⟩)
       | (rintro hS e w' ⟨rfl, hb⟩; refine ⟨_, rfl, ⟨kc hb hS.1, kc hb hS.2.1, kc hb hS.2.2.1, nest hS.2.2.2 hb⟩, ?_⟩)
       | fail))
    | fail); simp only [Act.put, List.setIfInBounds_toArray, List.set_cons_zero, List.set_cons_succ])
  refine Run.ends (fun hS => ?_)
  rw [IntWalk.u64_in (beh f t - sumL l) (by omega)]
  go_wp2_with fail
  go_ret
  exact ⟨rfl, hS.2.2.2⟩

set_option maxHeartbeats 1000000 in
theorem rcgaps_any (B b : Nat) (f t : Int) (bf : 0 ≤ f ∧ f ≤ 4294967295) (bt : 0 ≤ t ∧ t ≤ 4294967295) (l : List (Int × Int)) (w : World) (h : RefAt B w b f t l) (hn : Norm (beh f t) 0 l) (hl : l.length ≤ 90) :
    Calls Try.prog 16 #[.pointer (some ⟨b, 0, none⟩)] w (CutPost w.heap.size w ((othP (beh f t) l).map (spanP f))) := by
  obtain ⟨_, v, hblk, hrow⟩ := h
  have bd := beh_bd f t
  have d0 : w.cell? ⟨b, 0, none⟩ = some (.int .u32 f) := hblk.cell 0
  have d1 : w.cell? ⟨b, 1, none⟩ = some (.int .u32 t) := hblk.cell 1
  have d2 : w.cell? ⟨b, 2, none⟩ = some v := hblk.cell 2
  have hb1 : ∀ x ∈ l, 0 ≤ x.1 ∧ x.1 ≤ 4294967296 ∧ 0 ≤ x.2 ∧ x.2 ≤ 4294967296 := fun x hx => by have := hn.all x hx; omega
  obtain ⟨o1, _, _, o4⟩ := oth_facts (show 0 ≤ beh f t by omega) hn
  have hb2 : ∀ x ∈ othP (beh f t) l, 0 ≤ x.1 ∧ x.1 ≤ 4294967296 ∧ 0 ≤ x.2 ∧ x.2 ≤ 4294967296 := fun x hx => by have := o1.all x hx; omega
  have HB1 := Lib.hid hb1
  have HB2 := Lib.hid hb2
  have HR := Lib.hid hrow
  clear hblk hn hrow hb1 hb2 o1
  go_enter Try.func16, Try.ntmps16
  go_wp2_with fail
  refine Run.region_walk (S := fun z => z.cell? ⟨b, 0, none⟩ = some (.int .u32 f) ∧ z.cell? ⟨b, 1, none⟩ = some (.int .u32 t) ∧ z.cell? ⟨b, 2, none⟩ = some v ∧ Below w.heap.size w z)
    rcgaps.rows1 rcgaps.plan1 (l := ?steps3) (by kernel_rfl) (by kernel_rfl) (by kernel_rfl) (by kernel_rfl) ?written3 ⟨d0, d1, d2, (Below.refl _ _).drew⟩ ?onward3
  case written3 =>
    simp only [rcgaps.plan1, Run.stepsOf, Run.stepOf, Run.guardOf, List.getElem?_toArray, List.getElem?_cons_zero, List.getElem?_cons_succ, Option.map_some, Option.map_none, Option.bind_some, Option.toList_some, List.map_cons, List.map_nil, List.cons_append, List.nil_append]
    rfl
  repeat ((first
    | (refine Run.takes (v := ?_) ?_ ?_; rotate_left; (· intro w' hS'; go_simp; (try with_reducible rfl)))
    | (refine Run.takesG (v := ?_) ?_ ?_ ?_; rotate_left; (· simp only [List.getElem?_cons_zero, List.getElem?_cons_succ]); (· intro w' hS'; go_simp; (try with_reducible rfl)))
    | (refine Run.skipsT ?_ ?_; (· simp only [List.getElem?_cons_zero, List.getElem?_cons_succ]))
    | (refine Run.skipsF ?_ ?_; (· simp only [List.getElem?_cons_zero, List.getElem?_cons_succ]))
    | (refine Run.skipsU ?_ ?_; (· simp only [List.getElem?_cons_zero, List.getElem?_cons_succ]))
    | (refine Run.passT ?_ ?_; (· simp only [List.getElem?_cons_zero, List.getElem?_cons_succ]))
    | (refine Run.passF ?_ ?_; (· simp only [List.getElem?_cons_zero, List.getElem?_cons_succ]))
    | (refine Run.passU ?_ ?_; (· simp only [List.getElem?_cons_zero, List.getElem?_cons_succ]))
    | fail); simp only [Act.put, List.setIfInBounds_toArray, List.set_cons_zero, List.set_cons_succ])
  refine Run.runs (Run.callF 31 (by kernel_rfl) (fun hS => rothers_any f t bf bt B v l (by omega) HB1.out _ (HR.out.keep hS.2.2.2)) rfl ?_)
  rintro hS e z1 ⟨v1, rfl, hp1, hz1⟩
  refine ⟨_, rfl, ⟨kc hz1 hS.1, kc hz1 hS.2.1, kc hz1 hS.2.2.1, nest hS.2.2.2 hz1⟩, ?_⟩
  clear hS
  simp only [Act.put, List.setIfInBounds_toArray, List.set_cons_zero, List.set_cons_succ]
  refine Run.runs (Run.callF 30 (by kernel_rfl) (fun hS => rspans_any f t _ v1 (othP (beh f t) l) (by omega) (at_bd HB2.out) _ hp1) rfl ?_)
  rintro hS e z2 ⟨v2, rfl, hp2, hz2⟩
  have hS3 := nest hS.2.2.2 hz2
  refine ⟨_, rfl, ⟨kc hz2 hS.1, kc hz2 hS.2.1, kc hz2 hS.2.2.1, hS3⟩, ?_⟩
  simp only [Act.put, List.setIfInBounds_toArray, List.set_cons_zero, List.set_cons_succ]
  repeat ((first
    | (refine Run.takes (v := ?_) ?_ ?_; rotate_left; (· intro w' hS'; go_simp; (try with_reducible rfl)))
    | (refine Run.takesG (v := ?_) ?_ ?_ ?_; rotate_left; (· simp only [List.getElem?_cons_zero, List.getElem?_cons_succ]); (· intro w' hS'; go_simp; (try with_reducible rfl)))
    | (refine Run.skipsT ?_ ?_; (· simp only [List.getElem?_cons_zero, List.getElem?_cons_succ]))
    | (refine Run.skipsF ?_ ?_; (· simp only [List.getElem?_cons_zero, List.getElem?_cons_succ]))
    | (refine Run.skipsU ?_ ?_; (· simp only [List.getElem?_cons_zero, List.getElem?_cons_succ]))
    | (refine Run.passT ?_ ?_; (· simp only [List.getElem?_cons_zero, List.getElem?_cons_succ]))
    | (refine Run.passF ?_ ?_; (· simp only [List.getElem?_cons_zero, List.getElem?_cons_succ]))
    | (refine Run.passU ?_ ?_; (· simp only [List.getElem?_cons_zero, List.getElem?_cons_succ]))
    | fail); simp only [Act.put, List.setIfInBounds_toArray, List.set_cons_zero, List.set_cons_succ])
  refine Run.ends (fun _ => ?_)
  go_wp2_with fail
  go_ret
  exact ⟨v2, rfl, hp2.mono hS.2.2.2.size, hS3⟩
end Go.Proofs.Ytbdijeekekaibaa
