/- slices.Sort at []uint32, of up to twelve numbers: what it leaves. -/
import Derived.Test.YtihfkjodjaoocaaMem
import Derived.Test.YtihfkjodjaoocaaRun
import Derived.Test.YtihfkjodjaoocaaBytes
import Derived.Test.YtihfkjodjaoocaaSort32Plans
import Derived.Deep.DeepCutAuto
import Derived.Deep.CutBlock
import Derived.Deep.Light
set_option maxRecDepth 4000
namespace Go.Proofs.Ytihfkjodjaoocaa.Mem
open Go.RowKit
set_option linter.unusedSimpArgs false
set_option linter.unusedVariables false
/-! ### a row of numbers: a store into it -/
theorem RowI.flat (k : IntKind) (l : List Int) : (intE k).flat l = l.map (fun x => .int k x) := by
  induction l with
  | nil => rfl
  | cons x l ih => rw [Enc.flat_cons, ih]; rfl
theorem RowI.put {k : IntKind} {T : TypeId} {B : Nat} {w : World} {g n c : Nat} {l : List Int} (h : Row (intE k) T B w (.slice (some ⟨g, 0, none⟩) n c) l) (hn : n = l.length) (i : Nat) (x : Int) :
    Row (intE k) T B (w.setCell ⟨g, i, none⟩ (.int k x)) (.slice (some ⟨g, 0, none⟩) n c) (l.set i x) := by
  subst hn
  have h1 : w.ownsRow B T 1 (.slice (some ⟨g, 0, none⟩) l.length c) l.length ((intE k).flat l) := h
  have h2 := (World.ownsRow.stored h1 i (.int k x)).1
  have e : ((intE k).flat l).set i (.int k x) = (intE k).flat (l.set i x) := by rw [RowI.flat, RowI.flat, List.map_set]
  unfold Row
  rw [List.length_set, ← e]
  exact h2
theorem RowI.frozen {k : IntKind} {T : TypeId} {B : Nat} {w : World} {g n c : Nat} {l : List Int} (h : Row (intE k) T B w (.slice (some ⟨g, 0, none⟩) n c) l) (hn : n = l.length) (j : Nat) : w.frozen? ⟨g, j, none⟩ = false := by
  subst hn
  exact World.ownsRow.frozenAt h j
theorem RowI.head {k : IntKind} {T : TypeId} {B : Nat} {w : World} {v : Value} {l : List Int} (h : Row (intE k) T B w v l) (hl : 0 < l.length) : ∃ g c, v = .slice (some ⟨g, 0, none⟩) l.length c ∧ l.length ≤ c ∧ c ≤ maxLen ∧ B ≤ g ∧ g < w.heap.size := by
  rcases h.2 with ⟨hv, hn⟩ | ⟨g, cap, cur, hv, hg, hc, h1, h2, h3, h4⟩
  · omega
  · refine ⟨g, cap, hv, h1, h2, ?_⟩
    exact h.block g (by rw [hv]; rfl)
theorem RowI.cell {k : IntKind} {T : TypeId} {B : Nat} {w : World} {g n c : Nat} {l : List Int} (h : Row (intE k) T B w (.slice (some ⟨g, 0, none⟩) n c) l) {i : Nat} (hi : i < l.length) : w.cell? ⟨g, i, none⟩ = some (.int k (l.getD i 0)) := by
  obtain ⟨a, g', o, c', hv, _, _, ha, hc⟩ := Mem.Rd.loopI h.rd
  obtain ⟨e1, _⟩ := ha (by omega)
  injection hv with h1 h2 h3
  rw [← h1] at e1
  injection e1 with e1
  injection e1 with e2 e3
  have := hc i hi
  rw [← e2, ← e3, Nat.zero_add] at this
  exact this
end Go.Proofs.Ytihfkjodjaoocaa.Mem
namespace Go.Proofs.Ytihfkjodjaoocaa
open Go.RowKit Mem
set_option linter.unusedSimpArgs false
set_option linter.unusedVariables false
attribute [local irreducible] Go.Calls

/-! ### a list in which one number is carried to its place -/
theorem getD_set (M : List Int) (a p : Nat) (x : Int) (ha : a < M.length) : (M.set a x).getD p 0 = if p = a then x else M.getD p 0 := by
  rw [List.getD_eq_getElem?_getD, List.getElem?_set, List.getD_eq_getElem?_getD]
  by_cases h : a = p
  · subst h
    simp [ha]
  · rw [if_neg h, if_neg (fun e => h e.symm)]
/-- the first i are in order -/
def Srt (i : Nat) (M : List Int) : Prop := ∀ p q, p < q → q < i → M.getD p 0 ≤ M.getD q 0
/-- the first i + 1 are, but for the one at j, which is not greater than those behind it -/
def InsAt (i j : Nat) (M : List Int) : Prop := (∀ p q, p < q → q ≤ i → p ≠ j → q ≠ j → M.getD p 0 ≤ M.getD q 0) ∧ ∀ q, j < q → q ≤ i → M.getD j 0 ≤ M.getD q 0
theorem InsAt.start {i : Nat} {M : List Int} (h : Srt i M) : InsAt i i M := ⟨fun p q h1 h2 h3 h4 => h p q h1 (by omega), fun q h1 h2 => by omega⟩
theorem InsAt.stop {i j : Nat} {M : List Int} (h : InsAt i j M) (hs : j = 0 ∨ M.getD (j - 1) 0 ≤ M.getD j 0) : Srt (i + 1) M := by
  intro p q h1 h2
  by_cases hp : p = j
  · subst hp
    exact h.2 q h1 (by omega)
  by_cases hq : q = j
  · subst hq
    rcases hs with hs | hs
    · omega
    · by_cases e : p = q - 1
      · subst e; exact hs
      · exact Int.le_trans (h.1 p (q - 1) (by omega) (by omega) hp (by omega)) hs
  exact h.1 p q h1 (by omega) hp hq
theorem InsAt.step {i k : Nat} {M : List Int} (h : InsAt i (k + 1) M) (hk : k + 1 ≤ i) (hi : i < M.length) (hlt : M.getD (k + 1) 0 < M.getD k 0) : InsAt i k ((M.set (k + 1) (M.getD k 0)).set k (M.getD (k + 1) 0)) := by
  have e : ∀ p, ((M.set (k + 1) (M.getD k 0)).set k (M.getD (k + 1) 0)).getD p 0 = if p = k then M.getD (k + 1) 0 else if p = k + 1 then M.getD k 0 else M.getD p 0 := fun p => by
    rw [getD_set _ _ _ _ (by rw [List.length_set]; omega), getD_set _ _ _ _ (by omega)]
  refine ⟨fun p q h1 h2 h3 h4 => ?_, fun q h1 h2 => ?_⟩
  · rw [e, e, if_neg h3, if_neg h4]
    by_cases hp : p = k + 1
    · rw [if_pos hp, if_neg (by omega)]
      exact h.1 k q (by omega) h2 (by omega) (by omega)
    · rw [if_neg hp]
      by_cases hq : q = k + 1
      · rw [if_pos hq]
        exact h.1 p k (by omega) (by omega) hp (by omega)
      · rw [if_neg hq]
        exact h.1 p q h1 h2 hp hq
  · rw [e, e, if_pos rfl, if_neg (by omega)]
    by_cases hq : q = k + 1
    · rw [if_pos hq]; omega
    · rw [if_neg hq]
      exact h.2 q (by omega) h2
theorem swap_perm (M : List Int) (p k : Nat) (hp : p < M.length) (hk : k < M.length) : ((M.set p (M.getD k 0)).set k (M.getD p 0)).Perm M := by
  rw [show M.getD k 0 = M[k] by simp [List.getD, hk], show M.getD p 0 = M[p] by simp [List.getD, hp]]
  exact List.set_set_perm hp hk
theorem Srt.pairwise {M : List Int} (h : Srt M.length M) : M.Pairwise (· ≤ ·) := by
  rw [List.pairwise_iff_getElem]
  intro i j hi hj hij
  have := h i j hij hj
  rwa [show M.getD i 0 = M[i] by simp [List.getD, hi], show M.getD j 0 = M[j] by simp [List.getD, hj]] at this
/-! ### the walks -/
theorem isnan32_any (x : Int) (w : World) : Calls Try.prog 77 #[.int .u32 x] w fun e w' => e = .returned (.bool false) ∧ w' = w := by
  go_enter Try.func77, Try.ntmps77
  go_wp2_with fail
  go_ret
  exact ⟨by simp, rfl⟩
theorem less32_any (x y : Int) (w : World) : Calls Try.prog 64 #[.int .u32 x, .int .u32 y] w fun e w' => e = .returned (.bool (decide (x < y))) ∧ w' = w := by
  by_cases hxy : x < y
  · go_enter Try.func64, Try.ntmps64
    go_wp2_with (go_at_call 77; refine (isnan32_any _ _).mono ?_; rintro e w' ⟨rfl, rfl⟩)
    go_ret
    exact ⟨by simp [hxy], rfl⟩
  · go_enter Try.func64, Try.ntmps64
    go_wp2_with (go_at_call 77; refine (isnan32_any _ _).mono ?_; rintro e w' ⟨rfl, rfl⟩)
    go_ret
    exact ⟨by simp [hxy], rfl⟩
set_option maxHeartbeats 4000000 in
set_option maxRecDepth 100000 in
theorem ins32_any (g c N : Nat) (l : List Int) (w : World) (h : Row (intE .u32) 22 N w (.slice (some ⟨g, 0, none⟩) l.length c) l) (hN : N ≤ w.heap.size) (hgN : N ≤ g) (hlc : l.length ≤ c) (hcm : c ≤ maxLen) :
    Calls Try.prog 58 #[.slice (some ⟨g, 0, none⟩) l.length c, .int .i64 0, .int .i64 l.length] w fun e w' => e = .returned (.tuple #[]) ∧ ∃ l', Row (intE .u32) 22 N w' (.slice (some ⟨g, 0, none⟩) l.length c) l' ∧ l'.Perm l ∧ l'.Pairwise (· ≤ ·) ∧ Below N w w' := by
  have HROW0 := Lib.hid h
  have HNN := Lib.hid hN
  have HGN := Lib.hid hgN
  have HLC := Lib.hid hlc
  have HCM : Hid (c ≤ 9223372036854775807) := Lib.hid hcm
  clear h hN hgN hlc hcm
  go_enter Try.func58, Try.ntmps58
  go_upto_block 99 with fail
  go_loopw [6] (fun iv wr => ∃ (i : Nat) (M : List Int), iv = .int .i64 i ∧ 1 ≤ i ∧ (i ≤ l.length ∨ i = 1) ∧ M.length = l.length ∧ M.Perm l ∧ Srt i M ∧ Row (intE .u32) 22 N wr (.slice (some ⟨g, 0, none⟩) l.length c) M ∧ Below N w wr) (fun iv _ => l.length + 1 - (intOf iv).toNat)
  case atStart => exact ⟨1, l, rfl, by omega, .inr rfl, rfl, List.Perm.refl _, fun p q h1 h2 => by omega, HROW0.out, Below.refl _ _⟩
  case round =>
    obtain ⟨i, M, rfl, hi1, hil, hml, hpm, hsr, hrow, hb⟩ := hrel
    have HML := Lib.hid hml
    have HPM := Lib.hid hpm
    have HSR := Lib.hid hsr
    have HROW := Lib.hid hrow
    have HB := Lib.hid hb
    clear hml hpm hsr hrow hb
    by_cases hlt : i < l.length
    · have HIL := Lib.hid hlt
      have HI1 := Lib.hid hi1
      have hi2 : (i : Int) < (l.length : Int) := by omega
      clear hil hi1 hlt
      obtain ⟨wo, hwo⟩ : ∃ z, z = wr := ⟨_, rfl⟩
      subst hwo
      go_upto_block 99 with fail
      clear hi2
      go_loopw [7] (fun jv wr => ∃ (j : Nat) (M' : List Int), jv = .int .i64 j ∧ j ≤ i ∧ M'.length = l.length ∧ M'.Perm l ∧ InsAt i j M' ∧ Row (intE .u32) 22 N wr (.slice (some ⟨g, 0, none⟩) l.length c) M' ∧ Below N w wr) (fun jv _ => (intOf jv).toNat)
      case atStart => exact ⟨i, M, rfl, Nat.le_refl _, HML.out, HPM.out, InsAt.start HSR.out, HROW.out, HB.out⟩
      case round =>
        obtain ⟨j, M', rfl, hj, hml, hpm, hins, hrow, hb⟩ := hrel
        have HML2 := Lib.hid hml
        have HPM2 := Lib.hid hpm
        have HINS := Lib.hid hins
        have HROW2 := Lib.hid hrow
        have HB2 := Lib.hid hb
        have HJ := Lib.hid hj
        clear hml hpm hins hrow hb hj HROW HB HSR HPM HML
        have hiw : wrap64 ((i : Int) + 1) = ((i + 1 : Nat) : Int) := by
          have := HIL.out; have := HLC.out; have := HCM.out
          rw [IntWalk.wrap64_in _ (by omega)]; omega
        have HIW := Lib.hid hiw
        clear hiw
        by_cases hj0 : j = 0
        · skip
          as_aux_lemma =>
            subst hj0
            go_upto_region 3 with fail
            refine Run.region_walk (S := fun _ => True)
              lins.rows3 lins.plan3 (l := ?steps1) (by kernel_rfl) (by kernel_rfl) (by kernel_rfl) (by kernel_rfl) ?written1 trivial ?onward1
            case written1 =>
              simp only [lins.plan3, Run.stepsOf, Run.stepOf, Run.guardOf, List.getElem?_toArray, List.getElem?_cons_zero, List.getElem?_cons_succ, Option.map_some, Option.map_none, Option.bind_some, Option.toList_some, List.map_cons, List.map_nil, List.cons_append, List.nil_append, List.append_eq]
              rfl
            repeat ((first
              | (refine Run.takes (v := ?_) ?_ ?_; rotate_left; (· intro w' hS'; go_simp; (try with_reducible rfl)))
              | (refine Run.takesG (v := ?_) ?_ ?_ ?_; rotate_left; (· simp only [List.getElem?_cons_zero, List.getElem?_cons_succ]); (· intro w' hS'; go_simp; (try with_reducible rfl)))
              | (refine Run.skipsT ?_ ?_; (· simp only [List.getElem?_cons_zero, List.getElem?_cons_succ]))
              | (refine Run.skipsF ?_ ?_; (· simp only [List.getElem?_cons_zero, List.getElem?_cons_succ]))
              | (refine Run.skipsU ?_ ?_; (· simp only [List.getElem?_cons_zero, List.getElem?_cons_succ]))
              | (refine Run.passT ?_ ?_; (· simp only [List.getElem?_cons_zero, List.getElem?_cons_succ]))
              | (refine Run.passF ?_ ?_; (· simp only [List.getElem?_cons_zero, List.getElem?_cons_succ]))
              | (refine Run.passU ?_ ?_; (· simp only [List.getElem?_cons_zero, List.getElem?_cons_succ]))
              | fail); simp only [Act.put, List.setIfInBounds_toArray, List.set_cons_zero, List.set_cons_succ])
            refine Run.ends (fun _ => ?_)
            go_wp2_with fail
            rw [HIW.out]
            refine ⟨⟨i + 1, M', rfl, by omega, .inl (by have := HIL.out; omega), HML2.out, HPM2.out, HINS.out.stop (.inl rfl), HROW2.out.keep (Below.refl _ _).drew, HB2.out.trans (Below.refl _ _).drew⟩, ?_⟩
            have := HIL.out
            simp only [intOf]
            omega
        · skip
          as_aux_lemma =>
            obtain ⟨k, hk⟩ : ∃ k, j = k + 1 := ⟨j - 1, by omega⟩
            have HK := Lib.hid hk
            have hj1 : j < l.length := by have := HJ.out; have := HIL.out; omega
            have x0 := RowI.cell HROW2.out (i := j) (by rw [HML2.out]; exact hj1)
            have y0 := RowI.cell HROW2.out (i := k) (by rw [HML2.out]; omega)
            obtain ⟨x, hx⟩ : ∃ x, x = M'.getD j 0 := ⟨_, rfl⟩
            obtain ⟨y, hy⟩ : ∃ y, y = M'.getD k 0 := ⟨_, rfl⟩
            rw [← hx] at x0
            rw [← hy] at y0
            have HX := Lib.hid hx
            have HY := Lib.hid hy
            have HJ1 := Lib.hid hj1
            have HKW : Hid (wrap64 ((j : Int) - 1) = (k : Int)) := Lib.hid (by
              have := HLC.out; have := HCM.out
              rw [IntWalk.wrap64_in _ (by omega)]; omega)
            have hkw : IntKind.i64.wrap ((j : Int) - 1) = (k : Int) := by
              have := HLC.out; have := HCM.out
              rw [IntWalk.i64_in _ (by omega)]; omega
            have hk2 : (j : Int) < (l.length : Int) := by omega
            have hk3 : (k : Int) < (l.length : Int) := by omega
            have hk4 : (j : Int) > 0 := by omega
            have hk5 : 0 < j := by omega
            have hlc : l.length ≤ c := HLC.out
            have hlc2 : (l.length : Int) ≤ (c : Int) := by omega
            obtain ⟨b, hb⟩ : ∃ b, b = decide (x < y) := ⟨_, rfl⟩
            have HLESS : Hid (∀ z, Calls Try.prog 64 #[.int .u32 x, .int .u32 y] z fun e w' => e = .returned (.bool b) ∧ w' = z) := Lib.hid (fun z => by rw [hb]; exact less32_any x y z)
            have HBB := Lib.hid hb
            clear hx hy hb hj1 hk hj0
            go_upto_region 3 with fail
            refine Run.region_walk (S := fun z => z.cell? ⟨g, j, none⟩ = some (.int .u32 x) ∧ z.cell? ⟨g, k, none⟩ = some (.int .u32 y))
              lins.rows3 lins.plan3 (l := ?steps2) (by kernel_rfl) (by kernel_rfl) (by kernel_rfl) (by kernel_rfl) ?written2 ⟨x0, y0⟩ ?onward2
            case written2 =>
              simp only [lins.plan3, Run.stepsOf, Run.stepOf, Run.guardOf, List.getElem?_toArray, List.getElem?_cons_zero, List.getElem?_cons_succ, Option.map_some, Option.map_none, Option.bind_some, Option.toList_some, List.map_cons, List.map_nil, List.cons_append, List.nil_append, List.append_eq]
              rfl
            repeat ((first
              | (refine Run.takes (v := ?_) ?_ ?_; rotate_left; (· intro w' hS'; (first | (have hx1 := hS'.1; have hy1 := hS'.2; go_simp; done) | (go_simp; (try with_reducible rfl)))))
              | (refine Run.takesG (v := ?_) ?_ ?_ ?_; rotate_left; (· simp only [List.getElem?_cons_zero, List.getElem?_cons_succ]); (· intro w' hS'; (first | (have hx1 := hS'.1; have hy1 := hS'.2; go_simp; done) | (go_simp; (try with_reducible rfl)))))
              | (refine Run.skipsT ?_ ?_; (· simp only [List.getElem?_cons_zero, List.getElem?_cons_succ]))
              | (refine Run.skipsF ?_ ?_; (· simp only [List.getElem?_cons_zero, List.getElem?_cons_succ]))
              | (refine Run.skipsU ?_ ?_; (· simp only [List.getElem?_cons_zero, List.getElem?_cons_succ]))
              | (refine Run.passT ?_ ?_; (· simp only [List.getElem?_cons_zero, List.getElem?_cons_succ]))
              | (refine Run.passF ?_ ?_; (· simp only [List.getElem?_cons_zero, List.getElem?_cons_succ]))
              | (refine Run.passU ?_ ?_; (· simp only [List.getElem?_cons_zero, List.getElem?_cons_succ]))
              | (refine Run.runs ?_
                 (first
                 | (refine Run.callF 64 (by kernel_rfl) (fun hS => HLESS.out _) rfl ?_)
                 | (refine Run.callG 64 (by kernel_rfl) ?_ (fun hS => HLESS.out _) rfl ?_; (· simp only [List.getElem?_cons_zero, List.getElem?_cons_succ]))
                 | fail)
                 (first
                 | (rintro hS e w' ⟨rfl, rfl⟩; refine ⟨_, rfl, hS, ?_⟩)
                 | fail))
              | fail); simp only [Act.put, List.setIfInBounds_toArray, List.set_cons_zero, List.set_cons_succ])
            refine Run.ends (fun _ => ?_)
            cases b with
            | false =>
              have HLE : Hid (M'.getD (j - 1) 0 ≤ M'.getD j 0) := Lib.hid (by
                have h1 := HBB.out
                have h2 : ¬ x < y := fun h => by simp [h] at h1
                have h3 := HK.out
                rw [show j - 1 = k by omega, ← HX.out, ← HY.out]
                omega)
              go_wp2_with fail
              rw [HIW.out]
              refine ⟨⟨i + 1, M', rfl, by omega, .inl (by have := HIL.out; omega), HML2.out, HPM2.out, HINS.out.stop (.inr HLE.out), HROW2.out.keep (Below.refl _ _).drew, HB2.out.trans (Below.refl _ _).drew⟩, ?_⟩
              have := HIL.out
              simp only [intOf]
              omega
            | true =>
              have HLT : Hid (M'.getD j 0 < M'.getD k 0) := Lib.hid (by
                have h1 := HBB.out
                rw [← HX.out, ← HY.out]
                by_cases h : x < y
                · exact h
                · simp [h] at h1)
              have HROW3 : Hid (Row (intE .u32) 22 N wr.drew.drew (.slice (some ⟨g, 0, none⟩) l.length c) M') := Lib.hid (HROW2.out.keep ((Below.refl _ _).drew.drew))
              have HB3 : Hid (Below N w wr.drew.drew) := Lib.hid (HB2.out.trans ((Below.refl _ _).drew.drew))
              have hx1 : wr.drew.drew.cell? ⟨g, j, none⟩ = some (.int .u32 x) := x0
              have hy1 : wr.drew.drew.cell? ⟨g, k, none⟩ = some (.int .u32 y) := y0
              have hz1 := RowI.frozen HROW3.out HML2.out.symm j
              clear x0 y0 HROW2 HB2
              go_upto_region 4 with fail
              refine Run.region_walk (S := fun _ => True)
                lins.rows4 lins.planS (l := ?steps3) (by kernel_rfl) (by kernel_rfl) (by kernel_rfl) (by kernel_rfl) ?written3 trivial ?onward3
              case written3 =>
                simp only [lins.planS, Run.stepsOf, Run.stepOf, Run.guardOf, List.getElem?_toArray, List.getElem?_cons_zero, List.getElem?_cons_succ, Option.map_some, Option.map_none, Option.bind_some, Option.toList_some, List.map_cons, List.map_nil, List.cons_append, List.nil_append, List.append_eq]
                rfl
              repeat ((first
                | (refine Run.takes (v := ?_) ?_ ?_; rotate_left; (· intro w' hS'; go_simp; (try with_reducible rfl)))
                | (refine Run.takesG (v := ?_) ?_ ?_ ?_; rotate_left; (· simp only [List.getElem?_cons_zero, List.getElem?_cons_succ]); (· intro w' hS'; go_simp; (try with_reducible rfl)))
                | (refine Run.skipsT ?_ ?_; (· simp only [List.getElem?_cons_zero, List.getElem?_cons_succ]))
                | (refine Run.skipsF ?_ ?_; (· simp only [List.getElem?_cons_zero, List.getElem?_cons_succ]))
                | (refine Run.skipsU ?_ ?_; (· simp only [List.getElem?_cons_zero, List.getElem?_cons_succ]))
                | (refine Run.passT ?_ ?_; (· simp only [List.getElem?_cons_zero, List.getElem?_cons_succ]))
                | (refine Run.passF ?_ ?_; (· simp only [List.getElem?_cons_zero, List.getElem?_cons_succ]))
                | (refine Run.passU ?_ ?_; (· simp only [List.getElem?_cons_zero, List.getElem?_cons_succ]))
                | fail); simp only [Act.put, List.setIfInBounds_toArray, List.set_cons_zero, List.set_cons_succ])
              generalize wr.drew.drew = wd at *
              refine Run.both ?_ ?_
              all_goals
                refine Run.one (fun _ K1 hK1 => ?_)
                go_simp
                refine hK1.out _ _ trivial ?_
                clear hK1 K1
                try simp only [Act.put, List.setIfInBounds_toArray, List.set_cons_zero, List.set_cons_succ]
                refine Run.one (fun _ K1 hK1 => ?_)
                go_simp
                refine hK1.out _ _ trivial ?_
                clear hK1 K1
                try simp only [Act.put, List.setIfInBounds_toArray, List.set_cons_zero, List.set_cons_succ]
                repeat ((first
                  | (refine Run.takes (v := ?_) ?_ ?_; rotate_left; (· intro w' hS'; go_simp; (try with_reducible rfl)))
                  | (refine Run.takesG (v := ?_) ?_ ?_ ?_; rotate_left; (· simp only [List.getElem?_cons_zero, List.getElem?_cons_succ]); (· intro w' hS'; go_simp; (try with_reducible rfl)))
                  | (refine Run.skipsT ?_ ?_; (· simp only [List.getElem?_cons_zero, List.getElem?_cons_succ]))
                  | (refine Run.skipsF ?_ ?_; (· simp only [List.getElem?_cons_zero, List.getElem?_cons_succ]))
                  | (refine Run.skipsU ?_ ?_; (· simp only [List.getElem?_cons_zero, List.getElem?_cons_succ]))
                  | (refine Run.passT ?_ ?_; (· simp only [List.getElem?_cons_zero, List.getElem?_cons_succ]))
                  | (refine Run.passF ?_ ?_; (· simp only [List.getElem?_cons_zero, List.getElem?_cons_succ]))
                  | (refine Run.passU ?_ ?_; (· simp only [List.getElem?_cons_zero, List.getElem?_cons_succ]))
                  | fail); simp only [Act.put, List.setIfInBounds_toArray, List.set_cons_zero, List.set_cons_succ])
                refine Run.runs (Run.one (fun _ K1 hK1 => ?_))
                go_simp
                refine hK1.out _ _ trivial ?_
                clear hK1 K1 hx1 hy1 hz1
                have HR1 := Lib.hid (RowI.put HROW3.out HML2.out.symm j y)
                have HKE := Lib.hid (HB3.out.trans ((show Only g wd (wd.setCell ⟨g, j, none⟩ (.int .u32 y)) from Only.set _ _ _).below HGN.out (Nat.le_trans HNN.out HB3.out.size)))
                generalize wd.setCell ⟨g, j, none⟩ (.int .u32 y) = we at *
                have HM1 : Hid (l.length = (M'.set j y).length) := Lib.hid (by rw [List.length_set]; exact HML2.out.symm)
                have hz2 := RowI.frozen HR1.out HM1.out k
                have hkc2 := RowI.cell HR1.out (i := k) (by rw [← HM1.out]; have := HK.out; have := HJ1.out; omega)
                generalize (M'.set j y).getD k 0 = xo at hkc2
                try simp only [Act.put, List.setIfInBounds_toArray, List.set_cons_zero, List.set_cons_succ]
                repeat ((first
                  | (refine Run.takes (v := ?_) ?_ ?_; rotate_left; (· intro w' hS'; go_simp; (try with_reducible rfl)))
                  | (refine Run.takesG (v := ?_) ?_ ?_ ?_; rotate_left; (· simp only [List.getElem?_cons_zero, List.getElem?_cons_succ]); (· intro w' hS'; go_simp; (try with_reducible rfl)))
                  | (refine Run.skipsT ?_ ?_; (· simp only [List.getElem?_cons_zero, List.getElem?_cons_succ]))
                  | (refine Run.skipsF ?_ ?_; (· simp only [List.getElem?_cons_zero, List.getElem?_cons_succ]))
                  | (refine Run.skipsU ?_ ?_; (· simp only [List.getElem?_cons_zero, List.getElem?_cons_succ]))
                  | (refine Run.passT ?_ ?_; (· simp only [List.getElem?_cons_zero, List.getElem?_cons_succ]))
                  | (refine Run.passF ?_ ?_; (· simp only [List.getElem?_cons_zero, List.getElem?_cons_succ]))
                  | (refine Run.passU ?_ ?_; (· simp only [List.getElem?_cons_zero, List.getElem?_cons_succ]))
                  | fail); simp only [Act.put, List.setIfInBounds_toArray, List.set_cons_zero, List.set_cons_succ])
                refine Run.runs (Run.one (fun _ K1 hK1 => ?_))
                go_simp
                refine hK1.out _ _ trivial ?_
                clear hK1 K1 hz2 hkc2
                have HR2 := Lib.hid (RowI.put HR1.out HM1.out k x)
                have HKF := Lib.hid (HKE.out.trans ((show Only g we (we.setCell ⟨g, k, none⟩ (.int .u32 x)) from Only.set _ _ _).below HGN.out (Nat.le_trans HNN.out HKE.out.size)))
                generalize we.setCell ⟨g, k, none⟩ (.int .u32 x) = wf at *
                have HM2 : Hid (((M'.set j y).set k x).length = l.length) := Lib.hid (by rw [List.length_set]; exact HM1.out.symm)
                clear HR1 HM1 HKE HROW3 HB3
                have HSW : Hid (((M'.set j y).set k x).Perm l ∧ InsAt i k ((M'.set j y).set k x)) := Lib.hid (by
                  have hk := HK.out
                  rw [HX.out, HY.out]
                  refine ⟨(swap_perm M' j k (by rw [HML2.out]; exact HJ1.out) (by rw [HML2.out]; have := HJ1.out; omega)).trans HPM2.out, ?_⟩
                  have h1 := HINS.out
                  have h2 := HLT.out
                  subst hk
                  exact InsAt.step h1 HJ.out (by rw [HML2.out]; exact HIL.out) h2)
                refine Run.ends (fun _ => ?_)
                go_wp2_with fail
                exact ⟨⟨k, (M'.set j y).set k x, rfl, by have := HK.out; have := HJ.out; omega, HM2.out, HSW.out.1, HSW.out.2, HR2.out, HKF.out⟩, by have := HK.out; simp only [intOf]; omega⟩
    · obtain ⟨wo, hwo⟩ : ∃ z, z = wr := ⟨_, rfl⟩
      subst hwo
      have hil2 : ¬ (i : Int) < (l.length : Int) := by omega
      have HSR2 : Hid (Srt M.length M) := Lib.hid (fun p q h1 h2 => HSR.out p q h1 (by have := HML.out; omega))
      clear hlt
      go_wp2_with fail
      go_end0
      exact ⟨rfl, M, HROW.out, HPM.out, HSR2.out.pairwise, HB.out⟩
theorem len64_any (n : Nat) (hn : n ≤ 12) (w : World) : Calls Try.prog 68 #[.int .u64 n] w fun e w' => (∃ m : Int, e = .returned (.int .i64 m)) ∧ w' = w := by
  have h : n = 0 ∨ n = 1 ∨ n = 2 ∨ n = 3 ∨ n = 4 ∨ n = 5 ∨ n = 6 ∨ n = 7 ∨ n = 8 ∨ n = 9 ∨ n = 10 ∨ n = 11 ∨ n = 12 := by omega
  rcases h with rfl | rfl | rfl | rfl | rfl | rfl | rfl | rfl | rfl | rfl | rfl | rfl | rfl
  all_goals
    go_enter Try.func68, Try.ntmps68
    go_wp2_with fail
    go_ret
    exact ⟨⟨_, rfl⟩, rfl⟩
theorem bitslen_any (n : Nat) (hn : n ≤ 12) (w : World) : Calls Try.prog 42 #[.int .u64 n] w fun e w' => (∃ m : Int, e = .returned (.int .i64 m)) ∧ w' = w := by
  have HL := Lib.hid (len64_any n hn w)
  clear hn
  go_enter Try.func42, Try.ntmps42
  go_wp2_with (go_at_call 68; refine HL.out.mono ?_; rintro e w' ⟨⟨m, rfl⟩, rfl⟩)
  go_ret
  exact ⟨⟨_, rfl⟩, rfl⟩
theorem ins32_nil (c N : Nat) (w : World) :
    Calls Try.prog 58 #[.slice none 0 c, .int .i64 0, .int .i64 0] w fun e w' => e = .returned (.tuple #[]) ∧ ∃ l' : List Int, l' = [] ∧ Below N w w' := by
  go_enter Try.func58, Try.ntmps58
  go_upto_block 99 with fail
  go_loopw [6] (fun iv wr => iv = .int .i64 1 ∧ Below N w wr) (fun _ _ => 0)
  case atStart => exact ⟨rfl, Below.refl _ _⟩
  case round =>
    obtain ⟨rfl, hb⟩ := hrel
    go_wp2_with fail
    go_end0
    exact ⟨rfl, [], rfl, hb⟩
set_option maxHeartbeats 2000000 in
set_option maxRecDepth 100000 in
theorem pdq32_any (v : Value) (n : Nat) (m : Int) (w : World) (Q : World → Prop) (hf : ∃ a c, v = .slice a n c) (hn : n ≤ 12) (hi : Calls Try.prog 58 #[v, .int .i64 0, .int .i64 n] w fun e w' => e = .returned (.tuple #[]) ∧ Q w') :
    Calls Try.prog 41 #[v, .int .i64 0, .int .i64 n, .int .i64 m] w fun e w' => e = .returned (.tuple #[]) ∧ Q w' := by
  obtain ⟨a, c, rfl⟩ := hf
  have HI := Lib.hid hi
  have hw : wrap64 ((n : Int) - 0) = (n : Int) := by rw [IntWalk.wrap64_in _ (by omega)]; omega
  have hle : (n : Int) ≤ 12 := by omega
  clear hi hn
  go_enter Try.func41, Try.ntmps41
  go_upto_block 99 with fail
  go_loopw [1, 2] (fun x1 x2 wr => x1 = .int .i64 0 ∧ x2 = .int .i64 n ∧ wr = w) (fun _ _ _ => 0)
  case atStart => exact ⟨rfl, rfl, rfl⟩
  case round =>
    obtain ⟨rfl, rfl, rfl⟩ := hrel
    go_wp2_with (go_at_call 58; refine HI.out.mono ?_; rintro e w' ⟨rfl, hx⟩)
    (try simp only [Exit.inBlock, Exit.then])
    refine bodyPost_ret (results_none rfl _ _ _) rfl ?_
    exact ⟨rfl, hx⟩
theorem sort32P (v : Value) (n : Nat) (w : World) (Q : World → Prop) (hf : ∃ a c, v = .slice a n c) (hn : n ≤ 12) (hi : Calls Try.prog 58 #[v, .int .i64 0, .int .i64 n] w fun e w' => e = .returned (.tuple #[]) ∧ Q w') :
    Calls Try.prog 26 #[v] w fun e w' => e = .returned (.tuple #[]) ∧ Q w' := by
  have HP := Lib.hid (fun m => pdq32_any v n m w Q hf hn hi)
  have HB := Lib.hid (bitslen_any n hn w)
  obtain ⟨a, c, rfl⟩ := hf
  have hw : IntKind.u64.wrap (n : Int) = (n : Int) := by
    have h : IntKind.u64.wrap (n : Int) = (n : Int) % 18446744073709551616 := rfl
    omega
  clear hi hn
  go_enter Try.func26, Try.ntmps26
  go_wp2_with (first | (go_at_call 42; refine HB.out.mono ?_; rintro e w' ⟨⟨m, rfl⟩, rfl⟩) | (go_at_call 41; refine (HP.out _).mono ?_; rintro e w' ⟨rfl, hx⟩))
  go_end0
  exact ⟨rfl, hx⟩
theorem sort32_any (v : Value) (N : Nat) (l : List Int) (w : World) (h : Row (intE .u32) 22 N w v l) (hN : N ≤ w.heap.size) (hl : l.length ≤ 12) :
    Calls Try.prog 26 #[v] w fun e w' => e = .returned (.tuple #[]) ∧ ∃ l', Row (intE .u32) 22 N w' v l' ∧ l'.Perm l ∧ l'.Pairwise (· ≤ ·) ∧ Below N w w' := by
  by_cases h0 : l.length = 0
  · have hl0 : l = [] := List.eq_nil_of_length_eq_zero h0
    subst hl0
    rcases h.form with ⟨rfl, _⟩ | ⟨g, c, rfl, hgN, _, hlc, hcm⟩
    · refine sort32P _ 0 w _ ⟨_, _, rfl⟩ (by omega) ((ins32_nil 0 N w).mono ?_)
      rintro e w' ⟨rfl, _, rfl, hb⟩
      exact ⟨rfl, [], Row.nil, List.Perm.refl _, List.Pairwise.nil, hb⟩
    · exact sort32P _ _ w _ ⟨_, _, rfl⟩ hl (ins32_any g c N [] w h hN hgN hlc hcm)
  · obtain ⟨g, c, rfl, hlc, hcm, hgN, _⟩ := RowI.head h (by omega)
    exact sort32P _ _ w _ ⟨_, _, rfl⟩ hl (ins32_any g c N l w h hN hgN hlc hcm)
end Go.Proofs.Ytihfkjodjaoocaa
