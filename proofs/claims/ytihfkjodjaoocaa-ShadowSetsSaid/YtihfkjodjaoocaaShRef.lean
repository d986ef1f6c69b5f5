/- The document's answers for package shelf (petasosref09): where the shelf lies; find, ahead, Live. -/
import Derived.Test.YtihfkjodjaoocaaShCopy
set_option maxRecDepth 4000
namespace Go.Proofs.Ytihfkjodjaoocaa
open Go.RowKit Mem
set_option linter.unusedSimpArgs false
set_option linter.unusedVariables false
attribute [local irreducible] Go.Calls

/-- the document's shelf at block b that holds L: it writes blocks of W alone, and reads those of R alone -/
def RfAt (w : World) (b : Nat) (W R : Nat → Prop) (L : List Ent) : Prop :=
  ∃ sl, Blk w b 40 #[sl] ∧ EntsAt 0 (fun j => R j ∧ ¬ W j) w sl L ∧ W b ∧ (∀ g, sl.ownBlock = some g → W g) ∧ (∀ j, W j → R j) ∧ (∀ j, R j → j < w.heap.size)
theorem RfAt.turned {w w' : World} {b : Nat} {W R S : Nat → Prop} {L : List Ent} (h : RfAt w b W R L) (k : Turned S w w') (hs : ∀ j, R j → ¬ S j) : RfAt w' b W R L := by
  obtain ⟨sl, h1, h2, h3, h4, h5, h6⟩ := h
  exact ⟨sl, h1.turned k (hs b (h5 b h3)), h2.turned k (fun j hj => hs j hj.1) (fun g hg => hs g (h5 g (h4 g hg))), h3, h4, h5, fun j hj => Nat.lt_of_lt_of_le (h6 j hj) k.size⟩
theorem RfAt.keep {w w' : World} {b : Nat} {W R : Nat → Prop} {L : List Ent} (h : RfAt w b W R L) (k : Below w.heap.size w w') : RfAt w' b W R L := h.turned (S := fun _ => False) (Turned.of_below k) (fun _ _ h => h)
theorem RfAt.lt {w : World} {b : Nat} {W R : Nat → Prop} {L : List Ent} (h : RfAt w b W R L) {j : Nat} (hj : R j) : j < w.heap.size := by
  obtain ⟨sl, h1, h2, h3, h4, h5, h6⟩ := h
  exact h6 j hj
theorem RfAt.sub {w : World} {b : Nat} {W R : Nat → Prop} {L : List Ent} (h : RfAt w b W R L) {j : Nat} (hj : W j) : R j := by
  obtain ⟨sl, h1, h2, h3, h4, h5, h6⟩ := h
  exact h5 j hj
/-- its cells -/
theorem RfAt.at {w : World} {b : Nat} {W R : Nat → Prop} {L : List Ent} (h : RfAt w b W R L) :
    ∃ a g off c, w.cell? ⟨b, 0, none⟩ = some (.slice a L.length c) ∧ L.length ≤ c ∧ c ≤ maxLen ∧ (0 < L.length → a = some ⟨g, off, none⟩ ∧ R g ∧ g < w.heap.size) ∧
      ∀ i, i < L.length → ∃ x, w.cell? ⟨g, off + i * 5, none⟩ = some (.int .u32 (L.getD i e0).1) ∧ w.cell? ⟨g, off + i * 5 + 1, none⟩ = some (.int .u64 (L.getD i e0).2.1.1) ∧ w.cell? ⟨g, off + i * 5 + 2, none⟩ = some (.int .u64 (L.getD i e0).2.1.2.1) ∧
        w.cell? ⟨g, off + i * 5 + 3, none⟩ = some x ∧ w.cell? ⟨g, off + i * 5 + 4, none⟩ = some (.bool (L.getD i e0).2.2) ∧ Rd (intE .u32) w x (L.getD i e0).2.1.2.2 ∧ (0 < (L.getD i e0).2.1.2.2.length → ∀ g, x.ownBlock = some g → R g) := by
  obtain ⟨sl, h1, h2, h3, h4, h5, h6⟩ := h
  have hin : EntsIn R w sl L := h2.rd.mono (fun j _ hj => by rcases hj with hj | hj; exact hj.1; exact h5 j (h4 j hj))
  obtain ⟨a, g, off, c, rfl, r⟩ := hin.at
  exact ⟨a, g, off, c, h1.cell 0, r⟩
/-- is that its key? -/
def keyE (v i : Int) (y : Ent) : Bool := (y.1 == v) && (y.2.1.1 == i)
/-- the place of a key; as many as there are, if it is not there -/
def posE (L : List Ent) (v i : Int) : Nat := L.findIdx (keyE v i)
theorem posE_here {L : List Ent} {v i : Int} {k : Nat} (hk : k < L.length) (h1 : ∀ j, j < k → keyE v i (L.getD j e0) = false) (h2 : keyE v i (L.getD k e0) = true) : posE L v i = k := by
  unfold posE
  rw [List.findIdx_eq hk]
  have e : ∀ j (hj : j < L.length), L.getD j e0 = L[j] := fun j hj => by simp [List.getD, hj]
  refine ⟨by rw [← e k hk]; exact h2, fun j hj => ?_⟩
  rw [← e j (by omega)]
  simpa using h1 j hj
theorem posE_none {L : List Ent} {v i : Int} (h1 : ∀ j, j < L.length → keyE v i (L.getD j e0) = false) : posE L v i = L.length := by
  unfold posE
  rw [List.findIdx_eq_length]
  intro y hy
  obtain ⟨j, hj, rfl⟩ := List.getElem_of_mem hy
  have := h1 j hj
  simpa [List.getD, hj] using this
theorem posE_le (L : List Ent) (v i : Int) : posE L v i ≤ L.length := List.findIdx_le_length
set_option maxRecDepth 100000 in
set_option maxHeartbeats 2000000 in
theorem rshfind_any (b : Nat) (W R : Nat → Prop) (L : List Ent) (v i : Int) (w : World) (h : RfAt w b W R L) :
    Calls Try.prog 27 #[.pointer (some ⟨b, 0, none⟩), .agg #[.int .u32 v, .int .u64 i]] w fun e w' => e = .returned (.int .i64 (if posE L v i < L.length then (posE L v i : Int) else -1)) ∧ Below w.heap.size w w' := by
  obtain ⟨RES, hRES⟩ : ∃ r, r = (if posE L v i < L.length then (posE L v i : Int) else -1) := ⟨_, rfl⟩
  rw [← hRES]
  have HRES := Lib.hid hRES
  clear hRES
  have hk0 : Below w.heap.size w (w.alloc (.cells #[.int .u32 v, .int .u64 i] 66)) := more (Below.refl _ _) _
  have HB3 := Lib.hid (Blk.new w 66 #[.int .u32 v, .int .u64 i])
  obtain ⟨a, g, off, c, hc0, hc1, hc2, hc3, hc4⟩ := (h.keep hk0).at
  have HK := Lib.hid hk0
  have HC0 := Lib.hid hc0
  have HC3 := Lib.hid hc3
  have HC4 := Lib.hid hc4
  have hc2' : c ≤ 9223372036854775807 := hc2
  have HN : Hid ((∀ j, j < L.length → keyE v i (L.getD j e0) = false) → posE L v i = L.length) := Lib.hid posE_none
  have HH : Hid (∀ k, k < L.length → (∀ j, j < k → keyE v i (L.getD j e0) = false) → keyE v i (L.getD k e0) = true → posE L v i = k) := Lib.hid (fun k hk h1 h2 => posE_here hk h1 h2)
  clear h hk0 hc0 hc3 hc4 hc2
  go_enter Try.func27, Try.ntmps27
  go_upto_block 99 with fail
  generalize w.alloc (.cells #[.int .u32 v, .int .u64 i] 66) = w1 at *
  obtain ⟨gk, hgk⟩ : ∃ gk, gk = w.heap.size := ⟨_, rfl⟩
  rw [← hgk] at HB3 ⊢
  clear hgk
  go_loopw [5] (fun n wr => ∃ j : Nat, j ≤ L.length ∧ n = .int .i64 j ∧ (∀ t, t < j → keyE v i (L.getD t e0) = false) ∧ Below w1.heap.size w1 wr) (fun n _ => L.length - (intOf n).toNat)
  case atStart => exact ⟨0, Nat.zero_le _, rfl, fun t ht => absurd ht (Nat.not_lt_zero _), Below.refl _ _⟩
  case round =>
    obtain ⟨j, hj, rfl, hno, hb⟩ := hrel
    have HNO := Lib.hid hno
    have HBB := Lib.hid hb
    have c0 : wr.cell? ⟨b, 0, none⟩ = some (.slice a L.length c) := kc hb HC0.out
    clear hno
    by_cases hlt : j < L.length
    · obtain ⟨rfl, hg1, hg2⟩ := HC3.out (by omega)
      obtain ⟨x, d0, d1, _⟩ := HC4.out j hlt
      have d0 := kc hb d0
      have d1 := kc hb d1
      have k0 : wr.cell? ⟨gk, 0, none⟩ = some (.int .u32 v) := kc hb (HB3.out.cell 0)
      have k1 : wr.cell? ⟨gk, 1, none⟩ = some (.int .u64 i) := kc hb (HB3.out.cell 1)
      have HKY : Hid (keyE v i (L.getD j e0) = (((L.getD j e0).1 == v) && ((L.getD j e0).2.1.1 == i))) := Lib.hid rfl
      obtain ⟨p, hp⟩ : ∃ p, p = (L.getD j e0).1 := ⟨_, rfl⟩
      obtain ⟨q, hq⟩ : ∃ q, q = (L.getD j e0).2.1.1 := ⟨_, rfl⟩
      rw [← hp, ← hq] at HKY
      rw [← hp] at d0
      rw [← hq] at d1
      clear hp hq hb hg1 hg2
      go_upto_region 4 with fail
      rcases (show ((p == v) = true ∧ (q == i) = true) ∨ ((p == v) = true ∧ (q == i) = false) ∨ (p == v) = false by cases (p == v) <;> cases (q == i) <;> simp) with ⟨e1, e2⟩ | ⟨e1, e2⟩ | e1
      · have hm := HKY.out
        rw [e1, e2] at hm
        have hr : RES = (j : Int) := by rw [HRES.out, HH.out j hlt HNO.out hm, if_pos hlt]
        have HRR := Lib.hid hr
        clear hr
        refine Run.region_walk (S := fun z => z.cell? ⟨b, 0, none⟩ = some (.slice (some ⟨g, off, none⟩) L.length c) ∧ z.cell? ⟨g, off + j * 5, none⟩ = some (.int .u32 p) ∧ z.cell? ⟨g, off + j * 5 + 1, none⟩ = some (.int .u64 q) ∧ z.cell? ⟨gk, 0, none⟩ = some (.int .u32 v) ∧ z.cell? ⟨gk, 1, none⟩ = some (.int .u64 i))
          rshfind.rows3 rshfind.plan3 (l := ?steps1) (by kernel_rfl) (by kernel_rfl) (by kernel_rfl) (by kernel_rfl) ?written1 ⟨c0, d0, d1, k0, k1⟩ ?onward1
        case written1 =>
          simp only [rshfind.plan3, Run.stepsOf, Run.stepOf, Run.guardOf, List.getElem?_toArray, List.getElem?_cons_zero, List.getElem?_cons_succ, Option.map_some, Option.map_none, Option.bind_some, Option.toList_some, List.map_cons, List.map_nil, List.cons_append, List.nil_append, List.append_eq]
          rfl
        repeat ((first
          | (refine Run.takes (v := ?_) ?_ ?_; rotate_left; (· intro w' hS'; go_simp; (try with_reducible rfl)))
          | (refine Run.takesG (v := ?_) ?_ ?_ ?_; rotate_left; (· simp only [List.getElem?_cons_zero, List.getElem?_cons_succ]); (· intro w' hS'; go_simp; (try with_reducible rfl)))
          | (refine Run.skipsT ?_ ?_; (· simp only [List.getElem?_cons_zero, List.getElem?_cons_succ]))
          | (refine Run.skipsF ?_ ?_; (· simp only [List.getElem?_cons_zero, List.getElem?_cons_succ]))
          | (refine Run.skipsU ?_ ?_; (· simp only [List.getElem?_cons_zero, List.getElem?_cons_succ]))
          | (refine Run.passT ?_ ?_; (· simp only [List.getElem?_cons_zero, List.getElem?_cons_succ]))
          | (refine Run.passF ?_ ?_; (· simp only [List.getElem?_cons_zero, List.getElem?_cons_succ]))
          | (refine Run.passU ?_ ?_; (· simp only [List.getElem?_cons_zero, List.getElem?_cons_succ]))
          | fail); simp only [Act.put, List.setIfInBounds_toArray, List.set_cons_zero, List.set_cons_succ])
        refine Run.ends (fun _ => ?_)
        go_wp2_with fail
        go_ret
        exact ⟨by rw [HRR.out]; rfl, nest HK.out HBB.out.drew⟩
      · have hm : Hid (keyE v i (L.getD j e0) = false) := Lib.hid (by rw [HKY.out, e1, e2]; rfl)
        refine Run.region_walk (S := fun z => z.cell? ⟨b, 0, none⟩ = some (.slice (some ⟨g, off, none⟩) L.length c) ∧ z.cell? ⟨g, off + j * 5, none⟩ = some (.int .u32 p) ∧ z.cell? ⟨g, off + j * 5 + 1, none⟩ = some (.int .u64 q) ∧ z.cell? ⟨gk, 0, none⟩ = some (.int .u32 v) ∧ z.cell? ⟨gk, 1, none⟩ = some (.int .u64 i))
          rshfind.rows3 rshfind.plan3 (l := ?steps2) (by kernel_rfl) (by kernel_rfl) (by kernel_rfl) (by kernel_rfl) ?written2 ⟨c0, d0, d1, k0, k1⟩ ?onward2
        case written2 =>
          simp only [rshfind.plan3, Run.stepsOf, Run.stepOf, Run.guardOf, List.getElem?_toArray, List.getElem?_cons_zero, List.getElem?_cons_succ, Option.map_some, Option.map_none, Option.bind_some, Option.toList_some, List.map_cons, List.map_nil, List.cons_append, List.nil_append, List.append_eq]
          rfl
        repeat ((first
          | (refine Run.takes (v := ?_) ?_ ?_; rotate_left; (· intro w' hS'; go_simp; (try with_reducible rfl)))
          | (refine Run.takesG (v := ?_) ?_ ?_ ?_; rotate_left; (· simp only [List.getElem?_cons_zero, List.getElem?_cons_succ]); (· intro w' hS'; go_simp; (try with_reducible rfl)))
          | (refine Run.skipsT ?_ ?_; (· simp only [List.getElem?_cons_zero, List.getElem?_cons_succ]))
          | (refine Run.skipsF ?_ ?_; (· simp only [List.getElem?_cons_zero, List.getElem?_cons_succ]))
          | (refine Run.skipsU ?_ ?_; (· simp only [List.getElem?_cons_zero, List.getElem?_cons_succ]))
          | (refine Run.passT ?_ ?_; (· simp only [List.getElem?_cons_zero, List.getElem?_cons_succ]))
          | (refine Run.passF ?_ ?_; (· simp only [List.getElem?_cons_zero, List.getElem?_cons_succ]))
          | (refine Run.passU ?_ ?_; (· simp only [List.getElem?_cons_zero, List.getElem?_cons_succ]))
          | fail); simp only [Act.put, List.setIfInBounds_toArray, List.set_cons_zero, List.set_cons_succ])
        refine Run.ends (fun _ => ?_)
        go_wp2_with fail
        exact ⟨⟨j + 1, by omega, by go_num, fun t ht => by rcases Nat.lt_or_ge t j with h | h; exact HNO.out t h; rw [show t = j by omega]; exact hm.out, HBB.out.drew⟩, by simp [intOf]; omega⟩
      · have hm : Hid (keyE v i (L.getD j e0) = false) := Lib.hid (by rw [HKY.out, e1]; rfl)
        refine Run.region_walk (S := fun z => z.cell? ⟨b, 0, none⟩ = some (.slice (some ⟨g, off, none⟩) L.length c) ∧ z.cell? ⟨g, off + j * 5, none⟩ = some (.int .u32 p) ∧ z.cell? ⟨g, off + j * 5 + 1, none⟩ = some (.int .u64 q) ∧ z.cell? ⟨gk, 0, none⟩ = some (.int .u32 v) ∧ z.cell? ⟨gk, 1, none⟩ = some (.int .u64 i))
          rshfind.rows3 rshfind.plan3 (l := ?steps3) (by kernel_rfl) (by kernel_rfl) (by kernel_rfl) (by kernel_rfl) ?written3 ⟨c0, d0, d1, k0, k1⟩ ?onward3
        case written3 =>
          simp only [rshfind.plan3, Run.stepsOf, Run.stepOf, Run.guardOf, List.getElem?_toArray, List.getElem?_cons_zero, List.getElem?_cons_succ, Option.map_some, Option.map_none, Option.bind_some, Option.toList_some, List.map_cons, List.map_nil, List.cons_append, List.nil_append, List.append_eq]
          rfl
        repeat ((first
          | (refine Run.takes (v := ?_) ?_ ?_; rotate_left; (· intro w' hS'; go_simp; (try with_reducible rfl)))
          | (refine Run.takesG (v := ?_) ?_ ?_ ?_; rotate_left; (· simp only [List.getElem?_cons_zero, List.getElem?_cons_succ]); (· intro w' hS'; go_simp; (try with_reducible rfl)))
          | (refine Run.skipsT ?_ ?_; (· simp only [List.getElem?_cons_zero, List.getElem?_cons_succ]))
          | (refine Run.skipsF ?_ ?_; (· simp only [List.getElem?_cons_zero, List.getElem?_cons_succ]))
          | (refine Run.skipsU ?_ ?_; (· simp only [List.getElem?_cons_zero, List.getElem?_cons_succ]))
          | (refine Run.passT ?_ ?_; (· simp only [List.getElem?_cons_zero, List.getElem?_cons_succ]))
          | (refine Run.passF ?_ ?_; (· simp only [List.getElem?_cons_zero, List.getElem?_cons_succ]))
          | (refine Run.passU ?_ ?_; (· simp only [List.getElem?_cons_zero, List.getElem?_cons_succ]))
          | fail); simp only [Act.put, List.setIfInBounds_toArray, List.set_cons_zero, List.set_cons_succ])
        refine Run.ends (fun _ => ?_)
        go_wp2_with fail
        exact ⟨⟨j + 1, by omega, by go_num, fun t ht => by rcases Nat.lt_or_ge t j with h | h; exact HNO.out t h; rw [show t = j by omega]; exact hm.out, HBB.out.drew⟩, by simp [intOf]; omega⟩
    · have hjl : j = L.length := by omega
      subst hjl
      have hr : RES = -1 := by rw [HRES.out, HN.out HNO.out, if_neg (Nat.lt_irrefl _)]
      have HRR := Lib.hid hr
      clear hr
      go_wp2_with fail
      go_ret
      exact ⟨by rw [HRR.out]; rfl, nest HK.out HBB.out⟩
/-- how many are not gone -/
def liveE (L : List Ent) : Nat := (L.filter fun y => !y.2.2).length
theorem liveE_step {L : List Ent} {k : Nat} (hk : k < L.length) : liveE (L.take (k + 1)) = liveE (L.take k) + (if (L.getD k e0).2.2 then 0 else 1) := by
  unfold liveE
  rw [List.take_add_one, List.getElem?_eq_getElem hk, Option.toList_some, List.filter_append, List.length_append, show L.getD k e0 = L[k] by simp [List.getD, hk]]
  cases hq : L[k].2.2 <;> simp [hq]
theorem liveE_le (L : List Ent) : liveE L ≤ L.length := List.length_filter_le _ _
/-- does an entry stand ahead of another one, from a value on? -/
def stepE (f v : Int) : Int := (v - f - 1) % 4294967296
def aheadE (f : Int) (x y : Ent) : Bool := decide (stepE f x.1 < stepE f y.1) || ((stepE f x.1 == stepE f y.1) && decide (x.2.1.1 < y.2.1.1))
set_option maxRecDepth 100000 in
set_option maxHeartbeats 2000000 in
theorem rshahead_any (f : Int) (x y : Ent) (p q : Value) (w : World) :
    Calls Try.prog 46 #[.int .u32 f, .agg (ecl x p).toArray, .agg (ecl y q).toArray] w fun e w' => e = .returned (.bool (aheadE f x y)) ∧ Below w.heap.size w w' := by
  have hw : ∀ v : Int, IntKind.u32.wrap (IntKind.u32.wrap (v - f) - 1) = stepE f v := fun v => by rw [IntKind.wrap_u32, IntKind.wrap_u32]; unfold stepE; omega
  have h1 := hw x.1
  have h2 := hw y.1
  have hk0 : Below w.heap.size w ((w.alloc (.cells (ecl x p).toArray 28)).alloc (.cells (ecl y q).toArray 28)) := more (more (Below.refl _ _) _) _
  have HB1 : Hid (Blk ((w.alloc (.cells (ecl x p).toArray 28)).alloc (.cells (ecl y q).toArray 28)) w.heap.size 28 (ecl x p).toArray) := Lib.hid ((Blk.new w _ _).keep (more (Below.refl _ _) _))
  have HB2 : Hid (Blk ((w.alloc (.cells (ecl x p).toArray 28)).alloc (.cells (ecl y q).toArray 28)) (w.heap.size + 1) 28 (ecl y q).toArray) := Lib.hid (Blk.newAt _ _ _ (size_alloc _ _).symm)
  have HK := Lib.hid hk0
  clear hw hk0
  obtain ⟨RES, hRES⟩ : ∃ r, r = aheadE f x y := ⟨_, rfl⟩
  rw [← hRES]
  have HRES := Lib.hid hRES
  clear hRES
  go_enter Try.func46, Try.ntmps46
  go_upto_region 1 with fail
  generalize (w.alloc (.cells (ecl x p).toArray 28)).alloc (.cells (ecl y q).toArray 28) = w1 at *
  have c0 : w1.cell? ⟨w.heap.size, 0, none⟩ = some (.int .u32 x.1) := HB1.out.cell 0
  have c1 : w1.cell? ⟨w.heap.size, 1, none⟩ = some (.int .u64 x.2.1.1) := HB1.out.cell 1
  have d0 : w1.cell? ⟨w.heap.size + 1, 0, none⟩ = some (.int .u32 y.1) := HB2.out.cell 0
  have d1 : w1.cell? ⟨w.heap.size + 1, 1, none⟩ = some (.int .u64 y.2.1.1) := HB2.out.cell 1
  refine Run.region_walk (S := fun z => z.cell? ⟨w.heap.size, 0, none⟩ = some (.int .u32 x.1) ∧ z.cell? ⟨w.heap.size, 1, none⟩ = some (.int .u64 x.2.1.1) ∧ z.cell? ⟨w.heap.size + 1, 0, none⟩ = some (.int .u32 y.1) ∧ z.cell? ⟨w.heap.size + 1, 1, none⟩ = some (.int .u64 y.2.1.1))
    rshahead.rows1 rshahead.plan1 (l := ?steps4) (by kernel_rfl) (by kernel_rfl) (by kernel_rfl) (by kernel_rfl) ?written4 ⟨c0, c1, d0, d1⟩ ?onward4
  case written4 =>
    simp only [rshahead.plan1, Run.stepsOf, Run.stepOf, Run.guardOf, List.getElem?_toArray, List.getElem?_cons_zero, List.getElem?_cons_succ, Option.map_some, Option.map_none, Option.bind_some, Option.toList_some, List.map_cons, List.map_nil, List.cons_append, List.nil_append, List.append_eq]
    rfl
  repeat ((first
    | (refine Run.takes (v := ?_) ?_ ?_; rotate_left; (· intro w' hS'; go_simp; (try with_reducible rfl)))
    | (refine Run.takesG (v := ?_) ?_ ?_ ?_; rotate_left; (· simp only [List.getElem?_cons_zero, List.getElem?_cons_succ]); (· intro w' hS'; go_simp; (try with_reducible rfl)))
    | (refine Run.skipsT ?_ ?_; (· simp only [List.getElem?_cons_zero, List.getElem?_cons_succ]))
    | (refine Run.skipsF ?_ ?_; (· simp only [List.getElem?_cons_zero, List.getElem?_cons_succ]))
    | (refine Run.skipsU ?_ ?_; (· simp only [List.getElem?_cons_zero, List.getElem?_cons_succ]))
    | (refine Run.passT ?_ ?_; (· simp only [List.getElem?_cons_zero, List.getElem?_cons_succ]))
    | (refine Run.passF ?_ ?_; (· simp only [List.getElem?_cons_zero, List.getElem?_cons_succ]))
    | (refine Run.passU ?_ ?_; (· simp only [List.getElem?_cons_zero, List.getElem?_cons_succ]))
    | fail); simp only [Act.put, List.setIfInBounds_toArray, List.set_cons_zero, List.set_cons_succ])
  refine Run.ends (fun hS => ?_)
  clear c0 c1 d0 d1
  obtain ⟨c0, c1, d0, d1⟩ := hS
  have HRS : Hid (RES = (decide (stepE f x.1 < stepE f y.1) || ((stepE f x.1 == stepE f y.1) && decide (x.2.1.1 < y.2.1.1)))) := Lib.hid HRES.out
  clear HRES
  generalize stepE f x.1 = s at *
  generalize stepE f y.1 = t at *
  by_cases e1 : s < t
  · have f1 : decide (s < t) = true := decide_eq_true e1
    have HRR : Hid (RES = true) := Lib.hid (by rw [HRS.out]; simp [e1])
    go_wp2_with fail
    go_ret
    exact ⟨by rw [HRR.out]; rfl, HK.out.drew⟩
  · have f1 : decide (s < t) = false := decide_eq_false e1
    by_cases e2 : s = t
    · subst e2
      have HRR : Hid (RES = decide (x.2.1.1 < y.2.1.1)) := Lib.hid (by rw [HRS.out]; simp)
      go_wp2_with fail
      go_ret
      exact ⟨by rw [HRR.out]; rfl, HK.out.drew⟩
    · have f2 : (s == t) = false := by simpa using e2
      have HRR : Hid (RES = false) := Lib.hid (by rw [HRS.out]; simp [e1, e2])
      go_wp2_with fail
      go_ret
      exact ⟨by rw [HRR.out]; rfl, HK.out.drew⟩
end Go.Proofs.Ytihfkjodjaoocaa
