/- The document's answers for package shelf (petasosref09): Join, Get. -/
import Derived.Test.YtihfkjodjaoocaaShPut
set_option maxRecDepth 4000
namespace Go.Proofs.Ytihfkjodjaoocaa
open Go.RowKit Mem
set_option linter.unusedSimpArgs false
set_option linter.unusedVariables false
attribute [local irreducible] Go.Calls

/-- what Join leaves, and how many Puts told true -/
def joinL (L : List Ent) (l : List Ent) : List Ent × Nat := l.foldl (fun s y => ((putL s.1 y).1, s.2 + (if (putL s.1 y).2.1 then 1 else 0))) (L, 0)
theorem joinL_nil (L : List Ent) : joinL L [] = (L, 0) := rfl
theorem joinL_step (L : List Ent) {l : List Ent} {k : Nat} (hk : k < l.length) : joinL L (l.take (k + 1)) = ((putL (joinL L (l.take k)).1 (l.getD k e0)).1, (joinL L (l.take k)).2 + (if (putL (joinL L (l.take k)).1 (l.getD k e0)).2.1 then 1 else 0)) := by
  unfold joinL
  rw [List.take_add_one, List.getElem?_eq_getElem hk, Option.toList_some, List.foldl_append, show l.getD k e0 = l[k] by simp [List.getD, hk]]
  rfl
theorem putL_len (L : List Ent) (y : Ent) : (putL L y).1.length ≤ L.length + 1 := by
  unfold putL
  split
  · split
    · simp
    · simp
  · split
    · simp
    · simp
theorem putL_mem {P : Ent → Prop} {L : List Ent} {y : Ent} (hL : ∀ x ∈ L, P x) (hy : P y) : ∀ x ∈ (putL L y).1, P x := by
  unfold putL
  intro x hx
  split at hx
  · split at hx
    · rcases List.mem_or_eq_of_mem_set hx with h | h
      · exact hL x h
      · subst h; exact hy
    · exact hL x hx
  · split at hx
    · exact hL x hx
    · rw [List.mem_append] at hx
      rcases hx with h | h
      · exact hL x h
      · simp at h; subst h; exact hy
theorem joinL_len (L l : List Ent) : ∀ k, k ≤ l.length → (joinL L (l.take k)).1.length ≤ L.length + k ∧ (joinL L (l.take k)).2 ≤ k := by
  intro k
  induction k with
  | zero => intro _; simp [joinL]
  | succ k ih =>
    intro hk
    have h := ih (by omega)
    rw [joinL_step L (by omega)]
    have h1 := putL_len (joinL L (l.take k)).1 (l.getD k e0)
    refine ⟨by dsimp only; omega, ?_⟩
    dsimp only
    split <;> omega
theorem joinL_mem {P : Ent → Prop} {L l : List Ent} (hL : ∀ x ∈ L, P x) (hl : ∀ x ∈ l, P x) : ∀ k, k ≤ l.length → ∀ x ∈ (joinL L (l.take k)).1, P x := by
  intro k
  induction k with
  | zero => intro _; simpa [joinL] using hL
  | succ k ih =>
    intro hk
    rw [joinL_step L (by omega)]
    exact putL_mem (ih (by omega)) (hl _ (by rw [show l.getD k e0 = l[k] by simp [List.getD, show k < l.length by omega]]; exact List.getElem_mem _))
theorem RStep.trans {W R W1 R1 : Nat → Prop} {w z z' : World} {b : Nat} {L : List Ent} (ht : Turned W w z) (hw : ∀ j, W1 j → W j ∨ w.heap.size ≤ j) (hr : ∀ j, R1 j → R j ∨ w.heap.size ≤ j) (h : RStep W1 R1 z z' b L) : RStep W R w z' b L := by
  obtain ⟨W', R', h1, h2, h3, h4⟩ := h
  have hs := ht.size
  refine ⟨W', R', h1, ht.trans h2 (fun j hj hj1 => ?_), fun j hj => ?_, fun j hj => ?_⟩
  · rcases hw j hj1 with h5 | h5
    · exact h5
    · omega
  · rcases h3 j hj with h5 | h5
    · exact hw j h5
    · exact .inr (by omega)
  · rcases h4 j hj with h5 | h5
    · exact hr j h5
    · exact .inr (by omega)
set_option maxRecDepth 100000 in
set_option maxHeartbeats 4000000 in
theorem rshjoin_any (b : Nat) (W R Q : Nat → Prop) (L l : List Ent) (v : Value) (w : World) (h : RfAt w b W R L) (hv : EntsIn Q w v l) (hQ : ∀ j, Q j → ¬ W j) (hLb : ∀ y ∈ L, entB y) (hlb : ∀ y ∈ l, entB y) (hll : ∀ y ∈ l, y.2.1.2.2.length ≤ 35184372087808) (hn : L.length + l.length ≤ 1000000) :
    Calls Try.prog 15 #[.pointer (some ⟨b, 0, none⟩), v] w fun e w' => e = .returned (.int .i64 (joinL L l).2) ∧ RStep W R w w' b (joinL L l).1 := by
  have hv2 := hv.mono (Q' := fun j => ¬ W j ∧ j < w.heap.size) (fun j hj hq => ⟨hQ j hq, hj⟩)
  obtain ⟨a, g, off, c, rfl, hc1, hc2, hc3, hc4⟩ := hv2.at
  have hc2' : c ≤ 9223372036854775807 := hc2
  have HC3 := Lib.hid hc3
  have HV := Lib.hid hv2
  have HLB := Lib.hid hLb
  have HLB2 := Lib.hid hlb
  have HLL := Lib.hid hll
  have HN := Lib.hid hn
  have HH := Lib.hid h
  clear hc2 hc3 hc4 hv hv2 hLb hlb hll hQ h
  go_enter Try.func15, Try.ntmps15
  go_upto_block 99 with fail
  go_loopw [5, 6] (fun s n wr => ∃ j : Nat, j ≤ l.length ∧ s = .int .i64 (joinL L (l.take j)).2 ∧ n = .int .i64 j ∧ RStep W R w wr b (joinL L (l.take j)).1) (fun _ n _ => l.length - (intOf n).toNat)
  case atStart => exact ⟨0, Nat.zero_le _, rfl, rfl, RStep.same HH.out (Below.refl _ _)⟩
  case round =>
    obtain ⟨j, hj, rfl, rfl, W1, R1, hst, ht, hw1, hr1⟩ := hrel
    have HT := Lib.hid ht
    have HST := Lib.hid hst
    have HW1 := Lib.hid hw1
    have HR1 := Lib.hid hr1
    have hvr : EntsIn (fun j => ¬ W j ∧ j < w.heap.size) wr (.slice a l.length c) l := HV.out.turned ht (fun j hj => hj.1)
    obtain ⟨a', g', off', c', hva, _, _, hc3', hc4'⟩ := hvr.at
    injection hva with e1 e2 e3
    subst e1 e3
    clear hst ht hw1 hr1 hvr e2
    by_cases hlt : j < l.length
    · obtain ⟨rfl, hg1, hg2⟩ := hc3' (by omega)
      obtain ⟨x, d0, d1, d2, d3, d4, hrx, _⟩ := hc4' j hlt
      have hm : l.getD j e0 ∈ l := by rw [show l.getD j e0 = l[j] by simp [List.getD, hlt]]; exact List.getElem_mem _
      have hyb := HLB2.out _ hm
      have hyl := HLL.out _ hm
      have hJL := joinL_len L l j hj
      have hJM := joinL_mem HLB.out HLB2.out j hj
      have HSTEP := Lib.hid (joinL_step L hlt)
      obtain ⟨S, hS⟩ : ∃ S, S = joinL L (l.take j) := ⟨_, rfl⟩
      rw [← hS] at HST HSTEP hJL hJM ⊢
      obtain ⟨y, hy⟩ : ∃ y, y = l.getD j e0 := ⟨_, rfl⟩
      rw [← hy] at d0 d1 d2 d4 hrx hyb hyl HSTEP
      obtain ⟨ax, cx, rfl, _, _⟩ := hrx.form
      have hn' := HN.out
      have HPUT := Lib.hid (rshput_any b W1 R1 S.1 y (.slice ax y.2.1.2.2.length cx) wr HST.out hrx hyl hyb hJM (by omega))
      obtain ⟨P, hP⟩ : ∃ P, P = putL S.1 y := ⟨_, rfl⟩
      rw [← hP] at HPUT HSTEP
      obtain ⟨ya, ⟨yi, yv, yl⟩, yg⟩ := y
      have d0 : wr.cell? ⟨g', off' + j * 5, none⟩ = some (.int .u32 ya) := d0
      have d1 : wr.cell? ⟨g', off' + j * 5 + 1, none⟩ = some (.int .u64 yi) := d1
      have d2 : wr.cell? ⟨g', off' + j * 5 + 2, none⟩ = some (.int .u64 yv) := d2
      have d3 : wr.cell? ⟨g', off' + j * 5 + 3, none⟩ = some (.slice ax yl.length cx) := d3
      have d4 : wr.cell? ⟨g', off' + j * 5 + 4, none⟩ = some (.bool yg) := d4
      have hs2 := hJL.2
      generalize S.2 = n at *
      obtain ⟨PL, pb, pe⟩ := P
      clear hS hy hP hrx hyb hyl hJM hc3' hc4' hm hg1 hg2 hJL
      go_upto_region 6 with (go_at_call 14; refine HPUT.out.mono ?_; rintro e z1 ⟨rfl, hst⟩)
      have HST2 := Lib.hid (RStep.trans HT.out HW1.out HR1.out hst)
      clear hst d0 d1 d2 d3 d4 HPUT
      cases pb with
      | true =>
        go_wp2_with fail
        exact ⟨⟨j + 1, by omega, by rw [HSTEP.out]; go_num, by go_num, by rw [HSTEP.out]; exact HST2.out⟩, by simp [intOf]; omega⟩
      | false =>
        go_wp2_with fail
        exact ⟨⟨j + 1, by omega, by rw [HSTEP.out]; rfl, by go_num, by rw [HSTEP.out]; exact HST2.out⟩, by simp [intOf]; omega⟩
    · have hjl : j = l.length := by omega
      subst hjl
      go_wp2_with fail
      go_ret
      rw [List.take_length] at *
      exact ⟨rfl, ⟨W1, R1, HST.out, HT.out, HW1.out, HR1.out⟩⟩
end Go.Proofs.Ytihfkjodjaoocaa
