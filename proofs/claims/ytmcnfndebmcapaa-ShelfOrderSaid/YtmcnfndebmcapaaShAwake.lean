/- Walks of the shelf laws' awake and few; shelves made within a call. -/
import Derived.Test.YtmcnfndebmcapaaShelfC
import Derived.Test.YtmcnfndebmcapaaSameEnts
set_option maxRecDepth 4000
namespace Go.Proofs.Ytmcnfndebmcapaa
open Go.RowKit Mem
set_option linter.unusedSimpArgs false
set_option linter.unusedVariables false
attribute [local irreducible] Go.Calls

theorem ShAt.keep {w w' : World} {b : Nat} {W R : Nat → Prop} {L : List Ent} (h : ShAt w b W R L) (k : Below w.heap.size w w') : ShAt w' b W R L := h.turned (S := fun _ => False) (Turned.of_below k) (fun _ _ h => h)
/-- a shelf made within a call whose world had B blocks -/
def Sh (B : Nat) (w : World) (b : Nat) (L : List Ent) : Prop := ∃ W R, ShAt w b W R L ∧ ∀ j, R j → B ≤ j
theorem Sh.keep {B : Nat} {w w' : World} {b : Nat} {L : List Ent} (h : Sh B w b L) (k : Below w.heap.size w w') : Sh B w' b L := by
  obtain ⟨W, R, h, hr⟩ := h
  exact ⟨W, R, h.keep k, hr⟩
theorem Sh.len {B : Nat} {w : World} {b : Nat} {L : List Ent} (h : Sh B w b L) : L.length ≤ 10000 := by
  obtain ⟨W, R, h, _⟩ := h
  exact h.len
theorem Sh.uniq {B : Nat} {w : World} {b : Nat} {L : List Ent} (h : Sh B w b L) : UniqK L := by
  obtain ⟨W, R, h, _⟩ := h
  exact h.uniq
theorem Sh.ok {B : Nat} {w : World} {b : Nat} {L : List Ent} (h : Sh B w b L) : ∀ y ∈ L, okE y := by
  obtain ⟨W, R, h, _⟩ := h
  exact h.ok
theorem Sh.step {B : Nat} {w w' : World} {b : Nat} {W R : Nat → Prop} {L L' : List Ent} (h : ShAt w b W R L) (hr : ∀ j, R j → B ≤ j) (hB : B ≤ w.heap.size) (k : SStep W R w w' b L') : Sh B w' b L' ∧ Below B w w' := by
  obtain ⟨W', R', h', t, hw, hr'⟩ := k
  exact ⟨⟨W', R', h', fun j hj => by rcases hr' j hj with h1 | h1; exact hr j h1; omega⟩, t.below hB (fun j hj => hr j (h.sub hj))⟩
theorem sh_new {B : Nat} {w w' : World} {b : Nat} {W R : Nat → Prop} (h : ShAt w' b W R []) (hr : ∀ j, R j → w.heap.size ≤ j) (hB : B ≤ w.heap.size) : Sh B w' b [] := ⟨W, R, h, fun j hj => Nat.le_trans hB (hr j hj)⟩
theorem sh_put (B b : Nat) (L : List Ent) (y : Ent) (x : Value) (w : World) (h : Sh B w b L) (hB : B ≤ w.heap.size) (hx : Rd (intE .u32) w x y.2.1.2.2) (hy : okE y) :
    Calls Try.prog 18 #[.pointer (some ⟨b, 0, none⟩), .agg (ecl y x).toArray] w fun e w' => e = .returned (.tuple #[.bool (putL L y).2.1, .int .i64 (putL L y).2.2]) ∧ Sh B w' b (putL L y).1 ∧ Below B w w' := by
  obtain ⟨W, R, h, hR⟩ := h
  exact (shput_any b W R L y x w h hx hy).mono fun e w' ⟨he, hs⟩ => ⟨he, Sh.step h hR hB hs⟩
theorem sh_join (B b : Nat) (Q : Nat → Prop) (L l : List Ent) (v : Value) (w : World) (h : Sh B w b L) (hB : B ≤ w.heap.size) (hv : EntsIn Q w v l) (hQ : ∀ j, Q j → j < B) (hl : ∀ y ∈ l, okE y) (hn : l.length ≤ 1000000) :
    Calls Try.prog 15 #[.pointer (some ⟨b, 0, none⟩), v] w fun e w' => e = .returned (.int .i64 (joinL L l).2) ∧ Sh B w' b (joinL L l).1 ∧ Below B w w' := by
  obtain ⟨W, R, h, hR⟩ := h
  exact (shjoin_any b W R Q L l v w h hv (fun j hj hw => by have := hQ j hj; have := hR j (h.sub hw); omega) hl hn).mono fun e w' ⟨he, hs⟩ => ⟨he, Sh.step h hR hB hs⟩
theorem sh_get (B b : Nat) (L : List Ent) (v i : Int) (w : World) (h : Sh B w b L) (bv : 0 ≤ v ∧ v ≤ 4294967295) (bi : 0 ≤ i ∧ i ≤ 18446744073709551615) :
    Calls Try.prog 23 #[.pointer (some ⟨b, 0, none⟩), .agg #[.int .u32 v, .int .u64 i]] w fun e w' => ∃ x, e = .returned (.tuple #[.agg (ecl (getE L v i).1 x).toArray, .bool (getE L v i).2]) ∧ Rd (intE .u32) w' x (getE L v i).1.2.1.2.2 ∧ Below w.heap.size w w' := by
  obtain ⟨W, R, h, hR⟩ := h
  exact shget_any b W R L v i w h bv bi
theorem sh_len (B b : Nat) (L : List Ent) (w : World) (h : Sh B w b L) : Calls Try.prog 20 #[.pointer (some ⟨b, 0, none⟩)] w fun e w' => e = .returned (.int .i64 L.length) ∧ Below w.heap.size w w' := by
  obtain ⟨W, R, h, hR⟩ := h
  exact shlen_any b W R L w h
theorem sh_live (B b : Nat) (L : List Ent) (w : World) (h : Sh B w b L) : Calls Try.prog 21 #[.pointer (some ⟨b, 0, none⟩)] w fun e w' => e = .returned (.int .i64 (liveE L)) ∧ Below w.heap.size w w' := by
  obtain ⟨W, R, h, hR⟩ := h
  exact shlive_any b W R L w h
def a5 : Ent := (5, (1, 2, []), false)
def b5 : Ent := (5, (1, 1, []), false)
theorem ok5 (v : Int) (h : 0 ≤ v ∧ v ≤ 9) : okE (5, (1, v, []), false) := ⟨⟨by simp, by simp, by simp; omega, by simp⟩, by simp⟩
set_option maxHeartbeats 1000000 in
theorem shawake_any (w : World) : Calls Try.prog 10 #[] w fun e w' => e = .returned (.bool true) ∧ Below w.heap.size w w' := by
  go_enter Try.func10, Try.ntmps10
  go_wp2_with fail
  refine (shnew_any w).mono ?_
  rintro e w1 ⟨b, W, R, rfl, hp, hr, hk⟩
  have HP := Lib.hid (sh_new (B := w.heap.size) hp hr (Nat.le_refl _))
  have HK := Lib.hid hk
  clear hp hr hk
  go_wp2_with fail
  refine (sh_put w.heap.size b [] a5 (.slice none 0 0) w1 HP.out HK.out.size (Rd.nil _ _ (Nat.zero_le _)) (ok5 2 (by omega))).mono ?_
  have e1 : putL [] a5 = ([a5], true, 0) := by rfl
  rw [e1]
  clear e1
  rintro e w2 ⟨rfl, hp, hk⟩
  have HP2 := Lib.hid hp
  have HK2 := Lib.hid (HK.out.trans hk)
  clear hp hk HP HK
  go_wp2_with fail
  refine (sh_put w.heap.size b [a5] b5 (.slice none 0 0) w2 HP2.out HK2.out.size (Rd.nil _ _ (Nat.zero_le _)) (ok5 1 (by omega))).mono ?_
  have e1 : putL [a5] b5 = ([a5], false, 0) := by rfl
  rw [e1]
  clear e1
  rintro e w3 ⟨rfl, hp, hk⟩
  have HP3 := Lib.hid hp
  have HK3 := Lib.hid (HK2.out.trans hk)
  clear hp hk HP2 HK2
  go_wp2_with fail
  refine (sh_len w.heap.size b [a5] w3 HP3.out).mono ?_
  rintro e w4 ⟨rfl, hk⟩
  have HP4 := Lib.hid (HP3.out.keep hk)
  have HK4 := Lib.hid (nest HK3.out hk)
  clear hk HP3 HK3
  go_wp2_with fail
  refine (sh_live w.heap.size b [a5] w4 HP4.out).mono ?_
  rintro e w5 ⟨rfl, hk⟩
  have HK5 := Lib.hid (nest HK4.out hk)
  clear hk HP4 HK4
  have e2 : (liveE [a5] : Int) = 1 := by decide
  rw [e2]
  go_wp2_with fail
  go_ret
  exact ⟨rfl, HK5.out⟩
/-- not too much -/
def fewE (l : List Ent) : Bool := decide (l.length ≤ 30) && l.all fun y => decide (y.2.1.2.2.length ≤ 20)
theorem few_yes {l : List Ent} : fewE l = true ↔ l.length ≤ 30 ∧ ∀ y ∈ l, y.2.1.2.2.length ≤ 20 := by simp [fewE]
set_option maxRecDepth 100000 in
set_option maxHeartbeats 2000000 in
theorem shfew_any (Q : Nat → Prop) (v : Value) (l : List Ent) (w : World) (h : EntsIn Q w v l) : Calls Try.prog 11 #[v] w fun e w' => e = .returned (.bool (fewE l)) ∧ Below w.heap.size w w' := by
  obtain ⟨RES, hRES⟩ : ∃ r, r = fewE l := ⟨_, rfl⟩
  rw [← hRES]
  have HRES := Lib.hid hRES
  clear hRES
  obtain ⟨a, g, off, c, rfl, hc1, hc2, hc3, hc4⟩ := h.at
  have hc2' : c ≤ 9223372036854775807 := hc2
  have HC3 := Lib.hid hc3
  have HC4 := Lib.hid hc4
  clear h hc3 hc4 hc2
  go_enter Try.func11, Try.ntmps11
  go_upto_block 99 with fail
  go_loopw [3] (fun n wr => ∃ j : Nat, j ≤ l.length ∧ n = .int .i64 j ∧ (∀ t, t < j → (l.getD t e0).2.1.2.2.length ≤ 20) ∧ Below w.heap.size w wr) (fun n _ => l.length - (intOf n).toNat)
  case atStart => exact ⟨0, Nat.zero_le _, rfl, fun t ht => absurd ht (Nat.not_lt_zero _), Below.refl _ _⟩
  case round =>
    obtain ⟨j, hj, rfl, hno, hb⟩ := hrel
    have HNO := Lib.hid hno
    have HBB := Lib.hid hb
    clear hno
    by_cases hlt : j < l.length
    · obtain ⟨rfl, hg1, hg2⟩ := HC3.out (by omega)
      obtain ⟨x, _, _, _, d3, _, hrx, _⟩ := HC4.out j hlt
      obtain ⟨ax, cx, rfl, _, _⟩ := hrx.form
      have d3 := kc hb d3
      have HMEM : Hid (l.getD j e0 ∈ l) := Lib.hid (by rw [show l.getD j e0 = l[j] by simp [List.getD, hlt]]; exact List.getElem_mem _)
      have HJ : Hid ((l.getD j e0).2.1.2.2.length = (l.getD j e0).2.1.2.2.length) := Lib.hid rfl
      obtain ⟨p, hp⟩ : ∃ p, p = (l.getD j e0).2.1.2.2.length := ⟨_, rfl⟩
      rw [← hp] at d3
      have HPP := Lib.hid hp
      clear hp hrx hb hg1 hg2 HJ
      by_cases h20 : p > 20
      · have hr : Hid (RES = false) := Lib.hid (by
          rw [HRES.out]
          cases hf : fewE l with
          | false => rfl
          | true => have := (few_yes.1 hf).2 _ HMEM.out; rw [← HPP.out] at this; omega)
        have e20 : (p : Int) > 20 := by omega
        go_wp2_with fail
        go_ret
        exact ⟨by rw [hr.out]; rfl, HBB.out⟩
      · have e20 : ¬ (p : Int) > 20 := by omega
        go_wp2_with fail
        exact ⟨⟨j + 1, by omega, by go_num, fun t ht => by rcases Nat.lt_or_ge t j with h | h; exact HNO.out t h; rw [show t = j by omega, ← HPP.out]; omega, HBB.out⟩, by simp [intOf]; omega⟩
    · have hjl : j = l.length := by omega
      subst hjl
      have hr : Hid (RES = decide ((l.length : Int) ≤ 30)) := Lib.hid (by
        rw [HRES.out]
        unfold fewE
        have : (l.all fun y => decide (y.2.1.2.2.length ≤ 20)) = true := by
          rw [List.all_eq_true]
          intro y hy
          obtain ⟨i, hi, rfl⟩ := List.getElem_of_mem hy
          have := HNO.out i hi
          rw [show l.getD i e0 = l[i] by simp [List.getD, hi]] at this
          simpa using this
        rw [this, Bool.and_true]
        exact decide_eq_decide.2 (by omega))
      go_wp2_with fail
      go_ret
      exact ⟨by rw [hr.out]; rfl, HBB.out⟩
/-- two entries that read as one -/
theorem entry_yes (y : Ent) (x1 x2 : Value) (w : World) (h1 : Rd (intE .u32) w x1 y.2.1.2.2) (h2 : Rd (intE .u32) w x2 y.2.1.2.2) :
    Calls Try.prog 27 #[.agg (ecl y x1).toArray, .agg (ecl y x2).toArray] w fun e w' => e = .returned (.bool true) ∧ Below w.heap.size w w' := by
  have h := entry_any y.1 y.2.1.1 y.2.1.2.1 y.1 y.2.1.1 y.2.1.2.1 x1 x2 y.2.1.2.2 y.2.1.2.2 y.2.2 y.2.2 w h1 h2
  rw [sameE_iff, decide_eq_true rfl] at h
  exact h
/-- a shelf that leaves the blocks of N be -/
def ShF (N : Nat → Prop) (w : World) (b : Nat) (L : List Ent) : Prop := ∃ W R, ShAt w b W R L ∧ (∀ j, W j → ¬ N j) ∧ ∀ j, N j → j < w.heap.size
theorem ShF.keep {N : Nat → Prop} {w w' : World} {b : Nat} {L : List Ent} (h : ShF N w b L) (k : Below w.heap.size w w') : ShF N w' b L := by
  obtain ⟨W, R, h, hr, hn⟩ := h
  exact ⟨W, R, h.keep k, hr, fun j hj => Nat.lt_of_lt_of_le (hn j hj) k.size⟩
/-- .. and what was made behind it -/
theorem ShF.free {N : Nat → Prop} {w w' : World} {b : Nat} {L : List Ent} (h : ShF N w b L) (k : Below w.heap.size w w') : ShF (fun j => N j ∨ (w.heap.size ≤ j ∧ j < w'.heap.size)) w' b L := by
  obtain ⟨W, R, h, hr, hn⟩ := h
  refine ⟨W, R, h.keep k, fun j hj hN => ?_, fun j hj => ?_⟩
  · rcases hN with h1 | h1
    · exact hr j hj h1
    · have := h.lt (h.sub hj); omega
  · have := k.size
    rcases hj with h1 | h1
    · have := hn j h1; omega
    · exact h1.2
theorem ShF.less {N N' : Nat → Prop} {w : World} {b : Nat} {L : List Ent} (h : ShF N w b L) (hN : ∀ j, N' j → N j) : ShF N' w b L := by
  obtain ⟨W, R, h, hr, hn⟩ := h
  exact ⟨W, R, h, fun j hj hq => hr j hj (hN j hq), fun j hj => hn j (hN j hj)⟩
theorem ShF.uniq {N : Nat → Prop} {w : World} {b : Nat} {L : List Ent} (h : ShF N w b L) : UniqK L := by
  obtain ⟨W, R, h, _⟩ := h
  exact h.uniq
theorem ShF.ok {N : Nat → Prop} {w : World} {b : Nat} {L : List Ent} (h : ShF N w b L) : ∀ y ∈ L, okE y := by
  obtain ⟨W, R, h, _⟩ := h
  exact h.ok
theorem ShF.len {N : Nat → Prop} {w : World} {b : Nat} {L : List Ent} (h : ShF N w b L) : L.length ≤ 10000 := by
  obtain ⟨W, R, h, _⟩ := h
  exact h.len
theorem ShF.step {N : Nat → Prop} {w w' : World} {b : Nat} {W R : Nat → Prop} {L' : List Ent} (hr : ∀ j, W j → ¬ N j) (hn : ∀ j, N j → j < w.heap.size) (k : SStep W R w w' b L') : ShF N w' b L' ∧ Turned (fun j => ¬ N j) w w' := by
  obtain ⟨W', R', h', t, hw, hr'⟩ := k
  refine ⟨⟨W', R', h', fun j hj hN => ?_, fun j hj => Nat.lt_of_lt_of_le (hn j hj) t.size⟩, t.mono fun j _ hj => hr j hj⟩
  rcases hw j hj with h1 | h1
  · exact hr j h1 hN
  · have := hn j hN; omega
theorem shf_new {w w' : World} {b : Nat} {W R : Nat → Prop} (h : ShAt w' b W R []) (hr : ∀ j, R j → w.heap.size ≤ j) (k : Below w.heap.size w w') : ShF (fun j => j < w.heap.size) w' b [] :=
  ⟨W, R, h, fun j hj hN => by have := hr j (h.sub hj); omega, fun j hj => Nat.lt_of_lt_of_le hj k.size⟩
theorem Sh.free {B : Nat} {w w' : World} {b : Nat} {L : List Ent} (h : Sh B w b L) (hB : B ≤ w.heap.size) (k : Below w.heap.size w w') : ShF (fun j => j < B ∨ (w.heap.size ≤ j ∧ j < w'.heap.size)) w' b L := by
  obtain ⟨W, R, h, hr⟩ := h
  exact ShF.free (N := fun j => j < B) ⟨W, R, h, fun j hj hN => by have := hr j (h.sub hj); omega, fun j hj => by omega⟩ k
theorem shf_put (N : Nat → Prop) (b : Nat) (L : List Ent) (y : Ent) (x : Value) (w : World) (h : ShF N w b L) (hx : Rd (intE .u32) w x y.2.1.2.2) (hy : okE y) :
    Calls Try.prog 18 #[.pointer (some ⟨b, 0, none⟩), .agg (ecl y x).toArray] w fun e w' => e = .returned (.tuple #[.bool (putL L y).2.1, .int .i64 (putL L y).2.2]) ∧ ShF N w' b (putL L y).1 ∧ Turned (fun j => ¬ N j) w w' := by
  obtain ⟨W, R, h, hR, hn⟩ := h
  exact (shput_any b W R L y x w h hx hy).mono fun e w' ⟨he, hs⟩ => ⟨he, ShF.step hR hn hs⟩
theorem shf_join (N : Nat → Prop) (b : Nat) (Q : Nat → Prop) (L l : List Ent) (v : Value) (w : World) (h : ShF N w b L) (hv : EntsIn Q w v l) (hQ : ∀ j, Q j → N j) (hl : ∀ y ∈ l, okE y) (hn : l.length ≤ 1000000) :
    Calls Try.prog 15 #[.pointer (some ⟨b, 0, none⟩), v] w fun e w' => e = .returned (.int .i64 (joinL L l).2) ∧ ShF N w' b (joinL L l).1 ∧ Turned (fun j => ¬ N j) w w' := by
  obtain ⟨W, R, h, hR, hN⟩ := h
  exact (shjoin_any b W R Q L l v w h hv (fun j hj hw => hR j hw (hQ j hj)) hl hn).mono fun e w' ⟨he, hs⟩ => ⟨he, ShF.step hR hN hs⟩
theorem shf_get (N : Nat → Prop) (b : Nat) (L : List Ent) (v i : Int) (w : World) (h : ShF N w b L) (bv : 0 ≤ v ∧ v ≤ 4294967295) (bi : 0 ≤ i ∧ i ≤ 18446744073709551615) :
    Calls Try.prog 23 #[.pointer (some ⟨b, 0, none⟩), .agg #[.int .u32 v, .int .u64 i]] w fun e w' => ∃ x, e = .returned (.tuple #[.agg (ecl (getE L v i).1 x).toArray, .bool (getE L v i).2]) ∧ Rd (intE .u32) w' x (getE L v i).1.2.1.2.2 ∧ Below w.heap.size w w' := by
  obtain ⟨W, R, h, hR, _⟩ := h
  exact shget_any b W R L v i w h bv bi
/-- what is told lies in blocks that the shelf leaves be from now on -/
theorem shf_scan (N : Nat → Prop) (b : Nat) (L : List Ent) (f t : Int) (w : World) (h : ShF N w b L) (bf : 0 ≤ f ∧ f ≤ 4294967295) (bt : 0 ≤ t ∧ t ≤ 4294967295) :
    Calls Try.prog 25 #[.pointer (some ⟨b, 0, none⟩), .agg #[.int .u32 f, .int .u32 t]] w fun e w' => ∃ v Q, e = .returned v ∧ EntsIn Q w' v (scanL f t L) ∧ ShF (fun j => N j ∨ Q j) w' b L ∧ Below w.heap.size w w' := by
  obtain ⟨W, R, h, hR, hN⟩ := h
  refine (shscan_any b W R L f t w h bf bt).mono fun e w' ⟨v, he, hv, hk⟩ => ⟨v, fun j => ¬ W j ∧ j < w'.heap.size, he, hv.mono (fun j hj hq => ⟨hq.1, hj⟩), ⟨W, R, h.keep hk, fun j hj hq => ?_, fun j hj => ?_⟩, hk⟩
  · rcases hq with h1 | h1
    · exact hR j hj h1
    · exact h1.1 hj
  · rcases hj with h1 | h1
    · exact Nat.lt_of_lt_of_le (hN j h1) hk.size
    · exact h1.2
theorem shf_cut (N : Nat → Prop) (b : Nat) (L : List Ent) (f t : Int) (w : World) (h : ShF N w b L) (bf : 0 ≤ f ∧ f ≤ 4294967295) (bt : 0 ≤ t ∧ t ≤ 4294967295) :
    Calls Try.prog 13 #[.pointer (some ⟨b, 0, none⟩), .agg #[.int .u32 f, .int .u32 t]] w fun e w' => ∃ v Q, e = .returned v ∧ EntsIn Q w' v (scanL f t L) ∧ ShF (fun j => N j ∨ Q j) w' b (restL f t L) ∧ Turned (fun j => ¬ N j) w w' := by
  obtain ⟨W, R, h, hR, hN⟩ := h
  refine (shcut_any b W R L f t w h bf bt).mono fun e w' ⟨v, he, W', R', h', ht, hw, hr, hv⟩ => ⟨v, fun j => ¬ W' j ∧ j < w'.heap.size, he, hv.mono (fun j hj hq => ⟨hq.1, hj⟩), ⟨W', R', h', fun j hj hq => ?_, fun j hj => ?_⟩, ht.mono fun j _ hj => hR j hj⟩
  · rcases hq with h1 | h1
    · rcases hw j hj with h2 | h2
      · exact hR j h2 h1
      · have := hN j h1; omega
    · exact h1.1 hj
  · rcases hj with h1 | h1
    · exact Nat.lt_of_lt_of_le (hN j h1) ht.size
    · exact h1.2
theorem shf_len (N : Nat → Prop) (b : Nat) (L : List Ent) (w : World) (h : ShF N w b L) : Calls Try.prog 20 #[.pointer (some ⟨b, 0, none⟩)] w fun e w' => e = .returned (.int .i64 L.length) ∧ Below w.heap.size w w' := by
  obtain ⟨W, R, h, hR, _⟩ := h
  exact shlen_any b W R L w h
theorem shf_live (N : Nat → Prop) (b : Nat) (L : List Ent) (w : World) (h : ShF N w b L) : Calls Try.prog 21 #[.pointer (some ⟨b, 0, none⟩)] w fun e w' => e = .returned (.int .i64 (liveE L)) ∧ Below w.heap.size w w' := by
  obtain ⟨W, R, h, hR, _⟩ := h
  exact shlive_any b W R L w h
end Go.Proofs.Ytmcnfndebmcapaa
