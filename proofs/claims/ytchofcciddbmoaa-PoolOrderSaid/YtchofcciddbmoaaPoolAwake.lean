/- Walk of the pool laws' awake. -/
import Derived.Test.YtchofcciddbmoaaPoolC
set_option maxRecDepth 4000
namespace Go.Proofs.Ytchofcciddbmoaa
open Go.RowKit Mem
set_option linter.unusedSimpArgs false
set_option linter.unusedVariables false
attribute [local irreducible] Go.Calls

theorem PoAt.keep {w w' : World} {b : Nat} {W R : Nat → Prop} {L : List (List Int)} (h : PoAt w b W R L) (k : Below w.heap.size w w') : PoAt w' b W R L := h.turned (S := fun _ => False) (Turned.of_below k) (fun _ _ h => h)
/-- a pool made within a call whose world had B blocks -/
def Po (B : Nat) (w : World) (b : Nat) (L : List (List Int)) : Prop := ∃ W R, PoAt w b W R L ∧ ∀ j, R j → B ≤ j
theorem Po.keep {B : Nat} {w w' : World} {b : Nat} {L : List (List Int)} (h : Po B w b L) (k : Below w.heap.size w w') : Po B w' b L := by
  obtain ⟨W, R, h, hr⟩ := h
  exact ⟨W, R, h.keep k, hr⟩
theorem Po.len {B : Nat} {w : World} {b : Nat} {L : List (List Int)} (h : Po B w b L) : L.length ≤ 5000 := by
  obtain ⟨W, R, h, _⟩ := h
  exact h.len
/-- behind a call that may turn the pool -/
theorem Po.step {B : Nat} {w w' : World} {b : Nat} {W R : Nat → Prop} {L L' : List (List Int)} (h : PoAt w b W R L) (hr : ∀ j, R j → B ≤ j) (hB : B ≤ w.heap.size) (k : PStep W R w w' b L') : Po B w' b L' ∧ Below B w w' := by
  obtain ⟨W', R', h', t, hw, hr'⟩ := k
  exact ⟨⟨W', R', h', fun j hj => by rcases hr' j hj with h1 | h1; exact hr j h1; omega⟩, t.below hB (fun j hj => hr j (h.sub hj))⟩
theorem po_new {B : Nat} {w w' : World} {b : Nat} {W R : Nat → Prop} (h : PoAt w' b W R []) (hr : ∀ j, R j → w.heap.size ≤ j) (hB : B ≤ w.heap.size) : Po B w' b [] := ⟨W, R, h, fun j hj => Nat.le_trans hB (hr j hj)⟩
theorem po_push (B b : Nat) (L : List (List Int)) (v : Value) (l : List Int) (w : World) (h : Po B w b L) (hB : B ≤ w.heap.size) (hr : Rd (intE .u8) w v l) (hl : l.length ≤ pmax) (hx : ∀ x ∈ l, 0 ≤ x ∧ x ≤ 255) (hn : L.length < 5000) :
    Calls Try.prog 14 #[.pointer (some ⟨b, 0, none⟩), v] w fun e w' => e = .returned (.int .i64 0) ∧ Po B w' b (L ++ [l]) ∧ Below B w w' := by
  obtain ⟨W, R, h, hR⟩ := h
  exact (ppush_ok b W R L v l w h hr hl hx hn).mono fun e w' ⟨he, hs⟩ => ⟨he, Po.step h hR hB hs⟩
theorem po_take (B b : Nat) (L : List (List Int)) (i : Nat) (w : World) (h : Po B w b L) (hB : B ≤ w.heap.size) (hi : i < L.length) :
    Calls Try.prog 9 #[.pointer (some ⟨b, 0, none⟩), .int .i64 i] w fun e w' => ∃ v, e = .returned (.tuple #[v, .int .i64 0]) ∧ Rd (intE .u8) w' v (L.getD i []) ∧ Po B w' b (L.eraseIdx i) ∧ Below B w w' := by
  obtain ⟨W, R, h, hR⟩ := h
  exact (ptake_ok b W R L i w h hi).mono fun e w' ⟨v, he, hv, hs⟩ => ⟨v, he, hv, Po.step h hR hB hs⟩
theorem po_double (B b : Nat) (L : List (List Int)) (i : Nat) (w : World) (h : Po B w b L) (hB : B ≤ w.heap.size) (hi : i < L.length) (hn : L.length < 5000) :
    Calls Try.prog 11 #[.pointer (some ⟨b, 0, none⟩), .int .i64 i] w fun e w' => e = .returned (.int .i64 0) ∧ Po B w' b (L ++ [L.getD i []]) ∧ Below B w w' := by
  obtain ⟨W, R, h, hR⟩ := h
  exact (pdouble_ok b W R L i w h hi hn).mono fun e w' ⟨he, hs⟩ => ⟨he, Po.step h hR hB hs⟩
theorem po_peek (B b : Nat) (L : List (List Int)) (i : Nat) (w : World) (h : Po B w b L) (hi : i < L.length) :
    Calls Try.prog 12 #[.pointer (some ⟨b, 0, none⟩), .int .i64 i] w fun e w' => ∃ v, e = .returned (.tuple #[v, .bool true]) ∧ Own8 w.heap.size w' v (L.getD i []) ∧ Below w.heap.size w w' := by
  obtain ⟨W, R, h, hR⟩ := h
  exact ppeek_ok b W R L i w h hi
theorem po_len (B b : Nat) (L : List (List Int)) (w : World) (h : Po B w b L) : Calls Try.prog 17 #[.pointer (some ⟨b, 0, none⟩)] w fun e w' => e = .returned (.int .i64 L.length) ∧ Below w.heap.size w w' := by
  obtain ⟨W, R, h, hR⟩ := h
  exact plen_any b W R L w h
/-- a fork, behind which the first one may be turned -/
theorem po_fork (B b : Nat) (L : List (List Int)) (v : Value) (l : List Int) (w : World) (h : Po B w b L) (hB : B ≤ w.heap.size) :
    Calls Try.prog 13 #[.pointer (some ⟨b, 0, none⟩)] w fun e w' => ∃ b', e = .returned (.pointer (some ⟨b', 0, none⟩)) ∧ Below w.heap.size w w' ∧
      ∃ W R W' R', PoAt w' b W R L ∧ (∀ j, R j → B ≤ j) ∧ PoAt w' b' W' R' L ∧ (∀ j, R' j → B ≤ j ∧ ¬ W j) := by
  obtain ⟨W, R, h, hR⟩ := h
  refine (pfork_any b W R L w h).mono fun e w' ⟨b', W', R', he, h', hW', hR', hk⟩ => ⟨b', he, hk, W, R, W', R', h.keep hk, hR, h', fun j hj => ?_⟩
  rcases hR' j hj with ⟨h1, h2⟩ | h1
  · exact ⟨hR j h1, h2⟩
  · exact ⟨by omega, fun hw => by have := h.lt (h.sub hw); omega⟩
set_option maxHeartbeats 1000000 in
theorem pawake_any (w : World) : Calls Try.prog 8 #[] w fun e w' => e = .returned (.bool true) ∧ Below w.heap.size w w' := by
  go_enter Try.func8, Try.ntmps8
  go_wp2_with fail
  refine (pnew_any w).mono ?_
  rintro e w1 ⟨b, W, R, rfl, hp, hr, hk⟩
  have HP := Lib.hid (po_new (B := w.heap.size) hp hr (Nat.le_refl _))
  have HK := Lib.hid hk
  clear hp hr hk
  go_wp2_with fail
  have hX := more (Below.refl w1.heap.size w1) (.cells #[.int .u8 1] 5)
  refine (po_push w.heap.size b [] _ [1] _ (HP.out.keep hX) (by have := HK.out.size; have := hX.size; omega) (Row.lit (E := intE .u8) (T := 5) 0 w1 #[.int .u8 1] [1] 1 _ rfl rfl rfl (Nat.zero_le _) (by simp [maxLen])).rd (by unfold pmax; simp) (by simp) (by simp)).mono ?_
  rintro e w2 ⟨rfl, hp, hb⟩
  have HP2 := Lib.hid hp
  have HK2 := Lib.hid ((nest HK.out hX).trans hb)
  clear hp hb hX HP HK
  go_wp2_with fail
  refine (po_len w.heap.size b _ w2 HP2.out).mono ?_
  rintro e w3 ⟨rfl, hk⟩
  have HP3 := Lib.hid (HP2.out.keep hk)
  have HK3 := Lib.hid (nest HK2.out hk)
  clear hk HP2 HK2
  go_wp2_with fail
  refine (po_double w.heap.size b _ 0 w3 HP3.out HK3.out.size (by simp) (by simp)).mono ?_
  rintro e w4 ⟨rfl, hp, hb⟩
  have HP4 := Lib.hid hp
  have HK4 := Lib.hid (HK3.out.trans hb)
  clear hp hb HP3 HK3
  go_wp2_with fail
  refine (po_len w.heap.size b _ w4 HP4.out).mono ?_
  rintro e w5 ⟨rfl, hk⟩
  have HK5 := Lib.hid (nest HK4.out hk)
  clear hk
  go_wp2_with fail
  go_ret
  exact ⟨rfl, HK5.out⟩
end Go.Proofs.Ytchofcciddbmoaa
