/- What the law PoolPlays goes on: the things done, the list of texts beside the pool. -/
import Derived.Test.YtchofcciddbmoaaPoolAwake
import Derived.Test.YtchofcciddbmoaaKindsW
import Derived.Test.YtchofcciddbmoaaOwn
import Derived.Test.YtchofcciddbmoaaPoolPlans
import Derived.Test.YtchofcciddbmoaaBytes
import Derived.Test.YtchofcciddbmoaaMem
set_option maxRecDepth 4000
namespace Go.Proofs.Ytchofcciddbmoaa
/-- a thing that is done: kind, place, text -/
abbrev opK : Mem.Kd (Int × Int × List Int) := Mem.kPair (Mem.kInt .i64) (Mem.kPair (Mem.kInt .i64) Mem.kText)
open Mem in
theorem opens_ops {H : Type} {enc : TypeId × Value → H} : OpensW enc Try.prog 22 (kSlice opK) :=
  opensw_slice Try.underlying22 (by kernel_rfl) (by decide)
    (opensw_struct Try.underlying29 (by kernel_rfl) (fieldsw_cons rfl (opens_int Try.underlying3 (by kernel_rfl)).w (fieldsw_cons rfl (opens_int Try.underlying3 (by kernel_rfl)).w (fieldsw_one rfl (opensw_text Try.underlying27 (by kernel_rfl) Try.underlying5 (by kernel_rfl) (by kernel_rfl))))))
end Go.Proofs.Ytchofcciddbmoaa
namespace Go.Proofs.Ytchofcciddbmoaa.poolPlays
open Go.RowKit Mem
set_option linter.unusedSimpArgs false
set_option linter.unusedVariables false
attribute [local irreducible] Go.Calls

/-- what is done, handed in: for every later world -/
def Ops (w : World) (g off : Nat) (l : List (Int × Int × List Int)) : Prop :=
  ∀ i, i < l.length → ∃ k x m a c, l.getD i (0, 0, []) = (k, x, m) ∧ w.cell? ⟨g, off + i * 3, none⟩ = some (.int .i64 k) ∧ w.cell? ⟨g, off + i * 3 + 1, none⟩ = some (.int .i64 x) ∧ w.cell? ⟨g, off + i * 3 + 2, none⟩ = some (.slice a m.length c) ∧
    Rd (intE .u8) w (.slice a m.length c) m ∧ m.length ≤ 140737488351232 ∧ (-9223372036854775808 ≤ k ∧ k ≤ 9223372036854775807) ∧ (-9223372036854775808 ≤ x ∧ x ≤ 9223372036854775807) ∧ ∀ y ∈ m, 0 ≤ y ∧ y ≤ 255
theorem ops_of {v : Value} {l : List (Int × Int × List Int)} {w : World} (h : (kSlice opK).rd w [v] l) :
    ∃ a g off c, v = .slice a l.length c ∧ l.length ≤ c ∧ c ≤ maxLen ∧ (0 < l.length → a = some ⟨g, off, none⟩) ∧ Ops w g off l := by
  obtain ⟨a, g, off, c, hv, h1, h2, ha, hi⟩ := kd_loop h
  refine ⟨a, g, off, c, hv, h1, h2, ha, fun i hl => ?_⟩
  have hy : l[i]? = some (l.getD i (0, 0, [])) := by simp [List.getD, List.getElem?_eq_getElem hl]
  obtain ⟨es, he, hr⟩ := hi i _ hy
  have hlen := opK.len hr
  clear hy
  generalize l.getD i (0, 0, []) = q at *
  obtain ⟨k, x, m⟩ := q
  match es, hlen with
  | [c0, c1, c2], _ =>
    obtain ⟨⟨h0, w0⟩, ⟨h1', w1⟩, ⟨⟨a', c', h2', h3⟩, hm⟩⟩ := hr
    have hk := (kd_ints ⟨a', c', h2', h3⟩).1
    have e0 : c0 = .int .i64 k := by simpa [kInt] using h0
    have e1 : c1 = .int .i64 x := by simpa [kInt] using h1'
    have e2 : c2 = .slice a' m.length c' := by simpa [kInt, kText] using h2'
    subst e0 e1 e2
    have q0 := he 0 (by decide)
    have q1 := he 1 (by decide)
    have q2 := he 2 (by decide)
    have hs : opK.size = 3 := rfl
    rw [hs] at q0 q1 q2
    exact ⟨k, x, m, a', c', rfl, by simpa using q0, by simpa [Nat.add_assoc] using q1, by simpa [Nat.add_assoc] using q2, hk, hm, bd64 w0, bd64 w1, fun y hy => bd8 ((kd_ints ⟨a', c', h2', h3⟩).2 y hy)⟩
theorem Ops.keep {w w' : World} {g off : Nat} {l : List (Int × Int × List Int)} (h : Ops w g off l) (k : Below w.heap.size w w') : Ops w' g off l := by
  intro i hi
  obtain ⟨kk, x, m, a, c, h0, h1, h2, h3, h4, h5⟩ := h i hi
  exact ⟨kk, x, m, a, c, h0, kc k h1, kc k h2, kc k h3, h4.keep k, h5⟩

/-- headers of texts, as a slice of slices holds them -/
def hdrE : Enc (Option Addr × Nat × Nat) where
  cells x := [.slice x.1 x.2.1 x.2.2]
  size := 1
  len _ := rfl
  one x u hu := by simp at hu; subst hu; rfl
def hd (x : Option Addr × Nat × Nat) : Value := .slice x.1 x.2.1 x.2.2
/-- the list that goes beside, whose blocks are none of R, and no text lies in the list's own block -/
def RefAt (B : Nat) (R : Nat → Prop) (z : World) (vw : Value) (L : List (List Int)) : Prop :=
  ∃ hs, hs.length = L.length ∧ Row hdrE 27 B z vw hs ∧ (∀ g, vw.ownBlock = some g → ¬ R g) ∧
    ∀ i, i < L.length → Rd (intE .u8) z (hd (hs.getD i (none, 0, 0))) (L.getD i []) ∧ (0 < (L.getD i []).length → ∀ g, (hd (hs.getD i (none, 0, 0))).ownBlock = some g → ¬ R g ∧ vw.ownBlock ≠ some g)
theorem rd_turned0 {S : Nat → Prop} {w w' : World} {v : Value} {l : List Int} (hr : Rd (intE .u8) w v l) (h : Turned S w w') (hs : 0 < l.length → ∀ g, v.ownBlock = some g → ¬ S g) : Rd (intE .u8) w' v l := by
  by_cases hl : 0 < l.length
  · exact hr.turned h (hs hl)
  · obtain ⟨a, c, hv, h1, h2, h3⟩ := hr
    exact ⟨a, c, hv, h1, h2, fun h => absurd h hl⟩
theorem RefAt.step {B : Nat} {R R' W : Nat → Prop} {z z' : World} {vw : Value} {L : List (List Int)} (h : RefAt B R z vw L) (t : Turned W z z') (hw : ∀ j, W j → R j) (hr : ∀ j, R' j → R j ∨ z.heap.size ≤ j) : RefAt B R' z' vw L := by
  obtain ⟨hs, hl, hrow, hn, ht⟩ := h
  refine ⟨hs, hl, hrow.turned t (fun g hg hj => hn g hg (hw g hj)), fun g hg hj => ?_, fun i hi => ?_⟩
  · have := (hrow.block g hg).2
    rcases hr g hj with h | h
    · exact hn g hg h
    · omega
  · obtain ⟨h1, h2⟩ := ht i hi
    refine ⟨rd_turned0 h1 t (fun hp g hg hj => (h2 hp g hg).1 (hw g hj)), fun hp g hg => ⟨fun hj => ?_, (h2 hp g hg).2⟩⟩
    have := h1.old hp hg
    rcases hr g hj with h | h
    · exact (h2 hp g hg).1 h
    · omega
theorem RefAt.keep {B : Nat} {R : Nat → Prop} {z z' : World} {vw : Value} {L : List (List Int)} (h : RefAt B R z vw L) (k : Below z.heap.size z z') : RefAt B R z' vw L := h.step (W := fun _ => False) (Turned.of_below k) (fun _ h => h.elim) (fun _ h => .inl h)
/-- the pool holds L', the list beside it L -/
def Ps (B : Nat) (z : World) (b : Nat) (L' : List (List Int)) (vw : Value) (L : List (List Int)) : Prop := ∃ W R, PoAt z b W R L' ∧ (∀ j, R j → B ≤ j) ∧ RefAt B R z vw L
theorem Ps.keep {B : Nat} {z z' : World} {b : Nat} {L' L : List (List Int)} {vw : Value} (h : Ps B z b L' vw L) (k : Below z.heap.size z z') : Ps B z' b L' vw L := by
  obtain ⟨W, R, h, hr, hf⟩ := h
  exact ⟨W, R, h.keep k, hr, hf.keep k⟩
theorem Ps.step {B : Nat} {z z' : World} {b : Nat} {W R : Nat → Prop} {L' L'' L : List (List Int)} {vw : Value} (h : PoAt z b W R L') (hr : ∀ j, R j → B ≤ j) (hf : RefAt B R z vw L) (hB : B ≤ z.heap.size) (k : PStep W R z z' b L'') : Ps B z' b L'' vw L ∧ Below B z z' := by
  obtain ⟨W', R', h', t, hw, hr'⟩ := k
  exact ⟨⟨W', R', h', fun j hj => by rcases hr' j hj with h1 | h1; exact hr j h1; omega, hf.step t (fun j hj => h.sub hj) hr'⟩, t.below hB (fun j hj => hr j (h.sub hj))⟩
theorem ps_push (B b : Nat) (L' L : List (List Int)) (vw v : Value) (l : List Int) (z : World) (h : Ps B z b L' vw L) (hB : B ≤ z.heap.size) (hr : Rd (intE .u8) z v l) (hl : l.length ≤ pmax) (hx : ∀ x ∈ l, 0 ≤ x ∧ x ≤ 255) (hn : L'.length < 5000) :
    Calls Try.prog 14 #[.pointer (some ⟨b, 0, none⟩), v] z fun e w' => e = .returned (.int .i64 0) ∧ Ps B w' b (L' ++ [l]) vw L ∧ Below B z w' := by
  obtain ⟨W, R, h, hR, hf⟩ := h
  exact (ppush_ok b W R L' v l z h hr hl hx hn).mono fun e w' ⟨he, hs⟩ => ⟨he, Ps.step h hR hf hB hs⟩
theorem ps_take (B b : Nat) (L' L : List (List Int)) (vw : Value) (i : Nat) (z : World) (h : Ps B z b L' vw L) (hB : B ≤ z.heap.size) (hi : i < L'.length) :
    Calls Try.prog 9 #[.pointer (some ⟨b, 0, none⟩), .int .i64 i] z fun e w' => ∃ v, e = .returned (.tuple #[v, .int .i64 0]) ∧ Rd (intE .u8) w' v (L'.getD i []) ∧ Ps B w' b (L'.eraseIdx i) vw L ∧ Below B z w' := by
  obtain ⟨W, R, h, hR, hf⟩ := h
  exact (ptake_ok b W R L' i z h hi).mono fun e w' ⟨v, he, hv, hs⟩ => ⟨v, he, hv, Ps.step h hR hf hB hs⟩
theorem ps_double (B b : Nat) (L' L : List (List Int)) (vw : Value) (i : Nat) (z : World) (h : Ps B z b L' vw L) (hB : B ≤ z.heap.size) (hi : i < L'.length) (hn : L'.length < 5000) :
    Calls Try.prog 11 #[.pointer (some ⟨b, 0, none⟩), .int .i64 i] z fun e w' => e = .returned (.int .i64 0) ∧ Ps B w' b (L' ++ [L'.getD i []]) vw L ∧ Below B z w' := by
  obtain ⟨W, R, h, hR, hf⟩ := h
  exact (pdouble_ok b W R L' i z h hi hn).mono fun e w' ⟨he, hs⟩ => ⟨he, Ps.step h hR hf hB hs⟩
theorem ps_peek (B b : Nat) (L' L : List (List Int)) (vw : Value) (i : Nat) (z : World) (h : Ps B z b L' vw L) (hi : i < L'.length) :
    Calls Try.prog 12 #[.pointer (some ⟨b, 0, none⟩), .int .i64 i] z fun e w' => ∃ v, e = .returned (.tuple #[v, .bool true]) ∧ Own8 z.heap.size w' v (L'.getD i []) ∧ Below z.heap.size z w' := by
  obtain ⟨W, R, h, hR, hf⟩ := h
  exact ppeek_ok b W R L' i z h hi
theorem ps_take_none (B b : Nat) (L' L : List (List Int)) (vw : Value) (i : Int) (z : World) (h : Ps B z b L' vw L) (hb : -9223372036854775808 ≤ i ∧ i ≤ 9223372036854775807) (hi : i < 0 ∨ (L'.length : Int) ≤ i) :
    Calls Try.prog 9 #[.pointer (some ⟨b, 0, none⟩), .int .i64 i] z fun e w' => ∃ a c, e = .returned (.tuple #[.slice a 0 c, .int .i64 6]) ∧ c ≤ maxLen ∧ Below z.heap.size z w' := by
  obtain ⟨W, R, h, hR, hf⟩ := h
  exact ptake_none b W R L' i z h hb hi
theorem ps_double_none (B b : Nat) (L' L : List (List Int)) (vw : Value) (i : Int) (z : World) (h : Ps B z b L' vw L) (hb : -9223372036854775808 ≤ i ∧ i ≤ 9223372036854775807) (hi : i < 0 ∨ (L'.length : Int) ≤ i) :
    Calls Try.prog 11 #[.pointer (some ⟨b, 0, none⟩), .int .i64 i] z fun e w' => e = .returned (.int .i64 6) ∧ Below z.heap.size z w' := by
  obtain ⟨W, R, h, hR, hf⟩ := h
  exact pdouble_none b W R L' i z h hb hi
theorem ps_peek_none (B b : Nat) (L' L : List (List Int)) (vw : Value) (i : Int) (z : World) (h : Ps B z b L' vw L) (hb : -9223372036854775808 ≤ i ∧ i ≤ 9223372036854775807) (hi : i < 0 ∨ (L'.length : Int) ≤ i) :
    Calls Try.prog 12 #[.pointer (some ⟨b, 0, none⟩), .int .i64 i] z fun e w' => ∃ a c, e = .returned (.tuple #[.slice a 0 c, .bool false]) ∧ Below z.heap.size z w' := by
  obtain ⟨W, R, h, hR, hf⟩ := h
  exact (ppeek_none b W R L' i z h hb hi).mono fun e w' ⟨he, hk⟩ => ⟨_, _, he, hk⟩
theorem ps_len (B b : Nat) (L' L : List (List Int)) (vw : Value) (z : World) (h : Ps B z b L' vw L) :
    Calls Try.prog 17 #[.pointer (some ⟨b, 0, none⟩)] z fun e w' => e = .returned (.int .i64 L'.length) ∧ Below z.heap.size z w' := by
  obtain ⟨W, R, h, hR, hf⟩ := h
  exact plen_any b W R L' z h
/-- two pools, the second of which the first one's writing leaves be -/
def Fk (B : Nat) (z : World) (b b' : Nat) (L' : List (List Int)) (vw : Value) (L : List (List Int)) : Prop :=
  ∃ W R W' R', PoAt z b W R L' ∧ (∀ j, R j → B ≤ j) ∧ PoAt z b' W' R' L' ∧ (∀ j, R' j → B ≤ j ∧ ¬ W j) ∧ RefAt B (fun j => R j ∨ R' j) z vw L
theorem Fk.keep {B : Nat} {z z' : World} {b b' : Nat} {L' L : List (List Int)} {vw : Value} (h : Fk B z b b' L' vw L) (k : Below z.heap.size z z') : Fk B z' b b' L' vw L := by
  obtain ⟨W, R, W', R', h1, h2, h3, h4, h5⟩ := h
  exact ⟨W, R, W', R', h1.keep k, h2, h3.keep k, h4, h5.keep k⟩
theorem ps_fork (B b : Nat) (L' L : List (List Int)) (vw : Value) (z : World) (h : Ps B z b L' vw L) (hB : B ≤ z.heap.size) :
    Calls Try.prog 13 #[.pointer (some ⟨b, 0, none⟩)] z fun e w' => ∃ b', e = .returned (.pointer (some ⟨b', 0, none⟩)) ∧ Fk B w' b b' L' vw L ∧ Below z.heap.size z w' := by
  obtain ⟨W, R, h, hR, hf⟩ := h
  refine (pfork_any b W R L' z h).mono fun e w' ⟨b', W', R', he, h', hW', hR', hk⟩ => ⟨b', he, ⟨W, R, W', R', h.keep hk, hR, h', fun j hj => ?_, ?_⟩, hk⟩
  · rcases hR' j hj with ⟨h1, h2⟩ | h1
    · exact ⟨hR j h1, h2⟩
    · exact ⟨by omega, fun hw => by have := h.lt (h.sub hw); omega⟩
  · refine hf.step (W := fun _ => False) (Turned.of_below hk) (fun _ h => h.elim) (fun j hj => ?_)
    rcases hj with h1 | h1
    · exact .inl h1
    · rcases hR' j h1 with ⟨h2, _⟩ | h2
      · exact .inl h2
      · exact .inr h2
/-- the first one is pushed into; from now on the second one is the pool -/
theorem fk_push (B b b' : Nat) (L' L : List (List Int)) (vw v : Value) (l : List Int) (z : World) (h : Fk B z b b' L' vw L) (hB : B ≤ z.heap.size) (hr : Rd (intE .u8) z v l) (hl : l.length ≤ pmax) (hx : ∀ x ∈ l, 0 ≤ x ∧ x ≤ 255) (hn : L'.length < 5000) :
    Calls Try.prog 14 #[.pointer (some ⟨b, 0, none⟩), v] z fun e w' => e = .returned (.int .i64 0) ∧ Ps B w' b' L' vw L ∧ Below B z w' := by
  obtain ⟨W, R, W', R', h1, h2, h3, h4, h5⟩ := h
  refine (ppush_ok b W R L' v l z h1 hr hl hx hn).mono fun e w' ⟨he, W2, R2, hp2, t, _, _⟩ => ⟨he, ⟨W', R', h3.turned t (fun j hj => (h4 j hj).2), fun j hj => (h4 j hj).1, ?_⟩, t.below hB (fun j hj => h2 j (h1.sub hj))⟩
  exact h5.step t (fun j hj => .inl (h1.sub hj)) (fun j hj => .inl (.inr hj))
/-- a header is put behind the list beside -/
theorem Ps.grow {B b : Nat} {z z' : World} {W R : Nat → Prop} {L' L : List (List Int)} {hs : List (Option Addr × Nat × Nat)} {x : Option Addr × Nat × Nat} {q : List Int} {vw v' : Value} (h : PoAt z b W R L') (hR : ∀ j, R j → B ≤ j)
    (hl : hs.length = L.length) (hrow : Row hdrE 27 B z vw hs) (hn : ∀ g, vw.ownBlock = some g → ¬ R g)
    (ht : ∀ i, i < L.length → Rd (intE .u8) z (hd (hs.getD i (none, 0, 0))) (L.getD i []) ∧ (0 < (L.getD i []).length → ∀ g, (hd (hs.getD i (none, 0, 0))).ownBlock = some g → ¬ R g ∧ vw.ownBlock ≠ some g))
    (hx : Rd (intE .u8) z (hd x) q) (hxn : 0 < q.length → ∀ g, (hd x).ownBlock = some g → ¬ R g ∧ vw.ownBlock ≠ some g)
    (hrow' : Row hdrE 27 B z' v' (hs ++ [x])) (hg : z.grownBy z' vw.ownBlock) (hw : v'.ownBlock = vw.ownBlock ∨ v'.ownBlock = some z.heap.size) : Ps B z' b L' v' (L ++ [q]) := by
  have t : Turned (fun j => vw.ownBlock = some j) z z' := Turned.of_grown hg (fun k h => h)
  have one : ∀ (y : Option Addr × Nat × Nat) (m : List Int), Rd (intE .u8) z (hd y) m → (0 < m.length → ∀ g, (hd y).ownBlock = some g → ¬ R g ∧ vw.ownBlock ≠ some g) →
      Rd (intE .u8) z' (hd y) m ∧ (0 < m.length → ∀ g, (hd y).ownBlock = some g → ¬ R g ∧ v'.ownBlock ≠ some g) := by
    intro y m h1 h2
    refine ⟨rd_turned0 h1 t (fun hp g hg e => (h2 hp g hg).2 e), fun hp g hg => ⟨(h2 hp g hg).1, fun e => ?_⟩⟩
    rcases grown_where hw e with h3 | h3
    · exact (h2 hp g hg).2 h3
    · have := h1.old hp hg
      omega
  refine ⟨W, R, h.turned t (fun j hj e => hn j e hj), hR, hs ++ [x], by simp [hl], hrow', fun g hg hj => ?_, fun i hi => ?_⟩
  · rcases grown_where hw hg with h3 | h3
    · exact hn g h3 hj
    · have := h.lt hj
      omega
  · rcases Nat.lt_or_ge i L.length with h1 | h1
    · have e1 : (hs ++ [x]).getD i (none, 0, 0) = hs.getD i (none, 0, 0) := by simp only [List.getD]; rw [List.getElem?_append_left (by omega)]
      have e2 : (L ++ [q]).getD i [] = L.getD i [] := by simp only [List.getD]; rw [List.getElem?_append_left (by omega)]
      rw [e1, e2]
      exact one _ _ (ht i h1).1 (ht i h1).2
    · have hi' : i = L.length := by simp at hi; omega
      have e1 : (hs ++ [x]).getD i (none, 0, 0) = x := by simp only [List.getD]; rw [List.getElem?_append_right (by omega), hi', hl, Nat.sub_self]; rfl
      have e2 : (L ++ [q]).getD i [] = q := by simp only [List.getD]; rw [List.getElem?_append_right (by omega), hi', Nat.sub_self]; rfl
      rw [e1, e2]
      exact one _ _ hx hxn
/-- the list beside is laid anew without one of its headers -/
theorem Ps.laid {B b : Nat} {z z' : World} {W R : Nat → Prop} {L' L : List (List Int)} {hs : List (Option Addr × Nat × Nat)} {k : Nat} {vw v' : Value} (h : PoAt z b W R L') (hR : ∀ j, R j → B ≤ j) (hB : B ≤ z.heap.size)
    (hl : hs.length = L.length) (hk : k < L.length)
    (ht : ∀ i, i < L.length → Rd (intE .u8) z (hd (hs.getD i (none, 0, 0))) (L.getD i []) ∧ (0 < (L.getD i []).length → ∀ g, (hd (hs.getD i (none, 0, 0))).ownBlock = some g → ¬ R g ∧ vw.ownBlock ≠ some g))
    (hrow' : Row hdrE 27 z.heap.size z' v' (hs.take k ++ hs.drop (k + 1))) (hb : Below z.heap.size z z') : Ps B z' b L' v' (L.eraseIdx k) := by
  rw [← List.eraseIdx_eq_take_drop_succ] at hrow'
  have hnew : ∀ g, v'.ownBlock = some g → z.heap.size ≤ g := fun g hg => (hrow'.block g hg).1
  refine ⟨W, R, h.keep hb, hR, hs.eraseIdx k, by rw [List.length_eraseIdx_of_lt (by omega), List.length_eraseIdx_of_lt hk, hl], hrow'.mono hB, fun g hg hj => ?_, fun i hi => ?_⟩
  · have := hnew g hg
    have := h.lt hj
    omega
  · rw [List.length_eraseIdx_of_lt hk] at hi
    have key : ∀ j, j < L.length → Rd (intE .u8) z' (hd (hs.getD j (none, 0, 0))) (L.getD j []) ∧ (0 < (L.getD j []).length → ∀ g, (hd (hs.getD j (none, 0, 0))).ownBlock = some g → ¬ R g ∧ v'.ownBlock ≠ some g) := by
      intro j hj
      refine ⟨(ht j hj).1.keep hb, fun hp g hg => ⟨((ht j hj).2 hp g hg).1, fun e => ?_⟩⟩
      have h1 := (ht j hj).1.old hp hg
      have h2 := hnew g e
      omega
    by_cases hik : i < k
    · have e1 : (hs.eraseIdx k).getD i (none, 0, 0) = hs.getD i (none, 0, 0) := by simp only [List.getD]; rw [List.getElem?_eraseIdx_of_lt hik]
      have e2 : (L.eraseIdx k).getD i [] = L.getD i [] := by simp only [List.getD]; rw [List.getElem?_eraseIdx_of_lt hik]
      rw [e1, e2]
      exact key i (by omega)
    · have e1 : (hs.eraseIdx k).getD i (none, 0, 0) = hs.getD (i + 1) (none, 0, 0) := by simp only [List.getD]; rw [List.getElem?_eraseIdx_of_ge (by omega)]
      have e2 : (L.eraseIdx k).getD i [] = L.getD (i + 1) [] := by simp only [List.getD]; rw [List.getElem?_eraseIdx_of_ge (by omega)]
      rw [e1, e2]
      exact key (i + 1) (by omega)
end Go.Proofs.Ytchofcciddbmoaa.poolPlays
