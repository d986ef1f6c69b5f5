/- Lists of entries in memory: what they read as, in which blocks they lie, what others turn leaves them be; lists of one's own. -/
import Derived.Test.YtgkmkpkbdmciiaaRecOpen
import Derived.Test.YtgkmkpkbdmciiaaMem
set_option maxRecDepth 4000
namespace Go.Proofs.Ytgkmkpkbdmciiaa.Mem
open Go Go.RowKit
set_option linter.unusedVariables false
theorem Rd.turned0 {α : Type} {E : Enc α} {S : Nat → Prop} {w w' : World} {v : Value} {l : List α} (hr : Rd E w v l) (h : Turned S w w') (hs : 0 < l.length → ∀ g, v.ownBlock = some g → ¬ S g) : Rd E w' v l := by
  by_cases hl : 0 < l.length
  · exact hr.turned h (hs hl)
  · obtain ⟨a, c, hv, h1, h2, h3⟩ := hr
    exact ⟨a, c, hv, h1, h2, fun h => absurd h hl⟩
theorem Rd.oldE {α : Type} {E : Enc α} {w : World} {v : Value} {l : List α} (h : Rd E w v l) (hE : 0 < E.size) (hl : 0 < l.length) {j : Nat} (hj : v.ownBlock = some j) : j < w.heap.size := by
  obtain ⟨a, c, hv, h1, h2, h3⟩ := h
  obtain ⟨g, off, ha, hc⟩ := h3 hl
  have hlen : 0 < (E.flat l).length := by rw [Enc.flat_len]; exact Nat.mul_pos hl hE
  have hcell := hc 0 _ (List.getElem?_eq_getElem hlen)
  have hlt : g < w.heap.size := World.block_lt_of_cell? w _ hcell
  rw [hv, ha] at hj
  have hj : some g = some j := hj
  injection hj with hj
  subst hj
  exact hlt
end Go.Proofs.Ytgkmkpkbdmciiaa.Mem
namespace Go.Proofs.Ytgkmkpkbdmciiaa
open Go.RowKit Mem
set_option linter.unusedSimpArgs false
set_option linter.unusedVariables false

/-- an entry: its value; id, version, values of its record; is it gone? -/
abbrev Ent := Int × (Int × Int × List Int) × Bool
def e0 : Ent := (0, (0, 0, []), false)
/-- its numbers' bounds -/
def entB (y : Ent) : Prop := (0 ≤ y.1 ∧ y.1 ≤ 4294967295) ∧ (0 ≤ y.2.1.1 ∧ y.2.1.1 ≤ 18446744073709551615) ∧ (0 ≤ y.2.1.2.1 ∧ y.2.1.2.1 ≤ 18446744073709551615) ∧ ∀ x ∈ y.2.1.2.2, 0 ≤ x ∧ x ≤ 4294967295
/-- its cells -/
def ecl (y : Ent) (v : Value) : List Value := [.int .u32 y.1, .int .u64 y.2.1.1, .int .u64 y.2.1.2.1, v, .bool y.2.2]
abbrev entsK : Kd (List Ent) := kSlice entryK
theorem opens_ents {H : Type} {enc : TypeId × Value → H} : Opens enc Try.prog 23 entsK := opens_slice Try.underlying23 (by kernel_rfl) (by decide) opens_entry
/-- an element that reads as an entry; its values lie in blocks of Q -/
def EntIn (Q : Nat → Prop) (w : World) (x : Raw 5) (y : Ent) : Prop := ∃ v, x.1 = ecl y v ∧ Rd (intE .u32) w v y.2.1.2.2 ∧ (0 < y.2.1.2.2.length → ∀ g, v.ownBlock = some g → Q g)
/-- a slice that reads as entries; all of it lies in blocks of Q -/
def EntsIn (Q : Nat → Prop) (w : World) (v : Value) (L : List Ent) : Prop :=
  ∃ hs : List (Raw 5), hs.length = L.length ∧ Rd (rawE 5) w v hs ∧ (0 < L.length → ∀ g, v.ownBlock = some g → Q g) ∧ ∀ (i : Nat) (x : Raw 5) (y : Ent), hs[i]? = some x → L[i]? = some y → EntIn Q w x y
/-- a list of one's own; its values lie in blocks of Q, none of which is its own -/
def EntsAt (B : Nat) (Q : Nat → Prop) (w : World) (v : Value) (L : List Ent) : Prop :=
  ∃ hs : List (Raw 5), hs.length = L.length ∧ Row (rawE 5) 47 B w v hs ∧ (∀ g, v.ownBlock = some g → ¬ Q g) ∧ ∀ (i : Nat) (x : Raw 5) (y : Ent), hs[i]? = some x → L[i]? = some y → EntIn Q w x y
theorem EntIn.turned {Q S : Nat → Prop} {w w' : World} {x : Raw 5} {y : Ent} (h : EntIn Q w x y) (t : Turned S w w') (hs : ∀ j, Q j → ¬ S j) : EntIn Q w' x y := by
  obtain ⟨v, h1, h2, h3⟩ := h
  exact ⟨v, h1, h2.turned0 t (fun hl g hg => hs g (h3 hl g hg)), h3⟩
theorem EntIn.mono {Q Q' : Nat → Prop} {w : World} {x : Raw 5} {y : Ent} (h : EntIn Q w x y) (hQ : ∀ j, j < w.heap.size → Q j → Q' j) : EntIn Q' w x y := by
  obtain ⟨v, h1, h2, h3⟩ := h
  exact ⟨v, h1, h2, fun hl g hg => hQ g (h2.oldE (by decide) hl hg) (h3 hl g hg)⟩
theorem EntsIn.turned {Q S : Nat → Prop} {w w' : World} {v : Value} {L : List Ent} (h : EntsIn Q w v L) (t : Turned S w w') (hs : ∀ j, Q j → ¬ S j) : EntsIn Q w' v L := by
  obtain ⟨hs', h1, h2, h3, h4⟩ := h
  exact ⟨hs', h1, h2.turned0 t (fun hl g hg => hs g (h3 (by omega) g hg)), h3, fun i x y hx hy => (h4 i x y hx hy).turned t hs⟩
theorem EntsIn.keep {Q : Nat → Prop} {w w' : World} {v : Value} {L : List Ent} (h : EntsIn Q w v L) (k : Below w.heap.size w w') : EntsIn Q w' v L := h.turned (S := fun _ => False) (Turned.of_below k) (fun _ _ h => h)
theorem EntsIn.mono {Q Q' : Nat → Prop} {w : World} {v : Value} {L : List Ent} (h : EntsIn Q w v L) (hQ : ∀ j, j < w.heap.size → Q j → Q' j) : EntsIn Q' w v L := by
  obtain ⟨hs, h1, h2, h3, h4⟩ := h
  exact ⟨hs, h1, h2, fun hl g hg => hQ g (h2.oldE (by decide) (by omega) hg) (h3 hl g hg), fun i x y hx hy => (h4 i x y hx hy).mono hQ⟩
theorem EntsAt.rd {B : Nat} {Q : Nat → Prop} {w : World} {v : Value} {L : List Ent} (h : EntsAt B Q w v L) : EntsIn (fun j => Q j ∨ v.ownBlock = some j) w v L := by
  obtain ⟨hs, h1, h2, h3, h4⟩ := h
  exact ⟨hs, h1, h2.rd, fun _ g hg => .inr hg, fun i x y hx hy => (h4 i x y hx hy).mono (fun _ _ h => .inl h)⟩
theorem EntsAt.nil (B : Nat) (Q : Nat → Prop) (w : World) : EntsAt B Q w (.slice none 0 0) [] := ⟨[], rfl, Row.nil, fun g hg => (nomatch hg), fun i x y hx _ => by simp at hx⟩
theorem EntsIn.nil (Q : Nat → Prop) (w : World) (a : Option Addr) (c : Nat) (hc : c ≤ maxLen) : EntsIn Q w (.slice a 0 c) [] := ⟨[], rfl, ⟨a, c, rfl, Nat.zero_le _, hc, fun h => absurd h (by simp)⟩, fun h => absurd h (by simp), fun i x y hx _ => by simp at hx⟩
theorem EntsAt.turned {B : Nat} {Q S : Nat → Prop} {w w' : World} {v : Value} {L : List Ent} (h : EntsAt B Q w v L) (t : Turned S w w') (hs : ∀ j, Q j → ¬ S j) (hv : ∀ g, v.ownBlock = some g → ¬ S g) : EntsAt B Q w' v L := by
  obtain ⟨hs', h1, h2, h3, h4⟩ := h
  exact ⟨hs', h1, h2.turned t hv, h3, fun i x y hx hy => (h4 i x y hx hy).turned t hs⟩
theorem EntsAt.keep {B : Nat} {Q : Nat → Prop} {w w' : World} {v : Value} {L : List Ent} (h : EntsAt B Q w v L) (k : Below w.heap.size w w') : EntsAt B Q w' v L := h.turned (S := fun _ => False) (Turned.of_below k) (fun _ _ h => h) (fun _ _ h => h)
/-- what a slice of that kind reads as -/
theorem kdOne_entry : KdOne entryK := one_pair (one_int .u32) (one_pair (one_pair (one_int .u64) (one_pair (one_int .u64) (one_slice (kInt .u32)))) one_bool)
theorem wf32 {x : Int} (h : 0 ≤ x ∧ x ≤ 4294967295) : (Lit.int .u32 x).wf = true := by simp [Lit.wf, IntKind.min, IntKind.max, IntKind.signed, IntKind.bits]; omega
theorem wf64u {x : Int} (h : 0 ≤ x ∧ x ≤ 18446744073709551615) : (Lit.int .u64 x).wf = true := by simp [Lit.wf, IntKind.min, IntKind.max, IntKind.signed, IntKind.bits]; omega
theorem ints_kd32 {w : World} {v : Value} {l : List Int} (h : Rd (intE .u32) w v l) (hb : ∀ x ∈ l, 0 ≤ x ∧ x ≤ 4294967295) : (kSlice (kInt .u32)).rd w [v] l := by
  obtain ⟨a, c, hv, h1, h2, h3⟩ := h
  subst hv
  refine ⟨a, c, rfl, h1, h2, fun hl => ?_⟩
  obtain ⟨g, off, ha, hc⟩ := h3 hl
  refine ⟨g, off, ha, fun i y hy => ⟨[.int .u32 y], fun j hj => ?_, rfl, wf32 (hb y (List.mem_of_getElem? hy))⟩⟩
  have hj0 : j = 0 := by have : (kInt .u32).size = 1 := rfl; omega
  subst hj0
  have hil : i < l.length := (List.getElem?_eq_some_iff.1 hy).1
  have hf := (intE .u32).flat_at (l := l) (i := i) (j := 0) hil (by decide)
  have hy2 : l[i] = y := by simpa [List.getElem?_eq_getElem hil] using hy
  rw [hy2] at hf
  exact hc _ _ hf
theorem ents_of_kd {w : World} {v : Value} {L : List Ent} (h : entsK.rd w [v] L) : EntsIn (fun j => j < w.heap.size) w v L ∧ ∀ y ∈ L, entB y := by
  obtain ⟨hs, h1, h2, h3⟩ := kd_raw kdOne_entry (by decide) h
  refine ⟨⟨hs, h1, h2, fun hl g hg => h2.oldE (by decide) (by omega) hg, fun i x y hx hy => ?_⟩, fun y hy => ?_⟩
  · obtain ⟨v', e1, _, _, _, e2, _⟩ := entry_cells (h3 i x y hx hy)
    exact ⟨v', e1, e2, fun hl g hg => e2.oldE (by decide) hl hg⟩
  · obtain ⟨i, hi, rfl⟩ := List.getElem_of_mem hy
    have hi2 : i < hs.length := by omega
    obtain ⟨v', e1, w1, w2, w3, e2, w4⟩ := entry_cells (h3 i _ _ (List.getElem?_eq_getElem hi2) (List.getElem?_eq_getElem hi))
    exact ⟨bd32 w1, bdu64 w2, bdu64 w3, fun x hx => bd32 (w4 x hx)⟩
theorem EntsIn.kd {Q : Nat → Prop} {w : World} {v : Value} {L : List Ent} (h : EntsIn Q w v L) (hb : ∀ y ∈ L, entB y) : entsK.rd w [v] L := by
  obtain ⟨hs, h1, h2, h3, h4⟩ := h
  refine raw_kd (A := entryK) h1 h2 (fun i x y hx hy => ?_)
  obtain ⟨v', e1, e2, _⟩ := h4 i x y hx hy
  obtain ⟨b1, b2, b3, b4⟩ := hb y (List.mem_of_getElem? hy)
  rw [e1]
  exact ⟨⟨rfl, wf32 b1⟩, ⟨⟨rfl, wf64u b2⟩, ⟨rfl, wf64u b3⟩, ints_kd32 e2 b4⟩, rfl⟩
/-- what is read, for a loop: its cells -/
theorem EntsIn.at {Q : Nat → Prop} {w : World} {v : Value} {L : List Ent} (h : EntsIn Q w v L) :
    ∃ a g off c, v = .slice a L.length c ∧ L.length ≤ c ∧ c ≤ maxLen ∧ (0 < L.length → a = some ⟨g, off, none⟩ ∧ Q g ∧ g < w.heap.size) ∧
      ∀ i, i < L.length → ∃ x, w.cell? ⟨g, off + i * 5, none⟩ = some (.int .u32 (L.getD i e0).1) ∧ w.cell? ⟨g, off + i * 5 + 1, none⟩ = some (.int .u64 (L.getD i e0).2.1.1) ∧ w.cell? ⟨g, off + i * 5 + 2, none⟩ = some (.int .u64 (L.getD i e0).2.1.2.1) ∧
        w.cell? ⟨g, off + i * 5 + 3, none⟩ = some x ∧ w.cell? ⟨g, off + i * 5 + 4, none⟩ = some (.bool (L.getD i e0).2.2) ∧ Rd (intE .u32) w x (L.getD i e0).2.1.2.2 ∧ (0 < (L.getD i e0).2.1.2.2.length → ∀ g, x.ownBlock = some g → Q g) := by
  obtain ⟨hs, h1, ⟨a, c, hv, hc1, hc2, h2⟩, h3, h4⟩ := h
  by_cases hl : 0 < L.length
  · obtain ⟨g, off, ha, hcell⟩ := h2 (by omega)
    have hR : Rd (rawE 5) w v hs := ⟨a, c, hv, hc1, hc2, h2⟩
    have hob : v.ownBlock = some g := by rw [hv, ha]; rfl
    refine ⟨a, g, off, c, by rw [hv, h1], by omega, hc2, fun _ => ⟨ha, h3 hl g hob, hR.oldE (by decide) (by omega) hob⟩, fun i hi => ?_⟩
    have hi2 : i < hs.length := by omega
    have hy : L[i]? = some (L.getD i e0) := by simp [List.getD, List.getElem?_eq_getElem hi]
    obtain ⟨x, e1, e2, e3⟩ := h4 i _ _ (List.getElem?_eq_getElem hi2) hy
    have hf : ∀ j, j < 5 → w.cell? ⟨g, off + (i * 5 + j), none⟩ = (ecl (L.getD i e0) x)[j]? := by
      intro j hj
      have hf := (rawE 5).flat_at (l := hs) (i := i) (j := j) hi2 hj
      have hsz : (rawE 5).size = 5 := rfl
      rw [hsz] at hf
      have he : (rawE 5).cells hs[i] = ecl (L.getD i e0) x := e1
      rw [he] at hf
      have hlen : (ecl (L.getD i e0) x).length = 5 := rfl
      rw [List.getElem?_eq_getElem (by omega)]
      exact hcell _ _ (by rw [hf, List.getElem?_eq_getElem (by omega)])
    refine ⟨x, hf 0 (by omega), ?_, ?_, ?_, ?_, e2, e3⟩
    · rw [Nat.add_assoc]; exact hf 1 (by omega)
    · rw [Nat.add_assoc]; exact hf 2 (by omega)
    · rw [Nat.add_assoc]; exact hf 3 (by omega)
    · rw [Nat.add_assoc]; exact hf 4 (by omega)
  · exact ⟨a, 0, 0, c, by rw [hv, h1], by omega, hc2, fun h => absurd h hl, fun i hi => absurd hi (by omega)⟩
/-- the cells of a list, element by element -/
theorem ents_cells {Q : Nat → Prop} {w : World} {v : Value} {L : List Ent} {hs : List (Raw 5)} {a : Option Addr} {n c g off : Nat} (h1 : hs.length = L.length) (h2 : Rd (rawE 5) w v hs) (h4 : ∀ (i : Nat) (x : Raw 5) (y : Ent), hs[i]? = some x → L[i]? = some y → EntIn Q w x y)
    (hv : v = .slice a n c) (ha : a = some ⟨g, off, none⟩) {i : Nat} (hi : i < L.length) :
    ∃ x, w.cell? ⟨g, off + i * 5, none⟩ = some (.int .u32 (L.getD i e0).1) ∧ w.cell? ⟨g, off + i * 5 + 1, none⟩ = some (.int .u64 (L.getD i e0).2.1.1) ∧ w.cell? ⟨g, off + i * 5 + 2, none⟩ = some (.int .u64 (L.getD i e0).2.1.2.1) ∧
        w.cell? ⟨g, off + i * 5 + 3, none⟩ = some x ∧ w.cell? ⟨g, off + i * 5 + 4, none⟩ = some (.bool (L.getD i e0).2.2) ∧ Rd (intE .u32) w x (L.getD i e0).2.1.2.2 ∧ (0 < (L.getD i e0).2.1.2.2.length → ∀ g, x.ownBlock = some g → Q g) := by
  obtain ⟨a', c', hv', _, _, h2⟩ := h2
  obtain ⟨g', off', ha', hcell⟩ := h2 (by omega)
  have e1 : a' = a := by rw [hv] at hv'; injection hv' with e _ _; exact e.symm
  rw [e1, ha] at ha'
  injection ha' with ha'
  injection ha' with e2 e3
  subst e2 e3
  have hi2 : i < hs.length := by omega
  have hy : L[i]? = some (L.getD i e0) := by simp [List.getD, List.getElem?_eq_getElem hi]
  obtain ⟨x, e1, e2, e3⟩ := h4 i _ _ (List.getElem?_eq_getElem hi2) hy
  have hf : ∀ j, j < 5 → w.cell? ⟨g, off + (i * 5 + j), none⟩ = (ecl (L.getD i e0) x)[j]? := by
    intro j hj
    have hf := (rawE 5).flat_at (l := hs) (i := i) (j := j) hi2 hj
    have hsz : (rawE 5).size = 5 := rfl
    rw [hsz] at hf
    have he : (rawE 5).cells hs[i] = ecl (L.getD i e0) x := e1
    rw [he] at hf
    have hlen : (ecl (L.getD i e0) x).length = 5 := rfl
    rw [List.getElem?_eq_getElem (by omega)]
    exact hcell _ _ (by rw [hf, List.getElem?_eq_getElem (by omega)])
  refine ⟨x, hf 0 (by omega), ?_, ?_, ?_, ?_, e2, e3⟩
  · rw [Nat.add_assoc]; exact hf 1 (by omega)
  · rw [Nat.add_assoc]; exact hf 2 (by omega)
  · rw [Nat.add_assoc]; exact hf 3 (by omega)
  · rw [Nat.add_assoc]; exact hf 4 (by omega)
/-- one entry more, behind -/
def rawEnt (y : Ent) (v : Value) (hv : v.oneCell' = true) : Raw 5 := ⟨ecl y v, rfl, by intro u hu; simp [ecl] at hu; rcases hu with rfl | rfl | rfl | rfl | rfl <;> first | rfl | exact hv⟩
theorem entElem : Elem Try.prog 23 47 5 56 := elem_of (z := .agg #[.int .u32 0, .int .u64 0, .int .u64 0, .slice none 0 0, .bool false]) Try.underlying23 (by kernel_rfl) rfl
theorem ent_info' : (Try.prog.info? 47).map (·.size) = some 5 := by kernel_rfl
theorem EntsAt.snoc {B : Nat} {Q : Nat → Prop} {w : World} {v : Value} {L : List Ent} {hs : List (Raw 5)} {x : Raw 5} {y : Ent} (h1 : hs.length = L.length) (hrow : Row (rawE 5) 47 B w v (hs ++ [x])) (hv : ∀ g, v.ownBlock = some g → ¬ Q g)
    (h4 : ∀ (i : Nat) (x : Raw 5) (y : Ent), hs[i]? = some x → L[i]? = some y → EntIn Q w x y) (hx : EntIn Q w x y) : EntsAt B Q w v (L ++ [y]) := by
  refine ⟨hs ++ [x], by simp [h1], hrow, hv, fun i x' y' hx' hy' => ?_⟩
  by_cases hi : i < hs.length
  · rw [List.getElem?_append_left hi] at hx'
    rw [List.getElem?_append_left (by omega)] at hy'
    exact h4 i x' y' hx' hy'
  · rw [List.getElem?_append_right (by omega)] at hx'
    rw [List.getElem?_append_right (by omega), ← h1] at hy'
    by_cases hi2 : i - hs.length = 0
    · rw [hi2] at hx' hy'
      simp only [List.getElem?_cons_zero, Option.some.injEq] at hx' hy'
      subst hx' hy'
      exact hx
    · rw [List.getElem?_eq_none (by simp; omega)] at hx'
      cases hx'
theorem EntsIn.under {Q : Nat → Prop} {B : Nat} {w w' : World} {v : Value} {L : List Ent} (h : EntsIn Q w v L) (hQ : ∀ j, Q j → j < B) (k : Below B w w') : EntsIn Q w' v L :=
  h.turned (S := fun j => B ≤ j) ⟨k.os, k.tape, k.output, k.size, fun j _ hs => k.block j (Nat.lt_of_not_le hs)⟩ (fun j hj hb => absurd (hQ j hj) (by omega))
theorem EntsIn.left {N Q : Nat → Prop} {w w' : World} {v : Value} {l : List Ent} (h : EntsIn Q w v l) (t : Turned (fun j => ¬ N j) w w') (hQ : ∀ j, Q j → N j) : EntsIn Q w' v l := h.turned t (fun j hj hn => hn (hQ j hj))
theorem Turned.left {N : Nat → Prop} {w w' : World} {B : Nat} (t : Turned (fun j => ¬ N j) w w') (hB : B ≤ w.heap.size) (hN : ∀ j, j < B → N j) : Below B w w' := t.below hB (fun k hk => by
  rcases Nat.lt_or_ge k B with h | h
  · exact absurd (hN k h) hk
  · exact h)
theorem Blk.left {N : Nat → Prop} {w w' : World} {g : Nat} {ty : TypeId} {cs : Array Value} (h : Blk w g ty cs) (t : Turned (fun j => ¬ N j) w w') (hg : N g) : Blk w' g ty cs := h.turned t (fun hn => hn hg)
end Go.Proofs.Ytgkmkpkbdmciiaa
