/- Bytes read as numbers, one behind the other: the reader of petasosref03 as a place that moves on; the document's readRecord. -/
import Derived.Test.YthhelhhlofdehaaMsgRec
import Derived.Test.YthhelhhlofdehaaRefOctet
import Derived.Test.YthhelhhlofdehaaMem
import Derived.Laws.Tables
import Derived.Deep.DeepCutAuto
import Derived.Deep.CutBlock
set_option maxRecDepth 4000
namespace Go.Proofs.Ythhelhhlofdehaa
open Go.RowKit Mem
set_option linter.unusedSimpArgs false
set_option linter.unusedVariables false
attribute [local irreducible] Go.Calls

/-- the number that n bytes from place q on are; 0, if there are not so many -/
def gq (l : List Int) (q n : Nat) : Int := if q + n ≤ l.length then num ((l.drop q).take n) else 0
theorem gq_bd {l : List Int} (h : Byt l) (q n : Nat) : 0 ≤ gq l q n ∧ gq l q n < 256 ^ n := by
  unfold gq
  split
  · exact num_lt ((h.drop q).take n) (by simp; omega)
  · have : (0 : Int) < 256 ^ n := Int.pow_pos (by decide)
    omega
theorem gq1 {l : List Int} (h : Byt l) (q : Nat) : 0 ≤ gq l q 1 ∧ gq l q 1 ≤ 255 := by have := gq_bd h q 1; omega
theorem gq2 {l : List Int} (h : Byt l) (q : Nat) : 0 ≤ gq l q 2 ∧ gq l q 2 ≤ 65535 := by have := gq_bd h q 2; omega
theorem gq4 {l : List Int} (h : Byt l) (q : Nat) : 0 ≤ gq l q 4 ∧ gq l q 4 ≤ 4294967295 := by have := gq_bd h q 4; omega
theorem gq8 {l : List Int} (h : Byt l) (q : Nat) : 0 ≤ gq l q 8 ∧ gq l q 8 ≤ 18446744073709551615 := by have := gq_bd h q 8; omega
/-- a reader of l that was asked for q bytes -/
def RdrQ (w : World) (b : Nat) (v : Value) (l : List Int) (q : Nat) : Prop := ∃ p e, RdrAt w b v l p e ∧ ((q ≤ l.length ∧ p = q ∧ e = 0) ∨ (l.length < q ∧ e = 3))
theorem RdrQ.keep {w w' : World} {b : Nat} {v : Value} {l : List Int} {q : Nat} (h : RdrQ w b v l q) (k : Below w.heap.size w w') : RdrQ w' b v l q := by
  obtain ⟨p, e, h1, h2⟩ := h
  exact ⟨p, e, h1.keep k, h2⟩
theorem RdrQ.lt {w : World} {b : Nat} {v : Value} {l : List Int} {q : Nat} (h : RdrQ w b v l q) : b < w.heap.size := by
  obtain ⟨p, e, h1, h2⟩ := h
  exact h1.1.lt
theorem RdrQ.blk {w : World} {b : Nat} {v : Value} {l : List Int} {q : Nat} (h : RdrQ w b v l q) : ∃ cs, Blk w b 80 cs := by
  obtain ⟨p, e, h1, h2⟩ := h
  exact ⟨_, h1.1⟩
/-- what is wrong: nothing, if there were so many -/
theorem RdrQ.err {w : World} {b : Nat} {v : Value} {l : List Int} {q : Nat} (h : RdrQ w b v l q) : w.cell? ⟨b, 2, none⟩ = some (.int .i64 (if q ≤ l.length then 0 else 3)) := by
  obtain ⟨p, e, h1, h2⟩ := h
  have h3 : w.cell? ⟨b, 2, none⟩ = some (.int .i64 e) := h1.1.cell 2
  rw [h3]
  rcases h2 with ⟨h4, h5, h6⟩ | ⟨h4, h6⟩
  · rw [if_pos h4, h6]
  · rw [if_neg (by omega), h6]
theorem RdrQ.rd {w : World} {b : Nat} {v : Value} {l : List Int} {q : Nat} (h : RdrQ w b v l q) : Rd (intE .u8) w v l := by
  obtain ⟨p, e, h1, h2⟩ := h
  exact h1.2.1
theorem RdrQ.onward {w : World} {b : Nat} {v : Value} {l : List Int} {q q' : Nat} (h : RdrQ w b v l q) (hq : l.length < q) (hq' : l.length < q') : RdrQ w b v l q' := by
  obtain ⟨p, e, h1, h2⟩ := h
  rcases h2 with ⟨h4, h5, h6⟩ | ⟨h4, h6⟩
  · omega
  · exact ⟨p, e, h1, .inr ⟨hq', h6⟩⟩
theorem RdrQ.start {w : World} {b : Nat} {v : Value} {l : List Int} (hb : Blk w b 80 #[v, .int .i64 0, .int .i64 0]) (h : Rd (intE .u8) w v l) (hne : 0 < l.length → v.ownBlock ≠ some b) : RdrQ w b v l 0 :=
  ⟨0, 0, ⟨hb, h, Nat.zero_le _, hne⟩, .inl ⟨Nat.zero_le _, rfl, rfl⟩⟩
def GetQ (b : Nat) (v : Value) (l : List Int) (q n : Nat) (w : World) (e : Ending) (w' : World) : Prop :=
  e = .returned (.int .u64 (gq l q n)) ∧ RdrQ w' b v l (q + n) ∧ Only b w w'
theorem rgetq (b : Nat) (v : Value) (l : List Int) (q n : Nat) (hs : szN (n : Int) = n) (w : World) (h : RdrQ w b v l q) (hl : l.length ≤ 1000000) (hb : Byt l) :
    Calls Try.prog 38 #[.pointer (some ⟨b, 0, none⟩), .int .i64 n] w (GetQ b v l q n w) := by
  obtain ⟨p, e, h1, h2⟩ := h
  have he : e = 0 ∨ e = 3 := by
    rcases h2 with h2 | h2
    · exact .inl h2.2.2
    · exact .inr h2.2
  refine (rget_any b v l p n e he w h1 hl hb).mono ?_
  rintro e' w' ⟨rfl, h3, h4⟩
  unfold gt at h3 ⊢
  rw [hs] at h3 ⊢
  rcases h2 with ⟨hq, rfl, rfl⟩ | ⟨hq, rfl⟩
  · unfold tk at h3 ⊢
    rw [if_pos rfl] at h3 ⊢
    unfold GetQ gq
    by_cases hn : l.length - p < n
    · rw [if_pos hn] at h3 ⊢
      rw [if_neg (show ¬ p + n ≤ l.length by omega)]
      exact ⟨rfl, ⟨p, 3, h3, .inr ⟨by omega, rfl⟩⟩, h4⟩
    · rw [if_neg hn] at h3 ⊢
      rw [if_pos (show p + n ≤ l.length by omega)]
      exact ⟨rfl, ⟨p + n, 0, h3, .inl ⟨by omega, rfl, rfl⟩⟩, h4⟩
  · unfold tk at h3 ⊢
    rw [if_neg (by decide)] at h3 ⊢
    unfold GetQ gq
    rw [if_neg (show ¬ q + n ≤ l.length by omega)]
    exact ⟨rfl, ⟨p, 3, h3, .inr ⟨by omega, rfl⟩⟩, h4⟩
/-- so many numbers of four bytes -/
def valQ (l : List Int) (q a : Nat) : List Int := (List.range a).map fun i => gq l (q + 4 * i) 4
theorem valQ_len (l : List Int) (q a : Nat) : (valQ l q a).length = a := by simp [valQ]
theorem valQ_succ (l : List Int) (q a : Nat) : valQ l q (a + 1) = valQ l q a ++ [gq l (q + 4 * a) 4] := by simp [valQ, List.range_succ]
theorem valQ_bd {l : List Int} (h : Byt l) (q a : Nat) : ∀ x ∈ valQ l q a, u32B x := by
  intro x hx
  simp only [valQ, List.mem_map] at hx
  obtain ⟨i, _, rfl⟩ := hx
  exact gq4 h _
/-- a record, read from place q on -/
def recQ (l : List Int) (q a : Nat) : Int × Int × List Int := (gq l q 8, gq l (q + 8) 8, valQ l (q + 16) a)
theorem recQ_bd {l : List Int} (h : Byt l) (q a : Nat) : recB (recQ l q a) := ⟨gq8 h _, gq8 h _, valQ_bd h _ _⟩
def ReadRPost (b : Nat) (v : Value) (l : List Int) (q a : Nat) (w : World) (e : Ending) (w' : World) : Prop :=
  ∃ x, e = .returned (.agg #[.int .u64 (gq l q 8), .int .u64 (gq l (q + 8) 8), x]) ∧ Row (intE .u32) 22 w.heap.size w' x (valQ l (q + 16) a) ∧ RdrQ w' b v l (q + 16 + 4 * a) ∧ Only b w w'

end Go.Proofs.Ythhelhhlofdehaa
