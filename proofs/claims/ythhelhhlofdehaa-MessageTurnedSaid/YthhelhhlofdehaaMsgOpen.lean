/- An argument that is a message. -/
import Derived.Test.YthhelhhlofdehaaMsg
import Derived.Test.YthhelhhlofdehaaMem
set_option maxRecDepth 4000
namespace Go.Proofs.Ythhelhhlofdehaa
open Go.RowKit Mem
set_option linter.unusedVariables false

def spanK : Kd (Int × Int) := kPair (kInt .u32) (kInt .u32)
abbrev boxK : Kd (List (Int × Int × Int)) := kSlice rangeK
def messageK : Kd (Int × Int × Int × Int × Int × Int × Int × Int × Int × (Int × (Int × Int × List Int) × Bool) × (Int × Int) × List (Int × Int × Int) × List (Int × Int × List Int)) :=
  kPair (kInt .i64) (kPair (kInt .i64) (kPair (kInt .u32) (kPair (kInt .i64) (kPair (kInt .i64) (kPair (kInt .u32) (kPair (kInt .i64) (kPair (kInt .u32) (kPair (kInt .i64) (kPair entryK (kPair spanK (kPair boxK recsK)))))))))))
section
variable {H : Type} {enc : TypeId × Value → H}
theorem opens_spanK : Opens enc Try.prog 30 spanK :=
  opens_struct Try.underlying30 (by kernel_rfl) (fields_cons rfl (opens_int Try.underlying22 (by kernel_rfl)) (fields_one rfl (opens_int Try.underlying22 (by kernel_rfl))))
theorem opens_recs : Opens enc Try.prog 32 recsK := opens_slice Try.underlying32 (by kernel_rfl) (by decide) opens_record
theorem opens_message : Opens enc Try.prog 34 messageK :=
  opens_struct Try.underlying34 (by kernel_rfl) (fields_cons rfl (opens_int Try.underlying3 (by kernel_rfl)) (fields_cons rfl (opens_int Try.underlying3 (by kernel_rfl)) (fields_cons rfl (opens_int Try.underlying22 (by kernel_rfl)) (fields_cons rfl (opens_int Try.underlying3 (by kernel_rfl)) (fields_cons rfl (opens_int Try.underlying3 (by kernel_rfl)) (fields_cons rfl (opens_int Try.underlying22 (by kernel_rfl)) (fields_cons rfl (opens_int Try.underlying3 (by kernel_rfl)) (fields_cons rfl (opens_int Try.underlying22 (by kernel_rfl)) (fields_cons rfl (opens_int Try.underlying3 (by kernel_rfl)) (fields_cons rfl opens_entry (fields_cons rfl opens_spanK (fields_cons rfl opens_ranges (fields_one rfl opens_recs)))))))))))))
end
theorem u32_of {a : Int} (h : (Lit.int .u32 a).wf = true) : u32B a := bd32 h
theorem u64_of {a : Int} (h : (Lit.int .u64 a).wf = true) : u64B a := bdu64 h
theorem i64_of {a : Int} (h : (Lit.int .i64 a).wf = true) : i64B a := bd64 h
theorem recs_bd {w : World} {v : Value} {l : List (Int × Int × List Int)} (h : recsK.rd w [v] l) : ∀ x ∈ l, recB x := by
  obtain ⟨a, g, off, c, _, _, _, _, hi⟩ := kd_loop h
  intro x hx
  obtain ⟨i, hi', rfl⟩ := List.getElem_of_mem hx
  obtain ⟨es, _, hr⟩ := hi i _ (List.getElem?_eq_getElem hi')
  obtain ⟨v, _, w1, w2, _, hb⟩ := record_cells hr
  exact ⟨u64_of w1, u64_of w2, fun y hy => u32_of (hb y hy)⟩
/-- a message, cell by cell -/
theorem message_cells {w : World} {es : List Value} {y : Int × Int × Int × Int × Int × Int × Int × Int × Int × (Int × (Int × Int × List Int) × Bool) × (Int × Int) × List (Int × Int × Int) × List (Int × Int × List Int)} (h : messageK.rd w es y) :
    ∃ m v b r, es = mcs m v b r ∧ MRd w m v b r ∧ MB m := by
  have hl := messageK.len h
  obtain ⟨k, hub, point, client, op, target, hops, owner, turn, en, ⟨sf, st⟩, box, recs⟩ := y
  obtain ⟨⟨h0, w0⟩, ⟨h1, w1⟩, ⟨h2, w2⟩, ⟨h3, w3⟩, ⟨h4, w4⟩, ⟨h5, w5⟩, ⟨h6, w6⟩, ⟨h7, w7⟩, ⟨h8, w8⟩, he, hs, hbx, hrc⟩ := h
  match es, hl with
  | [c0, c1, c2, c3, c4, c5, c6, c7, c8, c9, c10, c11, c12, c13, c14, c15, c16, c17], _ =>
    have e0 : c0 = .int .i64 k := by simpa [kInt] using h0
    have e1 : c1 = .int .i64 hub := by simpa [kInt] using h1
    have e2 : c2 = .int .u32 point := by simpa [kInt] using h2
    have e3 : c3 = .int .i64 client := by simpa [kInt] using h3
    have e4 : c4 = .int .i64 op := by simpa [kInt] using h4
    have e5 : c5 = .int .u32 target := by simpa [kInt] using h5
    have e6 : c6 = .int .i64 hops := by simpa [kInt] using h6
    have e7 : c7 = .int .u32 owner := by simpa [kInt] using h7
    have e8 : c8 = .int .i64 turn := by simpa [kInt] using h8
    have he' : entryK.rd w [c9, c10, c11, c12, c13] en := he
    have hs' : spanK.rd w [c14, c15] (sf, st) := hs
    have hb' : boxK.rd w [c16] box := hbx
    have hr' : recsK.rd w [c17] recs := hrc
    obtain ⟨v, hv, x1, x2, x3, hrd, hvb⟩ := entry_cells he'
    simp only [List.cons.injEq, and_true] at hv
    obtain ⟨rfl, rfl, rfl, rfl, rfl⟩ := hv
    obtain ⟨⟨s1, y1⟩, ⟨s2, y2⟩⟩ := hs'
    have e14 : c14 = .int .u32 sf := by simpa [kInt] using s1
    have e15 : c15 = .int .u32 st := by simpa [kInt] using s2
    subst e0 e1 e2 e3 e4 e5 e6 e7 e8 e14 e15
    obtain ⟨en1, ⟨en2, en3, en4⟩, en5⟩ := en
    obtain ⟨rdb, wrb⟩ := kd_trips hb'
    exact ⟨⟨k, hub, point, client, op, target, hops, owner, turn, en1, en2, en3, en4, en5, sf, st, box, recs⟩, _, _, _, rfl, ⟨hrd, rdb, hr'⟩,
      ⟨i64_of w0, i64_of w1, u32_of w2, i64_of w3, i64_of w4, u32_of w5, i64_of w6, u32_of w7, i64_of w8, u32_of x1, u64_of x2, u64_of x3, fun x hx => u32_of (hvb x hx), u32_of y1, u32_of y2, fun x hx => ⟨u32_of (wrb x hx).2.1, u32_of (wrb x hx).2.2⟩, recs_bd hr'⟩⟩
end Go.Proofs.Ythhelhhlofdehaa
