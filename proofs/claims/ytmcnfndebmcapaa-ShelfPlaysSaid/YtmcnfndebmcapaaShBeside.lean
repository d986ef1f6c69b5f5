/- What the law ShelfPlays goes on: the things done; a shelf and the document's shelf, beside each other. -/
import Derived.Test.YtmcnfndebmcapaaShAwake
set_option maxRecDepth 4000
namespace Go.Proofs.Ytmcnfndebmcapaa
open Go.RowKit Mem
set_option linter.unusedSimpArgs false
set_option linter.unusedVariables false
attribute [local irreducible] Go.Calls

/-- a thing that is done: its kind, an entry, a span, entries -/
abbrev POp := Int × Ent × (Int × Int) × List Ent
def pop0 : POp := (0, e0, (0, 0), [])
abbrev opK9 : Kd POp := kPair (kInt .i64) (kPair entryK (kPair (kPair (kInt .u32) (kInt .u32)) entsK))
theorem opens_sops {H : Type} {enc : TypeId × Value → H} : Opens enc Try.prog 22 (kSlice opK9) :=
  opens_slice Try.underlying22 (by kernel_rfl) (by decide)
    (opens_struct Try.underlying42 (by kernel_rfl) (fields_cons rfl (opens_int Try.underlying3 (by kernel_rfl)) (fields_cons rfl opens_entry (fields_cons rfl
      (opens_struct Try.underlying25 (by kernel_rfl) (fields_cons rfl (opens_int Try.underlying23 (by kernel_rfl)) (fields_one rfl (opens_int Try.underlying23 (by kernel_rfl)))))
      (fields_one rfl opens_ents)))))
theorem opens_key {H : Type} {enc : TypeId × Value → H} : Opens enc Try.prog 28 (kPair (kInt .u32) (kInt .u64)) :=
  opens_struct Try.underlying28 (by kernel_rfl) (fields_cons rfl (opens_int Try.underlying23 (by kernel_rfl)) (fields_one rfl (opens_int Try.underlying26 (by kernel_rfl))))
theorem key_cells {w : World} {es : List Value} {y : Int × Int} (h : (kPair (kInt .u32) (kInt .u64)).rd w es y) : es = [.int .u32 y.1, .int .u64 y.2] ∧ (Lit.int .u32 y.1).wf = true ∧ (Lit.int .u64 y.2).wf = true := by
  have hl := (kPair (kInt .u32) (kInt .u64)).len h
  obtain ⟨⟨h1, w1⟩, ⟨h2, w2⟩⟩ := h
  match es, hl with
  | [c0, c1], _ =>
    have e0 : c0 = .int .u32 y.1 := by simpa [kInt] using h1
    have e1 : c1 = .int .u64 y.2 := by simpa [kInt] using h2
    exact ⟨by rw [e0, e1], w1, w2⟩
/-- its cells -/
def pcl (o : POp) (x u : Value) : List Value := .int .i64 o.1 :: (ecl o.2.1 x ++ [.int .u32 o.2.2.1.1, .int .u32 o.2.2.1.2, u])
def popB (o : POp) : Prop := (-9223372036854775808 ≤ o.1 ∧ o.1 ≤ 9223372036854775807) ∧ entB o.2.1 ∧ (0 ≤ o.2.2.1.1 ∧ o.2.2.1.1 ≤ 4294967295) ∧ (0 ≤ o.2.2.1.2 ∧ o.2.2.1.2 ≤ 4294967295) ∧ ∀ y ∈ o.2.2.2, entB y
theorem pop_cells {w : World} {es : List Value} {o : POp} (h : opK9.rd w es o) :
    ∃ x u, es = pcl o x u ∧ Rd (intE .u32) w x o.2.1.2.1.2.2 ∧ EntsIn (fun j => j < w.heap.size) w u o.2.2.2 ∧ popB o := by
  have hl := opK9.len h
  obtain ⟨⟨h1, w1⟩, h2, ⟨h3, h4⟩, h5⟩ := h
  match es, hl with
  | [c0, c1, c2, c3, c4, c5, c6, c7, c8], _ =>
    have e0 : c0 = .int .i64 o.1 := by simpa [kInt] using h1
    have e1 : entryK.rd w [c1, c2, c3, c4, c5] o.2.1 := by simpa [kInt, kPair, kSlice, entryK, recordK, kBool] using h2
    have e6 : [c6] = [.int .u32 o.2.2.1.1] := by simpa [kInt, kPair, kSlice, entryK, recordK, kBool] using h3.1
    have e7 : [c7] = [.int .u32 o.2.2.1.2] := by simpa [kInt, kPair, kSlice, entryK, recordK, kBool] using h4.1
    have e8 : entsK.rd w [c8] o.2.2.2 := by simpa [kInt, kPair, kSlice, entryK, recordK, kBool] using h5
    obtain ⟨x, ex, q1, q2, q3, q4, q5⟩ := entry_cells e1
    obtain ⟨q6, q7⟩ := ents_of_kd e8
    have w6 := h3.2
    have w7 := h4.2
    injection e6 with e6 _
    injection e7 with e7 _
    subst e0 e6 e7
    refine ⟨x, c8, ?_, q4, q6, bd64 w1, ⟨bd32 q1, bdu64 q2, bdu64 q3, fun y hy => bd32 (q5 y hy)⟩, bd32 w6, bd32 w7, q7⟩
    simp only [List.cons.injEq, and_true] at ex
    obtain ⟨rfl, rfl, rfl, rfl, rfl⟩ := ex
    rfl
/-- what is done, handed in -/
theorem sops_of {v : Value} {l : List POp} {w : World} (h : (kSlice opK9).rd w [v] l) :
    ∃ a g off c, v = .slice a l.length c ∧ l.length ≤ c ∧ c ≤ maxLen ∧ (0 < l.length → a = some ⟨g, off, none⟩) ∧
      ∀ i, i < l.length → ∃ x u, (∀ j, j < 9 → w.cell? ⟨g, off + i * 9 + j, none⟩ = (pcl (l.getD i pop0) x u)[j]?) ∧ Rd (intE .u32) w x (l.getD i pop0).2.1.2.1.2.2 ∧ EntsIn (fun j => j < w.heap.size) w u (l.getD i pop0).2.2.2 ∧ popB (l.getD i pop0) := by
  obtain ⟨a, g, off, c, hv, h1, h2, ha, hi⟩ := kd_loop h
  refine ⟨a, g, off, c, hv, h1, h2, ha, fun i hl => ?_⟩
  have hy : l[i]? = some (l.getD i pop0) := by simp [List.getD, List.getElem?_eq_getElem hl]
  obtain ⟨es, he, hr⟩ := hi i _ hy
  obtain ⟨x, u, e, q1, q2, q3⟩ := pop_cells hr
  refine ⟨x, u, fun j hj => ?_, q1, q2, q3⟩
  rw [← e, Nat.add_assoc]
  exact he j hj

/-- a shelf s that holds L, the document's b that holds Lw: made behind B, neither of them writes what the other one reads, nor what N has -/
def Pl (B : Nat) (N : Nat → Prop) (z : World) (s b : Nat) (L Lw : List Ent) : Prop :=
  ∃ W R W' R', ShAt z s W R L ∧ RfAt z b W' R' Lw ∧ (∀ j, R j → ¬ W' j) ∧ (∀ j, R' j → ¬ W j) ∧ (∀ j, R j ∨ R' j → B ≤ j) ∧ ∀ j, N j → ¬ W j ∧ ¬ W' j ∧ j < z.heap.size
section
variable {B : Nat} {N : Nat → Prop} {z z' : World} {s b : Nat} {L Lw L2 : List Ent}
theorem Pl.keep (h : Pl B N z s b L Lw) (k : Below z.heap.size z z') : Pl B N z' s b L Lw := by
  obtain ⟨W, R, W', R', h1, h2, h3, h4, h5, h6⟩ := h
  exact ⟨W, R, W', R', h1.keep k, h2.keep k, h3, h4, h5, fun j hj => ⟨(h6 j hj).1, (h6 j hj).2.1, Nat.lt_of_lt_of_le (h6 j hj).2.2 k.size⟩⟩
theorem Pl.less {N' : Nat → Prop} (h : Pl B N z s b L Lw) (hN : ∀ j, N' j → N j) : Pl B N' z s b L Lw := by
  obtain ⟨W, R, W', R', h1, h2, h3, h4, h5, h6⟩ := h
  exact ⟨W, R, W', R', h1, h2, h3, h4, h5, fun j hj => h6 j (hN j hj)⟩
/-- what was made behind it is left be -/
theorem Pl.free (h : Pl B N z s b L Lw) (k : Below z.heap.size z z') : Pl B (fun j => N j ∨ (z.heap.size ≤ j ∧ j < z'.heap.size)) z' s b L Lw := by
  obtain ⟨W, R, W', R', h1, h2, h3, h4, h5, h6⟩ := h
  refine ⟨W, R, W', R', h1.keep k, h2.keep k, h3, h4, h5, fun j hj => ?_⟩
  have := k.size
  rcases hj with hj | hj
  · exact ⟨(h6 j hj).1, (h6 j hj).2.1, by have := (h6 j hj).2.2; omega⟩
  · exact ⟨fun e => by have := h1.lt (h1.sub e); omega, fun e => by have := h2.lt (h2.sub e); omega, hj.2⟩
theorem Pl.facts (h : Pl B N z s b L Lw) : UniqK L ∧ (∀ y ∈ L, okE y) ∧ L.length ≤ 10000 := by
  obtain ⟨W, R, W', R', h1, h2, h3, h4, h5, h6⟩ := h
  exact ⟨h1.uniq, h1.ok, h1.len⟩
theorem Pl.head (h : Pl B N z s b L Lw) : ∃ a c, z.cell? ⟨b, 0, none⟩ = some (.slice a Lw.length c) ∧ Lw.length ≤ c ∧ c ≤ maxLen := by
  obtain ⟨W, R, W', R', h1, h2, h3, h4, h5, h6⟩ := h
  obtain ⟨a, g, off, c, q1, q2, q3, _⟩ := h2.at
  exact ⟨a, c, q1, q2, q3⟩
/-- what others turn -/
def Tn (B : Nat) (N : Nat → Prop) (z z' : World) : Prop := Turned (fun j => B ≤ j ∧ ¬ N j) z z'
theorem Tn.below (t : Tn B N z z') (hB : B ≤ z.heap.size) : Below B z z' := Turned.below t hB (fun k hk => hk.1)
theorem Tn.ents {Q : Nat → Prop} {v : Value} {l : List Ent} (h : EntsIn Q z v l) (t : Tn B N z z') (hQ : ∀ j, Q j → N j) : EntsIn Q z' v l := h.turned t (fun j hj hn => hn.2 (hQ j hj))
theorem Tn.blk {g : Nat} {ty : TypeId} {cs : Array Value} (h : Blk z g ty cs) (t : Tn B N z z') (hg : N g) : Blk z' g ty cs := h.turned t (fun hn => hn.2 hg)
theorem Tn.rd {x : Value} {l : List Int} (h : Rd (intE .u32) z x l) (t : Tn B N z z') (hx : 0 < l.length → ∀ g, x.ownBlock = some g → g < B) : Rd (intE .u32) z' x l := h.turned0 t (fun hl g hg hn => by have := hx hl g hg; omega)
theorem pl_sstep {W R W' R' : Nat → Prop} (h1 : ShAt z s W R L) (h2 : RfAt z b W' R' Lw) (h3 : ∀ j, R j → ¬ W' j) (h4 : ∀ j, R' j → ¬ W j) (h5 : ∀ j, R j ∨ R' j → B ≤ j) (h6 : ∀ j, N j → ¬ W j ∧ ¬ W' j ∧ j < z.heap.size) (hB : B ≤ z.heap.size)
    (k : SStep W R z z' s L2) : Pl B N z' s b L2 Lw ∧ Tn B N z z' := by
  obtain ⟨W2, R2, k1, k2, k3, k4⟩ := k
  refine ⟨⟨W2, R2, W', R', k1, h2.turned k2 h4, fun j hj hw => ?_, fun j hj hw => ?_, fun j hj => ?_, fun j hj => ⟨fun hw => ?_, (h6 j hj).2.1, Nat.lt_of_lt_of_le (h6 j hj).2.2 k2.size⟩⟩, k2.mono fun j _ hj => ⟨h5 j (.inl (h1.sub hj)), fun hn => (h6 j hn).1 hj⟩⟩
  · rcases k4 j hj with h | h
    · exact h3 j h hw
    · have := h2.lt (h2.sub hw); omega
  · rcases k3 j hw with h | h
    · exact h4 j hj h
    · have := h2.lt hj; omega
  · rcases hj with hj | hj
    · rcases k4 j hj with h | h
      · exact h5 j (.inl h)
      · omega
    · exact h5 j (.inr hj)
  · rcases k3 j hw with h | h
    · exact (h6 j hj).1 h
    · have := (h6 j hj).2.2; omega
theorem pl_rstep {W R W' R' : Nat → Prop} (h1 : ShAt z s W R L) (h2 : RfAt z b W' R' Lw) (h3 : ∀ j, R j → ¬ W' j) (h4 : ∀ j, R' j → ¬ W j) (h5 : ∀ j, R j ∨ R' j → B ≤ j) (h6 : ∀ j, N j → ¬ W j ∧ ¬ W' j ∧ j < z.heap.size) (hB : B ≤ z.heap.size)
    (k : RStep W' R' z z' b L2) : Pl B N z' s b L L2 ∧ Tn B N z z' := by
  obtain ⟨W2, R2, k1, k2, k3, k4⟩ := k
  refine ⟨⟨W, R, W2, R2, h1.turned k2 h3, k1, fun j hj hw => ?_, fun j hj hw => ?_, fun j hj => ?_, fun j hj => ⟨(h6 j hj).1, fun hw => ?_, Nat.lt_of_lt_of_le (h6 j hj).2.2 k2.size⟩⟩, k2.mono fun j _ hj => ⟨h5 j (.inr (h2.sub hj)), fun hn => (h6 j hn).2.1 hj⟩⟩
  · rcases k3 j hw with h | h
    · exact h3 j hj h
    · have := h1.lt hj; omega
  · rcases k4 j hj with h | h
    · exact h4 j h hw
    · have := h1.lt (h1.sub hw); omega
  · rcases hj with hj | hj
    · exact h5 j (.inl hj)
    · rcases k4 j hj with h | h
      · exact h5 j (.inr h)
      · omega
  · rcases k3 j hw with h | h
    · exact (h6 j hj).2.1 h
    · have := (h6 j hj).2.2; omega
end
section
variable (B : Nat) (N : Nat → Prop) (s b : Nat) (L Lw : List Ent) (z : World)
theorem pl_sput (y : Ent) (x : Value) (h : Pl B N z s b L Lw) (hB : B ≤ z.heap.size) (hx : Rd (intE .u32) z x y.2.1.2.2) (hy : okE y) :
    Calls Try.prog 18 #[.pointer (some ⟨s, 0, none⟩), .agg (ecl y x).toArray] z fun e z' => e = .returned (.tuple #[.bool (putL L y).2.1, .int .i64 (putL L y).2.2]) ∧ Pl B N z' s b (putL L y).1 Lw ∧ Tn B N z z' := by
  obtain ⟨W, R, W', R', h1, h2, h3, h4, h5, h6⟩ := h
  exact (shput_any s W R L y x z h1 hx hy).mono fun e z' ⟨he, k⟩ => ⟨he, pl_sstep h1 h2 h3 h4 h5 h6 hB k⟩
theorem pl_rput (y : Ent) (x : Value) (h : Pl B N z s b L Lw) (hB : B ≤ z.heap.size) (hx : Rd (intE .u32) z x y.2.1.2.2) (hy : okE y) (hok : ∀ y ∈ Lw, okE y) (hn : Lw.length ≤ 1000000) :
    Calls Try.prog 19 #[.pointer (some ⟨b, 0, none⟩), .agg (ecl y x).toArray] z fun e z' => e = .returned (.tuple #[.bool (putL Lw y).2.1, .int .i64 (putL Lw y).2.2]) ∧ Pl B N z' s b L (putL Lw y).1 ∧ Tn B N z z' := by
  obtain ⟨W, R, W', R', h1, h2, h3, h4, h5, h6⟩ := h
  exact (rshput_any b W' R' Lw y x z h2 hx hy.2 hy.1 (fun y hy => (hok y hy).1) hn).mono fun e z' ⟨he, k⟩ => ⟨he, pl_rstep h1 h2 h3 h4 h5 h6 hB k⟩
theorem pl_sjoin (Q : Nat → Prop) (l : List Ent) (v : Value) (h : Pl B N z s b L Lw) (hB : B ≤ z.heap.size) (hv : EntsIn Q z v l) (hQ : ∀ j, Q j → j < B) (hl : ∀ y ∈ l, okE y) (hn : l.length ≤ 1000000) :
    Calls Try.prog 15 #[.pointer (some ⟨s, 0, none⟩), v] z fun e z' => e = .returned (.int .i64 (joinL L l).2) ∧ Pl B N z' s b (joinL L l).1 Lw ∧ Tn B N z z' := by
  obtain ⟨W, R, W', R', h1, h2, h3, h4, h5, h6⟩ := h
  exact (shjoin_any s W R Q L l v z h1 hv (fun j hj hw => by have := hQ j hj; have := h5 j (.inl (h1.sub hw)); omega) hl hn).mono fun e z' ⟨he, k⟩ => ⟨he, pl_sstep h1 h2 h3 h4 h5 h6 hB k⟩
theorem pl_rjoin (Q : Nat → Prop) (l : List Ent) (v : Value) (h : Pl B N z s b L Lw) (hB : B ≤ z.heap.size) (hv : EntsIn Q z v l) (hQ : ∀ j, Q j → j < B) (hl : ∀ y ∈ l, okE y) (hok : ∀ y ∈ Lw, okE y) (hn : Lw.length + l.length ≤ 1000000) :
    Calls Try.prog 16 #[.pointer (some ⟨b, 0, none⟩), v] z fun e z' => e = .returned (.int .i64 (joinL Lw l).2) ∧ Pl B N z' s b L (joinL Lw l).1 ∧ Tn B N z z' := by
  obtain ⟨W, R, W', R', h1, h2, h3, h4, h5, h6⟩ := h
  exact (rshjoin_any b W' R' Q Lw l v z h2 hv (fun j hj hw => by have := hQ j hj; have := h5 j (.inr (h2.sub hw)); omega) (fun y hy => (hok y hy).1) (fun y hy => (hl y hy).1) (fun y hy => (hl y hy).2) hn).mono fun e z' ⟨he, k⟩ => ⟨he, pl_rstep h1 h2 h3 h4 h5 h6 hB k⟩
theorem pl_scut (f t : Int) (h : Pl B N z s b L Lw) (hB : B ≤ z.heap.size) (bf : 0 ≤ f ∧ f ≤ 4294967295) (bt : 0 ≤ t ∧ t ≤ 4294967295) :
    Calls Try.prog 13 #[.pointer (some ⟨s, 0, none⟩), .agg #[.int .u32 f, .int .u32 t]] z fun e z' => ∃ v Q, e = .returned v ∧ EntsIn Q z' v (scanL f t L) ∧ Pl B (fun j => N j ∨ Q j) z' s b (restL f t L) Lw ∧ Tn B N z z' := by
  obtain ⟨W, R, W', R', h1, h2, h3, h4, h5, h6⟩ := h
  refine (shcut_any s W R L f t z h1 bf bt).mono fun e z' ⟨v, he, W2, R2, k1, k2, k3, k4, hv⟩ => ?_
  obtain ⟨⟨Wq, Rq, Wr, Rr, q1, q2, q3, q4, q5, q6⟩, ht⟩ := pl_sstep (N := N) h1 h2 h3 h4 h5 h6 hB ⟨W2, R2, k1, k2, k3, k4⟩
  refine ⟨v, fun j => (¬ W2 j ∧ (R j ∨ z.heap.size ≤ j)) ∧ j < z'.heap.size, he, hv.mono (fun j hj hq => ⟨hq, hj⟩), ⟨W2, R2, W', R', k1, h2.turned k2 h4, fun j hj hw => ?_, fun j hj hw => ?_, fun j hj => ?_, fun j hj => ?_⟩, ht⟩
  · rcases k4 j hj with h | h
    · exact h3 j h hw
    · have := h2.lt (h2.sub hw); omega
  · rcases k3 j hw with h | h
    · exact h4 j hj h
    · have := h2.lt hj; omega
  · rcases hj with hj | hj
    · rcases k4 j hj with h | h
      · exact h5 j (.inl h)
      · omega
    · exact h5 j (.inr hj)
  · rcases hj with hj | hj
    · refine ⟨fun hw => ?_, (h6 j hj).2.1, Nat.lt_of_lt_of_le (h6 j hj).2.2 k2.size⟩
      rcases k3 j hw with h | h
      · exact (h6 j hj).1 h
      · have := (h6 j hj).2.2; omega
    · refine ⟨hj.1.1, fun hw => ?_, hj.2⟩
      rcases hj.1.2 with h | h
      · exact h3 j h hw
      · have := h2.lt (h2.sub hw); omega
theorem pl_rcut (f t : Int) (h : Pl B N z s b L Lw) (hB : B ≤ z.heap.size) (bf : 0 ≤ f ∧ f ≤ 4294967295) (bt : 0 ≤ t ∧ t ≤ 4294967295) (hok : ∀ y ∈ Lw, okE y) (hn : Lw.length ≤ 1000000) :
    Calls Try.prog 14 #[.pointer (some ⟨b, 0, none⟩), .agg #[.int .u32 f, .int .u32 t]] z fun e z' => ∃ v, e = .returned v ∧ EntsIn (fun _ => True) z' v (scanL f t Lw) ∧ Pl B N z' s b L (restL f t Lw) ∧ Tn B N z z' := by
  obtain ⟨W, R, W', R', h1, h2, h3, h4, h5, h6⟩ := h
  exact (rshcut_any b W' R' Lw f t bf bt z h2 (fun y hy => (hok y hy).1) (fun y hy => (hok y hy).2) hn).mono fun e z' ⟨v, he, hv, k⟩ => ⟨v, he, hv.ents.mono (fun _ _ _ => trivial), pl_rstep h1 h2 h3 h4 h5 h6 hB k⟩
theorem pl_sscan (f t : Int) (h : Pl B N z s b L Lw) (bf : 0 ≤ f ∧ f ≤ 4294967295) (bt : 0 ≤ t ∧ t ≤ 4294967295) :
    Calls Try.prog 25 #[.pointer (some ⟨s, 0, none⟩), .agg #[.int .u32 f, .int .u32 t]] z fun e z' => ∃ v, e = .returned v ∧ EntsIn (fun _ => True) z' v (scanL f t L) ∧ Below z.heap.size z z' := by
  obtain ⟨W, R, W', R', h1, h2, h3, h4, h5, h6⟩ := h
  exact (shscan_any s W R L f t z h1 bf bt).mono fun e z' ⟨v, he, hv, k⟩ => ⟨v, he, hv.mono (fun _ _ _ => trivial), k⟩
theorem pl_rscan (f t : Int) (h : Pl B N z s b L Lw) (bf : 0 ≤ f ∧ f ≤ 4294967295) (bt : 0 ≤ t ∧ t ≤ 4294967295) (hok : ∀ y ∈ Lw, okE y) (hn : Lw.length ≤ 1000000) :
    Calls Try.prog 26 #[.pointer (some ⟨b, 0, none⟩), .agg #[.int .u32 f, .int .u32 t]] z fun e z' => ∃ v, e = .returned v ∧ EntsIn (fun _ => True) z' v (scanL f t Lw) ∧ Below z.heap.size z z' := by
  obtain ⟨W, R, W', R', h1, h2, h3, h4, h5, h6⟩ := h
  exact (rshscan_any b W' R' Lw f t bf bt z h2 (fun y hy => (hok y hy).1) (fun y hy => (hok y hy).2) hn).mono fun e z' ⟨v, he, hv, k⟩ => ⟨v, he, hv.ents.mono (fun _ _ _ => trivial), k⟩
theorem pl_sget (v i : Int) (h : Pl B N z s b L Lw) (bv : 0 ≤ v ∧ v ≤ 4294967295) (bi : 0 ≤ i ∧ i ≤ 18446744073709551615) :
    Calls Try.prog 23 #[.pointer (some ⟨s, 0, none⟩), .agg #[.int .u32 v, .int .u64 i]] z fun e z' => ∃ x, e = .returned (.tuple #[.agg (ecl (getE L v i).1 x).toArray, .bool (getE L v i).2]) ∧ Rd (intE .u32) z' x (getE L v i).1.2.1.2.2 ∧ Below z.heap.size z z' := by
  obtain ⟨W, R, W', R', h1, h2, h3, h4, h5, h6⟩ := h
  exact shget_any s W R L v i z h1 bv bi
theorem pl_rget (v i : Int) (h : Pl B N z s b L Lw) (hok : ∀ y ∈ Lw, okE y) (hn : Lw.length ≤ 1000000) :
    Calls Try.prog 24 #[.pointer (some ⟨b, 0, none⟩), .agg #[.int .u32 v, .int .u64 i]] z fun e z' => ∃ x, e = .returned (.tuple #[.agg (ecl (getE Lw v i).1 x).toArray, .bool (getE Lw v i).2]) ∧ Rd (intE .u32) z' x (getE Lw v i).1.2.1.2.2 ∧ Below z.heap.size z z' := by
  obtain ⟨W, R, W', R', h1, h2, h3, h4, h5, h6⟩ := h
  exact (rshget_any b W' R' Lw v i z h2 (fun y hy => (hok y hy).2) hn).mono fun e z' ⟨x, he, hx, k⟩ => ⟨x, he, hx.rd, k⟩
theorem pl_slen (h : Pl B N z s b L Lw) : Calls Try.prog 20 #[.pointer (some ⟨s, 0, none⟩)] z fun e z' => e = .returned (.int .i64 L.length) ∧ Below z.heap.size z z' := by
  obtain ⟨W, R, W', R', h1, h2, h3, h4, h5, h6⟩ := h
  exact shlen_any s W R L z h1
theorem pl_slive (h : Pl B N z s b L Lw) : Calls Try.prog 21 #[.pointer (some ⟨s, 0, none⟩)] z fun e z' => e = .returned (.int .i64 (liveE L)) ∧ Below z.heap.size z z' := by
  obtain ⟨W, R, W', R', h1, h2, h3, h4, h5, h6⟩ := h
  exact shlive_any s W R L z h1
theorem pl_rlive (h : Pl B N z s b L Lw) : Calls Try.prog 22 #[.pointer (some ⟨b, 0, none⟩)] z fun e z' => e = .returned (.int .i64 (liveE Lw)) ∧ Below z.heap.size z z' := by
  obtain ⟨W, R, W', R', h1, h2, h3, h4, h5, h6⟩ := h
  exact rshlive_any b W' R' Lw z h2
end
/-- a fork beside: the shelf s is written once more, from then on f is the shelf -/
def Fk9 (B : Nat) (N : Nat → Prop) (z : World) (s f b : Nat) (L : List Ent) : Prop :=
  ∃ W R Wf Rf W' R', ShAt z s W R L ∧ ShAt z f Wf Rf L ∧ RfAt z b W' R' L ∧ (∀ j, Rf j → ¬ W j) ∧ (∀ j, R' j → ¬ W j) ∧ (∀ j, Rf j → ¬ W' j) ∧ (∀ j, R' j → ¬ Wf j) ∧ (∀ j, R j ∨ Rf j ∨ R' j → B ≤ j) ∧ ∀ j, N j → ¬ W j ∧ ¬ Wf j ∧ ¬ W' j ∧ j < z.heap.size
theorem pl_fork (B : Nat) (N : Nat → Prop) (s b : Nat) (L : List Ent) (z : World) (h : Pl B N z s b L L) (hB : B ≤ z.heap.size) :
    Calls Try.prog 17 #[.pointer (some ⟨s, 0, none⟩)] z fun e z' => ∃ f, e = .returned (.pointer (some ⟨f, 0, none⟩)) ∧ Fk9 B N z' s f b L ∧ Below z.heap.size z z' := by
  obtain ⟨W, R, W', R', h1, h2, h3, h4, h5, h6⟩ := h
  refine (shfork_any s W R L z h1).mono fun e z' ⟨f, Wf, Rf, he, k1, k2, k3, k4⟩ => ⟨f, he, ⟨W, R, Wf, Rf, W', R', h1.keep k4, k1, h2.keep k4, fun j hj hw => ?_, h4, fun j hj hw => ?_, fun j hj hw => ?_, fun j hj => ?_, fun j hj => ⟨(h6 j hj).1, fun hw => ?_, (h6 j hj).2.1, Nat.lt_of_lt_of_le (h6 j hj).2.2 k4.size⟩⟩, k4⟩
  · rcases k3 j hj with h | h
    · exact h.2 hw
    · have := h1.lt (h1.sub hw); omega
  · rcases k3 j hj with h | h
    · exact h3 j h.1 hw
    · have := h2.lt (h2.sub hw); omega
  · have := k2 j hw; have := h2.lt hj; omega
  · rcases hj with hj | hj | hj
    · exact h5 j (.inl hj)
    · rcases k3 j hj with h | h
      · exact h5 j (.inl h.1)
      · omega
    · exact h5 j (.inr hj)
  · have := k2 j hw; have := (h6 j hj).2.2; omega
theorem Fk9.keep {B : Nat} {N : Nat → Prop} {z z' : World} {s f b : Nat} {L : List Ent} (h : Fk9 B N z s f b L) (k : Below z.heap.size z z') : Fk9 B N z' s f b L := by
  obtain ⟨W, R, Wf, Rf, W', R', h1, h2, h3, h4, h5, h6, h7, h8, h9⟩ := h
  exact ⟨W, R, Wf, Rf, W', R', h1.keep k, h2.keep k, h3.keep k, h4, h5, h6, h7, h8, fun j hj => ⟨(h9 j hj).1, (h9 j hj).2.1, (h9 j hj).2.2.1, Nat.lt_of_lt_of_le (h9 j hj).2.2.2 k.size⟩⟩
theorem fk_cut (B : Nat) (N : Nat → Prop) (s f b : Nat) (L : List Ent) (a t : Int) (z : World) (h : Fk9 B N z s f b L) (hB : B ≤ z.heap.size) (ba : 0 ≤ a ∧ a ≤ 4294967295) (bt : 0 ≤ t ∧ t ≤ 4294967295) :
    Calls Try.prog 13 #[.pointer (some ⟨s, 0, none⟩), .agg #[.int .u32 a, .int .u32 t]] z fun e z' => ∃ v, e = .returned v ∧ Pl B N z' f b L L ∧ Tn B N z z' := by
  obtain ⟨W, R, Wf, Rf, W', R', h1, h2, h3, h4, h5, h6, h7, h8, h9⟩ := h
  refine (shcut_any s W R L a t z h1 ba bt).mono fun e z' ⟨v, he, W2, R2, k1, k2, k3, k4, hv⟩ => ⟨v, he, ⟨Wf, Rf, W', R', h2.turned k2 h4, h3.turned k2 h5, h6, h7, fun j hj => h8 j (by rcases hj with hj | hj; exact .inr (.inl hj); exact .inr (.inr hj)), fun j hj => ⟨(h9 j hj).2.1, (h9 j hj).2.2.1, Nat.lt_of_lt_of_le (h9 j hj).2.2.2 k2.size⟩⟩, k2.mono fun j _ hj => ⟨h8 j (.inl (h1.sub hj)), fun hn => (h9 j hn).1 hj⟩⟩
end Go.Proofs.Ytmcnfndebmcapaa
