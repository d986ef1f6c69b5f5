/- The document's answers for package ring (petasosref11.Ring): where it lies; Owner, Next, Span. -/
import Derived.Test.YtgkfioloceemcaaRgLaw
import Derived.Test.YtgkfioloceemcaaRgPlans
set_option maxRecDepth 4000
namespace Go.Proofs.Ytgkfioloceemcaa
open Go.RowKit Mem
set_option linter.unusedSimpArgs false
set_option linter.unusedVariables false
attribute [local irreducible] Go.Calls

/-- the document's ring at block b, of the points L: a step writes block b alone -/
def RrAt (w : World) (b : Nat) (L : List Int) : Prop := ∃ v, Blk w b 30 #[v] ∧ Rd (intE .u32) w v L ∧ (∀ g, v.ownBlock = some g → g ≠ b ∧ g < w.heap.size) ∧ okR L
theorem RrAt.turned {w w' : World} {b : Nat} {S : Nat → Prop} {L : List Int} (h : RrAt w b L) (k : Turned S w w') (hb : ¬ S b) (hs : ∀ v g, w.cell? ⟨b, 0, none⟩ = some v → v.ownBlock = some g → ¬ S g) : RrAt w' b L := by
  obtain ⟨v, h1, h2, h3, h4⟩ := h
  exact ⟨v, h1.turned k hb, h2.turned k (fun g hg => hs v g (h1.cell 0) hg), fun g hg => ⟨(h3 g hg).1, Nat.lt_of_lt_of_le (h3 g hg).2 k.size⟩, h4⟩
theorem RrAt.keep {w w' : World} {b : Nat} {L : List Int} (h : RrAt w b L) (k : Below w.heap.size w w') : RrAt w' b L := h.turned (S := fun _ => False) (Turned.of_below k) (fun h => h) (fun _ _ _ _ h => h)
theorem RrAt.own {w : World} {b : Nat} {L : List Int} (h : RrAt w b L) {v : Value} {g : Nat} (hv : w.cell? ⟨b, 0, none⟩ = some v) (hg : v.ownBlock = some g) : g < w.heap.size := by
  obtain ⟨u, h1, h2, h3, h4⟩ := h
  rw [h1.cell 0] at hv
  injection hv with hv
  subst hv
  exact (h3 g hg).2
theorem RrAt.ok {w : World} {b : Nat} {L : List Int} (h : RrAt w b L) : okR L := by
  obtain ⟨v, h1, h2, h3, h4⟩ := h
  exact h4
theorem RrAt.lt {w : World} {b : Nat} {L : List Int} (h : RrAt w b L) : b < w.heap.size := by
  obtain ⟨v, h1, h2, h3, h4⟩ := h
  exact h1.lt
/-- its cells -/
theorem RrAt.at {w : World} {b : Nat} {L : List Int} (h : RrAt w b L) :
    ∃ a g o c, w.cell? ⟨b, 0, none⟩ = some (.slice a L.length c) ∧ L.length ≤ c ∧ c ≤ maxLen ∧ (0 < L.length → a = some ⟨g, o, none⟩ ∧ g < w.heap.size) ∧ (∀ i, i < L.length → w.cell? ⟨g, o + i, none⟩ = some (.int .u32 (L.getD i 0))) ∧ Rd (intE .u32) w (.slice a L.length c) L := by
  obtain ⟨v, h1, h2, h3, h4⟩ := h
  obtain ⟨a, g, o, c, rfl, r1, r2, r3, r4⟩ := Mem.Rd.loopI h2
  exact ⟨a, g, o, c, h1.cell 0, r1, r2, r3, r4, h2⟩
theorem own_first {L : List Int} {p : Int} {k : Nat} (hk : k < L.length) (hlo : ∀ i, i < k → L.getD i 0 < p) (hge : p ≤ L.getD k 0) : ownR L p = (L.getD k 0, true) := by
  have hne : (!L.isEmpty) = true := by cases L with | nil => simp at hk | cons => rfl
  unfold ownR
  rw [hne]
  congr 1
  have hs : L = L.take k ++ (L[k] :: L.drop (k + 1)) := by rw [List.getElem_cons_drop, List.take_append_drop]
  have hgk : L.getD k 0 = L[k] := by simp [List.getD, hk]
  rw [hgk] at hge ⊢
  have e1 : (L.take k).filter (fun x => decide (p ≤ x)) = [] := by
    rw [List.filter_eq_nil_iff]
    intro x hx
    obtain ⟨i, hi, rfl⟩ := List.getElem_of_mem hx
    have hi' : i < k := by simp at hi; omega
    have := hlo i hi'
    rw [show L.getD i 0 = L[i] by simp [List.getD, show i < L.length by omega]] at this
    simp
    omega
  have e2 : L.filter (fun x => decide (p ≤ x)) = L[k] :: (L.drop (k + 1)).filter (fun x => decide (p ≤ x)) := by
    conv => lhs; rw [hs]
    rw [List.filter_append, e1, List.nil_append, List.filter_cons_of_pos (by simpa using hge)]
  rw [e2]
  rfl
theorem own_none {L : List Int} {p : Int} (hL : 0 < L.length) (hlo : ∀ i, i < L.length → L.getD i 0 < p) : ownR L p = (L.getD 0 0, true) := by
  have hne : (!L.isEmpty) = true := by cases L with | nil => simp at hL | cons => rfl
  unfold ownR
  rw [hne]
  congr 1
  have e1 : L.filter (fun x => decide (p ≤ x)) = [] := by
    rw [List.filter_eq_nil_iff]
    intro x hx
    obtain ⟨i, hi, rfl⟩ := List.getElem_of_mem hx
    have := hlo i hi
    rw [show L.getD i 0 = L[i] by simp [List.getD, hi]] at this
    simp
    omega
  rw [e1]
  match L, hL with
  | x :: L, _ => rfl
set_option maxRecDepth 100000 in
set_option maxHeartbeats 2000000 in
theorem rrowner_any (b : Nat) (L : List Int) (p : Int) (w : World) (h : RrAt w b L) :
    Calls Try.prog 26 #[.pointer (some ⟨b, 0, none⟩), .int .u32 p] w fun e w' => e = .returned (.tuple #[.int .u32 (ownR L p).1, .bool (ownR L p).2]) ∧ Below w.heap.size w w' := by
  have HO := Lib.hid h.ok
  obtain ⟨a, g, o, c, d0, hc1, hc2, ha, hcell, _⟩ := h.at
  have hc3 : c ≤ 9223372036854775807 := hc2
  have hl64 : L.length ≤ 64 := h.ok.2.2
  have HA := Lib.hid ha
  have HC := Lib.hid hcell
  have HD := Lib.hid d0
  obtain ⟨RES, hRES⟩ : ∃ r, r = ownR L p := ⟨_, rfl⟩
  rw [← hRES]
  have HR := Lib.hid hRES
  clear h ha hcell hRES hc2
  by_cases hL0 : L = []
  · subst hL0
    have HR : RES = (0, false) := HR.out
    rw [HR]
    go_enter Try.func26, Try.ntmps26
    go_wp2_with fail
    go_ret2
    exact ⟨rfl, Below.refl _ _⟩
  have hLp : 0 < L.length := List.length_pos_iff.2 hL0
  have hLz : ((L.length : Int) == 0) = false := beq_eq_false_iff_ne.2 (by omega)
  obtain ⟨rfl, hg⟩ := HA.out (by omega)
  go_enter Try.func26, Try.ntmps26
  go_upto_block 99 with fail
  clear d0
  go_loopw [6] (fun iv wr => ∃ k : Nat, k ≤ L.length ∧ iv = .int .i64 k ∧ (∀ i, i < k → L.getD i 0 < p) ∧ Below w.heap.size w wr) (fun iv _ => L.length - (intOf iv).toNat)
  case atStart => exact ⟨0, Nat.zero_le _, rfl, fun i hi => absurd hi (Nat.not_lt_zero i), Below.refl _ _⟩
  case round =>
    obtain ⟨k, hk, rfl, hlo, hb⟩ := hrel
    have HLO := Lib.hid hlo
    have HK := Lib.hid hb
    have d0 := kc hb HD.out
    have z0 := kc hb (HC.out 0 hLp)
    rw [Nat.add_zero] at z0
    by_cases hlt : k < L.length
    · have d1 := kc hb (HC.out k hlt)
      have HF : Hid (p ≤ L.getD k 0 → RES = (L.getD k 0, true)) := Lib.hid (fun hge => by rw [HR.out]; exact own_first hlt HLO.out hge)
      have HN : Hid (L.getD k 0 < p → ∀ i, i < k + 1 → L.getD i 0 < p) := Lib.hid (fun hl i hi => by
        rcases Nat.lt_or_ge i k with h1 | h1
        · exact HLO.out i h1
        · rw [show i = k by omega]; exact hl)
      obtain ⟨x, hx⟩ : ∃ x, x = L.getD k 0 := ⟨_, rfl⟩
      rw [← hx] at d1 HF HN
      have hkl : (k : Int) < (L.length : Int) := by omega
      have hcl : (L.length : Int) ≤ c := by omega
      clear hx hlo hb z0
      by_cases hge : p ≤ x
      · have HF := Lib.hid (HF.out hge)
        go_wp2_with fail
        go_ret2
        exact ⟨by rw [HF.out]; rfl, HK.out⟩
      · have hlt2 : x < p := by omega
        have HN := Lib.hid (HN.out hlt2)
        clear HF
        go_wp2_with fail
        exact ⟨⟨k + 1, by omega, by go_num, HN.out, HK.out⟩, by simp [intOf]; omega⟩
    · have hkl : k = L.length := by omega
      subst hkl
      have HF : Hid (RES = (L.getD 0 0, true)) := Lib.hid (by rw [HR.out]; exact own_none hLp HLO.out)
      obtain ⟨x, hx⟩ : ∃ x, x = L.getD 0 0 := ⟨_, rfl⟩
      rw [← hx] at z0 HF
      have hL1 : (0 : Int) < (L.length : Int) := by omega
      have hcl : (L.length : Int) ≤ c := by omega
      clear hx hlo hb
      go_wp2_with fail
      go_ret2
      exact ⟨by rw [HF.out]; rfl, HK.out⟩
theorem rrnext_any (b : Nat) (L : List Int) (p : Int) (w : World) (h : RrAt w b L) :
    Calls Try.prog 14 #[.pointer (some ⟨b, 0, none⟩), .int .u32 p] w fun e w' => e = .returned (.tuple #[.int .u32 (nextR L p).1, .bool (nextR L p).2]) ∧ Below w.heap.size w w' := by
  have H := Lib.hid (rrowner_any b L ((p + 1) % 4294967296) w h)
  go_enter Try.func14, Try.ntmps14
  go_wp2_with fail
  refine H.out.mono ?_
  rintro e w1 ⟨rfl, hk⟩
  go_wp2_with fail
  go_ret2
  exact ⟨rfl, hk⟩
theorem span_here {L : List Int} (h : okR L) {p : Int} {k : Nat} (hk : k < L.length) (he : L.getD k 0 = p) : spanR L p = ((L.getD ((k + (L.length - 1)) % L.length) 0, p), true) := by
  have hq : (k + (L.length - 1)) % L.length < L.length := Nat.mod_lt _ (by omega)
  rw [← he, show L.getD k 0 = L[k] by simp [List.getD, hk], span_at h hk, show L.getD ((k + (L.length - 1)) % L.length) 0 = L[(k + (L.length - 1)) % L.length] by simp [List.getD, hq]]
theorem span_gone {L : List Int} {p : Int} (h : ∀ i, i < L.length → L.getD i 0 ≠ p) : spanR L p = ((0, 0), false) := by
  unfold spanR
  rw [if_neg]
  intro hc
  obtain ⟨i, hi, he⟩ := List.getElem_of_mem (by simpa using hc : p ∈ L)
  exact h i hi (by rw [← he]; simp [List.getD, hi])
end Go.Proofs.Ytgkfioloceemcaa
