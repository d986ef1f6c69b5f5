/- Walks of package cover: what Add calls: the closures, sort.Search, slices.Grow, slices.Concat. -/
import Derived.Test.YtbdijeekekaibaaCover2
namespace Go.Proofs.Ytbdijeekekaibaa
open Go.RowKit Cir Mem
set_option linter.unusedSimpArgs false
set_option linter.unusedVariables false
attribute [local irreducible] Go.Calls

/-- the variables that a closure of fill has -/
def Caps (w : World) (cb sb b : Nat) (x y : Int) (a : Option Addr) (n c : Nat) : Prop :=
  w.cell? ⟨cb, 0, none⟩ = some (.pointer (some ⟨b, 0, none⟩)) ∧ w.cell? ⟨sb, 0, none⟩ = some (.int .u64 x) ∧ w.cell? ⟨sb, 1, none⟩ = some (.int .u64 y) ∧ w.cell? ⟨b, 2, none⟩ = some (.slice a n c)
theorem Caps.keep {w w' : World} {cb sb b : Nat} {x y : Int} {a : Option Addr} {n c : Nat} (h : Caps w cb sb b x y a n c) (k : Below w.heap.size w w') : Caps w' cb sb b x y a n c :=
  ⟨kc k h.1, kc k h.2.1, kc k h.2.2.1, kc k h.2.2.2⟩
def Found (n : Nat) (p : Nat → Bool) (w : World) (e : Ending) (w' : World) : Prop :=
  ∃ r : Nat, e = .returned (.int .i64 r) ∧ r ≤ n ∧ (∀ k, k < r → p k = false) ∧ (r < n → p r = true) ∧ Below w.heap.size w w'
theorem mid_ij (i j : Nat) (h : i < j) (hj : j ≤ 1000000) : i ≤ (i + j) / 2 ∧ (i + j) / 2 < j := by omega

theorem cf1_any (cb sb b : Nat) (x y : Int) (B : Nat) (l : List (Int × Int)) (a : Option Addr) (c : Nat) (i : Nat) (w : World) (h : Caps w cb sb b x y a l.length c) (hr : Row (pairE .u64) 49 B w (.slice a l.length c) l)
    (hi : i < l.length) (hl : l.length ≤ 1000000) :
    Calls Try.prog 36 #[.int .i64 i, .pointer (some ⟨cb, 0, none⟩), .pointer (some ⟨sb, 0, none⟩)] w fun e w' => e = .returned (.bool (decide (x < (l.getD i (0, 0)).2))) ∧ Below w.heap.size w w' := by
  obtain ⟨g, c', hv, hg, _, _, hc⟩ := hr.pairs (by omega)
  injection hv with e1 e2 e3
  subst e1 e3
  have d := (hc i hi).2
  have h0 := h.1
  have h1 := h.2.1
  have h2 := h.2.2.2
  have hi2 : (i : Int) < (l.length : Int) := by omega
  generalize (l.getD i (0, 0)).2 = q at *
  clear hc hr h
  go_enter Try.func36, Try.ntmps36
  go_wp2_with fail
  refine Run.region_walk (S := fun z => z.cell? ⟨cb, 0, none⟩ = some (.pointer (some ⟨b, 0, none⟩)) ∧ z.cell? ⟨sb, 0, none⟩ = some (.int .u64 x) ∧ z.cell? ⟨b, 2, none⟩ = some (.slice (some ⟨g, 0, none⟩) l.length c) ∧ z.cell? ⟨g, i * 2 + 1, none⟩ = some (.int .u64 q) ∧ Below w.heap.size w z)
    cf1.rows1 cf1.plan1 (l := ?steps9) (by kernel_rfl) (by kernel_rfl) (by kernel_rfl) (by kernel_rfl) ?written9 ⟨h0, h1, h2, d, (Below.refl _ _).drew⟩ ?onward9
  case written9 =>
    simp only [cf1.plan1, Run.stepsOf, Run.stepOf, Run.guardOf, List.getElem?_toArray, List.getElem?_cons_zero, List.getElem?_cons_succ, Option.map_some, Option.map_none, Option.bind_some, Option.toList_some, List.map_cons, List.map_nil, List.cons_append, List.nil_append]
    rfl
  repeat ((first
    | (refine Run.takes (v := ?_) ?_ ?_; rotate_left; (· intro w' hS'; go_simp; (try with_reducible rfl)))
    | (refine Run.takesG (v := ?_) ?_ ?_ ?_; rotate_left; (· simp only [List.getElem?_cons_zero, List.getElem?_cons_succ]); (· intro w' hS'; go_simp; (try with_reducible rfl)))
    | (refine Run.skipsT ?_ ?_; (· simp only [List.getElem?_cons_zero, List.getElem?_cons_succ]))
    | (refine Run.skipsF ?_ ?_; (· simp only [List.getElem?_cons_zero, List.getElem?_cons_succ]))
    | (refine Run.skipsU ?_ ?_; (· simp only [List.getElem?_cons_zero, List.getElem?_cons_succ]))
    | (refine Run.passT ?_ ?_; (· simp only [List.getElem?_cons_zero, List.getElem?_cons_succ]))
    | (refine Run.passF ?_ ?_; (· simp only [List.getElem?_cons_zero, List.getElem?_cons_succ]))
    | (refine Run.passU ?_ ?_; (· simp only [List.getElem?_cons_zero, List.getElem?_cons_succ]))
    | fail); simp only [Act.put, List.setIfInBounds_toArray, List.set_cons_zero, List.set_cons_succ])
  refine Run.ends (fun hS => ?_)
  go_wp2_with fail
  go_ret
  exact ⟨rfl, hS.2.2.2.2⟩

set_option maxHeartbeats 1000000 in
theorem cf1_search (cb sb b : Nat) (x y : Int) (B : Nat) (l : List (Int × Int)) (a : Option Addr) (c : Nat) (w : World) (h : Caps w cb sb b x y a l.length c) (hr : Row (pairE .u64) 49 B w (.slice a l.length c) l)
    (hl : l.length ≤ 1000000) (hm : ∀ i j, i ≤ j → j < l.length → decide (x < (l.getD i (0, 0)).2) = true → decide (x < (l.getD j (0, 0)).2) = true) :
    Calls Try.prog 35 #[.int .i64 l.length, .func (.func 36) #[] #[.pointer (some ⟨cb, 0, none⟩), .pointer (some ⟨sb, 0, none⟩)]] w (Found l.length (fun i => decide (x < (l.getD i (0, 0)).2)) w) := by
  have HM := Lib.hid hm
  clear hm
  go_enter Try.func35, Try.ntmps35
  go_wp2_with fail
  go_loopw [5, 6] (fun iv jv wr => ∃ i j : Nat, i ≤ j ∧ j ≤ l.length ∧ iv = .int .i64 i ∧ jv = .int .i64 j ∧ Below w.heap.size w wr ∧ (∀ k, k < i → (fun i => decide (x < (l.getD i (0, 0)).2)) k = false) ∧ (j < l.length → (fun i => decide (x < (l.getD i (0, 0)).2)) j = true)) (fun iv jv _ => (intOf jv).toNat - (intOf iv).toNat)
  case atStart => exact ⟨0, l.length, Nat.zero_le _, Nat.le_refl _, rfl, rfl, Below.refl _ _, fun k hk => absurd hk (by omega), fun h => absurd h (by omega)⟩
  case round =>
    obtain ⟨i, j, hij, hjl, rfl, rfl, hb, hlo, hhi⟩ := hrel
    have HLO := Lib.hid hlo
    have HHI := Lib.hid hhi
    clear hlo hhi
    by_cases hlt : i < j
    · have hmid := mid_ij i j hlt (by omega)
      go_wp2_with fail
      rw [show ((i : Int) + (j : Int)) / 2 = (((i + j) / 2 : Nat) : Int) from by omega]
      generalize (i + j) / 2 = m at *
      refine (cf1_any cb sb b x y B l a c m wr (h.keep hb) (hr.keep hb) (by omega) hl).mono ?_
      rintro e w' ⟨rfl, hk⟩
      have hb2 := nest hb hk
      have HP := Lib.hid (HM.out)
      generalize hp : (fun i => decide (x < (l.getD i (0, 0)).2)) m = p
      have HQ := Lib.hid hp
      simp only [] at hp
      rw [hp]
      clear hp
      cases p
      · go_wp2_with fail
        go_roundw
        case rel =>
          refine ⟨m + 1, j, by omega, hjl, by go_num, rfl, hb2, fun k hk => ?_, HHI.out⟩
          cases hkk : (fun i => decide (x < (l.getD i (0, 0)).2)) k
          · exact hkk
          · have := HM.out k m (by omega) (by omega) hkk
            exact absurd (this.symm.trans HQ.out) (by decide)
        case measure => simp [intOf]; omega
      · go_wp2_with fail
        go_roundw
        case rel => exact ⟨i, m, by omega, by omega, rfl, rfl, hb2, HLO.out, fun _ => HQ.out⟩
        case measure => simp [intOf]; omega
    · have hij2 : i = j := by omega
      subst hij2
      go_wp2_with fail
      go_ret
      exact ⟨i, rfl, hjl, HLO.out, HHI.out, hb⟩

theorem cf2_any (cb sb b : Nat) (x y : Int) (B : Nat) (l : List (Int × Int)) (a : Option Addr) (c : Nat) (i : Nat) (w : World) (h : Caps w cb sb b x y a l.length c) (hr : Row (pairE .u64) 49 B w (.slice a l.length c) l)
    (hi : i < l.length) (hl : l.length ≤ 1000000) :
    Calls Try.prog 37 #[.int .i64 i, .pointer (some ⟨cb, 0, none⟩), .pointer (some ⟨sb, 0, none⟩)] w fun e w' => e = .returned (.bool (decide (y ≤ (l.getD i (0, 0)).1))) ∧ Below w.heap.size w w' := by
  obtain ⟨g, c', hv, hg, _, _, hc⟩ := hr.pairs (by omega)
  injection hv with e1 e2 e3
  subst e1 e3
  have d := (hc i hi).1
  have h0 := h.1
  have h1 := h.2.2.1
  have h2 := h.2.2.2
  have hi2 : (i : Int) < (l.length : Int) := by omega
  generalize (l.getD i (0, 0)).1 = q at *
  clear hc hr h
  go_enter Try.func37, Try.ntmps37
  go_wp2_with fail
  refine Run.region_walk (S := fun z => z.cell? ⟨cb, 0, none⟩ = some (.pointer (some ⟨b, 0, none⟩)) ∧ z.cell? ⟨sb, 1, none⟩ = some (.int .u64 y) ∧ z.cell? ⟨b, 2, none⟩ = some (.slice (some ⟨g, 0, none⟩) l.length c) ∧ z.cell? ⟨g, i * 2, none⟩ = some (.int .u64 q) ∧ Below w.heap.size w z)
    cf2.rows1 cf2.plan1 (l := ?steps10) (by kernel_rfl) (by kernel_rfl) (by kernel_rfl) (by kernel_rfl) ?written10 ⟨h0, h1, h2, d, (Below.refl _ _).drew⟩ ?onward10
  case written10 =>
    simp only [cf2.plan1, Run.stepsOf, Run.stepOf, Run.guardOf, List.getElem?_toArray, List.getElem?_cons_zero, List.getElem?_cons_succ, Option.map_some, Option.map_none, Option.bind_some, Option.toList_some, List.map_cons, List.map_nil, List.cons_append, List.nil_append]
    rfl
  repeat ((first
    | (refine Run.takes (v := ?_) ?_ ?_; rotate_left; (· intro w' hS'; go_simp; (try with_reducible rfl)))
    | (refine Run.takesG (v := ?_) ?_ ?_ ?_; rotate_left; (· simp only [List.getElem?_cons_zero, List.getElem?_cons_succ]); (· intro w' hS'; go_simp; (try with_reducible rfl)))
    | (refine Run.skipsT ?_ ?_; (· simp only [List.getElem?_cons_zero, List.getElem?_cons_succ]))
    | (refine Run.skipsF ?_ ?_; (· simp only [List.getElem?_cons_zero, List.getElem?_cons_succ]))
    | (refine Run.skipsU ?_ ?_; (· simp only [List.getElem?_cons_zero, List.getElem?_cons_succ]))
    | (refine Run.passT ?_ ?_; (· simp only [List.getElem?_cons_zero, List.getElem?_cons_succ]))
    | (refine Run.passF ?_ ?_; (· simp only [List.getElem?_cons_zero, List.getElem?_cons_succ]))
    | (refine Run.passU ?_ ?_; (· simp only [List.getElem?_cons_zero, List.getElem?_cons_succ]))
    | fail); simp only [Act.put, List.setIfInBounds_toArray, List.set_cons_zero, List.set_cons_succ])
  refine Run.ends (fun hS => ?_)
  go_wp2_with fail
  go_ret
  exact ⟨rfl, hS.2.2.2.2⟩

set_option maxHeartbeats 1000000 in
theorem cf2_search (cb sb b : Nat) (x y : Int) (B : Nat) (l : List (Int × Int)) (a : Option Addr) (c : Nat) (w : World) (h : Caps w cb sb b x y a l.length c) (hr : Row (pairE .u64) 49 B w (.slice a l.length c) l)
    (hl : l.length ≤ 1000000) (hm : ∀ i j, i ≤ j → j < l.length → decide (y ≤ (l.getD i (0, 0)).1) = true → decide (y ≤ (l.getD j (0, 0)).1) = true) :
    Calls Try.prog 35 #[.int .i64 l.length, .func (.func 37) #[] #[.pointer (some ⟨cb, 0, none⟩), .pointer (some ⟨sb, 0, none⟩)]] w (Found l.length (fun i => decide (y ≤ (l.getD i (0, 0)).1)) w) := by
  have HM := Lib.hid hm
  clear hm
  go_enter Try.func35, Try.ntmps35
  go_wp2_with fail
  go_loopw [5, 6] (fun iv jv wr => ∃ i j : Nat, i ≤ j ∧ j ≤ l.length ∧ iv = .int .i64 i ∧ jv = .int .i64 j ∧ Below w.heap.size w wr ∧ (∀ k, k < i → (fun i => decide (y ≤ (l.getD i (0, 0)).1)) k = false) ∧ (j < l.length → (fun i => decide (y ≤ (l.getD i (0, 0)).1)) j = true)) (fun iv jv _ => (intOf jv).toNat - (intOf iv).toNat)
  case atStart => exact ⟨0, l.length, Nat.zero_le _, Nat.le_refl _, rfl, rfl, Below.refl _ _, fun k hk => absurd hk (by omega), fun h => absurd h (by omega)⟩
  case round =>
    obtain ⟨i, j, hij, hjl, rfl, rfl, hb, hlo, hhi⟩ := hrel
    have HLO := Lib.hid hlo
    have HHI := Lib.hid hhi
    clear hlo hhi
    by_cases hlt : i < j
    · have hmid := mid_ij i j hlt (by omega)
      go_wp2_with fail
      rw [show ((i : Int) + (j : Int)) / 2 = (((i + j) / 2 : Nat) : Int) from by omega]
      generalize (i + j) / 2 = m at *
      refine (cf2_any cb sb b x y B l a c m wr (h.keep hb) (hr.keep hb) (by omega) hl).mono ?_
      rintro e w' ⟨rfl, hk⟩
      have hb2 := nest hb hk
      have HP := Lib.hid (HM.out)
      generalize hp : (fun i => decide (y ≤ (l.getD i (0, 0)).1)) m = p
      have HQ := Lib.hid hp
      simp only [] at hp
      rw [hp]
      clear hp
      cases p
      · go_wp2_with fail
        go_roundw
        case rel =>
          refine ⟨m + 1, j, by omega, hjl, by go_num, rfl, hb2, fun k hk => ?_, HHI.out⟩
          cases hkk : (fun i => decide (y ≤ (l.getD i (0, 0)).1)) k
          · exact hkk
          · have := HM.out k m (by omega) (by omega) hkk
            exact absurd (this.symm.trans HQ.out) (by decide)
        case measure => simp [intOf]; omega
      · go_wp2_with fail
        go_roundw
        case rel => exact ⟨i, m, by omega, by omega, rfl, rfl, hb2, HLO.out, fun _ => HQ.out⟩
        case measure => simp [intOf]; omega
    · have hij2 : i = j := by omega
      subst hij2
      go_wp2_with fail
      go_ret
      exact ⟨i, rfl, hjl, HLO.out, HHI.out, hb⟩


def GrowPost (w : World) (e : Ending) (w' : World) : Prop := ∃ v, e = .returned v ∧ Row (pairE .u64) 49 w.heap.size w' v [] ∧ Below w.heap.size w w'
theorem grow_zero (w : World) : Calls Try.prog 39 #[.slice none 0 0, .int .i64 0] w (GrowPost w) := by
  go_enter Try.func39, Try.ntmps39
  go_wp2
  go_ret
  exact ⟨_, rfl, Row.nil, Below.refl _ _⟩
theorem grow_some (n : Nat) (hn : 0 < n) (hn1 : n ≤ 10000000) (w : World) : Calls Try.prog 39 #[.slice none 0 0, .int .i64 n] w (GrowPost w) := by
  have hn2 : (0 : Int) < (n : Int) := by omega
  go_enter Try.func39, Try.ntmps39
  go_wp2_with (at_builtin; go_must (refine wpList_append_make stretchElem Try.underlying3 Nat.zero_lt_two rfl (.tmp 20) (.tmp 21) rfl n rfl rfl hn (by omega) (by omega) ?_); intro cap cur h1 h2 h3)
  go_ret
  exact ⟨_, rfl, World.ownsRow_made w.drew cur cap (Nat.le_refl _) h2 h3, (Below.refl _ _).drew.alloc (Nat.le_refl _) _⟩

/-- slices in a row, each of which reads as a list -/
def Slices (w : World) (q : Nat) (ss : List Value) (ls : List (List (Int × Int))) : Prop :=
  ss.length = ls.length ∧ ∀ i, i < ls.length → w.cell? ⟨q, i, none⟩ = some (ss.getD i undef) ∧ Rd (pairE .u64) w (ss.getD i undef) (ls.getD i [])
def tot (ls : List (List (Int × Int))) : Nat := (ls.map List.length).sum
theorem tot_take (ls : List (List (Int × Int))) (k : Nat) (h : k < ls.length) : tot (ls.take (k + 1)) = tot (ls.take k) + (ls.getD k []).length := by
  unfold tot
  rw [List.take_succ_eq_append_getElem h, List.map_append, List.sum_append]
  simp [h]
theorem tot_le (ls : List (List (Int × Int))) (k : Nat) : tot (ls.take k) ≤ tot ls := by
  unfold tot
  conv => rhs; rw [← List.take_append_drop k ls]
  rw [List.map_append, List.sum_append]
  omega
theorem flatten_take (ls : List (List (Int × Int))) (k : Nat) (h : k < ls.length) : (ls.take (k + 1)).flatten = (ls.take k).flatten ++ ls.getD k [] := by
  rw [List.take_succ_eq_append_getElem h, List.flatten_append]
  simp [h]
theorem flatten_len (ls : List (List (Int × Int))) : ls.flatten.length = tot ls := by simp [tot, List.length_flatten]
theorem Slices.keep {w w' : World} {q : Nat} {ss : List Value} {ls : List (List (Int × Int))} (h : Slices w q ss ls) (k : Below w.heap.size w w') : Slices w' q ss ls :=
  ⟨h.1, fun i hi => ⟨kc k (h.2 i hi).1, (h.2 i hi).2.keep k⟩⟩
def ConcatPost (w : World) (l : List (Int × Int)) (e : Ending) (w' : World) : Prop := ∃ v, e = .returned v ∧ Row (pairE .u64) 49 w.heap.size w' v l ∧ Below w.heap.size w w'
theorem grow_any (n : Nat) (hn1 : n ≤ 10000000) (w : World) : Calls Try.prog 39 #[.slice none 0 0, .int .i64 n] w (GrowPost w) := by
  by_cases h : n = 0
  · subst h; exact grow_zero w
  · exact grow_some n (by omega) hn1 w

set_option maxHeartbeats 1000000 in
theorem concat_any (q n : Nat) (ss : List Value) (ls : List (List (Int × Int))) (w : World) (h : Slices w q ss ls) (hn : ls.length = n) (hn1 : n ≤ 100) (ht : tot ls ≤ 10000000) :
    Calls Try.prog 38 #[.slice (some ⟨q, 0, none⟩) n n] w (ConcatPost w ls.flatten) := by
  have HN := Lib.hid hn
  clear hn
  go_enter Try.func38, Try.ntmps38
  go_wp2_with fail
  go_loop [3, 11] (fun s i => ∃ k : Nat, k ≤ n ∧ i = .int .i64 k ∧ s = .int .i64 (tot (ls.take k) : Nat)) (fun _ i => n - (intOf i).toNat)
  case atStart => exact ⟨0, Nat.zero_le _, rfl, by simp [tot]⟩
  case round =>
    obtain ⟨k, hk, rfl, rfl⟩ := hrel
    have htk := tot_le ls k
    by_cases hlt : k < n
    · have hkl : k < ls.length := by rw [HN.out]; exact hlt
      obtain ⟨hc, hrd⟩ := h.2 k hkl
      have HT := Lib.hid (tot_take ls k hkl)
      have ht2 := tot_le ls (k + 1)
      rw [tot_take ls k hkl] at ht2
      generalize ls.getD k [] = m at *
      generalize ss.getD k undef = sv at *
      obtain ⟨a, c, rfl, _, _⟩ := hrd.form
      generalize tot (ls.take k) = tk at *
      clear hrd
      have b2 : ((tk : Int) + (m.length : Int)) ≤ 10000000 := by omega
      have b3 : ¬ ((tk : Int) + (m.length : Int) < 0) := by omega
      go_wp2
      go_round
      case rel => exact ⟨k + 1, by omega, by go_num, by rw [HT.out]; rfl⟩
      case measure => simp [intOf]; omega
    · have hkn : k = n := by omega
      subst hkn
      have e1 : ls.take k = ls := by rw [← HN.out, List.take_length]
      rw [e1]
      clear e1 htk
      go_wp2_with (go_at_call 39; refine (grow_any (tot ls) ht _).mono ?_; rintro e x ⟨v, rfl, hr0, hb0⟩)
      go_loopw [6, 27] (fun o i wr => ∃ j : Nat, j ≤ k ∧ i = .int .i64 j ∧ Row (pairE .u64) 49 w.heap.size wr o (ls.take j).flatten ∧ Below w.heap.size w wr) (fun _ i _ => k - (intOf i).toNat)
      case atStart => exact ⟨0, Nat.zero_le _, rfl, by simpa using hr0, hb0⟩
      case round =>
        obtain ⟨j, hj, rfl, hro, hb⟩ := hrel
        by_cases hlt2 : j < k
        · have hjl : j < ls.length := by rw [HN.out]; exact hlt2
          obtain ⟨hc, hrd⟩ := (h.keep hb).2 j hjl
          have HT := Lib.hid (flatten_take ls j hjl)
          have ht2 : (ls.take j).flatten.length + (ls.getD j []).length ≤ 10000000 := by
            have h1 := tot_le ls (j + 1)
            rw [tot_take ls j hjl] at h1
            rw [flatten_len]
            omega
          generalize ls.getD j [] = m at *
          generalize ss.getD j undef = sv at *
          obtain ⟨a, c, rfl, _, _⟩ := hrd.form
          generalize (ls.take j).flatten = fl at *
          go_wp2_with (at_builtin; go_must (refine wpList_append (E := pairE .u64) (B := w.heap.size) (l := fl) (m := m) (bytes := 16) stretchElem Nat.zero_lt_two rfl (.tmp 31) (.tmp 32) rfl rfl hro rfl hrd (by simp [maxLen]; omega) (by omega) hb.size ?_); intro v9 y hr9 hk9 hg9 _)
          go_roundw
          case rel => exact ⟨j + 1, by omega, by go_num, by rw [HT.out]; exact hr9, hb.trans hk9⟩
          case measure => simp [intOf]; omega
        · have hjk : j = k := by omega
          subst hjk
          have e1 : ls.take j = ls := by rw [← HN.out, List.take_length]
          rw [e1] at hro
          clear e1
          go_wp2_with fail
          go_ret
          exact ⟨_, rfl, hro, hb⟩

end Go.Proofs.Ytbdijeekekaibaa
