/- Library functions at []uint32: BinarySearch, Grow, Concat. -/
import Derived.Test.YtgkfioloceemcaaNums
import Derived.Test.YtgkfioloceemcaaBytes
import Derived.Test.YtgkfioloceemcaaRgMath
import Derived.Deep.DeepCutAuto
import Derived.Deep.CutBlock
import Derived.Deep.Light
import Derived.Laws.Shifts
set_option maxRecDepth 4000
namespace Go.Proofs.Ytgkfioloceemcaa
open Go.RowKit Mem
set_option linter.unusedSimpArgs false
set_option linter.unusedVariables false
attribute [local irreducible] Go.Calls

/-! ### where a number stands -/
theorem low_at {L : List Int} (h : L.Pairwise (· < ·)) (p : Int) {i : Nat} (hi : i < L.length) : L.getD i 0 < p ↔ i < (lowR L p).length := by
  have e := split_R h p
  have hL : L.getD i 0 = L[i] := by simp [List.getD, hi]
  rw [hL]
  have hg : L[i]? = (lowR L p ++ ((if L.contains p then [p] else []) ++ upR L p))[i]? := by rw [← e]
  rw [List.getElem?_eq_getElem hi] at hg
  constructor
  · intro hlt
    refine Nat.lt_of_not_le fun hge => ?_
    rw [List.getElem?_append_right hge] at hg
    have hm := List.mem_of_getElem? hg.symm
    rcases List.mem_append.1 hm with hm | hm
    · split at hm
      · have := List.mem_singleton.1 hm; omega
      · cases hm
    · have := (upR_mem.1 hm).2; omega
  · intro hlt
    rw [List.getElem?_append_left hlt] at hg
    exact (lowR_mem.1 (List.mem_of_getElem? hg.symm)).2
theorem low_len (L : List Int) (p : Int) : (lowR L p).length ≤ L.length := List.length_filter_le _ _
theorem low_there {L : List Int} (h : L.Pairwise (· < ·)) (p : Int) : L.contains p = decide ((lowR L p).length < L.length ∧ L.getD (lowR L p).length 0 = p) := by
  have e := split_R h p
  have hl := congrArg List.length e
  simp only [List.length_append] at hl
  rw [Bool.eq_iff_iff, decide_eq_true_iff]
  constructor
  · intro hc
    rw [if_pos hc] at e hl
    simp only [List.length_cons, List.length_nil] at hl
    refine ⟨by omega, ?_⟩
    rw [List.getD_eq_getElem?_getD]
    conv => lhs; arg 1; arg 1; rw [e]
    rw [List.getElem?_append_right (Nat.le_refl _), Nat.sub_self]
    rfl
  · rintro ⟨h1, h2⟩
    rw [List.contains_iff_mem, ← h2]
    rw [show L.getD (lowR L p).length 0 = L[(lowR L p).length] by simp [List.getD, h1]]
    exact List.getElem_mem h1
theorem snan32_any (x : Int) (w : World) : Calls Try.prog 32 #[.int .u32 x] w fun e w' => e = .returned (.bool false) ∧ w' = w := by
  go_enter Try.func32, Try.ntmps32
  go_wp2_with fail
  go_ret
  exact ⟨by simp, rfl⟩
set_option maxHeartbeats 1000000 in
set_option maxRecDepth 100000 in
theorem bsearch32_any (v : Value) (L : List Int) (p : Int) (w : World) (h : Rd (intE .u32) w v L) (hL : L.Pairwise (· < ·)) (hn : L.length ≤ 1000000) :
    Calls Try.prog 21 #[v, .int .u32 p] w fun e w' => e = .returned (.tuple #[.int .i64 (lowR L p).length, .bool (L.contains p)]) ∧ w' = w := by
  obtain ⟨a, g, o, c, rfl, hc, hm, ha, hk⟩ := Mem.Rd.loopI h
  have hlow := fun i (hi : i < L.length) => low_at hL p hi
  have hle := low_len L p
  have ht := low_there hL p
  have HT := Lib.hid ht
  clear ht h
  generalize (lowR L p).length = K at *
  have hm' : c ≤ 9223372036854775807 := hm
  obtain ⟨N, hN⟩ : ∃ N, N = L.length := ⟨_, rfl⟩
  rw [← hN] at hle hc hn
  have HN := Lib.hid hN
  rw [← hN] at hlow hk ha ⊢
  have HLOW := Lib.hid hlow
  have HK := Lib.hid hk
  have HA := Lib.hid ha
  obtain ⟨RES, hRES⟩ : ∃ r, r = L.contains p := ⟨_, rfl⟩
  rw [← hRES]
  have HRES := Lib.hid (hRES.trans HT.out)
  clear hlow hk ha hN HT hRES hL
  go_enter Try.func21, Try.ntmps21
  go_wp2_with fail
  go_loop [7, 8] (fun i j => ∃ s t : Nat, s ≤ K ∧ K ≤ t ∧ t ≤ N ∧ i = .int .i64 s ∧ j = .int .i64 t) (fun i j => (intOf j).toNat - (intOf i).toNat)
  case atStart => exact ⟨0, N, Nat.zero_le _, hle, Nat.le_refl _, rfl, rfl⟩
  case round =>
    obtain ⟨s, t, hs, ht, htn, rfl, rfl⟩ := hrel
    by_cases hst : s < t
    · obtain ⟨m, hmid⟩ : ∃ m, m = (s + t) / 2 := ⟨_, rfl⟩
      have hm1 : s ≤ m := by omega
      have hm2 : m < t := by omega
      have hmN : m < N := by omega
      have hA : a = some ⟨g, o, none⟩ := (HA.out (by omega)).1
      subst hA
      have hcell := HK.out m hmN
      have hl := HLOW.out m hmN
      have hmid2 : ((s : Int) + (t : Int)) / 2 = (m : Int) := by omega
      clear hmid
      generalize hx : L.getD m 0 = x at *
      have HX := Lib.hid hx
      clear hx
      have hst' : (s : Int) < (t : Int) := by omega
      have hidx : (m : Int) < (N : Int) := by omega
      by_cases hxp : x < p
      · have hmK : m < K := hl.1 hxp
        clear hl
        go_wp2_with (go_at_call 31; refine (less32_any _ _ _).mono ?_; rintro e w' ⟨rfl, rfl⟩)
        go_round
        case rel => exact ⟨m + 1, t, by omega, ht, htn, by go_num, rfl⟩
        case measure => simp [intOf]; omega
      · have hmK : K ≤ m := by omega
        clear hl
        go_wp2_with (go_at_call 31; refine (less32_any _ _ _).mono ?_; rintro e w' ⟨rfl, rfl⟩)
        go_round
        case rel => exact ⟨s, m, hs, hmK, by omega, rfl, rfl⟩
        case measure => simp [intOf]; omega
    · have hsK : s = K := by omega
      have htK : t = K := by omega
      subst hsK htK
      by_cases hKN : t < N
      · have hA : a = some ⟨g, o, none⟩ := (HA.out (by omega)).1
        subst hA
        have hcell := HK.out t hKN
        have hidx : (t : Int) < (N : Int) := by omega
        have HRS := HRES.out
        generalize L.getD t 0 = x at *
        by_cases hxp : x = p
        · have HRT := Lib.hid (HRS.trans (decide_eq_true ⟨by rw [← HN.out]; exact hKN, hxp⟩))
          have hxq : (x == p) = true := by simpa using hxp
          clear HRS
          go_wp2_with fail
          go_ret2
          exact ⟨by rw [HRT.out]; rfl, rfl⟩
        · have HRT := Lib.hid (HRS.trans (decide_eq_false (fun h => hxp h.2)))
          have hxq : (x == p) = false := by simpa using hxp
          clear HRS
          go_wp2_with (go_at_call 32; refine (snan32_any _ _).mono ?_; rintro e w' ⟨rfl, rfl⟩)
          go_ret2
          exact ⟨by rw [HRT.out]; rfl, rfl⟩
      · have HRT := Lib.hid (HRES.out.trans (decide_eq_false (fun h => hKN (by rw [HN.out]; exact h.1))))
        have hidx : ¬ (t : Int) < (N : Int) := by omega
        go_wp2_with fail
        go_ret2
        exact ⟨by rw [HRT.out]; rfl, rfl⟩
/-! ### slices.Grow, slices.Concat -/
def UGrowPost32 (w : World) (e : Ending) (w' : World) : Prop := ∃ v, e = .returned v ∧ Row (intE .u32) 24 w.heap.size w' v [] ∧ Below w.heap.size w w'
theorem ugrow_zero32 (w : World) : Calls Try.prog 33 #[.slice none 0 0, .int .i64 0] w (UGrowPost32 w) := by
  go_enter Try.func33, Try.ntmps33
  go_wp2
  go_ret
  exact ⟨_, rfl, Row.nil, Below.refl _ _⟩
theorem ugrow_some32 (n : Nat) (hn : 0 < n) (hn1 : n ≤ 10000000) (w : World) : Calls Try.prog 33 #[.slice none 0 0, .int .i64 n] w (UGrowPost32 w) := by
  have hn2 : (0 : Int) < (n : Int) := by omega
  go_enter Try.func33, Try.ntmps33
  go_wp2_with (at_builtin; go_must (refine wpList_append_make u32Elem32 Try.underlying3 Nat.zero_lt_one rfl (.tmp 20) (.tmp 21) rfl n rfl rfl hn (by omega) (by omega) ?_); intro cap cur h1 h2 h3)
  go_ret
  exact ⟨_, rfl, World.ownsRow_made w.drew cur cap (Nat.le_refl _) h2 h3, (Below.refl _ _).drew.alloc (Nat.le_refl _) _⟩
theorem ugrow32_any (n : Nat) (hn1 : n ≤ 10000000) (w : World) : Calls Try.prog 33 #[.slice none 0 0, .int .i64 n] w (UGrowPost32 w) := by
  by_cases h : n = 0
  · subst h; exact ugrow_zero32 w
  · exact ugrow_some32 n (by omega) hn1 w
/-- slices in a row, each of which reads as a list -/
def USlices32 (w : World) (q : Nat) (ss : List Value) (ls : List (List Int)) : Prop :=
  ss.length = ls.length ∧ ∀ i, i < ls.length → w.cell? ⟨q, i, none⟩ = some (ss.getD i undef) ∧ Rd (intE .u32) w (ss.getD i undef) (ls.getD i [])
def utot32 (ls : List (List Int)) : Nat := (ls.map List.length).sum
theorem utot_take32 (ls : List (List Int)) (k : Nat) (h : k < ls.length) : utot32 (ls.take (k + 1)) = utot32 (ls.take k) + (ls.getD k []).length := by
  unfold utot32
  rw [List.take_succ_eq_append_getElem h, List.map_append, List.sum_append]
  simp [h]
theorem utot_le32 (ls : List (List Int)) (k : Nat) : utot32 (ls.take k) ≤ utot32 ls := by
  unfold utot32
  conv => rhs; rw [← List.take_append_drop k ls]
  rw [List.map_append, List.sum_append]
  omega
theorem uflatten_take32 (ls : List (List Int)) (k : Nat) (h : k < ls.length) : (ls.take (k + 1)).flatten = (ls.take k).flatten ++ ls.getD k [] := by
  rw [List.take_succ_eq_append_getElem h, List.flatten_append]
  simp [h]
theorem uflatten_len32 (ls : List (List Int)) : ls.flatten.length = utot32 ls := by simp [utot32, List.length_flatten]
theorem USlices32.keep {w w' : World} {q : Nat} {ss : List Value} {ls : List (List Int)} (h : USlices32 w q ss ls) (k : Below w.heap.size w w') : USlices32 w' q ss ls :=
  ⟨h.1, fun i hi => ⟨kc k (h.2 i hi).1, (h.2 i hi).2.keep k⟩⟩
def UConcatPost32 (w : World) (l : List Int) (e : Ending) (w' : World) : Prop := ∃ v, e = .returned v ∧ Row (intE .u32) 24 w.heap.size w' v l ∧ Below w.heap.size w w'
set_option maxHeartbeats 1000000 in
theorem uconcat32_any (q n : Nat) (ss : List Value) (ls : List (List Int)) (w : World) (h : USlices32 w q ss ls) (hn : ls.length = n) (hn1 : n ≤ 100) (ht : utot32 ls ≤ 1000000) :
    Calls Try.prog 22 #[.slice (some ⟨q, 0, none⟩) n n] w (UConcatPost32 w ls.flatten) := by
  have HN := Lib.hid hn
  clear hn
  go_enter Try.func22, Try.ntmps22
  go_wp2_with fail
  go_loop [3, 11] (fun s i => ∃ k : Nat, k ≤ n ∧ i = .int .i64 k ∧ s = .int .i64 (utot32 (ls.take k) : Nat)) (fun _ i => n - (intOf i).toNat)
  case atStart => exact ⟨0, Nat.zero_le _, rfl, by simp [utot32]⟩
  case round =>
    obtain ⟨k, hk, rfl, rfl⟩ := hrel
    have htk := utot_le32 ls k
    by_cases hlt : k < n
    · have hkl : k < ls.length := by rw [HN.out]; exact hlt
      obtain ⟨hc, hrd⟩ := h.2 k hkl
      have HT := Lib.hid (utot_take32 ls k hkl)
      have ht2 := utot_le32 ls (k + 1)
      rw [utot_take32 ls k hkl] at ht2
      generalize ls.getD k [] = m at *
      generalize ss.getD k undef = sv at *
      obtain ⟨a, c, rfl, _, _⟩ := hrd.form
      generalize utot32 (ls.take k) = tk at *
      clear hrd
      have b2 : ((tk : Int) + (m.length : Int)) ≤ 1000000 := by omega
      have b3 : ¬ ((tk : Int) + (m.length : Int) < 0) := by omega
      go_wp2
      go_round
      case rel => exact ⟨k + 1, by omega, by go_num, by rw [HT.out]; rfl⟩
      case measure => simp [intOf]; omega
    · have hkn : k = n := by omega
      subst hkn
      have e1 : ls.take k = ls := by rw [← HN.out, List.take_length]
      rw [e1]
      clear e1 htk
      go_wp2_with (go_at_call 33; refine (ugrow32_any (utot32 ls) (by omega) _).mono ?_; rintro e x ⟨v, rfl, hr0, hb0⟩)
      go_loopw [6, 27] (fun o i wr => ∃ j : Nat, j ≤ k ∧ i = .int .i64 j ∧ Row (intE .u32) 24 w.heap.size wr o (ls.take j).flatten ∧ Below w.heap.size w wr) (fun _ i _ => k - (intOf i).toNat)
      case atStart => exact ⟨0, Nat.zero_le _, rfl, by simpa using hr0, hb0⟩
      case round =>
        obtain ⟨j, hj, rfl, hro, hb⟩ := hrel
        by_cases hlt2 : j < k
        · have hjl : j < ls.length := by rw [HN.out]; exact hlt2
          obtain ⟨hc, hrd⟩ := (h.keep hb).2 j hjl
          have HT := Lib.hid (uflatten_take32 ls j hjl)
          have ht2 : (ls.take j).flatten.length + (ls.getD j []).length ≤ 1000000 := by
            have h1 := utot_le32 ls (j + 1)
            rw [utot_take32 ls j hjl] at h1
            rw [uflatten_len32]
            omega
          generalize ls.getD j [] = m at *
          generalize ss.getD j undef = sv at *
          obtain ⟨a, c, rfl, _, _⟩ := hrd.form
          generalize (ls.take j).flatten = fl at *
          go_wp2_with (at_builtin; go_must (refine wpList_append (E := intE .u32) (B := w.heap.size) (l := fl) (m := m) (bytes := 4) u32Elem32 Nat.zero_lt_one rfl (.tmp 31) (.tmp 32) rfl rfl hro rfl hrd (by simp [maxLen]; omega) (by omega) hb.size ?_); intro v9 y hr9 hk9 hg9 _)
          go_roundw
          case rel => exact ⟨j + 1, by omega, by go_num, by rw [HT.out]; exact hr9, hb.trans hk9⟩
          case measure => simp [intOf]; omega
        · have hjk : j = k := by omega
          subst hjk
          have e1 : ls.take j = ls := by rw [← HN.out, List.take_length]
          rw [e1] at hro
          clear e1
          go_wp2_with fail
          go_ret
          exact ⟨_, rfl, hro, hb⟩

/-! ### slices.MinFunc -/
theorem min_step {L : List Int} {k : Int → Int} {j : Nat} (hj : j < L.length) {x : Int} (hx : x ∈ L) (h : ∀ y ∈ L.take j, k x ≤ k y) (y : Int) (hy : y = L.getD j 0) :
    (k y < k x → y ∈ L ∧ ∀ z ∈ L.take (j + 1), k y ≤ k z) ∧ (¬ k y < k x → ∀ z ∈ L.take (j + 1), k x ≤ k z) := by
  have e : L.getD j 0 = L[j] := by simp [List.getD, hj]
  rw [e] at hy
  have ht : L.take (j + 1) = L.take j ++ [y] := by rw [List.take_add_one, List.getElem?_eq_getElem hj, Option.toList_some, hy]
  rw [ht]
  refine ⟨fun hlt => ⟨hy ▸ List.getElem_mem hj, fun z hz => ?_⟩, fun hlt z hz => ?_⟩
  · rcases List.mem_append.1 hz with hz | hz
    · have := h z hz; omega
    · rw [List.mem_singleton.1 hz]; exact Int.le_refl _
  · rcases List.mem_append.1 hz with hz | hz
    · exact h z hz
    · rw [List.mem_singleton.1 hz]; omega
set_option maxHeartbeats 1000000 in
set_option maxRecDepth 100000 in
theorem minfunc32_any (fn : Nat) (cb : Array Value) (k : Int → Int) (v : Value) (L : List Int) (w : World) (h : Rd (intE .u32) w v L) (hpos : 0 < L.length) (hn : L.length ≤ 1000000)
    (eg : ∀ args w, (callFunc fn args).run Try.prog w = .ok (.enter fn args) w)
    (hcmp : ∀ z, Gr w z → ∀ x y, Calls Try.prog fn (#[.int .u32 x, .int .u32 y] ++ cb) z fun e w' => e = .returned (.int .i64 (Lib.compareInt (k x) (k y))) ∧ Gr z w') :
    Calls Try.prog 36 #[v, .func (.func fn) #[] cb] w fun e w' => ∃ m, e = .returned (.int .u32 m) ∧ m ∈ L ∧ (∀ y ∈ L, k m ≤ k y) ∧ Gr w w' := by
  obtain ⟨a, g, o, c, rfl, hc, hm, ha, hk⟩ := Mem.Rd.loopI h
  have hm' : c ≤ 9223372036854775807 := hm
  obtain ⟨hA, hgw⟩ := ha hpos
  subst hA
  obtain ⟨N, hN⟩ : ∃ N, N = L.length := ⟨_, rfl⟩
  have HN := Lib.hid hN
  have HC := Lib.hid hcmp
  have c0 := hk 0 hpos
  have hx0 : L.getD 0 0 ∈ L := by rw [show L.getD 0 0 = L[0] by simp [List.getD, hpos]]; exact List.getElem_mem hpos
  have ht0 : ∀ y ∈ L.take 1, k (L.getD 0 0) ≤ k y := fun y hy => by
    rw [show L.take 1 = [L.getD 0 0] by match L, hpos with | x :: L, _ => rfl] at hy
    rw [List.mem_singleton.1 hy]
    exact Int.le_refl _
  rw [← hN] at hc hn hk hpos ⊢
  have HK := Lib.hid hk
  have H0 := Lib.hid hx0
  have HT0 := Lib.hid ht0
  have hlt1 : ¬ ((N : Int) < 1) := by omega
  have hidx0 : (0 : Int) < (N : Int) := by omega
  clear hN hk hcmp h ha hx0 ht0
  obtain ⟨x0, hx0⟩ : ∃ x, x = L.getD 0 0 := ⟨_, rfl⟩
  rw [← hx0] at c0
  have HX0 := Lib.hid hx0
  clear hx0
  rw [Nat.add_zero] at c0
  go_enter Try.func36, Try.ntmps36
  go_wp2_with fail
  go_loopw [5, 6] (fun m i wr => ∃ (j : Nat) (x : Int), 1 ≤ j ∧ j ≤ N ∧ m = .int .u32 x ∧ i = .int .i64 j ∧ Hid (x ∈ L ∧ ∀ y ∈ L.take j, k x ≤ k y) ∧ Hid (Gr w wr)) (fun _ i _ => N - (intOf i).toNat)
  case atStart => exact ⟨1, x0, Nat.le_refl _, by omega, rfl, rfl, Lib.hid ⟨by rw [HX0.out]; exact H0.out, by rw [HX0.out]; exact HT0.out⟩, Lib.hid (Gr.refl w)⟩
  case round =>
    obtain ⟨j, x, hj1, hj, rfl, rfl, HM, HG⟩ := hrel
    clear c0
    by_cases hlt : j < N
    · have cj := kc HG.out.below (HK.out j hlt)
      have hidx : (j : Int) < (N : Int) := by omega
      obtain ⟨y, hy⟩ : ∃ y, y = L.getD j 0 := ⟨_, rfl⟩
      rw [← hy] at cj
      have HST := Lib.hid (min_step (k := k) (by rw [← HN.out]; exact hlt) HM.out.1 HM.out.2 y hy)
      clear hy
      by_cases hkk : k y < k x
      · have hct : Lib.compareInt (k y) (k x) < 0 := (cmpInt_lt _ _).2 hkk
        have HCC := Lib.hid (HC.out wr HG.out y x)
        have HNX := Lib.hid (HST.out.1 hkk)
        generalize Lib.compareInt (k y) (k x) = cv at *
        clear hkk HST
        go_wp2_with fail
        refine HCC.out.mono ?_
        rintro e w' ⟨rfl, hg'⟩
        have cj2 := kc hg'.below cj
        have HG2 := Lib.hid (HG.out.trans hg')
        clear hg'
        clear HCC
        go_wp2_with fail
        go_roundw
        case rel => exact ⟨j + 1, y, by omega, by omega, rfl, by go_num, Lib.hid HNX.out, HG2⟩
        case measure => simp [intOf]; omega
      · have hct : ¬ Lib.compareInt (k y) (k x) < 0 := fun e => hkk ((cmpInt_lt _ _).1 e)
        have HCC := Lib.hid (HC.out wr HG.out y x)
        have HNX := Lib.hid (HST.out.2 hkk)
        generalize Lib.compareInt (k y) (k x) = cv at *
        clear hkk HST
        go_wp2_with fail
        refine HCC.out.mono ?_
        rintro e w' ⟨rfl, hg'⟩
        have HG2 := Lib.hid (HG.out.trans hg')
        clear hg'
        clear HCC
        go_wp2_with fail
        go_roundw
        case rel => exact ⟨j + 1, x, by omega, by omega, rfl, by go_num, Lib.hid ⟨HM.out.1, HNX.out⟩, HG2⟩
        case measure => simp [intOf]; omega
    · have hjN : j = N := by omega
      have hidx : ¬ (j : Int) < (N : Int) := by omega
      have e1 : L.take j = L := by rw [hjN, HN.out, List.take_length]
      have HR := Lib.hid (show x ∈ L ∧ ∀ y ∈ L, k x ≤ k y from ⟨HM.out.1, by have := HM.out.2; rwa [e1] at this⟩)
      clear e1 hjN
      go_wp2_with fail
      go_ret
      exact ⟨x, rfl, HR.out.1, HR.out.2, HG.out⟩
end Go.Proofs.Ytgkfioloceemcaa
