/- Walk of the law GreedyNone. -/
import Derived.Test.YtbhnpidbgckinaaGrLaw
set_option maxRecDepth 4000
namespace Go.Proofs.Ytbhnpidbgckinaa.greedyNone
open Go.RowKit Mem
set_option linter.unusedSimpArgs false
set_option linter.unusedVariables false
attribute [local irreducible] Go.Calls

theorem go_none {L : List Int} {a v : Int} (hL : okR L) (bv : 0 ≤ v ∧ v ≤ 4294967295) : (goR L [] a v).2 = (L.contains a && !(a == (ownR L v).1)) := by
  by_cases h : a ∈ L ∧ (ownR L v).1 ≠ a
  · rw [(goR_true hL bv []).2 h, show L.contains a = true by simpa using h.1, beq_eq_false_iff_ne.2 (fun e => h.2 e.symm)]
    rfl
  · have : (goR L [] a v).2 = false := by
      cases e : (goR L [] a v).2 with
      | false => rfl
      | true => exact absurd ((goR_true hL bv []).1 e) h
    rw [this]
    by_cases h1 : a ∈ L
    · have h2 : (ownR L v).1 = a := by
        by_cases e : (ownR L v).1 = a
        · exact e
        · exact absurd ⟨h1, e⟩ h
      rw [h2]; simp
    · rw [show L.contains a = false by simpa using h1]; rfl
theorem go_own {L : List Int} (v : Int) : (goR L [] (ownR L v).1 v).2 = false := by
  rw [goR_false [] (.inr rfl)]
theorem own_contains (L : List Int) (v : Int) : L.contains (ownR L v).1 = (ownR L v).2 := by
  by_cases h : L = []
  · subst h; rfl
  · have := own_head v h
    rw [this.1]
    simpa using this.2
theorem way_own (L : List Int) (v : Int) : wayR L (fun _ => []) v L.length (ownR L v).1 = [(ownR L v).1] := by
  cases h : L.length with
  | zero => rfl
  | succ n =>
    unfold wayR
    rw [go_own, if_neg (by decide)]
set_option maxRecDepth 100000 in
set_option maxHeartbeats 8000000 in
theorem walk (v : Value) (l : List Int) (a : Int) (ba : 0 ≤ a ∧ a ≤ 4294967295) (x : Int) (bx : 0 ≤ x ∧ x ≤ 4294967295) (w : World) (h : Rd (intE .u32) w v l) (hb : ∀ x ∈ l, 0 ≤ x ∧ x ≤ 4294967295) :
    Calls Try.prog 5 #[v, .int .u32 a, .int .u32 x] w fun e w' => e = .returned (.bool true) ∧ Below w.heap.size w w' := by
  have HMD := Lib.hid (made13_any v l w h hb)
  have HO := Lib.hid (made_ok13 hb)
  obtain ⟨L, hL⟩ : ∃ x, x = addsR [] (l.take 60) := ⟨_, rfl⟩
  rw [← hL] at HMD HO
  have HBX := Lib.hid bx
  have HBA := Lib.hid ba
  obtain ⟨av, cv, rfl, _, _⟩ := h.form
  clear h hb hL bx ba
  go_enter Try.func5, Try.ntmps5
  go_upto_region 2 with (go_at_call 8; refine HMD.out.mono ?_; rintro e w2 ⟨r, rr, rfl, hp, hk⟩)
  have HP2 := Lib.hid hp
  have HK2 := Lib.hid hk
  clear hp hk HMD
  obtain ⟨ow, how⟩ : ∃ q, q = (ownR L x).1 := ⟨_, rfl⟩
  obtain ⟨oi, hoi⟩ : ∃ q, q = (ownR L x).2 := ⟨_, rfl⟩
  obtain ⟨cn, hcn⟩ : ∃ q, q = L.contains a := ⟨_, rfl⟩
  have HOW := Lib.hid how
  have HOI := Lib.hid hoi
  have HCN := Lib.hid hcn
  have HOB : Hid (0 ≤ ow ∧ ow ≤ 4294967295) := Lib.hid (by
    rw [how]
    by_cases h : L = []
    · rw [h]; simp [ownR]
    · exact HO.out.2.1 _ (own_head x h).2)
  have HOC := Lib.hid (rrowner_any rr L x w2 HP2.out.two)
  rw [← how, ← hoi] at HOC
  have HA : Hid (∃ q, ∀ z, Pr w.heap.size z r rr L L → Calls Try.prog 11 #[.pointer (some ⟨r, 0, none⟩), .slice none 0 0, .int .u32 a, .int .u32 x] z fun e w' => e = .returned (.tuple #[.int .u32 q, .bool (cn && !(a == ow))]) ∧ Below z.heap.size z w') := Lib.hid ⟨_, fun z hz => by
    have h1 := pr_next _ r rr L L z hz [] (.slice none 0 0) a x (Rd.nil _ _ (Nat.zero_le _)) (fun q hq => (nomatch hq)) HBA.out HBX.out
    rw [go_none HO.out HBX.out, ← how, ← hcn] at h1
    exact h1⟩
  have HB : Hid (∃ q, ∀ z, Pr w.heap.size z r rr L L → Calls Try.prog 11 #[.pointer (some ⟨r, 0, none⟩), .slice none 0 0, .int .u32 ow, .int .u32 x] z fun e w' => e = .returned (.tuple #[.int .u32 q, .bool false]) ∧ Below z.heap.size z w') := Lib.hid ⟨_, fun z hz => by
    have h1 := pr_next _ r rr L L z hz [] (.slice none 0 0) ow x (Rd.nil _ _ (Nat.zero_le _)) (fun q hq => (nomatch hq)) HOB.out HBX.out
    rw [how, go_own, ← how] at h1
    exact h1⟩
  have HC : Hid (∃ S : List Int, (cn = false → S = []) ∧ ∀ z, Pr w.heap.size z r rr L L → Calls Try.prog 15 #[.pointer (some ⟨r, 0, none⟩), .map none, .int .u32 a, .int .u32 x] z fun e w' => ∃ q, e = .returned (.tuple #[q, .bool cn]) ∧ Rd (intE .u32) w' q S ∧ Below z.heap.size z w') := Lib.hid ⟨if L.contains a then wayR L (fun _ => []) x L.length a else [], fun e => by rw [← hcn, e]; rfl, fun z hz => by
    have h1 := pr_way _ r rr L L z hz (fun _ => []) (.map none) a x (LinksIs.nil z) HBA.out HBX.out
    rw [hcn]
    exact h1⟩
  have HD : Hid (∃ S : List Int, (oi = true → S = [ow]) ∧ ∀ z, Pr w.heap.size z r rr L L → Calls Try.prog 15 #[.pointer (some ⟨r, 0, none⟩), .map none, .int .u32 ow, .int .u32 x] z fun e w' => ∃ q, e = .returned (.tuple #[q, .bool oi]) ∧ Rd (intE .u32) w' q S ∧ Below z.heap.size z w') := Lib.hid ⟨if L.contains ow then wayR L (fun _ => []) x L.length ow else [], fun e => by rw [how, own_contains, ← hoi, e, if_pos rfl, way_own], fun z hz => by
    have h1 := pr_way _ r rr L L z hz (fun _ => []) (.map none) ow x (LinksIs.nil z) HOB.out HBX.out
    rw [hoi, ← own_contains L x, ← how]
    exact h1⟩
  obtain ⟨q1, HA⟩ := HA.out
  have HA := Lib.hid HA
  obtain ⟨q2, HB⟩ := HB.out
  have HB := Lib.hid HB
  obtain ⟨S1, hS1, HC⟩ := HC.out
  have HC := Lib.hid HC
  have HS1 := Lib.hid hS1
  obtain ⟨S2, hS2, HD⟩ := HD.out
  have HD := Lib.hid HD
  have HS2 := Lib.hid hS2
  clear how hoi hcn hS1 hS2
  obtain ⟨aq, haq⟩ : ∃ q, q = (cn && !(a == ow)) := ⟨_, rfl⟩
  rw [← haq] at HA
  have HAQ := Lib.hid haq
  clear haq
  obtain ⟨a2, g2, o2, c2, hc0, hq1, hq2, hq3, hq4, hq5⟩ := HP2.out.two.at
  have HC0 := Lib.hid hc0
  have HQ5 := Lib.hid hq5
  clear hc0 hq1 hq2 hq3 hq4 hq5
  go_upto_region 3 with (go_at_call 14; refine HOC.out.mono ?_; rintro e w3 ⟨rfl, hk3⟩)
  have hp3 := HP2.out.keep hk3
  go_upto_region 4 with (go_at_call 11; refine (HA.out _ hp3).mono ?_; rintro e w4 ⟨rfl, hk4⟩)
  have hp4 := hp3.keep hk4
  go_upto_region 5 with (go_at_call 11; refine (HB.out _ hp4).mono ?_; rintro e w5 ⟨rfl, hk5⟩)
  have hp5 := hp4.keep hk5
  go_upto_region 6 with (go_at_call 15; refine (HC.out _ hp5).mono ?_; rintro e w6 ⟨vx, rfl, hvx, hk6⟩)
  obtain ⟨ax, cx, rfl, _, _⟩ := hvx.form
  have hp6 := hp5.keep hk6
  go_upto_region 7 with (go_at_call 15; refine (HD.out _ hp6).mono ?_; rintro e w7 ⟨vy, rfl, hvy, hk7⟩)
  have HK7 : Hid (Below w2.heap.size w2 w7) := Lib.hid (nest (nest (nest (nest hk3 hk4) hk5) hk6) hk7)
  have HVY := Lib.hid hvy
  obtain ⟨ay, cy, rfl, _, _⟩ := hvy.form
  have d0 := kc HK7.out HC0.out
  have HIN := Lib.hid (inU_any _ L a w7 (HQ5.out.keep HK7.out))
  rw [← HCN.out] at HIN
  have hl1 : cn = false → (S1.length : Int) = 0 := fun e => by rw [HS1.out e]; rfl
  have HL1 := Lib.hid hl1
  clear hk3 hp3 hk4 hp4 hk5 hp5 hk6 hp6 hk7 hvx hvy HA HB HC HD HOC hl1
  go_upto_region 8 with (go_at_call 16; refine HIN.out.mono ?_; rintro e w8 ⟨rfl, hk8⟩)
  have HVY8 := Lib.hid (HVY.out.keep hk8)
  have HK8 : Hid (Below w.heap.size w w8) := Lib.hid (nest HK2.out (nest HK7.out hk8))
  clear hk8 HVY HK7 d0 HIN
  have KEY : Hid (∀ z, Below w8.heap.size w8 z → oi = true → Calls Try.prog 17 #[.slice ay S2.length cy, .slice (some ⟨z.heap.size, 0, none⟩) 1 1] (z.alloc (.cells #[.int .u32 ow] 23)) fun e w' => e = .returned (.bool true) ∧ Below (z.alloc (.cells #[.int .u32 ow] 23)).heap.size (z.alloc (.cells #[.int .u32 ow] 23)) w') := Lib.hid (fun z hz ho => by
    have h1 := HVY8.out.keep (nest hz (more (Below.refl _ _) (.cells #[.int .u32 ow] 23)))
    rw [HS2.out ho] at h1 ⊢
    exact plainU_yes _ _ [ow] _ h1 (Rd.fresh z ow _ _ _ rfl rfl))
  have HAE : Hid (a = ow ∨ a ≠ ow) := Lib.hid (by by_cases e : a = ow; exact .inl e; exact .inr e)
  cases oi with
  | false =>
    have hcn : cn = false := by
      have := HOI.out
      have h2 : L = [] := by unfold ownR at this; simpa using this.symm
      rw [HCN.out, h2]; rfl
    subst hcn
    have haq : aq = false := by rw [HAQ.out]; rfl
    subst haq
    have hl1 := HL1.out rfl
    go_wp2_with (first | (go_at_call 9; refine (grawake_any w8).mono ?_; rintro e w9 ⟨rfl, hk9⟩))
    go_ret
    exact ⟨rfl, nest HK8.out hk9⟩
  | true =>
    cases cn with
    | false =>
      have haq : aq = false := by rw [HAQ.out]; rfl
      subst haq
      have hl1 := HL1.out rfl
      go_wp2_with (first | (go_at_call 9; refine (grawake_any w8).mono ?_; rintro e w9 ⟨rfl, hk9⟩) | (go_at_call 17; refine (KEY.out _ hk9 (by trivial)).mono ?_; rintro e w10 ⟨rfl, hk10⟩))
      go_ret
      exact ⟨rfl, nest (nest HK8.out hk9) (nest (more (Below.refl _ _) _) hk10)⟩
    | true =>
      rcases HAE.out with hae | hae
      · have haq : aq = false := by rw [HAQ.out, hae]; simp
        subst haq
        subst hae
        go_wp2_with (first | (go_at_call 9; refine (grawake_any w8).mono ?_; rintro e w9 ⟨rfl, hk9⟩) | (go_at_call 17; refine (KEY.out _ hk9 (by trivial)).mono ?_; rintro e w10 ⟨rfl, hk10⟩))
        go_ret
        exact ⟨rfl, nest (nest HK8.out hk9) (nest (more (Below.refl _ _) _) hk10)⟩
      · have hne : (a == ow) = false := beq_eq_false_iff_ne.2 hae
        have haq : aq = true := by rw [HAQ.out, hne]; rfl
        subst haq
        have hae2 : ¬ a = ow := hae
        have hbn : (a != ow) = true := by simp [hae]
        clear hae
        go_wp2_with (first | (go_at_call 9; refine (grawake_any w8).mono ?_; rintro e w9 ⟨rfl, hk9⟩) | (go_at_call 17; refine (KEY.out _ hk9 (by trivial)).mono ?_; rintro e w10 ⟨rfl, hk10⟩))
        go_ret
        exact ⟨rfl, nest (nest HK8.out hk9) (nest (more (Below.refl _ _) _) hk10)⟩
end Go.Proofs.Ytbhnpidbgckinaa.greedyNone
