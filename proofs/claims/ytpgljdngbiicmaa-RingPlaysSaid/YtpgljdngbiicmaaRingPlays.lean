/- Walk of the law RingPlays. -/
import Derived.Test.YtpgljdngbiicmaaRgPair
set_option maxRecDepth 4000
namespace Go.Proofs.Ytpgljdngbiicmaa
open Go Go.RowKit Mem in
theorem opens_bools {H : Type} {enc : TypeId × Value → H} : Opens enc Try.prog 23 (kSlice kBool) := opens_slice Try.underlying23 (by kernel_rfl) Nat.zero_lt_one (opens_bool Try.underlying4 (by kernel_rfl))
end Go.Proofs.Ytpgljdngbiicmaa
namespace Go.Proofs.Ytpgljdngbiicmaa.ringPlays
open Go.RowKit Mem
set_option linter.unusedSimpArgs false
set_option linter.unusedVariables false
attribute [local irreducible] Go.Calls

/-- after a fork: the ring, its fork, the document's ring -/
def Fk (B : Nat) (z : World) (b1 f b2 : Nat) (L M : List Int) : Prop := ∃ W R W' R', RgAt z b1 W R L ∧ RgAt z f W' R' L ∧ (∀ j, R' j → ¬ W j) ∧ RrAt z b2 M ∧ ¬ R b2 ∧ ¬ R' b2 ∧ (∀ v g, z.cell? ⟨b2, 0, none⟩ = some v → v.ownBlock = some g → ¬ W g ∧ ¬ W' g) ∧ (∀ j, R j ∨ R' j → B ≤ j) ∧ B ≤ b2
theorem pr_fork (B b1 b2 : Nat) (L M : List Int) (w : World) (h : Pr B w b1 b2 L M) (hB : B ≤ w.heap.size) : Calls Try.prog 16 #[.pointer (some ⟨b1, 0, none⟩)] w fun e w' => ∃ f, e = .returned (.pointer (some ⟨f, 0, none⟩)) ∧ Fk B w' b1 f b2 L M ∧ Below w.heap.size w w' := by
  obtain ⟨W, R, h1, h2, h3, h4, h5, h6⟩ := h
  refine (rgfork_any b1 W R L w h1).mono fun e w' ⟨f, W', R', he, h', hw, hr, hk⟩ => ⟨f, he, ⟨W, R, W', R', h1.keep hk, h', fun j hj hwj => ?_, h2.keep hk, h3, fun hj => ?_, fun v g hv hg => ?_, fun j hj => ?_, h6⟩, hk⟩
  · rcases hr j hj with q | q
    · exact q.2 hwj
    · have := h1.lt (h1.sub hwj); omega
  · rcases hr b2 hj with q | q
    · exact h3 q.1
    · have := h2.lt; omega
  · have hv := back_cell h2 (Turned.of_below (S := fun _ => False) hk) (fun h => h) hv
    exact ⟨h4 v g hv hg, fun hj => by have := hw g hj; have := h2.own hv hg; omega⟩
  · rcases hj with hj | hj
    · exact h5 j hj
    · rcases hr j hj with q | q
      · exact h5 j q.1
      · omega
theorem fk_add (B b1 f b2 : Nat) (L M : List Int) (p : Int) (w : World) (h : Fk B w b1 f b2 L M) (hB : B ≤ w.heap.size) (bp : 0 ≤ p ∧ p ≤ 4294967295) : Calls Try.prog 14 #[.pointer (some ⟨b1, 0, none⟩), .int .u32 p] w fun e w' => e = .returned (.int .i64 (addR L p).2) ∧ Pr B w' f b2 L M ∧ Below B w w' := by
  obtain ⟨W, R, W', R', h1, h2, h3, h4, h5, h6, h7, h8, h9⟩ := h
  refine (rgadd_any b1 W R L p w h1 bp).mono fun e w' ⟨he, W2, R2, _, t, _, _⟩ => ⟨he, ⟨W', R', h2.turned t h3, h4.turned t (fun hb => h5 (h1.sub hb)) (fun v g hv hg => (h7 v g hv hg).1), h6, fun v g hv hg => ?_, fun j hj => h8 j (.inr hj), h9⟩, t.below hB (fun j hj => h8 j (.inl (h1.sub hj)))⟩
  exact (h7 v g (back_cell h4 t (fun hb => h5 (h1.sub hb)) hv) hg).2
/-- flags: their cells -/
theorem bools_at {w : World} {v : Value} {l : List Bool} (h : (kSlice kBool).rd w [v] l) :
    ∃ a g o c, v = .slice a l.length c ∧ l.length ≤ c ∧ c ≤ maxLen ∧ (0 < l.length → a = some ⟨g, o, none⟩) ∧ ∀ i, i < l.length → w.cell? ⟨g, o + i, none⟩ = some (.bool (l.getD i false)) := by
  obtain ⟨a, c, e, hc1, hc2, hc⟩ := h
  injection e with e
  subst e
  by_cases hl : 0 < l.length
  · obtain ⟨g, o, ha, hi⟩ := hc hl
    refine ⟨a, g, o, c, rfl, hc1, hc2, fun _ => ha, fun i hil => ?_⟩
    obtain ⟨es, he, hr⟩ := hi i l[i] (List.getElem?_eq_getElem hil)
    have hr : es = [.bool l[i]] := hr
    subst hr
    have := he 0 (by decide)
    simpa [List.getD, hil, kBool] using this
  · exact ⟨a, 0, 0, c, rfl, hc1, hc2, fun h => absurd h hl, fun i hi => by omega⟩

set_option maxRecDepth 100000 in
set_option maxHeartbeats 8000000 in
theorem walk (v : Value) (l : List Int) (u : Value) (dl : List Bool) (x : Int) (bx : 0 ≤ x ∧ x ≤ 4294967295) (n : Int) (bn : -9223372036854775808 ≤ n ∧ n ≤ 9223372036854775807) (fk : Int) (bf : -9223372036854775808 ≤ fk ∧ fk ≤ 9223372036854775807) (w : World) (h : Rd (intE .u32) w v l) (hb : ∀ x ∈ l, 0 ≤ x ∧ x ≤ 4294967295) (hu : (kSlice kBool).rd w [u] dl) :
    Calls Try.prog 3 #[v, u, .int .u32 x, .int .i64 n, .int .i64 fk] w fun e w' => e = .returned (.bool true) ∧ Below w.heap.size w w' := by
  obtain ⟨a, g, o, c, rfl, hc, hm, ha, hcells⟩ := Mem.Rd.loopI h
  obtain ⟨ad, gd, od, cd, rfl, hcd, hmd, had, hdl⟩ := bools_at hu
  have hm' : c ≤ 9223372036854775807 := hm
  have hmd' : cd ≤ 9223372036854775807 := hmd
  have HA := Lib.hid ha
  have HC := Lib.hid hcells
  have HB := Lib.hid hb
  have HAD := Lib.hid had
  have HDL := Lib.hid hdl
  have HBX := Lib.hid bx
  have HBN := Lib.hid bn
  clear h ha hcells hm hb hu had hdl hmd bx bn
  go_enter Try.func3, Try.ntmps3
  go_wp2_with fail
  refine (rgnew_any w).mono ?_
  rintro e w1 ⟨b1, W, R, rfl, hp, hr, hk⟩
  have HP := Lib.hid (rg_new (B := w.heap.size) hp hr (Nat.le_refl _))
  have HK := Lib.hid hk
  clear hp hr hk
  go_wp2_with fail
  have hX := more (Below.refl w1.heap.size w1) (.cells #[.slice none 0 0] 29)
  have HBK := Lib.hid (Blk.new w1 29 #[.slice none 0 0])
  have HPR := Lib.hid (Pr.new (B := w.heap.size) (b2 := w1.heap.size) (M := []) HP.out hX ⟨.slice none 0 0, HBK.out, Rd.nil _ _ (by unfold maxLen; omega), fun g hg => (nomatch hg), ⟨List.Pairwise.nil, fun x hx => (nomatch hx), by simp⟩⟩ (Nat.le_refl _) (fun v g hv hg => by rw [HBK.out.cell 0] at hv; injection hv with hv; subst hv; cases hg) HK.out.size)
  have HKR := Lib.hid (nest HK.out hX)
  clear hX HP HK HBK
  generalize w1.alloc (.cells #[.slice none 0 0] 29) = w2 at *
  obtain ⟨b2, hb2⟩ : ∃ b, b = w1.heap.size := ⟨_, rfl⟩
  rw [← hb2] at HPR ⊢
  clear hb2
  refine (rgawake_any w2).mono ?_
  rintro e w3 ⟨rfl, hk⟩
  have HPR3 := Lib.hid (HPR.out.keep hk)
  have HKR3 := Lib.hid (nest HKR.out hk)
  clear hk HPR HKR
  go_upto_block 99 with fail
  go_loopw [11, 13] (fun rv iv wr => ∃ (i b1 : Nat) (L : List Int), i ≤ l.length ∧ i ≤ 100 ∧ rv = .pointer (some ⟨b1, 0, none⟩) ∧ iv = .int .i64 i ∧ Pr w.heap.size wr b1 b2 L L ∧ Below w.heap.size w wr) (fun _ iv _ => 100 - (intOf iv).toNat)
  case atStart => exact ⟨0, b1, [], Nat.zero_le _, Nat.zero_le _, rfl, rfl, HPR3.out, HKR3.out⟩
  case round =>
    clear HPR3 HKR3
    obtain ⟨i, b1, L, hi, hi2, rfl, rfl, hp, hb⟩ := hrel
    have HPR := Lib.hid hp
    have HKR := Lib.hid hb
    by_cases hgo : i < l.length ∧ i < 100
    · obtain ⟨h1, h2⟩ := hgo
      obtain ⟨rfl, hg⟩ := HA.out (by omega)
      have HC0 := Lib.hid (HC.out i h1)
      have HYB : Hid (0 ≤ l.getD i 0 ∧ l.getD i 0 ≤ 4294967295) := Lib.hid (HB.out _ (by rw [show l.getD i 0 = l[i] by simp [List.getD, h1]]; exact List.getElem_mem h1))
      obtain ⟨y, hy⟩ : ∃ y, y = l.getD i 0 := ⟨_, rfl⟩
      rw [← hy] at HC0 HYB
      have d0 := kc hb HC0.out
      have hil : (i : Int) < (l.length : Int) := by omega
      have hi3 : (i : Int) < 100 := by omega
      have hcl : (l.length : Int) ≤ c := by omega
      clear hy hp hb
      by_cases hd : i < dl.length
      · obtain hae := HAD.out (by omega)
        subst hae
        have e0 := kc HKR.out (HDL.out i hd)
        have hdi : (i : Int) < (dl.length : Int) := by omega
        have hdc : (dl.length : Int) ≤ cd := by omega
        obtain ⟨fl, hfl⟩ : ∃ fl, fl = dl.getD i false := ⟨_, rfl⟩
        rw [← hfl] at e0
        clear hfl
        cases fl with
        | true =>
          go_upto_region 8 with fail
          have hdw : Below wr.heap.size wr wr.drew := (Below.refl _ _).drew
          have HPD := Lib.hid (HPR.out.keep hdw)
          have HKD := Lib.hid (nest HKR.out hdw)
          have d1 := kc hdw d0
          clear hdw d0 HPR HKR
          refine Run.region_walk (S := fun z => z.cell? ⟨g, o + i, none⟩ = some (.int .u32 y))
            lrgplays.rows7 lrgplays.plan7 (l := ?_) (by kernel_rfl) (by kernel_rfl) (by kernel_rfl) (by kernel_rfl) ?_ d1 ?_
          rotate_left
          (· simp only [lrgplays.plan7, Run.stepsOf, Run.stepOf, Run.guardOf, List.getElem?_toArray, List.getElem?_cons_zero, List.getElem?_cons_succ, Option.map_some, Option.map_none, Option.bind_some, Option.toList_some, List.map_cons, List.map_nil, List.cons_append, List.nil_append, List.append_eq]
             rfl)
          repeat ((first
            | (refine Run.takes (v := ?_) ?_ ?_; rotate_left; (· intro w' hS'; go_simp; (try with_reducible rfl)))
            | (refine Run.takesG (v := ?_) ?_ ?_ ?_; rotate_left; (· simp only [List.getElem?_cons_zero, List.getElem?_cons_succ]); (· intro w' hS'; go_simp; (try with_reducible rfl)))
            | (refine Run.skipsT ?_ ?_; (· simp only [List.getElem?_cons_zero, List.getElem?_cons_succ]))
            | (refine Run.skipsF ?_ ?_; (· simp only [List.getElem?_cons_zero, List.getElem?_cons_succ]))
            | (refine Run.skipsU ?_ ?_; (· simp only [List.getElem?_cons_zero, List.getElem?_cons_succ]))
            | (refine Run.passT ?_ ?_; (· simp only [List.getElem?_cons_zero, List.getElem?_cons_succ]))
            | (refine Run.passF ?_ ?_; (· simp only [List.getElem?_cons_zero, List.getElem?_cons_succ]))
            | (refine Run.passU ?_ ?_; (· simp only [List.getElem?_cons_zero, List.getElem?_cons_succ]))
            | fail); simp only [Act.put, List.setIfInBounds_toArray, List.set_cons_zero, List.set_cons_succ])
          clear d1
          generalize wr.drew = wd at *
          refine Run.runsS (Run.callF 12 (by kernel_rfl) (fun hS => pr_gdrop w.heap.size b1 b2 L L y _ HPD.out HKD.out.size HYB.out) rfl ?_)
          rintro hS e z1 ⟨rfl, hp, hk⟩
          have HP1 := Lib.hid hp
          have HK1 := Lib.hid (HKD.out.trans hk)
          have d1 := kc HK1.out HC0.out
          refine ⟨_, rfl, d1, fun _ => ⟨fun z => z.cell? ⟨g, o + i, none⟩ = some (.int .u32 y), fun z h => h, d1, ?_⟩⟩
          clear hS hp hk d1 HPD HKD
          try simp only [Act.put, List.setIfInBounds_toArray, List.set_cons_zero, List.set_cons_succ]
          repeat ((first
            | (refine Run.takes (v := ?_) ?_ ?_; rotate_left; (· intro w' hS'; go_simp; (try with_reducible rfl)))
            | (refine Run.takesG (v := ?_) ?_ ?_ ?_; rotate_left; (· simp only [List.getElem?_cons_zero, List.getElem?_cons_succ]); (· intro w' hS'; go_simp; (try with_reducible rfl)))
            | (refine Run.skipsT ?_ ?_; (· simp only [List.getElem?_cons_zero, List.getElem?_cons_succ]))
            | (refine Run.skipsF ?_ ?_; (· simp only [List.getElem?_cons_zero, List.getElem?_cons_succ]))
            | (refine Run.skipsU ?_ ?_; (· simp only [List.getElem?_cons_zero, List.getElem?_cons_succ]))
            | (refine Run.passT ?_ ?_; (· simp only [List.getElem?_cons_zero, List.getElem?_cons_succ]))
            | (refine Run.passF ?_ ?_; (· simp only [List.getElem?_cons_zero, List.getElem?_cons_succ]))
            | (refine Run.passU ?_ ?_; (· simp only [List.getElem?_cons_zero, List.getElem?_cons_succ]))
            | fail); simp only [Act.put, List.setIfInBounds_toArray, List.set_cons_zero, List.set_cons_succ])
          refine Run.runsS (Run.callF 13 (by kernel_rfl) (fun hS => pr_rdrop w.heap.size b1 b2 _ L y _ HP1.out HK1.out.size) rfl ?_)
          rintro hS e z2 ⟨rfl, hp, hk⟩
          have HP2 := Lib.hid hp
          have HK2 := Lib.hid (HK1.out.trans hk)
          have d1 := kc HK2.out HC0.out
          refine ⟨_, rfl, d1, fun _ => ⟨fun z => z.cell? ⟨g, o + i, none⟩ = some (.int .u32 y), fun z h => h, d1, ?_⟩⟩
          clear hS hp hk d1 HP1 HK1
          try simp only [Act.put, List.setIfInBounds_toArray, List.set_cons_zero, List.set_cons_succ]
          repeat ((first
            | (refine Run.takes (v := ?_) ?_ ?_; rotate_left; (· intro w' hS'; go_simp; (try with_reducible rfl)))
            | (refine Run.takesG (v := ?_) ?_ ?_ ?_; rotate_left; (· simp only [List.getElem?_cons_zero, List.getElem?_cons_succ]); (· intro w' hS'; go_simp; (try with_reducible rfl)))
            | (refine Run.skipsT ?_ ?_; (· simp only [List.getElem?_cons_zero, List.getElem?_cons_succ]))
            | (refine Run.skipsF ?_ ?_; (· simp only [List.getElem?_cons_zero, List.getElem?_cons_succ]))
            | (refine Run.skipsU ?_ ?_; (· simp only [List.getElem?_cons_zero, List.getElem?_cons_succ]))
            | (refine Run.passT ?_ ?_; (· simp only [List.getElem?_cons_zero, List.getElem?_cons_succ]))
            | (refine Run.passF ?_ ?_; (· simp only [List.getElem?_cons_zero, List.getElem?_cons_succ]))
            | (refine Run.passU ?_ ?_; (· simp only [List.getElem?_cons_zero, List.getElem?_cons_succ]))
            | fail); simp only [Act.put, List.setIfInBounds_toArray, List.set_cons_zero, List.set_cons_succ])
          refine Run.ends (fun hS => ?_)
          clear hS
          obtain ⟨q, hq⟩ : ∃ q, q = dropR L y := ⟨_, rfl⟩
          rw [← hq] at HP2 ⊢
          clear hq
          obtain ⟨L2, cc⟩ := q
          simp only [] at HP2 ⊢
          by_cases hfk : (i : Int) = fk
          · have HFE := Lib.hid hfk
            subst hfk
            go_wp2_with fail
            refine (pr_fork w.heap.size b1 b2 L2 L2 _ HP2.out HK2.out.size).mono ?_
            rintro e z3 ⟨f, rfl, hf, hk⟩
            have HF3 := Lib.hid hf
            have HK3 := Lib.hid (nest HK2.out hk)
            clear hf hk HP2 HK2
            go_wp2_with fail
            refine (fk_add w.heap.size b1 f b2 L2 L2 12345 _ HF3.out HK3.out.size (by omega)).mono ?_
            rintro e z4 ⟨rfl, hp, hk⟩
            have HP4 := Lib.hid hp
            have HK4 := Lib.hid (HK3.out.trans hk)
            clear hp hk HF3 HK3
            go_wp2_with fail
            exact ⟨⟨i + 1, f, L2, by omega, by omega, rfl, by go_num, HP4.out, HK4.out⟩, by simp [intOf]; omega⟩
          · have hfe : ((i : Int) == fk) = false := beq_eq_false_iff_ne.2 hfk
            clear hfk
            go_wp2_with fail
            exact ⟨⟨i + 1, b1, L2, by omega, by omega, rfl, by go_num, HP2.out, HK2.out⟩, by simp [intOf]; omega⟩
        | false =>
          go_upto_region 10 with fail
          have hdw : Below wr.heap.size wr wr.drew := (Below.refl _ _).drew
          have HPD := Lib.hid (HPR.out.keep hdw)
          have HKD := Lib.hid (nest HKR.out hdw)
          have d1 := kc hdw d0
          clear hdw d0 HPR HKR
          refine Run.region_walk (S := fun z => z.cell? ⟨g, o + i, none⟩ = some (.int .u32 y))
            lrgplays.rows9 lrgplays.plan9 (l := ?_) (by kernel_rfl) (by kernel_rfl) (by kernel_rfl) (by kernel_rfl) ?_ d1 ?_
          rotate_left
          (· simp only [lrgplays.plan9, Run.stepsOf, Run.stepOf, Run.guardOf, List.getElem?_toArray, List.getElem?_cons_zero, List.getElem?_cons_succ, Option.map_some, Option.map_none, Option.bind_some, Option.toList_some, List.map_cons, List.map_nil, List.cons_append, List.nil_append, List.append_eq]
             rfl)
          repeat ((first
            | (refine Run.takes (v := ?_) ?_ ?_; rotate_left; (· intro w' hS'; go_simp; (try with_reducible rfl)))
            | (refine Run.takesG (v := ?_) ?_ ?_ ?_; rotate_left; (· simp only [List.getElem?_cons_zero, List.getElem?_cons_succ]); (· intro w' hS'; go_simp; (try with_reducible rfl)))
            | (refine Run.skipsT ?_ ?_; (· simp only [List.getElem?_cons_zero, List.getElem?_cons_succ]))
            | (refine Run.skipsF ?_ ?_; (· simp only [List.getElem?_cons_zero, List.getElem?_cons_succ]))
            | (refine Run.skipsU ?_ ?_; (· simp only [List.getElem?_cons_zero, List.getElem?_cons_succ]))
            | (refine Run.passT ?_ ?_; (· simp only [List.getElem?_cons_zero, List.getElem?_cons_succ]))
            | (refine Run.passF ?_ ?_; (· simp only [List.getElem?_cons_zero, List.getElem?_cons_succ]))
            | (refine Run.passU ?_ ?_; (· simp only [List.getElem?_cons_zero, List.getElem?_cons_succ]))
            | fail); simp only [Act.put, List.setIfInBounds_toArray, List.set_cons_zero, List.set_cons_succ])
          clear d1
          generalize wr.drew = wd at *
          refine Run.runsS (Run.callF 14 (by kernel_rfl) (fun hS => pr_gadd w.heap.size b1 b2 L L y _ HPD.out HKD.out.size HYB.out) rfl ?_)
          rintro hS e z1 ⟨rfl, hp, hk⟩
          have HP1 := Lib.hid hp
          have HK1 := Lib.hid (HKD.out.trans hk)
          have d1 := kc HK1.out HC0.out
          refine ⟨_, rfl, d1, fun _ => ⟨fun z => z.cell? ⟨g, o + i, none⟩ = some (.int .u32 y), fun z h => h, d1, ?_⟩⟩
          clear hS hp hk d1 HPD HKD
          try simp only [Act.put, List.setIfInBounds_toArray, List.set_cons_zero, List.set_cons_succ]
          repeat ((first
            | (refine Run.takes (v := ?_) ?_ ?_; rotate_left; (· intro w' hS'; go_simp; (try with_reducible rfl)))
            | (refine Run.takesG (v := ?_) ?_ ?_ ?_; rotate_left; (· simp only [List.getElem?_cons_zero, List.getElem?_cons_succ]); (· intro w' hS'; go_simp; (try with_reducible rfl)))
            | (refine Run.skipsT ?_ ?_; (· simp only [List.getElem?_cons_zero, List.getElem?_cons_succ]))
            | (refine Run.skipsF ?_ ?_; (· simp only [List.getElem?_cons_zero, List.getElem?_cons_succ]))
            | (refine Run.skipsU ?_ ?_; (· simp only [List.getElem?_cons_zero, List.getElem?_cons_succ]))
            | (refine Run.passT ?_ ?_; (· simp only [List.getElem?_cons_zero, List.getElem?_cons_succ]))
            | (refine Run.passF ?_ ?_; (· simp only [List.getElem?_cons_zero, List.getElem?_cons_succ]))
            | (refine Run.passU ?_ ?_; (· simp only [List.getElem?_cons_zero, List.getElem?_cons_succ]))
            | fail); simp only [Act.put, List.setIfInBounds_toArray, List.set_cons_zero, List.set_cons_succ])
          refine Run.runsS (Run.callF 15 (by kernel_rfl) (fun hS => pr_radd w.heap.size b1 b2 _ L y _ HP1.out HK1.out.size HYB.out) rfl ?_)
          rintro hS e z2 ⟨rfl, hp, hk⟩
          have HP2 := Lib.hid hp
          have HK2 := Lib.hid (HK1.out.trans hk)
          have d1 := kc HK2.out HC0.out
          refine ⟨_, rfl, d1, fun _ => ⟨fun z => z.cell? ⟨g, o + i, none⟩ = some (.int .u32 y), fun z h => h, d1, ?_⟩⟩
          clear hS hp hk d1 HP1 HK1
          try simp only [Act.put, List.setIfInBounds_toArray, List.set_cons_zero, List.set_cons_succ]
          repeat ((first
            | (refine Run.takes (v := ?_) ?_ ?_; rotate_left; (· intro w' hS'; go_simp; (try with_reducible rfl)))
            | (refine Run.takesG (v := ?_) ?_ ?_ ?_; rotate_left; (· simp only [List.getElem?_cons_zero, List.getElem?_cons_succ]); (· intro w' hS'; go_simp; (try with_reducible rfl)))
            | (refine Run.skipsT ?_ ?_; (· simp only [List.getElem?_cons_zero, List.getElem?_cons_succ]))
            | (refine Run.skipsF ?_ ?_; (· simp only [List.getElem?_cons_zero, List.getElem?_cons_succ]))
            | (refine Run.skipsU ?_ ?_; (· simp only [List.getElem?_cons_zero, List.getElem?_cons_succ]))
            | (refine Run.passT ?_ ?_; (· simp only [List.getElem?_cons_zero, List.getElem?_cons_succ]))
            | (refine Run.passF ?_ ?_; (· simp only [List.getElem?_cons_zero, List.getElem?_cons_succ]))
            | (refine Run.passU ?_ ?_; (· simp only [List.getElem?_cons_zero, List.getElem?_cons_succ]))
            | fail); simp only [Act.put, List.setIfInBounds_toArray, List.set_cons_zero, List.set_cons_succ])
          refine Run.ends (fun hS => ?_)
          clear hS
          obtain ⟨q, hq⟩ : ∃ q, q = addR L y := ⟨_, rfl⟩
          rw [← hq] at HP2 ⊢
          clear hq
          obtain ⟨L2, cc⟩ := q
          simp only [] at HP2 ⊢
          by_cases hfk : (i : Int) = fk
          · have HFE := Lib.hid hfk
            subst hfk
            go_wp2_with fail
            refine (pr_fork w.heap.size b1 b2 L2 L2 _ HP2.out HK2.out.size).mono ?_
            rintro e z3 ⟨f, rfl, hf, hk⟩
            have HF3 := Lib.hid hf
            have HK3 := Lib.hid (nest HK2.out hk)
            clear hf hk HP2 HK2
            go_wp2_with fail
            refine (fk_add w.heap.size b1 f b2 L2 L2 12345 _ HF3.out HK3.out.size (by omega)).mono ?_
            rintro e z4 ⟨rfl, hp, hk⟩
            have HP4 := Lib.hid hp
            have HK4 := Lib.hid (HK3.out.trans hk)
            clear hp hk HF3 HK3
            go_wp2_with fail
            exact ⟨⟨i + 1, f, L2, by omega, by omega, rfl, by go_num, HP4.out, HK4.out⟩, by simp [intOf]; omega⟩
          · have hfe : ((i : Int) == fk) = false := beq_eq_false_iff_ne.2 hfk
            clear hfk
            go_wp2_with fail
            exact ⟨⟨i + 1, b1, L2, by omega, by omega, rfl, by go_num, HP2.out, HK2.out⟩, by simp [intOf]; omega⟩
      · have hdi : ¬ (i : Int) < (dl.length : Int) := by omega
        go_upto_region 10 with fail
        have hdw : Below wr.heap.size wr wr.drew := (Below.refl _ _).drew
        have HPD := Lib.hid (HPR.out.keep hdw)
        have HKD := Lib.hid (nest HKR.out hdw)
        have d1 := kc hdw d0
        clear hdw d0 HPR HKR
        refine Run.region_walk (S := fun z => z.cell? ⟨g, o + i, none⟩ = some (.int .u32 y))
          lrgplays.rows9 lrgplays.plan9 (l := ?_) (by kernel_rfl) (by kernel_rfl) (by kernel_rfl) (by kernel_rfl) ?_ d1 ?_
        rotate_left
        (· simp only [lrgplays.plan9, Run.stepsOf, Run.stepOf, Run.guardOf, List.getElem?_toArray, List.getElem?_cons_zero, List.getElem?_cons_succ, Option.map_some, Option.map_none, Option.bind_some, Option.toList_some, List.map_cons, List.map_nil, List.cons_append, List.nil_append, List.append_eq]
           rfl)
        repeat ((first
          | (refine Run.takes (v := ?_) ?_ ?_; rotate_left; (· intro w' hS'; go_simp; (try with_reducible rfl)))
          | (refine Run.takesG (v := ?_) ?_ ?_ ?_; rotate_left; (· simp only [List.getElem?_cons_zero, List.getElem?_cons_succ]); (· intro w' hS'; go_simp; (try with_reducible rfl)))
          | (refine Run.skipsT ?_ ?_; (· simp only [List.getElem?_cons_zero, List.getElem?_cons_succ]))
          | (refine Run.skipsF ?_ ?_; (· simp only [List.getElem?_cons_zero, List.getElem?_cons_succ]))
          | (refine Run.skipsU ?_ ?_; (· simp only [List.getElem?_cons_zero, List.getElem?_cons_succ]))
          | (refine Run.passT ?_ ?_; (· simp only [List.getElem?_cons_zero, List.getElem?_cons_succ]))
          | (refine Run.passF ?_ ?_; (· simp only [List.getElem?_cons_zero, List.getElem?_cons_succ]))
          | (refine Run.passU ?_ ?_; (· simp only [List.getElem?_cons_zero, List.getElem?_cons_succ]))
          | fail); simp only [Act.put, List.setIfInBounds_toArray, List.set_cons_zero, List.set_cons_succ])
        clear d1
        generalize wr.drew = wd at *
        refine Run.runsS (Run.callF 14 (by kernel_rfl) (fun hS => pr_gadd w.heap.size b1 b2 L L y _ HPD.out HKD.out.size HYB.out) rfl ?_)
        rintro hS e z1 ⟨rfl, hp, hk⟩
        have HP1 := Lib.hid hp
        have HK1 := Lib.hid (HKD.out.trans hk)
        have d1 := kc HK1.out HC0.out
        refine ⟨_, rfl, d1, fun _ => ⟨fun z => z.cell? ⟨g, o + i, none⟩ = some (.int .u32 y), fun z h => h, d1, ?_⟩⟩
        clear hS hp hk d1 HPD HKD
        try simp only [Act.put, List.setIfInBounds_toArray, List.set_cons_zero, List.set_cons_succ]
        repeat ((first
          | (refine Run.takes (v := ?_) ?_ ?_; rotate_left; (· intro w' hS'; go_simp; (try with_reducible rfl)))
          | (refine Run.takesG (v := ?_) ?_ ?_ ?_; rotate_left; (· simp only [List.getElem?_cons_zero, List.getElem?_cons_succ]); (· intro w' hS'; go_simp; (try with_reducible rfl)))
          | (refine Run.skipsT ?_ ?_; (· simp only [List.getElem?_cons_zero, List.getElem?_cons_succ]))
          | (refine Run.skipsF ?_ ?_; (· simp only [List.getElem?_cons_zero, List.getElem?_cons_succ]))
          | (refine Run.skipsU ?_ ?_; (· simp only [List.getElem?_cons_zero, List.getElem?_cons_succ]))
          | (refine Run.passT ?_ ?_; (· simp only [List.getElem?_cons_zero, List.getElem?_cons_succ]))
          | (refine Run.passF ?_ ?_; (· simp only [List.getElem?_cons_zero, List.getElem?_cons_succ]))
          | (refine Run.passU ?_ ?_; (· simp only [List.getElem?_cons_zero, List.getElem?_cons_succ]))
          | fail); simp only [Act.put, List.setIfInBounds_toArray, List.set_cons_zero, List.set_cons_succ])
        refine Run.runsS (Run.callF 15 (by kernel_rfl) (fun hS => pr_radd w.heap.size b1 b2 _ L y _ HP1.out HK1.out.size HYB.out) rfl ?_)
        rintro hS e z2 ⟨rfl, hp, hk⟩
        have HP2 := Lib.hid hp
        have HK2 := Lib.hid (HK1.out.trans hk)
        have d1 := kc HK2.out HC0.out
        refine ⟨_, rfl, d1, fun _ => ⟨fun z => z.cell? ⟨g, o + i, none⟩ = some (.int .u32 y), fun z h => h, d1, ?_⟩⟩
        clear hS hp hk d1 HP1 HK1
        try simp only [Act.put, List.setIfInBounds_toArray, List.set_cons_zero, List.set_cons_succ]
        repeat ((first
          | (refine Run.takes (v := ?_) ?_ ?_; rotate_left; (· intro w' hS'; go_simp; (try with_reducible rfl)))
          | (refine Run.takesG (v := ?_) ?_ ?_ ?_; rotate_left; (· simp only [List.getElem?_cons_zero, List.getElem?_cons_succ]); (· intro w' hS'; go_simp; (try with_reducible rfl)))
          | (refine Run.skipsT ?_ ?_; (· simp only [List.getElem?_cons_zero, List.getElem?_cons_succ]))
          | (refine Run.skipsF ?_ ?_; (· simp only [List.getElem?_cons_zero, List.getElem?_cons_succ]))
          | (refine Run.skipsU ?_ ?_; (· simp only [List.getElem?_cons_zero, List.getElem?_cons_succ]))
          | (refine Run.passT ?_ ?_; (· simp only [List.getElem?_cons_zero, List.getElem?_cons_succ]))
          | (refine Run.passF ?_ ?_; (· simp only [List.getElem?_cons_zero, List.getElem?_cons_succ]))
          | (refine Run.passU ?_ ?_; (· simp only [List.getElem?_cons_zero, List.getElem?_cons_succ]))
          | fail); simp only [Act.put, List.setIfInBounds_toArray, List.set_cons_zero, List.set_cons_succ])
        refine Run.ends (fun hS => ?_)
        clear hS
        obtain ⟨q, hq⟩ : ∃ q, q = addR L y := ⟨_, rfl⟩
        rw [← hq] at HP2 ⊢
        clear hq
        obtain ⟨L2, cc⟩ := q
        simp only [] at HP2 ⊢
        by_cases hfk : (i : Int) = fk
        · have HFE := Lib.hid hfk
          subst hfk
          go_wp2_with fail
          refine (pr_fork w.heap.size b1 b2 L2 L2 _ HP2.out HK2.out.size).mono ?_
          rintro e z3 ⟨f, rfl, hf, hk⟩
          have HF3 := Lib.hid hf
          have HK3 := Lib.hid (nest HK2.out hk)
          clear hf hk HP2 HK2
          go_wp2_with fail
          refine (fk_add w.heap.size b1 f b2 L2 L2 12345 _ HF3.out HK3.out.size (by omega)).mono ?_
          rintro e z4 ⟨rfl, hp, hk⟩
          have HP4 := Lib.hid hp
          have HK4 := Lib.hid (HK3.out.trans hk)
          clear hp hk HF3 HK3
          go_wp2_with fail
          exact ⟨⟨i + 1, f, L2, by omega, by omega, rfl, by go_num, HP4.out, HK4.out⟩, by simp [intOf]; omega⟩
        · have hfe : ((i : Int) == fk) = false := beq_eq_false_iff_ne.2 hfk
          clear hfk
          go_wp2_with fail
          exact ⟨⟨i + 1, b1, L2, by omega, by omega, rfl, by go_num, HP2.out, HK2.out⟩, by simp [intOf]; omega⟩
    · obtain ⟨wo, hwo⟩ : ∃ z, z = wr := ⟨_, rfl⟩
      subst hwo
      have hcond : ¬ (i : Int) < (l.length : Int) ∨ ((i : Int) < (l.length : Int) ∧ ¬ (i : Int) < 100) := by omega
      obtain ⟨o1, ho1⟩ : ∃ o, o = (ownR L x).1 := ⟨_, rfl⟩
      obtain ⟨o2, ho2⟩ : ∃ o, o = (ownR L x).2 := ⟨_, rfl⟩
      obtain ⟨n1, hn1⟩ : ∃ o, o = (nextR L x).1 := ⟨_, rfl⟩
      obtain ⟨n2, hn2⟩ : ∃ o, o = (nextR L x).2 := ⟨_, rfl⟩
      obtain ⟨s1, hs1⟩ : ∃ o, o = (spanR L x).1.1 := ⟨_, rfl⟩
      obtain ⟨s2, hs2⟩ : ∃ o, o = (spanR L x).1.2 := ⟨_, rfl⟩
      obtain ⟨s3, hs3⟩ : ∃ o, o = (spanR L x).2 := ⟨_, rfl⟩
      have COW : Hid (∀ z, Pr w.heap.size z b1 b2 L L → Calls Try.prog 17 #[.pointer (some ⟨b1, 0, none⟩), .int .u32 x] z fun e w' => e = .returned (.tuple #[.int .u32 o1, .bool o2]) ∧ Below z.heap.size z w') := Lib.hid (fun z hz => by rw [ho1, ho2]; exact rg_owner _ b1 L x z hz.one HBX.out)
      have COR : Hid (∀ z, Pr w.heap.size z b1 b2 L L → Calls Try.prog 18 #[.pointer (some ⟨b2, 0, none⟩), .int .u32 x] z fun e w' => e = .returned (.tuple #[.int .u32 o1, .bool o2]) ∧ Below z.heap.size z w') := Lib.hid (fun z hz => by rw [ho1, ho2]; exact rrowner_any b2 L x z hz.two)
      have CNW : Hid (∀ z, Pr w.heap.size z b1 b2 L L → Calls Try.prog 19 #[.pointer (some ⟨b1, 0, none⟩), .int .u32 x] z fun e w' => e = .returned (.tuple #[.int .u32 n1, .bool n2]) ∧ Below z.heap.size z w') := Lib.hid (fun z hz => by rw [hn1, hn2]; exact rg_next _ b1 L x z hz.one HBX.out)
      have CNR : Hid (∀ z, Pr w.heap.size z b1 b2 L L → Calls Try.prog 20 #[.pointer (some ⟨b2, 0, none⟩), .int .u32 x] z fun e w' => e = .returned (.tuple #[.int .u32 n1, .bool n2]) ∧ Below z.heap.size z w') := Lib.hid (fun z hz => by rw [hn1, hn2]; exact rrnext_any b2 L x z hz.two)
      have CSW : Hid (∀ z, Pr w.heap.size z b1 b2 L L → Calls Try.prog 21 #[.pointer (some ⟨b1, 0, none⟩), .int .u32 x] z fun e w' => e = .returned (.tuple #[.agg #[.int .u32 s1, .int .u32 s2], .bool s3]) ∧ Below z.heap.size z w') := Lib.hid (fun z hz => by rw [hs1, hs2, hs3]; exact rg_span _ b1 L x z hz.one HBX.out)
      have CSR : Hid (∀ z, Pr w.heap.size z b1 b2 L L → Calls Try.prog 22 #[.pointer (some ⟨b2, 0, none⟩), .int .u32 x] z fun e w' => e = .returned (.tuple #[.agg #[.int .u32 s1, .int .u32 s2], .bool s3]) ∧ Below z.heap.size z w') := Lib.hid (fun z hz => by rw [hs1, hs2, hs3]; exact rrspan_any b2 L x z hz.two)
      clear ho1 ho2 hn1 hn2 hs1 hs2 hs3 hgo hp hb HA HC HB HAD HDL
      rcases hcond with q | ⟨q1, q2⟩
      all_goals
        by_cases hn64 : (64 : Int) < n
        all_goals
          go_wp2_with fail
          refine (COW.out _ HPR.out).mono ?_
          rintro e z1 ⟨rfl, hk⟩
          have HP1 := Lib.hid (HPR.out.keep hk)
          have HK1 := Lib.hid (nest HKR.out hk)
          clear hk HPR HKR
          go_wp2_with fail
          refine (COR.out _ HP1.out).mono ?_
          rintro e z2 ⟨rfl, hk⟩
          have HP2 := Lib.hid (HP1.out.keep hk)
          have HK2 := Lib.hid (nest HK1.out hk)
          clear hk HP1 HK1
          go_wp2_with fail
          refine (CNW.out _ HP2.out).mono ?_
          rintro e z3 ⟨rfl, hk⟩
          have HP3 := Lib.hid (HP2.out.keep hk)
          have HK3 := Lib.hid (nest HK2.out hk)
          clear hk HP2 HK2
          go_wp2_with fail
          refine (CNR.out _ HP3.out).mono ?_
          rintro e z4 ⟨rfl, hk⟩
          have HP4 := Lib.hid (HP3.out.keep hk)
          have HK4 := Lib.hid (nest HK3.out hk)
          clear hk HP3 HK3
          go_upto_region 25 with (first | (go_at_call 21; refine (CSW.out _ HP4.out).mono ?_; rintro e z5 ⟨rfl, hk5⟩) | (refine at_store 23 rfl ?_; refine wpList_store_row rfl 36 (.tmp 23) (.tmp 122) rfl z5.heap.size #[.int .u32 s1, .int .u32 s2] rfl rfl 36 _ (heap_alloc_new z5 _) span_infoR rfl (by simp [Value.oneCell']) ?_))
          (try rw [World.setRow_alloc_new])
          have hX := more (Below.refl z5.heap.size z5) (.cells #[.int .u32 s1, .int .u32 s2] 36)
          have HB5 := Lib.hid (Blk.new z5 36 #[.int .u32 s1, .int .u32 s2])
          have HP5 := Lib.hid ((HP4.out.keep hk5).keep hX)
          have HK5 := Lib.hid (nest HK4.out (nest hk5 hX))
          clear hX hk5 HP4 HK4
          generalize z5.alloc (.cells #[.int .u32 s1, .int .u32 s2] 36) = z6 at *
          obtain ⟨g23, hg23⟩ : ∃ g, g = z5.heap.size := ⟨_, rfl⟩
          rw [← hg23] at HB5 ⊢
          clear hg23
          go_upto_region 26 with (first | (go_at_call 22; refine (CSR.out _ HP5.out).mono ?_; rintro e z7 ⟨rfl, hk7⟩) | (refine at_store 25 rfl ?_; refine wpList_store_row rfl 36 (.tmp 25) (.tmp 128) rfl z7.heap.size #[.int .u32 s1, .int .u32 s2] rfl rfl 36 _ (heap_alloc_new z7 _) span_infoR rfl (by simp [Value.oneCell']) ?_))
          (try rw [World.setRow_alloc_new])
          have hX := more (Below.refl z7.heap.size z7) (.cells #[.int .u32 s1, .int .u32 s2] 36)
          have HB7 := Lib.hid (Blk.new z7 36 #[.int .u32 s1, .int .u32 s2])
          have HB6 := Lib.hid (HB5.out.keep (nest hk7 hX))
          have HP7 := Lib.hid ((HP5.out.keep hk7).keep hX)
          have HK7 := Lib.hid (nest HK5.out (nest hk7 hX))
          clear hX hk7 HP5 HK5 HB5
          generalize z7.alloc (.cells #[.int .u32 s1, .int .u32 s2] 36) = z9 at *
          obtain ⟨g25, hg25⟩ : ∃ g, g = z7.heap.size := ⟨_, rfl⟩
          rw [← hg25] at HB7 ⊢
          clear hg25
          obtain ⟨ar, gr, or, cr, hcr, hr1, hr2, _, _, hrd⟩ := HP7.out.two.at
          have hr3 : cr ≤ 9223372036854775807 := hr2
          have HVR := Lib.hid hrd
          obtain ⟨cb, hcb⟩ : ∃ o, o = L.contains x := ⟨_, rfl⟩
          have CHW : Hid (∀ z, Below z9.heap.size z9 z → Calls Try.prog 27 #[.pointer (some ⟨b1, 0, none⟩), .int .u32 x] z fun e w' => e = .returned (.bool cb) ∧ Below z.heap.size z w') := Lib.hid (fun z hz => by rw [hcb]; exact rg_has _ b1 L x z (HP7.out.keep hz).one HBX.out)
          have CHR : Hid (∀ z, Below z9.heap.size z9 z → Calls Try.prog 28 #[.slice ar L.length cr, .int .u32 x] z fun e w' => e = .returned (.bool cb) ∧ Below z.heap.size z w') := Lib.hid (fun z hz => by rw [hcb]; exact inU_any _ L x z (HVR.out.keep hz))
          clear hrd hr2 hcb COW COR CNW CNR CSW CSR
          refine Run.region_walk (S := fun z => z.cell? ⟨b2, 0, none⟩ = some (.slice ar L.length cr) ∧ Blk z g23 36 #[.int .u32 s1, .int .u32 s2] ∧ Blk z g25 36 #[.int .u32 s1, .int .u32 s2] ∧ Below z9.heap.size z9 z)
            lrgplays.rows26 lrgplays.plan26 (l := ?_) (by kernel_rfl) (by kernel_rfl) (by kernel_rfl) (by kernel_rfl) ?_ ⟨kc (Below.refl _ _).drew hcr, HB6.out.keep (Below.refl _ _).drew, HB7.out.keep (Below.refl _ _).drew, (Below.refl _ _).drew⟩ ?_
          rotate_left
          (· simp only [lrgplays.plan26, Run.stepsOf, Run.stepOf, Run.guardOf, List.getElem?_toArray, List.getElem?_cons_zero, List.getElem?_cons_succ, Option.map_some, Option.map_none, Option.bind_some, Option.toList_some, List.map_cons, List.map_nil, List.cons_append, List.nil_append, List.append_eq]
             rfl)
          repeat ((first
            | (refine Run.takes (v := ?_) ?_ ?_; rotate_left; (· intro w' hS'; go_simp; (try with_reducible rfl)))
            | (refine Run.takesG (v := ?_) ?_ ?_ ?_; rotate_left; (· simp only [List.getElem?_cons_zero, List.getElem?_cons_succ]); (· intro w' hS'; go_simp; (try with_reducible rfl)))
            | (refine Run.skipsT ?_ ?_; (· simp only [List.getElem?_cons_zero, List.getElem?_cons_succ]))
            | (refine Run.skipsF ?_ ?_; (· simp only [List.getElem?_cons_zero, List.getElem?_cons_succ]))
            | (refine Run.skipsU ?_ ?_; (· simp only [List.getElem?_cons_zero, List.getElem?_cons_succ]))
            | (refine Run.passT ?_ ?_; (· simp only [List.getElem?_cons_zero, List.getElem?_cons_succ]))
            | (refine Run.passF ?_ ?_; (· simp only [List.getElem?_cons_zero, List.getElem?_cons_succ]))
            | (refine Run.passU ?_ ?_; (· simp only [List.getElem?_cons_zero, List.getElem?_cons_succ]))
            | (refine Run.runs ?_
               (first
               | (refine Run.callF 24 (by kernel_rfl) (fun hS => rg_points w.heap.size b1 L _ (HP7.out.keep hS.2.2.2).one) rfl ?_)
               | (refine Run.callG 24 (by kernel_rfl) ?_ (fun hS => rg_points w.heap.size b1 L _ (HP7.out.keep hS.2.2.2).one) rfl ?_; (· simp only [List.getElem?_cons_zero, List.getElem?_cons_succ]))
               | fail)
               (first
               | (rintro hS e w' ⟨vq, rfl, hvq, hb⟩; have HVQ := Lib.hid hvq; obtain ⟨aq, cq, rfl, _⟩ := hvq.form; refine ⟨_, rfl, ⟨kc hb hS.1, hS.2.1.keep hb, hS.2.2.1.keep hb, nest hS.2.2.2 hb⟩, ?_⟩; have HB9 := Lib.hid (nest hS.2.2.2 hb); clear hvq)
               | (rintro hS e w' ⟨rfl, rfl⟩; refine ⟨_, rfl, hS, ?_⟩)
               | fail))
            | fail); simp only [Act.put, List.setIfInBounds_toArray, List.set_cons_zero, List.set_cons_succ])
          repeat ((first
            | (refine Run.takes (v := ?_) ?_ ?_; rotate_left; (· intro w' hS'; (first | ((first | (refine exec_load_blk (n := 2) (x := .tmp 23) (l := [.int .u32 s1, .int .u32 s2]) ?_ Try.underlying36 span_infoR ?_ ?_ hS'.2.1 <;> rfl) | (refine exec_load_blk (n := 2) (x := .tmp 25) (l := [.int .u32 s1, .int .u32 s2]) ?_ Try.underlying36 span_infoR ?_ ?_ hS'.2.2.1 <;> rfl))) | (go_simp; (try with_reducible rfl)))))
            | (refine Run.takesG (v := ?_) ?_ ?_ ?_; rotate_left; (· simp only [List.getElem?_cons_zero, List.getElem?_cons_succ]); (· intro w' hS'; (first | ((first | (refine exec_load_blk (n := 2) (x := .tmp 23) (l := [.int .u32 s1, .int .u32 s2]) ?_ Try.underlying36 span_infoR ?_ ?_ hS'.2.1 <;> rfl) | (refine exec_load_blk (n := 2) (x := .tmp 25) (l := [.int .u32 s1, .int .u32 s2]) ?_ Try.underlying36 span_infoR ?_ ?_ hS'.2.2.1 <;> rfl))) | (go_simp; (try with_reducible rfl)))))
            | (refine Run.skipsT ?_ ?_; (· simp only [List.getElem?_cons_zero, List.getElem?_cons_succ]))
            | (refine Run.skipsF ?_ ?_; (· simp only [List.getElem?_cons_zero, List.getElem?_cons_succ]))
            | (refine Run.skipsU ?_ ?_; (· simp only [List.getElem?_cons_zero, List.getElem?_cons_succ]))
            | (refine Run.passT ?_ ?_; (· simp only [List.getElem?_cons_zero, List.getElem?_cons_succ]))
            | (refine Run.passF ?_ ?_; (· simp only [List.getElem?_cons_zero, List.getElem?_cons_succ]))
            | (refine Run.passU ?_ ?_; (· simp only [List.getElem?_cons_zero, List.getElem?_cons_succ]))
            | (refine Run.runs ?_
               (first
               | (refine Run.callF 23 (by kernel_rfl) (fun hS => plainU_yes _ _ L _ HVQ.out (HVR.out.keep HB9.out)) rfl ?_)
               | (refine Run.callG 23 (by kernel_rfl) ?_ (fun hS => plainU_yes _ _ L _ HVQ.out (HVR.out.keep HB9.out)) rfl ?_; (· simp only [List.getElem?_cons_zero, List.getElem?_cons_succ]))
               | (refine Run.callF 25 (by kernel_rfl) (fun hS => rg_heirs w.heap.size b1 L x _ _ (HP7.out.keep hS.2.2.2).one HBX.out (by first | exact HBN.out | omega)) rfl ?_)
               | (refine Run.callG 25 (by kernel_rfl) ?_ (fun hS => rg_heirs w.heap.size b1 L x _ _ (HP7.out.keep hS.2.2.2).one HBX.out (by first | exact HBN.out | omega)) rfl ?_; (· simp only [List.getElem?_cons_zero, List.getElem?_cons_succ]))
               | fail)
               (first
               | (rintro hS e w' ⟨vq, rfl, hvq, hb⟩; have HVH := Lib.hid hvq; obtain ⟨ah, ch, rfl, _⟩ := hvq.form; refine ⟨_, rfl, ⟨kc hb hS.1, hS.2.1.keep hb, hS.2.2.1.keep hb, nest hS.2.2.2 hb⟩, ?_⟩; clear hvq)
               | (rintro hS e w' ⟨rfl, rfl⟩; refine ⟨_, rfl, hS, ?_⟩)
               | (rintro hS e w' ⟨rfl, hb⟩; refine ⟨_, rfl, ⟨kc hb hS.1, hS.2.1.keep hb, hS.2.2.1.keep hb, nest hS.2.2.2 hb⟩, ?_⟩)
               | fail))
            | fail); simp only [Act.put, List.setIfInBounds_toArray, List.set_cons_zero, List.set_cons_succ])
          repeat ((first
            | (refine Run.takes (v := ?_) ?_ ?_; rotate_left; (· intro w' hS'; go_simp; (try with_reducible rfl)))
            | (refine Run.takesG (v := ?_) ?_ ?_ ?_; rotate_left; (· simp only [List.getElem?_cons_zero, List.getElem?_cons_succ]); (· intro w' hS'; go_simp; (try with_reducible rfl)))
            | (refine Run.skipsT ?_ ?_; (· simp only [List.getElem?_cons_zero, List.getElem?_cons_succ]))
            | (refine Run.skipsF ?_ ?_; (· simp only [List.getElem?_cons_zero, List.getElem?_cons_succ]))
            | (refine Run.skipsU ?_ ?_; (· simp only [List.getElem?_cons_zero, List.getElem?_cons_succ]))
            | (refine Run.passT ?_ ?_; (· simp only [List.getElem?_cons_zero, List.getElem?_cons_succ]))
            | (refine Run.passF ?_ ?_; (· simp only [List.getElem?_cons_zero, List.getElem?_cons_succ]))
            | (refine Run.passU ?_ ?_; (· simp only [List.getElem?_cons_zero, List.getElem?_cons_succ]))
            | (refine Run.runs ?_
               (first
               | (refine Run.callF 26 (by kernel_rfl) (fun hS => rrheirs_any b2 L x _ _ (HP7.out.keep hS.2.2.2).two HBX.out (by first | exact HBN.out | omega)) rfl ?_)
               | (refine Run.callG 26 (by kernel_rfl) ?_ (fun hS => rrheirs_any b2 L x _ _ (HP7.out.keep hS.2.2.2).two HBX.out (by first | exact HBN.out | omega)) rfl ?_; (· simp only [List.getElem?_cons_zero, List.getElem?_cons_succ]))
               | fail)
               (first
               | (rintro hS e w' ⟨vq, rfl, hvq, hb⟩; have HVI := Lib.hid hvq; have HVH2 := Lib.hid (HVH.out.keep hb); obtain ⟨ai, ci, rfl, _⟩ := hvq.form; refine ⟨_, rfl, ⟨kc hb hS.1, hS.2.1.keep hb, hS.2.2.1.keep hb, nest hS.2.2.2 hb⟩, ?_⟩; clear hvq)
               | (rintro hS e w' ⟨rfl, rfl⟩; refine ⟨_, rfl, hS, ?_⟩)
               | fail))
            | fail); simp only [Act.put, List.setIfInBounds_toArray, List.set_cons_zero, List.set_cons_succ])
          repeat ((first
            | (refine Run.takes (v := ?_) ?_ ?_; rotate_left; (· intro w' hS'; go_simp; (try with_reducible rfl)))
            | (refine Run.takesG (v := ?_) ?_ ?_ ?_; rotate_left; (· simp only [List.getElem?_cons_zero, List.getElem?_cons_succ]); (· intro w' hS'; go_simp; (try with_reducible rfl)))
            | (refine Run.skipsT ?_ ?_; (· simp only [List.getElem?_cons_zero, List.getElem?_cons_succ]))
            | (refine Run.skipsF ?_ ?_; (· simp only [List.getElem?_cons_zero, List.getElem?_cons_succ]))
            | (refine Run.skipsU ?_ ?_; (· simp only [List.getElem?_cons_zero, List.getElem?_cons_succ]))
            | (refine Run.passT ?_ ?_; (· simp only [List.getElem?_cons_zero, List.getElem?_cons_succ]))
            | (refine Run.passF ?_ ?_; (· simp only [List.getElem?_cons_zero, List.getElem?_cons_succ]))
            | (refine Run.passU ?_ ?_; (· simp only [List.getElem?_cons_zero, List.getElem?_cons_succ]))
            | (refine Run.runs ?_
               (first
               | (refine Run.callF 23 (by kernel_rfl) (fun hS => plainU_yes _ _ _ _ HVH2.out HVI.out) rfl ?_)
               | (refine Run.callG 23 (by kernel_rfl) ?_ (fun hS => plainU_yes _ _ _ _ HVH2.out HVI.out) rfl ?_; (· simp only [List.getElem?_cons_zero, List.getElem?_cons_succ]))
               | (refine Run.callF 27 (by kernel_rfl) (fun hS => CHW.out _ hS.2.2.2) rfl ?_)
               | (refine Run.callG 27 (by kernel_rfl) ?_ (fun hS => CHW.out _ hS.2.2.2) rfl ?_; (· simp only [List.getElem?_cons_zero, List.getElem?_cons_succ]))
               | (refine Run.callF 28 (by kernel_rfl) (fun hS => CHR.out _ hS.2.2.2) rfl ?_)
               | (refine Run.callG 28 (by kernel_rfl) ?_ (fun hS => CHR.out _ hS.2.2.2) rfl ?_; (· simp only [List.getElem?_cons_zero, List.getElem?_cons_succ]))
               | fail)
               (first
               | (rintro hS e w' ⟨rfl, rfl⟩; refine ⟨_, rfl, hS, ?_⟩)
               | (rintro hS e w' ⟨rfl, hb⟩; refine ⟨_, rfl, ⟨kc hb hS.1, hS.2.1.keep hb, hS.2.2.1.keep hb, nest hS.2.2.2 hb⟩, ?_⟩)
               | fail))
            | fail); simp only [Act.put, List.setIfInBounds_toArray, List.set_cons_zero, List.set_cons_succ])
          refine Run.ends (fun hS => ?_)
          have HE := Lib.hid (nest HK7.out hS.2.2.2)
          clear hS
          go_wp2_with fail
          go_ret
          exact ⟨rfl, HE.out⟩
end Go.Proofs.Ytpgljdngbiicmaa.ringPlays
