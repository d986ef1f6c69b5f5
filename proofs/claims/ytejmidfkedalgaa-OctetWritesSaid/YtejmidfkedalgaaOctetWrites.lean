/- Walk of the law OctetWrites: the first loop. -/
import Derived.Test.YtejmidfkedalgaaOctAwake
import Derived.Test.YtejmidfkedalgaaOctetOpen
import Derived.Test.YtejmidfkedalgaaOpenRows
namespace Go.Proofs.Ytejmidfkedalgaa.octetWrites
open Go.RowKit Mem
set_option linter.unusedSimpArgs false
set_option linter.unusedVariables false
attribute [local irreducible] Go.Calls

/-- the bytes of an item -/
def enc (y : (Bool × Int × Int × List Int)) : List Int := if y.1 then txt y.2.2.2 else be (szN y.2.2.1) y.2.1
def encs (l : List (Bool × Int × Int × List Int)) : List Int := l.flatMap enc
theorem encs_step {l : List (Bool × Int × Int × List Int)} {k : Nat} {y : (Bool × Int × Int × List Int)} (h : l[k]? = some y) : encs (l.take (k + 1)) = encs (l.take k) ++ enc y := by
  rw [List.take_add_one, h]
  simp [encs]
theorem encs_len {l : List (Bool × Int × Int × List Int)} : ∀ {k : Nat}, (∀ j y, j < k → l[j]? = some y → y.2.2.2.length ≤ 300) → (encs (l.take k)).length ≤ 302 * k
  | 0, _ => by simp [encs]
  | k + 1, h => by
    have ih := encs_len (l := l) (k := k) (fun j y hj hy => h j y (by omega) hy)
    cases hy : l[k]? with
    | none =>
      have e : l.take (k + 1) = l.take k := by rw [List.take_add_one, hy]; simp
      rw [e]
      omega
    | some y =>
      have hb := h k y (by omega) hy
      rw [encs_step hy, List.length_append]
      have : (enc y).length ≤ 302 := by
        unfold enc
        split
        · rw [txt_len]; omega
        · rw [be_len]; have := szN_bd y.2.2.1; omega
      omega
/-- an item's cells -/
def cells4 (g o : Nat) (y : (Bool × Int × Int × List Int)) (v : Value) (z : World) : Prop :=
  z.cell? ⟨g, o, none⟩ = some (.bool y.1) ∧ z.cell? ⟨g, o + 1, none⟩ = some (.int .u64 y.2.1) ∧ z.cell? ⟨g, o + 2, none⟩ = some (.int .i64 y.2.2.1) ∧ z.cell? ⟨g, o + 3, none⟩ = some v
theorem cells4.keep {g o : Nat} {y : (Bool × Int × Int × List Int)} {v : Value} {w z : World} (h : cells4 g o y v w) (k : Below w.heap.size w z) : cells4 g o y v z :=
  ⟨kc k h.1, kc k h.2.1, kc k h.2.2.1, kc k h.2.2.2⟩
/-- where the items lie -/
def Lies (w : World) (g off : Nat) (l : List (Bool × Int × Int × List Int)) : Prop :=
  ∀ i y, l[i]? = some y → ∃ v, cells4 g (off + i * 4) y v w ∧ (0 ≤ y.2.1 ∧ y.2.1 ≤ 18446744073709551615) ∧ (-9223372036854775808 ≤ y.2.2.1 ∧ y.2.2.1 ≤ 9223372036854775807) ∧ Rd (intE .u8) w v y.2.2.2 ∧ Byt y.2.2.2
theorem open_items_at {w : World} {v : Value} {l : List (Bool × Int × Int × List Int)} (h : (kSlice itemK).rd w [v] l) :
    ∃ a g off c, v = .slice a l.length c ∧ l.length ≤ c ∧ c ≤ maxLen ∧ (0 < l.length → a = some ⟨g, off, none⟩) ∧ Lies w g off l := by
  obtain ⟨a, g, off, c, hv, h1, h2, ha, hi⟩ := kd_loop h
  refine ⟨a, g, off, c, hv, h1, h2, ha, fun i y hy => ?_⟩
  obtain ⟨es, hc, hr⟩ := hi i y hy
  obtain ⟨v, rfl, w1, w2, hrd, hb⟩ := item_cells hr
  have c0 := hc 0 (show 0 < 4 by omega)
  have c1 := hc 1 (show 1 < 4 by omega)
  have c2 := hc 2 (show 2 < 4 by omega)
  have c3 := hc 3 (show 3 < 4 by omega)
  exact ⟨v, ⟨c0, c1, c2, c3⟩, bdu64 w1, bd64 w2, hrd, fun x hx => bd8 (hb x hx)⟩
theorem encs_split {l : List (Bool × Int × Int × List Int)} {k j : Nat} {y : (Bool × Int × Int × List Int)} (hj : j < k) (hy : l[j]? = some y) : ∃ post, encs (l.take k) = encs (l.take j) ++ (enc y ++ post) := by
  refine ⟨encs ((l.take k).drop (j + 1)), ?_⟩
  have hjl := (List.getElem?_eq_some_iff.1 hy).1
  have e1 : l.take k = l.take j ++ (y :: (l.take k).drop (j + 1)) := by
    have h1 := (List.take_append_drop j (l.take k)).symm
    rw [List.take_take, Nat.min_eq_left (by omega)] at h1
    have h2 : (l.take k).drop j = y :: (l.take k).drop (j + 1) := by
      have hlt : j < (l.take k).length := by rw [List.length_take]; omega
      rw [List.drop_eq_getElem_cons hlt]
      congr 1
      rw [List.getElem_take]
      exact (List.getElem?_eq_some_iff.1 hy).2
    rw [h2] at h1
    exact h1
  rw [e1]
  simp only [encs, List.flatMap_append, List.flatMap_cons]
  rw [← e1]
theorem encs_byt {l : List (Bool × Int × Int × List Int)} (h : ∀ (i : Nat) (y : (Bool × Int × Int × List Int)), l[i]? = some y → Byt y.2.2.2) (k : Nat) : Byt (encs (l.take k)) := by
  intro x hx
  obtain ⟨y, hy, hx⟩ := List.mem_flatMap.1 hx
  obtain ⟨i, hi, rfl⟩ := List.getElem_of_mem (List.mem_of_mem_take hy)
  have hb := h i _ (List.getElem?_eq_getElem hi)
  unfold enc at hx
  split at hx
  · exact txt_byt hb x hx
  · exact be_byt _ _ x hx
/-- behind k items -/
def WritesAt (w : World) (l : List (Bool × Int × Int × List Int)) (bw : Nat) (vb : Value) (k : Nat) (wr : World) : Prop :=
  (∀ j y, j < k → l[j]? = some y → y.2.2.2.length ≤ 300) ∧ WrAt wr bw (encs (l.take k)) ∧ Row (intE .u8) 5 w.heap.size wr vb (encs (l.take k)) ∧ vb.ownBlock ≠ some bw ∧ Below w.heap.size w wr
theorem row_rd_only {w z : World} {v : Value} {l : List Int} {b B : Nat} {t : TypeId} (h : Row (intE .u8) t B w v l) (k : Only b w z) (hne : v.ownBlock ≠ some b) : Row (intE .u8) t B z v l := h.only k hne
set_option maxRecDepth 100000 in
set_option maxHeartbeats 2000000 in
theorem walk (v : Value) (l : List (Bool × Int × Int × List Int)) (w : World) (hv : (kSlice itemK).rd w [v] l) :
    Calls Try.prog 3 #[v] w fun e w' => e = .returned (.bool true) ∧ Below w.heap.size w w' := by
  obtain ⟨a, g, off, c, rfl, hc1, hc2, ha, hi⟩ := open_items_at hv
  have hc2m : c ≤ 9223372036854775807 := hc2
  have HA := Lib.hid ha
  have HI := Lib.hid hi
  clear ha hi hv
  have hz : ∀ w, (zeroValue 26).run Try.prog w = .ok (.agg wnew.toArray) w := fun w => run_zero_of (n := 66) wnew_info w
  have hst : WritesAt w l w.heap.size (.slice none 0 0) 0 (w.alloc (.cells wnew.toArray 26)) :=
    ⟨fun j y hj => absurd hj (by omega), wr_new w, Row.nil, by simp [Value.ownBlock], more (Below.refl _ _) _⟩
  obtain ⟨bw, hbw⟩ : ∃ bw, w.heap.size = bw := ⟨_, rfl⟩
  have hst2 : WritesAt w l bw (.slice none 0 0) 0 (w.alloc (.cells wnew.toArray 26)) := hbw ▸ hst
  have HBW := Lib.hid hbw
  have HST := Lib.hid hst2
  clear hst hst2
  go_enter Try.func3, Try.ntmps3
  go_wp2_with fail
  (try rw [hbw])
  clear hz hbw
  generalize w.alloc (.cells wnew.toArray 26) = w0 at *
  go_loopw [4, 5] (fun vb i wr => ∃ k : Nat, k ≤ 40 ∧ k ≤ l.length ∧ i = .int .i64 k ∧ WritesAt w l bw vb k wr) (fun _ i _ => 40 - (intOf i).toNat)
  case atStart => exact ⟨0, by omega, by omega, rfl, HST.out⟩
  case round =>
    clear HST
    obtain ⟨k, hk40, hkl, rfl, hwr⟩ := hrel
    by_cases hlt : k < l.length ∧ k < 40
    · obtain ⟨hlt1, hlt2⟩ := hlt
      have q1 : (k : Int) < l.length := by omega
      have q2 : (k : Int) < 40 := by omega
      have ha := HA.out (by omega)
      subst ha
      obtain ⟨y, hy⟩ : ∃ y, l[k]? = some y := ⟨l[k], List.getElem?_eq_getElem hlt1⟩
      obtain ⟨vy, hcell, hb1, hb2, hrd, hbyt⟩ := HI.out k y hy
      obtain ⟨hshort, hw, hrow, hne, hk⟩ := hwr
      have hen := encs_step hy
      have hcl := hcell.keep hk
      have hrdk := hrd.keep hk
      obtain ⟨ay, cy, rfl, hcy1, hcy2⟩ := hrd.form
      obtain ⟨ab, cb, rfl, hcb1, hcb2⟩ := hrow.rd.form
      have hlen := encs_len hshort
      have hbl := hw.lt
      have hold : 0 < y.2.2.2.length → (Value.slice ay y.2.2.2.length cy).ownBlock ≠ some bw := fun h0 e => by have := hrd.old h0 e; have := HBW.out; omega
      have HN := Lib.hid hold
      have HEN := Lib.hid hen
      have HY := Lib.hid hy
      have HS := Lib.hid hshort
      have HW := Lib.hid hw
      have HR := Lib.hid hrow
      have HK := Lib.hid hk
      have HNE := Lib.hid hne
      have HRD := Lib.hid hrdk
      have HC := Lib.hid hcell
      clear hold hen hy hshort hw hrow hk hne hrdk hcell hrd
      obtain ⟨T, V, N, B⟩ := y
      simp only [] at *
      obtain ⟨d0, d1, d2, d3⟩ := hcl
      simp only [] at d0 d1 d2 d3
      generalize hq : encs (l.take k) = q at *
      have HQ := Lib.hid hq
      clear hq
      by_cases h300 : B.length > 300
      · have e1 : (B.length : Int) > 300 := by omega
        go_wp2_with fail
        refine (oawake_any wr).mono ?_
        rintro e w1 ⟨rfl, hk1⟩
        have hz := HK.out.trans (hk1.mono HK.out.size)
        clear hk1
        go_wp2_with fail
        go_ret
        exact ⟨rfl, hz⟩
      · have e1 : ¬ (B.length : Int) > 300 := by omega
        cases T with
        | true =>
          go_wp2_with fail
          refine (otext_any bw q B _ wr HW.out HRD.out HN.out (by omega) (by omega)).mono ?_
          rintro e w1 ⟨⟨u, rfl⟩, hw1, ho1⟩
          have hrow1 := row_rd_only HR.out ho1 HNE.out
          have hrd1 := HRD.out.only0 ho1 HN.out
          have hk1 := HK.out.trans (ho1.below (by rw [HBW.out]; exact Nat.le_refl _) HK.out.size)
          obtain ⟨f0, f1, f2, f3⟩ := HC.out.keep hk1
          simp only [] at f0 f1 f2 f3
          have HW1 := Lib.hid hw1
          have HK1 := Lib.hid hk1
          have hbw1 := hw1.lt
          clear hw1 ho1 hk1 HW HR HRD HK
          go_wp2_with fail
          refine (rtext_any _ _ q B w1 hrow1.rd hrd1 (by omega) (by omega)).mono ?_
          rintro e w2 ⟨v2, rfl, hr2, hk2⟩
          have HEND : Hid (WritesAt w l bw v2 (k + 1) w2) := Lib.hid ⟨fun j y' hj hy' => by
              rcases Nat.lt_succ_iff_lt_or_eq.1 hj with hj | rfl
              · exact HS.out j y' hj hy'
              · rw [HY.out] at hy'
                injection hy' with hy'
                rw [← hy']
                show B.length ≤ 300
                omega,
            by rw [HEN.out]; exact HW1.out.keep hk2,
            by rw [HEN.out]; exact hr2.mono HK1.out.size,
            fun e => by have := (hr2.block bw e).1; omega,
            HK1.out.trans (hk2.mono HK1.out.size)⟩
          obtain ⟨a2, c2, rfl, _, _⟩ := hr2.rd.form
          clear hr2 hk2 HW1 HK1 hrow1 hrd1 f0 f1 f2 f3
          go_wp2_with fail
          exact ⟨⟨k + 1, by omega, by omega, by go_num, by have := HEND.out; rwa [List.length_append] at this⟩, by simp [intOf]; omega⟩
        | false =>
          go_wp2_with fail
          refine Run.region_walk (S := fun z => z.cell? ⟨g, off + k * 4 + 1, none⟩ = some (.int .u64 V) ∧ z.cell? ⟨g, off + k * 4 + 2, none⟩ = some (.int .i64 N))
            lwrites.rows10 lwrites.plan10 (l := ?steps1) (by kernel_rfl) (by kernel_rfl) (by kernel_rfl) (by kernel_rfl) ?written1 ⟨d1, d2⟩ ?onward1
          case written1 =>
            simp only [lwrites.plan10, Run.stepsOf, Run.stepOf, Run.guardOf, List.getElem?_toArray, List.getElem?_cons_zero, List.getElem?_cons_succ, Option.map_some, Option.map_none, Option.bind_some, Option.toList_some, List.map_cons, List.map_nil, List.cons_append, List.nil_append]
            rfl
          repeat ((first
            | (refine Run.takes (v := ?_) ?_ ?_; rotate_left; (· intro w' hS'; go_simp; (try with_reducible rfl)))
            | (refine Run.takesG (v := ?_) ?_ ?_ ?_; rotate_left; (· simp only [List.getElem?_cons_zero, List.getElem?_cons_succ]); (· intro w' hS'; go_simp; (try with_reducible rfl)))
            | (refine Run.skipsT ?_ ?_; (· simp only [List.getElem?_cons_zero, List.getElem?_cons_succ]))
            | (refine Run.skipsF ?_ ?_; (· simp only [List.getElem?_cons_zero, List.getElem?_cons_succ]))
            | (refine Run.skipsU ?_ ?_; (· simp only [List.getElem?_cons_zero, List.getElem?_cons_succ]))
            | (refine Run.passT ?_ ?_; (· simp only [List.getElem?_cons_zero, List.getElem?_cons_succ]))
            | (refine Run.passF ?_ ?_; (· simp only [List.getElem?_cons_zero, List.getElem?_cons_succ]))
            | (refine Run.passU ?_ ?_; (· simp only [List.getElem?_cons_zero, List.getElem?_cons_succ]))
            | fail); simp only [Act.put, List.setIfInBounds_toArray, List.set_cons_zero, List.set_cons_succ])
          refine Run.runs (Run.callF 11 (by kernel_rfl) (fun hS => oput_any bw q V N hb1 _ (HW.out.keep (Below.refl _ _).drew) (by omega)) rfl ?_)
          rintro hS e w1 ⟨⟨u, rfl⟩, hw1, ho1⟩
          have hkd := HK.out.drew
          have hrow1 := row_rd_only (HR.out.keep (Below.refl _ _).drew) ho1 HNE.out
          have hk1 := hkd.trans (ho1.below (by rw [HBW.out]; exact Nat.le_refl _) hkd.size)
          obtain ⟨f0, f1, f2, f3⟩ := HC.out.keep hk1
          simp only [] at f0 f1 f2 f3
          refine ⟨_, rfl, ⟨f1, f2⟩, ?_⟩
          simp only [Act.put, List.setIfInBounds_toArray, List.set_cons_zero, List.set_cons_succ]
          have HW1 := Lib.hid hw1
          have HK1 := Lib.hid hk1
          have hbw1 := hw1.lt
          clear hw1 ho1 hk1 HW HR HRD HK hkd hS
          refine Run.ends (fun hS => ?_)
          clear hS d0 d1 d2 d3
          go_wp2_with fail
          refine Run.region_walk (S := fun z => z.cell? ⟨g, off + k * 4 + 1, none⟩ = some (.int .u64 V) ∧ z.cell? ⟨g, off + k * 4 + 2, none⟩ = some (.int .i64 N))
            lwrites.rows11 lwrites.plan11 (l := ?steps2) (by kernel_rfl) (by kernel_rfl) (by kernel_rfl) (by kernel_rfl) ?written2 ⟨f1, f2⟩ ?onward2
          case written2 =>
            simp only [lwrites.plan11, Run.stepsOf, Run.stepOf, Run.guardOf, List.getElem?_toArray, List.getElem?_cons_zero, List.getElem?_cons_succ, Option.map_some, Option.map_none, Option.bind_some, Option.toList_some, List.map_cons, List.map_nil, List.cons_append, List.nil_append]
            rfl
          repeat ((first
            | (refine Run.takes (v := ?_) ?_ ?_; rotate_left; (· intro w' hS'; go_simp; (try with_reducible rfl)))
            | (refine Run.takesG (v := ?_) ?_ ?_ ?_; rotate_left; (· simp only [List.getElem?_cons_zero, List.getElem?_cons_succ]); (· intro w' hS'; go_simp; (try with_reducible rfl)))
            | (refine Run.skipsT ?_ ?_; (· simp only [List.getElem?_cons_zero, List.getElem?_cons_succ]))
            | (refine Run.skipsF ?_ ?_; (· simp only [List.getElem?_cons_zero, List.getElem?_cons_succ]))
            | (refine Run.skipsU ?_ ?_; (· simp only [List.getElem?_cons_zero, List.getElem?_cons_succ]))
            | (refine Run.passT ?_ ?_; (· simp only [List.getElem?_cons_zero, List.getElem?_cons_succ]))
            | (refine Run.passF ?_ ?_; (· simp only [List.getElem?_cons_zero, List.getElem?_cons_succ]))
            | (refine Run.passU ?_ ?_; (· simp only [List.getElem?_cons_zero, List.getElem?_cons_succ]))
            | fail); simp only [Act.put, List.setIfInBounds_toArray, List.set_cons_zero, List.set_cons_succ])
          refine Run.runs (Run.callF 12 (by kernel_rfl) (fun hS => rput_any _ q V N hb1 _ (hrow1.rd.keep (Below.refl _ _).drew) (by omega)) rfl ?_)
          rintro hS e w2 ⟨v2, rfl, hr2, hk2⟩
          have hk3 : Below w.heap.size w w2 := HK1.out.drew.trans (hk2.mono HK1.out.drew.size)
          obtain ⟨g0, g1, g2, g3⟩ := HC.out.keep hk3
          simp only [] at g0 g1 g2 g3
          refine ⟨_, rfl, ⟨g1, g2⟩, ?_⟩
          simp only [Act.put, List.setIfInBounds_toArray, List.set_cons_zero, List.set_cons_succ]
          have HEND : Hid (WritesAt w l bw v2 (k + 1) w2) := Lib.hid ⟨fun j y' hj hy' => by
              rcases Nat.lt_succ_iff_lt_or_eq.1 hj with hj | rfl
              · exact HS.out j y' hj hy'
              · rw [HY.out] at hy'
                injection hy' with hy'
                rw [← hy']
                show B.length ≤ 300
                omega,
            by rw [HEN.out]; exact (HW1.out.keep (Below.refl _ _).drew).keep hk2,
            by rw [HEN.out]; exact hr2.mono HK1.out.drew.size,
            fun e => by have h1 := (hr2.block bw e).1; have h2 : w1.drew.heap.size = w1.heap.size := rfl; omega,
            hk3⟩
          obtain ⟨a2, c2, rfl, _, _⟩ := hr2.rd.form
          clear hr2 hk2 hk3 HW1 HK1 hrow1 f0 f1 f2 f3 hS g0 g1 g2 g3
          repeat ((first
            | (refine Run.takes (v := ?_) ?_ ?_; rotate_left; (· intro w' hS'; go_simp; (try with_reducible rfl)))
            | (refine Run.takesG (v := ?_) ?_ ?_ ?_; rotate_left; (· simp only [List.getElem?_cons_zero, List.getElem?_cons_succ]); (· intro w' hS'; go_simp; (try with_reducible rfl)))
            | (refine Run.skipsT ?_ ?_; (· simp only [List.getElem?_cons_zero, List.getElem?_cons_succ]))
            | (refine Run.skipsF ?_ ?_; (· simp only [List.getElem?_cons_zero, List.getElem?_cons_succ]))
            | (refine Run.skipsU ?_ ?_; (· simp only [List.getElem?_cons_zero, List.getElem?_cons_succ]))
            | (refine Run.passT ?_ ?_; (· simp only [List.getElem?_cons_zero, List.getElem?_cons_succ]))
            | (refine Run.passF ?_ ?_; (· simp only [List.getElem?_cons_zero, List.getElem?_cons_succ]))
            | (refine Run.passU ?_ ?_; (· simp only [List.getElem?_cons_zero, List.getElem?_cons_succ]))
            | fail); simp only [Act.put, List.setIfInBounds_toArray, List.set_cons_zero, List.set_cons_succ])
          refine Run.ends (fun hS => ?_)
          clear hS
          go_wp2_with fail
          exact ⟨⟨k + 1, by omega, by omega, by go_num, by have := HEND.out; rwa [List.length_append] at this⟩, by simp [intOf]; omega⟩
    · have hout : k = l.length ∨ (k < l.length ∧ k = 40) := by omega
      obtain ⟨hshort, hw, hrow, hne, hk⟩ := hwr
      obtain ⟨ab, cb, rfl, hcb1, hcb2⟩ := hrow.rd.form
      have hlen := encs_len hshort
      have hbyt : Byt (encs (l.take k)) := encs_byt (fun i y hy => (HI.out i y hy).choose_spec.2.2.2.2) k
      have hbl := hw.lt
      obtain ⟨F, hF⟩ : ∃ F, encs (l.take k) = F := ⟨_, rfl⟩
      rw [hF] at hw hrow hlen hbyt hcb1 hne ⊢
      have hF12 : F.length ≤ 12080 := by omega
      have HF := Lib.hid hF
      have HS := Lib.hid hshort
      have HW := Lib.hid hw
      have HR := Lib.hid hrow
      have HK := Lib.hid hk
      have HNE := Lib.hid hne
      have HBY := Lib.hid hbyt
      clear hF hshort hw hrow hk hne hbyt hlt hlen
      rcases hout with hout | ⟨hout, ho40⟩
      · have q1 : ¬ (k : Int) < l.length := by omega
        have HOUT := Lib.hid hout
        clear hout
        go_wp2_with fail
        refine (obytes_any bw F wr HW.out (by omega)).mono ?_
        rintro e z1 ⟨v1, rfl, hr1, hk1⟩
        have HW1 := Lib.hid (HW.out.keep hk1)
        have HR1 := Lib.hid (HR.out.keep hk1)
        have HK1 := Lib.hid (HK.out.trans (hk1.mono HK.out.size))
        have hrd1 := hr1.rd
        obtain ⟨a1, c1, rfl, _, _⟩ := hr1.rd.form
        clear hr1 hk1 HW HR HK
        go_wp2_with fail
        refine (oread_any _ F z1 hrd1 (by omega)).mono ?_
        rintro e z2 ⟨br, gr, rfl, ho2, hbr, _, hk2⟩
        have HW2 := Lib.hid (HW1.out.keep hk2)
        have HR2 := Lib.hid (HR1.out.keep hk2)
        have HK2 := Lib.hid (HK1.out.trans (hk2.mono HK1.out.size))
        have hbrle : w.heap.size ≤ br := by have := HK1.out.size; omega
        have HO2 := Lib.hid ho2
        clear ho2 hk2 HW1 HR1 HK1 hrd1 hbr
        go_wp2_with fail
        refine (oawake_any z2).mono ?_
        rintro e z3 ⟨rfl, hk3⟩
        have HW3 := Lib.hid (HW2.out.keep hk3)
        have HR3 := Lib.hid (HR2.out.keep hk3)
        have HO3 := Lib.hid (HO2.out.keep hk3)
        have HK3 := Lib.hid (HK2.out.trans (hk3.mono HK2.out.size))
        clear hk3 HW2 HR2 HK2 HO2
        go_wp2_with fail
        refine (obytes_any bw F z3 HW3.out (by omega)).mono ?_
        rintro e z4 ⟨v4, rfl, hr4, hk4⟩
        have HR4 := Lib.hid (HR3.out.keep hk4).rd
        have HO4 := Lib.hid (HO3.out.keep hk4)
        have HK4 := Lib.hid (HK3.out.trans (hk4.mono HK3.out.size))
        have hrd4 := hr4.rd
        obtain ⟨a4, c4, rfl, _, _⟩ := hr4.rd.form
        clear hr4 hk4 HW3 HR3 HK3 HO3
        go_wp2_with fail
        refine (bytes_yes _ _ F z4 hrd4 HR4.out).mono ?_
        rintro e z5 ⟨rfl, hk5⟩
        have HO5 := Lib.hid (HO4.out.keep hk5)
        have HK5 := Lib.hid (HK4.out.trans (hk5.mono HK4.out.size))
        clear hk5 hrd4 HR4 HO4 HK4
        go_wp2_with fail
        go_loopw [7] (fun i wr => ∃ j : Nat, j ≤ k ∧ i = .int .i64 j ∧ OrAt wr br gr F (encs (l.take j)).length 0 ∧ Below w.heap.size w wr) (fun i _ => 40 - (intOf i).toNat)
        case atStart => exact ⟨0, by omega, rfl, by simpa [encs] using HO5.out, HK5.out⟩
        case round =>
          clear HO5 HK5
          obtain ⟨j, hjk, rfl, ho, hkk⟩ := hrel
          by_cases hlt : j < k
          · have p1 : (j : Int) < l.length := by omega
            have p2 : (j : Int) < 40 := by omega
            obtain ⟨y, hy⟩ : ∃ y, l[j]? = some y := ⟨l[j]'(by omega), List.getElem?_eq_getElem (by omega)⟩
            obtain ⟨vy, hcell, hb1, hb2, hrd, hbyt⟩ := HI.out j y hy
            have ha := HA.out (by omega)
            subst ha
            obtain ⟨post, hsp⟩ := encs_split hlt hy
            rw [HF.out] at hsp
            have hen := encs_step hy
            have hcl := hcell.keep hkk
            have hrdk := hrd.keep hkk
            obtain ⟨ay, cy, rfl, hcy1, hcy2⟩ := hrd.form
            have hsh := HS.out j y hlt hy
            have HEN := Lib.hid hen
            have HSP := Lib.hid hsp
            have HRD := Lib.hid hrdk
            have HRDW := Lib.hid hrd
            have HC := Lib.hid hcell
            have HO := Lib.hid ho
            have HK := Lib.hid hkk
            clear hen hsp hrdk hcell hrd hy ho hkk
            obtain ⟨T, V, N, B⟩ := y
            simp only [] at *
            obtain ⟨d0, d1, d2, d3⟩ := hcl
            simp only [] at d0 d1 d2 d3
            generalize hP : encs (l.take j) = Q at *
            have HP := Lib.hid hP
            clear hP
            obtain ⟨s, hs⟩ : ∃ s, szN N = s := ⟨_, rfl⟩
            have hs18 := szN_bd N
            rw [hs] at hs18
            obtain ⟨M, hM⟩ : ∃ M : Int, (if (8 : Int) < N then (8 : Int) else N) = M := ⟨_, rfl⟩
            have hmx : (if (1 : Int) < M then M else 1) = (s : Int) := by
              rw [← hs, ← hM]
              unfold szN
              split <;> split <;> (try split) <;> omega
            have HSZ := Lib.hid hs
            clear hs
            cases T with
            | true =>
              have htx := tx_here Q post B (by omega)
              have hF2 : F = Q ++ (txt B ++ post) := HSP.out
              rw [← hF2] at htx
              have HTX := Lib.hid htx
              have henl : (encs (l.take (j + 1))).length = Q.length + (B.length + 2) := by
                rw [HEN.out, List.length_append]
                show Q.length + (txt B).length = _
                rw [txt_len]
              have HEL := Lib.hid henl
              clear htx hF2 henl
              go_wp2_with fail
              clear hM hmx
              refine Run.region_walk (S := fun z => z.cell? ⟨g, off + j * 4, none⟩ = some (.bool true) ∧ z.cell? ⟨g, off + j * 4 + 1, none⟩ = some (.int .u64 V) ∧ z.cell? ⟨g, off + j * 4 + 2, none⟩ = some (.int .i64 N) ∧ z.cell? ⟨g, off + j * 4 + 3, none⟩ = some (.slice ay B.length cy))
                lwrites.rows19 lwrites.plan19 (l := ?steps4) (by kernel_rfl) (by kernel_rfl) (by kernel_rfl) (by kernel_rfl) ?written4 ⟨d0, d1, d2, d3⟩ ?onward4
              case written4 =>
                simp only [lwrites.plan19, Run.stepsOf, Run.stepOf, Run.guardOf, List.getElem?_toArray, List.getElem?_cons_zero, List.getElem?_cons_succ, Option.map_some, Option.map_none, Option.bind_some, Option.toList_some, List.map_cons, List.map_nil, List.cons_append, List.nil_append]
                rfl
              repeat ((first
                | (refine Run.takes (v := ?_) ?_ ?_; rotate_left; (· intro w' hS'; go_simp; (try with_reducible rfl)))
                | (refine Run.takesG (v := ?_) ?_ ?_ ?_; rotate_left; (· simp only [List.getElem?_cons_zero, List.getElem?_cons_succ]); (· intro w' hS'; go_simp; (try with_reducible rfl)))
                | (refine Run.skipsT ?_ ?_; (· simp only [List.getElem?_cons_zero, List.getElem?_cons_succ]))
                | (refine Run.skipsF ?_ ?_; (· simp only [List.getElem?_cons_zero, List.getElem?_cons_succ]))
                | (refine Run.skipsU ?_ ?_; (· simp only [List.getElem?_cons_zero, List.getElem?_cons_succ]))
                | (refine Run.passT ?_ ?_; (· simp only [List.getElem?_cons_zero, List.getElem?_cons_succ]))
                | (refine Run.passF ?_ ?_; (· simp only [List.getElem?_cons_zero, List.getElem?_cons_succ]))
                | (refine Run.passU ?_ ?_; (· simp only [List.getElem?_cons_zero, List.getElem?_cons_succ]))
                | fail); simp only [Act.put, List.setIfInBounds_toArray, List.set_cons_zero, List.set_cons_succ])
              refine Run.runs (Run.callG 16 (by kernel_rfl) ?_ (fun hS => otx_any br gr F Q.length 0 (.inl rfl) _ (HO.out.keep (Below.refl _ _).drew) (by omega) HBY.out) rfl ?_)
              · simp only [List.getElem?_cons_zero, List.getElem?_cons_succ]
              rintro hS e z1 ⟨x1, rfl, hx1, ho1, hn1⟩
              rw [HTX.out] at hx1 ho1
              simp only [] at hx1 ho1
              have hk1 := HK.out.drew.trans (hn1.below hbrle HK.out.drew.size)
              obtain ⟨f0, f1, f2, f3⟩ := HC.out.keep hk1
              simp only [] at f0 f1 f2 f3
              refine ⟨_, rfl, ⟨f0, f1, f2, f3⟩, ?_⟩
              simp only [Act.put, List.setIfInBounds_toArray, List.set_cons_zero, List.set_cons_succ]
              have hrd1 : Rd (intE .u8) z1 (.slice ay B.length cy) B := HRDW.out.keep hk1
              obtain ⟨a6, c6, rfl, _, _⟩ := hx1.rd.form
              clear hS hn1 f0 f1 f2 f3 d0 d1 d2 d3
              repeat ((first
                | (refine Run.takes (v := ?_) ?_ ?_; rotate_left; (· intro w' hS'; go_simp; (try with_reducible rfl)))
                | (refine Run.takesG (v := ?_) ?_ ?_ ?_; rotate_left; (· simp only [List.getElem?_cons_zero, List.getElem?_cons_succ]); (· intro w' hS'; go_simp; (try with_reducible rfl)))
                | (refine Run.skipsT ?_ ?_; (· simp only [List.getElem?_cons_zero, List.getElem?_cons_succ]))
                | (refine Run.skipsF ?_ ?_; (· simp only [List.getElem?_cons_zero, List.getElem?_cons_succ]))
                | (refine Run.skipsU ?_ ?_; (· simp only [List.getElem?_cons_zero, List.getElem?_cons_succ]))
                | (refine Run.passT ?_ ?_; (· simp only [List.getElem?_cons_zero, List.getElem?_cons_succ]))
                | (refine Run.passF ?_ ?_; (· simp only [List.getElem?_cons_zero, List.getElem?_cons_succ]))
                | (refine Run.passU ?_ ?_; (· simp only [List.getElem?_cons_zero, List.getElem?_cons_succ]))
                | fail); simp only [Act.put, List.setIfInBounds_toArray, List.set_cons_zero, List.set_cons_succ])
              refine Run.runs (Run.callG 15 (by kernel_rfl) ?_ (fun hS => bytes_yes _ _ B z1 hx1.rd hrd1) rfl ?_)
              · simp only [List.getElem?_cons_zero, List.getElem?_cons_succ]
              rintro hS e z2 ⟨rfl, hb2'⟩
              have hk2 := hk1.trans (hb2'.mono hk1.size)
              have HO2 := Lib.hid (ho1.keep hb2')
              obtain ⟨f0, f1, f2, f3⟩ := HC.out.keep hk2
              simp only [] at f0 f1 f2 f3
              refine ⟨_, rfl, ⟨f0, f1, f2, f3⟩, ?_⟩
              simp only [Act.put, List.setIfInBounds_toArray, List.set_cons_zero, List.set_cons_succ]
              have HK2 := Lib.hid hk2
              clear hS hk1 hk2 hx1 ho1 hrd1 hb2' f0 f1 f2 f3
              repeat ((first
                | (refine Run.takes (v := ?_) ?_ ?_; rotate_left; (· intro w' hS'; go_simp; (try with_reducible rfl)))
                | (refine Run.takesG (v := ?_) ?_ ?_ ?_; rotate_left; (· simp only [List.getElem?_cons_zero, List.getElem?_cons_succ]); (· intro w' hS'; go_simp; (try with_reducible rfl)))
                | (refine Run.skipsT ?_ ?_; (· simp only [List.getElem?_cons_zero, List.getElem?_cons_succ]))
                | (refine Run.skipsF ?_ ?_; (· simp only [List.getElem?_cons_zero, List.getElem?_cons_succ]))
                | (refine Run.skipsU ?_ ?_; (· simp only [List.getElem?_cons_zero, List.getElem?_cons_succ]))
                | (refine Run.passT ?_ ?_; (· simp only [List.getElem?_cons_zero, List.getElem?_cons_succ]))
                | (refine Run.passF ?_ ?_; (· simp only [List.getElem?_cons_zero, List.getElem?_cons_succ]))
                | (refine Run.passU ?_ ?_; (· simp only [List.getElem?_cons_zero, List.getElem?_cons_succ]))
                | fail); simp only [Act.put, List.setIfInBounds_toArray, List.set_cons_zero, List.set_cons_succ])
              refine Run.ends (fun hS => ?_)
              clear hS
              go_wp2_with fail
              exact ⟨⟨j + 1, by omega, by go_num, by rw [HEL.out]; exact HO2.out, HK2.out⟩, by simp [intOf]; omega⟩
            | false =>
              go_wp2_with fail
              clear hM hmx
              obtain ⟨t, ht⟩ : ∃ t, t + 8 * s = 64 := ⟨64 - 8 * s, by omega⟩
              have hx1 : IntKind.i64.wrap (8 * (s : Int)) = 8 * (s : Int) := IntWalk.i64_in _ (by omega)
              have hx2 : IntKind.i64.wrap (64 - 8 * (s : Int)) = (t : Int) := by rw [IntWalk.i64_in _ (by omega)]; omega
              have hx3 : IntKind.u64.wrap (t : Int) = (t : Int) := IntWalk.u64_in _ (by omega)
              have hx4 : min t 64 = t := Nat.min_eq_left (by omega)
              have ht56 : t ≤ 56 := by omega
              have HT := Lib.hid ht
              clear ht
              refine Run.region_walk (S := fun z => z.cell? ⟨g, off + j * 4, none⟩ = some (.bool false) ∧ z.cell? ⟨g, off + j * 4 + 1, none⟩ = some (.int .u64 V) ∧ z.cell? ⟨g, off + j * 4 + 2, none⟩ = some (.int .i64 N) ∧ z.cell? ⟨g, off + j * 4 + 3, none⟩ = some (.slice ay B.length cy))
                lwrites.rows19 lwrites.plan19 (l := ?steps7) (by kernel_rfl) (by kernel_rfl) (by kernel_rfl) (by kernel_rfl) ?written7 ⟨d0, d1, d2, d3⟩ ?onward7
              case written7 =>
                simp only [lwrites.plan19, Run.stepsOf, Run.stepOf, Run.guardOf, List.getElem?_toArray, List.getElem?_cons_zero, List.getElem?_cons_succ, Option.map_some, Option.map_none, Option.bind_some, Option.toList_some, List.map_cons, List.map_nil, List.cons_append, List.nil_append]
                rfl
              repeat ((first
                | (refine Run.takes (v := ?_) ?_ ?_; rotate_left; (· intro w' hS'; go_simp; (try with_reducible rfl)))
                | (refine Run.takesG (v := ?_) ?_ ?_ ?_; rotate_left; (· simp only [List.getElem?_cons_zero, List.getElem?_cons_succ]); (· intro w' hS'; go_simp; (try with_reducible rfl)))
                | (refine Run.skipsT ?_ ?_; (· simp only [List.getElem?_cons_zero, List.getElem?_cons_succ]))
                | (refine Run.skipsF ?_ ?_; (· simp only [List.getElem?_cons_zero, List.getElem?_cons_succ]))
                | (refine Run.skipsU ?_ ?_; (· simp only [List.getElem?_cons_zero, List.getElem?_cons_succ]))
                | (refine Run.passT ?_ ?_; (· simp only [List.getElem?_cons_zero, List.getElem?_cons_succ]))
                | (refine Run.passF ?_ ?_; (· simp only [List.getElem?_cons_zero, List.getElem?_cons_succ]))
                | (refine Run.passU ?_ ?_; (· simp only [List.getElem?_cons_zero, List.getElem?_cons_succ]))
                | fail); simp only [Act.put, List.setIfInBounds_toArray, List.set_cons_zero, List.set_cons_succ])
              have hgt := gt_here Q post V N
              have hF2 : F = Q ++ (be (szN N) V ++ post) := HSP.out
              rw [← hF2, HSZ.out] at hgt
              have hnum : num (be s V) = IntKind.u64.wrap (V * 2 ^ t) / 2 ^ t := by
                have h := shift_mod hb1.1 (k := s) hs18.1 hs18.2
                rw [show 64 - 8 * s = t by have := HT.out; omega] at h
                rw [num_be, IntKind.wrap_u64, h]
              have henl : (encs (l.take (j + 1))).length = Q.length + s := by
                rw [HEN.out, List.length_append]
                show Q.length + (be (szN N) V).length = _
                rw [be_len, HSZ.out]
              have HEL := Lib.hid henl
              have HGT := Lib.hid hgt
              clear hgt hF2 henl
              refine Run.runs (Run.callG 17 (by kernel_rfl) ?_ (fun hS => oget_any br gr F Q.length N 0 (.inl rfl) _ (HO.out.keep (Below.refl _ _).drew) (by omega) HBY.out) rfl ?_)
              · simp only [List.getElem?_cons_zero, List.getElem?_cons_succ]
              rintro hS e z1 ⟨rfl, ho1, hn1⟩
              rw [HGT.out] at ho1 ⊢
              simp only [] at ho1 ⊢
              rw [hnum]
              generalize IntKind.u64.wrap (V * 2 ^ t) / 2 ^ t = R at *
              have hk1 := HK.out.drew.trans (hn1.below hbrle HK.out.drew.size)
              obtain ⟨f0, f1, f2, f3⟩ := HC.out.keep hk1
              simp only [] at f0 f1 f2 f3
              refine ⟨_, rfl, ⟨f0, f1, f2, f3⟩, ?_⟩
              simp only [Act.put, List.setIfInBounds_toArray, List.set_cons_zero, List.set_cons_succ]
              have HO2 := Lib.hid ho1
              have HK2 := Lib.hid hk1
              clear hS hn1 f0 f1 f2 f3 d0 d1 d2 d3 hk1 ho1 hnum hx1 hx2 hx3 hx4
              repeat ((first
                | (refine Run.takes (v := ?_) ?_ ?_; rotate_left; (· intro w' hS'; go_simp; (try with_reducible rfl)))
                | (refine Run.takesG (v := ?_) ?_ ?_ ?_; rotate_left; (· simp only [List.getElem?_cons_zero, List.getElem?_cons_succ]); (· intro w' hS'; go_simp; (try with_reducible rfl)))
                | (refine Run.skipsT ?_ ?_; (· simp only [List.getElem?_cons_zero, List.getElem?_cons_succ]))
                | (refine Run.skipsF ?_ ?_; (· simp only [List.getElem?_cons_zero, List.getElem?_cons_succ]))
                | (refine Run.skipsU ?_ ?_; (· simp only [List.getElem?_cons_zero, List.getElem?_cons_succ]))
                | (refine Run.passT ?_ ?_; (· simp only [List.getElem?_cons_zero, List.getElem?_cons_succ]))
                | (refine Run.passF ?_ ?_; (· simp only [List.getElem?_cons_zero, List.getElem?_cons_succ]))
                | (refine Run.passU ?_ ?_; (· simp only [List.getElem?_cons_zero, List.getElem?_cons_succ]))
                | fail); simp only [Act.put, List.setIfInBounds_toArray, List.set_cons_zero, List.set_cons_succ])
              refine Run.ends (fun hS => ?_)
              clear hS
              go_wp2_with fail
              exact ⟨⟨j + 1, by omega, by go_num, by rw [HEL.out]; exact HO2.out, HK2.out⟩, by simp [intOf]; omega⟩
          · have hjk2 : j = k := by omega
            have p1 : ¬ (j : Int) < l.length := by have := HOUT.out; omega
            have hPF : (encs (l.take j)).length = F.length := by rw [hjk2, HF.out]
            rw [hPF] at ho
            have hgt : gt F F.length 0 1 = (F.length, 3, []) := by
              unfold gt
              exact tk_more (by rw [Nat.sub_self]; exact (szN_bd 1).1)
            have HGT := Lib.hid hgt
            have HO := Lib.hid ho
            have HK := Lib.hid hkk
            clear hgt ho hkk hPF hjk2
            go_wp2_with fail
            refine (oerr_any br gr F F.length 0 _ HO.out).mono ?_
            rintro e z1 ⟨rfl, hb1⟩
            have HO1 := Lib.hid (HO.out.keep hb1)
            have HK1 := Lib.hid (HK.out.trans (hb1.mono HK.out.size))
            clear hb1 HO HK
            go_wp2_with fail
            refine (oleft_any br gr F F.length 0 _ HO1.out).mono ?_
            rintro e z2 ⟨rfl, hb2⟩
            rw [show (if (0 : Int) = 0 then (F.length : Int) - F.length else 0) = 0 by simp]
            have HO2 := Lib.hid (HO1.out.keep hb2)
            have HK2 := Lib.hid (HK1.out.trans (hb2.mono HK1.out.size))
            clear hb2 HO1 HK1
            go_wp2_with fail
            refine (oget_any br gr F F.length 1 0 (.inl rfl) _ HO2.out (by omega) HBY.out).mono ?_
            rintro e z3 ⟨rfl, ho3, hn3⟩
            rw [HGT.out] at ho3 ⊢
            simp only [] at ho3 ⊢
            rw [show num [] = 0 from rfl]
            have HO3 := Lib.hid ho3
            have HK3 := Lib.hid (HK2.out.trans (hn3.below hbrle HK2.out.size))
            clear ho3 hn3 HO2 HK2
            go_wp2_with fail
            refine (oerr_any br gr F F.length 3 _ HO3.out).mono ?_
            rintro e z4 ⟨rfl, hb4⟩
            have HK4 := Lib.hid (HK3.out.trans (hb4.mono HK3.out.size))
            clear hb4 HO3 HK3
            go_wp2_with fail
            go_ret
            exact ⟨rfl, HK4.out⟩
      · have q1 : (k : Int) < l.length := by omega
        have q2 : ¬ (k : Int) < 40 := by omega
        have HOUT := Lib.hid ho40
        clear ho40
        go_wp2_with fail
        refine (obytes_any bw F wr HW.out (by omega)).mono ?_
        rintro e z1 ⟨v1, rfl, hr1, hk1⟩
        have HW1 := Lib.hid (HW.out.keep hk1)
        have HR1 := Lib.hid (HR.out.keep hk1)
        have HK1 := Lib.hid (HK.out.trans (hk1.mono HK.out.size))
        have hrd1 := hr1.rd
        obtain ⟨a1, c1, rfl, _, _⟩ := hr1.rd.form
        clear hr1 hk1 HW HR HK
        go_wp2_with fail
        refine (oread_any _ F z1 hrd1 (by omega)).mono ?_
        rintro e z2 ⟨br, gr, rfl, ho2, hbr, _, hk2⟩
        have HW2 := Lib.hid (HW1.out.keep hk2)
        have HR2 := Lib.hid (HR1.out.keep hk2)
        have HK2 := Lib.hid (HK1.out.trans (hk2.mono HK1.out.size))
        have hbrle : w.heap.size ≤ br := by have := HK1.out.size; omega
        have HO2 := Lib.hid ho2
        clear ho2 hk2 HW1 HR1 HK1 hrd1 hbr
        go_wp2_with fail
        refine (oawake_any z2).mono ?_
        rintro e z3 ⟨rfl, hk3⟩
        have HW3 := Lib.hid (HW2.out.keep hk3)
        have HR3 := Lib.hid (HR2.out.keep hk3)
        have HO3 := Lib.hid (HO2.out.keep hk3)
        have HK3 := Lib.hid (HK2.out.trans (hk3.mono HK2.out.size))
        clear hk3 HW2 HR2 HK2 HO2
        go_wp2_with fail
        refine (obytes_any bw F z3 HW3.out (by omega)).mono ?_
        rintro e z4 ⟨v4, rfl, hr4, hk4⟩
        have HR4 := Lib.hid (HR3.out.keep hk4).rd
        have HO4 := Lib.hid (HO3.out.keep hk4)
        have HK4 := Lib.hid (HK3.out.trans (hk4.mono HK3.out.size))
        have hrd4 := hr4.rd
        obtain ⟨a4, c4, rfl, _, _⟩ := hr4.rd.form
        clear hr4 hk4 HW3 HR3 HK3 HO3
        go_wp2_with fail
        refine (bytes_yes _ _ F z4 hrd4 HR4.out).mono ?_
        rintro e z5 ⟨rfl, hk5⟩
        have HO5 := Lib.hid (HO4.out.keep hk5)
        have HK5 := Lib.hid (HK4.out.trans (hk5.mono HK4.out.size))
        clear hk5 hrd4 HR4 HO4 HK4
        go_wp2_with fail
        go_loopw [7] (fun i wr => ∃ j : Nat, j ≤ k ∧ i = .int .i64 j ∧ OrAt wr br gr F (encs (l.take j)).length 0 ∧ Below w.heap.size w wr) (fun i _ => 40 - (intOf i).toNat)
        case atStart => exact ⟨0, by omega, rfl, by simpa [encs] using HO5.out, HK5.out⟩
        case round =>
          clear HO5 HK5
          obtain ⟨j, hjk, rfl, ho, hkk⟩ := hrel
          by_cases hlt : j < k
          · have p1 : (j : Int) < l.length := by omega
            have p2 : (j : Int) < 40 := by omega
            obtain ⟨y, hy⟩ : ∃ y, l[j]? = some y := ⟨l[j]'(by omega), List.getElem?_eq_getElem (by omega)⟩
            obtain ⟨vy, hcell, hb1, hb2, hrd, hbyt⟩ := HI.out j y hy
            have ha := HA.out (by omega)
            subst ha
            obtain ⟨post, hsp⟩ := encs_split hlt hy
            rw [HF.out] at hsp
            have hen := encs_step hy
            have hcl := hcell.keep hkk
            have hrdk := hrd.keep hkk
            obtain ⟨ay, cy, rfl, hcy1, hcy2⟩ := hrd.form
            have hsh := HS.out j y hlt hy
            have HEN := Lib.hid hen
            have HSP := Lib.hid hsp
            have HRD := Lib.hid hrdk
            have HRDW := Lib.hid hrd
            have HC := Lib.hid hcell
            have HO := Lib.hid ho
            have HK := Lib.hid hkk
            clear hen hsp hrdk hcell hrd hy ho hkk
            obtain ⟨T, V, N, B⟩ := y
            simp only [] at *
            obtain ⟨d0, d1, d2, d3⟩ := hcl
            simp only [] at d0 d1 d2 d3
            generalize hP : encs (l.take j) = Q at *
            have HP := Lib.hid hP
            clear hP
            obtain ⟨s, hs⟩ : ∃ s, szN N = s := ⟨_, rfl⟩
            have hs18 := szN_bd N
            rw [hs] at hs18
            obtain ⟨M, hM⟩ : ∃ M : Int, (if (8 : Int) < N then (8 : Int) else N) = M := ⟨_, rfl⟩
            have hmx : (if (1 : Int) < M then M else 1) = (s : Int) := by
              rw [← hs, ← hM]
              unfold szN
              split <;> split <;> (try split) <;> omega
            have HSZ := Lib.hid hs
            clear hs
            cases T with
            | true =>
              have htx := tx_here Q post B (by omega)
              have hF2 : F = Q ++ (txt B ++ post) := HSP.out
              rw [← hF2] at htx
              have HTX := Lib.hid htx
              have henl : (encs (l.take (j + 1))).length = Q.length + (B.length + 2) := by
                rw [HEN.out, List.length_append]
                show Q.length + (txt B).length = _
                rw [txt_len]
              have HEL := Lib.hid henl
              clear htx hF2 henl
              go_wp2_with fail
              clear hM hmx
              refine Run.region_walk (S := fun z => z.cell? ⟨g, off + j * 4, none⟩ = some (.bool true) ∧ z.cell? ⟨g, off + j * 4 + 1, none⟩ = some (.int .u64 V) ∧ z.cell? ⟨g, off + j * 4 + 2, none⟩ = some (.int .i64 N) ∧ z.cell? ⟨g, off + j * 4 + 3, none⟩ = some (.slice ay B.length cy))
                lwrites.rows19 lwrites.plan19 (l := ?steps9) (by kernel_rfl) (by kernel_rfl) (by kernel_rfl) (by kernel_rfl) ?written9 ⟨d0, d1, d2, d3⟩ ?onward9
              case written9 =>
                simp only [lwrites.plan19, Run.stepsOf, Run.stepOf, Run.guardOf, List.getElem?_toArray, List.getElem?_cons_zero, List.getElem?_cons_succ, Option.map_some, Option.map_none, Option.bind_some, Option.toList_some, List.map_cons, List.map_nil, List.cons_append, List.nil_append]
                rfl
              repeat ((first
                | (refine Run.takes (v := ?_) ?_ ?_; rotate_left; (· intro w' hS'; go_simp; (try with_reducible rfl)))
                | (refine Run.takesG (v := ?_) ?_ ?_ ?_; rotate_left; (· simp only [List.getElem?_cons_zero, List.getElem?_cons_succ]); (· intro w' hS'; go_simp; (try with_reducible rfl)))
                | (refine Run.skipsT ?_ ?_; (· simp only [List.getElem?_cons_zero, List.getElem?_cons_succ]))
                | (refine Run.skipsF ?_ ?_; (· simp only [List.getElem?_cons_zero, List.getElem?_cons_succ]))
                | (refine Run.skipsU ?_ ?_; (· simp only [List.getElem?_cons_zero, List.getElem?_cons_succ]))
                | (refine Run.passT ?_ ?_; (· simp only [List.getElem?_cons_zero, List.getElem?_cons_succ]))
                | (refine Run.passF ?_ ?_; (· simp only [List.getElem?_cons_zero, List.getElem?_cons_succ]))
                | (refine Run.passU ?_ ?_; (· simp only [List.getElem?_cons_zero, List.getElem?_cons_succ]))
                | fail); simp only [Act.put, List.setIfInBounds_toArray, List.set_cons_zero, List.set_cons_succ])
              refine Run.runs (Run.callG 16 (by kernel_rfl) ?_ (fun hS => otx_any br gr F Q.length 0 (.inl rfl) _ (HO.out.keep (Below.refl _ _).drew) (by omega) HBY.out) rfl ?_)
              · simp only [List.getElem?_cons_zero, List.getElem?_cons_succ]
              rintro hS e z1 ⟨x1, rfl, hx1, ho1, hn1⟩
              rw [HTX.out] at hx1 ho1
              simp only [] at hx1 ho1
              have hk1 := HK.out.drew.trans (hn1.below hbrle HK.out.drew.size)
              obtain ⟨f0, f1, f2, f3⟩ := HC.out.keep hk1
              simp only [] at f0 f1 f2 f3
              refine ⟨_, rfl, ⟨f0, f1, f2, f3⟩, ?_⟩
              simp only [Act.put, List.setIfInBounds_toArray, List.set_cons_zero, List.set_cons_succ]
              have hrd1 : Rd (intE .u8) z1 (.slice ay B.length cy) B := HRDW.out.keep hk1
              obtain ⟨a6, c6, rfl, _, _⟩ := hx1.rd.form
              clear hS hn1 f0 f1 f2 f3 d0 d1 d2 d3
              repeat ((first
                | (refine Run.takes (v := ?_) ?_ ?_; rotate_left; (· intro w' hS'; go_simp; (try with_reducible rfl)))
                | (refine Run.takesG (v := ?_) ?_ ?_ ?_; rotate_left; (· simp only [List.getElem?_cons_zero, List.getElem?_cons_succ]); (· intro w' hS'; go_simp; (try with_reducible rfl)))
                | (refine Run.skipsT ?_ ?_; (· simp only [List.getElem?_cons_zero, List.getElem?_cons_succ]))
                | (refine Run.skipsF ?_ ?_; (· simp only [List.getElem?_cons_zero, List.getElem?_cons_succ]))
                | (refine Run.skipsU ?_ ?_; (· simp only [List.getElem?_cons_zero, List.getElem?_cons_succ]))
                | (refine Run.passT ?_ ?_; (· simp only [List.getElem?_cons_zero, List.getElem?_cons_succ]))
                | (refine Run.passF ?_ ?_; (· simp only [List.getElem?_cons_zero, List.getElem?_cons_succ]))
                | (refine Run.passU ?_ ?_; (· simp only [List.getElem?_cons_zero, List.getElem?_cons_succ]))
                | fail); simp only [Act.put, List.setIfInBounds_toArray, List.set_cons_zero, List.set_cons_succ])
              refine Run.runs (Run.callG 15 (by kernel_rfl) ?_ (fun hS => bytes_yes _ _ B z1 hx1.rd hrd1) rfl ?_)
              · simp only [List.getElem?_cons_zero, List.getElem?_cons_succ]
              rintro hS e z2 ⟨rfl, hb2'⟩
              have hk2 := hk1.trans (hb2'.mono hk1.size)
              have HO2 := Lib.hid (ho1.keep hb2')
              obtain ⟨f0, f1, f2, f3⟩ := HC.out.keep hk2
              simp only [] at f0 f1 f2 f3
              refine ⟨_, rfl, ⟨f0, f1, f2, f3⟩, ?_⟩
              simp only [Act.put, List.setIfInBounds_toArray, List.set_cons_zero, List.set_cons_succ]
              have HK2 := Lib.hid hk2
              clear hS hk1 hk2 hx1 ho1 hrd1 hb2' f0 f1 f2 f3
              repeat ((first
                | (refine Run.takes (v := ?_) ?_ ?_; rotate_left; (· intro w' hS'; go_simp; (try with_reducible rfl)))
                | (refine Run.takesG (v := ?_) ?_ ?_ ?_; rotate_left; (· simp only [List.getElem?_cons_zero, List.getElem?_cons_succ]); (· intro w' hS'; go_simp; (try with_reducible rfl)))
                | (refine Run.skipsT ?_ ?_; (· simp only [List.getElem?_cons_zero, List.getElem?_cons_succ]))
                | (refine Run.skipsF ?_ ?_; (· simp only [List.getElem?_cons_zero, List.getElem?_cons_succ]))
                | (refine Run.skipsU ?_ ?_; (· simp only [List.getElem?_cons_zero, List.getElem?_cons_succ]))
                | (refine Run.passT ?_ ?_; (· simp only [List.getElem?_cons_zero, List.getElem?_cons_succ]))
                | (refine Run.passF ?_ ?_; (· simp only [List.getElem?_cons_zero, List.getElem?_cons_succ]))
                | (refine Run.passU ?_ ?_; (· simp only [List.getElem?_cons_zero, List.getElem?_cons_succ]))
                | fail); simp only [Act.put, List.setIfInBounds_toArray, List.set_cons_zero, List.set_cons_succ])
              refine Run.ends (fun hS => ?_)
              clear hS
              go_wp2_with fail
              exact ⟨⟨j + 1, by omega, by go_num, by rw [HEL.out]; exact HO2.out, HK2.out⟩, by simp [intOf]; omega⟩
            | false =>
              go_wp2_with fail
              clear hM hmx
              obtain ⟨t, ht⟩ : ∃ t, t + 8 * s = 64 := ⟨64 - 8 * s, by omega⟩
              have hx1 : IntKind.i64.wrap (8 * (s : Int)) = 8 * (s : Int) := IntWalk.i64_in _ (by omega)
              have hx2 : IntKind.i64.wrap (64 - 8 * (s : Int)) = (t : Int) := by rw [IntWalk.i64_in _ (by omega)]; omega
              have hx3 : IntKind.u64.wrap (t : Int) = (t : Int) := IntWalk.u64_in _ (by omega)
              have hx4 : min t 64 = t := Nat.min_eq_left (by omega)
              have ht56 : t ≤ 56 := by omega
              have HT := Lib.hid ht
              clear ht
              refine Run.region_walk (S := fun z => z.cell? ⟨g, off + j * 4, none⟩ = some (.bool false) ∧ z.cell? ⟨g, off + j * 4 + 1, none⟩ = some (.int .u64 V) ∧ z.cell? ⟨g, off + j * 4 + 2, none⟩ = some (.int .i64 N) ∧ z.cell? ⟨g, off + j * 4 + 3, none⟩ = some (.slice ay B.length cy))
                lwrites.rows19 lwrites.plan19 (l := ?steps12) (by kernel_rfl) (by kernel_rfl) (by kernel_rfl) (by kernel_rfl) ?written12 ⟨d0, d1, d2, d3⟩ ?onward12
              case written12 =>
                simp only [lwrites.plan19, Run.stepsOf, Run.stepOf, Run.guardOf, List.getElem?_toArray, List.getElem?_cons_zero, List.getElem?_cons_succ, Option.map_some, Option.map_none, Option.bind_some, Option.toList_some, List.map_cons, List.map_nil, List.cons_append, List.nil_append]
                rfl
              repeat ((first
                | (refine Run.takes (v := ?_) ?_ ?_; rotate_left; (· intro w' hS'; go_simp; (try with_reducible rfl)))
                | (refine Run.takesG (v := ?_) ?_ ?_ ?_; rotate_left; (· simp only [List.getElem?_cons_zero, List.getElem?_cons_succ]); (· intro w' hS'; go_simp; (try with_reducible rfl)))
                | (refine Run.skipsT ?_ ?_; (· simp only [List.getElem?_cons_zero, List.getElem?_cons_succ]))
                | (refine Run.skipsF ?_ ?_; (· simp only [List.getElem?_cons_zero, List.getElem?_cons_succ]))
                | (refine Run.skipsU ?_ ?_; (· simp only [List.getElem?_cons_zero, List.getElem?_cons_succ]))
                | (refine Run.passT ?_ ?_; (· simp only [List.getElem?_cons_zero, List.getElem?_cons_succ]))
                | (refine Run.passF ?_ ?_; (· simp only [List.getElem?_cons_zero, List.getElem?_cons_succ]))
                | (refine Run.passU ?_ ?_; (· simp only [List.getElem?_cons_zero, List.getElem?_cons_succ]))
                | fail); simp only [Act.put, List.setIfInBounds_toArray, List.set_cons_zero, List.set_cons_succ])
              have hgt := gt_here Q post V N
              have hF2 : F = Q ++ (be (szN N) V ++ post) := HSP.out
              rw [← hF2, HSZ.out] at hgt
              have hnum : num (be s V) = IntKind.u64.wrap (V * 2 ^ t) / 2 ^ t := by
                have h := shift_mod hb1.1 (k := s) hs18.1 hs18.2
                rw [show 64 - 8 * s = t by have := HT.out; omega] at h
                rw [num_be, IntKind.wrap_u64, h]
              have henl : (encs (l.take (j + 1))).length = Q.length + s := by
                rw [HEN.out, List.length_append]
                show Q.length + (be (szN N) V).length = _
                rw [be_len, HSZ.out]
              have HEL := Lib.hid henl
              have HGT := Lib.hid hgt
              clear hgt hF2 henl
              refine Run.runs (Run.callG 17 (by kernel_rfl) ?_ (fun hS => oget_any br gr F Q.length N 0 (.inl rfl) _ (HO.out.keep (Below.refl _ _).drew) (by omega) HBY.out) rfl ?_)
              · simp only [List.getElem?_cons_zero, List.getElem?_cons_succ]
              rintro hS e z1 ⟨rfl, ho1, hn1⟩
              rw [HGT.out] at ho1 ⊢
              simp only [] at ho1 ⊢
              rw [hnum]
              generalize IntKind.u64.wrap (V * 2 ^ t) / 2 ^ t = R at *
              have hk1 := HK.out.drew.trans (hn1.below hbrle HK.out.drew.size)
              obtain ⟨f0, f1, f2, f3⟩ := HC.out.keep hk1
              simp only [] at f0 f1 f2 f3
              refine ⟨_, rfl, ⟨f0, f1, f2, f3⟩, ?_⟩
              simp only [Act.put, List.setIfInBounds_toArray, List.set_cons_zero, List.set_cons_succ]
              have HO2 := Lib.hid ho1
              have HK2 := Lib.hid hk1
              clear hS hn1 f0 f1 f2 f3 d0 d1 d2 d3 hk1 ho1 hnum hx1 hx2 hx3 hx4
              repeat ((first
                | (refine Run.takes (v := ?_) ?_ ?_; rotate_left; (· intro w' hS'; go_simp; (try with_reducible rfl)))
                | (refine Run.takesG (v := ?_) ?_ ?_ ?_; rotate_left; (· simp only [List.getElem?_cons_zero, List.getElem?_cons_succ]); (· intro w' hS'; go_simp; (try with_reducible rfl)))
                | (refine Run.skipsT ?_ ?_; (· simp only [List.getElem?_cons_zero, List.getElem?_cons_succ]))
                | (refine Run.skipsF ?_ ?_; (· simp only [List.getElem?_cons_zero, List.getElem?_cons_succ]))
                | (refine Run.skipsU ?_ ?_; (· simp only [List.getElem?_cons_zero, List.getElem?_cons_succ]))
                | (refine Run.passT ?_ ?_; (· simp only [List.getElem?_cons_zero, List.getElem?_cons_succ]))
                | (refine Run.passF ?_ ?_; (· simp only [List.getElem?_cons_zero, List.getElem?_cons_succ]))
                | (refine Run.passU ?_ ?_; (· simp only [List.getElem?_cons_zero, List.getElem?_cons_succ]))
                | fail); simp only [Act.put, List.setIfInBounds_toArray, List.set_cons_zero, List.set_cons_succ])
              refine Run.ends (fun hS => ?_)
              clear hS
              go_wp2_with fail
              exact ⟨⟨j + 1, by omega, by go_num, by rw [HEL.out]; exact HO2.out, HK2.out⟩, by simp [intOf]; omega⟩
          · have hjk2 : j = k := by omega
            have p1 : (j : Int) < l.length := by omega
            have p2 : ¬ (j : Int) < 40 := by have := HOUT.out; omega
            have hPF : (encs (l.take j)).length = F.length := by rw [hjk2, HF.out]
            rw [hPF] at ho
            have hgt : gt F F.length 0 1 = (F.length, 3, []) := by
              unfold gt
              exact tk_more (by rw [Nat.sub_self]; exact (szN_bd 1).1)
            have HGT := Lib.hid hgt
            have HO := Lib.hid ho
            have HK := Lib.hid hkk
            clear hgt ho hkk hPF hjk2
            go_wp2_with fail
            refine (oerr_any br gr F F.length 0 _ HO.out).mono ?_
            rintro e z1 ⟨rfl, hb1⟩
            have HO1 := Lib.hid (HO.out.keep hb1)
            have HK1 := Lib.hid (HK.out.trans (hb1.mono HK.out.size))
            clear hb1 HO HK
            go_wp2_with fail
            refine (oleft_any br gr F F.length 0 _ HO1.out).mono ?_
            rintro e z2 ⟨rfl, hb2⟩
            rw [show (if (0 : Int) = 0 then (F.length : Int) - F.length else 0) = 0 by simp]
            have HO2 := Lib.hid (HO1.out.keep hb2)
            have HK2 := Lib.hid (HK1.out.trans (hb2.mono HK1.out.size))
            clear hb2 HO1 HK1
            go_wp2_with fail
            refine (oget_any br gr F F.length 1 0 (.inl rfl) _ HO2.out (by omega) HBY.out).mono ?_
            rintro e z3 ⟨rfl, ho3, hn3⟩
            rw [HGT.out] at ho3 ⊢
            simp only [] at ho3 ⊢
            rw [show num [] = 0 from rfl]
            have HO3 := Lib.hid ho3
            have HK3 := Lib.hid (HK2.out.trans (hn3.below hbrle HK2.out.size))
            clear ho3 hn3 HO2 HK2
            go_wp2_with fail
            refine (oerr_any br gr F F.length 3 _ HO3.out).mono ?_
            rintro e z4 ⟨rfl, hb4⟩
            have HK4 := Lib.hid (HK3.out.trans (hb4.mono HK3.out.size))
            clear hb4 HO3 HK3
            go_wp2_with fail
            go_ret
            exact ⟨rfl, HK4.out⟩
end Go.Proofs.Ytejmidfkedalgaa.octetWrites
