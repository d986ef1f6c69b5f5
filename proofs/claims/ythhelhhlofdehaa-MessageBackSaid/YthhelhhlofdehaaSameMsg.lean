/- petasoshelp.Plain of any two slices of ranges; petasoshelp.Message of any two messages. -/
import Derived.Test.YthhelhhlofdehaaSameRecs
import Derived.Test.YthhelhhlofdehaaOwnR
import Derived.Test.YthhelhhlofdehaaRun
import Derived.Deep.DeepCutAuto
set_option maxRecDepth 4000
namespace Go.Proofs.Ythhelhhlofdehaa
open Go.RowKit Mem
set_option linter.unusedSimpArgs false
set_option linter.unusedVariables false
attribute [local irreducible] Go.Calls

abbrev Rng := Int × Int × Int
theorem eqR_any (x y : Rng) (w : World) :
    Calls Try.prog 70 #[.agg #[.int .i64 x.1, .int .u32 x.2.1, .int .u32 x.2.2], .agg #[.int .i64 y.1, .int .u32 y.2.1, .int .u32 y.2.2]] w fun e w' => e = .returned (.bool (decide (x = y))) ∧ Below w.heap.size w w' := by
  obtain ⟨k, a, b⟩ := x
  obtain ⟨k', a', b'⟩ := y
  simp only []
  by_cases h1 : k = k'
  · subst h1
    by_cases h2 : a = a'
    · subst h2
      by_cases h3 : b = b'
      · subst h3
        rw [decide_eq_true rfl]
        exact eqR_yes k a b w
      · have d3 : (b == b') = false := by simpa using h3
        rw [decide_eq_false (by simp [h3])]
        clear h3
        go_enter Try.func70, Try.ntmps70
        go_wp2
        go_ret
        exact ⟨rfl, more (more (Below.refl _ _) _) _⟩
    · have d2 : (a == a') = false := by simpa using h2
      rw [decide_eq_false (by simp [h2])]
      clear h2
      go_enter Try.func70, Try.ntmps70
      go_wp2
      go_ret
      exact ⟨rfl, more (more (Below.refl _ _) _) _⟩
  · have d1 : (k == k') = false := by simpa using h1
    rw [decide_eq_false (by simp [h1])]
    clear h1
    go_enter Try.func70, Try.ntmps70
    go_wp2
    go_ret
    exact ⟨rfl, more (more (Below.refl _ _) _) _⟩
def upToG (l m : List Rng) (k : Nat) : Prop := ∀ i, i < k → l.getD i (0, 0, 0) = m.getD i (0, 0, 0)
theorem upToG_all {l m : List Rng} (h : l.length = m.length) (hk : upToG l m l.length) : l = m := by
  apply List.ext_getElem h
  intro i h1 h2
  have := hk i h1
  simpa [List.getD, h1, h2] using this
set_option maxHeartbeats 2000000 in
theorem sameG_any (v1 v2 : Value) (l m : List Rng) (w : World) (h1 : Rd rngE w v1 l) (h2 : Rd rngE w v2 m) :
    Calls Try.prog 69 #[v1, v2, .func (.func 70) #[] #[]] w fun e w' => e = .returned (.bool (decide (l = m))) ∧ Below w.heap.size w w' := by
  obtain ⟨a1, g1, o1, c1, rfl, hc1, hm1, ha1, k1⟩ := Rd.loop3 h1
  obtain ⟨a2, g2, o2, c2, rfl, hc2, hm2, ha2, k2⟩ := Rd.loop3 h2
  have hm1' : c1 ≤ 9223372036854775807 := hm1
  have hm2' : c2 ≤ 9223372036854775807 := hm2
  by_cases hn : l.length = m.length
  case neg =>
    have hne : decide (l = m) = false := decide_eq_false (fun e => hn (by rw [e]))
    rw [hne]
    have e1 : ((l.length : Int) == m.length) = false := by simp; omega
    clear h1 h2 ha1 ha2 k1 k2
    go_enter Try.func69, Try.ntmps69
    go_wp2_with fail
    go_ret
    exact ⟨rfl, Below.refl _ _⟩
  have H1 := Lib.hid k1
  have H2 := Lib.hid k2
  have HN := Lib.hid hn
  have HA1 := Lib.hid ha1
  have HA2 := Lib.hid ha2
  have HALL : Hid (upToG l m l.length → l = m) := Lib.hid (fun h => upToG_all hn h)
  have HNE : Hid (∀ k, l.getD k (0, 0, 0) ≠ m.getD k (0, 0, 0) → l ≠ m) := Lib.hid (fun k h e => h (by rw [e]))
  rw [← hn] at hc2 ⊢
  clear h1 h2 ha1 ha2 k1 k2 hn
  go_enter Try.func69, Try.ntmps69
  go_wp2_with fail
  go_loopw [7] (fun i wr => ∃ k : Nat, k ≤ l.length ∧ i = .int .i64 k ∧ upToG l m k ∧ Below w.heap.size w wr) (fun i _ => l.length - (intOf i).toNat)
  case atStart => exact ⟨0, Nat.zero_le _, rfl, fun i hi => absurd hi (Nat.not_lt_zero _), Below.refl _ _⟩
  case round =>
    obtain ⟨k, hk, rfl, hu, hb⟩ := hrel
    have HU := Lib.hid hu
    have HB := Lib.hid hb
    clear hu
    by_cases hlt : k < l.length
    · obtain ⟨rfl, hg1⟩ := HA1.out (by omega)
      obtain ⟨rfl, hg2⟩ := HA2.out (by have := HN.out; omega)
      have hlt2 : k < m.length := by have := HN.out; omega
      have d1 := kc hb (H1.out k hlt).1
      have d2 := kc hb (H1.out k hlt).2.1
      have d3 := kc hb (H1.out k hlt).2.2
      have d4 := kc hb (H2.out k hlt2).1
      have d5 := kc hb (H2.out k hlt2).2.1
      have d6 := kc hb (H2.out k hlt2).2.2
      have HX : Hid (l.getD k (0, 0, 0) = m.getD k (0, 0, 0) → upToG l m (k + 1)) := Lib.hid (fun h i hi => by
        rcases Nat.lt_or_ge i k with h' | h'
        · exact HU.out i h'
        · rw [show i = k by omega]; exact h)
      have HY : Hid (l.getD k (0, 0, 0) ≠ m.getD k (0, 0, 0) → l ≠ m) := Lib.hid (HNE.out k)
      clear hlt2
      generalize l.getD k (0, 0, 0) = x at *
      generalize m.getD k (0, 0, 0) = y at *
      go_wp2_with fail
      refine Run.region_walk (S := fun z => z.cell? ⟨g1, o1 + k * 3, none⟩ = some (.int .i64 x.1) ∧ z.cell? ⟨g1, o1 + k * 3 + 1, none⟩ = some (.int .u32 x.2.1) ∧ z.cell? ⟨g1, o1 + k * 3 + 2, none⟩ = some (.int .u32 x.2.2) ∧ z.cell? ⟨g2, o2 + k * 3, none⟩ = some (.int .i64 y.1) ∧ z.cell? ⟨g2, o2 + k * 3 + 1, none⟩ = some (.int .u32 y.2.1) ∧ z.cell? ⟨g2, o2 + k * 3 + 2, none⟩ = some (.int .u32 y.2.2) ∧ Below w.heap.size w z)
        samer.rows5 samer.plan5 (l := ?steps1) (by kernel_rfl) (by kernel_rfl) (by kernel_rfl) (by kernel_rfl) ?written1 ⟨d1, d2, d3, d4, d5, d6, hb.drew⟩ ?onward1
      case written1 =>
        simp only [samer.plan5, Run.stepsOf, Run.stepOf, Run.guardOf, List.getElem?_toArray, List.getElem?_cons_zero, List.getElem?_cons_succ, Option.map_some, Option.map_none, Option.bind_some, Option.toList_some, List.map_cons, List.map_nil, List.cons_append, List.nil_append]
        rfl
      repeat ((first
        | (refine Run.takes (v := ?_) ?_ ?_; rotate_left; (· intro w' hS'; go_simp; (try with_reducible rfl)))
        | (refine Run.takesG (v := ?_) ?_ ?_ ?_; rotate_left; (· simp only [List.getElem?_cons_zero, List.getElem?_cons_succ]); (· intro w' hS'; go_simp; (try with_reducible rfl)))
        | (refine Run.skipsT ?_ ?_; (· simp only [List.getElem?_cons_zero, List.getElem?_cons_succ]))
        | (refine Run.skipsF ?_ ?_; (· simp only [List.getElem?_cons_zero, List.getElem?_cons_succ]))
        | (refine Run.skipsU ?_ ?_; (· simp only [List.getElem?_cons_zero, List.getElem?_cons_succ]))
        | (refine Run.passT ?_ ?_; (· simp only [List.getElem?_cons_zero, List.getElem?_cons_succ]))
        | (refine Run.passF ?_ ?_; (· simp only [List.getElem?_cons_zero, List.getElem?_cons_succ]))
        | (refine Run.passU ?_ ?_; (· simp only [List.getElem?_cons_zero, List.getElem?_cons_succ]))
        | fail); simp only [Act.put, List.setIfInBounds_toArray, List.set_cons_zero, List.set_cons_succ])
      refine Run.runs (Run.one (fun hS K hK => ?_))
      go_simp
      refine (eqR_any x y _).mono ?_
      rintro e z ⟨rfl, hz⟩
      have hS1 := hS
      refine hK.out _ _ ⟨kc hz hS.1, kc hz hS.2.1, kc hz hS.2.2.1, kc hz hS.2.2.2.1, kc hz hS.2.2.2.2.1, kc hz hS.2.2.2.2.2.1, nest hS.2.2.2.2.2.2 hz⟩ ?_
      clear hK hS1
      repeat ((first
        | (refine Run.takes (v := ?_) ?_ ?_; rotate_left; (· intro w' hS'; go_simp; (try with_reducible rfl)))
        | (refine Run.takesG (v := ?_) ?_ ?_ ?_; rotate_left; (· simp only [List.getElem?_cons_zero, List.getElem?_cons_succ]); (· intro w' hS'; go_simp; (try with_reducible rfl)))
        | (refine Run.skipsT ?_ ?_; (· simp only [List.getElem?_cons_zero, List.getElem?_cons_succ]))
        | (refine Run.skipsF ?_ ?_; (· simp only [List.getElem?_cons_zero, List.getElem?_cons_succ]))
        | (refine Run.skipsU ?_ ?_; (· simp only [List.getElem?_cons_zero, List.getElem?_cons_succ]))
        | (refine Run.passT ?_ ?_; (· simp only [List.getElem?_cons_zero, List.getElem?_cons_succ]))
        | (refine Run.passF ?_ ?_; (· simp only [List.getElem?_cons_zero, List.getElem?_cons_succ]))
        | (refine Run.passU ?_ ?_; (· simp only [List.getElem?_cons_zero, List.getElem?_cons_succ]))
        | fail); simp only [Act.put, List.setIfInBounds_toArray, List.set_cons_zero, List.set_cons_succ])
      refine Run.ends (fun hS2 => ?_)
      clear K d1 d2 d3 d4 d5 d6
      have HB2 := Lib.hid hS2.2.2.2.2.2.2
      clear hS2 hb
      by_cases hxy : x = y
      · have e2 : decide (x = y) = true := decide_eq_true hxy
        have HXY := Lib.hid (HX.out hxy)
        clear hxy
        simp only [e2, Bool.not_true]
        go_wp2
        go_roundw
        case rel => exact ⟨k + 1, by omega, by go_num, HXY.out, HB2.out⟩
        case measure => simp [intOf]; omega
      · have e2 : decide (x = y) = false := decide_eq_false hxy
        have e3 := decide_eq_false (HY.out hxy)
        clear hxy
        simp only [e2, Bool.not_false]
        go_wp2
        go_ret
        exact ⟨by rw [e3]; rfl, HB2.out⟩
    · have hkn : k = l.length := by omega
      subst hkn
      have e3 := decide_eq_true (HALL.out HU.out)
      clear hb
      go_wp2
      go_ret
      exact ⟨by rw [e3]; rfl, HB.out⟩
theorem plainG_any (v1 v2 : Value) (l m : List Rng) (w : World) (h1 : Rd rngE w v1 l) (h2 : Rd rngE w v2 m) :
    Calls Try.prog 49 #[v1, v2] w fun e w' => e = .returned (.bool (decide (l = m))) ∧ Below w.heap.size w w' := by
  have HC := Lib.hid (sameG_any v1 v2 l m w h1 h2)
  obtain ⟨a1, c1, rfl, _⟩ := h1.form
  obtain ⟨a2, c2, rfl, _⟩ := h2.form
  clear h1 h2
  go_enter Try.func49, Try.ntmps49
  go_wp2_with (go_at_call 69; refine HC.out.mono ?_; rintro e w' ⟨rfl, hk⟩)
  go_ret
  exact ⟨rfl, hk⟩
/-- two messages -/
def sameM (m n : Msg) : Bool := (m.kind == n.kind) && ((m.hub == n.hub) && ((m.point == n.point) && ((m.client == n.client) && ((m.op == n.op) && ((m.target == n.target) && ((m.hops == n.hops) && ((m.owner == n.owner) && ((m.turn == n.turn) && (sameE m.ev m.eid m.ever m.vals m.gone n.ev n.eid n.ever n.vals n.gone && (((m.sf == n.sf) && (m.st == n.st)) && (decide (m.box = n.box) && decide (m.recs = n.recs))))))))))))
theorem ent_info' : (Try.prog.info? 28).map (·.size) = some 5 := by kernel_rfl
theorem span_info' : (Try.prog.info? 30).map (·.size) = some 2 := by kernel_rfl
set_option maxRecDepth 100000 in
set_option maxHeartbeats 8000000 in
theorem message_any (m n : Msg) (v1 b1 r1 v2 b2 r2 : Value) (w : World) (h1 : MRd w m v1 b1 r1) (h2 : MRd w n v2 b2 r2) :
    Calls Try.prog 19 #[.agg (mcs m v1 b1 r1).toArray, .agg (mcs n v2 b2 r2).toArray] w fun e w' => e = .returned (.bool (sameM m n)) ∧ Below w.heap.size w w' := by
  have hk0 : Below w.heap.size w ((w.alloc (.cells (mcs m v1 b1 r1).toArray 34)).alloc (.cells (mcs n v2 b2 r2).toArray 34)) := more (more (Below.refl _ _) _) _
  have hb1 : Blk ((w.alloc (.cells (mcs m v1 b1 r1).toArray 34)).alloc (.cells (mcs n v2 b2 r2).toArray 34)) w.heap.size 34 (mcs m v1 b1 r1).toArray := (Blk.new w _ _).keep (more (Below.refl _ _) _)
  have hb2 : Blk ((w.alloc (.cells (mcs m v1 b1 r1).toArray 34)).alloc (.cells (mcs n v2 b2 r2).toArray 34)) (w.heap.size + 1) 34 (mcs n v2 b2 r2).toArray := Blk.newAt _ _ _ (size_alloc _ _).symm
  have HB1 := Lib.hid hb1
  have HB2 := Lib.hid hb2
  have HK := Lib.hid hk0
  have HM1 := Lib.hid (h1.keep hk0)
  have HM2 := Lib.hid (h2.keep hk0)
  clear hk0 hb1 hb2 h1 h2
  go_enter Try.func19, Try.ntmps19
  go_upto_region 1 with fail
  generalize (w.alloc (.cells (mcs m v1 b1 r1).toArray 34)).alloc (.cells (mcs n v2 b2 r2).toArray 34) = w1 at *
  obtain ⟨g1, hg1⟩ : ∃ x, x = w.heap.size := ⟨_, rfl⟩
  obtain ⟨g2, hg2⟩ : ∃ x, x = w.heap.size + 1 := ⟨_, rfl⟩
  rw [← hg2] at HB2 ⊢
  rw [← hg1] at HB1 ⊢
  clear hg1 hg2
  have HI := Lib.hid (Below.refl w1.heap.size w1)
  have HR : Hid (sameM m n = ((m.kind == n.kind) && ((m.hub == n.hub) && ((m.point == n.point) && ((m.client == n.client) && ((m.op == n.op) && ((m.target == n.target) && ((m.hops == n.hops) && ((m.owner == n.owner) && ((m.turn == n.turn) && (sameE m.ev m.eid m.ever m.vals m.gone n.ev n.eid n.ever n.vals n.gone && (((m.sf == n.sf) && (m.st == n.st)) && (decide (m.box = n.box) && decide (m.recs = n.recs)))))))))))))) := Lib.hid rfl
  have CE : Hid (∀ z, Below w1.heap.size w1 z → Calls Try.prog 47 #[.agg #[.int .u32 m.ev, .int .u64 m.eid, .int .u64 m.ever, v1, .bool m.gone], .agg #[.int .u32 n.ev, .int .u64 n.eid, .int .u64 n.ever, v2, .bool n.gone]] z fun e w' => e = .returned (.bool (sameE m.ev m.eid m.ever m.vals m.gone n.ev n.eid n.ever n.vals n.gone)) ∧ Below z.heap.size z w') := Lib.hid (fun z hz => entry_any m.ev m.eid m.ever n.ev n.eid n.ever v1 v2 m.vals n.vals m.gone n.gone z (HM1.out.vals.keep hz) (HM2.out.vals.keep hz))
  have CB : Hid (∀ z, Below w1.heap.size w1 z → Calls Try.prog 49 #[b1, b2] z fun e w' => e = .returned (.bool (decide (m.box = n.box))) ∧ Below z.heap.size z w') := Lib.hid (fun z hz => plainG_any b1 b2 m.box n.box z (HM1.out.box.keep hz) (HM2.out.box.keep hz))
  have CR : Hid (∀ z, Below w1.heap.size w1 z → Calls Try.prog 50 #[r1, r2] z fun e w' => e = .returned (.bool (decide (m.recs = n.recs))) ∧ Below z.heap.size z w') := Lib.hid (fun z hz => records_any r1 r2 m.recs n.recs z (recsK.keep HM1.out.recs hz) (recsK.keep HM2.out.recs hz))
  cases d0 : (m.kind == n.kind) with
  | false =>
    rw [d0, Bool.false_and] at HR
    skip
    as_aux_lemma =>
      refine Run.region_seq (S := fun z => z.cell? ⟨g1, 0, none⟩ = some (.int .i64 m.kind) ∧ z.cell? ⟨g1, 1, none⟩ = some (.int .i64 m.hub) ∧ z.cell? ⟨g1, 2, none⟩ = some (.int .u32 m.point) ∧ z.cell? ⟨g1, 3, none⟩ = some (.int .i64 m.client) ∧ z.cell? ⟨g1, 4, none⟩ = some (.int .i64 m.op) ∧ z.cell? ⟨g1, 5, none⟩ = some (.int .u32 m.target) ∧ z.cell? ⟨g1, 6, none⟩ = some (.int .i64 m.hops) ∧ z.cell? ⟨g1, 7, none⟩ = some (.int .u32 m.owner) ∧ z.cell? ⟨g1, 8, none⟩ = some (.int .i64 m.turn) ∧ z.cell? ⟨g1, 16, none⟩ = some b1 ∧ z.cell? ⟨g1, 17, none⟩ = some r1 ∧ z.cell? ⟨g2, 0, none⟩ = some (.int .i64 n.kind) ∧ z.cell? ⟨g2, 1, none⟩ = some (.int .i64 n.hub) ∧ z.cell? ⟨g2, 2, none⟩ = some (.int .u32 n.point) ∧ z.cell? ⟨g2, 3, none⟩ = some (.int .i64 n.client) ∧ z.cell? ⟨g2, 4, none⟩ = some (.int .i64 n.op) ∧ z.cell? ⟨g2, 5, none⟩ = some (.int .u32 n.target) ∧ z.cell? ⟨g2, 6, none⟩ = some (.int .i64 n.hops) ∧ z.cell? ⟨g2, 7, none⟩ = some (.int .u32 n.owner) ∧ z.cell? ⟨g2, 8, none⟩ = some (.int .i64 n.turn) ∧ z.cell? ⟨g2, 16, none⟩ = some b2 ∧ z.cell? ⟨g2, 17, none⟩ = some r2 ∧ Below w1.heap.size w1 z)
        [0, 0, 0, 0, 0, 0, 0, 0, 0, 0, 0, 0, 0, 0, 0, 0, 0, 0, 0, 0, 0, 0, 0, 0, 0, 0, 0, 0, 0, 0, 0, 0, 0, 0, 0, 0, 0, 0, 0, 0, 0, 0, 0, 0, 0, 0, 0, 0, 0, 0, 0, 0, 0, 0, 0, 0, 0, 0, 0, 0, 0, 0, 0, 0, 0, 0, 1, 0, 0, 0, 0, 0, 0, 0, 0, 0, 0, 0, 0, 0, 1, 0, 0, 0, 0, 0, 0, 1, 0, 0] (l := ?_) ?_ ⟨HB1.out.cell 0, HB1.out.cell 1, HB1.out.cell 2, HB1.out.cell 3, HB1.out.cell 4, HB1.out.cell 5, HB1.out.cell 6, HB1.out.cell 7, HB1.out.cell 8, HB1.out.cell 16, HB1.out.cell 17, HB2.out.cell 0, HB2.out.cell 1, HB2.out.cell 2, HB2.out.cell 3, HB2.out.cell 4, HB2.out.cell 5, HB2.out.cell 6, HB2.out.cell 7, HB2.out.cell 8, HB2.out.cell 16, HB2.out.cell 17, HI.out⟩ ?_
      rotate_left
      (· simp only [Run.seqOf, List.toList_toArray, Run.stepsOf, Run.stepOf, Run.guardOf, List.getElem?_toArray, List.getElem?_cons_zero, List.getElem?_cons_succ, Option.map_some, Option.map_none, Option.bind_some, Option.toList_some, List.map_cons, List.map_nil, List.cons_append, List.nil_append]
         rfl)
      repeat ((first
        | (refine Run.takes (v := ?_) ?_ ?_; rotate_left; (· intro w' hS'; (first | (refine exec_load_sub (n := 5) (off := 9) (x := .tmp 67) (l := [.int .u32 m.ev, .int .u64 m.eid, .int .u64 m.ever, v1, .bool m.gone]) (m := mcs m v1 b1 r1) ?_ Try.underlying28 ent_info' ?_ ?_ (HB1.out.keep hS'.2.2.2.2.2.2.2.2.2.2.2.2.2.2.2.2.2.2.2.2.2.2) ?_ <;> rfl) | (refine exec_load_sub (n := 5) (off := 9) (x := .tmp 69) (l := [.int .u32 n.ev, .int .u64 n.eid, .int .u64 n.ever, v2, .bool n.gone]) (m := mcs n v2 b2 r2) ?_ Try.underlying28 ent_info' ?_ ?_ (HB2.out.keep hS'.2.2.2.2.2.2.2.2.2.2.2.2.2.2.2.2.2.2.2.2.2.2) ?_ <;> rfl) | (refine exec_load_sub (n := 2) (off := 14) (x := .tmp 74) (l := [.int .u32 m.sf, .int .u32 m.st]) (m := mcs m v1 b1 r1) ?_ Try.underlying30 span_info' ?_ ?_ (HB1.out.keep hS'.2.2.2.2.2.2.2.2.2.2.2.2.2.2.2.2.2.2.2.2.2.2) ?_ <;> rfl) | (refine exec_load_sub (n := 2) (off := 14) (x := .tmp 76) (l := [.int .u32 n.sf, .int .u32 n.st]) (m := mcs n v2 b2 r2) ?_ Try.underlying30 span_info' ?_ ?_ (HB2.out.keep hS'.2.2.2.2.2.2.2.2.2.2.2.2.2.2.2.2.2.2.2.2.2.2) ?_ <;> rfl) | (go_simp; (try with_reducible rfl)))))
        | (refine Run.takesG (v := ?_) ?_ ?_ ?_; rotate_left; (· simp only [List.getElem?_cons_zero, List.getElem?_cons_succ]); (· intro w' hS'; (first | (refine exec_load_sub (n := 5) (off := 9) (x := .tmp 67) (l := [.int .u32 m.ev, .int .u64 m.eid, .int .u64 m.ever, v1, .bool m.gone]) (m := mcs m v1 b1 r1) ?_ Try.underlying28 ent_info' ?_ ?_ (HB1.out.keep hS'.2.2.2.2.2.2.2.2.2.2.2.2.2.2.2.2.2.2.2.2.2.2) ?_ <;> rfl) | (refine exec_load_sub (n := 5) (off := 9) (x := .tmp 69) (l := [.int .u32 n.ev, .int .u64 n.eid, .int .u64 n.ever, v2, .bool n.gone]) (m := mcs n v2 b2 r2) ?_ Try.underlying28 ent_info' ?_ ?_ (HB2.out.keep hS'.2.2.2.2.2.2.2.2.2.2.2.2.2.2.2.2.2.2.2.2.2.2) ?_ <;> rfl) | (refine exec_load_sub (n := 2) (off := 14) (x := .tmp 74) (l := [.int .u32 m.sf, .int .u32 m.st]) (m := mcs m v1 b1 r1) ?_ Try.underlying30 span_info' ?_ ?_ (HB1.out.keep hS'.2.2.2.2.2.2.2.2.2.2.2.2.2.2.2.2.2.2.2.2.2.2) ?_ <;> rfl) | (refine exec_load_sub (n := 2) (off := 14) (x := .tmp 76) (l := [.int .u32 n.sf, .int .u32 n.st]) (m := mcs n v2 b2 r2) ?_ Try.underlying30 span_info' ?_ ?_ (HB2.out.keep hS'.2.2.2.2.2.2.2.2.2.2.2.2.2.2.2.2.2.2.2.2.2.2) ?_ <;> rfl) | (go_simp; (try with_reducible rfl)))))
        | (refine Run.skipsT ?_ ?_; (· simp only [List.getElem?_cons_zero, List.getElem?_cons_succ]))
        | (refine Run.skipsF ?_ ?_; (· simp only [List.getElem?_cons_zero, List.getElem?_cons_succ]))
        | (refine Run.skipsU ?_ ?_; (· simp only [List.getElem?_cons_zero, List.getElem?_cons_succ]))
        | (refine Run.passT ?_ ?_; (· simp only [List.getElem?_cons_zero, List.getElem?_cons_succ]))
        | (refine Run.passF ?_ ?_; (· simp only [List.getElem?_cons_zero, List.getElem?_cons_succ]))
        | (refine Run.passU ?_ ?_; (· simp only [List.getElem?_cons_zero, List.getElem?_cons_succ]))
        | (refine Run.runs ?_
           (first
           | (refine Run.callF 47 (by kernel_rfl) (fun hS => CE.out _ hS.2.2.2.2.2.2.2.2.2.2.2.2.2.2.2.2.2.2.2.2.2.2) rfl ?_)
           | (refine Run.callG 47 (by kernel_rfl) ?_ (fun hS => CE.out _ hS.2.2.2.2.2.2.2.2.2.2.2.2.2.2.2.2.2.2.2.2.2.2) rfl ?_; (· simp only [List.getElem?_cons_zero, List.getElem?_cons_succ]))
           | (refine Run.callF 49 (by kernel_rfl) (fun hS => CB.out _ hS.2.2.2.2.2.2.2.2.2.2.2.2.2.2.2.2.2.2.2.2.2.2) rfl ?_)
           | (refine Run.callG 49 (by kernel_rfl) ?_ (fun hS => CB.out _ hS.2.2.2.2.2.2.2.2.2.2.2.2.2.2.2.2.2.2.2.2.2.2) rfl ?_; (· simp only [List.getElem?_cons_zero, List.getElem?_cons_succ]))
           | (refine Run.callF 50 (by kernel_rfl) (fun hS => CR.out _ hS.2.2.2.2.2.2.2.2.2.2.2.2.2.2.2.2.2.2.2.2.2.2) rfl ?_)
           | (refine Run.callG 50 (by kernel_rfl) ?_ (fun hS => CR.out _ hS.2.2.2.2.2.2.2.2.2.2.2.2.2.2.2.2.2.2.2.2.2.2) rfl ?_; (· simp only [List.getElem?_cons_zero, List.getElem?_cons_succ]))
           | fail)
           (first
           | (rintro hS e w' ⟨rfl, rfl⟩; refine ⟨_, rfl, hS, ?_⟩)
           | (rintro hS e w' ⟨rfl, hb⟩; refine ⟨_, rfl, ⟨kc hb hS.1, kc hb hS.2.1, kc hb hS.2.2.1, kc hb hS.2.2.2.1, kc hb hS.2.2.2.2.1, kc hb hS.2.2.2.2.2.1, kc hb hS.2.2.2.2.2.2.1, kc hb hS.2.2.2.2.2.2.2.1, kc hb hS.2.2.2.2.2.2.2.2.1, kc hb hS.2.2.2.2.2.2.2.2.2.1, kc hb hS.2.2.2.2.2.2.2.2.2.2.1, kc hb hS.2.2.2.2.2.2.2.2.2.2.2.1, kc hb hS.2.2.2.2.2.2.2.2.2.2.2.2.1, kc hb hS.2.2.2.2.2.2.2.2.2.2.2.2.2.1, kc hb hS.2.2.2.2.2.2.2.2.2.2.2.2.2.2.1, kc hb hS.2.2.2.2.2.2.2.2.2.2.2.2.2.2.2.1, kc hb hS.2.2.2.2.2.2.2.2.2.2.2.2.2.2.2.2.1, kc hb hS.2.2.2.2.2.2.2.2.2.2.2.2.2.2.2.2.2.1, kc hb hS.2.2.2.2.2.2.2.2.2.2.2.2.2.2.2.2.2.2.1, kc hb hS.2.2.2.2.2.2.2.2.2.2.2.2.2.2.2.2.2.2.2.1, kc hb hS.2.2.2.2.2.2.2.2.2.2.2.2.2.2.2.2.2.2.2.2.1, kc hb hS.2.2.2.2.2.2.2.2.2.2.2.2.2.2.2.2.2.2.2.2.2.1, nest hS.2.2.2.2.2.2.2.2.2.2.2.2.2.2.2.2.2.2.2.2.2.2 hb⟩, ?_⟩)
           | fail))
        | fail); simp only [Act.put, List.setIfInBounds_toArray, List.set_cons_zero, List.set_cons_succ])
      refine Run.ends (fun hS => ?_)
      have HX := Lib.hid hS.2.2.2.2.2.2.2.2.2.2.2.2.2.2.2.2.2.2.2.2.2.2
      clear hS
      go_wp2_with fail
      go_ret
      exact ⟨by rw [HR.out]; rfl, nest HK.out HX.out⟩
  | true =>
    rw [d0, Bool.true_and] at HR
    cases d1 : (m.hub == n.hub) with
    | false =>
      rw [d1, Bool.false_and] at HR
      skip
      as_aux_lemma =>
        refine Run.region_seq (S := fun z => z.cell? ⟨g1, 0, none⟩ = some (.int .i64 m.kind) ∧ z.cell? ⟨g1, 1, none⟩ = some (.int .i64 m.hub) ∧ z.cell? ⟨g1, 2, none⟩ = some (.int .u32 m.point) ∧ z.cell? ⟨g1, 3, none⟩ = some (.int .i64 m.client) ∧ z.cell? ⟨g1, 4, none⟩ = some (.int .i64 m.op) ∧ z.cell? ⟨g1, 5, none⟩ = some (.int .u32 m.target) ∧ z.cell? ⟨g1, 6, none⟩ = some (.int .i64 m.hops) ∧ z.cell? ⟨g1, 7, none⟩ = some (.int .u32 m.owner) ∧ z.cell? ⟨g1, 8, none⟩ = some (.int .i64 m.turn) ∧ z.cell? ⟨g1, 16, none⟩ = some b1 ∧ z.cell? ⟨g1, 17, none⟩ = some r1 ∧ z.cell? ⟨g2, 0, none⟩ = some (.int .i64 n.kind) ∧ z.cell? ⟨g2, 1, none⟩ = some (.int .i64 n.hub) ∧ z.cell? ⟨g2, 2, none⟩ = some (.int .u32 n.point) ∧ z.cell? ⟨g2, 3, none⟩ = some (.int .i64 n.client) ∧ z.cell? ⟨g2, 4, none⟩ = some (.int .i64 n.op) ∧ z.cell? ⟨g2, 5, none⟩ = some (.int .u32 n.target) ∧ z.cell? ⟨g2, 6, none⟩ = some (.int .i64 n.hops) ∧ z.cell? ⟨g2, 7, none⟩ = some (.int .u32 n.owner) ∧ z.cell? ⟨g2, 8, none⟩ = some (.int .i64 n.turn) ∧ z.cell? ⟨g2, 16, none⟩ = some b2 ∧ z.cell? ⟨g2, 17, none⟩ = some r2 ∧ Below w1.heap.size w1 z)
          [0, 0, 0, 0, 0, 0, 0, 0, 0, 0, 0, 0, 0, 0, 0, 0, 0, 0, 0, 0, 0, 0, 0, 0, 0, 0, 0, 0, 0, 0, 0, 0, 0, 0, 0, 0, 0, 0, 0, 0, 0, 0, 0, 0, 0, 0, 0, 0, 0, 0, 0, 0, 0, 0, 0, 0, 0, 0, 0, 0, 0, 0, 0, 0, 0, 0, 1, 0, 0, 0, 0, 0, 0, 0, 0, 0, 0, 0, 0, 0, 1, 0, 0, 0, 0, 0, 0, 1, 0, 0] (l := ?_) ?_ ⟨HB1.out.cell 0, HB1.out.cell 1, HB1.out.cell 2, HB1.out.cell 3, HB1.out.cell 4, HB1.out.cell 5, HB1.out.cell 6, HB1.out.cell 7, HB1.out.cell 8, HB1.out.cell 16, HB1.out.cell 17, HB2.out.cell 0, HB2.out.cell 1, HB2.out.cell 2, HB2.out.cell 3, HB2.out.cell 4, HB2.out.cell 5, HB2.out.cell 6, HB2.out.cell 7, HB2.out.cell 8, HB2.out.cell 16, HB2.out.cell 17, HI.out⟩ ?_
        rotate_left
        (· simp only [Run.seqOf, List.toList_toArray, Run.stepsOf, Run.stepOf, Run.guardOf, List.getElem?_toArray, List.getElem?_cons_zero, List.getElem?_cons_succ, Option.map_some, Option.map_none, Option.bind_some, Option.toList_some, List.map_cons, List.map_nil, List.cons_append, List.nil_append]
           rfl)
        repeat ((first
          | (refine Run.takes (v := ?_) ?_ ?_; rotate_left; (· intro w' hS'; (first | (refine exec_load_sub (n := 5) (off := 9) (x := .tmp 67) (l := [.int .u32 m.ev, .int .u64 m.eid, .int .u64 m.ever, v1, .bool m.gone]) (m := mcs m v1 b1 r1) ?_ Try.underlying28 ent_info' ?_ ?_ (HB1.out.keep hS'.2.2.2.2.2.2.2.2.2.2.2.2.2.2.2.2.2.2.2.2.2.2) ?_ <;> rfl) | (refine exec_load_sub (n := 5) (off := 9) (x := .tmp 69) (l := [.int .u32 n.ev, .int .u64 n.eid, .int .u64 n.ever, v2, .bool n.gone]) (m := mcs n v2 b2 r2) ?_ Try.underlying28 ent_info' ?_ ?_ (HB2.out.keep hS'.2.2.2.2.2.2.2.2.2.2.2.2.2.2.2.2.2.2.2.2.2.2) ?_ <;> rfl) | (refine exec_load_sub (n := 2) (off := 14) (x := .tmp 74) (l := [.int .u32 m.sf, .int .u32 m.st]) (m := mcs m v1 b1 r1) ?_ Try.underlying30 span_info' ?_ ?_ (HB1.out.keep hS'.2.2.2.2.2.2.2.2.2.2.2.2.2.2.2.2.2.2.2.2.2.2) ?_ <;> rfl) | (refine exec_load_sub (n := 2) (off := 14) (x := .tmp 76) (l := [.int .u32 n.sf, .int .u32 n.st]) (m := mcs n v2 b2 r2) ?_ Try.underlying30 span_info' ?_ ?_ (HB2.out.keep hS'.2.2.2.2.2.2.2.2.2.2.2.2.2.2.2.2.2.2.2.2.2.2) ?_ <;> rfl) | (go_simp; (try with_reducible rfl)))))
          | (refine Run.takesG (v := ?_) ?_ ?_ ?_; rotate_left; (· simp only [List.getElem?_cons_zero, List.getElem?_cons_succ]); (· intro w' hS'; (first | (refine exec_load_sub (n := 5) (off := 9) (x := .tmp 67) (l := [.int .u32 m.ev, .int .u64 m.eid, .int .u64 m.ever, v1, .bool m.gone]) (m := mcs m v1 b1 r1) ?_ Try.underlying28 ent_info' ?_ ?_ (HB1.out.keep hS'.2.2.2.2.2.2.2.2.2.2.2.2.2.2.2.2.2.2.2.2.2.2) ?_ <;> rfl) | (refine exec_load_sub (n := 5) (off := 9) (x := .tmp 69) (l := [.int .u32 n.ev, .int .u64 n.eid, .int .u64 n.ever, v2, .bool n.gone]) (m := mcs n v2 b2 r2) ?_ Try.underlying28 ent_info' ?_ ?_ (HB2.out.keep hS'.2.2.2.2.2.2.2.2.2.2.2.2.2.2.2.2.2.2.2.2.2.2) ?_ <;> rfl) | (refine exec_load_sub (n := 2) (off := 14) (x := .tmp 74) (l := [.int .u32 m.sf, .int .u32 m.st]) (m := mcs m v1 b1 r1) ?_ Try.underlying30 span_info' ?_ ?_ (HB1.out.keep hS'.2.2.2.2.2.2.2.2.2.2.2.2.2.2.2.2.2.2.2.2.2.2) ?_ <;> rfl) | (refine exec_load_sub (n := 2) (off := 14) (x := .tmp 76) (l := [.int .u32 n.sf, .int .u32 n.st]) (m := mcs n v2 b2 r2) ?_ Try.underlying30 span_info' ?_ ?_ (HB2.out.keep hS'.2.2.2.2.2.2.2.2.2.2.2.2.2.2.2.2.2.2.2.2.2.2) ?_ <;> rfl) | (go_simp; (try with_reducible rfl)))))
          | (refine Run.skipsT ?_ ?_; (· simp only [List.getElem?_cons_zero, List.getElem?_cons_succ]))
          | (refine Run.skipsF ?_ ?_; (· simp only [List.getElem?_cons_zero, List.getElem?_cons_succ]))
          | (refine Run.skipsU ?_ ?_; (· simp only [List.getElem?_cons_zero, List.getElem?_cons_succ]))
          | (refine Run.passT ?_ ?_; (· simp only [List.getElem?_cons_zero, List.getElem?_cons_succ]))
          | (refine Run.passF ?_ ?_; (· simp only [List.getElem?_cons_zero, List.getElem?_cons_succ]))
          | (refine Run.passU ?_ ?_; (· simp only [List.getElem?_cons_zero, List.getElem?_cons_succ]))
          | (refine Run.runs ?_
             (first
             | (refine Run.callF 47 (by kernel_rfl) (fun hS => CE.out _ hS.2.2.2.2.2.2.2.2.2.2.2.2.2.2.2.2.2.2.2.2.2.2) rfl ?_)
             | (refine Run.callG 47 (by kernel_rfl) ?_ (fun hS => CE.out _ hS.2.2.2.2.2.2.2.2.2.2.2.2.2.2.2.2.2.2.2.2.2.2) rfl ?_; (· simp only [List.getElem?_cons_zero, List.getElem?_cons_succ]))
             | (refine Run.callF 49 (by kernel_rfl) (fun hS => CB.out _ hS.2.2.2.2.2.2.2.2.2.2.2.2.2.2.2.2.2.2.2.2.2.2) rfl ?_)
             | (refine Run.callG 49 (by kernel_rfl) ?_ (fun hS => CB.out _ hS.2.2.2.2.2.2.2.2.2.2.2.2.2.2.2.2.2.2.2.2.2.2) rfl ?_; (· simp only [List.getElem?_cons_zero, List.getElem?_cons_succ]))
             | (refine Run.callF 50 (by kernel_rfl) (fun hS => CR.out _ hS.2.2.2.2.2.2.2.2.2.2.2.2.2.2.2.2.2.2.2.2.2.2) rfl ?_)
             | (refine Run.callG 50 (by kernel_rfl) ?_ (fun hS => CR.out _ hS.2.2.2.2.2.2.2.2.2.2.2.2.2.2.2.2.2.2.2.2.2.2) rfl ?_; (· simp only [List.getElem?_cons_zero, List.getElem?_cons_succ]))
             | fail)
             (first
             | (rintro hS e w' ⟨rfl, rfl⟩; refine ⟨_, rfl, hS, ?_⟩)
             | (rintro hS e w' ⟨rfl, hb⟩; refine ⟨_, rfl, ⟨kc hb hS.1, kc hb hS.2.1, kc hb hS.2.2.1, kc hb hS.2.2.2.1, kc hb hS.2.2.2.2.1, kc hb hS.2.2.2.2.2.1, kc hb hS.2.2.2.2.2.2.1, kc hb hS.2.2.2.2.2.2.2.1, kc hb hS.2.2.2.2.2.2.2.2.1, kc hb hS.2.2.2.2.2.2.2.2.2.1, kc hb hS.2.2.2.2.2.2.2.2.2.2.1, kc hb hS.2.2.2.2.2.2.2.2.2.2.2.1, kc hb hS.2.2.2.2.2.2.2.2.2.2.2.2.1, kc hb hS.2.2.2.2.2.2.2.2.2.2.2.2.2.1, kc hb hS.2.2.2.2.2.2.2.2.2.2.2.2.2.2.1, kc hb hS.2.2.2.2.2.2.2.2.2.2.2.2.2.2.2.1, kc hb hS.2.2.2.2.2.2.2.2.2.2.2.2.2.2.2.2.1, kc hb hS.2.2.2.2.2.2.2.2.2.2.2.2.2.2.2.2.2.1, kc hb hS.2.2.2.2.2.2.2.2.2.2.2.2.2.2.2.2.2.2.1, kc hb hS.2.2.2.2.2.2.2.2.2.2.2.2.2.2.2.2.2.2.2.1, kc hb hS.2.2.2.2.2.2.2.2.2.2.2.2.2.2.2.2.2.2.2.2.1, kc hb hS.2.2.2.2.2.2.2.2.2.2.2.2.2.2.2.2.2.2.2.2.2.1, nest hS.2.2.2.2.2.2.2.2.2.2.2.2.2.2.2.2.2.2.2.2.2.2 hb⟩, ?_⟩)
             | fail))
          | fail); simp only [Act.put, List.setIfInBounds_toArray, List.set_cons_zero, List.set_cons_succ])
        refine Run.ends (fun hS => ?_)
        have HX := Lib.hid hS.2.2.2.2.2.2.2.2.2.2.2.2.2.2.2.2.2.2.2.2.2.2
        clear hS
        go_wp2_with fail
        go_ret
        exact ⟨by rw [HR.out]; rfl, nest HK.out HX.out⟩
    | true =>
      rw [d1, Bool.true_and] at HR
      cases d2 : (m.point == n.point) with
      | false =>
        rw [d2, Bool.false_and] at HR
        skip
        as_aux_lemma =>
          refine Run.region_seq (S := fun z => z.cell? ⟨g1, 0, none⟩ = some (.int .i64 m.kind) ∧ z.cell? ⟨g1, 1, none⟩ = some (.int .i64 m.hub) ∧ z.cell? ⟨g1, 2, none⟩ = some (.int .u32 m.point) ∧ z.cell? ⟨g1, 3, none⟩ = some (.int .i64 m.client) ∧ z.cell? ⟨g1, 4, none⟩ = some (.int .i64 m.op) ∧ z.cell? ⟨g1, 5, none⟩ = some (.int .u32 m.target) ∧ z.cell? ⟨g1, 6, none⟩ = some (.int .i64 m.hops) ∧ z.cell? ⟨g1, 7, none⟩ = some (.int .u32 m.owner) ∧ z.cell? ⟨g1, 8, none⟩ = some (.int .i64 m.turn) ∧ z.cell? ⟨g1, 16, none⟩ = some b1 ∧ z.cell? ⟨g1, 17, none⟩ = some r1 ∧ z.cell? ⟨g2, 0, none⟩ = some (.int .i64 n.kind) ∧ z.cell? ⟨g2, 1, none⟩ = some (.int .i64 n.hub) ∧ z.cell? ⟨g2, 2, none⟩ = some (.int .u32 n.point) ∧ z.cell? ⟨g2, 3, none⟩ = some (.int .i64 n.client) ∧ z.cell? ⟨g2, 4, none⟩ = some (.int .i64 n.op) ∧ z.cell? ⟨g2, 5, none⟩ = some (.int .u32 n.target) ∧ z.cell? ⟨g2, 6, none⟩ = some (.int .i64 n.hops) ∧ z.cell? ⟨g2, 7, none⟩ = some (.int .u32 n.owner) ∧ z.cell? ⟨g2, 8, none⟩ = some (.int .i64 n.turn) ∧ z.cell? ⟨g2, 16, none⟩ = some b2 ∧ z.cell? ⟨g2, 17, none⟩ = some r2 ∧ Below w1.heap.size w1 z)
            [0, 0, 0, 0, 0, 0, 0, 0, 0, 0, 0, 0, 0, 0, 0, 0, 0, 0, 0, 0, 0, 0, 0, 0, 0, 0, 0, 0, 0, 0, 0, 0, 0, 0, 0, 0, 0, 0, 0, 0, 0, 0, 0, 0, 0, 0, 0, 0, 0, 0, 0, 0, 0, 0, 0, 0, 0, 0, 0, 0, 0, 0, 0, 0, 0, 0, 1, 0, 0, 0, 0, 0, 0, 0, 0, 0, 0, 0, 0, 0, 1, 0, 0, 0, 0, 0, 0, 1, 0, 0] (l := ?_) ?_ ⟨HB1.out.cell 0, HB1.out.cell 1, HB1.out.cell 2, HB1.out.cell 3, HB1.out.cell 4, HB1.out.cell 5, HB1.out.cell 6, HB1.out.cell 7, HB1.out.cell 8, HB1.out.cell 16, HB1.out.cell 17, HB2.out.cell 0, HB2.out.cell 1, HB2.out.cell 2, HB2.out.cell 3, HB2.out.cell 4, HB2.out.cell 5, HB2.out.cell 6, HB2.out.cell 7, HB2.out.cell 8, HB2.out.cell 16, HB2.out.cell 17, HI.out⟩ ?_
          rotate_left
          (· simp only [Run.seqOf, List.toList_toArray, Run.stepsOf, Run.stepOf, Run.guardOf, List.getElem?_toArray, List.getElem?_cons_zero, List.getElem?_cons_succ, Option.map_some, Option.map_none, Option.bind_some, Option.toList_some, List.map_cons, List.map_nil, List.cons_append, List.nil_append]
             rfl)
          repeat ((first
            | (refine Run.takes (v := ?_) ?_ ?_; rotate_left; (· intro w' hS'; (first | (refine exec_load_sub (n := 5) (off := 9) (x := .tmp 67) (l := [.int .u32 m.ev, .int .u64 m.eid, .int .u64 m.ever, v1, .bool m.gone]) (m := mcs m v1 b1 r1) ?_ Try.underlying28 ent_info' ?_ ?_ (HB1.out.keep hS'.2.2.2.2.2.2.2.2.2.2.2.2.2.2.2.2.2.2.2.2.2.2) ?_ <;> rfl) | (refine exec_load_sub (n := 5) (off := 9) (x := .tmp 69) (l := [.int .u32 n.ev, .int .u64 n.eid, .int .u64 n.ever, v2, .bool n.gone]) (m := mcs n v2 b2 r2) ?_ Try.underlying28 ent_info' ?_ ?_ (HB2.out.keep hS'.2.2.2.2.2.2.2.2.2.2.2.2.2.2.2.2.2.2.2.2.2.2) ?_ <;> rfl) | (refine exec_load_sub (n := 2) (off := 14) (x := .tmp 74) (l := [.int .u32 m.sf, .int .u32 m.st]) (m := mcs m v1 b1 r1) ?_ Try.underlying30 span_info' ?_ ?_ (HB1.out.keep hS'.2.2.2.2.2.2.2.2.2.2.2.2.2.2.2.2.2.2.2.2.2.2) ?_ <;> rfl) | (refine exec_load_sub (n := 2) (off := 14) (x := .tmp 76) (l := [.int .u32 n.sf, .int .u32 n.st]) (m := mcs n v2 b2 r2) ?_ Try.underlying30 span_info' ?_ ?_ (HB2.out.keep hS'.2.2.2.2.2.2.2.2.2.2.2.2.2.2.2.2.2.2.2.2.2.2) ?_ <;> rfl) | (go_simp; (try with_reducible rfl)))))
            | (refine Run.takesG (v := ?_) ?_ ?_ ?_; rotate_left; (· simp only [List.getElem?_cons_zero, List.getElem?_cons_succ]); (· intro w' hS'; (first | (refine exec_load_sub (n := 5) (off := 9) (x := .tmp 67) (l := [.int .u32 m.ev, .int .u64 m.eid, .int .u64 m.ever, v1, .bool m.gone]) (m := mcs m v1 b1 r1) ?_ Try.underlying28 ent_info' ?_ ?_ (HB1.out.keep hS'.2.2.2.2.2.2.2.2.2.2.2.2.2.2.2.2.2.2.2.2.2.2) ?_ <;> rfl) | (refine exec_load_sub (n := 5) (off := 9) (x := .tmp 69) (l := [.int .u32 n.ev, .int .u64 n.eid, .int .u64 n.ever, v2, .bool n.gone]) (m := mcs n v2 b2 r2) ?_ Try.underlying28 ent_info' ?_ ?_ (HB2.out.keep hS'.2.2.2.2.2.2.2.2.2.2.2.2.2.2.2.2.2.2.2.2.2.2) ?_ <;> rfl) | (refine exec_load_sub (n := 2) (off := 14) (x := .tmp 74) (l := [.int .u32 m.sf, .int .u32 m.st]) (m := mcs m v1 b1 r1) ?_ Try.underlying30 span_info' ?_ ?_ (HB1.out.keep hS'.2.2.2.2.2.2.2.2.2.2.2.2.2.2.2.2.2.2.2.2.2.2) ?_ <;> rfl) | (refine exec_load_sub (n := 2) (off := 14) (x := .tmp 76) (l := [.int .u32 n.sf, .int .u32 n.st]) (m := mcs n v2 b2 r2) ?_ Try.underlying30 span_info' ?_ ?_ (HB2.out.keep hS'.2.2.2.2.2.2.2.2.2.2.2.2.2.2.2.2.2.2.2.2.2.2) ?_ <;> rfl) | (go_simp; (try with_reducible rfl)))))
            | (refine Run.skipsT ?_ ?_; (· simp only [List.getElem?_cons_zero, List.getElem?_cons_succ]))
            | (refine Run.skipsF ?_ ?_; (· simp only [List.getElem?_cons_zero, List.getElem?_cons_succ]))
            | (refine Run.skipsU ?_ ?_; (· simp only [List.getElem?_cons_zero, List.getElem?_cons_succ]))
            | (refine Run.passT ?_ ?_; (· simp only [List.getElem?_cons_zero, List.getElem?_cons_succ]))
            | (refine Run.passF ?_ ?_; (· simp only [List.getElem?_cons_zero, List.getElem?_cons_succ]))
            | (refine Run.passU ?_ ?_; (· simp only [List.getElem?_cons_zero, List.getElem?_cons_succ]))
            | (refine Run.runs ?_
               (first
               | (refine Run.callF 47 (by kernel_rfl) (fun hS => CE.out _ hS.2.2.2.2.2.2.2.2.2.2.2.2.2.2.2.2.2.2.2.2.2.2) rfl ?_)
               | (refine Run.callG 47 (by kernel_rfl) ?_ (fun hS => CE.out _ hS.2.2.2.2.2.2.2.2.2.2.2.2.2.2.2.2.2.2.2.2.2.2) rfl ?_; (· simp only [List.getElem?_cons_zero, List.getElem?_cons_succ]))
               | (refine Run.callF 49 (by kernel_rfl) (fun hS => CB.out _ hS.2.2.2.2.2.2.2.2.2.2.2.2.2.2.2.2.2.2.2.2.2.2) rfl ?_)
               | (refine Run.callG 49 (by kernel_rfl) ?_ (fun hS => CB.out _ hS.2.2.2.2.2.2.2.2.2.2.2.2.2.2.2.2.2.2.2.2.2.2) rfl ?_; (· simp only [List.getElem?_cons_zero, List.getElem?_cons_succ]))
               | (refine Run.callF 50 (by kernel_rfl) (fun hS => CR.out _ hS.2.2.2.2.2.2.2.2.2.2.2.2.2.2.2.2.2.2.2.2.2.2) rfl ?_)
               | (refine Run.callG 50 (by kernel_rfl) ?_ (fun hS => CR.out _ hS.2.2.2.2.2.2.2.2.2.2.2.2.2.2.2.2.2.2.2.2.2.2) rfl ?_; (· simp only [List.getElem?_cons_zero, List.getElem?_cons_succ]))
               | fail)
               (first
               | (rintro hS e w' ⟨rfl, rfl⟩; refine ⟨_, rfl, hS, ?_⟩)
               | (rintro hS e w' ⟨rfl, hb⟩; refine ⟨_, rfl, ⟨kc hb hS.1, kc hb hS.2.1, kc hb hS.2.2.1, kc hb hS.2.2.2.1, kc hb hS.2.2.2.2.1, kc hb hS.2.2.2.2.2.1, kc hb hS.2.2.2.2.2.2.1, kc hb hS.2.2.2.2.2.2.2.1, kc hb hS.2.2.2.2.2.2.2.2.1, kc hb hS.2.2.2.2.2.2.2.2.2.1, kc hb hS.2.2.2.2.2.2.2.2.2.2.1, kc hb hS.2.2.2.2.2.2.2.2.2.2.2.1, kc hb hS.2.2.2.2.2.2.2.2.2.2.2.2.1, kc hb hS.2.2.2.2.2.2.2.2.2.2.2.2.2.1, kc hb hS.2.2.2.2.2.2.2.2.2.2.2.2.2.2.1, kc hb hS.2.2.2.2.2.2.2.2.2.2.2.2.2.2.2.1, kc hb hS.2.2.2.2.2.2.2.2.2.2.2.2.2.2.2.2.1, kc hb hS.2.2.2.2.2.2.2.2.2.2.2.2.2.2.2.2.2.1, kc hb hS.2.2.2.2.2.2.2.2.2.2.2.2.2.2.2.2.2.2.1, kc hb hS.2.2.2.2.2.2.2.2.2.2.2.2.2.2.2.2.2.2.2.1, kc hb hS.2.2.2.2.2.2.2.2.2.2.2.2.2.2.2.2.2.2.2.2.1, kc hb hS.2.2.2.2.2.2.2.2.2.2.2.2.2.2.2.2.2.2.2.2.2.1, nest hS.2.2.2.2.2.2.2.2.2.2.2.2.2.2.2.2.2.2.2.2.2.2 hb⟩, ?_⟩)
               | fail))
            | fail); simp only [Act.put, List.setIfInBounds_toArray, List.set_cons_zero, List.set_cons_succ])
          refine Run.ends (fun hS => ?_)
          have HX := Lib.hid hS.2.2.2.2.2.2.2.2.2.2.2.2.2.2.2.2.2.2.2.2.2.2
          clear hS
          go_wp2_with fail
          go_ret
          exact ⟨by rw [HR.out]; rfl, nest HK.out HX.out⟩
      | true =>
        rw [d2, Bool.true_and] at HR
        cases d3 : (m.client == n.client) with
        | false =>
          rw [d3, Bool.false_and] at HR
          skip
          as_aux_lemma =>
            refine Run.region_seq (S := fun z => z.cell? ⟨g1, 0, none⟩ = some (.int .i64 m.kind) ∧ z.cell? ⟨g1, 1, none⟩ = some (.int .i64 m.hub) ∧ z.cell? ⟨g1, 2, none⟩ = some (.int .u32 m.point) ∧ z.cell? ⟨g1, 3, none⟩ = some (.int .i64 m.client) ∧ z.cell? ⟨g1, 4, none⟩ = some (.int .i64 m.op) ∧ z.cell? ⟨g1, 5, none⟩ = some (.int .u32 m.target) ∧ z.cell? ⟨g1, 6, none⟩ = some (.int .i64 m.hops) ∧ z.cell? ⟨g1, 7, none⟩ = some (.int .u32 m.owner) ∧ z.cell? ⟨g1, 8, none⟩ = some (.int .i64 m.turn) ∧ z.cell? ⟨g1, 16, none⟩ = some b1 ∧ z.cell? ⟨g1, 17, none⟩ = some r1 ∧ z.cell? ⟨g2, 0, none⟩ = some (.int .i64 n.kind) ∧ z.cell? ⟨g2, 1, none⟩ = some (.int .i64 n.hub) ∧ z.cell? ⟨g2, 2, none⟩ = some (.int .u32 n.point) ∧ z.cell? ⟨g2, 3, none⟩ = some (.int .i64 n.client) ∧ z.cell? ⟨g2, 4, none⟩ = some (.int .i64 n.op) ∧ z.cell? ⟨g2, 5, none⟩ = some (.int .u32 n.target) ∧ z.cell? ⟨g2, 6, none⟩ = some (.int .i64 n.hops) ∧ z.cell? ⟨g2, 7, none⟩ = some (.int .u32 n.owner) ∧ z.cell? ⟨g2, 8, none⟩ = some (.int .i64 n.turn) ∧ z.cell? ⟨g2, 16, none⟩ = some b2 ∧ z.cell? ⟨g2, 17, none⟩ = some r2 ∧ Below w1.heap.size w1 z)
              [0, 0, 0, 0, 0, 0, 0, 0, 0, 0, 0, 0, 0, 0, 0, 0, 0, 0, 0, 0, 0, 0, 0, 0, 0, 0, 0, 0, 0, 0, 0, 0, 0, 0, 0, 0, 0, 0, 0, 0, 0, 0, 0, 0, 0, 0, 0, 0, 0, 0, 0, 0, 0, 0, 0, 0, 0, 0, 0, 0, 0, 0, 0, 0, 0, 0, 1, 0, 0, 0, 0, 0, 0, 0, 0, 0, 0, 0, 0, 0, 1, 0, 0, 0, 0, 0, 0, 1, 0, 0] (l := ?_) ?_ ⟨HB1.out.cell 0, HB1.out.cell 1, HB1.out.cell 2, HB1.out.cell 3, HB1.out.cell 4, HB1.out.cell 5, HB1.out.cell 6, HB1.out.cell 7, HB1.out.cell 8, HB1.out.cell 16, HB1.out.cell 17, HB2.out.cell 0, HB2.out.cell 1, HB2.out.cell 2, HB2.out.cell 3, HB2.out.cell 4, HB2.out.cell 5, HB2.out.cell 6, HB2.out.cell 7, HB2.out.cell 8, HB2.out.cell 16, HB2.out.cell 17, HI.out⟩ ?_
            rotate_left
            (· simp only [Run.seqOf, List.toList_toArray, Run.stepsOf, Run.stepOf, Run.guardOf, List.getElem?_toArray, List.getElem?_cons_zero, List.getElem?_cons_succ, Option.map_some, Option.map_none, Option.bind_some, Option.toList_some, List.map_cons, List.map_nil, List.cons_append, List.nil_append]
               rfl)
            repeat ((first
              | (refine Run.takes (v := ?_) ?_ ?_; rotate_left; (· intro w' hS'; (first | (refine exec_load_sub (n := 5) (off := 9) (x := .tmp 67) (l := [.int .u32 m.ev, .int .u64 m.eid, .int .u64 m.ever, v1, .bool m.gone]) (m := mcs m v1 b1 r1) ?_ Try.underlying28 ent_info' ?_ ?_ (HB1.out.keep hS'.2.2.2.2.2.2.2.2.2.2.2.2.2.2.2.2.2.2.2.2.2.2) ?_ <;> rfl) | (refine exec_load_sub (n := 5) (off := 9) (x := .tmp 69) (l := [.int .u32 n.ev, .int .u64 n.eid, .int .u64 n.ever, v2, .bool n.gone]) (m := mcs n v2 b2 r2) ?_ Try.underlying28 ent_info' ?_ ?_ (HB2.out.keep hS'.2.2.2.2.2.2.2.2.2.2.2.2.2.2.2.2.2.2.2.2.2.2) ?_ <;> rfl) | (refine exec_load_sub (n := 2) (off := 14) (x := .tmp 74) (l := [.int .u32 m.sf, .int .u32 m.st]) (m := mcs m v1 b1 r1) ?_ Try.underlying30 span_info' ?_ ?_ (HB1.out.keep hS'.2.2.2.2.2.2.2.2.2.2.2.2.2.2.2.2.2.2.2.2.2.2) ?_ <;> rfl) | (refine exec_load_sub (n := 2) (off := 14) (x := .tmp 76) (l := [.int .u32 n.sf, .int .u32 n.st]) (m := mcs n v2 b2 r2) ?_ Try.underlying30 span_info' ?_ ?_ (HB2.out.keep hS'.2.2.2.2.2.2.2.2.2.2.2.2.2.2.2.2.2.2.2.2.2.2) ?_ <;> rfl) | (go_simp; (try with_reducible rfl)))))
              | (refine Run.takesG (v := ?_) ?_ ?_ ?_; rotate_left; (· simp only [List.getElem?_cons_zero, List.getElem?_cons_succ]); (· intro w' hS'; (first | (refine exec_load_sub (n := 5) (off := 9) (x := .tmp 67) (l := [.int .u32 m.ev, .int .u64 m.eid, .int .u64 m.ever, v1, .bool m.gone]) (m := mcs m v1 b1 r1) ?_ Try.underlying28 ent_info' ?_ ?_ (HB1.out.keep hS'.2.2.2.2.2.2.2.2.2.2.2.2.2.2.2.2.2.2.2.2.2.2) ?_ <;> rfl) | (refine exec_load_sub (n := 5) (off := 9) (x := .tmp 69) (l := [.int .u32 n.ev, .int .u64 n.eid, .int .u64 n.ever, v2, .bool n.gone]) (m := mcs n v2 b2 r2) ?_ Try.underlying28 ent_info' ?_ ?_ (HB2.out.keep hS'.2.2.2.2.2.2.2.2.2.2.2.2.2.2.2.2.2.2.2.2.2.2) ?_ <;> rfl) | (refine exec_load_sub (n := 2) (off := 14) (x := .tmp 74) (l := [.int .u32 m.sf, .int .u32 m.st]) (m := mcs m v1 b1 r1) ?_ Try.underlying30 span_info' ?_ ?_ (HB1.out.keep hS'.2.2.2.2.2.2.2.2.2.2.2.2.2.2.2.2.2.2.2.2.2.2) ?_ <;> rfl) | (refine exec_load_sub (n := 2) (off := 14) (x := .tmp 76) (l := [.int .u32 n.sf, .int .u32 n.st]) (m := mcs n v2 b2 r2) ?_ Try.underlying30 span_info' ?_ ?_ (HB2.out.keep hS'.2.2.2.2.2.2.2.2.2.2.2.2.2.2.2.2.2.2.2.2.2.2) ?_ <;> rfl) | (go_simp; (try with_reducible rfl)))))
              | (refine Run.skipsT ?_ ?_; (· simp only [List.getElem?_cons_zero, List.getElem?_cons_succ]))
              | (refine Run.skipsF ?_ ?_; (· simp only [List.getElem?_cons_zero, List.getElem?_cons_succ]))
              | (refine Run.skipsU ?_ ?_; (· simp only [List.getElem?_cons_zero, List.getElem?_cons_succ]))
              | (refine Run.passT ?_ ?_; (· simp only [List.getElem?_cons_zero, List.getElem?_cons_succ]))
              | (refine Run.passF ?_ ?_; (· simp only [List.getElem?_cons_zero, List.getElem?_cons_succ]))
              | (refine Run.passU ?_ ?_; (· simp only [List.getElem?_cons_zero, List.getElem?_cons_succ]))
              | (refine Run.runs ?_
                 (first
                 | (refine Run.callF 47 (by kernel_rfl) (fun hS => CE.out _ hS.2.2.2.2.2.2.2.2.2.2.2.2.2.2.2.2.2.2.2.2.2.2) rfl ?_)
                 | (refine Run.callG 47 (by kernel_rfl) ?_ (fun hS => CE.out _ hS.2.2.2.2.2.2.2.2.2.2.2.2.2.2.2.2.2.2.2.2.2.2) rfl ?_; (· simp only [List.getElem?_cons_zero, List.getElem?_cons_succ]))
                 | (refine Run.callF 49 (by kernel_rfl) (fun hS => CB.out _ hS.2.2.2.2.2.2.2.2.2.2.2.2.2.2.2.2.2.2.2.2.2.2) rfl ?_)
                 | (refine Run.callG 49 (by kernel_rfl) ?_ (fun hS => CB.out _ hS.2.2.2.2.2.2.2.2.2.2.2.2.2.2.2.2.2.2.2.2.2.2) rfl ?_; (· simp only [List.getElem?_cons_zero, List.getElem?_cons_succ]))
                 | (refine Run.callF 50 (by kernel_rfl) (fun hS => CR.out _ hS.2.2.2.2.2.2.2.2.2.2.2.2.2.2.2.2.2.2.2.2.2.2) rfl ?_)
                 | (refine Run.callG 50 (by kernel_rfl) ?_ (fun hS => CR.out _ hS.2.2.2.2.2.2.2.2.2.2.2.2.2.2.2.2.2.2.2.2.2.2) rfl ?_; (· simp only [List.getElem?_cons_zero, List.getElem?_cons_succ]))
                 | fail)
                 (first
                 | (rintro hS e w' ⟨rfl, rfl⟩; refine ⟨_, rfl, hS, ?_⟩)
                 | (rintro hS e w' ⟨rfl, hb⟩; refine ⟨_, rfl, ⟨kc hb hS.1, kc hb hS.2.1, kc hb hS.2.2.1, kc hb hS.2.2.2.1, kc hb hS.2.2.2.2.1, kc hb hS.2.2.2.2.2.1, kc hb hS.2.2.2.2.2.2.1, kc hb hS.2.2.2.2.2.2.2.1, kc hb hS.2.2.2.2.2.2.2.2.1, kc hb hS.2.2.2.2.2.2.2.2.2.1, kc hb hS.2.2.2.2.2.2.2.2.2.2.1, kc hb hS.2.2.2.2.2.2.2.2.2.2.2.1, kc hb hS.2.2.2.2.2.2.2.2.2.2.2.2.1, kc hb hS.2.2.2.2.2.2.2.2.2.2.2.2.2.1, kc hb hS.2.2.2.2.2.2.2.2.2.2.2.2.2.2.1, kc hb hS.2.2.2.2.2.2.2.2.2.2.2.2.2.2.2.1, kc hb hS.2.2.2.2.2.2.2.2.2.2.2.2.2.2.2.2.1, kc hb hS.2.2.2.2.2.2.2.2.2.2.2.2.2.2.2.2.2.1, kc hb hS.2.2.2.2.2.2.2.2.2.2.2.2.2.2.2.2.2.2.1, kc hb hS.2.2.2.2.2.2.2.2.2.2.2.2.2.2.2.2.2.2.2.1, kc hb hS.2.2.2.2.2.2.2.2.2.2.2.2.2.2.2.2.2.2.2.2.1, kc hb hS.2.2.2.2.2.2.2.2.2.2.2.2.2.2.2.2.2.2.2.2.2.1, nest hS.2.2.2.2.2.2.2.2.2.2.2.2.2.2.2.2.2.2.2.2.2.2 hb⟩, ?_⟩)
                 | fail))
              | fail); simp only [Act.put, List.setIfInBounds_toArray, List.set_cons_zero, List.set_cons_succ])
            refine Run.ends (fun hS => ?_)
            have HX := Lib.hid hS.2.2.2.2.2.2.2.2.2.2.2.2.2.2.2.2.2.2.2.2.2.2
            clear hS
            go_wp2_with fail
            go_ret
            exact ⟨by rw [HR.out]; rfl, nest HK.out HX.out⟩
        | true =>
          rw [d3, Bool.true_and] at HR
          cases d4 : (m.op == n.op) with
          | false =>
            rw [d4, Bool.false_and] at HR
            skip
            as_aux_lemma =>
              refine Run.region_seq (S := fun z => z.cell? ⟨g1, 0, none⟩ = some (.int .i64 m.kind) ∧ z.cell? ⟨g1, 1, none⟩ = some (.int .i64 m.hub) ∧ z.cell? ⟨g1, 2, none⟩ = some (.int .u32 m.point) ∧ z.cell? ⟨g1, 3, none⟩ = some (.int .i64 m.client) ∧ z.cell? ⟨g1, 4, none⟩ = some (.int .i64 m.op) ∧ z.cell? ⟨g1, 5, none⟩ = some (.int .u32 m.target) ∧ z.cell? ⟨g1, 6, none⟩ = some (.int .i64 m.hops) ∧ z.cell? ⟨g1, 7, none⟩ = some (.int .u32 m.owner) ∧ z.cell? ⟨g1, 8, none⟩ = some (.int .i64 m.turn) ∧ z.cell? ⟨g1, 16, none⟩ = some b1 ∧ z.cell? ⟨g1, 17, none⟩ = some r1 ∧ z.cell? ⟨g2, 0, none⟩ = some (.int .i64 n.kind) ∧ z.cell? ⟨g2, 1, none⟩ = some (.int .i64 n.hub) ∧ z.cell? ⟨g2, 2, none⟩ = some (.int .u32 n.point) ∧ z.cell? ⟨g2, 3, none⟩ = some (.int .i64 n.client) ∧ z.cell? ⟨g2, 4, none⟩ = some (.int .i64 n.op) ∧ z.cell? ⟨g2, 5, none⟩ = some (.int .u32 n.target) ∧ z.cell? ⟨g2, 6, none⟩ = some (.int .i64 n.hops) ∧ z.cell? ⟨g2, 7, none⟩ = some (.int .u32 n.owner) ∧ z.cell? ⟨g2, 8, none⟩ = some (.int .i64 n.turn) ∧ z.cell? ⟨g2, 16, none⟩ = some b2 ∧ z.cell? ⟨g2, 17, none⟩ = some r2 ∧ Below w1.heap.size w1 z)
                [0, 0, 0, 0, 0, 0, 0, 0, 0, 0, 0, 0, 0, 0, 0, 0, 0, 0, 0, 0, 0, 0, 0, 0, 0, 0, 0, 0, 0, 0, 0, 0, 0, 0, 0, 0, 0, 0, 0, 0, 0, 0, 0, 0, 0, 0, 0, 0, 0, 0, 0, 0, 0, 0, 0, 0, 0, 0, 0, 0, 0, 0, 0, 0, 0, 0, 1, 0, 0, 0, 0, 0, 0, 0, 0, 0, 0, 0, 0, 0, 1, 0, 0, 0, 0, 0, 0, 1, 0, 0] (l := ?_) ?_ ⟨HB1.out.cell 0, HB1.out.cell 1, HB1.out.cell 2, HB1.out.cell 3, HB1.out.cell 4, HB1.out.cell 5, HB1.out.cell 6, HB1.out.cell 7, HB1.out.cell 8, HB1.out.cell 16, HB1.out.cell 17, HB2.out.cell 0, HB2.out.cell 1, HB2.out.cell 2, HB2.out.cell 3, HB2.out.cell 4, HB2.out.cell 5, HB2.out.cell 6, HB2.out.cell 7, HB2.out.cell 8, HB2.out.cell 16, HB2.out.cell 17, HI.out⟩ ?_
              rotate_left
              (· simp only [Run.seqOf, List.toList_toArray, Run.stepsOf, Run.stepOf, Run.guardOf, List.getElem?_toArray, List.getElem?_cons_zero, List.getElem?_cons_succ, Option.map_some, Option.map_none, Option.bind_some, Option.toList_some, List.map_cons, List.map_nil, List.cons_append, List.nil_append]
                 rfl)
              repeat ((first
                | (refine Run.takes (v := ?_) ?_ ?_; rotate_left; (· intro w' hS'; (first | (refine exec_load_sub (n := 5) (off := 9) (x := .tmp 67) (l := [.int .u32 m.ev, .int .u64 m.eid, .int .u64 m.ever, v1, .bool m.gone]) (m := mcs m v1 b1 r1) ?_ Try.underlying28 ent_info' ?_ ?_ (HB1.out.keep hS'.2.2.2.2.2.2.2.2.2.2.2.2.2.2.2.2.2.2.2.2.2.2) ?_ <;> rfl) | (refine exec_load_sub (n := 5) (off := 9) (x := .tmp 69) (l := [.int .u32 n.ev, .int .u64 n.eid, .int .u64 n.ever, v2, .bool n.gone]) (m := mcs n v2 b2 r2) ?_ Try.underlying28 ent_info' ?_ ?_ (HB2.out.keep hS'.2.2.2.2.2.2.2.2.2.2.2.2.2.2.2.2.2.2.2.2.2.2) ?_ <;> rfl) | (refine exec_load_sub (n := 2) (off := 14) (x := .tmp 74) (l := [.int .u32 m.sf, .int .u32 m.st]) (m := mcs m v1 b1 r1) ?_ Try.underlying30 span_info' ?_ ?_ (HB1.out.keep hS'.2.2.2.2.2.2.2.2.2.2.2.2.2.2.2.2.2.2.2.2.2.2) ?_ <;> rfl) | (refine exec_load_sub (n := 2) (off := 14) (x := .tmp 76) (l := [.int .u32 n.sf, .int .u32 n.st]) (m := mcs n v2 b2 r2) ?_ Try.underlying30 span_info' ?_ ?_ (HB2.out.keep hS'.2.2.2.2.2.2.2.2.2.2.2.2.2.2.2.2.2.2.2.2.2.2) ?_ <;> rfl) | (go_simp; (try with_reducible rfl)))))
                | (refine Run.takesG (v := ?_) ?_ ?_ ?_; rotate_left; (· simp only [List.getElem?_cons_zero, List.getElem?_cons_succ]); (· intro w' hS'; (first | (refine exec_load_sub (n := 5) (off := 9) (x := .tmp 67) (l := [.int .u32 m.ev, .int .u64 m.eid, .int .u64 m.ever, v1, .bool m.gone]) (m := mcs m v1 b1 r1) ?_ Try.underlying28 ent_info' ?_ ?_ (HB1.out.keep hS'.2.2.2.2.2.2.2.2.2.2.2.2.2.2.2.2.2.2.2.2.2.2) ?_ <;> rfl) | (refine exec_load_sub (n := 5) (off := 9) (x := .tmp 69) (l := [.int .u32 n.ev, .int .u64 n.eid, .int .u64 n.ever, v2, .bool n.gone]) (m := mcs n v2 b2 r2) ?_ Try.underlying28 ent_info' ?_ ?_ (HB2.out.keep hS'.2.2.2.2.2.2.2.2.2.2.2.2.2.2.2.2.2.2.2.2.2.2) ?_ <;> rfl) | (refine exec_load_sub (n := 2) (off := 14) (x := .tmp 74) (l := [.int .u32 m.sf, .int .u32 m.st]) (m := mcs m v1 b1 r1) ?_ Try.underlying30 span_info' ?_ ?_ (HB1.out.keep hS'.2.2.2.2.2.2.2.2.2.2.2.2.2.2.2.2.2.2.2.2.2.2) ?_ <;> rfl) | (refine exec_load_sub (n := 2) (off := 14) (x := .tmp 76) (l := [.int .u32 n.sf, .int .u32 n.st]) (m := mcs n v2 b2 r2) ?_ Try.underlying30 span_info' ?_ ?_ (HB2.out.keep hS'.2.2.2.2.2.2.2.2.2.2.2.2.2.2.2.2.2.2.2.2.2.2) ?_ <;> rfl) | (go_simp; (try with_reducible rfl)))))
                | (refine Run.skipsT ?_ ?_; (· simp only [List.getElem?_cons_zero, List.getElem?_cons_succ]))
                | (refine Run.skipsF ?_ ?_; (· simp only [List.getElem?_cons_zero, List.getElem?_cons_succ]))
                | (refine Run.skipsU ?_ ?_; (· simp only [List.getElem?_cons_zero, List.getElem?_cons_succ]))
                | (refine Run.passT ?_ ?_; (· simp only [List.getElem?_cons_zero, List.getElem?_cons_succ]))
                | (refine Run.passF ?_ ?_; (· simp only [List.getElem?_cons_zero, List.getElem?_cons_succ]))
                | (refine Run.passU ?_ ?_; (· simp only [List.getElem?_cons_zero, List.getElem?_cons_succ]))
                | (refine Run.runs ?_
                   (first
                   | (refine Run.callF 47 (by kernel_rfl) (fun hS => CE.out _ hS.2.2.2.2.2.2.2.2.2.2.2.2.2.2.2.2.2.2.2.2.2.2) rfl ?_)
                   | (refine Run.callG 47 (by kernel_rfl) ?_ (fun hS => CE.out _ hS.2.2.2.2.2.2.2.2.2.2.2.2.2.2.2.2.2.2.2.2.2.2) rfl ?_; (· simp only [List.getElem?_cons_zero, List.getElem?_cons_succ]))
                   | (refine Run.callF 49 (by kernel_rfl) (fun hS => CB.out _ hS.2.2.2.2.2.2.2.2.2.2.2.2.2.2.2.2.2.2.2.2.2.2) rfl ?_)
                   | (refine Run.callG 49 (by kernel_rfl) ?_ (fun hS => CB.out _ hS.2.2.2.2.2.2.2.2.2.2.2.2.2.2.2.2.2.2.2.2.2.2) rfl ?_; (· simp only [List.getElem?_cons_zero, List.getElem?_cons_succ]))
                   | (refine Run.callF 50 (by kernel_rfl) (fun hS => CR.out _ hS.2.2.2.2.2.2.2.2.2.2.2.2.2.2.2.2.2.2.2.2.2.2) rfl ?_)
                   | (refine Run.callG 50 (by kernel_rfl) ?_ (fun hS => CR.out _ hS.2.2.2.2.2.2.2.2.2.2.2.2.2.2.2.2.2.2.2.2.2.2) rfl ?_; (· simp only [List.getElem?_cons_zero, List.getElem?_cons_succ]))
                   | fail)
                   (first
                   | (rintro hS e w' ⟨rfl, rfl⟩; refine ⟨_, rfl, hS, ?_⟩)
                   | (rintro hS e w' ⟨rfl, hb⟩; refine ⟨_, rfl, ⟨kc hb hS.1, kc hb hS.2.1, kc hb hS.2.2.1, kc hb hS.2.2.2.1, kc hb hS.2.2.2.2.1, kc hb hS.2.2.2.2.2.1, kc hb hS.2.2.2.2.2.2.1, kc hb hS.2.2.2.2.2.2.2.1, kc hb hS.2.2.2.2.2.2.2.2.1, kc hb hS.2.2.2.2.2.2.2.2.2.1, kc hb hS.2.2.2.2.2.2.2.2.2.2.1, kc hb hS.2.2.2.2.2.2.2.2.2.2.2.1, kc hb hS.2.2.2.2.2.2.2.2.2.2.2.2.1, kc hb hS.2.2.2.2.2.2.2.2.2.2.2.2.2.1, kc hb hS.2.2.2.2.2.2.2.2.2.2.2.2.2.2.1, kc hb hS.2.2.2.2.2.2.2.2.2.2.2.2.2.2.2.1, kc hb hS.2.2.2.2.2.2.2.2.2.2.2.2.2.2.2.2.1, kc hb hS.2.2.2.2.2.2.2.2.2.2.2.2.2.2.2.2.2.1, kc hb hS.2.2.2.2.2.2.2.2.2.2.2.2.2.2.2.2.2.2.1, kc hb hS.2.2.2.2.2.2.2.2.2.2.2.2.2.2.2.2.2.2.2.1, kc hb hS.2.2.2.2.2.2.2.2.2.2.2.2.2.2.2.2.2.2.2.2.1, kc hb hS.2.2.2.2.2.2.2.2.2.2.2.2.2.2.2.2.2.2.2.2.2.1, nest hS.2.2.2.2.2.2.2.2.2.2.2.2.2.2.2.2.2.2.2.2.2.2 hb⟩, ?_⟩)
                   | fail))
                | fail); simp only [Act.put, List.setIfInBounds_toArray, List.set_cons_zero, List.set_cons_succ])
              refine Run.ends (fun hS => ?_)
              have HX := Lib.hid hS.2.2.2.2.2.2.2.2.2.2.2.2.2.2.2.2.2.2.2.2.2.2
              clear hS
              go_wp2_with fail
              go_ret
              exact ⟨by rw [HR.out]; rfl, nest HK.out HX.out⟩
          | true =>
            rw [d4, Bool.true_and] at HR
            cases d5 : (m.target == n.target) with
            | false =>
              rw [d5, Bool.false_and] at HR
              skip
              as_aux_lemma =>
                refine Run.region_seq (S := fun z => z.cell? ⟨g1, 0, none⟩ = some (.int .i64 m.kind) ∧ z.cell? ⟨g1, 1, none⟩ = some (.int .i64 m.hub) ∧ z.cell? ⟨g1, 2, none⟩ = some (.int .u32 m.point) ∧ z.cell? ⟨g1, 3, none⟩ = some (.int .i64 m.client) ∧ z.cell? ⟨g1, 4, none⟩ = some (.int .i64 m.op) ∧ z.cell? ⟨g1, 5, none⟩ = some (.int .u32 m.target) ∧ z.cell? ⟨g1, 6, none⟩ = some (.int .i64 m.hops) ∧ z.cell? ⟨g1, 7, none⟩ = some (.int .u32 m.owner) ∧ z.cell? ⟨g1, 8, none⟩ = some (.int .i64 m.turn) ∧ z.cell? ⟨g1, 16, none⟩ = some b1 ∧ z.cell? ⟨g1, 17, none⟩ = some r1 ∧ z.cell? ⟨g2, 0, none⟩ = some (.int .i64 n.kind) ∧ z.cell? ⟨g2, 1, none⟩ = some (.int .i64 n.hub) ∧ z.cell? ⟨g2, 2, none⟩ = some (.int .u32 n.point) ∧ z.cell? ⟨g2, 3, none⟩ = some (.int .i64 n.client) ∧ z.cell? ⟨g2, 4, none⟩ = some (.int .i64 n.op) ∧ z.cell? ⟨g2, 5, none⟩ = some (.int .u32 n.target) ∧ z.cell? ⟨g2, 6, none⟩ = some (.int .i64 n.hops) ∧ z.cell? ⟨g2, 7, none⟩ = some (.int .u32 n.owner) ∧ z.cell? ⟨g2, 8, none⟩ = some (.int .i64 n.turn) ∧ z.cell? ⟨g2, 16, none⟩ = some b2 ∧ z.cell? ⟨g2, 17, none⟩ = some r2 ∧ Below w1.heap.size w1 z)
                  [0, 0, 0, 0, 0, 0, 0, 0, 0, 0, 0, 0, 0, 0, 0, 0, 0, 0, 0, 0, 0, 0, 0, 0, 0, 0, 0, 0, 0, 0, 0, 0, 0, 0, 0, 0, 0, 0, 0, 0, 0, 0, 0, 0, 0, 0, 0, 0, 0, 0, 0, 0, 0, 0, 0, 0, 0, 0, 0, 0, 0, 0, 0, 0, 0, 0, 1, 0, 0, 0, 0, 0, 0, 0, 0, 0, 0, 0, 0, 0, 1, 0, 0, 0, 0, 0, 0, 1, 0, 0] (l := ?_) ?_ ⟨HB1.out.cell 0, HB1.out.cell 1, HB1.out.cell 2, HB1.out.cell 3, HB1.out.cell 4, HB1.out.cell 5, HB1.out.cell 6, HB1.out.cell 7, HB1.out.cell 8, HB1.out.cell 16, HB1.out.cell 17, HB2.out.cell 0, HB2.out.cell 1, HB2.out.cell 2, HB2.out.cell 3, HB2.out.cell 4, HB2.out.cell 5, HB2.out.cell 6, HB2.out.cell 7, HB2.out.cell 8, HB2.out.cell 16, HB2.out.cell 17, HI.out⟩ ?_
                rotate_left
                (· simp only [Run.seqOf, List.toList_toArray, Run.stepsOf, Run.stepOf, Run.guardOf, List.getElem?_toArray, List.getElem?_cons_zero, List.getElem?_cons_succ, Option.map_some, Option.map_none, Option.bind_some, Option.toList_some, List.map_cons, List.map_nil, List.cons_append, List.nil_append]
                   rfl)
                repeat ((first
                  | (refine Run.takes (v := ?_) ?_ ?_; rotate_left; (· intro w' hS'; (first | (refine exec_load_sub (n := 5) (off := 9) (x := .tmp 67) (l := [.int .u32 m.ev, .int .u64 m.eid, .int .u64 m.ever, v1, .bool m.gone]) (m := mcs m v1 b1 r1) ?_ Try.underlying28 ent_info' ?_ ?_ (HB1.out.keep hS'.2.2.2.2.2.2.2.2.2.2.2.2.2.2.2.2.2.2.2.2.2.2) ?_ <;> rfl) | (refine exec_load_sub (n := 5) (off := 9) (x := .tmp 69) (l := [.int .u32 n.ev, .int .u64 n.eid, .int .u64 n.ever, v2, .bool n.gone]) (m := mcs n v2 b2 r2) ?_ Try.underlying28 ent_info' ?_ ?_ (HB2.out.keep hS'.2.2.2.2.2.2.2.2.2.2.2.2.2.2.2.2.2.2.2.2.2.2) ?_ <;> rfl) | (refine exec_load_sub (n := 2) (off := 14) (x := .tmp 74) (l := [.int .u32 m.sf, .int .u32 m.st]) (m := mcs m v1 b1 r1) ?_ Try.underlying30 span_info' ?_ ?_ (HB1.out.keep hS'.2.2.2.2.2.2.2.2.2.2.2.2.2.2.2.2.2.2.2.2.2.2) ?_ <;> rfl) | (refine exec_load_sub (n := 2) (off := 14) (x := .tmp 76) (l := [.int .u32 n.sf, .int .u32 n.st]) (m := mcs n v2 b2 r2) ?_ Try.underlying30 span_info' ?_ ?_ (HB2.out.keep hS'.2.2.2.2.2.2.2.2.2.2.2.2.2.2.2.2.2.2.2.2.2.2) ?_ <;> rfl) | (go_simp; (try with_reducible rfl)))))
                  | (refine Run.takesG (v := ?_) ?_ ?_ ?_; rotate_left; (· simp only [List.getElem?_cons_zero, List.getElem?_cons_succ]); (· intro w' hS'; (first | (refine exec_load_sub (n := 5) (off := 9) (x := .tmp 67) (l := [.int .u32 m.ev, .int .u64 m.eid, .int .u64 m.ever, v1, .bool m.gone]) (m := mcs m v1 b1 r1) ?_ Try.underlying28 ent_info' ?_ ?_ (HB1.out.keep hS'.2.2.2.2.2.2.2.2.2.2.2.2.2.2.2.2.2.2.2.2.2.2) ?_ <;> rfl) | (refine exec_load_sub (n := 5) (off := 9) (x := .tmp 69) (l := [.int .u32 n.ev, .int .u64 n.eid, .int .u64 n.ever, v2, .bool n.gone]) (m := mcs n v2 b2 r2) ?_ Try.underlying28 ent_info' ?_ ?_ (HB2.out.keep hS'.2.2.2.2.2.2.2.2.2.2.2.2.2.2.2.2.2.2.2.2.2.2) ?_ <;> rfl) | (refine exec_load_sub (n := 2) (off := 14) (x := .tmp 74) (l := [.int .u32 m.sf, .int .u32 m.st]) (m := mcs m v1 b1 r1) ?_ Try.underlying30 span_info' ?_ ?_ (HB1.out.keep hS'.2.2.2.2.2.2.2.2.2.2.2.2.2.2.2.2.2.2.2.2.2.2) ?_ <;> rfl) | (refine exec_load_sub (n := 2) (off := 14) (x := .tmp 76) (l := [.int .u32 n.sf, .int .u32 n.st]) (m := mcs n v2 b2 r2) ?_ Try.underlying30 span_info' ?_ ?_ (HB2.out.keep hS'.2.2.2.2.2.2.2.2.2.2.2.2.2.2.2.2.2.2.2.2.2.2) ?_ <;> rfl) | (go_simp; (try with_reducible rfl)))))
                  | (refine Run.skipsT ?_ ?_; (· simp only [List.getElem?_cons_zero, List.getElem?_cons_succ]))
                  | (refine Run.skipsF ?_ ?_; (· simp only [List.getElem?_cons_zero, List.getElem?_cons_succ]))
                  | (refine Run.skipsU ?_ ?_; (· simp only [List.getElem?_cons_zero, List.getElem?_cons_succ]))
                  | (refine Run.passT ?_ ?_; (· simp only [List.getElem?_cons_zero, List.getElem?_cons_succ]))
                  | (refine Run.passF ?_ ?_; (· simp only [List.getElem?_cons_zero, List.getElem?_cons_succ]))
                  | (refine Run.passU ?_ ?_; (· simp only [List.getElem?_cons_zero, List.getElem?_cons_succ]))
                  | (refine Run.runs ?_
                     (first
                     | (refine Run.callF 47 (by kernel_rfl) (fun hS => CE.out _ hS.2.2.2.2.2.2.2.2.2.2.2.2.2.2.2.2.2.2.2.2.2.2) rfl ?_)
                     | (refine Run.callG 47 (by kernel_rfl) ?_ (fun hS => CE.out _ hS.2.2.2.2.2.2.2.2.2.2.2.2.2.2.2.2.2.2.2.2.2.2) rfl ?_; (· simp only [List.getElem?_cons_zero, List.getElem?_cons_succ]))
                     | (refine Run.callF 49 (by kernel_rfl) (fun hS => CB.out _ hS.2.2.2.2.2.2.2.2.2.2.2.2.2.2.2.2.2.2.2.2.2.2) rfl ?_)
                     | (refine Run.callG 49 (by kernel_rfl) ?_ (fun hS => CB.out _ hS.2.2.2.2.2.2.2.2.2.2.2.2.2.2.2.2.2.2.2.2.2.2) rfl ?_; (· simp only [List.getElem?_cons_zero, List.getElem?_cons_succ]))
                     | (refine Run.callF 50 (by kernel_rfl) (fun hS => CR.out _ hS.2.2.2.2.2.2.2.2.2.2.2.2.2.2.2.2.2.2.2.2.2.2) rfl ?_)
                     | (refine Run.callG 50 (by kernel_rfl) ?_ (fun hS => CR.out _ hS.2.2.2.2.2.2.2.2.2.2.2.2.2.2.2.2.2.2.2.2.2.2) rfl ?_; (· simp only [List.getElem?_cons_zero, List.getElem?_cons_succ]))
                     | fail)
                     (first
                     | (rintro hS e w' ⟨rfl, rfl⟩; refine ⟨_, rfl, hS, ?_⟩)
                     | (rintro hS e w' ⟨rfl, hb⟩; refine ⟨_, rfl, ⟨kc hb hS.1, kc hb hS.2.1, kc hb hS.2.2.1, kc hb hS.2.2.2.1, kc hb hS.2.2.2.2.1, kc hb hS.2.2.2.2.2.1, kc hb hS.2.2.2.2.2.2.1, kc hb hS.2.2.2.2.2.2.2.1, kc hb hS.2.2.2.2.2.2.2.2.1, kc hb hS.2.2.2.2.2.2.2.2.2.1, kc hb hS.2.2.2.2.2.2.2.2.2.2.1, kc hb hS.2.2.2.2.2.2.2.2.2.2.2.1, kc hb hS.2.2.2.2.2.2.2.2.2.2.2.2.1, kc hb hS.2.2.2.2.2.2.2.2.2.2.2.2.2.1, kc hb hS.2.2.2.2.2.2.2.2.2.2.2.2.2.2.1, kc hb hS.2.2.2.2.2.2.2.2.2.2.2.2.2.2.2.1, kc hb hS.2.2.2.2.2.2.2.2.2.2.2.2.2.2.2.2.1, kc hb hS.2.2.2.2.2.2.2.2.2.2.2.2.2.2.2.2.2.1, kc hb hS.2.2.2.2.2.2.2.2.2.2.2.2.2.2.2.2.2.2.1, kc hb hS.2.2.2.2.2.2.2.2.2.2.2.2.2.2.2.2.2.2.2.1, kc hb hS.2.2.2.2.2.2.2.2.2.2.2.2.2.2.2.2.2.2.2.2.1, kc hb hS.2.2.2.2.2.2.2.2.2.2.2.2.2.2.2.2.2.2.2.2.2.1, nest hS.2.2.2.2.2.2.2.2.2.2.2.2.2.2.2.2.2.2.2.2.2.2 hb⟩, ?_⟩)
                     | fail))
                  | fail); simp only [Act.put, List.setIfInBounds_toArray, List.set_cons_zero, List.set_cons_succ])
                refine Run.ends (fun hS => ?_)
                have HX := Lib.hid hS.2.2.2.2.2.2.2.2.2.2.2.2.2.2.2.2.2.2.2.2.2.2
                clear hS
                go_wp2_with fail
                go_ret
                exact ⟨by rw [HR.out]; rfl, nest HK.out HX.out⟩
            | true =>
              rw [d5, Bool.true_and] at HR
              cases d6 : (m.hops == n.hops) with
              | false =>
                rw [d6, Bool.false_and] at HR
                skip
                as_aux_lemma =>
                  refine Run.region_seq (S := fun z => z.cell? ⟨g1, 0, none⟩ = some (.int .i64 m.kind) ∧ z.cell? ⟨g1, 1, none⟩ = some (.int .i64 m.hub) ∧ z.cell? ⟨g1, 2, none⟩ = some (.int .u32 m.point) ∧ z.cell? ⟨g1, 3, none⟩ = some (.int .i64 m.client) ∧ z.cell? ⟨g1, 4, none⟩ = some (.int .i64 m.op) ∧ z.cell? ⟨g1, 5, none⟩ = some (.int .u32 m.target) ∧ z.cell? ⟨g1, 6, none⟩ = some (.int .i64 m.hops) ∧ z.cell? ⟨g1, 7, none⟩ = some (.int .u32 m.owner) ∧ z.cell? ⟨g1, 8, none⟩ = some (.int .i64 m.turn) ∧ z.cell? ⟨g1, 16, none⟩ = some b1 ∧ z.cell? ⟨g1, 17, none⟩ = some r1 ∧ z.cell? ⟨g2, 0, none⟩ = some (.int .i64 n.kind) ∧ z.cell? ⟨g2, 1, none⟩ = some (.int .i64 n.hub) ∧ z.cell? ⟨g2, 2, none⟩ = some (.int .u32 n.point) ∧ z.cell? ⟨g2, 3, none⟩ = some (.int .i64 n.client) ∧ z.cell? ⟨g2, 4, none⟩ = some (.int .i64 n.op) ∧ z.cell? ⟨g2, 5, none⟩ = some (.int .u32 n.target) ∧ z.cell? ⟨g2, 6, none⟩ = some (.int .i64 n.hops) ∧ z.cell? ⟨g2, 7, none⟩ = some (.int .u32 n.owner) ∧ z.cell? ⟨g2, 8, none⟩ = some (.int .i64 n.turn) ∧ z.cell? ⟨g2, 16, none⟩ = some b2 ∧ z.cell? ⟨g2, 17, none⟩ = some r2 ∧ Below w1.heap.size w1 z)
                    [0, 0, 0, 0, 0, 0, 0, 0, 0, 0, 0, 0, 0, 0, 0, 0, 0, 0, 0, 0, 0, 0, 0, 0, 0, 0, 0, 0, 0, 0, 0, 0, 0, 0, 0, 0, 0, 0, 0, 0, 0, 0, 0, 0, 0, 0, 0, 0, 0, 0, 0, 0, 0, 0, 0, 0, 0, 0, 0, 0, 0, 0, 0, 0, 0, 0, 1, 0, 0, 0, 0, 0, 0, 0, 0, 0, 0, 0, 0, 0, 1, 0, 0, 0, 0, 0, 0, 1, 0, 0] (l := ?_) ?_ ⟨HB1.out.cell 0, HB1.out.cell 1, HB1.out.cell 2, HB1.out.cell 3, HB1.out.cell 4, HB1.out.cell 5, HB1.out.cell 6, HB1.out.cell 7, HB1.out.cell 8, HB1.out.cell 16, HB1.out.cell 17, HB2.out.cell 0, HB2.out.cell 1, HB2.out.cell 2, HB2.out.cell 3, HB2.out.cell 4, HB2.out.cell 5, HB2.out.cell 6, HB2.out.cell 7, HB2.out.cell 8, HB2.out.cell 16, HB2.out.cell 17, HI.out⟩ ?_
                  rotate_left
                  (· simp only [Run.seqOf, List.toList_toArray, Run.stepsOf, Run.stepOf, Run.guardOf, List.getElem?_toArray, List.getElem?_cons_zero, List.getElem?_cons_succ, Option.map_some, Option.map_none, Option.bind_some, Option.toList_some, List.map_cons, List.map_nil, List.cons_append, List.nil_append]
                     rfl)
                  repeat ((first
                    | (refine Run.takes (v := ?_) ?_ ?_; rotate_left; (· intro w' hS'; (first | (refine exec_load_sub (n := 5) (off := 9) (x := .tmp 67) (l := [.int .u32 m.ev, .int .u64 m.eid, .int .u64 m.ever, v1, .bool m.gone]) (m := mcs m v1 b1 r1) ?_ Try.underlying28 ent_info' ?_ ?_ (HB1.out.keep hS'.2.2.2.2.2.2.2.2.2.2.2.2.2.2.2.2.2.2.2.2.2.2) ?_ <;> rfl) | (refine exec_load_sub (n := 5) (off := 9) (x := .tmp 69) (l := [.int .u32 n.ev, .int .u64 n.eid, .int .u64 n.ever, v2, .bool n.gone]) (m := mcs n v2 b2 r2) ?_ Try.underlying28 ent_info' ?_ ?_ (HB2.out.keep hS'.2.2.2.2.2.2.2.2.2.2.2.2.2.2.2.2.2.2.2.2.2.2) ?_ <;> rfl) | (refine exec_load_sub (n := 2) (off := 14) (x := .tmp 74) (l := [.int .u32 m.sf, .int .u32 m.st]) (m := mcs m v1 b1 r1) ?_ Try.underlying30 span_info' ?_ ?_ (HB1.out.keep hS'.2.2.2.2.2.2.2.2.2.2.2.2.2.2.2.2.2.2.2.2.2.2) ?_ <;> rfl) | (refine exec_load_sub (n := 2) (off := 14) (x := .tmp 76) (l := [.int .u32 n.sf, .int .u32 n.st]) (m := mcs n v2 b2 r2) ?_ Try.underlying30 span_info' ?_ ?_ (HB2.out.keep hS'.2.2.2.2.2.2.2.2.2.2.2.2.2.2.2.2.2.2.2.2.2.2) ?_ <;> rfl) | (go_simp; (try with_reducible rfl)))))
                    | (refine Run.takesG (v := ?_) ?_ ?_ ?_; rotate_left; (· simp only [List.getElem?_cons_zero, List.getElem?_cons_succ]); (· intro w' hS'; (first | (refine exec_load_sub (n := 5) (off := 9) (x := .tmp 67) (l := [.int .u32 m.ev, .int .u64 m.eid, .int .u64 m.ever, v1, .bool m.gone]) (m := mcs m v1 b1 r1) ?_ Try.underlying28 ent_info' ?_ ?_ (HB1.out.keep hS'.2.2.2.2.2.2.2.2.2.2.2.2.2.2.2.2.2.2.2.2.2.2) ?_ <;> rfl) | (refine exec_load_sub (n := 5) (off := 9) (x := .tmp 69) (l := [.int .u32 n.ev, .int .u64 n.eid, .int .u64 n.ever, v2, .bool n.gone]) (m := mcs n v2 b2 r2) ?_ Try.underlying28 ent_info' ?_ ?_ (HB2.out.keep hS'.2.2.2.2.2.2.2.2.2.2.2.2.2.2.2.2.2.2.2.2.2.2) ?_ <;> rfl) | (refine exec_load_sub (n := 2) (off := 14) (x := .tmp 74) (l := [.int .u32 m.sf, .int .u32 m.st]) (m := mcs m v1 b1 r1) ?_ Try.underlying30 span_info' ?_ ?_ (HB1.out.keep hS'.2.2.2.2.2.2.2.2.2.2.2.2.2.2.2.2.2.2.2.2.2.2) ?_ <;> rfl) | (refine exec_load_sub (n := 2) (off := 14) (x := .tmp 76) (l := [.int .u32 n.sf, .int .u32 n.st]) (m := mcs n v2 b2 r2) ?_ Try.underlying30 span_info' ?_ ?_ (HB2.out.keep hS'.2.2.2.2.2.2.2.2.2.2.2.2.2.2.2.2.2.2.2.2.2.2) ?_ <;> rfl) | (go_simp; (try with_reducible rfl)))))
                    | (refine Run.skipsT ?_ ?_; (· simp only [List.getElem?_cons_zero, List.getElem?_cons_succ]))
                    | (refine Run.skipsF ?_ ?_; (· simp only [List.getElem?_cons_zero, List.getElem?_cons_succ]))
                    | (refine Run.skipsU ?_ ?_; (· simp only [List.getElem?_cons_zero, List.getElem?_cons_succ]))
                    | (refine Run.passT ?_ ?_; (· simp only [List.getElem?_cons_zero, List.getElem?_cons_succ]))
                    | (refine Run.passF ?_ ?_; (· simp only [List.getElem?_cons_zero, List.getElem?_cons_succ]))
                    | (refine Run.passU ?_ ?_; (· simp only [List.getElem?_cons_zero, List.getElem?_cons_succ]))
                    | (refine Run.runs ?_
                       (first
                       | (refine Run.callF 47 (by kernel_rfl) (fun hS => CE.out _ hS.2.2.2.2.2.2.2.2.2.2.2.2.2.2.2.2.2.2.2.2.2.2) rfl ?_)
                       | (refine Run.callG 47 (by kernel_rfl) ?_ (fun hS => CE.out _ hS.2.2.2.2.2.2.2.2.2.2.2.2.2.2.2.2.2.2.2.2.2.2) rfl ?_; (· simp only [List.getElem?_cons_zero, List.getElem?_cons_succ]))
                       | (refine Run.callF 49 (by kernel_rfl) (fun hS => CB.out _ hS.2.2.2.2.2.2.2.2.2.2.2.2.2.2.2.2.2.2.2.2.2.2) rfl ?_)
                       | (refine Run.callG 49 (by kernel_rfl) ?_ (fun hS => CB.out _ hS.2.2.2.2.2.2.2.2.2.2.2.2.2.2.2.2.2.2.2.2.2.2) rfl ?_; (· simp only [List.getElem?_cons_zero, List.getElem?_cons_succ]))
                       | (refine Run.callF 50 (by kernel_rfl) (fun hS => CR.out _ hS.2.2.2.2.2.2.2.2.2.2.2.2.2.2.2.2.2.2.2.2.2.2) rfl ?_)
                       | (refine Run.callG 50 (by kernel_rfl) ?_ (fun hS => CR.out _ hS.2.2.2.2.2.2.2.2.2.2.2.2.2.2.2.2.2.2.2.2.2.2) rfl ?_; (· simp only [List.getElem?_cons_zero, List.getElem?_cons_succ]))
                       | fail)
                       (first
                       | (rintro hS e w' ⟨rfl, rfl⟩; refine ⟨_, rfl, hS, ?_⟩)
                       | (rintro hS e w' ⟨rfl, hb⟩; refine ⟨_, rfl, ⟨kc hb hS.1, kc hb hS.2.1, kc hb hS.2.2.1, kc hb hS.2.2.2.1, kc hb hS.2.2.2.2.1, kc hb hS.2.2.2.2.2.1, kc hb hS.2.2.2.2.2.2.1, kc hb hS.2.2.2.2.2.2.2.1, kc hb hS.2.2.2.2.2.2.2.2.1, kc hb hS.2.2.2.2.2.2.2.2.2.1, kc hb hS.2.2.2.2.2.2.2.2.2.2.1, kc hb hS.2.2.2.2.2.2.2.2.2.2.2.1, kc hb hS.2.2.2.2.2.2.2.2.2.2.2.2.1, kc hb hS.2.2.2.2.2.2.2.2.2.2.2.2.2.1, kc hb hS.2.2.2.2.2.2.2.2.2.2.2.2.2.2.1, kc hb hS.2.2.2.2.2.2.2.2.2.2.2.2.2.2.2.1, kc hb hS.2.2.2.2.2.2.2.2.2.2.2.2.2.2.2.2.1, kc hb hS.2.2.2.2.2.2.2.2.2.2.2.2.2.2.2.2.2.1, kc hb hS.2.2.2.2.2.2.2.2.2.2.2.2.2.2.2.2.2.2.1, kc hb hS.2.2.2.2.2.2.2.2.2.2.2.2.2.2.2.2.2.2.2.1, kc hb hS.2.2.2.2.2.2.2.2.2.2.2.2.2.2.2.2.2.2.2.2.1, kc hb hS.2.2.2.2.2.2.2.2.2.2.2.2.2.2.2.2.2.2.2.2.2.1, nest hS.2.2.2.2.2.2.2.2.2.2.2.2.2.2.2.2.2.2.2.2.2.2 hb⟩, ?_⟩)
                       | fail))
                    | fail); simp only [Act.put, List.setIfInBounds_toArray, List.set_cons_zero, List.set_cons_succ])
                  refine Run.ends (fun hS => ?_)
                  have HX := Lib.hid hS.2.2.2.2.2.2.2.2.2.2.2.2.2.2.2.2.2.2.2.2.2.2
                  clear hS
                  go_wp2_with fail
                  go_ret
                  exact ⟨by rw [HR.out]; rfl, nest HK.out HX.out⟩
              | true =>
                rw [d6, Bool.true_and] at HR
                cases d7 : (m.owner == n.owner) with
                | false =>
                  rw [d7, Bool.false_and] at HR
                  skip
                  as_aux_lemma =>
                    refine Run.region_seq (S := fun z => z.cell? ⟨g1, 0, none⟩ = some (.int .i64 m.kind) ∧ z.cell? ⟨g1, 1, none⟩ = some (.int .i64 m.hub) ∧ z.cell? ⟨g1, 2, none⟩ = some (.int .u32 m.point) ∧ z.cell? ⟨g1, 3, none⟩ = some (.int .i64 m.client) ∧ z.cell? ⟨g1, 4, none⟩ = some (.int .i64 m.op) ∧ z.cell? ⟨g1, 5, none⟩ = some (.int .u32 m.target) ∧ z.cell? ⟨g1, 6, none⟩ = some (.int .i64 m.hops) ∧ z.cell? ⟨g1, 7, none⟩ = some (.int .u32 m.owner) ∧ z.cell? ⟨g1, 8, none⟩ = some (.int .i64 m.turn) ∧ z.cell? ⟨g1, 16, none⟩ = some b1 ∧ z.cell? ⟨g1, 17, none⟩ = some r1 ∧ z.cell? ⟨g2, 0, none⟩ = some (.int .i64 n.kind) ∧ z.cell? ⟨g2, 1, none⟩ = some (.int .i64 n.hub) ∧ z.cell? ⟨g2, 2, none⟩ = some (.int .u32 n.point) ∧ z.cell? ⟨g2, 3, none⟩ = some (.int .i64 n.client) ∧ z.cell? ⟨g2, 4, none⟩ = some (.int .i64 n.op) ∧ z.cell? ⟨g2, 5, none⟩ = some (.int .u32 n.target) ∧ z.cell? ⟨g2, 6, none⟩ = some (.int .i64 n.hops) ∧ z.cell? ⟨g2, 7, none⟩ = some (.int .u32 n.owner) ∧ z.cell? ⟨g2, 8, none⟩ = some (.int .i64 n.turn) ∧ z.cell? ⟨g2, 16, none⟩ = some b2 ∧ z.cell? ⟨g2, 17, none⟩ = some r2 ∧ Below w1.heap.size w1 z)
                      [0, 0, 0, 0, 0, 0, 0, 0, 0, 0, 0, 0, 0, 0, 0, 0, 0, 0, 0, 0, 0, 0, 0, 0, 0, 0, 0, 0, 0, 0, 0, 0, 0, 0, 0, 0, 0, 0, 0, 0, 0, 0, 0, 0, 0, 0, 0, 0, 0, 0, 0, 0, 0, 0, 0, 0, 0, 0, 0, 0, 0, 0, 0, 0, 0, 0, 1, 0, 0, 0, 0, 0, 0, 0, 0, 0, 0, 0, 0, 0, 1, 0, 0, 0, 0, 0, 0, 1, 0, 0] (l := ?_) ?_ ⟨HB1.out.cell 0, HB1.out.cell 1, HB1.out.cell 2, HB1.out.cell 3, HB1.out.cell 4, HB1.out.cell 5, HB1.out.cell 6, HB1.out.cell 7, HB1.out.cell 8, HB1.out.cell 16, HB1.out.cell 17, HB2.out.cell 0, HB2.out.cell 1, HB2.out.cell 2, HB2.out.cell 3, HB2.out.cell 4, HB2.out.cell 5, HB2.out.cell 6, HB2.out.cell 7, HB2.out.cell 8, HB2.out.cell 16, HB2.out.cell 17, HI.out⟩ ?_
                    rotate_left
                    (· simp only [Run.seqOf, List.toList_toArray, Run.stepsOf, Run.stepOf, Run.guardOf, List.getElem?_toArray, List.getElem?_cons_zero, List.getElem?_cons_succ, Option.map_some, Option.map_none, Option.bind_some, Option.toList_some, List.map_cons, List.map_nil, List.cons_append, List.nil_append]
                       rfl)
                    repeat ((first
                      | (refine Run.takes (v := ?_) ?_ ?_; rotate_left; (· intro w' hS'; (first | (refine exec_load_sub (n := 5) (off := 9) (x := .tmp 67) (l := [.int .u32 m.ev, .int .u64 m.eid, .int .u64 m.ever, v1, .bool m.gone]) (m := mcs m v1 b1 r1) ?_ Try.underlying28 ent_info' ?_ ?_ (HB1.out.keep hS'.2.2.2.2.2.2.2.2.2.2.2.2.2.2.2.2.2.2.2.2.2.2) ?_ <;> rfl) | (refine exec_load_sub (n := 5) (off := 9) (x := .tmp 69) (l := [.int .u32 n.ev, .int .u64 n.eid, .int .u64 n.ever, v2, .bool n.gone]) (m := mcs n v2 b2 r2) ?_ Try.underlying28 ent_info' ?_ ?_ (HB2.out.keep hS'.2.2.2.2.2.2.2.2.2.2.2.2.2.2.2.2.2.2.2.2.2.2) ?_ <;> rfl) | (refine exec_load_sub (n := 2) (off := 14) (x := .tmp 74) (l := [.int .u32 m.sf, .int .u32 m.st]) (m := mcs m v1 b1 r1) ?_ Try.underlying30 span_info' ?_ ?_ (HB1.out.keep hS'.2.2.2.2.2.2.2.2.2.2.2.2.2.2.2.2.2.2.2.2.2.2) ?_ <;> rfl) | (refine exec_load_sub (n := 2) (off := 14) (x := .tmp 76) (l := [.int .u32 n.sf, .int .u32 n.st]) (m := mcs n v2 b2 r2) ?_ Try.underlying30 span_info' ?_ ?_ (HB2.out.keep hS'.2.2.2.2.2.2.2.2.2.2.2.2.2.2.2.2.2.2.2.2.2.2) ?_ <;> rfl) | (go_simp; (try with_reducible rfl)))))
                      | (refine Run.takesG (v := ?_) ?_ ?_ ?_; rotate_left; (· simp only [List.getElem?_cons_zero, List.getElem?_cons_succ]); (· intro w' hS'; (first | (refine exec_load_sub (n := 5) (off := 9) (x := .tmp 67) (l := [.int .u32 m.ev, .int .u64 m.eid, .int .u64 m.ever, v1, .bool m.gone]) (m := mcs m v1 b1 r1) ?_ Try.underlying28 ent_info' ?_ ?_ (HB1.out.keep hS'.2.2.2.2.2.2.2.2.2.2.2.2.2.2.2.2.2.2.2.2.2.2) ?_ <;> rfl) | (refine exec_load_sub (n := 5) (off := 9) (x := .tmp 69) (l := [.int .u32 n.ev, .int .u64 n.eid, .int .u64 n.ever, v2, .bool n.gone]) (m := mcs n v2 b2 r2) ?_ Try.underlying28 ent_info' ?_ ?_ (HB2.out.keep hS'.2.2.2.2.2.2.2.2.2.2.2.2.2.2.2.2.2.2.2.2.2.2) ?_ <;> rfl) | (refine exec_load_sub (n := 2) (off := 14) (x := .tmp 74) (l := [.int .u32 m.sf, .int .u32 m.st]) (m := mcs m v1 b1 r1) ?_ Try.underlying30 span_info' ?_ ?_ (HB1.out.keep hS'.2.2.2.2.2.2.2.2.2.2.2.2.2.2.2.2.2.2.2.2.2.2) ?_ <;> rfl) | (refine exec_load_sub (n := 2) (off := 14) (x := .tmp 76) (l := [.int .u32 n.sf, .int .u32 n.st]) (m := mcs n v2 b2 r2) ?_ Try.underlying30 span_info' ?_ ?_ (HB2.out.keep hS'.2.2.2.2.2.2.2.2.2.2.2.2.2.2.2.2.2.2.2.2.2.2) ?_ <;> rfl) | (go_simp; (try with_reducible rfl)))))
                      | (refine Run.skipsT ?_ ?_; (· simp only [List.getElem?_cons_zero, List.getElem?_cons_succ]))
                      | (refine Run.skipsF ?_ ?_; (· simp only [List.getElem?_cons_zero, List.getElem?_cons_succ]))
                      | (refine Run.skipsU ?_ ?_; (· simp only [List.getElem?_cons_zero, List.getElem?_cons_succ]))
                      | (refine Run.passT ?_ ?_; (· simp only [List.getElem?_cons_zero, List.getElem?_cons_succ]))
                      | (refine Run.passF ?_ ?_; (· simp only [List.getElem?_cons_zero, List.getElem?_cons_succ]))
                      | (refine Run.passU ?_ ?_; (· simp only [List.getElem?_cons_zero, List.getElem?_cons_succ]))
                      | (refine Run.runs ?_
                         (first
                         | (refine Run.callF 47 (by kernel_rfl) (fun hS => CE.out _ hS.2.2.2.2.2.2.2.2.2.2.2.2.2.2.2.2.2.2.2.2.2.2) rfl ?_)
                         | (refine Run.callG 47 (by kernel_rfl) ?_ (fun hS => CE.out _ hS.2.2.2.2.2.2.2.2.2.2.2.2.2.2.2.2.2.2.2.2.2.2) rfl ?_; (· simp only [List.getElem?_cons_zero, List.getElem?_cons_succ]))
                         | (refine Run.callF 49 (by kernel_rfl) (fun hS => CB.out _ hS.2.2.2.2.2.2.2.2.2.2.2.2.2.2.2.2.2.2.2.2.2.2) rfl ?_)
                         | (refine Run.callG 49 (by kernel_rfl) ?_ (fun hS => CB.out _ hS.2.2.2.2.2.2.2.2.2.2.2.2.2.2.2.2.2.2.2.2.2.2) rfl ?_; (· simp only [List.getElem?_cons_zero, List.getElem?_cons_succ]))
                         | (refine Run.callF 50 (by kernel_rfl) (fun hS => CR.out _ hS.2.2.2.2.2.2.2.2.2.2.2.2.2.2.2.2.2.2.2.2.2.2) rfl ?_)
                         | (refine Run.callG 50 (by kernel_rfl) ?_ (fun hS => CR.out _ hS.2.2.2.2.2.2.2.2.2.2.2.2.2.2.2.2.2.2.2.2.2.2) rfl ?_; (· simp only [List.getElem?_cons_zero, List.getElem?_cons_succ]))
                         | fail)
                         (first
                         | (rintro hS e w' ⟨rfl, rfl⟩; refine ⟨_, rfl, hS, ?_⟩)
                         | (rintro hS e w' ⟨rfl, hb⟩; refine ⟨_, rfl, ⟨kc hb hS.1, kc hb hS.2.1, kc hb hS.2.2.1, kc hb hS.2.2.2.1, kc hb hS.2.2.2.2.1, kc hb hS.2.2.2.2.2.1, kc hb hS.2.2.2.2.2.2.1, kc hb hS.2.2.2.2.2.2.2.1, kc hb hS.2.2.2.2.2.2.2.2.1, kc hb hS.2.2.2.2.2.2.2.2.2.1, kc hb hS.2.2.2.2.2.2.2.2.2.2.1, kc hb hS.2.2.2.2.2.2.2.2.2.2.2.1, kc hb hS.2.2.2.2.2.2.2.2.2.2.2.2.1, kc hb hS.2.2.2.2.2.2.2.2.2.2.2.2.2.1, kc hb hS.2.2.2.2.2.2.2.2.2.2.2.2.2.2.1, kc hb hS.2.2.2.2.2.2.2.2.2.2.2.2.2.2.2.1, kc hb hS.2.2.2.2.2.2.2.2.2.2.2.2.2.2.2.2.1, kc hb hS.2.2.2.2.2.2.2.2.2.2.2.2.2.2.2.2.2.1, kc hb hS.2.2.2.2.2.2.2.2.2.2.2.2.2.2.2.2.2.2.1, kc hb hS.2.2.2.2.2.2.2.2.2.2.2.2.2.2.2.2.2.2.2.1, kc hb hS.2.2.2.2.2.2.2.2.2.2.2.2.2.2.2.2.2.2.2.2.1, kc hb hS.2.2.2.2.2.2.2.2.2.2.2.2.2.2.2.2.2.2.2.2.2.1, nest hS.2.2.2.2.2.2.2.2.2.2.2.2.2.2.2.2.2.2.2.2.2.2 hb⟩, ?_⟩)
                         | fail))
                      | fail); simp only [Act.put, List.setIfInBounds_toArray, List.set_cons_zero, List.set_cons_succ])
                    refine Run.ends (fun hS => ?_)
                    have HX := Lib.hid hS.2.2.2.2.2.2.2.2.2.2.2.2.2.2.2.2.2.2.2.2.2.2
                    clear hS
                    go_wp2_with fail
                    go_ret
                    exact ⟨by rw [HR.out]; rfl, nest HK.out HX.out⟩
                | true =>
                  rw [d7, Bool.true_and] at HR
                  cases d8 : (m.turn == n.turn) with
                  | false =>
                    rw [d8, Bool.false_and] at HR
                    skip
                    as_aux_lemma =>
                      refine Run.region_seq (S := fun z => z.cell? ⟨g1, 0, none⟩ = some (.int .i64 m.kind) ∧ z.cell? ⟨g1, 1, none⟩ = some (.int .i64 m.hub) ∧ z.cell? ⟨g1, 2, none⟩ = some (.int .u32 m.point) ∧ z.cell? ⟨g1, 3, none⟩ = some (.int .i64 m.client) ∧ z.cell? ⟨g1, 4, none⟩ = some (.int .i64 m.op) ∧ z.cell? ⟨g1, 5, none⟩ = some (.int .u32 m.target) ∧ z.cell? ⟨g1, 6, none⟩ = some (.int .i64 m.hops) ∧ z.cell? ⟨g1, 7, none⟩ = some (.int .u32 m.owner) ∧ z.cell? ⟨g1, 8, none⟩ = some (.int .i64 m.turn) ∧ z.cell? ⟨g1, 16, none⟩ = some b1 ∧ z.cell? ⟨g1, 17, none⟩ = some r1 ∧ z.cell? ⟨g2, 0, none⟩ = some (.int .i64 n.kind) ∧ z.cell? ⟨g2, 1, none⟩ = some (.int .i64 n.hub) ∧ z.cell? ⟨g2, 2, none⟩ = some (.int .u32 n.point) ∧ z.cell? ⟨g2, 3, none⟩ = some (.int .i64 n.client) ∧ z.cell? ⟨g2, 4, none⟩ = some (.int .i64 n.op) ∧ z.cell? ⟨g2, 5, none⟩ = some (.int .u32 n.target) ∧ z.cell? ⟨g2, 6, none⟩ = some (.int .i64 n.hops) ∧ z.cell? ⟨g2, 7, none⟩ = some (.int .u32 n.owner) ∧ z.cell? ⟨g2, 8, none⟩ = some (.int .i64 n.turn) ∧ z.cell? ⟨g2, 16, none⟩ = some b2 ∧ z.cell? ⟨g2, 17, none⟩ = some r2 ∧ Below w1.heap.size w1 z)
                        [0, 0, 0, 0, 0, 0, 0, 0, 0, 0, 0, 0, 0, 0, 0, 0, 0, 0, 0, 0, 0, 0, 0, 0, 0, 0, 0, 0, 0, 0, 0, 0, 0, 0, 0, 0, 0, 0, 0, 0, 0, 0, 0, 0, 0, 0, 0, 0, 0, 0, 0, 0, 0, 0, 0, 0, 0, 0, 0, 0, 0, 0, 0, 0, 0, 0, 1, 0, 0, 0, 0, 0, 0, 0, 0, 0, 0, 0, 0, 0, 1, 0, 0, 0, 0, 0, 0, 1, 0, 0] (l := ?_) ?_ ⟨HB1.out.cell 0, HB1.out.cell 1, HB1.out.cell 2, HB1.out.cell 3, HB1.out.cell 4, HB1.out.cell 5, HB1.out.cell 6, HB1.out.cell 7, HB1.out.cell 8, HB1.out.cell 16, HB1.out.cell 17, HB2.out.cell 0, HB2.out.cell 1, HB2.out.cell 2, HB2.out.cell 3, HB2.out.cell 4, HB2.out.cell 5, HB2.out.cell 6, HB2.out.cell 7, HB2.out.cell 8, HB2.out.cell 16, HB2.out.cell 17, HI.out⟩ ?_
                      rotate_left
                      (· simp only [Run.seqOf, List.toList_toArray, Run.stepsOf, Run.stepOf, Run.guardOf, List.getElem?_toArray, List.getElem?_cons_zero, List.getElem?_cons_succ, Option.map_some, Option.map_none, Option.bind_some, Option.toList_some, List.map_cons, List.map_nil, List.cons_append, List.nil_append]
                         rfl)
                      repeat ((first
                        | (refine Run.takes (v := ?_) ?_ ?_; rotate_left; (· intro w' hS'; (first | (refine exec_load_sub (n := 5) (off := 9) (x := .tmp 67) (l := [.int .u32 m.ev, .int .u64 m.eid, .int .u64 m.ever, v1, .bool m.gone]) (m := mcs m v1 b1 r1) ?_ Try.underlying28 ent_info' ?_ ?_ (HB1.out.keep hS'.2.2.2.2.2.2.2.2.2.2.2.2.2.2.2.2.2.2.2.2.2.2) ?_ <;> rfl) | (refine exec_load_sub (n := 5) (off := 9) (x := .tmp 69) (l := [.int .u32 n.ev, .int .u64 n.eid, .int .u64 n.ever, v2, .bool n.gone]) (m := mcs n v2 b2 r2) ?_ Try.underlying28 ent_info' ?_ ?_ (HB2.out.keep hS'.2.2.2.2.2.2.2.2.2.2.2.2.2.2.2.2.2.2.2.2.2.2) ?_ <;> rfl) | (refine exec_load_sub (n := 2) (off := 14) (x := .tmp 74) (l := [.int .u32 m.sf, .int .u32 m.st]) (m := mcs m v1 b1 r1) ?_ Try.underlying30 span_info' ?_ ?_ (HB1.out.keep hS'.2.2.2.2.2.2.2.2.2.2.2.2.2.2.2.2.2.2.2.2.2.2) ?_ <;> rfl) | (refine exec_load_sub (n := 2) (off := 14) (x := .tmp 76) (l := [.int .u32 n.sf, .int .u32 n.st]) (m := mcs n v2 b2 r2) ?_ Try.underlying30 span_info' ?_ ?_ (HB2.out.keep hS'.2.2.2.2.2.2.2.2.2.2.2.2.2.2.2.2.2.2.2.2.2.2) ?_ <;> rfl) | (go_simp; (try with_reducible rfl)))))
                        | (refine Run.takesG (v := ?_) ?_ ?_ ?_; rotate_left; (· simp only [List.getElem?_cons_zero, List.getElem?_cons_succ]); (· intro w' hS'; (first | (refine exec_load_sub (n := 5) (off := 9) (x := .tmp 67) (l := [.int .u32 m.ev, .int .u64 m.eid, .int .u64 m.ever, v1, .bool m.gone]) (m := mcs m v1 b1 r1) ?_ Try.underlying28 ent_info' ?_ ?_ (HB1.out.keep hS'.2.2.2.2.2.2.2.2.2.2.2.2.2.2.2.2.2.2.2.2.2.2) ?_ <;> rfl) | (refine exec_load_sub (n := 5) (off := 9) (x := .tmp 69) (l := [.int .u32 n.ev, .int .u64 n.eid, .int .u64 n.ever, v2, .bool n.gone]) (m := mcs n v2 b2 r2) ?_ Try.underlying28 ent_info' ?_ ?_ (HB2.out.keep hS'.2.2.2.2.2.2.2.2.2.2.2.2.2.2.2.2.2.2.2.2.2.2) ?_ <;> rfl) | (refine exec_load_sub (n := 2) (off := 14) (x := .tmp 74) (l := [.int .u32 m.sf, .int .u32 m.st]) (m := mcs m v1 b1 r1) ?_ Try.underlying30 span_info' ?_ ?_ (HB1.out.keep hS'.2.2.2.2.2.2.2.2.2.2.2.2.2.2.2.2.2.2.2.2.2.2) ?_ <;> rfl) | (refine exec_load_sub (n := 2) (off := 14) (x := .tmp 76) (l := [.int .u32 n.sf, .int .u32 n.st]) (m := mcs n v2 b2 r2) ?_ Try.underlying30 span_info' ?_ ?_ (HB2.out.keep hS'.2.2.2.2.2.2.2.2.2.2.2.2.2.2.2.2.2.2.2.2.2.2) ?_ <;> rfl) | (go_simp; (try with_reducible rfl)))))
                        | (refine Run.skipsT ?_ ?_; (· simp only [List.getElem?_cons_zero, List.getElem?_cons_succ]))
                        | (refine Run.skipsF ?_ ?_; (· simp only [List.getElem?_cons_zero, List.getElem?_cons_succ]))
                        | (refine Run.skipsU ?_ ?_; (· simp only [List.getElem?_cons_zero, List.getElem?_cons_succ]))
                        | (refine Run.passT ?_ ?_; (· simp only [List.getElem?_cons_zero, List.getElem?_cons_succ]))
                        | (refine Run.passF ?_ ?_; (· simp only [List.getElem?_cons_zero, List.getElem?_cons_succ]))
                        | (refine Run.passU ?_ ?_; (· simp only [List.getElem?_cons_zero, List.getElem?_cons_succ]))
                        | (refine Run.runs ?_
                           (first
                           | (refine Run.callF 47 (by kernel_rfl) (fun hS => CE.out _ hS.2.2.2.2.2.2.2.2.2.2.2.2.2.2.2.2.2.2.2.2.2.2) rfl ?_)
                           | (refine Run.callG 47 (by kernel_rfl) ?_ (fun hS => CE.out _ hS.2.2.2.2.2.2.2.2.2.2.2.2.2.2.2.2.2.2.2.2.2.2) rfl ?_; (· simp only [List.getElem?_cons_zero, List.getElem?_cons_succ]))
                           | (refine Run.callF 49 (by kernel_rfl) (fun hS => CB.out _ hS.2.2.2.2.2.2.2.2.2.2.2.2.2.2.2.2.2.2.2.2.2.2) rfl ?_)
                           | (refine Run.callG 49 (by kernel_rfl) ?_ (fun hS => CB.out _ hS.2.2.2.2.2.2.2.2.2.2.2.2.2.2.2.2.2.2.2.2.2.2) rfl ?_; (· simp only [List.getElem?_cons_zero, List.getElem?_cons_succ]))
                           | (refine Run.callF 50 (by kernel_rfl) (fun hS => CR.out _ hS.2.2.2.2.2.2.2.2.2.2.2.2.2.2.2.2.2.2.2.2.2.2) rfl ?_)
                           | (refine Run.callG 50 (by kernel_rfl) ?_ (fun hS => CR.out _ hS.2.2.2.2.2.2.2.2.2.2.2.2.2.2.2.2.2.2.2.2.2.2) rfl ?_; (· simp only [List.getElem?_cons_zero, List.getElem?_cons_succ]))
                           | fail)
                           (first
                           | (rintro hS e w' ⟨rfl, rfl⟩; refine ⟨_, rfl, hS, ?_⟩)
                           | (rintro hS e w' ⟨rfl, hb⟩; refine ⟨_, rfl, ⟨kc hb hS.1, kc hb hS.2.1, kc hb hS.2.2.1, kc hb hS.2.2.2.1, kc hb hS.2.2.2.2.1, kc hb hS.2.2.2.2.2.1, kc hb hS.2.2.2.2.2.2.1, kc hb hS.2.2.2.2.2.2.2.1, kc hb hS.2.2.2.2.2.2.2.2.1, kc hb hS.2.2.2.2.2.2.2.2.2.1, kc hb hS.2.2.2.2.2.2.2.2.2.2.1, kc hb hS.2.2.2.2.2.2.2.2.2.2.2.1, kc hb hS.2.2.2.2.2.2.2.2.2.2.2.2.1, kc hb hS.2.2.2.2.2.2.2.2.2.2.2.2.2.1, kc hb hS.2.2.2.2.2.2.2.2.2.2.2.2.2.2.1, kc hb hS.2.2.2.2.2.2.2.2.2.2.2.2.2.2.2.1, kc hb hS.2.2.2.2.2.2.2.2.2.2.2.2.2.2.2.2.1, kc hb hS.2.2.2.2.2.2.2.2.2.2.2.2.2.2.2.2.2.1, kc hb hS.2.2.2.2.2.2.2.2.2.2.2.2.2.2.2.2.2.2.1, kc hb hS.2.2.2.2.2.2.2.2.2.2.2.2.2.2.2.2.2.2.2.1, kc hb hS.2.2.2.2.2.2.2.2.2.2.2.2.2.2.2.2.2.2.2.2.1, kc hb hS.2.2.2.2.2.2.2.2.2.2.2.2.2.2.2.2.2.2.2.2.2.1, nest hS.2.2.2.2.2.2.2.2.2.2.2.2.2.2.2.2.2.2.2.2.2.2 hb⟩, ?_⟩)
                           | fail))
                        | fail); simp only [Act.put, List.setIfInBounds_toArray, List.set_cons_zero, List.set_cons_succ])
                      refine Run.ends (fun hS => ?_)
                      have HX := Lib.hid hS.2.2.2.2.2.2.2.2.2.2.2.2.2.2.2.2.2.2.2.2.2.2
                      clear hS
                      go_wp2_with fail
                      go_ret
                      exact ⟨by rw [HR.out]; rfl, nest HK.out HX.out⟩
                  | true =>
                    rw [d8, Bool.true_and] at HR
                    cases d9 : sameE m.ev m.eid m.ever m.vals m.gone n.ev n.eid n.ever n.vals n.gone with
                    | false =>
                      rw [d9] at CE
                      rw [d9, Bool.false_and] at HR
                      skip
                      as_aux_lemma =>
                        refine Run.region_seq (S := fun z => z.cell? ⟨g1, 0, none⟩ = some (.int .i64 m.kind) ∧ z.cell? ⟨g1, 1, none⟩ = some (.int .i64 m.hub) ∧ z.cell? ⟨g1, 2, none⟩ = some (.int .u32 m.point) ∧ z.cell? ⟨g1, 3, none⟩ = some (.int .i64 m.client) ∧ z.cell? ⟨g1, 4, none⟩ = some (.int .i64 m.op) ∧ z.cell? ⟨g1, 5, none⟩ = some (.int .u32 m.target) ∧ z.cell? ⟨g1, 6, none⟩ = some (.int .i64 m.hops) ∧ z.cell? ⟨g1, 7, none⟩ = some (.int .u32 m.owner) ∧ z.cell? ⟨g1, 8, none⟩ = some (.int .i64 m.turn) ∧ z.cell? ⟨g1, 16, none⟩ = some b1 ∧ z.cell? ⟨g1, 17, none⟩ = some r1 ∧ z.cell? ⟨g2, 0, none⟩ = some (.int .i64 n.kind) ∧ z.cell? ⟨g2, 1, none⟩ = some (.int .i64 n.hub) ∧ z.cell? ⟨g2, 2, none⟩ = some (.int .u32 n.point) ∧ z.cell? ⟨g2, 3, none⟩ = some (.int .i64 n.client) ∧ z.cell? ⟨g2, 4, none⟩ = some (.int .i64 n.op) ∧ z.cell? ⟨g2, 5, none⟩ = some (.int .u32 n.target) ∧ z.cell? ⟨g2, 6, none⟩ = some (.int .i64 n.hops) ∧ z.cell? ⟨g2, 7, none⟩ = some (.int .u32 n.owner) ∧ z.cell? ⟨g2, 8, none⟩ = some (.int .i64 n.turn) ∧ z.cell? ⟨g2, 16, none⟩ = some b2 ∧ z.cell? ⟨g2, 17, none⟩ = some r2 ∧ Below w1.heap.size w1 z)
                          [0, 0, 0, 0, 0, 0, 0, 0, 0, 0, 0, 0, 0, 0, 0, 0, 0, 0, 0, 0, 0, 0, 0, 0, 0, 0, 0, 0, 0, 0, 0, 0, 0, 0, 0, 0, 0, 0, 0, 0, 0, 0, 0, 0, 0, 0, 0, 0, 0, 0, 0, 0, 0, 0, 0, 0, 0, 0, 0, 0, 0, 0, 0, 0, 0, 0, 1, 0, 0, 0, 0, 0, 0, 0, 0, 0, 0, 0, 0, 0, 1, 0, 0, 0, 0, 0, 0, 1, 0, 0] (l := ?_) ?_ ⟨HB1.out.cell 0, HB1.out.cell 1, HB1.out.cell 2, HB1.out.cell 3, HB1.out.cell 4, HB1.out.cell 5, HB1.out.cell 6, HB1.out.cell 7, HB1.out.cell 8, HB1.out.cell 16, HB1.out.cell 17, HB2.out.cell 0, HB2.out.cell 1, HB2.out.cell 2, HB2.out.cell 3, HB2.out.cell 4, HB2.out.cell 5, HB2.out.cell 6, HB2.out.cell 7, HB2.out.cell 8, HB2.out.cell 16, HB2.out.cell 17, HI.out⟩ ?_
                        rotate_left
                        (· simp only [Run.seqOf, List.toList_toArray, Run.stepsOf, Run.stepOf, Run.guardOf, List.getElem?_toArray, List.getElem?_cons_zero, List.getElem?_cons_succ, Option.map_some, Option.map_none, Option.bind_some, Option.toList_some, List.map_cons, List.map_nil, List.cons_append, List.nil_append]
                           rfl)
                        repeat ((first
                          | (refine Run.takes (v := ?_) ?_ ?_; rotate_left; (· intro w' hS'; (first | (refine exec_load_sub (n := 5) (off := 9) (x := .tmp 67) (l := [.int .u32 m.ev, .int .u64 m.eid, .int .u64 m.ever, v1, .bool m.gone]) (m := mcs m v1 b1 r1) ?_ Try.underlying28 ent_info' ?_ ?_ (HB1.out.keep hS'.2.2.2.2.2.2.2.2.2.2.2.2.2.2.2.2.2.2.2.2.2.2) ?_ <;> rfl) | (refine exec_load_sub (n := 5) (off := 9) (x := .tmp 69) (l := [.int .u32 n.ev, .int .u64 n.eid, .int .u64 n.ever, v2, .bool n.gone]) (m := mcs n v2 b2 r2) ?_ Try.underlying28 ent_info' ?_ ?_ (HB2.out.keep hS'.2.2.2.2.2.2.2.2.2.2.2.2.2.2.2.2.2.2.2.2.2.2) ?_ <;> rfl) | (refine exec_load_sub (n := 2) (off := 14) (x := .tmp 74) (l := [.int .u32 m.sf, .int .u32 m.st]) (m := mcs m v1 b1 r1) ?_ Try.underlying30 span_info' ?_ ?_ (HB1.out.keep hS'.2.2.2.2.2.2.2.2.2.2.2.2.2.2.2.2.2.2.2.2.2.2) ?_ <;> rfl) | (refine exec_load_sub (n := 2) (off := 14) (x := .tmp 76) (l := [.int .u32 n.sf, .int .u32 n.st]) (m := mcs n v2 b2 r2) ?_ Try.underlying30 span_info' ?_ ?_ (HB2.out.keep hS'.2.2.2.2.2.2.2.2.2.2.2.2.2.2.2.2.2.2.2.2.2.2) ?_ <;> rfl) | (go_simp; (try with_reducible rfl)))))
                          | (refine Run.takesG (v := ?_) ?_ ?_ ?_; rotate_left; (· simp only [List.getElem?_cons_zero, List.getElem?_cons_succ]); (· intro w' hS'; (first | (refine exec_load_sub (n := 5) (off := 9) (x := .tmp 67) (l := [.int .u32 m.ev, .int .u64 m.eid, .int .u64 m.ever, v1, .bool m.gone]) (m := mcs m v1 b1 r1) ?_ Try.underlying28 ent_info' ?_ ?_ (HB1.out.keep hS'.2.2.2.2.2.2.2.2.2.2.2.2.2.2.2.2.2.2.2.2.2.2) ?_ <;> rfl) | (refine exec_load_sub (n := 5) (off := 9) (x := .tmp 69) (l := [.int .u32 n.ev, .int .u64 n.eid, .int .u64 n.ever, v2, .bool n.gone]) (m := mcs n v2 b2 r2) ?_ Try.underlying28 ent_info' ?_ ?_ (HB2.out.keep hS'.2.2.2.2.2.2.2.2.2.2.2.2.2.2.2.2.2.2.2.2.2.2) ?_ <;> rfl) | (refine exec_load_sub (n := 2) (off := 14) (x := .tmp 74) (l := [.int .u32 m.sf, .int .u32 m.st]) (m := mcs m v1 b1 r1) ?_ Try.underlying30 span_info' ?_ ?_ (HB1.out.keep hS'.2.2.2.2.2.2.2.2.2.2.2.2.2.2.2.2.2.2.2.2.2.2) ?_ <;> rfl) | (refine exec_load_sub (n := 2) (off := 14) (x := .tmp 76) (l := [.int .u32 n.sf, .int .u32 n.st]) (m := mcs n v2 b2 r2) ?_ Try.underlying30 span_info' ?_ ?_ (HB2.out.keep hS'.2.2.2.2.2.2.2.2.2.2.2.2.2.2.2.2.2.2.2.2.2.2) ?_ <;> rfl) | (go_simp; (try with_reducible rfl)))))
                          | (refine Run.skipsT ?_ ?_; (· simp only [List.getElem?_cons_zero, List.getElem?_cons_succ]))
                          | (refine Run.skipsF ?_ ?_; (· simp only [List.getElem?_cons_zero, List.getElem?_cons_succ]))
                          | (refine Run.skipsU ?_ ?_; (· simp only [List.getElem?_cons_zero, List.getElem?_cons_succ]))
                          | (refine Run.passT ?_ ?_; (· simp only [List.getElem?_cons_zero, List.getElem?_cons_succ]))
                          | (refine Run.passF ?_ ?_; (· simp only [List.getElem?_cons_zero, List.getElem?_cons_succ]))
                          | (refine Run.passU ?_ ?_; (· simp only [List.getElem?_cons_zero, List.getElem?_cons_succ]))
                          | (refine Run.runs ?_
                             (first
                             | (refine Run.callF 47 (by kernel_rfl) (fun hS => CE.out _ hS.2.2.2.2.2.2.2.2.2.2.2.2.2.2.2.2.2.2.2.2.2.2) rfl ?_)
                             | (refine Run.callG 47 (by kernel_rfl) ?_ (fun hS => CE.out _ hS.2.2.2.2.2.2.2.2.2.2.2.2.2.2.2.2.2.2.2.2.2.2) rfl ?_; (· simp only [List.getElem?_cons_zero, List.getElem?_cons_succ]))
                             | (refine Run.callF 49 (by kernel_rfl) (fun hS => CB.out _ hS.2.2.2.2.2.2.2.2.2.2.2.2.2.2.2.2.2.2.2.2.2.2) rfl ?_)
                             | (refine Run.callG 49 (by kernel_rfl) ?_ (fun hS => CB.out _ hS.2.2.2.2.2.2.2.2.2.2.2.2.2.2.2.2.2.2.2.2.2.2) rfl ?_; (· simp only [List.getElem?_cons_zero, List.getElem?_cons_succ]))
                             | (refine Run.callF 50 (by kernel_rfl) (fun hS => CR.out _ hS.2.2.2.2.2.2.2.2.2.2.2.2.2.2.2.2.2.2.2.2.2.2) rfl ?_)
                             | (refine Run.callG 50 (by kernel_rfl) ?_ (fun hS => CR.out _ hS.2.2.2.2.2.2.2.2.2.2.2.2.2.2.2.2.2.2.2.2.2.2) rfl ?_; (· simp only [List.getElem?_cons_zero, List.getElem?_cons_succ]))
                             | fail)
                             (first
                             | (rintro hS e w' ⟨rfl, rfl⟩; refine ⟨_, rfl, hS, ?_⟩)
                             | (rintro hS e w' ⟨rfl, hb⟩; refine ⟨_, rfl, ⟨kc hb hS.1, kc hb hS.2.1, kc hb hS.2.2.1, kc hb hS.2.2.2.1, kc hb hS.2.2.2.2.1, kc hb hS.2.2.2.2.2.1, kc hb hS.2.2.2.2.2.2.1, kc hb hS.2.2.2.2.2.2.2.1, kc hb hS.2.2.2.2.2.2.2.2.1, kc hb hS.2.2.2.2.2.2.2.2.2.1, kc hb hS.2.2.2.2.2.2.2.2.2.2.1, kc hb hS.2.2.2.2.2.2.2.2.2.2.2.1, kc hb hS.2.2.2.2.2.2.2.2.2.2.2.2.1, kc hb hS.2.2.2.2.2.2.2.2.2.2.2.2.2.1, kc hb hS.2.2.2.2.2.2.2.2.2.2.2.2.2.2.1, kc hb hS.2.2.2.2.2.2.2.2.2.2.2.2.2.2.2.1, kc hb hS.2.2.2.2.2.2.2.2.2.2.2.2.2.2.2.2.1, kc hb hS.2.2.2.2.2.2.2.2.2.2.2.2.2.2.2.2.2.1, kc hb hS.2.2.2.2.2.2.2.2.2.2.2.2.2.2.2.2.2.2.1, kc hb hS.2.2.2.2.2.2.2.2.2.2.2.2.2.2.2.2.2.2.2.1, kc hb hS.2.2.2.2.2.2.2.2.2.2.2.2.2.2.2.2.2.2.2.2.1, kc hb hS.2.2.2.2.2.2.2.2.2.2.2.2.2.2.2.2.2.2.2.2.2.1, nest hS.2.2.2.2.2.2.2.2.2.2.2.2.2.2.2.2.2.2.2.2.2.2 hb⟩, ?_⟩)
                             | fail))
                          | fail); simp only [Act.put, List.setIfInBounds_toArray, List.set_cons_zero, List.set_cons_succ])
                        refine Run.ends (fun hS => ?_)
                        have HX := Lib.hid hS.2.2.2.2.2.2.2.2.2.2.2.2.2.2.2.2.2.2.2.2.2.2
                        clear hS
                        go_wp2_with fail
                        go_ret
                        exact ⟨by rw [HR.out]; rfl, nest HK.out HX.out⟩
                    | true =>
                      rw [d9] at CE
                      rw [d9, Bool.true_and] at HR
                      cases dsf : (m.sf == n.sf) with
                      | false =>
                        rw [dsf, Bool.false_and, Bool.false_and] at HR
                        skip
                        as_aux_lemma =>
                          refine Run.region_seq (S := fun z => z.cell? ⟨g1, 0, none⟩ = some (.int .i64 m.kind) ∧ z.cell? ⟨g1, 1, none⟩ = some (.int .i64 m.hub) ∧ z.cell? ⟨g1, 2, none⟩ = some (.int .u32 m.point) ∧ z.cell? ⟨g1, 3, none⟩ = some (.int .i64 m.client) ∧ z.cell? ⟨g1, 4, none⟩ = some (.int .i64 m.op) ∧ z.cell? ⟨g1, 5, none⟩ = some (.int .u32 m.target) ∧ z.cell? ⟨g1, 6, none⟩ = some (.int .i64 m.hops) ∧ z.cell? ⟨g1, 7, none⟩ = some (.int .u32 m.owner) ∧ z.cell? ⟨g1, 8, none⟩ = some (.int .i64 m.turn) ∧ z.cell? ⟨g1, 16, none⟩ = some b1 ∧ z.cell? ⟨g1, 17, none⟩ = some r1 ∧ z.cell? ⟨g2, 0, none⟩ = some (.int .i64 n.kind) ∧ z.cell? ⟨g2, 1, none⟩ = some (.int .i64 n.hub) ∧ z.cell? ⟨g2, 2, none⟩ = some (.int .u32 n.point) ∧ z.cell? ⟨g2, 3, none⟩ = some (.int .i64 n.client) ∧ z.cell? ⟨g2, 4, none⟩ = some (.int .i64 n.op) ∧ z.cell? ⟨g2, 5, none⟩ = some (.int .u32 n.target) ∧ z.cell? ⟨g2, 6, none⟩ = some (.int .i64 n.hops) ∧ z.cell? ⟨g2, 7, none⟩ = some (.int .u32 n.owner) ∧ z.cell? ⟨g2, 8, none⟩ = some (.int .i64 n.turn) ∧ z.cell? ⟨g2, 16, none⟩ = some b2 ∧ z.cell? ⟨g2, 17, none⟩ = some r2 ∧ Below w1.heap.size w1 z)
                            [0, 0, 0, 0, 0, 0, 0, 0, 0, 0, 0, 0, 0, 0, 0, 0, 0, 0, 0, 0, 0, 0, 0, 0, 0, 0, 0, 0, 0, 0, 0, 0, 0, 0, 0, 0, 0, 0, 0, 0, 0, 0, 0, 0, 0, 0, 0, 0, 0, 0, 0, 0, 0, 0, 0, 0, 0, 0, 0, 0, 0, 0, 0, 0, 0, 0, 1, 0, 0, 0, 0, 0, 0, 0, 0, 0, 0, 0, 0, 0, 1, 0, 0, 0, 0, 0, 0, 1, 0, 0] (l := ?_) ?_ ⟨HB1.out.cell 0, HB1.out.cell 1, HB1.out.cell 2, HB1.out.cell 3, HB1.out.cell 4, HB1.out.cell 5, HB1.out.cell 6, HB1.out.cell 7, HB1.out.cell 8, HB1.out.cell 16, HB1.out.cell 17, HB2.out.cell 0, HB2.out.cell 1, HB2.out.cell 2, HB2.out.cell 3, HB2.out.cell 4, HB2.out.cell 5, HB2.out.cell 6, HB2.out.cell 7, HB2.out.cell 8, HB2.out.cell 16, HB2.out.cell 17, HI.out⟩ ?_
                          rotate_left
                          (· simp only [Run.seqOf, List.toList_toArray, Run.stepsOf, Run.stepOf, Run.guardOf, List.getElem?_toArray, List.getElem?_cons_zero, List.getElem?_cons_succ, Option.map_some, Option.map_none, Option.bind_some, Option.toList_some, List.map_cons, List.map_nil, List.cons_append, List.nil_append]
                             rfl)
                          repeat ((first
                            | (refine Run.takes (v := ?_) ?_ ?_; rotate_left; (· intro w' hS'; (first | (refine exec_load_sub (n := 5) (off := 9) (x := .tmp 67) (l := [.int .u32 m.ev, .int .u64 m.eid, .int .u64 m.ever, v1, .bool m.gone]) (m := mcs m v1 b1 r1) ?_ Try.underlying28 ent_info' ?_ ?_ (HB1.out.keep hS'.2.2.2.2.2.2.2.2.2.2.2.2.2.2.2.2.2.2.2.2.2.2) ?_ <;> rfl) | (refine exec_load_sub (n := 5) (off := 9) (x := .tmp 69) (l := [.int .u32 n.ev, .int .u64 n.eid, .int .u64 n.ever, v2, .bool n.gone]) (m := mcs n v2 b2 r2) ?_ Try.underlying28 ent_info' ?_ ?_ (HB2.out.keep hS'.2.2.2.2.2.2.2.2.2.2.2.2.2.2.2.2.2.2.2.2.2.2) ?_ <;> rfl) | (refine exec_load_sub (n := 2) (off := 14) (x := .tmp 74) (l := [.int .u32 m.sf, .int .u32 m.st]) (m := mcs m v1 b1 r1) ?_ Try.underlying30 span_info' ?_ ?_ (HB1.out.keep hS'.2.2.2.2.2.2.2.2.2.2.2.2.2.2.2.2.2.2.2.2.2.2) ?_ <;> rfl) | (refine exec_load_sub (n := 2) (off := 14) (x := .tmp 76) (l := [.int .u32 n.sf, .int .u32 n.st]) (m := mcs n v2 b2 r2) ?_ Try.underlying30 span_info' ?_ ?_ (HB2.out.keep hS'.2.2.2.2.2.2.2.2.2.2.2.2.2.2.2.2.2.2.2.2.2.2) ?_ <;> rfl) | (go_simp; (try with_reducible rfl)))))
                            | (refine Run.takesG (v := ?_) ?_ ?_ ?_; rotate_left; (· simp only [List.getElem?_cons_zero, List.getElem?_cons_succ]); (· intro w' hS'; (first | (refine exec_load_sub (n := 5) (off := 9) (x := .tmp 67) (l := [.int .u32 m.ev, .int .u64 m.eid, .int .u64 m.ever, v1, .bool m.gone]) (m := mcs m v1 b1 r1) ?_ Try.underlying28 ent_info' ?_ ?_ (HB1.out.keep hS'.2.2.2.2.2.2.2.2.2.2.2.2.2.2.2.2.2.2.2.2.2.2) ?_ <;> rfl) | (refine exec_load_sub (n := 5) (off := 9) (x := .tmp 69) (l := [.int .u32 n.ev, .int .u64 n.eid, .int .u64 n.ever, v2, .bool n.gone]) (m := mcs n v2 b2 r2) ?_ Try.underlying28 ent_info' ?_ ?_ (HB2.out.keep hS'.2.2.2.2.2.2.2.2.2.2.2.2.2.2.2.2.2.2.2.2.2.2) ?_ <;> rfl) | (refine exec_load_sub (n := 2) (off := 14) (x := .tmp 74) (l := [.int .u32 m.sf, .int .u32 m.st]) (m := mcs m v1 b1 r1) ?_ Try.underlying30 span_info' ?_ ?_ (HB1.out.keep hS'.2.2.2.2.2.2.2.2.2.2.2.2.2.2.2.2.2.2.2.2.2.2) ?_ <;> rfl) | (refine exec_load_sub (n := 2) (off := 14) (x := .tmp 76) (l := [.int .u32 n.sf, .int .u32 n.st]) (m := mcs n v2 b2 r2) ?_ Try.underlying30 span_info' ?_ ?_ (HB2.out.keep hS'.2.2.2.2.2.2.2.2.2.2.2.2.2.2.2.2.2.2.2.2.2.2) ?_ <;> rfl) | (go_simp; (try with_reducible rfl)))))
                            | (refine Run.skipsT ?_ ?_; (· simp only [List.getElem?_cons_zero, List.getElem?_cons_succ]))
                            | (refine Run.skipsF ?_ ?_; (· simp only [List.getElem?_cons_zero, List.getElem?_cons_succ]))
                            | (refine Run.skipsU ?_ ?_; (· simp only [List.getElem?_cons_zero, List.getElem?_cons_succ]))
                            | (refine Run.passT ?_ ?_; (· simp only [List.getElem?_cons_zero, List.getElem?_cons_succ]))
                            | (refine Run.passF ?_ ?_; (· simp only [List.getElem?_cons_zero, List.getElem?_cons_succ]))
                            | (refine Run.passU ?_ ?_; (· simp only [List.getElem?_cons_zero, List.getElem?_cons_succ]))
                            | (refine Run.runs ?_
                               (first
                               | (refine Run.callF 47 (by kernel_rfl) (fun hS => CE.out _ hS.2.2.2.2.2.2.2.2.2.2.2.2.2.2.2.2.2.2.2.2.2.2) rfl ?_)
                               | (refine Run.callG 47 (by kernel_rfl) ?_ (fun hS => CE.out _ hS.2.2.2.2.2.2.2.2.2.2.2.2.2.2.2.2.2.2.2.2.2.2) rfl ?_; (· simp only [List.getElem?_cons_zero, List.getElem?_cons_succ]))
                               | (refine Run.callF 49 (by kernel_rfl) (fun hS => CB.out _ hS.2.2.2.2.2.2.2.2.2.2.2.2.2.2.2.2.2.2.2.2.2.2) rfl ?_)
                               | (refine Run.callG 49 (by kernel_rfl) ?_ (fun hS => CB.out _ hS.2.2.2.2.2.2.2.2.2.2.2.2.2.2.2.2.2.2.2.2.2.2) rfl ?_; (· simp only [List.getElem?_cons_zero, List.getElem?_cons_succ]))
                               | (refine Run.callF 50 (by kernel_rfl) (fun hS => CR.out _ hS.2.2.2.2.2.2.2.2.2.2.2.2.2.2.2.2.2.2.2.2.2.2) rfl ?_)
                               | (refine Run.callG 50 (by kernel_rfl) ?_ (fun hS => CR.out _ hS.2.2.2.2.2.2.2.2.2.2.2.2.2.2.2.2.2.2.2.2.2.2) rfl ?_; (· simp only [List.getElem?_cons_zero, List.getElem?_cons_succ]))
                               | fail)
                               (first
                               | (rintro hS e w' ⟨rfl, rfl⟩; refine ⟨_, rfl, hS, ?_⟩)
                               | (rintro hS e w' ⟨rfl, hb⟩; refine ⟨_, rfl, ⟨kc hb hS.1, kc hb hS.2.1, kc hb hS.2.2.1, kc hb hS.2.2.2.1, kc hb hS.2.2.2.2.1, kc hb hS.2.2.2.2.2.1, kc hb hS.2.2.2.2.2.2.1, kc hb hS.2.2.2.2.2.2.2.1, kc hb hS.2.2.2.2.2.2.2.2.1, kc hb hS.2.2.2.2.2.2.2.2.2.1, kc hb hS.2.2.2.2.2.2.2.2.2.2.1, kc hb hS.2.2.2.2.2.2.2.2.2.2.2.1, kc hb hS.2.2.2.2.2.2.2.2.2.2.2.2.1, kc hb hS.2.2.2.2.2.2.2.2.2.2.2.2.2.1, kc hb hS.2.2.2.2.2.2.2.2.2.2.2.2.2.2.1, kc hb hS.2.2.2.2.2.2.2.2.2.2.2.2.2.2.2.1, kc hb hS.2.2.2.2.2.2.2.2.2.2.2.2.2.2.2.2.1, kc hb hS.2.2.2.2.2.2.2.2.2.2.2.2.2.2.2.2.2.1, kc hb hS.2.2.2.2.2.2.2.2.2.2.2.2.2.2.2.2.2.2.1, kc hb hS.2.2.2.2.2.2.2.2.2.2.2.2.2.2.2.2.2.2.2.1, kc hb hS.2.2.2.2.2.2.2.2.2.2.2.2.2.2.2.2.2.2.2.2.1, kc hb hS.2.2.2.2.2.2.2.2.2.2.2.2.2.2.2.2.2.2.2.2.2.1, nest hS.2.2.2.2.2.2.2.2.2.2.2.2.2.2.2.2.2.2.2.2.2.2 hb⟩, ?_⟩)
                               | fail))
                            | fail); simp only [Act.put, List.setIfInBounds_toArray, List.set_cons_zero, List.set_cons_succ])
                          refine Run.ends (fun hS => ?_)
                          have HX := Lib.hid hS.2.2.2.2.2.2.2.2.2.2.2.2.2.2.2.2.2.2.2.2.2.2
                          clear hS
                          go_wp2_with fail
                          go_ret
                          exact ⟨by rw [HR.out]; rfl, nest HK.out HX.out⟩
                      | true =>
                        cases dst : (m.st == n.st) with
                        | false =>
                          rw [dsf, dst, Bool.true_and, Bool.false_and] at HR
                          skip
                          as_aux_lemma =>
                            refine Run.region_seq (S := fun z => z.cell? ⟨g1, 0, none⟩ = some (.int .i64 m.kind) ∧ z.cell? ⟨g1, 1, none⟩ = some (.int .i64 m.hub) ∧ z.cell? ⟨g1, 2, none⟩ = some (.int .u32 m.point) ∧ z.cell? ⟨g1, 3, none⟩ = some (.int .i64 m.client) ∧ z.cell? ⟨g1, 4, none⟩ = some (.int .i64 m.op) ∧ z.cell? ⟨g1, 5, none⟩ = some (.int .u32 m.target) ∧ z.cell? ⟨g1, 6, none⟩ = some (.int .i64 m.hops) ∧ z.cell? ⟨g1, 7, none⟩ = some (.int .u32 m.owner) ∧ z.cell? ⟨g1, 8, none⟩ = some (.int .i64 m.turn) ∧ z.cell? ⟨g1, 16, none⟩ = some b1 ∧ z.cell? ⟨g1, 17, none⟩ = some r1 ∧ z.cell? ⟨g2, 0, none⟩ = some (.int .i64 n.kind) ∧ z.cell? ⟨g2, 1, none⟩ = some (.int .i64 n.hub) ∧ z.cell? ⟨g2, 2, none⟩ = some (.int .u32 n.point) ∧ z.cell? ⟨g2, 3, none⟩ = some (.int .i64 n.client) ∧ z.cell? ⟨g2, 4, none⟩ = some (.int .i64 n.op) ∧ z.cell? ⟨g2, 5, none⟩ = some (.int .u32 n.target) ∧ z.cell? ⟨g2, 6, none⟩ = some (.int .i64 n.hops) ∧ z.cell? ⟨g2, 7, none⟩ = some (.int .u32 n.owner) ∧ z.cell? ⟨g2, 8, none⟩ = some (.int .i64 n.turn) ∧ z.cell? ⟨g2, 16, none⟩ = some b2 ∧ z.cell? ⟨g2, 17, none⟩ = some r2 ∧ Below w1.heap.size w1 z)
                              [0, 0, 0, 0, 0, 0, 0, 0, 0, 0, 0, 0, 0, 0, 0, 0, 0, 0, 0, 0, 0, 0, 0, 0, 0, 0, 0, 0, 0, 0, 0, 0, 0, 0, 0, 0, 0, 0, 0, 0, 0, 0, 0, 0, 0, 0, 0, 0, 0, 0, 0, 0, 0, 0, 0, 0, 0, 0, 0, 0, 0, 0, 0, 0, 0, 0, 1, 0, 0, 0, 0, 0, 0, 0, 0, 0, 0, 0, 0, 0, 1, 0, 0, 0, 0, 0, 0, 1, 0, 0] (l := ?_) ?_ ⟨HB1.out.cell 0, HB1.out.cell 1, HB1.out.cell 2, HB1.out.cell 3, HB1.out.cell 4, HB1.out.cell 5, HB1.out.cell 6, HB1.out.cell 7, HB1.out.cell 8, HB1.out.cell 16, HB1.out.cell 17, HB2.out.cell 0, HB2.out.cell 1, HB2.out.cell 2, HB2.out.cell 3, HB2.out.cell 4, HB2.out.cell 5, HB2.out.cell 6, HB2.out.cell 7, HB2.out.cell 8, HB2.out.cell 16, HB2.out.cell 17, HI.out⟩ ?_
                            rotate_left
                            (· simp only [Run.seqOf, List.toList_toArray, Run.stepsOf, Run.stepOf, Run.guardOf, List.getElem?_toArray, List.getElem?_cons_zero, List.getElem?_cons_succ, Option.map_some, Option.map_none, Option.bind_some, Option.toList_some, List.map_cons, List.map_nil, List.cons_append, List.nil_append]
                               rfl)
                            repeat ((first
                              | (refine Run.takes (v := ?_) ?_ ?_; rotate_left; (· intro w' hS'; (first | (refine exec_load_sub (n := 5) (off := 9) (x := .tmp 67) (l := [.int .u32 m.ev, .int .u64 m.eid, .int .u64 m.ever, v1, .bool m.gone]) (m := mcs m v1 b1 r1) ?_ Try.underlying28 ent_info' ?_ ?_ (HB1.out.keep hS'.2.2.2.2.2.2.2.2.2.2.2.2.2.2.2.2.2.2.2.2.2.2) ?_ <;> rfl) | (refine exec_load_sub (n := 5) (off := 9) (x := .tmp 69) (l := [.int .u32 n.ev, .int .u64 n.eid, .int .u64 n.ever, v2, .bool n.gone]) (m := mcs n v2 b2 r2) ?_ Try.underlying28 ent_info' ?_ ?_ (HB2.out.keep hS'.2.2.2.2.2.2.2.2.2.2.2.2.2.2.2.2.2.2.2.2.2.2) ?_ <;> rfl) | (refine exec_load_sub (n := 2) (off := 14) (x := .tmp 74) (l := [.int .u32 m.sf, .int .u32 m.st]) (m := mcs m v1 b1 r1) ?_ Try.underlying30 span_info' ?_ ?_ (HB1.out.keep hS'.2.2.2.2.2.2.2.2.2.2.2.2.2.2.2.2.2.2.2.2.2.2) ?_ <;> rfl) | (refine exec_load_sub (n := 2) (off := 14) (x := .tmp 76) (l := [.int .u32 n.sf, .int .u32 n.st]) (m := mcs n v2 b2 r2) ?_ Try.underlying30 span_info' ?_ ?_ (HB2.out.keep hS'.2.2.2.2.2.2.2.2.2.2.2.2.2.2.2.2.2.2.2.2.2.2) ?_ <;> rfl) | (go_simp; (try with_reducible rfl)))))
                              | (refine Run.takesG (v := ?_) ?_ ?_ ?_; rotate_left; (· simp only [List.getElem?_cons_zero, List.getElem?_cons_succ]); (· intro w' hS'; (first | (refine exec_load_sub (n := 5) (off := 9) (x := .tmp 67) (l := [.int .u32 m.ev, .int .u64 m.eid, .int .u64 m.ever, v1, .bool m.gone]) (m := mcs m v1 b1 r1) ?_ Try.underlying28 ent_info' ?_ ?_ (HB1.out.keep hS'.2.2.2.2.2.2.2.2.2.2.2.2.2.2.2.2.2.2.2.2.2.2) ?_ <;> rfl) | (refine exec_load_sub (n := 5) (off := 9) (x := .tmp 69) (l := [.int .u32 n.ev, .int .u64 n.eid, .int .u64 n.ever, v2, .bool n.gone]) (m := mcs n v2 b2 r2) ?_ Try.underlying28 ent_info' ?_ ?_ (HB2.out.keep hS'.2.2.2.2.2.2.2.2.2.2.2.2.2.2.2.2.2.2.2.2.2.2) ?_ <;> rfl) | (refine exec_load_sub (n := 2) (off := 14) (x := .tmp 74) (l := [.int .u32 m.sf, .int .u32 m.st]) (m := mcs m v1 b1 r1) ?_ Try.underlying30 span_info' ?_ ?_ (HB1.out.keep hS'.2.2.2.2.2.2.2.2.2.2.2.2.2.2.2.2.2.2.2.2.2.2) ?_ <;> rfl) | (refine exec_load_sub (n := 2) (off := 14) (x := .tmp 76) (l := [.int .u32 n.sf, .int .u32 n.st]) (m := mcs n v2 b2 r2) ?_ Try.underlying30 span_info' ?_ ?_ (HB2.out.keep hS'.2.2.2.2.2.2.2.2.2.2.2.2.2.2.2.2.2.2.2.2.2.2) ?_ <;> rfl) | (go_simp; (try with_reducible rfl)))))
                              | (refine Run.skipsT ?_ ?_; (· simp only [List.getElem?_cons_zero, List.getElem?_cons_succ]))
                              | (refine Run.skipsF ?_ ?_; (· simp only [List.getElem?_cons_zero, List.getElem?_cons_succ]))
                              | (refine Run.skipsU ?_ ?_; (· simp only [List.getElem?_cons_zero, List.getElem?_cons_succ]))
                              | (refine Run.passT ?_ ?_; (· simp only [List.getElem?_cons_zero, List.getElem?_cons_succ]))
                              | (refine Run.passF ?_ ?_; (· simp only [List.getElem?_cons_zero, List.getElem?_cons_succ]))
                              | (refine Run.passU ?_ ?_; (· simp only [List.getElem?_cons_zero, List.getElem?_cons_succ]))
                              | (refine Run.runs ?_
                                 (first
                                 | (refine Run.callF 47 (by kernel_rfl) (fun hS => CE.out _ hS.2.2.2.2.2.2.2.2.2.2.2.2.2.2.2.2.2.2.2.2.2.2) rfl ?_)
                                 | (refine Run.callG 47 (by kernel_rfl) ?_ (fun hS => CE.out _ hS.2.2.2.2.2.2.2.2.2.2.2.2.2.2.2.2.2.2.2.2.2.2) rfl ?_; (· simp only [List.getElem?_cons_zero, List.getElem?_cons_succ]))
                                 | (refine Run.callF 49 (by kernel_rfl) (fun hS => CB.out _ hS.2.2.2.2.2.2.2.2.2.2.2.2.2.2.2.2.2.2.2.2.2.2) rfl ?_)
                                 | (refine Run.callG 49 (by kernel_rfl) ?_ (fun hS => CB.out _ hS.2.2.2.2.2.2.2.2.2.2.2.2.2.2.2.2.2.2.2.2.2.2) rfl ?_; (· simp only [List.getElem?_cons_zero, List.getElem?_cons_succ]))
                                 | (refine Run.callF 50 (by kernel_rfl) (fun hS => CR.out _ hS.2.2.2.2.2.2.2.2.2.2.2.2.2.2.2.2.2.2.2.2.2.2) rfl ?_)
                                 | (refine Run.callG 50 (by kernel_rfl) ?_ (fun hS => CR.out _ hS.2.2.2.2.2.2.2.2.2.2.2.2.2.2.2.2.2.2.2.2.2.2) rfl ?_; (· simp only [List.getElem?_cons_zero, List.getElem?_cons_succ]))
                                 | fail)
                                 (first
                                 | (rintro hS e w' ⟨rfl, rfl⟩; refine ⟨_, rfl, hS, ?_⟩)
                                 | (rintro hS e w' ⟨rfl, hb⟩; refine ⟨_, rfl, ⟨kc hb hS.1, kc hb hS.2.1, kc hb hS.2.2.1, kc hb hS.2.2.2.1, kc hb hS.2.2.2.2.1, kc hb hS.2.2.2.2.2.1, kc hb hS.2.2.2.2.2.2.1, kc hb hS.2.2.2.2.2.2.2.1, kc hb hS.2.2.2.2.2.2.2.2.1, kc hb hS.2.2.2.2.2.2.2.2.2.1, kc hb hS.2.2.2.2.2.2.2.2.2.2.1, kc hb hS.2.2.2.2.2.2.2.2.2.2.2.1, kc hb hS.2.2.2.2.2.2.2.2.2.2.2.2.1, kc hb hS.2.2.2.2.2.2.2.2.2.2.2.2.2.1, kc hb hS.2.2.2.2.2.2.2.2.2.2.2.2.2.2.1, kc hb hS.2.2.2.2.2.2.2.2.2.2.2.2.2.2.2.1, kc hb hS.2.2.2.2.2.2.2.2.2.2.2.2.2.2.2.2.1, kc hb hS.2.2.2.2.2.2.2.2.2.2.2.2.2.2.2.2.2.1, kc hb hS.2.2.2.2.2.2.2.2.2.2.2.2.2.2.2.2.2.2.1, kc hb hS.2.2.2.2.2.2.2.2.2.2.2.2.2.2.2.2.2.2.2.1, kc hb hS.2.2.2.2.2.2.2.2.2.2.2.2.2.2.2.2.2.2.2.2.1, kc hb hS.2.2.2.2.2.2.2.2.2.2.2.2.2.2.2.2.2.2.2.2.2.1, nest hS.2.2.2.2.2.2.2.2.2.2.2.2.2.2.2.2.2.2.2.2.2.2 hb⟩, ?_⟩)
                                 | fail))
                              | fail); simp only [Act.put, List.setIfInBounds_toArray, List.set_cons_zero, List.set_cons_succ])
                            refine Run.ends (fun hS => ?_)
                            have HX := Lib.hid hS.2.2.2.2.2.2.2.2.2.2.2.2.2.2.2.2.2.2.2.2.2.2
                            clear hS
                            go_wp2_with fail
                            go_ret
                            exact ⟨by rw [HR.out]; rfl, nest HK.out HX.out⟩
                        | true =>
                          rw [dsf, dst, Bool.true_and, Bool.true_and] at HR
                          cases d11 : decide (m.box = n.box) with
                          | false =>
                            rw [d11] at CB
                            rw [d11, Bool.false_and] at HR
                            skip
                            as_aux_lemma =>
                              refine Run.region_seq (S := fun z => z.cell? ⟨g1, 0, none⟩ = some (.int .i64 m.kind) ∧ z.cell? ⟨g1, 1, none⟩ = some (.int .i64 m.hub) ∧ z.cell? ⟨g1, 2, none⟩ = some (.int .u32 m.point) ∧ z.cell? ⟨g1, 3, none⟩ = some (.int .i64 m.client) ∧ z.cell? ⟨g1, 4, none⟩ = some (.int .i64 m.op) ∧ z.cell? ⟨g1, 5, none⟩ = some (.int .u32 m.target) ∧ z.cell? ⟨g1, 6, none⟩ = some (.int .i64 m.hops) ∧ z.cell? ⟨g1, 7, none⟩ = some (.int .u32 m.owner) ∧ z.cell? ⟨g1, 8, none⟩ = some (.int .i64 m.turn) ∧ z.cell? ⟨g1, 16, none⟩ = some b1 ∧ z.cell? ⟨g1, 17, none⟩ = some r1 ∧ z.cell? ⟨g2, 0, none⟩ = some (.int .i64 n.kind) ∧ z.cell? ⟨g2, 1, none⟩ = some (.int .i64 n.hub) ∧ z.cell? ⟨g2, 2, none⟩ = some (.int .u32 n.point) ∧ z.cell? ⟨g2, 3, none⟩ = some (.int .i64 n.client) ∧ z.cell? ⟨g2, 4, none⟩ = some (.int .i64 n.op) ∧ z.cell? ⟨g2, 5, none⟩ = some (.int .u32 n.target) ∧ z.cell? ⟨g2, 6, none⟩ = some (.int .i64 n.hops) ∧ z.cell? ⟨g2, 7, none⟩ = some (.int .u32 n.owner) ∧ z.cell? ⟨g2, 8, none⟩ = some (.int .i64 n.turn) ∧ z.cell? ⟨g2, 16, none⟩ = some b2 ∧ z.cell? ⟨g2, 17, none⟩ = some r2 ∧ Below w1.heap.size w1 z)
                                [0, 0, 0, 0, 0, 0, 0, 0, 0, 0, 0, 0, 0, 0, 0, 0, 0, 0, 0, 0, 0, 0, 0, 0, 0, 0, 0, 0, 0, 0, 0, 0, 0, 0, 0, 0, 0, 0, 0, 0, 0, 0, 0, 0, 0, 0, 0, 0, 0, 0, 0, 0, 0, 0, 0, 0, 0, 0, 0, 0, 0, 0, 0, 0, 0, 0, 1, 0, 0, 0, 0, 0, 0, 0, 0, 0, 0, 0, 0, 0, 1, 0, 0, 0, 0, 0, 0, 1, 0, 0] (l := ?_) ?_ ⟨HB1.out.cell 0, HB1.out.cell 1, HB1.out.cell 2, HB1.out.cell 3, HB1.out.cell 4, HB1.out.cell 5, HB1.out.cell 6, HB1.out.cell 7, HB1.out.cell 8, HB1.out.cell 16, HB1.out.cell 17, HB2.out.cell 0, HB2.out.cell 1, HB2.out.cell 2, HB2.out.cell 3, HB2.out.cell 4, HB2.out.cell 5, HB2.out.cell 6, HB2.out.cell 7, HB2.out.cell 8, HB2.out.cell 16, HB2.out.cell 17, HI.out⟩ ?_
                              rotate_left
                              (· simp only [Run.seqOf, List.toList_toArray, Run.stepsOf, Run.stepOf, Run.guardOf, List.getElem?_toArray, List.getElem?_cons_zero, List.getElem?_cons_succ, Option.map_some, Option.map_none, Option.bind_some, Option.toList_some, List.map_cons, List.map_nil, List.cons_append, List.nil_append]
                                 rfl)
                              repeat ((first
                                | (refine Run.takes (v := ?_) ?_ ?_; rotate_left; (· intro w' hS'; (first | (refine exec_load_sub (n := 5) (off := 9) (x := .tmp 67) (l := [.int .u32 m.ev, .int .u64 m.eid, .int .u64 m.ever, v1, .bool m.gone]) (m := mcs m v1 b1 r1) ?_ Try.underlying28 ent_info' ?_ ?_ (HB1.out.keep hS'.2.2.2.2.2.2.2.2.2.2.2.2.2.2.2.2.2.2.2.2.2.2) ?_ <;> rfl) | (refine exec_load_sub (n := 5) (off := 9) (x := .tmp 69) (l := [.int .u32 n.ev, .int .u64 n.eid, .int .u64 n.ever, v2, .bool n.gone]) (m := mcs n v2 b2 r2) ?_ Try.underlying28 ent_info' ?_ ?_ (HB2.out.keep hS'.2.2.2.2.2.2.2.2.2.2.2.2.2.2.2.2.2.2.2.2.2.2) ?_ <;> rfl) | (refine exec_load_sub (n := 2) (off := 14) (x := .tmp 74) (l := [.int .u32 m.sf, .int .u32 m.st]) (m := mcs m v1 b1 r1) ?_ Try.underlying30 span_info' ?_ ?_ (HB1.out.keep hS'.2.2.2.2.2.2.2.2.2.2.2.2.2.2.2.2.2.2.2.2.2.2) ?_ <;> rfl) | (refine exec_load_sub (n := 2) (off := 14) (x := .tmp 76) (l := [.int .u32 n.sf, .int .u32 n.st]) (m := mcs n v2 b2 r2) ?_ Try.underlying30 span_info' ?_ ?_ (HB2.out.keep hS'.2.2.2.2.2.2.2.2.2.2.2.2.2.2.2.2.2.2.2.2.2.2) ?_ <;> rfl) | (go_simp; (try with_reducible rfl)))))
                                | (refine Run.takesG (v := ?_) ?_ ?_ ?_; rotate_left; (· simp only [List.getElem?_cons_zero, List.getElem?_cons_succ]); (· intro w' hS'; (first | (refine exec_load_sub (n := 5) (off := 9) (x := .tmp 67) (l := [.int .u32 m.ev, .int .u64 m.eid, .int .u64 m.ever, v1, .bool m.gone]) (m := mcs m v1 b1 r1) ?_ Try.underlying28 ent_info' ?_ ?_ (HB1.out.keep hS'.2.2.2.2.2.2.2.2.2.2.2.2.2.2.2.2.2.2.2.2.2.2) ?_ <;> rfl) | (refine exec_load_sub (n := 5) (off := 9) (x := .tmp 69) (l := [.int .u32 n.ev, .int .u64 n.eid, .int .u64 n.ever, v2, .bool n.gone]) (m := mcs n v2 b2 r2) ?_ Try.underlying28 ent_info' ?_ ?_ (HB2.out.keep hS'.2.2.2.2.2.2.2.2.2.2.2.2.2.2.2.2.2.2.2.2.2.2) ?_ <;> rfl) | (refine exec_load_sub (n := 2) (off := 14) (x := .tmp 74) (l := [.int .u32 m.sf, .int .u32 m.st]) (m := mcs m v1 b1 r1) ?_ Try.underlying30 span_info' ?_ ?_ (HB1.out.keep hS'.2.2.2.2.2.2.2.2.2.2.2.2.2.2.2.2.2.2.2.2.2.2) ?_ <;> rfl) | (refine exec_load_sub (n := 2) (off := 14) (x := .tmp 76) (l := [.int .u32 n.sf, .int .u32 n.st]) (m := mcs n v2 b2 r2) ?_ Try.underlying30 span_info' ?_ ?_ (HB2.out.keep hS'.2.2.2.2.2.2.2.2.2.2.2.2.2.2.2.2.2.2.2.2.2.2) ?_ <;> rfl) | (go_simp; (try with_reducible rfl)))))
                                | (refine Run.skipsT ?_ ?_; (· simp only [List.getElem?_cons_zero, List.getElem?_cons_succ]))
                                | (refine Run.skipsF ?_ ?_; (· simp only [List.getElem?_cons_zero, List.getElem?_cons_succ]))
                                | (refine Run.skipsU ?_ ?_; (· simp only [List.getElem?_cons_zero, List.getElem?_cons_succ]))
                                | (refine Run.passT ?_ ?_; (· simp only [List.getElem?_cons_zero, List.getElem?_cons_succ]))
                                | (refine Run.passF ?_ ?_; (· simp only [List.getElem?_cons_zero, List.getElem?_cons_succ]))
                                | (refine Run.passU ?_ ?_; (· simp only [List.getElem?_cons_zero, List.getElem?_cons_succ]))
                                | (refine Run.runs ?_
                                   (first
                                   | (refine Run.callF 47 (by kernel_rfl) (fun hS => CE.out _ hS.2.2.2.2.2.2.2.2.2.2.2.2.2.2.2.2.2.2.2.2.2.2) rfl ?_)
                                   | (refine Run.callG 47 (by kernel_rfl) ?_ (fun hS => CE.out _ hS.2.2.2.2.2.2.2.2.2.2.2.2.2.2.2.2.2.2.2.2.2.2) rfl ?_; (· simp only [List.getElem?_cons_zero, List.getElem?_cons_succ]))
                                   | (refine Run.callF 49 (by kernel_rfl) (fun hS => CB.out _ hS.2.2.2.2.2.2.2.2.2.2.2.2.2.2.2.2.2.2.2.2.2.2) rfl ?_)
                                   | (refine Run.callG 49 (by kernel_rfl) ?_ (fun hS => CB.out _ hS.2.2.2.2.2.2.2.2.2.2.2.2.2.2.2.2.2.2.2.2.2.2) rfl ?_; (· simp only [List.getElem?_cons_zero, List.getElem?_cons_succ]))
                                   | (refine Run.callF 50 (by kernel_rfl) (fun hS => CR.out _ hS.2.2.2.2.2.2.2.2.2.2.2.2.2.2.2.2.2.2.2.2.2.2) rfl ?_)
                                   | (refine Run.callG 50 (by kernel_rfl) ?_ (fun hS => CR.out _ hS.2.2.2.2.2.2.2.2.2.2.2.2.2.2.2.2.2.2.2.2.2.2) rfl ?_; (· simp only [List.getElem?_cons_zero, List.getElem?_cons_succ]))
                                   | fail)
                                   (first
                                   | (rintro hS e w' ⟨rfl, rfl⟩; refine ⟨_, rfl, hS, ?_⟩)
                                   | (rintro hS e w' ⟨rfl, hb⟩; refine ⟨_, rfl, ⟨kc hb hS.1, kc hb hS.2.1, kc hb hS.2.2.1, kc hb hS.2.2.2.1, kc hb hS.2.2.2.2.1, kc hb hS.2.2.2.2.2.1, kc hb hS.2.2.2.2.2.2.1, kc hb hS.2.2.2.2.2.2.2.1, kc hb hS.2.2.2.2.2.2.2.2.1, kc hb hS.2.2.2.2.2.2.2.2.2.1, kc hb hS.2.2.2.2.2.2.2.2.2.2.1, kc hb hS.2.2.2.2.2.2.2.2.2.2.2.1, kc hb hS.2.2.2.2.2.2.2.2.2.2.2.2.1, kc hb hS.2.2.2.2.2.2.2.2.2.2.2.2.2.1, kc hb hS.2.2.2.2.2.2.2.2.2.2.2.2.2.2.1, kc hb hS.2.2.2.2.2.2.2.2.2.2.2.2.2.2.2.1, kc hb hS.2.2.2.2.2.2.2.2.2.2.2.2.2.2.2.2.1, kc hb hS.2.2.2.2.2.2.2.2.2.2.2.2.2.2.2.2.2.1, kc hb hS.2.2.2.2.2.2.2.2.2.2.2.2.2.2.2.2.2.2.1, kc hb hS.2.2.2.2.2.2.2.2.2.2.2.2.2.2.2.2.2.2.2.1, kc hb hS.2.2.2.2.2.2.2.2.2.2.2.2.2.2.2.2.2.2.2.2.1, kc hb hS.2.2.2.2.2.2.2.2.2.2.2.2.2.2.2.2.2.2.2.2.2.1, nest hS.2.2.2.2.2.2.2.2.2.2.2.2.2.2.2.2.2.2.2.2.2.2 hb⟩, ?_⟩)
                                   | fail))
                                | fail); simp only [Act.put, List.setIfInBounds_toArray, List.set_cons_zero, List.set_cons_succ])
                              refine Run.ends (fun hS => ?_)
                              have HX := Lib.hid hS.2.2.2.2.2.2.2.2.2.2.2.2.2.2.2.2.2.2.2.2.2.2
                              clear hS
                              go_wp2_with fail
                              go_ret
                              exact ⟨by rw [HR.out]; rfl, nest HK.out HX.out⟩
                          | true =>
                            rw [d11] at CB
                            rw [d11, Bool.true_and] at HR
                            cases d12 : decide (m.recs = n.recs) with
                            | false =>
                              rw [d12] at CR
                              rw [d12] at HR
                              skip
                              as_aux_lemma =>
                                refine Run.region_seq (S := fun z => z.cell? ⟨g1, 0, none⟩ = some (.int .i64 m.kind) ∧ z.cell? ⟨g1, 1, none⟩ = some (.int .i64 m.hub) ∧ z.cell? ⟨g1, 2, none⟩ = some (.int .u32 m.point) ∧ z.cell? ⟨g1, 3, none⟩ = some (.int .i64 m.client) ∧ z.cell? ⟨g1, 4, none⟩ = some (.int .i64 m.op) ∧ z.cell? ⟨g1, 5, none⟩ = some (.int .u32 m.target) ∧ z.cell? ⟨g1, 6, none⟩ = some (.int .i64 m.hops) ∧ z.cell? ⟨g1, 7, none⟩ = some (.int .u32 m.owner) ∧ z.cell? ⟨g1, 8, none⟩ = some (.int .i64 m.turn) ∧ z.cell? ⟨g1, 16, none⟩ = some b1 ∧ z.cell? ⟨g1, 17, none⟩ = some r1 ∧ z.cell? ⟨g2, 0, none⟩ = some (.int .i64 n.kind) ∧ z.cell? ⟨g2, 1, none⟩ = some (.int .i64 n.hub) ∧ z.cell? ⟨g2, 2, none⟩ = some (.int .u32 n.point) ∧ z.cell? ⟨g2, 3, none⟩ = some (.int .i64 n.client) ∧ z.cell? ⟨g2, 4, none⟩ = some (.int .i64 n.op) ∧ z.cell? ⟨g2, 5, none⟩ = some (.int .u32 n.target) ∧ z.cell? ⟨g2, 6, none⟩ = some (.int .i64 n.hops) ∧ z.cell? ⟨g2, 7, none⟩ = some (.int .u32 n.owner) ∧ z.cell? ⟨g2, 8, none⟩ = some (.int .i64 n.turn) ∧ z.cell? ⟨g2, 16, none⟩ = some b2 ∧ z.cell? ⟨g2, 17, none⟩ = some r2 ∧ Below w1.heap.size w1 z)
                                  [0, 0, 0, 0, 0, 0, 0, 0, 0, 0, 0, 0, 0, 0, 0, 0, 0, 0, 0, 0, 0, 0, 0, 0, 0, 0, 0, 0, 0, 0, 0, 0, 0, 0, 0, 0, 0, 0, 0, 0, 0, 0, 0, 0, 0, 0, 0, 0, 0, 0, 0, 0, 0, 0, 0, 0, 0, 0, 0, 0, 0, 0, 0, 0, 0, 0, 1, 0, 0, 0, 0, 0, 0, 0, 0, 0, 0, 0, 0, 0, 1, 0, 0, 0, 0, 0, 0, 1, 0, 0] (l := ?_) ?_ ⟨HB1.out.cell 0, HB1.out.cell 1, HB1.out.cell 2, HB1.out.cell 3, HB1.out.cell 4, HB1.out.cell 5, HB1.out.cell 6, HB1.out.cell 7, HB1.out.cell 8, HB1.out.cell 16, HB1.out.cell 17, HB2.out.cell 0, HB2.out.cell 1, HB2.out.cell 2, HB2.out.cell 3, HB2.out.cell 4, HB2.out.cell 5, HB2.out.cell 6, HB2.out.cell 7, HB2.out.cell 8, HB2.out.cell 16, HB2.out.cell 17, HI.out⟩ ?_
                                rotate_left
                                (· simp only [Run.seqOf, List.toList_toArray, Run.stepsOf, Run.stepOf, Run.guardOf, List.getElem?_toArray, List.getElem?_cons_zero, List.getElem?_cons_succ, Option.map_some, Option.map_none, Option.bind_some, Option.toList_some, List.map_cons, List.map_nil, List.cons_append, List.nil_append]
                                   rfl)
                                repeat ((first
                                  | (refine Run.takes (v := ?_) ?_ ?_; rotate_left; (· intro w' hS'; (first | (refine exec_load_sub (n := 5) (off := 9) (x := .tmp 67) (l := [.int .u32 m.ev, .int .u64 m.eid, .int .u64 m.ever, v1, .bool m.gone]) (m := mcs m v1 b1 r1) ?_ Try.underlying28 ent_info' ?_ ?_ (HB1.out.keep hS'.2.2.2.2.2.2.2.2.2.2.2.2.2.2.2.2.2.2.2.2.2.2) ?_ <;> rfl) | (refine exec_load_sub (n := 5) (off := 9) (x := .tmp 69) (l := [.int .u32 n.ev, .int .u64 n.eid, .int .u64 n.ever, v2, .bool n.gone]) (m := mcs n v2 b2 r2) ?_ Try.underlying28 ent_info' ?_ ?_ (HB2.out.keep hS'.2.2.2.2.2.2.2.2.2.2.2.2.2.2.2.2.2.2.2.2.2.2) ?_ <;> rfl) | (refine exec_load_sub (n := 2) (off := 14) (x := .tmp 74) (l := [.int .u32 m.sf, .int .u32 m.st]) (m := mcs m v1 b1 r1) ?_ Try.underlying30 span_info' ?_ ?_ (HB1.out.keep hS'.2.2.2.2.2.2.2.2.2.2.2.2.2.2.2.2.2.2.2.2.2.2) ?_ <;> rfl) | (refine exec_load_sub (n := 2) (off := 14) (x := .tmp 76) (l := [.int .u32 n.sf, .int .u32 n.st]) (m := mcs n v2 b2 r2) ?_ Try.underlying30 span_info' ?_ ?_ (HB2.out.keep hS'.2.2.2.2.2.2.2.2.2.2.2.2.2.2.2.2.2.2.2.2.2.2) ?_ <;> rfl) | (go_simp; (try with_reducible rfl)))))
                                  | (refine Run.takesG (v := ?_) ?_ ?_ ?_; rotate_left; (· simp only [List.getElem?_cons_zero, List.getElem?_cons_succ]); (· intro w' hS'; (first | (refine exec_load_sub (n := 5) (off := 9) (x := .tmp 67) (l := [.int .u32 m.ev, .int .u64 m.eid, .int .u64 m.ever, v1, .bool m.gone]) (m := mcs m v1 b1 r1) ?_ Try.underlying28 ent_info' ?_ ?_ (HB1.out.keep hS'.2.2.2.2.2.2.2.2.2.2.2.2.2.2.2.2.2.2.2.2.2.2) ?_ <;> rfl) | (refine exec_load_sub (n := 5) (off := 9) (x := .tmp 69) (l := [.int .u32 n.ev, .int .u64 n.eid, .int .u64 n.ever, v2, .bool n.gone]) (m := mcs n v2 b2 r2) ?_ Try.underlying28 ent_info' ?_ ?_ (HB2.out.keep hS'.2.2.2.2.2.2.2.2.2.2.2.2.2.2.2.2.2.2.2.2.2.2) ?_ <;> rfl) | (refine exec_load_sub (n := 2) (off := 14) (x := .tmp 74) (l := [.int .u32 m.sf, .int .u32 m.st]) (m := mcs m v1 b1 r1) ?_ Try.underlying30 span_info' ?_ ?_ (HB1.out.keep hS'.2.2.2.2.2.2.2.2.2.2.2.2.2.2.2.2.2.2.2.2.2.2) ?_ <;> rfl) | (refine exec_load_sub (n := 2) (off := 14) (x := .tmp 76) (l := [.int .u32 n.sf, .int .u32 n.st]) (m := mcs n v2 b2 r2) ?_ Try.underlying30 span_info' ?_ ?_ (HB2.out.keep hS'.2.2.2.2.2.2.2.2.2.2.2.2.2.2.2.2.2.2.2.2.2.2) ?_ <;> rfl) | (go_simp; (try with_reducible rfl)))))
                                  | (refine Run.skipsT ?_ ?_; (· simp only [List.getElem?_cons_zero, List.getElem?_cons_succ]))
                                  | (refine Run.skipsF ?_ ?_; (· simp only [List.getElem?_cons_zero, List.getElem?_cons_succ]))
                                  | (refine Run.skipsU ?_ ?_; (· simp only [List.getElem?_cons_zero, List.getElem?_cons_succ]))
                                  | (refine Run.passT ?_ ?_; (· simp only [List.getElem?_cons_zero, List.getElem?_cons_succ]))
                                  | (refine Run.passF ?_ ?_; (· simp only [List.getElem?_cons_zero, List.getElem?_cons_succ]))
                                  | (refine Run.passU ?_ ?_; (· simp only [List.getElem?_cons_zero, List.getElem?_cons_succ]))
                                  | (refine Run.runs ?_
                                     (first
                                     | (refine Run.callF 47 (by kernel_rfl) (fun hS => CE.out _ hS.2.2.2.2.2.2.2.2.2.2.2.2.2.2.2.2.2.2.2.2.2.2) rfl ?_)
                                     | (refine Run.callG 47 (by kernel_rfl) ?_ (fun hS => CE.out _ hS.2.2.2.2.2.2.2.2.2.2.2.2.2.2.2.2.2.2.2.2.2.2) rfl ?_; (· simp only [List.getElem?_cons_zero, List.getElem?_cons_succ]))
                                     | (refine Run.callF 49 (by kernel_rfl) (fun hS => CB.out _ hS.2.2.2.2.2.2.2.2.2.2.2.2.2.2.2.2.2.2.2.2.2.2) rfl ?_)
                                     | (refine Run.callG 49 (by kernel_rfl) ?_ (fun hS => CB.out _ hS.2.2.2.2.2.2.2.2.2.2.2.2.2.2.2.2.2.2.2.2.2.2) rfl ?_; (· simp only [List.getElem?_cons_zero, List.getElem?_cons_succ]))
                                     | (refine Run.callF 50 (by kernel_rfl) (fun hS => CR.out _ hS.2.2.2.2.2.2.2.2.2.2.2.2.2.2.2.2.2.2.2.2.2.2) rfl ?_)
                                     | (refine Run.callG 50 (by kernel_rfl) ?_ (fun hS => CR.out _ hS.2.2.2.2.2.2.2.2.2.2.2.2.2.2.2.2.2.2.2.2.2.2) rfl ?_; (· simp only [List.getElem?_cons_zero, List.getElem?_cons_succ]))
                                     | fail)
                                     (first
                                     | (rintro hS e w' ⟨rfl, rfl⟩; refine ⟨_, rfl, hS, ?_⟩)
                                     | (rintro hS e w' ⟨rfl, hb⟩; refine ⟨_, rfl, ⟨kc hb hS.1, kc hb hS.2.1, kc hb hS.2.2.1, kc hb hS.2.2.2.1, kc hb hS.2.2.2.2.1, kc hb hS.2.2.2.2.2.1, kc hb hS.2.2.2.2.2.2.1, kc hb hS.2.2.2.2.2.2.2.1, kc hb hS.2.2.2.2.2.2.2.2.1, kc hb hS.2.2.2.2.2.2.2.2.2.1, kc hb hS.2.2.2.2.2.2.2.2.2.2.1, kc hb hS.2.2.2.2.2.2.2.2.2.2.2.1, kc hb hS.2.2.2.2.2.2.2.2.2.2.2.2.1, kc hb hS.2.2.2.2.2.2.2.2.2.2.2.2.2.1, kc hb hS.2.2.2.2.2.2.2.2.2.2.2.2.2.2.1, kc hb hS.2.2.2.2.2.2.2.2.2.2.2.2.2.2.2.1, kc hb hS.2.2.2.2.2.2.2.2.2.2.2.2.2.2.2.2.1, kc hb hS.2.2.2.2.2.2.2.2.2.2.2.2.2.2.2.2.2.1, kc hb hS.2.2.2.2.2.2.2.2.2.2.2.2.2.2.2.2.2.2.1, kc hb hS.2.2.2.2.2.2.2.2.2.2.2.2.2.2.2.2.2.2.2.1, kc hb hS.2.2.2.2.2.2.2.2.2.2.2.2.2.2.2.2.2.2.2.2.1, kc hb hS.2.2.2.2.2.2.2.2.2.2.2.2.2.2.2.2.2.2.2.2.2.1, nest hS.2.2.2.2.2.2.2.2.2.2.2.2.2.2.2.2.2.2.2.2.2.2 hb⟩, ?_⟩)
                                     | fail))
                                  | fail); simp only [Act.put, List.setIfInBounds_toArray, List.set_cons_zero, List.set_cons_succ])
                                refine Run.ends (fun hS => ?_)
                                have HX := Lib.hid hS.2.2.2.2.2.2.2.2.2.2.2.2.2.2.2.2.2.2.2.2.2.2
                                clear hS
                                go_wp2_with fail
                                go_ret
                                exact ⟨by rw [HR.out]; rfl, nest HK.out HX.out⟩
                            | true =>
                              rw [d12] at CR
                              rw [d12] at HR
                              skip
                              as_aux_lemma =>
                                refine Run.region_seq (S := fun z => z.cell? ⟨g1, 0, none⟩ = some (.int .i64 m.kind) ∧ z.cell? ⟨g1, 1, none⟩ = some (.int .i64 m.hub) ∧ z.cell? ⟨g1, 2, none⟩ = some (.int .u32 m.point) ∧ z.cell? ⟨g1, 3, none⟩ = some (.int .i64 m.client) ∧ z.cell? ⟨g1, 4, none⟩ = some (.int .i64 m.op) ∧ z.cell? ⟨g1, 5, none⟩ = some (.int .u32 m.target) ∧ z.cell? ⟨g1, 6, none⟩ = some (.int .i64 m.hops) ∧ z.cell? ⟨g1, 7, none⟩ = some (.int .u32 m.owner) ∧ z.cell? ⟨g1, 8, none⟩ = some (.int .i64 m.turn) ∧ z.cell? ⟨g1, 16, none⟩ = some b1 ∧ z.cell? ⟨g1, 17, none⟩ = some r1 ∧ z.cell? ⟨g2, 0, none⟩ = some (.int .i64 n.kind) ∧ z.cell? ⟨g2, 1, none⟩ = some (.int .i64 n.hub) ∧ z.cell? ⟨g2, 2, none⟩ = some (.int .u32 n.point) ∧ z.cell? ⟨g2, 3, none⟩ = some (.int .i64 n.client) ∧ z.cell? ⟨g2, 4, none⟩ = some (.int .i64 n.op) ∧ z.cell? ⟨g2, 5, none⟩ = some (.int .u32 n.target) ∧ z.cell? ⟨g2, 6, none⟩ = some (.int .i64 n.hops) ∧ z.cell? ⟨g2, 7, none⟩ = some (.int .u32 n.owner) ∧ z.cell? ⟨g2, 8, none⟩ = some (.int .i64 n.turn) ∧ z.cell? ⟨g2, 16, none⟩ = some b2 ∧ z.cell? ⟨g2, 17, none⟩ = some r2 ∧ Below w1.heap.size w1 z)
                                  [0, 0, 0, 0, 0, 0, 0, 0, 0, 0, 0, 0, 0, 0, 0, 0, 0, 0, 0, 0, 0, 0, 0, 0, 0, 0, 0, 0, 0, 0, 0, 0, 0, 0, 0, 0, 0, 0, 0, 0, 0, 0, 0, 0, 0, 0, 0, 0, 0, 0, 0, 0, 0, 0, 0, 0, 0, 0, 0, 0, 0, 0, 0, 0, 0, 0, 1, 0, 0, 0, 0, 0, 0, 0, 0, 0, 0, 0, 0, 0, 1, 0, 0, 0, 0, 0, 0, 1, 0, 0] (l := ?_) ?_ ⟨HB1.out.cell 0, HB1.out.cell 1, HB1.out.cell 2, HB1.out.cell 3, HB1.out.cell 4, HB1.out.cell 5, HB1.out.cell 6, HB1.out.cell 7, HB1.out.cell 8, HB1.out.cell 16, HB1.out.cell 17, HB2.out.cell 0, HB2.out.cell 1, HB2.out.cell 2, HB2.out.cell 3, HB2.out.cell 4, HB2.out.cell 5, HB2.out.cell 6, HB2.out.cell 7, HB2.out.cell 8, HB2.out.cell 16, HB2.out.cell 17, HI.out⟩ ?_
                                rotate_left
                                (· simp only [Run.seqOf, List.toList_toArray, Run.stepsOf, Run.stepOf, Run.guardOf, List.getElem?_toArray, List.getElem?_cons_zero, List.getElem?_cons_succ, Option.map_some, Option.map_none, Option.bind_some, Option.toList_some, List.map_cons, List.map_nil, List.cons_append, List.nil_append]
                                   rfl)
                                repeat ((first
                                  | (refine Run.takes (v := ?_) ?_ ?_; rotate_left; (· intro w' hS'; (first | (refine exec_load_sub (n := 5) (off := 9) (x := .tmp 67) (l := [.int .u32 m.ev, .int .u64 m.eid, .int .u64 m.ever, v1, .bool m.gone]) (m := mcs m v1 b1 r1) ?_ Try.underlying28 ent_info' ?_ ?_ (HB1.out.keep hS'.2.2.2.2.2.2.2.2.2.2.2.2.2.2.2.2.2.2.2.2.2.2) ?_ <;> rfl) | (refine exec_load_sub (n := 5) (off := 9) (x := .tmp 69) (l := [.int .u32 n.ev, .int .u64 n.eid, .int .u64 n.ever, v2, .bool n.gone]) (m := mcs n v2 b2 r2) ?_ Try.underlying28 ent_info' ?_ ?_ (HB2.out.keep hS'.2.2.2.2.2.2.2.2.2.2.2.2.2.2.2.2.2.2.2.2.2.2) ?_ <;> rfl) | (refine exec_load_sub (n := 2) (off := 14) (x := .tmp 74) (l := [.int .u32 m.sf, .int .u32 m.st]) (m := mcs m v1 b1 r1) ?_ Try.underlying30 span_info' ?_ ?_ (HB1.out.keep hS'.2.2.2.2.2.2.2.2.2.2.2.2.2.2.2.2.2.2.2.2.2.2) ?_ <;> rfl) | (refine exec_load_sub (n := 2) (off := 14) (x := .tmp 76) (l := [.int .u32 n.sf, .int .u32 n.st]) (m := mcs n v2 b2 r2) ?_ Try.underlying30 span_info' ?_ ?_ (HB2.out.keep hS'.2.2.2.2.2.2.2.2.2.2.2.2.2.2.2.2.2.2.2.2.2.2) ?_ <;> rfl) | (go_simp; (try with_reducible rfl)))))
                                  | (refine Run.takesG (v := ?_) ?_ ?_ ?_; rotate_left; (· simp only [List.getElem?_cons_zero, List.getElem?_cons_succ]); (· intro w' hS'; (first | (refine exec_load_sub (n := 5) (off := 9) (x := .tmp 67) (l := [.int .u32 m.ev, .int .u64 m.eid, .int .u64 m.ever, v1, .bool m.gone]) (m := mcs m v1 b1 r1) ?_ Try.underlying28 ent_info' ?_ ?_ (HB1.out.keep hS'.2.2.2.2.2.2.2.2.2.2.2.2.2.2.2.2.2.2.2.2.2.2) ?_ <;> rfl) | (refine exec_load_sub (n := 5) (off := 9) (x := .tmp 69) (l := [.int .u32 n.ev, .int .u64 n.eid, .int .u64 n.ever, v2, .bool n.gone]) (m := mcs n v2 b2 r2) ?_ Try.underlying28 ent_info' ?_ ?_ (HB2.out.keep hS'.2.2.2.2.2.2.2.2.2.2.2.2.2.2.2.2.2.2.2.2.2.2) ?_ <;> rfl) | (refine exec_load_sub (n := 2) (off := 14) (x := .tmp 74) (l := [.int .u32 m.sf, .int .u32 m.st]) (m := mcs m v1 b1 r1) ?_ Try.underlying30 span_info' ?_ ?_ (HB1.out.keep hS'.2.2.2.2.2.2.2.2.2.2.2.2.2.2.2.2.2.2.2.2.2.2) ?_ <;> rfl) | (refine exec_load_sub (n := 2) (off := 14) (x := .tmp 76) (l := [.int .u32 n.sf, .int .u32 n.st]) (m := mcs n v2 b2 r2) ?_ Try.underlying30 span_info' ?_ ?_ (HB2.out.keep hS'.2.2.2.2.2.2.2.2.2.2.2.2.2.2.2.2.2.2.2.2.2.2) ?_ <;> rfl) | (go_simp; (try with_reducible rfl)))))
                                  | (refine Run.skipsT ?_ ?_; (· simp only [List.getElem?_cons_zero, List.getElem?_cons_succ]))
                                  | (refine Run.skipsF ?_ ?_; (· simp only [List.getElem?_cons_zero, List.getElem?_cons_succ]))
                                  | (refine Run.skipsU ?_ ?_; (· simp only [List.getElem?_cons_zero, List.getElem?_cons_succ]))
                                  | (refine Run.passT ?_ ?_; (· simp only [List.getElem?_cons_zero, List.getElem?_cons_succ]))
                                  | (refine Run.passF ?_ ?_; (· simp only [List.getElem?_cons_zero, List.getElem?_cons_succ]))
                                  | (refine Run.passU ?_ ?_; (· simp only [List.getElem?_cons_zero, List.getElem?_cons_succ]))
                                  | (refine Run.runs ?_
                                     (first
                                     | (refine Run.callF 47 (by kernel_rfl) (fun hS => CE.out _ hS.2.2.2.2.2.2.2.2.2.2.2.2.2.2.2.2.2.2.2.2.2.2) rfl ?_)
                                     | (refine Run.callG 47 (by kernel_rfl) ?_ (fun hS => CE.out _ hS.2.2.2.2.2.2.2.2.2.2.2.2.2.2.2.2.2.2.2.2.2.2) rfl ?_; (· simp only [List.getElem?_cons_zero, List.getElem?_cons_succ]))
                                     | (refine Run.callF 49 (by kernel_rfl) (fun hS => CB.out _ hS.2.2.2.2.2.2.2.2.2.2.2.2.2.2.2.2.2.2.2.2.2.2) rfl ?_)
                                     | (refine Run.callG 49 (by kernel_rfl) ?_ (fun hS => CB.out _ hS.2.2.2.2.2.2.2.2.2.2.2.2.2.2.2.2.2.2.2.2.2.2) rfl ?_; (· simp only [List.getElem?_cons_zero, List.getElem?_cons_succ]))
                                     | (refine Run.callF 50 (by kernel_rfl) (fun hS => CR.out _ hS.2.2.2.2.2.2.2.2.2.2.2.2.2.2.2.2.2.2.2.2.2.2) rfl ?_)
                                     | (refine Run.callG 50 (by kernel_rfl) ?_ (fun hS => CR.out _ hS.2.2.2.2.2.2.2.2.2.2.2.2.2.2.2.2.2.2.2.2.2.2) rfl ?_; (· simp only [List.getElem?_cons_zero, List.getElem?_cons_succ]))
                                     | fail)
                                     (first
                                     | (rintro hS e w' ⟨rfl, rfl⟩; refine ⟨_, rfl, hS, ?_⟩)
                                     | (rintro hS e w' ⟨rfl, hb⟩; refine ⟨_, rfl, ⟨kc hb hS.1, kc hb hS.2.1, kc hb hS.2.2.1, kc hb hS.2.2.2.1, kc hb hS.2.2.2.2.1, kc hb hS.2.2.2.2.2.1, kc hb hS.2.2.2.2.2.2.1, kc hb hS.2.2.2.2.2.2.2.1, kc hb hS.2.2.2.2.2.2.2.2.1, kc hb hS.2.2.2.2.2.2.2.2.2.1, kc hb hS.2.2.2.2.2.2.2.2.2.2.1, kc hb hS.2.2.2.2.2.2.2.2.2.2.2.1, kc hb hS.2.2.2.2.2.2.2.2.2.2.2.2.1, kc hb hS.2.2.2.2.2.2.2.2.2.2.2.2.2.1, kc hb hS.2.2.2.2.2.2.2.2.2.2.2.2.2.2.1, kc hb hS.2.2.2.2.2.2.2.2.2.2.2.2.2.2.2.1, kc hb hS.2.2.2.2.2.2.2.2.2.2.2.2.2.2.2.2.1, kc hb hS.2.2.2.2.2.2.2.2.2.2.2.2.2.2.2.2.2.1, kc hb hS.2.2.2.2.2.2.2.2.2.2.2.2.2.2.2.2.2.2.1, kc hb hS.2.2.2.2.2.2.2.2.2.2.2.2.2.2.2.2.2.2.2.1, kc hb hS.2.2.2.2.2.2.2.2.2.2.2.2.2.2.2.2.2.2.2.2.1, kc hb hS.2.2.2.2.2.2.2.2.2.2.2.2.2.2.2.2.2.2.2.2.2.1, nest hS.2.2.2.2.2.2.2.2.2.2.2.2.2.2.2.2.2.2.2.2.2.2 hb⟩, ?_⟩)
                                     | fail))
                                  | fail); simp only [Act.put, List.setIfInBounds_toArray, List.set_cons_zero, List.set_cons_succ])
                                refine Run.ends (fun hS => ?_)
                                have HX := Lib.hid hS.2.2.2.2.2.2.2.2.2.2.2.2.2.2.2.2.2.2.2.2.2.2
                                clear hS
                                go_wp2_with fail
                                go_ret
                                exact ⟨by rw [HR.out]; rfl, nest HK.out HX.out⟩
end Go.Proofs.Ythhelhhlofdehaa
