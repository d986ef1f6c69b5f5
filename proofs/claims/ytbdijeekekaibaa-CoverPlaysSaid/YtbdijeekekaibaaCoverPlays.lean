/- Walk of CoverPlays. -/
import Derived.Test.YtbdijeekekaibaaCoverAwake
import Derived.Test.YtbdijeekekaibaaPiecesMath
import Derived.Test.YtbdijeekekaibaaRefAdd
namespace Go.Proofs.Ytbdijeekekaibaa.coverPlays
open Go.RowKit Cir Mem
set_option linter.unusedSimpArgs false
set_option linter.unusedVariables false
attribute [local irreducible] Go.Calls

theorem keep3 {W a b : World} {p0 p1 : Addr} {x0 x1 : Value} (h : a.cell? p0 = some x0 ∧ a.cell? p1 = some x1 ∧ Below W.heap.size W a) (k : Below a.heap.size a b) : b.cell? p0 = some x0 ∧ b.cell? p1 = some x1 ∧ Below W.heap.size W b := ⟨kc k h.1, kc k h.2.1, nest h.2.2 k⟩
theorem RefAt.only {B : Nat} {w w' : World} {b b' : Nat} {f t f' t' : Int} {l l' : List (Int × Int)} (h : RefAt B w b f t l) (k : Only b' w w') (h' : CoverAt B w b' f' t' l') (hne : b ≠ b') : RefAt B w' b f t l := by
  obtain ⟨h0, v, h1, h2⟩ := h
  obtain ⟨_, v', h3, _⟩ := h'
  exact ⟨h0, v, h1.only k hne, h2.only k (h2.ne_blk h3 (by decide))⟩
theorem CoverAt.kept {B : Nat} {w w' : World} {b b' : Nat} {f t f' t' : Int} {l l' : List (Int × Int)} (h : CoverAt B w b f t l) (k : Only b' w w') (h' : RefAt B w b' f' t' l') (hne : b ≠ b') : CoverAt B w' b f t l := by
  obtain ⟨h0, v, h1, h2⟩ := h
  obtain ⟨_, v', h3, _⟩ := h'
  exact ⟨h0, v, h1.only k hne, h2.only k (h2.ne_blk h3 (by decide))⟩
theorem unlike {B B' : Nat} {w : World} {b b' : Nat} {f t f' t' : Int} {l l' : List (Int × Int)} (h : CoverAt B w b f t l) (h' : RefAt B' w b' f' t' l') : b ≠ b' := by
  obtain ⟨_, v, h1, _⟩ := h
  obtain ⟨_, v', h3, _⟩ := h'
  exact h1.ne h3 (by decide)
theorem none_left {n : Int} (hn0 : 0 ≤ n) {l : List (Int × Int)} (hn : Norm n 0 l) : decide (l.length = 0) = (sumL l == 0) := by
  cases l with
  | nil => rw [sumL_nil]; rfl
  | cons x l =>
    have h1 := hn.2.1
    have h2 : 0 ≤ sumL l := by
      cases l with
      | nil => rw [sumL_nil]; omega
      | cons y l => exact (sumL_bd hn.tail (by have := hn.tail.1; have := hn.tail.2.1; have := hn.tail.2.2.1; omega)).1
    rw [sumL_cons]
    have e1 : ((x.2 - x.1 + sumL l) == 0) = false := by rw [beq_eq_false_iff_ne]; omega
    rw [e1]; simp
theorem keep4 {W a b : World} {p0 p1 p2 p3 : Addr} {x0 x1 x2 x3 : Value} (h : a.cell? p0 = some x0 ∧ a.cell? p1 = some x1 ∧ a.cell? p2 = some x2 ∧ a.cell? p3 = some x3 ∧ Below W.heap.size W a) (k : Below a.heap.size a b) :
    b.cell? p0 = some x0 ∧ b.cell? p1 = some x1 ∧ b.cell? p2 = some x2 ∧ b.cell? p3 = some x3 ∧ Below W.heap.size W b := ⟨kc k h.1, kc k h.2.1, kc k h.2.2.1, kc k h.2.2.2.1, nest h.2.2.2.2 k⟩
theorem keepOnly {w a b : World} {B c : Nat} {p0 p1 p2 p3 : Addr} {x0 x1 x2 x3 : Value} (h : a.cell? p0 = some x0 ∧ a.cell? p1 = some x1 ∧ a.cell? p2 = some x2 ∧ a.cell? p3 = some x3 ∧ Below w.heap.size w a) (k : Only c a b)
    (hw : w.heap.size < B) (hB : B ≤ c) (hc : c < a.heap.size) (q0 : p0.block < w.heap.size) (q1 : p1.block < w.heap.size) (q2 : p2.block < B) (q3 : p3.block < B) :
    b.cell? p0 = some x0 ∧ b.cell? p1 = some x1 ∧ b.cell? p2 = some x2 ∧ b.cell? p3 = some x3 ∧ Below w.heap.size w b := by
  have hk := k.below hB (by omega)
  exact ⟨(hk.cell (by omega)).trans h.1, (hk.cell (by omega)).trans h.2.1, (hk.cell q2).trans h.2.2.1, (hk.cell q3).trans h.2.2.2.1, h.2.2.2.2.trans (hk.mono (by omega))⟩
theorem CoverAt.size {B : Nat} {w : World} {b : Nat} {f t : Int} {l : List (Int × Int)} (h : CoverAt B w b f t l) : B ≤ b ∧ b < w.heap.size := ⟨h.1, h.lt⟩
theorem RefAt.size {B : Nat} {w : World} {b : Nat} {f t : Int} {l : List (Int × Int)} (h : RefAt B w b f t l) : B ≤ b ∧ b < w.heap.size := by
  obtain ⟨h0, v, h1, _⟩ := h
  exact ⟨h0, h1.lt⟩
/-- all that a step asks of the lists -/
theorem step_facts {f t g u : Int} (bg : 0 ≤ g ∧ g ≤ 4294967295) (bu : 0 ≤ u ∧ u ≤ 4294967295) {P : List (Int × Int)} (h : Norm (beh f t) 0 P) :
    Norm (beh f t) 0 (radd f t g u P) ∧ addL (prts f t g u) (othP (beh f t) P) = othP (beh f t) (radd f t g u P) ∧ sumL (othP (beh f t) P) - sumL (othP (beh f t) (radd f t g u P)) = sumL (radd f t g u P) - sumL P ∧
    Norm (beh f t) 0 (othP (beh f t) (radd f t g u P)) ∧ sumL (othP (beh f t) (radd f t g u P)) = beh f t - sumL (radd f t g u P) ∧
    decide ((othP (beh f t) (radd f t g u P)).length = 0) = (beh f t - sumL (radd f t g u P) == 0) ∧ (othP (beh f t) (radd f t g u P)).length ≤ P.length + 3 ∧ (radd f t g u P).length ≤ P.length + 2 := by
  have bd := beh_bd f t
  obtain ⟨a1, a2, a3⟩ := radd_facts bg bu h
  obtain ⟨b1, b2, b3, b4⟩ := oth_facts (n := beh f t) (by omega) h
  obtain ⟨c1, c2, c3, c4⟩ := oth_facts (n := beh f t) (by omega) a1
  exact ⟨a1, a2.symm, by omega, c1, c3, by rw [none_left (by omega) c1, c3], by omega, a3⟩

set_option maxRecDepth 100000 in
set_option maxHeartbeats 8000000 in
theorem walk (f t : Int) (bf : 0 ≤ f ∧ f ≤ 4294967295) (bt : 0 ≤ t ∧ t ≤ 4294967295) (v : Value) (ls : List (Int × Int)) (fk : Int) (bk : -9223372036854775808 ≤ fk ∧ fk ≤ 9223372036854775807) (w : World)
    (hv : Rd (pairE .u32) w v ls) (hw : ∀ x ∈ ls, (0 ≤ x.1 ∧ x.1 ≤ 4294967295) ∧ (0 ≤ x.2 ∧ x.2 ≤ 4294967295)) :
    Calls Try.prog 3 #[.agg #[.int .u32 f, .int .u32 t], v, .int .i64 fk] w fun e w' => e = .returned (.bool true) ∧ Below w.heap.size w w' := by
  obtain ⟨a0, c0, rfl, hc1, hc2⟩ := hv.form
  have HV := Lib.hid hv
  have HW := Lib.hid hw
  clear hv hw
  have bd := beh_bd f t
  go_enter Try.func3, Try.ntmps3
  go_wp2_with fail
  generalize hW : w.alloc (Obj.cells #[Value.int IntKind.u32 f, Value.int IntKind.u32 t] 24) = W
  have hb0 : Below w.heap.size w W := hW ▸ more (Below.refl _ _) _
  have m0 : W.cell? ⟨w.heap.size, 0, none⟩ = some (.int .u32 f) := by rw [← hW]; simp
  have m1 : W.cell? ⟨w.heap.size, 1, none⟩ = some (.int .u32 t) := by rw [← hW]; simp
  have hwW : w.heap.size < W.heap.size := World.block_lt_of_cell? W _ m0
  clear hW
  go_region_held3 (fun z => z.cell? ⟨w.heap.size, 0, none⟩ = some (.int .u32 f) ∧ z.cell? ⟨w.heap.size, 1, none⟩ = some (.int .u32 t) ∧ Below W.heap.size W z)
    (first | exact ⟨m0, m1, Below.drew (Below.refl _ _)⟩ | assumption | exact keep3 (by assumption) hz1 | exact keep3 (by assumption) (more (Below.refl _ _) _))
    (first | (go_at_call 8; refine (cnew_any _ _ _).mono ?_; rintro e w' ⟨bc, rfl, hc, hz1⟩))
  all_goals first
    | (have hX := more (Below.refl w'.heap.size w') (Obj.cells #[Value.int IntKind.u32 f, Value.int IntKind.u32 t, .slice none 0 0] 31)
       have hcc : CoverAt W.heap.size (w'.alloc (Obj.cells #[Value.int IntKind.u32 f, Value.int IntKind.u32 t, .slice none 0 0] 31)) bc f t [(0, beh f t)] := hc.keep hX
       have hrr : RefAt W.heap.size (w'.alloc (Obj.cells #[Value.int IntKind.u32 f, Value.int IntKind.u32 t, .slice none 0 0] 31)) w'.heap.size f t [] := ⟨hz1.size, _, Blk.new _ _ _, Row.nil⟩
       have hz2 : Below W.heap.size W w' := ⟨hz1.os, hz1.tape, hz1.output, hz1.size, hz1.block⟩
       have hbb := nest hz2 hX
       have q0 : (w'.alloc (Obj.cells #[Value.int IntKind.u32 f, Value.int IntKind.u32 t, .slice none 0 0] 31)).cell? ⟨w.heap.size, 0, none⟩ = some (.int .u32 f) := kc hbb m0
       have q1 : (w'.alloc (Obj.cells #[Value.int IntKind.u32 f, Value.int IntKind.u32 t, .slice none 0 0] 31)).cell? ⟨w.heap.size, 1, none⟩ = some (.int .u32 t) := kc hbb m1
       clear hc hz1 hz2 hX
       generalize hZ : w'.alloc (Obj.cells #[Value.int IntKind.u32 f, Value.int IntKind.u32 t, .slice none 0 0] 31) = z2 at *
       generalize w'.heap.size = bw at *
       clear hZ)
    | (have hX := (more (Below.refl W.heap.size W) (Obj.cells #[Value.int IntKind.u32 f, Value.int IntKind.u32 t, .slice none 0 0] 31)).drew
       have hr0 : RefAt W.heap.size (W.alloc (Obj.cells #[Value.int IntKind.u32 f, Value.int IntKind.u32 t, .slice none 0 0] 31)).drew W.heap.size f t [] := ⟨Nat.le_refl _, _, Blk.new W _ _, Row.nil⟩
       have hcc := hc.mono hX.size
       have hrx := hr0.keep hz1
       have hbb := nest hX hz1
       have q0 := kc hbb m0
       have q1 := kc hbb m1
       obtain ⟨bw, hbw⟩ : ∃ bw, W.heap.size = bw := ⟨_, rfl⟩
       have hrr : RefAt W.heap.size w' bw f t [] := hbw ▸ hrx
       rw [hbw]
       clear hbw hrx hr0 hc hz1 hX
       generalize w' = z2 at *)
  all_goals
    clear m0 m1
    have hb2 := nest hb0 hbb
    have hwc := hcc.1
    have hwr := hrr.1
    clear hbb
    go_wp2_with fail
    refine (cawake_any z2).mono ?_
    rintro e z3 ⟨rfl, hk3⟩
    replace hcc := hcc.keep hk3
    replace hrr := hrr.keep hk3
    replace q0 := kc hk3 q0
    replace q1 := kc hk3 q1
    have hb3 := nest hb2 hk3
    clear hk3 hb2
    have HO0 := Lib.hid (oth_nil (beh f t) (by omega))
    go_wp2_with fail
    go_loopw [7, 9] (fun cp i wr => ∃ (k bc : Nat) (P : List (Int × Int)), (k ≤ ls.length ∧ k ≤ 40) ∧ i = .int .i64 k ∧ cp = .pointer (some ⟨bc, 0, none⟩) ∧ CoverAt W.heap.size wr bc f t (othP (beh f t) P) ∧ RefAt W.heap.size wr bw f t P ∧ Norm (beh f t) 0 P ∧ P.length ≤ 2 * k ∧
      wr.cell? ⟨w.heap.size, 0, none⟩ = some (.int .u32 f) ∧ wr.cell? ⟨w.heap.size, 1, none⟩ = some (.int .u32 t) ∧ Below w.heap.size w wr) (fun _ i _ => ls.length - (intOf i).toNat)
    case atStart => exact ⟨0, bc, [], ⟨Nat.zero_le _, Nat.zero_le _⟩, rfl, rfl, by rw [HO0.out]; exact hcc, hrr, trivial, by simp, q0, q1, hb3⟩
    case round =>
      obtain ⟨k, bd9, P, ⟨hk, hk40⟩, rfl, rfl, hcw, hrw, hn, hpl, r0, r1, hb⟩ := hrel
      have HN := Lib.hid hn
      have hol := (oth_facts (n := beh f t) (by omega) hn).2.2.2
      have HON := Lib.hid (oth_facts (n := beh f t) (by omega) hn).1
      have HOS := Lib.hid (oth_facts (n := beh f t) (by omega) hn).2.2.1
      clear hn hcc hrr q0 q1 hb3
      by_cases hgo : k < ls.length ∧ k < 40
      · obtain ⟨hlt, h40⟩ := hgo
        have e1 : (k : Int) < (ls.length : Int) := by omega
        have e2 : (k : Int) < 40 := by omega
        obtain ⟨ga, off, c', hv', _, _, hcell⟩ := HV.out.pairs (by omega)
        injection hv' with f1 f2 f3
        subst f1 f3
        obtain ⟨d1, d2⟩ := hcell k hlt
        have hz := HW.out (ls.getD k (0, 0)) (by simp [List.getD, hlt])
        generalize ls.getD k (0, 0) = s9 at *
        obtain ⟨g, u⟩ := s9
        simp only [] at d1 d2 hz
        have hga : ga < w.heap.size := World.block_lt_of_cell? w _ d1
        replace d1 := kc hb d1
        replace d2 := kc hb d2
        clear hcell f2
        obtain ⟨a1, a2, a3, a4, a5, a6, a7, a8⟩ := step_facts (f := f) (t := t) hz.1 hz.2 HN.out
        have A1 := Lib.hid a1
        have A2 := Lib.hid a2
        have A3 := Lib.hid a3
        have A4 := Lib.hid a4
        have A5 := Lib.hid a5
        have A6 := Lib.hid a6
        have hcr := unlike hcw hrw
        clear a1 a2 a3 a4 a5 a6
        generalize hR : radd f t g u P = R at *
        have HR := Lib.hid hR
        clear hR
        have hdr : Below wr.heap.size wr wr.drew := (Below.refl _ _).drew
        have hcw1 := hcw.keep hdr
        have hrw1 := hrw.keep hdr
        clear hdr hcw hrw
        go_wp2_with fail
        refine Run.region_walk (S := fun z => z.cell? ⟨ga, off + k * 2, none⟩ = some (.int .u32 g) ∧ z.cell? ⟨ga, off + k * 2 + 1, none⟩ = some (.int .u32 u) ∧ z.cell? ⟨w.heap.size, 0, none⟩ = some (.int .u32 f) ∧ z.cell? ⟨w.heap.size, 1, none⟩ = some (.int .u32 t) ∧ Below w.heap.size w z)
          lplays.rows6 lplays.plan6 (l := ?_) (by kernel_rfl) (by kernel_rfl) (by kernel_rfl) (by kernel_rfl) ?_ ⟨d1, d2, r0, r1, hb.drew⟩ ?_
        rotate_left
        (· simp only [lplays.plan6, Run.stepsOf, Run.stepOf, Run.guardOf, List.getElem?_toArray, List.getElem?_cons_zero, List.getElem?_cons_succ, Option.map_some, Option.map_none, Option.bind_some, Option.toList_some, List.map_cons, List.map_nil, List.cons_append, List.nil_append]
           rfl)
        repeat ((first
          | (refine Run.takes (v := ?_) ?_ ?_; rotate_left; (· intro w' hS'; go_simp; (try with_reducible rfl)))
          | (refine Run.takesG (v := ?_) ?_ ?_ ?_; rotate_left; (· simp only [List.getElem?_cons_zero, List.getElem?_cons_succ]); (· intro w' hS'; go_simp; (try with_reducible rfl)))
          | (refine Run.skipsT ?_ ?_; (· simp only [List.getElem?_cons_zero, List.getElem?_cons_succ]))
          | (refine Run.skipsF ?_ ?_; (· simp only [List.getElem?_cons_zero, List.getElem?_cons_succ]))
          | (refine Run.skipsU ?_ ?_; (· simp only [List.getElem?_cons_zero, List.getElem?_cons_succ]))
          | (refine Run.passT ?_ ?_; (· simp only [List.getElem?_cons_zero, List.getElem?_cons_succ]))
          | (refine Run.passF ?_ ?_; (· simp only [List.getElem?_cons_zero, List.getElem?_cons_succ]))
          | (refine Run.passU ?_ ?_; (· simp only [List.getElem?_cons_zero, List.getElem?_cons_succ]))
          | fail); simp only [Act.put, List.setIfInBounds_toArray, List.set_cons_zero, List.set_cons_succ])
        generalize wr.drew = x0 at *
        refine Run.runs (Run.callF 10 (by kernel_rfl) (fun hS => cadd_any W.heap.size bd9 f t g u bf bt hz.1 hz.2 (othP (beh f t) P) x0 hcw1 HON.out (by omega)) rfl ?_)
        rintro hS e x1 ⟨he, hc2, ho2⟩
        rw [A2.out] at he hc2
        rw [A3.out] at he
        subst he
        have hr2 := RefAt.only hrw1 ho2 hcw1 hcr.symm
        refine ⟨_, rfl, keepOnly hS ho2 hwW hcw1.1 hcw1.lt hga hga hwW hwW, ?_⟩
        clear hS ho2 hcw1 hrw1
        simp only [Act.put, List.setIfInBounds_toArray, List.set_cons_zero, List.set_cons_succ]
        repeat ((first
          | (refine Run.takes (v := ?_) ?_ ?_; rotate_left; (· intro w' hS'; go_simp; (try with_reducible rfl)))
          | (refine Run.takesG (v := ?_) ?_ ?_ ?_; rotate_left; (· simp only [List.getElem?_cons_zero, List.getElem?_cons_succ]); (· intro w' hS'; go_simp; (try with_reducible rfl)))
          | (refine Run.skipsT ?_ ?_; (· simp only [List.getElem?_cons_zero, List.getElem?_cons_succ]))
          | (refine Run.skipsF ?_ ?_; (· simp only [List.getElem?_cons_zero, List.getElem?_cons_succ]))
          | (refine Run.skipsU ?_ ?_; (· simp only [List.getElem?_cons_zero, List.getElem?_cons_succ]))
          | (refine Run.passT ?_ ?_; (· simp only [List.getElem?_cons_zero, List.getElem?_cons_succ]))
          | (refine Run.passF ?_ ?_; (· simp only [List.getElem?_cons_zero, List.getElem?_cons_succ]))
          | (refine Run.passU ?_ ?_; (· simp only [List.getElem?_cons_zero, List.getElem?_cons_succ]))
          | fail); simp only [Act.put, List.setIfInBounds_toArray, List.set_cons_zero, List.set_cons_succ])
        refine Run.runs (Run.callF 11 (by kernel_rfl) (fun hS => rcadd_any W.heap.size bw f t g u bf bt hz.1 hz.2 P x1 hr2 HN.out (by omega)) rfl ?_)
        rintro hS e x2 ⟨he, hr3, ho3⟩
        rw [HR.out] at he hr3
        subst he
        have hc3 := CoverAt.kept hc2 ho3 hr2 hcr
        refine ⟨_, rfl, keepOnly hS ho3 hwW (RefAt.size hr2).1 (RefAt.size hr2).2 hga hga hwW hwW, ?_⟩
        clear hS ho3 hr2 hc2
        simp only [Act.put, List.setIfInBounds_toArray, List.set_cons_zero, List.set_cons_succ]
        repeat ((first
          | (refine Run.takes (v := ?_) ?_ ?_; rotate_left; (· intro w' hS'; go_simp; (try with_reducible rfl)))
          | (refine Run.takesG (v := ?_) ?_ ?_ ?_; rotate_left; (· simp only [List.getElem?_cons_zero, List.getElem?_cons_succ]); (· intro w' hS'; go_simp; (try with_reducible rfl)))
          | (refine Run.skipsT ?_ ?_; (· simp only [List.getElem?_cons_zero, List.getElem?_cons_succ]))
          | (refine Run.skipsF ?_ ?_; (· simp only [List.getElem?_cons_zero, List.getElem?_cons_succ]))
          | (refine Run.skipsU ?_ ?_; (· simp only [List.getElem?_cons_zero, List.getElem?_cons_succ]))
          | (refine Run.passT ?_ ?_; (· simp only [List.getElem?_cons_zero, List.getElem?_cons_succ]))
          | (refine Run.passF ?_ ?_; (· simp only [List.getElem?_cons_zero, List.getElem?_cons_succ]))
          | (refine Run.passU ?_ ?_; (· simp only [List.getElem?_cons_zero, List.getElem?_cons_succ]))
          | fail); simp only [Act.put, List.setIfInBounds_toArray, List.set_cons_zero, List.set_cons_succ])
        refine Run.runs (Run.callG 12 (by kernel_rfl) ?_ (fun hS => cleft_any W.heap.size bd9 f t (beh f t) (othP (beh f t) R) x2 hc3 A4.out (by omega)) rfl ?_)
        (· simp only [List.getElem?_cons_zero, List.getElem?_cons_succ])
        rintro hS e x3 ⟨he, hk⟩
        rw [A5.out] at he
        subst he
        have hc4 := hc3.keep hk
        have hr4 := hr3.keep hk
        refine ⟨_, rfl, keep4 hS hk, ?_⟩
        clear hS hk hc3 hr3
        simp only [Act.put, List.setIfInBounds_toArray, List.set_cons_zero, List.set_cons_succ]
        repeat ((first
          | (refine Run.takes (v := ?_) ?_ ?_; rotate_left; (· intro w' hS'; go_simp; (try with_reducible rfl)))
          | (refine Run.takesG (v := ?_) ?_ ?_ ?_; rotate_left; (· simp only [List.getElem?_cons_zero, List.getElem?_cons_succ]); (· intro w' hS'; go_simp; (try with_reducible rfl)))
          | (refine Run.skipsT ?_ ?_; (· simp only [List.getElem?_cons_zero, List.getElem?_cons_succ]))
          | (refine Run.skipsF ?_ ?_; (· simp only [List.getElem?_cons_zero, List.getElem?_cons_succ]))
          | (refine Run.skipsU ?_ ?_; (· simp only [List.getElem?_cons_zero, List.getElem?_cons_succ]))
          | (refine Run.passT ?_ ?_; (· simp only [List.getElem?_cons_zero, List.getElem?_cons_succ]))
          | (refine Run.passF ?_ ?_; (· simp only [List.getElem?_cons_zero, List.getElem?_cons_succ]))
          | (refine Run.passU ?_ ?_; (· simp only [List.getElem?_cons_zero, List.getElem?_cons_succ]))
          | fail); simp only [Act.put, List.setIfInBounds_toArray, List.set_cons_zero, List.set_cons_succ])
        refine Run.runs (Run.callG 13 (by kernel_rfl) ?_ (fun hS => rcleft_any W.heap.size bw f t bf bt R x3 hr4 A1.out) rfl ?_)
        (· simp only [List.getElem?_cons_zero, List.getElem?_cons_succ])
        rintro hS e x4 ⟨rfl, hk⟩
        have hc5 := hc4.keep hk
        have hr5 := hr4.keep hk
        refine ⟨_, rfl, keep4 hS hk, ?_⟩
        clear hS hk hc4 hr4
        simp only [Act.put, List.setIfInBounds_toArray, List.set_cons_zero, List.set_cons_succ]
        repeat ((first
          | (refine Run.takes (v := ?_) ?_ ?_; rotate_left; (· intro w' hS'; go_simp; (try with_reducible rfl)))
          | (refine Run.takesG (v := ?_) ?_ ?_ ?_; rotate_left; (· simp only [List.getElem?_cons_zero, List.getElem?_cons_succ]); (· intro w' hS'; go_simp; (try with_reducible rfl)))
          | (refine Run.skipsT ?_ ?_; (· simp only [List.getElem?_cons_zero, List.getElem?_cons_succ]))
          | (refine Run.skipsF ?_ ?_; (· simp only [List.getElem?_cons_zero, List.getElem?_cons_succ]))
          | (refine Run.skipsU ?_ ?_; (· simp only [List.getElem?_cons_zero, List.getElem?_cons_succ]))
          | (refine Run.passT ?_ ?_; (· simp only [List.getElem?_cons_zero, List.getElem?_cons_succ]))
          | (refine Run.passF ?_ ?_; (· simp only [List.getElem?_cons_zero, List.getElem?_cons_succ]))
          | (refine Run.passU ?_ ?_; (· simp only [List.getElem?_cons_zero, List.getElem?_cons_succ]))
          | fail); simp only [Act.put, List.setIfInBounds_toArray, List.set_cons_zero, List.set_cons_succ])
        refine Run.runs (Run.callG 15 (by kernel_rfl) ?_ (fun hS => cgaps_any W.heap.size bd9 f t (beh f t) (othP (beh f t) R) x4 hc5 A4.out (by omega) (by omega)) rfl ?_)
        (· simp only [List.getElem?_cons_zero, List.getElem?_cons_succ])
        rintro hS e x5 ⟨v5, rfl, hg5, hk⟩
        have hc6 := hc5.keep hk
        have hr6 := hr5.keep hk
        refine ⟨_, rfl, keep4 hS hk, ?_⟩
        clear hS hk hc5 hr5
        simp only [Act.put, List.setIfInBounds_toArray, List.set_cons_zero, List.set_cons_succ]
        repeat ((first
          | (refine Run.takes (v := ?_) ?_ ?_; rotate_left; (· intro w' hS'; go_simp; (try with_reducible rfl)))
          | (refine Run.takesG (v := ?_) ?_ ?_ ?_; rotate_left; (· simp only [List.getElem?_cons_zero, List.getElem?_cons_succ]); (· intro w' hS'; go_simp; (try with_reducible rfl)))
          | (refine Run.skipsT ?_ ?_; (· simp only [List.getElem?_cons_zero, List.getElem?_cons_succ]))
          | (refine Run.skipsF ?_ ?_; (· simp only [List.getElem?_cons_zero, List.getElem?_cons_succ]))
          | (refine Run.skipsU ?_ ?_; (· simp only [List.getElem?_cons_zero, List.getElem?_cons_succ]))
          | (refine Run.passT ?_ ?_; (· simp only [List.getElem?_cons_zero, List.getElem?_cons_succ]))
          | (refine Run.passF ?_ ?_; (· simp only [List.getElem?_cons_zero, List.getElem?_cons_succ]))
          | (refine Run.passU ?_ ?_; (· simp only [List.getElem?_cons_zero, List.getElem?_cons_succ]))
          | fail); simp only [Act.put, List.setIfInBounds_toArray, List.set_cons_zero, List.set_cons_succ])
        refine Run.runs (Run.callG 16 (by kernel_rfl) ?_ (fun hS => rcgaps_any W.heap.size bw f t bf bt R x5 hr6 A1.out (by omega)) rfl ?_)
        (· simp only [List.getElem?_cons_zero, List.getElem?_cons_succ])
        rintro hS e x6 ⟨v6, rfl, hg6, hk⟩
        have hc7 := hc6.keep hk
        have hr7 := hr6.keep hk
        have hg7 := hg5.keep hk
        refine ⟨_, rfl, keep4 hS hk, ?_⟩
        clear hS hk hc6 hr6 hg5
        simp only [Act.put, List.setIfInBounds_toArray, List.set_cons_zero, List.set_cons_succ]
        repeat ((first
          | (refine Run.takes (v := ?_) ?_ ?_; rotate_left; (· intro w' hS'; go_simp; (try with_reducible rfl)))
          | (refine Run.takesG (v := ?_) ?_ ?_ ?_; rotate_left; (· simp only [List.getElem?_cons_zero, List.getElem?_cons_succ]); (· intro w' hS'; go_simp; (try with_reducible rfl)))
          | (refine Run.skipsT ?_ ?_; (· simp only [List.getElem?_cons_zero, List.getElem?_cons_succ]))
          | (refine Run.skipsF ?_ ?_; (· simp only [List.getElem?_cons_zero, List.getElem?_cons_succ]))
          | (refine Run.skipsU ?_ ?_; (· simp only [List.getElem?_cons_zero, List.getElem?_cons_succ]))
          | (refine Run.passT ?_ ?_; (· simp only [List.getElem?_cons_zero, List.getElem?_cons_succ]))
          | (refine Run.passF ?_ ?_; (· simp only [List.getElem?_cons_zero, List.getElem?_cons_succ]))
          | (refine Run.passU ?_ ?_; (· simp only [List.getElem?_cons_zero, List.getElem?_cons_succ]))
          | fail); simp only [Act.put, List.setIfInBounds_toArray, List.set_cons_zero, List.set_cons_succ])
        refine Run.runs (Run.callG 14 (by kernel_rfl) ?_ (fun hS => plain_yes _ _ v5 v6 ((othP (beh f t) R).map (spanP f)) (by rw [List.length_map]; omega) x6 hg7 hg6) rfl ?_)
        (· simp only [List.getElem?_cons_zero, List.getElem?_cons_succ])
        rintro hS e x7 ⟨rfl, hk⟩
        have hc8 := hc7.keep hk
        have hr8 := hr7.keep hk
        refine ⟨_, rfl, keep4 hS hk, ?_⟩
        clear hS hk hc7 hr7 hg7 hg6
        simp only [Act.put, List.setIfInBounds_toArray, List.set_cons_zero, List.set_cons_succ]
        repeat ((first
          | (refine Run.takes (v := ?_) ?_ ?_; rotate_left; (· intro w' hS'; go_simp; (try with_reducible rfl)))
          | (refine Run.takesG (v := ?_) ?_ ?_ ?_; rotate_left; (· simp only [List.getElem?_cons_zero, List.getElem?_cons_succ]); (· intro w' hS'; go_simp; (try with_reducible rfl)))
          | (refine Run.skipsT ?_ ?_; (· simp only [List.getElem?_cons_zero, List.getElem?_cons_succ]))
          | (refine Run.skipsF ?_ ?_; (· simp only [List.getElem?_cons_zero, List.getElem?_cons_succ]))
          | (refine Run.skipsU ?_ ?_; (· simp only [List.getElem?_cons_zero, List.getElem?_cons_succ]))
          | (refine Run.passT ?_ ?_; (· simp only [List.getElem?_cons_zero, List.getElem?_cons_succ]))
          | (refine Run.passF ?_ ?_; (· simp only [List.getElem?_cons_zero, List.getElem?_cons_succ]))
          | (refine Run.passU ?_ ?_; (· simp only [List.getElem?_cons_zero, List.getElem?_cons_succ]))
          | fail); simp only [Act.put, List.setIfInBounds_toArray, List.set_cons_zero, List.set_cons_succ])
        refine Run.runs (Run.callG 17 (by kernel_rfl) ?_ (fun hS => cwhole_any W.heap.size bd9 f t (othP (beh f t) R) x7 hc8) rfl ?_)
        (· simp only [List.getElem?_cons_zero, List.getElem?_cons_succ])
        rintro hS e x8 ⟨he, hk⟩
        rw [A6.out] at he
        subst he
        have hc9 := hc8.keep hk
        have hr9 := hr8.keep hk
        refine ⟨_, rfl, keep4 hS hk, ?_⟩
        clear hS hk hc8 hr8
        simp only [Act.put, List.setIfInBounds_toArray, List.set_cons_zero, List.set_cons_succ]
        repeat ((first
          | (refine Run.takes (v := ?_) ?_ ?_; rotate_left; (· intro w' hS'; go_simp; (try with_reducible rfl)))
          | (refine Run.takesG (v := ?_) ?_ ?_ ?_; rotate_left; (· simp only [List.getElem?_cons_zero, List.getElem?_cons_succ]); (· intro w' hS'; go_simp; (try with_reducible rfl)))
          | (refine Run.skipsT ?_ ?_; (· simp only [List.getElem?_cons_zero, List.getElem?_cons_succ]))
          | (refine Run.skipsF ?_ ?_; (· simp only [List.getElem?_cons_zero, List.getElem?_cons_succ]))
          | (refine Run.skipsU ?_ ?_; (· simp only [List.getElem?_cons_zero, List.getElem?_cons_succ]))
          | (refine Run.passT ?_ ?_; (· simp only [List.getElem?_cons_zero, List.getElem?_cons_succ]))
          | (refine Run.passF ?_ ?_; (· simp only [List.getElem?_cons_zero, List.getElem?_cons_succ]))
          | (refine Run.passU ?_ ?_; (· simp only [List.getElem?_cons_zero, List.getElem?_cons_succ]))
          | fail); simp only [Act.put, List.setIfInBounds_toArray, List.set_cons_zero, List.set_cons_succ])
        refine Run.runs (Run.callG 13 (by kernel_rfl) ?_ (fun hS => rcleft_any W.heap.size bw f t bf bt R x8 hr9 A1.out) rfl ?_)
        (· simp only [List.getElem?_cons_zero, List.getElem?_cons_succ])
        rintro hS e x9 ⟨rfl, hk⟩
        have hc10 := hc9.keep hk
        have hr10 := hr9.keep hk
        refine ⟨_, rfl, keep4 hS hk, ?_⟩
        clear hS hk hc9 hr9
        simp only [Act.put, List.setIfInBounds_toArray, List.set_cons_zero, List.set_cons_succ]
        repeat ((first
          | (refine Run.takes (v := ?_) ?_ ?_; rotate_left; (· intro w' hS'; go_simp; (try with_reducible rfl)))
          | (refine Run.takesG (v := ?_) ?_ ?_ ?_; rotate_left; (· simp only [List.getElem?_cons_zero, List.getElem?_cons_succ]); (· intro w' hS'; go_simp; (try with_reducible rfl)))
          | (refine Run.skipsT ?_ ?_; (· simp only [List.getElem?_cons_zero, List.getElem?_cons_succ]))
          | (refine Run.skipsF ?_ ?_; (· simp only [List.getElem?_cons_zero, List.getElem?_cons_succ]))
          | (refine Run.skipsU ?_ ?_; (· simp only [List.getElem?_cons_zero, List.getElem?_cons_succ]))
          | (refine Run.passT ?_ ?_; (· simp only [List.getElem?_cons_zero, List.getElem?_cons_succ]))
          | (refine Run.passF ?_ ?_; (· simp only [List.getElem?_cons_zero, List.getElem?_cons_succ]))
          | (refine Run.passU ?_ ?_; (· simp only [List.getElem?_cons_zero, List.getElem?_cons_succ]))
          | fail); simp only [Act.put, List.setIfInBounds_toArray, List.set_cons_zero, List.set_cons_succ])
        refine Run.ends (fun hS => ?_)
        obtain ⟨_, _, r2, r3, hbx⟩ := hS
        have hWx : W.heap.size ≤ x9.heap.size := Nat.le_trans hc10.1 (Nat.le_of_lt hc10.lt)
        clear d1 d2 r0 r1 hb hga
        by_cases hfk : (k : Int) = fk
        · subst hfk
          go_wp2_with fail
          refine (cfork_any W.heap.size bd9 f t (othP (beh f t) R) x9 hc10 (by omega)).mono ?_
          rintro e y1 ⟨b9, rfl, hcf, hk⟩
          have hne : b9 ≠ bd9 := by have := hcf.1; have := hc10.lt; omega
          have hcf1 := hcf.mono hWx
          have hc11 := hc10.keep hk
          have hr11 := hr10.keep hk
          replace r2 := kc hk r2
          replace r3 := kc hk r3
          have hby := nest hbx hk
          clear hcf hc10 hr10 hk hbx
          go_wp2_with fail
          refine (cadd_any W.heap.size bd9 f t f t bf bt bf bt (othP (beh f t) R) y1 hc11 A4.out (by omega)).mono ?_
          rintro e y2 ⟨rfl, _, ho⟩
          have hkW := ho.below hc11.1 (Nat.le_trans hc11.1 (Nat.le_of_lt hc11.lt))
          have hcf2 := CoverAt.only hcf1 ho hc11 hne
          have hr12 := RefAt.only hr11 ho hc11 hcr.symm
          replace r2 := (hkW.cell (p := ⟨w.heap.size, 0, none⟩) hwW).trans r2
          replace r3 := (hkW.cell (p := ⟨w.heap.size, 1, none⟩) hwW).trans r3
          have hbz := hby.trans (hkW.mono (Nat.le_of_lt hwW))
          clear hcf1 hc11 hr11 ho hby hkW
          go_wp2_with fail
          go_roundw
          case rel => exact ⟨k + 1, b9, R, ⟨by omega, by omega⟩, by go_num, rfl, hcf2, hr12, A1.out, by omega, r2, r3, hbz⟩
          case measure => simp [intOf]; omega
        · go_wp2_with fail
          go_roundw
          case rel => exact ⟨k + 1, bd9, R, ⟨by omega, by omega⟩, by go_num, rfl, hc10, hr10, A1.out, by omega, r2, r3, hbx⟩
          case measure => simp [intOf]; omega
      · have hends : (¬ k < ls.length) ∨ (k < ls.length ∧ ¬ k < 40) := by omega
        clear hgo
        rcases hends with h1 | ⟨h1, h2⟩
        · have e1 : ¬ (k : Int) < (ls.length : Int) := by omega
          go_wp2_with fail
          refine (cgaps_any W.heap.size bd9 f t (beh f t) (othP (beh f t) P) wr hcw HON.out (by omega) (by omega)).mono ?_
          rintro e y1 ⟨v7, rfl, hr7, hk7⟩
          replace hcw := hcw.keep hk7
          replace hrw := hrw.keep hk7
          have hb1 := nest hb hk7
          clear hb hk7
          go_wp2_with fail
          refine (rcgaps_any W.heap.size bw f t bf bt P y1 hrw HN.out (by omega)).mono ?_
          rintro e y2 ⟨v8, rfl, hr8, hk8⟩
          replace hcw := hcw.keep hk8
          replace hrw := hrw.keep hk8
          replace hr7 := hr7.keep hk8
          have hb2 := nest hb1 hk8
          clear hb1 hk8
          go_wp2_with fail
          refine (plain_yes _ _ v7 v8 ((othP (beh f t) P).map (spanP f)) (by rw [List.length_map]; omega) _ hr7 hr8).mono ?_
          rintro e y3 ⟨rfl, hk9⟩
          replace hcw := hcw.keep hk9
          replace hrw := hrw.keep hk9
          have hb3 := nest hb2 hk9
          clear hb2 hk9 hr7 hr8
          go_wp2_with fail
          refine (cleft_any W.heap.size bd9 f t (beh f t) (othP (beh f t) P) y3 hcw HON.out (by omega)).mono ?_
          rintro e y4 ⟨he, hk9⟩
          rw [HOS.out] at he
          subst he
          replace hrw := hrw.keep hk9
          have hb4 := nest hb3 hk9
          clear hb3 hk9 hcw
          go_wp2_with fail
          refine (rcleft_any W.heap.size bw f t bf bt P y4 hrw HN.out).mono ?_
          rintro e y5 ⟨rfl, hk9⟩
          have hb5 := nest hb4 hk9
          clear hb4 hk9 hrw
          go_wp2_with fail
          go_ret
          exact ⟨by simp, hb5⟩
        · have e1 : (k : Int) < (ls.length : Int) := by omega
          have e2 : ¬ (k : Int) < 40 := by omega
          go_wp2_with fail
          refine (cgaps_any W.heap.size bd9 f t (beh f t) (othP (beh f t) P) wr hcw HON.out (by omega) (by omega)).mono ?_
          rintro e y1 ⟨v7, rfl, hr7, hk7⟩
          replace hcw := hcw.keep hk7
          replace hrw := hrw.keep hk7
          have hb1 := nest hb hk7
          clear hb hk7
          go_wp2_with fail
          refine (rcgaps_any W.heap.size bw f t bf bt P y1 hrw HN.out (by omega)).mono ?_
          rintro e y2 ⟨v8, rfl, hr8, hk8⟩
          replace hcw := hcw.keep hk8
          replace hrw := hrw.keep hk8
          replace hr7 := hr7.keep hk8
          have hb2 := nest hb1 hk8
          clear hb1 hk8
          go_wp2_with fail
          refine (plain_yes _ _ v7 v8 ((othP (beh f t) P).map (spanP f)) (by rw [List.length_map]; omega) _ hr7 hr8).mono ?_
          rintro e y3 ⟨rfl, hk9⟩
          replace hcw := hcw.keep hk9
          replace hrw := hrw.keep hk9
          have hb3 := nest hb2 hk9
          clear hb2 hk9 hr7 hr8
          go_wp2_with fail
          refine (cleft_any W.heap.size bd9 f t (beh f t) (othP (beh f t) P) y3 hcw HON.out (by omega)).mono ?_
          rintro e y4 ⟨he, hk9⟩
          rw [HOS.out] at he
          subst he
          replace hrw := hrw.keep hk9
          have hb4 := nest hb3 hk9
          clear hb3 hk9 hcw
          go_wp2_with fail
          refine (rcleft_any W.heap.size bw f t bf bt P y4 hrw HN.out).mono ?_
          rintro e y5 ⟨rfl, hk9⟩
          have hb5 := nest hb4 hk9
          clear hb4 hk9 hrw
          go_wp2_with fail
          go_ret
          exact ⟨by simp, hb5⟩
end Go.Proofs.Ytbdijeekekaibaa.coverPlays
