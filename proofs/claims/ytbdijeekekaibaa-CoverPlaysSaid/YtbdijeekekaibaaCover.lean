/- Walks of package cover: New, Left, Whole. -/
import Derived.Test.YtbdijeekekaibaaCoverMath
import Derived.Test.YtbdijeekekaibaaCoverPlans
import Derived.Test.YtbdijeekekaibaaMem
namespace Go.Proofs.Ytbdijeekekaibaa
open Go.RowKit Cir Mem
set_option linter.unusedSimpArgs false
set_option linter.unusedVariables false
attribute [local irreducible] Go.Calls

theorem stretchElem : Elem Try.prog 50 49 2 16 := elem_of (z := .agg #[.int .u64 0, .int .u64 0]) Try.underlying50 (by kernel_rfl) rfl
/-- a cover of (f, t], of which l is not covered, at block b -/
def CoverAt (B : Nat) (w : World) (b : Nat) (f t : Int) (l : List (Int × Int)) : Prop :=
  B ≤ b ∧ ∃ v, Blk w b 52 #[.int .u32 f, .int .u32 t, v] ∧ Row (pairE .u64) 49 B w v l
theorem CoverAt.lt {B : Nat} {w : World} {b : Nat} {f t : Int} {l : List (Int × Int)} (h : CoverAt B w b f t l) : b < w.heap.size := by
  obtain ⟨_, v, h, _⟩ := h; exact h.lt
theorem CoverAt.keep {B : Nat} {w w' : World} {b : Nat} {f t : Int} {l : List (Int × Int)} (h : CoverAt B w b f t l) (k : Below w.heap.size w w') : CoverAt B w' b f t l := by
  obtain ⟨h0, v, h1, h2⟩ := h
  exact ⟨h0, v, h1.keep k, h2.keep k⟩
theorem CoverAt.mono {B B' : Nat} {w : World} {b : Nat} {f t : Int} {l : List (Int × Int)} (h : CoverAt B' w b f t l) (k : B ≤ B') : CoverAt B w b f t l := by
  obtain ⟨h0, v, h1, h2⟩ := h
  exact ⟨Nat.le_trans k h0, v, h1, h2.mono k⟩
theorem CoverAt.only {B : Nat} {w w' : World} {b b' : Nat} {f t f' t' : Int} {l l' : List (Int × Int)} (h : CoverAt B w b f t l) (k : Only b' w w') (h' : CoverAt B w b' f' t' l') (hne : b ≠ b') : CoverAt B w' b f t l := by
  obtain ⟨h0, v, h1, h2⟩ := h
  obtain ⟨_, v', h3, _⟩ := h'
  exact ⟨h0, v, h1.only k hne, h2.only k (h2.ne_blk h3 (by decide))⟩

def NewPost (w : World) (f t : Int) (e : Ending) (w' : World) : Prop := ∃ b, e = .returned (.pointer (some ⟨b, 0, none⟩)) ∧ CoverAt w.heap.size w' b f t [(0, beh f t)] ∧ Below w.heap.size w w'

set_option maxHeartbeats 1000000 in
theorem cnew_any (f t : Int) (w : World) : Calls Try.prog 8 #[.agg #[.int .u32 f, .int .u32 t]] w (NewPost w f t) := by
  go_enter Try.func8, Try.ntmps8
  go_wp2_with fail
  generalize hW : w.alloc (Obj.cells #[Value.int IntKind.u32 f, Value.int IntKind.u32 t] 24) = W
  have hb0 : Below w.heap.size w W := hW ▸ more (Below.refl _ _) _
  have hc0 : W.cell? ⟨w.heap.size, 0, none⟩ = some (.int .u32 f) := by rw [← hW]; simp
  have hc1 : W.cell? ⟨w.heap.size, 1, none⟩ = some (.int .u32 t) := by rw [← hW]; simp
  clear hW
  refine Run.region_walk (S := fun z => z.cell? ⟨w.heap.size, 0, none⟩ = some (.int .u32 f) ∧ z.cell? ⟨w.heap.size, 1, none⟩ = some (.int .u32 t) ∧ Below W.heap.size W z)
    cnew.rows1 cnew.plan1 (l := ?steps1) (by kernel_rfl) (by kernel_rfl) (by kernel_rfl) (by kernel_rfl) ?written1 ⟨hc0, hc1, (Below.refl _ _).drew⟩ ?onward1
  case written1 =>
    simp only [cnew.plan1, Run.stepsOf, Run.stepOf, Run.guardOf, List.getElem?_toArray, List.getElem?_cons_zero, List.getElem?_cons_succ, Option.map_some, Option.map_none, Option.bind_some, Option.toList_some, List.map_cons, List.map_nil, List.cons_append, List.nil_append]
    rfl
  repeat ((first
    | (refine Run.takes (v := ?_) ?_ ?_; rotate_left; (· intro w' hS'; go_simp; (try with_reducible rfl)))
    | (refine Run.takesG (v := ?_) ?_ ?_ ?_; rotate_left; (· simp only [List.getElem?_cons_zero, List.getElem?_cons_succ]); (· intro w' hS'; go_simp; (try with_reducible rfl)))
    | (refine Run.skipsT ?_ ?_; (· simp only [List.getElem?_cons_zero, List.getElem?_cons_succ]))
    | (refine Run.skipsF ?_ ?_; (· simp only [List.getElem?_cons_zero, List.getElem?_cons_succ]))
    | (refine Run.skipsU ?_ ?_; (· simp only [List.getElem?_cons_zero, List.getElem?_cons_succ]))
    | (refine Run.passT ?_ ?_; (· simp only [List.getElem?_cons_zero, List.getElem?_cons_succ]))
    | (refine Run.passF ?_ ?_; (· simp only [List.getElem?_cons_zero, List.getElem?_cons_succ]))
    | (refine Run.passU ?_ ?_; (· simp only [List.getElem?_cons_zero, List.getElem?_cons_succ]))
    | (refine Run.runs ?_
       (first
       | (refine Run.callF 21 (by kernel_rfl) (fun hS => size_any f t _) rfl ?_)
       | (refine Run.callG 21 (by kernel_rfl) ?_ (fun hS => size_any f t _) rfl ?_; (· simp only [List.getElem?_cons_zero, List.getElem?_cons_succ]))
       | fail)
       (first
       | (rintro hS e w' ⟨rfl, rfl⟩; refine ⟨_, rfl, hS, ?_⟩)
       | (rintro hS e w' ⟨rfl, hb⟩; refine ⟨_, rfl, ⟨kc hb hS.1, kc hb hS.2.1, nest hS.2.2 hb⟩, ?_⟩)
       | fail))
    | fail); simp only [Act.put, List.setIfInBounds_toArray, List.set_cons_zero, List.set_cons_succ])
  refine Run.runs (Run.one (fun hS K hK => ?_))
  go_simp
  have hX : Below w'.heap.size w' (w'.alloc (Obj.cells #[Value.int IntKind.u64 0, Value.int IntKind.u64 (beh f t)] 49)) := more (Below.refl _ _) _
  have hr : Row (pairE .u64) 49 w.heap.size (w'.alloc (Obj.cells #[Value.int IntKind.u64 0, Value.int IntKind.u64 (beh f t)] 49)) (.slice (some ⟨w'.heap.size, 0, none⟩) 1 1) [(0, beh f t)] :=
    Row.lit _ _ _ _ _ _ rfl rfl rfl (nest hb0 hS.2.2).size (by simp [maxLen])
  have hs : w.heap.size ≤ w'.heap.size := (nest hb0 hS.2.2).size
  refine hK.out _ _ ⟨kc hX hS.1, kc hX hS.2.1, nest hS.2.2 hX⟩ ?_
  clear hK K
  generalize hY : w'.alloc (Obj.cells #[Value.int IntKind.u64 0, Value.int IntKind.u64 (beh f t)] 49) = y at *
  have hs2 := hX.size
  clear hY hX
  repeat ((first
    | (refine Run.takes (v := ?_) ?_ ?_; rotate_left; (· intro w' hS'; go_simp; (try with_reducible rfl)))
    | (refine Run.takesG (v := ?_) ?_ ?_ ?_; rotate_left; (· simp only [List.getElem?_cons_zero, List.getElem?_cons_succ]); (· intro w' hS'; go_simp; (try with_reducible rfl)))
    | (refine Run.skipsT ?_ ?_; (· simp only [List.getElem?_cons_zero, List.getElem?_cons_succ]))
    | (refine Run.skipsF ?_ ?_; (· simp only [List.getElem?_cons_zero, List.getElem?_cons_succ]))
    | (refine Run.skipsU ?_ ?_; (· simp only [List.getElem?_cons_zero, List.getElem?_cons_succ]))
    | (refine Run.passT ?_ ?_; (· simp only [List.getElem?_cons_zero, List.getElem?_cons_succ]))
    | (refine Run.passF ?_ ?_; (· simp only [List.getElem?_cons_zero, List.getElem?_cons_succ]))
    | (refine Run.passU ?_ ?_; (· simp only [List.getElem?_cons_zero, List.getElem?_cons_succ]))
    | fail); simp only [Act.put, List.setIfInBounds_toArray, List.set_cons_zero, List.set_cons_succ])
  refine Run.runs (Run.one (fun hS K hK => ?_))
  go_simp
  have hX : Below y.heap.size y (y.alloc (Obj.cells #[Value.int IntKind.u32 f, Value.int IntKind.u32 t, .slice (some ⟨w'.heap.size, 0, none⟩) 1 1] 52)) := more (Below.refl _ _) _
  refine hK.out _ _ ⟨kc hX hS.1, kc hX hS.2.1, nest hS.2.2 hX⟩ ?_
  clear hK K
  repeat ((first
    | (refine Run.takes (v := ?_) ?_ ?_; rotate_left; (· intro w' hS'; go_simp; (try with_reducible rfl)))
    | (refine Run.takesG (v := ?_) ?_ ?_ ?_; rotate_left; (· simp only [List.getElem?_cons_zero, List.getElem?_cons_succ]); (· intro w' hS'; go_simp; (try with_reducible rfl)))
    | (refine Run.skipsT ?_ ?_; (· simp only [List.getElem?_cons_zero, List.getElem?_cons_succ]))
    | (refine Run.skipsF ?_ ?_; (· simp only [List.getElem?_cons_zero, List.getElem?_cons_succ]))
    | (refine Run.skipsU ?_ ?_; (· simp only [List.getElem?_cons_zero, List.getElem?_cons_succ]))
    | (refine Run.passT ?_ ?_; (· simp only [List.getElem?_cons_zero, List.getElem?_cons_succ]))
    | (refine Run.passF ?_ ?_; (· simp only [List.getElem?_cons_zero, List.getElem?_cons_succ]))
    | (refine Run.passU ?_ ?_; (· simp only [List.getElem?_cons_zero, List.getElem?_cons_succ]))
    | fail); simp only [Act.put, List.setIfInBounds_toArray, List.set_cons_zero, List.set_cons_succ])
  refine Run.ends (fun hS2 => ?_)
  go_wp2_with fail
  go_ret
  exact ⟨y.heap.size, rfl, ⟨Nat.le_trans hs hs2, _, Blk.new _ _ _, hr.keep hX⟩, nest hb0 hS2.2.2⟩

theorem cleft_nil (w : World) : Calls Try.prog 12 #[.pointer none] w fun e w' => e = .returned (.int .u64 0) ∧ Below w.heap.size w w' := by
  go_enter Try.func12, Try.ntmps12
  go_wp2
  go_ret
  exact ⟨rfl, Below.refl _ _⟩

set_option maxHeartbeats 1000000 in
theorem cleft_any (B b : Nat) (f t n : Int) (l : List (Int × Int)) (w : World) (h : CoverAt B w b f t l) (hn : Norm n 0 l) (hn0 : 0 ≤ n ∧ n ≤ 4294967296) :
    Calls Try.prog 12 #[.pointer (some ⟨b, 0, none⟩)] w fun e w' => e = .returned (.int .u64 (sumL l)) ∧ Below w.heap.size w w' := by
  obtain ⟨_, v, hblk, hrow⟩ := h
  have hlen := hn.len hn0.1
  obtain ⟨a, g, c, rfl, hlc, hcm, ha, hc⟩ := hrow.loop
  have HA := Lib.hid ha
  have HC := Lib.hid hc
  have HN := Lib.hid hn
  have hv : w.cell? ⟨b, 2, none⟩ = some (.slice a l.length c) := hblk.cell 2
  clear ha hc hrow hn hblk hlc hcm
  go_enter Try.func12, Try.ntmps12
  go_wp2_with fail
  go_loopw [3, 13] (fun s i wr => ∃ k : Nat, k ≤ l.length ∧ i = .int .i64 k ∧ s = .int .u64 (sumL (l.take k)) ∧ Below w.heap.size w wr) (fun _ i _ => l.length - (intOf i).toNat)
  case atStart => exact ⟨0, Nat.zero_le _, rfl, by simp [sumL_nil], Below.refl _ _⟩
  case round =>
    obtain ⟨k, hk, rfl, rfl, hb⟩ := hrel
    by_cases hlt : k < l.length
    · obtain ⟨rfl, hg⟩ := HA.out (by omega)
      have d1 := (hb.cell (p := ⟨g, k * 2, none⟩) hg).trans (HC.out k hlt).1
      have d2 := (hb.cell (p := ⟨g, k * 2 + 1, none⟩) hg).trans (HC.out k hlt).2
      have b1 := HN.out.at hlt
      have b2 := sumL_bd (HN.out.take k) hn0.1
      have b3 := sumL_bd (HN.out.take (k + 1)) hn0.1
      have hs := Lib.hid (sumL_take hlt)
      rw [sumL_take hlt] at b3
      generalize (l.getD k (0, 0)).1 = x at *
      generalize (l.getD k (0, 0)).2 = y at *
      generalize sumL (l.take k) = s at *
      go_wp2
      go_roundw
      case rel => exact ⟨k + 1, by omega, by go_num, by rw [hs.out], more hb _⟩
      case measure => simp [intOf]; omega
    · have hkn : k = l.length := by omega
      subst hkn
      rw [List.take_length]
      go_wp2
      go_ret
      exact ⟨rfl, hb⟩

theorem cwhole_nil (w : World) : Calls Try.prog 17 #[.pointer none] w fun e w' => e = .returned (.bool false) ∧ Below w.heap.size w w' := by
  go_enter Try.func17, Try.ntmps17
  go_wp2
  go_ret
  exact ⟨rfl, Below.refl _ _⟩
theorem cwhole_any (B b : Nat) (f t : Int) (l : List (Int × Int)) (w : World) (h : CoverAt B w b f t l) :
    Calls Try.prog 17 #[.pointer (some ⟨b, 0, none⟩)] w fun e w' => e = .returned (.bool (decide (l.length = 0))) ∧ Below w.heap.size w w' := by
  obtain ⟨_, v, hblk, hrow⟩ := h
  obtain ⟨a, c, rfl, _, _⟩ := hrow.rd.form
  have hv : w.cell? ⟨b, 2, none⟩ = some (.slice a l.length c) := hblk.cell 2
  clear hrow hblk
  go_enter Try.func17, Try.ntmps17
  go_wp2
  go_ret
  exact ⟨congrArg (fun b => Ending.returned (.bool b)) (show ((l.length : Int) == 0) = decide (l.length = 0) by rw [Bool.eq_iff_iff]; simp), Below.refl _ _⟩
end Go.Proofs.Ytbdijeekekaibaa
