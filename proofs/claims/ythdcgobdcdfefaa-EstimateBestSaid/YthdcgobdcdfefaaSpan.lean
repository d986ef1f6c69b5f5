/- Walks of package circle's calls that hand out spans. -/
import Derived.Test.YthdcgobdcdfefaaWalk
import Derived.Test.YthdcgobdcdfefaaRun
import Derived.Test.YthdcgobdcdfefaaCirclePlans
import Derived.Laws.AppendOwn
import Derived.OwnWalk
import Derived.Deep.DeepMust
import Derived.Deep.AppendLies
set_option maxRecDepth 4000
namespace Go.Proofs.Ythdcgobdcdfefaa
open Go.RowKit Cir
set_option linter.unusedSimpArgs false

/-- the cells of a list of spans -/
def flat (l : List (Int × Int)) : List Value := l.flatMap fun s => [.int .u32 s.1, .int .u32 s.2]
/-- the slice v, in blocks from B on, reads as l -/
def SpansAt (B : Nat) (w : World) (v : Value) (l : List (Int × Int)) : Prop := w.ownsRow B 46 2 v l.length (flat l)
theorem kc {a b : World} (k : Below a.heap.size a b) {p : Addr} {x : Value} (h : a.cell? p = some x) : b.cell? p = some x :=
  (k.cell (World.block_lt_of_cell? a p h)).trans h
theorem spanInfo : (Try.prog.info? 46).map (fun i => (i.zero, i.size, i.bytes)) = some (some (.agg #[.int .u32 0, .int .u32 0]), 2, 8) := by kernel_rfl

theorem SpansAt.below {B : Nat} {w w' : World} {v : Value} {l : List (Int × Int)} (h : SpansAt B w v l) (k : Below w.heap.size w w') : SpansAt B w' v l := by
  obtain ⟨h1, h2⟩ := h
  refine ⟨h1, ?_⟩
  rcases h2 with h2 | ⟨g, cap, cur, hv, hg, hc, hr⟩
  · exact .inl h2
  · have hlt : g < w.heap.size := (Array.getElem?_eq_some_iff.1 hc).1
    exact .inr ⟨g, cap, cur, hv, hg, (k.block g hlt).trans hc, hr⟩
theorem SpansAt.nil (B : Nat) (w : World) : SpansAt B w (.slice none 0 0) [] := ⟨rfl, .inl ⟨rfl, rfl⟩⟩
theorem SpansAt.made (B n : Nat) (W : World) (f t : Int) (hB : B ≤ W.heap.size) (hn : n = W.heap.size) : SpansAt B (W.alloc (Obj.cells #[Value.int IntKind.u32 f, Value.int IntKind.u32 t] 46)) (.slice (some ⟨n, 0, none⟩) 1 1) [(f, t)] := by
  subst hn
  exact ⟨rfl, .inr ⟨W.heap.size, 1, #[Value.int IntKind.u32 f, Value.int IntKind.u32 t], rfl, hB, heap_alloc_new W _, Nat.le_refl _, by unfold maxLen; omega, rfl, rfl⟩⟩
theorem SpansAt.mono {B B' : Nat} {w : World} {v : Value} {l : List (Int × Int)} (h : SpansAt B' w v l) (hB : B ≤ B') : SpansAt B w v l := by
  obtain ⟨h1, h2⟩ := h
  refine ⟨h1, ?_⟩
  rcases h2 with h2 | ⟨g, cap, cur, hv, hg, hr⟩
  · exact .inl h2
  · exact .inr ⟨g, cap, cur, hv, Nat.le_trans hB hg, hr⟩
/-- two cells of blocks below B, kept behind a call that writes from B on -/
theorem keptB {B : Nat} {W a b : World} {p q : Addr} {x y : Value} (h : a.cell? p = some x ∧ a.cell? q = some y ∧ Below B W a) (k : Below B a b) (hp : p.block < B) (hq : q.block < B) :
    b.cell? p = some x ∧ b.cell? q = some y ∧ Below B W b := ⟨(k.cell hp).trans h.1, (k.cell hq).trans h.2.1, h.2.2.trans k⟩
theorem SpansAt.form {B : Nat} {w : World} {v : Value} {l : List (Int × Int)} (h : SpansAt B w v l) : ∃ a c, v = .slice a l.length c := by
  rcases h.2 with ⟨hv, hn⟩ | ⟨g, cap, cur, hv, _⟩
  · exact ⟨none, 0, by rw [hn]; exact hv⟩
  · exact ⟨_, cap, hv⟩
theorem flat_snoc (l : List (Int × Int)) (a b : Int) : flat (l ++ [(a, b)]) = flat l ++ [.int .u32 a, .int .u32 b] := by simp [flat]

def CutPost (B : Nat) (w : World) (l : List (Int × Int)) (e : Ending) (w' : World) : Prop := ∃ v, e = .returned v ∧ SpansAt B w' v l ∧ Below B w w'

theorem cut_none (B : Nat) (v : Value) (l : List (Int × Int)) (f t a b m : Int) (w : World) (hm : (if beh f t < b then beh f t else b) = m) (hown : SpansAt B w v l) (hB : B ≤ w.heap.size) (h : m ≤ a) :
    Calls Try.prog 41 #[v, .agg #[.int .u32 f, .int .u32 t], .int .u64 a, .int .u64 b] w (CutPost B w l) := by
  have b1 := beh_bd f t
  go_enter Try.func41, Try.ntmps41
  go_wp2_with (go_at_call 20; refine (size_any _ _ _).mono ?_; rintro e w' ⟨rfl, hk⟩)
  go_ret
  have hk1 : Below w.heap.size w w' := nest (more (Below.refl _ _) _) hk
  exact ⟨v, rfl, hown.below hk1, hk1.mono hB⟩

theorem cut_some (B : Nat) (v : Value) (l : List (Int × Int)) (f t a b m : Int) (w : World) (hm : (if beh f t < b then beh f t else b) = m) (hown : SpansAt B w v l) (hB : B ≤ w.heap.size) (hl : l.length ≤ 1000) (ha : 0 ≤ a)
    (hm1 : m ≤ 4294967296) (h : a < m) :
    Calls Try.prog 41 #[v, .agg #[.int .u32 f, .int .u32 t], .int .u64 a, .int .u64 b] w (CutPost B w (l ++ [((f + a) % 4294967296, (f + m) % 4294967296)])) := by
  have b1 := beh_bd f t
  obtain ⟨i0, hi, hz0, hz1, hz2⟩ := info_parts spanInfo
  go_enter Try.func41, Try.ntmps41
  go_wp2_with (first
    | (go_at_call 20; refine (size_any _ _ _).mono ?_; rintro e w' ⟨rfl, hk⟩
       have hk1 : Below w.heap.size w w' := nest (more (Below.refl _ _) _) hk
       have hown1 : w'.ownsRow B 46 2 v l.length (flat l) := hown.below hk1
       have hc0 := kc hk (p := ⟨w.heap.size, 0, none⟩) (x := .int .u32 f) (by simp)
       have hc1 := kc hk (p := ⟨w.heap.size, 1, none⟩) (x := .int .u32 t) (by simp)
       clear hown)
    | (at_builtin; go_must (refine wpList_append_own _ rfl (.tmp 17) (.tmp 29) 58 rfl B 46 i0 (.agg #[.int .u32 0, .int .u32 0]) 2 8 Try.underlying58 hi hz0 hz1 hz2 rfl (Nat.zero_lt_two) v l.length (flat l) rfl (hown1.alloc _) ⟨w'.heap.size, 0, none⟩ 1 1 [.int .u32 ((f + a) % 4294967296), .int .u32 ((f + m) % 4294967296)] rfl rfl ?c1 ?c2 ?c3 ?c4 ?c5 ?c6)))
  case c1 => exact World.news_of_block (cs := #[.int .u32 ((f + a) % 4294967296), .int .u32 ((f + m) % 4294967296)]) (t := 46) (fr := (0, 0)) (heap_alloc_new w' _)
  case c2 => simp [Value.oneCell']
  case c3 => unfold maxLen; omega
  case c4 => omega
  case c5 => have := hk1.size; simp; omega
  case c6 =>
    intro v' w1 hown2 hgrow _
    have hown3 : SpansAt B w1 v' (l ++ [((f + a) % 4294967296, (f + m) % 4294967296)]) := by
      unfold SpansAt
      rw [flat_snoc, List.length_append]
      exact hown2
    have hk3 : Below B w w1 := ((hk1.mono hB).alloc (Nat.le_trans hB hk1.size) _).grown hgrow (by have := hk1.size; simp; omega) (fun k hk' => (World.ownsRow.lt hown1 k hk').1)
    clear hown2 hgrow
    go_wp2
    go_ret
    exact ⟨v', rfl, hown3, hk3⟩

theorem cut_any (B : Nat) (v : Value) (l : List (Int × Int)) (f t a b : Int) (w : World) (hown : SpansAt B w v l) (hB : B ≤ w.heap.size) (hl : l.length ≤ 1000) (ha : 0 ≤ a) (hb : 0 ≤ b) :
    Calls Try.prog 41 #[v, .agg #[.int .u32 f, .int .u32 t], .int .u64 a, .int .u64 b] w (CutPost B w (l ++ cutL f t a b)) := by
  have hh := cutHi_bd f t b hb
  have b1 := beh_bd f t
  by_cases h : cutHi f t b ≤ a
  · have e : cutL f t a b = [] := by unfold cutL; rw [if_pos h]
    rw [e, List.append_nil]
    exact cut_none B v l f t a b (cutHi f t b) w rfl hown hB h
  · have e : cutL f t a b = [((f + a) % 4294967296, (f + cutHi f t b) % 4294967296)] := by unfold cutL; rw [if_neg h]
    rw [e]
    exact cut_some B v l f t a b (cutHi f t b) w rfl hown hB hl ha (by omega) (by omega)

theorem meet_same (f t g : Int) (w : World) :
    Calls Try.prog 37 #[.agg #[.int .u32 f, .int .u32 t], .agg #[.int .u32 g, .int .u32 g]] w (CutPost w.heap.size w [(f, t)]) := by
  go_enter Try.func37, Try.ntmps37
  go_wp2
  go_ret
  exact ⟨_, rfl, SpansAt.made w.heap.size (w.heap.size + 1 + 1) ((w.alloc (Obj.cells #[Value.int IntKind.u32 f, Value.int IntKind.u32 t] 46)).alloc (Obj.cells #[Value.int IntKind.u32 g, Value.int IntKind.u32 g] 46)) f t (by simp; omega) (by simp), more (more (more (Below.refl _ _) _) _) _⟩

theorem meet_fits (f t g u : Int) (w : World) (h : ¬ g = u) (hf : far f g + beh g u ≤ 4294967296) :
    Calls Try.prog 37 #[.agg #[.int .u32 f, .int .u32 t], .agg #[.int .u32 g, .int .u32 u]] w (CutPost w.heap.size w (cutL f t (far f g) (far f g + beh g u))) := by
  have b1 := far_bd f g
  have b2 := beh_bd g u
  have e1 : (g == u) = false := by simpa using h
  go_enter Try.func37, Try.ntmps37
  go_wp2_with (first
    | (go_at_call 40; refine (far_any _ _ _).mono ?_; rintro e w' ⟨rfl, rfl⟩)
    | (go_at_call 20; refine (size_any _ _ _).mono ?_; rintro e w' ⟨rfl, hk⟩
       have hk1 : Below w.heap.size w w' := nest (more (more (Below.refl _ _) _) _) hk
       have hc0 := kc hk (p := ⟨w.heap.size, 0, none⟩) (x := .int .u32 f) (by simp)
       have hc1 := kc hk (p := ⟨w.heap.size, 1, none⟩) (x := .int .u32 t) (by simp))
    | (go_at_call 41; go_must (refine (cut_any w.heap.size _ [] f t (far f g) (far f g + beh g u) _ (SpansAt.nil _ _) hk1.size (by simp) (by omega) (by omega)).mono ?_); rintro e w'' ⟨v, rfl, ho, hk2⟩))
  go_ret
  exact ⟨v, rfl, ho, hk1.trans hk2⟩

theorem meet_over (f t g u : Int) (w : World) (h : ¬ g = u) (hf : 4294967296 < far f g + beh g u) :
    Calls Try.prog 37 #[.agg #[.int .u32 f, .int .u32 t], .agg #[.int .u32 g, .int .u32 u]] w (CutPost w.heap.size w (cutL f t 0 (far f g + beh g u - 4294967296) ++ cutL f t (far f g) 4294967296)) := by
  have b1 := far_bd f g
  have b2 := beh_bd g u
  have e1 : (g == u) = false := by simpa using h
  have e2 : IntKind.u64.wrap (far f g + beh g u - 4294967296) = far f g + beh g u - 4294967296 := IntWalk.u64_in _ (by omega)
  go_enter Try.func37, Try.ntmps37
  go_wp2_with (first
    | (go_at_call 40; refine (far_any _ _ _).mono ?_; rintro e w' ⟨rfl, rfl⟩)
    | (go_at_call 20; refine (size_any _ _ _).mono ?_; rintro e w' ⟨rfl, hk⟩
       have hk1 : Below w.heap.size w w' := nest (more (more (Below.refl _ _) _) _) hk
       have hc0 := kc hk (p := ⟨w.heap.size, 0, none⟩) (x := .int .u32 f) (by simp)
       have hc1 := kc hk (p := ⟨w.heap.size, 1, none⟩) (x := .int .u32 t) (by simp)))
  have hlt : w.heap.size < w'.heap.size := by have := hk.size; simp at this; omega
  refine Run.region_walk (S := fun x => x.cell? ⟨w.heap.size, 0, none⟩ = some (.int .u32 f) ∧ x.cell? ⟨w.heap.size, 1, none⟩ = some (.int .u32 t) ∧ Below w'.heap.size w' x)
    meet.rows7 meet.plan7 (l := ?steps1) (by kernel_rfl) (by kernel_rfl) (by kernel_rfl) (by kernel_rfl) ?written1 ⟨hc0, hc1, (Below.refl _ _).drew⟩ ?onward1
  case written1 =>
    simp only [meet.plan7, Run.stepsOf, Run.stepOf, Run.guardOf, List.getElem?_toArray, List.getElem?_cons_zero, List.getElem?_cons_succ, Option.map_some, Option.map_none, Option.bind_some, Option.toList_some, List.map_cons, List.map_nil, List.cons_append, List.nil_append, List.append_eq]
    rfl
  repeat ((first
    | (refine Run.takes (v := ?_) ?_ ?_; rotate_left; (· intro w' hS'; go_simp; (try with_reducible rfl)))
    | (refine Run.takesG (v := ?_) ?_ ?_ ?_; rotate_left; (· simp only [List.getElem?_cons_zero, List.getElem?_cons_succ]); (· intro w' hS'; go_simp; (try with_reducible rfl)))
    | (refine Run.skipsT ?_ ?_; (· simp only [List.getElem?_cons_zero, List.getElem?_cons_succ]))
    | (refine Run.skipsF ?_ ?_; (· simp only [List.getElem?_cons_zero, List.getElem?_cons_succ]))
    | (refine Run.skipsU ?_ ?_; (· simp only [List.getElem?_cons_zero, List.getElem?_cons_succ]))
    | (refine Run.passT ?_ ?_; (· simp only [List.getElem?_cons_zero, List.getElem?_cons_succ]))
    | (refine Run.passF ?_ ?_; (· simp only [List.getElem?_cons_zero, List.getElem?_cons_succ]))
    | (refine Run.passU ?_ ?_; (· simp only [List.getElem?_cons_zero, List.getElem?_cons_succ]))
    | fail); simp only [Act.put, List.setIfInBounds_toArray, List.set_cons_zero, List.set_cons_succ])
  refine Run.runs (Run.callF 41 (by kernel_rfl) (fun _ => cut_any w'.heap.size _ [] f t 0 (far f g + beh g u - 4294967296) _ (SpansAt.nil _ _) (Nat.le_refl _) (by simp) (by omega) (by omega)) rfl ?_)
  rintro hS e x ⟨v1, rfl, ho1, hk2⟩
  have hS1 := keptB hS hk2 hlt hlt
  refine ⟨_, rfl, hS1, ?_⟩
  simp only [Act.put, List.setIfInBounds_toArray, List.set_cons_zero, List.set_cons_succ]
  refine Run.runs (Run.callF 41 (by kernel_rfl) (fun _ => cut_any w'.heap.size _ _ f t (far f g) 4294967296 _ ho1 hS1.2.2.size (Nat.le_trans (cutL_len _ _ _ _) (by omega)) (by omega) (by omega)) rfl ?_)
  rintro _ e y ⟨v2, rfl, ho2, hk3⟩
  refine ⟨_, rfl, keptB hS1 hk3 hlt hlt, ?_⟩
  simp only [Act.put, List.setIfInBounds_toArray, List.set_cons_zero, List.set_cons_succ]
  repeat ((first
    | (refine Run.takes (v := ?_) ?_ ?_; rotate_left; (· intro w' hS'; go_simp; (try with_reducible rfl)))
    | (refine Run.takesG (v := ?_) ?_ ?_ ?_; rotate_left; (· simp only [List.getElem?_cons_zero, List.getElem?_cons_succ]); (· intro w' hS'; go_simp; (try with_reducible rfl)))
    | (refine Run.skipsT ?_ ?_; (· simp only [List.getElem?_cons_zero, List.getElem?_cons_succ]))
    | (refine Run.skipsF ?_ ?_; (· simp only [List.getElem?_cons_zero, List.getElem?_cons_succ]))
    | (refine Run.skipsU ?_ ?_; (· simp only [List.getElem?_cons_zero, List.getElem?_cons_succ]))
    | (refine Run.passT ?_ ?_; (· simp only [List.getElem?_cons_zero, List.getElem?_cons_succ]))
    | (refine Run.passF ?_ ?_; (· simp only [List.getElem?_cons_zero, List.getElem?_cons_succ]))
    | (refine Run.passU ?_ ?_; (· simp only [List.getElem?_cons_zero, List.getElem?_cons_succ]))
    | fail); simp only [Act.put, List.setIfInBounds_toArray, List.set_cons_zero, List.set_cons_succ])
  refine Run.ends (fun hS2 => ?_)
  go_wp2_with fail
  go_ret
  exact ⟨v2, rfl, ho2.mono hk1.size, hk1.trans (hS2.2.2.mono hk1.size)⟩

theorem meet_any (f t g u : Int) (w : World) :
    Calls Try.prog 37 #[.agg #[.int .u32 f, .int .u32 t], .agg #[.int .u32 g, .int .u32 u]] w (CutPost w.heap.size w (meetL f t g u)) := by
  by_cases h : g = u
  · subst h
    have e : meetL f t g g = [(f, t)] := by unfold meetL; rw [if_pos rfl]
    rw [e]; exact meet_same f t g w
  · by_cases hf : far f g + beh g u ≤ 4294967296
    · have e : meetL f t g u = cutL f t (far f g) (far f g + beh g u) := by unfold meetL; rw [if_neg h, if_pos hf]
      rw [e]; exact meet_fits f t g u w h hf
    · have e : meetL f t g u = cutL f t 0 (far f g + beh g u - 4294967296) ++ cutL f t (far f g) 4294967296 := by unfold meetL; rw [if_neg h, if_neg hf]
      rw [e]; exact meet_over f t g u w h (by omega)

end Go.Proofs.Ythdcgobdcdfefaa
