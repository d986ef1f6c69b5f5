/- Walk of CircleHalves. -/
import Derived.Test.YtcpfdnndhgofgaaSpan
namespace Go.Proofs.Ytcpfdnndhgofgaa.circleHalves
open Go.RowKit Cir
set_option linter.unusedSimpArgs false

theorem few (f t : Int) (bf : 0 ≤ f ∧ f ≤ 4294967295) (h : beh f t < 2) (w : World) :
    Calls Try.prog 7 #[.agg #[.int .u32 f, .int .u32 t]] w fun e w' => e = .returned (.bool true) ∧ Below w.heap.size w w' := by
  have b2 := beh_bd f t
  have e1 : (mid f t == f) = true := by have : mid f t = f := by unfold mid; omega
                                        rw [this]; simp
  go_enter Try.func7, Try.ntmps7
  go_wp2_with (first
    | (go_at_call 14; refine (size_any _ _ _).mono ?_; rintro e w1 ⟨rfl, hk⟩
       have hk1 : Below w.heap.size w w1 := nest (more (Below.refl _ _) _) hk
       have hc0 := kc hk (p := ⟨w.heap.size, 0, none⟩) (x := .int .u32 f) (by simp)
       have hc1 := kc hk (p := ⟨w.heap.size, 1, none⟩) (x := .int .u32 t) (by simp))
    | (go_at_call 18; refine (middle_any _ _ _).mono ?_; rintro e w2 ⟨rfl, hk2⟩
       have hd0 := kc hk2 hc0
       have hd1 := kc hk2 hc1
       clear hc0 hc1)
    | (go_at_call 11; refine (awake_any _).mono ?_; rintro e w3 ⟨rfl, hk3⟩
       have he0 := kc hk3 hd0
       have he1 := kc hk3 hd1
       clear hd0 hd1))
  go_ret
  exact ⟨rfl, nest (nest hk1 hk2) hk3⟩

theorem mid_facts (f t : Int) (_bt : 0 ≤ t ∧ t ≤ 4294967295) (h : 2 ≤ beh f t) :
    far f (mid f t) = beh f t / 2 ∧ beh f (mid f t) = beh f t / 2 ∧ beh (mid f t) t = beh f t - beh f t / 2 ∧ ¬ mid f t = t := by
  unfold beh at h
  refine ⟨?_, ?_, ?_, ?_⟩ <;> unfold mid beh <;> (try unfold far) <;> omega
theorem meet_none (f t : Int) (bt : 0 ≤ t ∧ t ≤ 4294967295) (h : 2 ≤ beh f t) : meetL f (mid f t) (mid f t) t = [] := by
  obtain ⟨h1, h2, h3, h4⟩ := mid_facts f t bt h
  have b := beh_bd f t
  unfold meetL
  rw [if_neg h4, h1, h3, if_pos (by omega)]
  unfold cutL cutHi
  rw [h2, if_pos]
  split <;> omega
theorem meet_halves (f t : Int) (bt : 0 ≤ t ∧ t ≤ 4294967295) (h : 2 ≤ beh f t) (w : World) :
    Calls Try.prog 21 #[.agg #[.int .u32 f, .int .u32 (mid f t)], .agg #[.int .u32 (mid f t), .int .u32 t]] w (CutPost w.heap.size w []) := by
  have := meet_any f (mid f t) (mid f t) t w
  rwa [meet_none f t bt h] at this

set_option maxHeartbeats 1000000 in
theorem many (f t : Int) (bt : 0 ≤ t ∧ t ≤ 4294967295) (h : 2 ≤ beh f t) (w : World) :
    Calls Try.prog 7 #[.agg #[.int .u32 f, .int .u32 t]] w fun e w' => e = .returned (.bool true) ∧ Below w.heap.size w w' := by
  have b2 := beh_bd f t
  have q1 : (beh f (mid f t) == beh f t / 2) = true := by rw [(mid_facts f t bt h).2.1]; simp
  have q2 : (beh (mid f t) t == beh f t - beh f t / 2) = true := by rw [(mid_facts f t bt h).2.2.1]; simp
  go_enter Try.func7, Try.ntmps7
  go_wp2_with (first
    | (go_at_call 14; refine (size_any _ _ _).mono ?_; rintro e w1 ⟨rfl, hk⟩
       have hk1 : Below w.heap.size w w1 := nest (more (Below.refl _ _) _) hk
       have hc0 := kc hk (p := ⟨w.heap.size, 0, none⟩) (x := .int .u32 f) (by simp)
       have hc1 := kc hk (p := ⟨w.heap.size, 1, none⟩) (x := .int .u32 t) (by simp))
    | (go_at_call 18; refine (middle_any _ _ _).mono ?_; rintro e w2 ⟨rfl, hk2⟩
       have hd0 := kc hk2 hc0
       have hd1 := kc hk2 hc1
       clear hc0 hc1))
  have hlt : w.heap.size < w2.heap.size := World.block_lt_of_cell? _ _ hd0
  have a0 : ∀ o, (w2.alloc o).cell? ⟨w.heap.size, 0, none⟩ = some (.int .u32 f) := fun o => (World.cell?_alloc_lt _ _ _ hlt).trans hd0
  have a1 : ∀ o, (w2.alloc o).cell? ⟨w.heap.size, 1, none⟩ = some (.int .u32 t) := fun o => (World.cell?_alloc_lt _ _ _ hlt).trans hd1
  have a2 : ∀ o o', ((w2.alloc o).alloc o').cell? ⟨w.heap.size, 0, none⟩ = some (.int .u32 f) := fun o o' => (World.cell?_alloc_lt _ _ _ (Nat.lt_succ_of_lt hlt |> fun h => by simpa using h)).trans (a0 o)
  have a3 : ∀ o o', ((w2.alloc o).alloc o').cell? ⟨w.heap.size, 1, none⟩ = some (.int .u32 t) := fun o o' => (World.cell?_alloc_lt _ _ _ (Nat.lt_succ_of_lt hlt |> fun h => by simpa using h)).trans (a1 o)
  go_region
  · go_wp2_with fail
    refine (awake_any _).mono ?_
    rintro e w3 ⟨rfl, hk3⟩
    have hk4 : Below w.heap.size w w3 := nest (nest (nest hk1 hk2) (more (more (Below.refl _ _) _) _).drew) hk3
    have g0 := kc hk3 (p := ⟨w2.heap.size, 0, none⟩) (x := .int .u32 f) (by simp)
    have g1 := kc hk3 (p := ⟨w2.heap.size, 1, none⟩) (x := .int .u32 (mid f t)) (by simp)
    have g2 := kc hk3 (p := ⟨w2.heap.size + 1, 0, none⟩) (x := .int .u32 (mid f t)) (by simp)
    have g3 := kc hk3 (p := ⟨w2.heap.size + 1, 1, none⟩) (x := .int .u32 t) (by simp)
    go_wp2_with (first
      | (go_at_call 14; have _h := g0; clear _h; refine (size_any _ _ _).mono ?_; rintro e w4 ⟨rfl, hk5⟩
         have r0 := kc hk5 g0
         have r1 := kc hk5 g1
         have r2 := kc hk5 g2
         have r3 := kc hk5 g3
         clear g0 g1 g2 g3)
      | (go_at_call 14; refine (size_any _ _ _).mono ?_; rintro e w5 ⟨rfl, hk6⟩
         have s0 := kc hk6 r0
         have s1 := kc hk6 r1
         have s2 := kc hk6 r2
         have s3 := kc hk6 r3
         clear r0 r1 r2 r3)
      | (go_at_call 21; refine (meet_halves f t bt h _).mono ?_; rintro e w6 ⟨v, rfl, ho, hk7⟩; obtain ⟨a, c, rfl⟩ := ho.form))
    go_ret
    exact ⟨rfl, nest (nest (nest hk4 hk5) hk6) hk7⟩
  · go_wp2_with fail
    refine (awake_any _).mono ?_
    rintro e w3 ⟨rfl, hk3⟩
    have hk4 : Below w.heap.size w w3 := nest (nest (nest hk1 hk2) (more (more (Below.refl _ _) _) _).drew) hk3
    have g0 := kc hk3 (p := ⟨w2.heap.size + 1, 0, none⟩) (x := .int .u32 f) (by simp)
    have g1 := kc hk3 (p := ⟨w2.heap.size + 1, 1, none⟩) (x := .int .u32 (mid f t)) (by simp)
    have g2 := kc hk3 (p := ⟨w2.heap.size, 0, none⟩) (x := .int .u32 (mid f t)) (by simp)
    have g3 := kc hk3 (p := ⟨w2.heap.size, 1, none⟩) (x := .int .u32 t) (by simp)
    go_wp2_with (first
      | (go_at_call 14; have _h := g0; clear _h; refine (size_any _ _ _).mono ?_; rintro e w4 ⟨rfl, hk5⟩
         have r0 := kc hk5 g0
         have r1 := kc hk5 g1
         have r2 := kc hk5 g2
         have r3 := kc hk5 g3
         clear g0 g1 g2 g3)
      | (go_at_call 14; refine (size_any _ _ _).mono ?_; rintro e w5 ⟨rfl, hk6⟩
         have s0 := kc hk6 r0
         have s1 := kc hk6 r1
         have s2 := kc hk6 r2
         have s3 := kc hk6 r3
         clear r0 r1 r2 r3)
      | (go_at_call 21; refine (meet_halves f t bt h _).mono ?_; rintro e w6 ⟨v, rfl, ho, hk7⟩; obtain ⟨a, c, rfl⟩ := ho.form))
    go_ret
    exact ⟨rfl, nest (nest (nest hk4 hk5) hk6) hk7⟩

theorem walk (f t : Int) (bf : 0 ≤ f ∧ f ≤ 4294967295) (bt : 0 ≤ t ∧ t ≤ 4294967295) (w : World) :
    Calls Try.prog 7 #[.agg #[.int .u32 f, .int .u32 t]] w fun e w' => e = .returned (.bool true) ∧ Below w.heap.size w w' := by
  by_cases h : beh f t < 2
  · exact few f t bf h w
  · exact many f t bt (by omega) w
end Go.Proofs.Ytcpfdnndhgofgaa.circleHalves
