/- Walk of the law RecordWrong. -/
import Derived.Test.YtjjgckbjoficgaaRecAwake
import Derived.Test.YtjjgckbjoficgaaSameU
import Derived.Test.YtjjgckbjoficgaaOwnU
import Derived.Test.YtjjgckbjoficgaaStructs
import Derived.Test.YtjjgckbjoficgaaPages
import Derived.Deep.RegionHeld3
namespace Go.Proofs.Ytjjgckbjoficgaa.recordWrong
open Go.RowKit Mem
set_option linter.unusedSimpArgs false
set_option linter.unusedVariables false
attribute [local irreducible] Go.Calls

theorem record_info : (Try.prog.info? 26).map (·.size) = some 3 := by kernel_rfl
theorem u64_nonneg (x : Int) : 0 ≤ IntKind.u64.wrap x := by rw [IntKind.wrap_u64]; omega
theorem rem8 (x : Int) : ∃ a : Nat, a < 8 ∧ (IntKind.u64.wrap x).tmod 8 = (a : Int) :=
  ⟨((IntKind.u64.wrap x).tmod 8).toNat, by have := Int.tmod_lt_of_pos (IntKind.u64.wrap x) (show (0 : Int) < 8 by decide); have := Int.tmod_nonneg 8 (u64_nonneg x); omega, by have := Int.tmod_nonneg 8 (u64_nonneg x); omega⟩
theorem make_u32 (m : Nat) (hm : m ≤ 100) (x : Int) (hx : x = m) (w : World) : (Instr.makeSlice 24 (.int .i64 x) (.int .i64 x)).run Try.prog w = .ok (.slice (some ⟨w.heap.size, 0, none⟩) m m) (w.alloc (.cells (madeCells #[.int .u32 0] m) 22)) := by
  subst hx
  exact Go.run_make_row' 24 22 (.int .u32 0) 4 Try.underlying24 (by kernel_rfl) rfl .i64 .i64 m (by omega) (by omega) w
theorem flat_rep (m : Nat) : (intE .u32).flat (List.replicate m 0) = List.replicate m (.int .u32 0) := by
  induction m with
  | zero => rfl
  | succ m ih => rw [List.replicate_succ, Enc.flat_cons, ih, List.replicate_succ]; rfl
theorem made_rd (Z : World) (m : Nat) (hm : m ≤ 100) {g : Nat} (hg : g = Z.heap.size) : Rd (intE .u32) (Z.alloc (.cells (madeCells #[.int .u32 0] m) 22)) (.slice (some ⟨g, 0, none⟩) m m) (List.replicate m 0) :=
  (Row.lit (E := intE .u32) (T := 22) 0 Z (madeCells #[.int .u32 0] m) (List.replicate m 0) m g (by rw [flat_rep]; exact Go.toList_madeCells_one _ _) (by simp) hg (Nat.zero_le _) (by rw [List.length_replicate]; unfold maxLen; omega)).rd
theorem right_good (n : Nat) (id vv : Int) (hn : n < 8) (hid : 0 ≤ id ∧ id < 68719476736) (hv : 1 ≤ vv) : rightV (1 + (n : Int)) id vv (n + 1) = true := by
  unfold rightV clientV
  rw [if_neg (by omega)]
  simp only [Bool.and_eq_true, decide_eq_true_eq]
  omega
theorem right_len (n m : Nat) (id vv : Int) (h : m ≠ n + 1) : rightV (1 + (n : Int)) id vv m = false := by
  have e : decide ((m : Int) = 1 + (n : Int)) = false := decide_eq_false (by omega)
  unfold rightV
  rw [e]
  simp
theorem right_ver (a id : Int) (m : Nat) : rightV a id 0 m = false := by unfold rightV; simp
theorem right_who (a id vv : Int) (m : Nat) (hid : 0 ≤ id) : rightV a (id + 68719476736) vv m = false := by
  have e : clientV (id + 68719476736) = -1 := if_pos (by omega)
  unfold rightV
  rw [e]
  simp
theorem right_zero (id vv : Int) (m : Nat) : rightV 0 id vv m = false := by unfold rightV; simp
theorem right_nine (id vv : Int) (m : Nat) : rightV 9 id vv m = false := by unfold rightV; simp
theorem same_good (id vv : Int) (l : List Int) : sameV id vv l id vv l = true := by unfold sameV; simp
theorem same_more (id vv : Int) (n : Nat) : sameV id vv (List.replicate (n + 1) 0) id vv (List.replicate (n + 2) 0) = false := by
  have e : decide (List.replicate (n + 1) (0 : Int) = List.replicate (n + 2) 0) = false := decide_eq_false (fun e => by
    have := congrArg List.length e
    simp at this)
  unfold sameV
  rw [e]
  simp
/-- the frames behind the two statements whose order is open -/
def fr4 (i1 v1 : Int) (a1 : Option Addr) (l c1 n b0 b5 g5 : Nat) (attrs id vv : Int) : Act := { tmps := #[.agg #[.int .u64 i1, .int .u64 v1, .slice a1 l c1], .int .i64 (1 + (n : Int)), .pointer (some ⟨b0, 0, none⟩), undef, .bool false, .pointer (some ⟨b5, 0, none⟩), undef, undef, undef, undef, .int .i64 attrs, .int .u64 (IntKind.u64.wrap attrs), .int .u64 n, .int .i64 n, .int .i64 (1 + (n : Int)), .pointer (some ⟨b0, 2, none⟩), .slice a1 l c1, .int .i64 l, .bool false, undef, .pointer (some ⟨b0, 0, none⟩), .int .u64 i1, .int .u64 id, .pointer (some ⟨b0, 1, none⟩), .int .u64 v1, .int .u64 (v1 / 2), .int .u64 vv, .int .i64 (1 + (n : Int)), .slice (some ⟨g5, 0, none⟩) (n + 1) (n + 1), .agg #[.int .u64 id, .int .u64 vv, .slice (some ⟨g5, 0, none⟩) (n + 1) (n + 1)], undef, undef, undef, undef, undef, undef, undef, undef, undef, undef, undef, undef, undef, undef, undef, undef, undef, undef, undef, undef, undef, undef, undef, undef, undef, undef, undef, undef, undef, undef, undef, undef, undef, undef, undef, undef, undef, undef, undef, undef, undef, undef, undef, undef, undef, undef, undef, undef, undef, undef, undef, undef, undef, undef, undef, undef, undef, undef, undef, undef, undef, undef, undef, undef, undef, undef, undef, undef], defers := [] }
def fr5 (i1 v1 : Int) (a1 : Option Addr) (l c1 n b0 b5 g5 : Nat) (attrs id vv : Int) (b6 b7 b8 b9 : Nat) : Act := { tmps := #[.agg #[.int .u64 i1, .int .u64 v1, .slice a1 l c1], .int .i64 (1 + (n : Int)), .pointer (some ⟨b0, 0, none⟩), undef, .bool false, .pointer (some ⟨b5, 0, none⟩), .pointer (some ⟨b6, 0, none⟩), .pointer (some ⟨b7, 0, none⟩), .pointer (some ⟨b8, 0, none⟩), .pointer (some ⟨b9, 0, none⟩), .int .i64 attrs, .int .u64 (IntKind.u64.wrap attrs), .int .u64 n, .int .i64 n, .int .i64 (1 + (n : Int)), .pointer (some ⟨b0, 2, none⟩), .slice a1 l c1, .int .i64 l, .bool false, undef, .pointer (some ⟨b0, 0, none⟩), .int .u64 i1, .int .u64 id, .pointer (some ⟨b0, 1, none⟩), .int .u64 v1, .int .u64 (v1 / 2), .int .u64 vv, .int .i64 (1 + (n : Int)), .slice (some ⟨g5, 0, none⟩) (n + 1) (n + 1), .agg #[.int .u64 id, .int .u64 vv, .slice (some ⟨g5, 0, none⟩) (n + 1) (n + 1)], .agg #[.int .u64 id, .int .u64 vv, .slice (some ⟨g5, 0, none⟩) (n + 1) (n + 1)], .agg #[.int .u64 id, .int .u64 vv, .slice (some ⟨g5, 0, none⟩) (n + 1) (n + 1)], .agg #[.int .u64 id, .int .u64 vv, .slice (some ⟨g5, 0, none⟩) (n + 1) (n + 1)], .agg #[.int .u64 id, .int .u64 vv, .slice (some ⟨g5, 0, none⟩) (n + 1) (n + 1)], undef, undef, undef, undef, undef, undef, undef, undef, undef, undef, undef, undef, undef, undef, undef, undef, undef, undef, undef, undef, undef, undef, undef, undef, undef, undef, undef, undef, undef, undef, undef, undef, undef, undef, undef, undef, undef, undef, undef, undef, undef, undef, undef, undef, undef, undef, undef, undef, undef, undef, undef, undef, undef, undef, undef, undef, undef, undef, undef, undef, undef, undef, undef, undef], defers := [] }
set_option maxHeartbeats 4000000 in
theorem walk (i1 v1 : Int) (s1 : Value) (l1 : List Int) (bi1 : 0 ≤ i1 ∧ i1 ≤ 18446744073709551615) (bv1 : 0 ≤ v1 ∧ v1 ≤ 18446744073709551615)
    (attrs : Int) (ba : -9223372036854775808 ≤ attrs ∧ attrs ≤ 9223372036854775807) (w : World)
    (h1 : Rd (intE .u32) w s1 l1) (hb1 : ∀ x ∈ l1, 0 ≤ x ∧ x ≤ 4294967295) :
    Calls Try.prog 6 #[.agg #[.int .u64 i1, .int .u64 v1, s1], .int .i64 attrs] w fun e w' => e = .returned (.bool true) ∧ Below w.heap.size w w' := by
  obtain ⟨a1, c1, rfl, hc1, hm1⟩ := h1.form
  have hm1' : c1 ≤ 9223372036854775807 := hm1
  obtain ⟨n, hn8, hat⟩ := rem8 attrs
  have hX := more (Below.refl w.heap.size w) (.cells #[.int .u64 i1, .int .u64 v1, .slice a1 l1.length c1] 26)
  by_cases hl1 : l1.length > 50
  · have e1 : (l1.length : Int) > 50 := by omega
    clear h1 hb1
    go_enter Try.func6, Try.ntmps6
    go_wp2_with fail
    refine (ecawake_any _).mono ?_
    rintro e w1 ⟨rfl, hk1⟩
    go_wp2_with fail
    go_ret
    exact ⟨rfl, nest hX hk1⟩
  have e1 : ¬ (l1.length : Int) > 50 := by omega
  clear h1 hb1
  have A1 := Blk.new w 26 #[.int .u64 i1, .int .u64 v1, .slice a1 l1.length c1]
  go_enter Try.func6, Try.ntmps6
  go_wp2_with fail
  have hmk := make_u32 (n + 1) (by omega) (1 + (n : Int)) (by omega)
  obtain ⟨id, hid0, hid1, hid⟩ : ∃ id : Int, 0 ≤ id ∧ id < 68719476736 ∧ i1.tmod 68719476736 = id := ⟨_, Int.tmod_nonneg _ bi1.1, Int.tmod_lt_of_pos _ (by decide), rfl⟩
  obtain ⟨vv, hvv0, hvv⟩ : ∃ vv : Int, (1 ≤ vv ∧ vv ≤ 9223372036854775808) ∧ IntKind.u64.wrap (1 + v1 / 2) = vv := ⟨1 + v1 / 2, by omega, by rw [IntKind.wrap_u64]; omega⟩
  have d0 : (w.alloc (Obj.cells #[.int .u64 i1, .int .u64 v1, .slice a1 l1.length c1] 26)).cell? ⟨w.heap.size, 0, none⟩ = some (.int .u64 i1) := A1.cell 0
  have d1 : (w.alloc (Obj.cells #[.int .u64 i1, .int .u64 v1, .slice a1 l1.length c1] 26)).cell? ⟨w.heap.size, 1, none⟩ = some (.int .u64 v1) := A1.cell 1
  have HX := Lib.hid hX
  clear hX
  generalize w.alloc (Obj.cells #[.int .u64 i1, .int .u64 v1, .slice a1 l1.length c1] 26) = W at *
  rename_i Q' K hK
  have KEY : ∀ (b5 g5 : Nat) (Z : World), Blk Z b5 26 #[.int .u64 id, .int .u64 vv, .slice (some ⟨g5, 0, none⟩) (n + 1) (n + 1)] → Rd (intE .u32) Z (.slice (some ⟨g5, 0, none⟩) (n + 1) (n + 1)) (List.replicate (n + 1) 0) →
      Below w.heap.size w Z → w.heap.size ≤ b5 → K (fr4 i1 v1 a1 l1.length c1 n w.heap.size b5 g5 attrs id vv) Z := by
    intro b5 g5 Z B5 R5 hZ h5
    dsimp only [fr4]
    refine hK _ _ ?_
    have e0 : Z.cell? ⟨b5, 0, none⟩ = some (.int .u64 id) := B5.cell 0
    have e1 : Z.cell? ⟨b5, 1, none⟩ = some (.int .u64 vv) := B5.cell 1
    have e2 : Z.cell? ⟨b5, 2, none⟩ = some (.slice (some ⟨g5, 0, none⟩) (n + 1) (n + 1)) := B5.cell 2
    go_wp2_with fail
    rename_i K2 hK2
    have KEY5 : ∀ (b6 b7 b8 b9 : Nat) (Y : World), Blk Y b6 26 #[.int .u64 id, .int .u64 vv, .slice (some ⟨g5, 0, none⟩) (n + 1) (n + 1)] → Blk Y b7 26 #[.int .u64 id, .int .u64 vv, .slice (some ⟨g5, 0, none⟩) (n + 1) (n + 1)] → Blk Y b8 26 #[.int .u64 id, .int .u64 vv, .slice (some ⟨g5, 0, none⟩) (n + 1) (n + 1)] → Blk Y b9 26 #[.int .u64 id, .int .u64 vv, .slice (some ⟨g5, 0, none⟩) (n + 1) (n + 1)] →
       Below Z.heap.size Z Y → Z.heap.size ≤ b6 → Z.heap.size ≤ b7 → Z.heap.size ≤ b8 → Z.heap.size ≤ b9 → b6 ≠ b7 → b6 ≠ b8 → b6 ≠ b9 → b7 ≠ b8 → b7 ≠ b9 → b8 ≠ b9 →
       K2 (fr5 i1 v1 a1 l1.length c1 n w.heap.size b5 g5 attrs id vv b6 b7 b8 b9) Y := by
      intro b6 b7 b8 b9 Y B6 B7 B8 B9 hY l6 l7 l8 l9 n67 n68 n69 n78 n79 n89
      dsimp only [fr5]
      refine hK2 _ _ ?_
      have B5' := B5.keep hY
      have R5' := R5.keep hY
      have hZY := nest hZ hY
      have b5lt : b5 < Z.heap.size := B5.lt
      have g5lt : g5 < Z.heap.size := R5.old (by simp) rfl
      clear B5 R5 hZ hY e0 e1 e2
      have hmk2 := make_u32 (n + 2) (by omega) (1 + (n : Int) + 1) (by omega)
      have hmk0 := make_u32 n (by omega) (n : Int) rfl
      have wsub : IntKind.i64.wrap (1 + (n : Int) - 1) = n := by rw [IntKind.wrap_i64]; omega
      -- behind 'more'
      have hA := more (Below.refl Y.heap.size Y) (.cells (madeCells #[.int .u32 0] (n + 2)) 22)
      have f1 : (Y.alloc (.cells (madeCells #[.int .u32 0] (n + 2)) 22)).frozen? ⟨b6, 2, none⟩ = false := (B6.keep hA).frozen 2
      have c1' : (Y.alloc (.cells (madeCells #[.int .u32 0] (n + 2)) 22)).cell? ⟨b6, 2, none⟩ = some (.slice (some ⟨g5, 0, none⟩) (n + 1) (n + 1)) := (B6.keep hA).cell 2
      have hO : Only b6 (Y.alloc (.cells (madeCells #[.int .u32 0] (n + 2)) 22)) ((Y.alloc (.cells (madeCells #[.int .u32 0] (n + 2)) 22)).setCell ⟨b6, 2, none⟩ (.slice (some ⟨Y.heap.size, 0, none⟩) (n + 2) (n + 2))) := Only.set _ _ _
      have B6' := (B6.keep hA).set_ 2 (.slice (some ⟨Y.heap.size, 0, none⟩) (n + 2) (n + 2))
      have B5a := (B5'.keep hA).only hO (by omega)
      have B7a := (B7.keep hA).only hO (by omega)
      have B8a := (B8.keep hA).only hO (by omega)
      have B9a := (B9.keep hA).only hO (by omega)
      have R5a := (R5'.keep hA).only hO (fun e => by have e : some g5 = some b6 := e; injection e with e; omega)
      have R6a := (made_rd Y (n + 2) (by omega) rfl).only hO (fun e => by have e : some Y.heap.size = some b6 := e; injection e with e; have := B6.lt; omega)
      have hYa := (nest hZY hA).trans (hO.below (by omega) (by have := hZY.size; have := hA.size; omega))
      obtain ⟨g6, hg6⟩ : ∃ g6, g6 = Y.heap.size := ⟨_, rfl⟩
      have hg6lt : Z.heap.size ≤ g6 := by have := B6.lt; omega
      have H6 := Lib.hid hg6
      have HNE6 : Hid (g6 ≠ b7 ∧ g6 ≠ b8 ∧ g6 ≠ b9) := Lib.hid (by have := B7.lt; have := B8.lt; have := B9.lt; omega)
      have B6a : Blk _ b6 26 #[.int .u64 id, .int .u64 vv, .slice (some ⟨Y.heap.size, 0, none⟩) (n + 2) (n + 2)] := B6'
      clear B6'
      rw [← hg6] at B5a B6a B7a B8a B9a R5a R6a hYa
      have J5 := Lib.hid B5a
      have J6 := Lib.hid B6a
      have J7 := Lib.hid B7a
      have J8 := Lib.hid B8a
      have J9 := Lib.hid B9a
      have S5 := Lib.hid R5a
      have S6 := Lib.hid R6a
      have HY := Lib.hid hYa
      clear B5a B6a B7a B8a B9a R5a R6a hYa hg6 hO hA B6 B7 B8 B9 B5' R5' hZY
      refine wp_seq_k (fun K3 hK3 => ?_)
      have HK3 := Lib.hid hK3
      clear hK3
      go_wp2_with fail
      refine HK3.out _ _ ?_
      rw [← H6.out]
      generalize (Y.alloc (.cells (madeCells #[.int .u32 0] (n + 2)) 22)).setCell ⟨b6, 2, none⟩ (.slice (some ⟨g6, 0, none⟩) (n + 2) (n + 2)) = Y6 at *
      clear f1 c1' HK3 hmk hmk2
      have hA := more (Below.refl Y6.heap.size Y6) (.cells (madeCells #[.int .u32 0] n) 22)
      have f1 : (Y6.alloc (.cells (madeCells #[.int .u32 0] n) 22)).frozen? ⟨b7, 2, none⟩ = false := (J7.out.keep hA).frozen 2
      have c1' : (Y6.alloc (.cells (madeCells #[.int .u32 0] n) 22)).cell? ⟨b7, 2, none⟩ = some (.slice (some ⟨g5, 0, none⟩) (n + 1) (n + 1)) := (J7.out.keep hA).cell 2
      have hO : Only b7 (Y6.alloc (.cells (madeCells #[.int .u32 0] n) 22)) ((Y6.alloc (.cells (madeCells #[.int .u32 0] n) 22)).setCell ⟨b7, 2, none⟩ (.slice (some ⟨Y6.heap.size, 0, none⟩) n n)) := Only.set _ _ _
      have Bn : Blk ((Y6.alloc (.cells (madeCells #[.int .u32 0] n) 22)).setCell ⟨b7, 2, none⟩ (.slice (some ⟨Y6.heap.size, 0, none⟩) n n)) b7 26 #[.int .u64 id, .int .u64 vv, .slice (some ⟨Y6.heap.size, 0, none⟩) n n] := (J7.out.keep hA).set_ 2 (.slice (some ⟨Y6.heap.size, 0, none⟩) n n)
      have B5a := (J5.out.keep hA).only hO (by omega)
      have B6a := (J6.out.keep hA).only hO (by omega)
      have B8a := (J8.out.keep hA).only hO (by omega)
      have B9a := (J9.out.keep hA).only hO (by omega)
      have R5a := (S5.out.keep hA).only hO (fun e => by have e : some g5 = some b7 := e; injection e with e; omega)
      have R6a := (S6.out.keep hA).only hO (fun e => by have e : some g6 = some b7 := e; injection e with e; have := HNE6.out; omega)
      have hYa := (nest HY.out hA).trans (hO.below (by omega) (by have := HY.out.size; have := hA.size; omega))
      obtain ⟨g7, hg7⟩ : ∃ g7, g7 = Y6.heap.size := ⟨_, rfl⟩
      have H7 := Lib.hid hg7
      rw [← hg7] at Bn B5a B6a B8a B9a R5a R6a hYa
      clear J5 J6 J7 J8 J9 S5 S6 HY
      have J5 := Lib.hid B5a
      have J6 := Lib.hid B6a
      have J7 := Lib.hid Bn
      have J8 := Lib.hid B8a
      have J9 := Lib.hid B9a
      have S5 := Lib.hid R5a
      have S6 := Lib.hid R6a
      have HY := Lib.hid hYa
      clear Bn B5a B6a B8a B9a R5a R6a hYa hO hA hg7
      refine wp_seq_k (fun K3 hK3 => ?_)
      have HK3 := Lib.hid hK3
      clear hK3
      go_wp2_with fail
      refine HK3.out _ _ ?_
      rw [← H7.out]
      generalize (Y6.alloc (.cells (madeCells #[.int .u32 0] n) 22)).setCell ⟨b7, 2, none⟩ (.slice (some ⟨g7, 0, none⟩) n n) = Y7 at *
      clear f1 c1' HK3 wsub hmk0
      have hA := Below.refl Y7.heap.size Y7
      have f1 : (Y7).frozen? ⟨b8, 1, none⟩ = false := (J8.out.keep hA).frozen 1
      have c1' : (Y7).cell? ⟨b8, 1, none⟩ = some (.int .u64 vv) := (J8.out.keep hA).cell 1
      have hO : Only b8 (Y7) ((Y7).setCell ⟨b8, 1, none⟩ (.int .u64 0)) := Only.set _ _ _
      have Bn : Blk ((Y7).setCell ⟨b8, 1, none⟩ (.int .u64 0)) b8 26 #[.int .u64 id, .int .u64 0, .slice (some ⟨g5, 0, none⟩) (n + 1) (n + 1)] := (J8.out.keep hA).set_ 1 (.int .u64 0)
      have B5a := (J5.out.keep hA).only hO (by omega)
      have B6a := (J6.out.keep hA).only hO (by omega)
      have B7a := (J7.out.keep hA).only hO (by omega)
      have B9a := (J9.out.keep hA).only hO (by omega)
      have R5a := (S5.out.keep hA).only hO (fun e => by have e : some g5 = some b8 := e; injection e with e; omega)
      have R6a := (S6.out.keep hA).only hO (fun e => by have e : some g6 = some b8 := e; injection e with e; have := HNE6.out; omega)
      have hYa := (nest HY.out hA).trans (hO.below (by omega) (by have := HY.out.size; have := hA.size; omega))
      clear J5 J6 J7 J8 J9 S5 S6 HY
      have J5 := Lib.hid B5a
      have J6 := Lib.hid B6a
      have J7 := Lib.hid B7a
      have J8 := Lib.hid Bn
      have J9 := Lib.hid B9a
      have S5 := Lib.hid R5a
      have S6 := Lib.hid R6a
      have HY := Lib.hid hYa
      clear Bn B5a B6a B7a B9a R5a R6a hYa hO hA
      refine wp_seq_k (fun K3 hK3 => ?_)
      have HK3 := Lib.hid hK3
      clear hK3
      go_wp2_with fail
      refine HK3.out _ _ ?_
      generalize (Y7).setCell ⟨b8, 1, none⟩ (.int .u64 0) = Y8 at *
      clear f1 c1' HK3
      have c50 : Y8.cell? ⟨b5, 0, none⟩ = some (.int .u64 id) := J5.out.cell 0
      have hA := Below.refl Y8.heap.size Y8
      have f1 : (Y8).frozen? ⟨b9, 0, none⟩ = false := (J9.out.keep hA).frozen 0
      have c1' : (Y8).cell? ⟨b9, 0, none⟩ = some (.int .u64 id) := (J9.out.keep hA).cell 0
      have hO : Only b9 (Y8) ((Y8).setCell ⟨b9, 0, none⟩ (.int .u64 (id + 68719476736))) := Only.set _ _ _
      have Bn : Blk ((Y8).setCell ⟨b9, 0, none⟩ (.int .u64 (id + 68719476736))) b9 26 #[.int .u64 (id + 68719476736), .int .u64 vv, .slice (some ⟨g5, 0, none⟩) (n + 1) (n + 1)] := (J9.out.keep hA).set_ 0 (.int .u64 (id + 68719476736))
      have B5a := (J5.out.keep hA).only hO (by omega)
      have B6a := (J6.out.keep hA).only hO (by omega)
      have B7a := (J7.out.keep hA).only hO (by omega)
      have B8a := (J8.out.keep hA).only hO (by omega)
      have R5a := (S5.out.keep hA).only hO (fun e => by have e : some g5 = some b9 := e; injection e with e; omega)
      have R6a := (S6.out.keep hA).only hO (fun e => by have e : some g6 = some b9 := e; injection e with e; have := HNE6.out; omega)
      have hYa := (nest HY.out hA).trans (hO.below (by omega) (by have := HY.out.size; have := hA.size; omega))
      clear J5 J6 J7 J8 J9 S5 S6 HY
      have J5 := Lib.hid B5a
      have J6 := Lib.hid B6a
      have J7 := Lib.hid B7a
      have J8 := Lib.hid B8a
      have J9 := Lib.hid Bn
      have S5 := Lib.hid R5a
      have S6 := Lib.hid R6a
      have HY := Lib.hid hYa
      clear Bn B5a B6a B7a B8a R5a R6a hYa hO hA
      refine wp_seq_k (fun K3 hK3 => ?_)
      have HK3 := Lib.hid hK3
      clear hK3
      go_wp2_with fail
      refine HK3.out _ _ ?_
      generalize (Y8).setCell ⟨b9, 0, none⟩ (.int .u64 (id + 68719476736)) = Y9 at *
      clear f1 c1' HK3 c50
      have CELLS : Hid (∀ z, Below Y9.heap.size Y9 z → z.cell? ⟨b5, 0, none⟩ = some (.int .u64 id) ∧ z.cell? ⟨b5, 1, none⟩ = some (.int .u64 vv) ∧ z.cell? ⟨b5, 2, none⟩ = some (.slice (some ⟨g5, 0, none⟩) (n + 1) (n + 1)) ∧ z.cell? ⟨b6, 0, none⟩ = some (.int .u64 id) ∧ z.cell? ⟨b6, 1, none⟩ = some (.int .u64 vv) ∧ z.cell? ⟨b6, 2, none⟩ = some (.slice (some ⟨g6, 0, none⟩) (n + 2) (n + 2)) ∧ z.cell? ⟨b7, 0, none⟩ = some (.int .u64 id) ∧ z.cell? ⟨b7, 1, none⟩ = some (.int .u64 vv) ∧ z.cell? ⟨b7, 2, none⟩ = some (.slice (some ⟨g7, 0, none⟩) n n) ∧ z.cell? ⟨b8, 0, none⟩ = some (.int .u64 id) ∧ z.cell? ⟨b8, 1, none⟩ = some (.int .u64 0) ∧ z.cell? ⟨b8, 2, none⟩ = some (.slice (some ⟨g5, 0, none⟩) (n + 1) (n + 1)) ∧ z.cell? ⟨b9, 0, none⟩ = some (.int .u64 (id + 68719476736)) ∧ z.cell? ⟨b9, 1, none⟩ = some (.int .u64 vv) ∧ z.cell? ⟨b9, 2, none⟩ = some (.slice (some ⟨g5, 0, none⟩) (n + 1) (n + 1))) := Lib.hid (fun z hz => ⟨(J5.out.keep hz).cell 0, (J5.out.keep hz).cell 1, (J5.out.keep hz).cell 2, (J6.out.keep hz).cell 0, (J6.out.keep hz).cell 1, (J6.out.keep hz).cell 2, (J7.out.keep hz).cell 0, (J7.out.keep hz).cell 1, (J7.out.keep hz).cell 2, (J8.out.keep hz).cell 0, (J8.out.keep hz).cell 1, (J8.out.keep hz).cell 2, (J9.out.keep hz).cell 0, (J9.out.keep hz).cell 1, (J9.out.keep hz).cell 2⟩)
      have r0 := Lib.hid (right_good n id vv (by omega) (by omega) (by omega))
      have r1 := Lib.hid (right_len n (n + 2) id vv (by omega))
      have r2 := Lib.hid (right_len n n id vv (by omega))
      have r3 := Lib.hid (right_ver (1 + (n : Int)) id (n + 1))
      have r4 := Lib.hid (right_who (1 + (n : Int)) id vv (n + 1) (by omega))
      have r5 := Lib.hid (right_zero id vv n)
      have r6 := Lib.hid (right_nine id vv (n + 1))
      have r7 := Lib.hid (same_good id vv (List.replicate (n + 1) 0))
      have r8 := Lib.hid (same_more id vv n)
      have hid0' : Hid (0 ≤ id ∧ 0 ≤ vv) := Lib.hid (by omega)
      go_wp2_with fail
      refine (ecawake_any Y9).mono ?_
      rintro e z1 ⟨rfl, hb1⟩
      have K1 := Lib.hid hb1
      clear hb1
      obtain ⟨q50, q51, q52, q60, q61, q62, q70, q71, q72, q80, q81, q82, q90, q91, q92⟩ := CELLS.out z1 K1.out
      go_wp2_with fail
      refine (right_any (1 + (n : Int)) id vv hid0'.out.1 hid0'.out.2 _ _ _ _).mono ?_
      rintro e z2 ⟨rfl, hb1⟩
      rw [r0.out]
      have K2 := Lib.hid (nest K1.out hb1)
      clear hb1 q50 q51 q52 q60 q61 q62 q70 q71 q72 q80 q81 q82 q90 q91 q92
      obtain ⟨q50, q51, q52, q60, q61, q62, q70, q71, q72, q80, q81, q82, q90, q91, q92⟩ := CELLS.out z2 K2.out
      go_wp2_with fail
      refine (right_any (1 + (n : Int)) id vv hid0'.out.1 hid0'.out.2 _ _ _ _).mono ?_
      rintro e z3 ⟨rfl, hb1⟩
      rw [r1.out]
      have K3 := Lib.hid (nest K2.out hb1)
      clear hb1 q50 q51 q52 q60 q61 q62 q70 q71 q72 q80 q81 q82 q90 q91 q92
      obtain ⟨q50, q51, q52, q60, q61, q62, q70, q71, q72, q80, q81, q82, q90, q91, q92⟩ := CELLS.out z3 K3.out
      go_wp2_with fail
      refine (right_any (1 + (n : Int)) id vv hid0'.out.1 hid0'.out.2 _ _ _ _).mono ?_
      rintro e z4 ⟨rfl, hb1⟩
      rw [r2.out]
      have K4 := Lib.hid (nest K3.out hb1)
      clear hb1 q50 q51 q52 q60 q61 q62 q70 q71 q72 q80 q81 q82 q90 q91 q92
      obtain ⟨q50, q51, q52, q60, q61, q62, q70, q71, q72, q80, q81, q82, q90, q91, q92⟩ := CELLS.out z4 K4.out
      go_wp2_with fail
      refine (right_any (1 + (n : Int)) id 0 hid0'.out.1 (Int.le_refl 0) _ _ _ _).mono ?_
      rintro e z5 ⟨rfl, hb1⟩
      rw [r3.out]
      have K5 := Lib.hid (nest K4.out hb1)
      clear hb1 q50 q51 q52 q60 q61 q62 q70 q71 q72 q80 q81 q82 q90 q91 q92
      obtain ⟨q50, q51, q52, q60, q61, q62, q70, q71, q72, q80, q81, q82, q90, q91, q92⟩ := CELLS.out z5 K5.out
      go_wp2_with fail
      refine (right_any (1 + (n : Int)) (id + 68719476736) vv (by have := hid0'.out; omega) hid0'.out.2 _ _ _ _).mono ?_
      rintro e z6 ⟨rfl, hb1⟩
      rw [r4.out]
      have K6 := Lib.hid (nest K5.out hb1)
      clear hb1 q50 q51 q52 q60 q61 q62 q70 q71 q72 q80 q81 q82 q90 q91 q92
      obtain ⟨q50, q51, q52, q60, q61, q62, q70, q71, q72, q80, q81, q82, q90, q91, q92⟩ := CELLS.out z6 K6.out
      go_wp2_with fail
      refine (right_any 0 id vv hid0'.out.1 hid0'.out.2 _ _ _ _).mono ?_
      rintro e z7 ⟨rfl, hb1⟩
      rw [r5.out]
      have K7 := Lib.hid (nest K6.out hb1)
      clear hb1 q50 q51 q52 q60 q61 q62 q70 q71 q72 q80 q81 q82 q90 q91 q92
      obtain ⟨q50, q51, q52, q60, q61, q62, q70, q71, q72, q80, q81, q82, q90, q91, q92⟩ := CELLS.out z7 K7.out
      go_wp2_with fail
      refine (right_any 9 id vv hid0'.out.1 hid0'.out.2 _ _ _ _).mono ?_
      rintro e z8 ⟨rfl, hb1⟩
      rw [r6.out]
      have K8 := Lib.hid (nest K7.out hb1)
      clear hb1 q50 q51 q52 q60 q61 q62 q70 q71 q72 q80 q81 q82 q90 q91 q92
      obtain ⟨q50, q51, q52, q60, q61, q62, q70, q71, q72, q80, q81, q82, q90, q91, q92⟩ := CELLS.out z8 K8.out
      go_wp2_with fail
      refine (osame_any id vv id vv _ _ (List.replicate (n + 1) 0) (List.replicate (n + 1) 0) _ (S5.out.keep K8.out) (S5.out.keep K8.out)).mono ?_
      rintro e z9 ⟨rfl, hb1⟩
      rw [r7.out]
      have K9 := Lib.hid (nest K8.out hb1)
      clear hb1 q50 q51 q52 q60 q61 q62 q70 q71 q72 q80 q81 q82 q90 q91 q92
      obtain ⟨q50, q51, q52, q60, q61, q62, q70, q71, q72, q80, q81, q82, q90, q91, q92⟩ := CELLS.out z9 K9.out
      go_wp2_with fail
      refine (osame_any id vv id vv _ _ (List.replicate (n + 1) 0) (List.replicate (n + 2) 0) _ (S5.out.keep K9.out) (S6.out.keep K9.out)).mono ?_
      rintro e z10 ⟨rfl, hb1⟩
      rw [r8.out]
      have K10 := Lib.hid (nest K9.out hb1)
      clear hb1 q50 q51 q52 q60 q61 q62 q70 q71 q72 q80 q81 q82 q90 q91 q92
      go_wp2_with fail
      go_ret
      exact ⟨rfl, nest HY.out K10.out⟩
    have P0 := (Blk.newAt Z 26 #[.int .u64 id, .int .u64 vv, .slice (some ⟨g5, 0, none⟩) (n + 1) (n + 1)] rfl).keep (more (more (more (Below.refl _ _) (.cells #[.int .u64 id, .int .u64 vv, .slice (some ⟨g5, 0, none⟩) (n + 1) (n + 1)] 26)) (.cells #[.int .u64 id, .int .u64 vv, .slice (some ⟨g5, 0, none⟩) (n + 1) (n + 1)] 26)) (.cells #[.int .u64 id, .int .u64 vv, .slice (some ⟨g5, 0, none⟩) (n + 1) (n + 1)] 26)).drew
    have P1 := (Blk.newAt (Z.alloc (.cells #[.int .u64 id, .int .u64 vv, .slice (some ⟨g5, 0, none⟩) (n + 1) (n + 1)] 26)) 26 #[.int .u64 id, .int .u64 vv, .slice (some ⟨g5, 0, none⟩) (n + 1) (n + 1)] (n := Z.heap.size + 1) (by rw [size_alloc])).keep (more (more (Below.refl _ _) (.cells #[.int .u64 id, .int .u64 vv, .slice (some ⟨g5, 0, none⟩) (n + 1) (n + 1)] 26)) (.cells #[.int .u64 id, .int .u64 vv, .slice (some ⟨g5, 0, none⟩) (n + 1) (n + 1)] 26)).drew
    have P2 := (Blk.newAt ((Z.alloc (.cells #[.int .u64 id, .int .u64 vv, .slice (some ⟨g5, 0, none⟩) (n + 1) (n + 1)] 26)).alloc (.cells #[.int .u64 id, .int .u64 vv, .slice (some ⟨g5, 0, none⟩) (n + 1) (n + 1)] 26)) 26 #[.int .u64 id, .int .u64 vv, .slice (some ⟨g5, 0, none⟩) (n + 1) (n + 1)] (n := Z.heap.size + 1 + 1) (by rw [size_alloc, size_alloc])).keep (more (Below.refl _ _) (.cells #[.int .u64 id, .int .u64 vv, .slice (some ⟨g5, 0, none⟩) (n + 1) (n + 1)] 26)).drew
    have P3 := (Blk.newAt (((Z.alloc (.cells #[.int .u64 id, .int .u64 vv, .slice (some ⟨g5, 0, none⟩) (n + 1) (n + 1)] 26)).alloc (.cells #[.int .u64 id, .int .u64 vv, .slice (some ⟨g5, 0, none⟩) (n + 1) (n + 1)] 26)).alloc (.cells #[.int .u64 id, .int .u64 vv, .slice (some ⟨g5, 0, none⟩) (n + 1) (n + 1)] 26)) 26 #[.int .u64 id, .int .u64 vv, .slice (some ⟨g5, 0, none⟩) (n + 1) (n + 1)] (n := Z.heap.size + 1 + 1 + 1) (by rw [size_alloc, size_alloc, size_alloc])).keep (Below.refl _ _).drew
    have hYY : Below Z.heap.size Z ((((Z.alloc (.cells #[.int .u64 id, .int .u64 vv, .slice (some ⟨g5, 0, none⟩) (n + 1) (n + 1)] 26)).alloc (.cells #[.int .u64 id, .int .u64 vv, .slice (some ⟨g5, 0, none⟩) (n + 1) (n + 1)] 26)).alloc (.cells #[.int .u64 id, .int .u64 vv, .slice (some ⟨g5, 0, none⟩) (n + 1) (n + 1)] 26)).alloc (.cells #[.int .u64 id, .int .u64 vv, .slice (some ⟨g5, 0, none⟩) (n + 1) (n + 1)] 26)).drew := (more (more (more (more (Below.refl _ _) (.cells #[.int .u64 id, .int .u64 vv, .slice (some ⟨g5, 0, none⟩) (n + 1) (n + 1)] 26)) (.cells #[.int .u64 id, .int .u64 vv, .slice (some ⟨g5, 0, none⟩) (n + 1) (n + 1)] 26)) (.cells #[.int .u64 id, .int .u64 vv, .slice (some ⟨g5, 0, none⟩) (n + 1) (n + 1)] 26)) (.cells #[.int .u64 id, .int .u64 vv, .slice (some ⟨g5, 0, none⟩) (n + 1) (n + 1)] 26)).drew
    have HP0 := Lib.hid P0
    have HP1 := Lib.hid P1
    have HP2 := Lib.hid P2
    have HP3 := Lib.hid P3
    have HYY := Lib.hid hYY
    have HK5 := Lib.hid KEY5
    clear P0 P1 P2 P3 hYY KEY5 B5 R5 hZ hmk
    go_region_held3 (fun z => z.cell? ⟨b5, 0, none⟩ = some (.int .u64 id) ∧ z.cell? ⟨b5, 1, none⟩ = some (.int .u64 vv) ∧ z.cell? ⟨b5, 2, none⟩ = some (.slice (some ⟨g5, 0, none⟩) (n + 1) (n + 1)) ∧ Below Z.heap.size Z z)
      (first | assumption | (suffices hB : Below Z.heap.size Z _ from ⟨kc hB e0, kc hB e1, kc hB e2, hB⟩; repeat (first | exact Below.refl _ _ | refine Below.drew ?_ | refine more ?_ _ | refine Below.alloc ?_ (by simp) _ | refine Below.setCell ?_ (by simp) _)))
      (first | fail)
    all_goals
      refine HK5.out _ _ _ _ _ ?_ ?_ ?_ ?_ HYY.out ?_ ?_ ?_ ?_ ?_ ?_ ?_ ?_ ?_ ?_
      all_goals first | omega | exact HP0.out | exact HP1.out | exact HP2.out | exact HP3.out
  go_region_held3 (fun z => z.cell? ⟨w.heap.size, 0, none⟩ = some (.int .u64 i1) ∧ z.cell? ⟨w.heap.size, 1, none⟩ = some (.int .u64 v1) ∧ Below W.heap.size W z)
    (first | assumption | (suffices hB : Below W.heap.size W _ from ⟨kc hB d0, kc hB d1, hB⟩; repeat (first | exact Below.refl _ _ | refine Below.drew ?_ | refine more ?_ _ | refine Below.alloc ?_ (by simp) _ | refine Below.setCell ?_ (by simp) _)))
    (first | fail)
  · refine KEY (W.heap.size + 1) W.heap.size _ ?_ ?_ ?_ ?_
    · exact (Blk.newAt (W.alloc (.cells (madeCells #[.int .u32 0] (n + 1)) 22)) 26 #[.int .u64 id, .int .u64 vv, .slice (some ⟨W.heap.size, 0, none⟩) (n + 1) (n + 1)] (n := W.heap.size + 1) (by rw [size_alloc])).keep (Below.refl _ _).drew
    · exact (made_rd W (n + 1) (by omega) rfl).keep (more (Below.refl _ _) (.cells #[.int .u64 id, .int .u64 vv, .slice (some ⟨W.heap.size, 0, none⟩) (n + 1) (n + 1)] 26)).drew
    · exact nest HX.out (more (more (Below.refl _ _) (.cells (madeCells #[.int .u32 0] (n + 1)) 22)) (.cells #[.int .u64 id, .int .u64 vv, .slice (some ⟨W.heap.size, 0, none⟩) (n + 1) (n + 1)] 26)).drew
    · have := HX.out.size
      omega
  · refine KEY W.heap.size (W.heap.size + 1) _ ?_ ?_ ?_ ?_
    · exact (Blk.newAt W 26 #[.int .u64 id, .int .u64 vv, .slice (some ⟨W.heap.size + 1, 0, none⟩) (n + 1) (n + 1)] rfl).keep (more (Below.refl _ _) (.cells (madeCells #[.int .u32 0] (n + 1)) 22)).drew
    · exact (made_rd (W.alloc (.cells #[.int .u64 id, .int .u64 vv, .slice (some ⟨W.heap.size + 1, 0, none⟩) (n + 1) (n + 1)] 26)) (n + 1) (by omega) (by rw [size_alloc])).keep (Below.refl _ _).drew
    · exact nest HX.out (more (more (Below.refl _ _) (.cells #[.int .u64 id, .int .u64 vv, .slice (some ⟨W.heap.size + 1, 0, none⟩) (n + 1) (n + 1)] 26)) (.cells (madeCells #[.int .u32 0] (n + 1)) 22)).drew
    · exact HX.out.size
end Go.Proofs.Ytjjgckbjoficgaa.recordWrong
