/- Walk of the law ShelfOlder. -/
import Derived.Test.YtmcnfndebmcapaaShAwake
set_option maxRecDepth 4000
namespace Go.Proofs.Ytmcnfndebmcapaa.shelfOlder
open Go.RowKit Mem
set_option linter.unusedSimpArgs false
set_option linter.unusedVariables false
attribute [local irreducible] Go.Calls

theorem put_first (y : Ent) : putL [] y = ([y], true, 0) := rfl
theorem pos_one {y z : Ent} (hk : keyP z = keyP y) : posE [z] y.1 y.2.1.1 = 0 := by
  have : posE [z] y.1 y.2.1.1 < [z].length := posE_lt.2 ⟨z, by simp, hk⟩
  simpa using this
theorem put_older {y z : Ent} (hk : keyP z = keyP y) (hn : newerV y.2.1.2.1 y.2.2 z.2.1.2.1 z.2.2 = false) : putL [z] y = ([z], false, 0) := by
  unfold putL
  rw [pos_one hk, if_pos (by simp)]
  have : ([z] : List Ent).getD 0 e0 = z := rfl
  rw [this, hn]
  rfl
theorem put_newer {y z : Ent} (hk : keyP z = keyP y) (hn : newerV y.2.1.2.1 y.2.2 z.2.1.2.1 z.2.2 = true) : putL [z] y = ([y], true, 0) := by
  unfold putL
  rw [pos_one hk, if_pos (by simp)]
  have : ([z] : List Ent).getD 0 e0 = z := rfl
  rw [this, hn]
  rfl
theorem get_one {z : Ent} {v i : Int} (hk : keyP z = (v, i)) : getE [z] v i = (z, true) := by
  have h : posE [z] v i < [z].length := posE_lt.2 ⟨z, by simp, hk⟩
  have h0 : posE [z] v i = 0 := by simpa using h
  unfold getE
  rw [if_pos h, h0]
  rfl

set_option maxRecDepth 100000 in
set_option maxHeartbeats 4000000 in
theorem walk (x i u : Int) (s : Value) (m : List Int) (g : Bool) (bx : 0 ≤ x ∧ x ≤ 4294967295) (bi : 0 ≤ i ∧ i ≤ 18446744073709551615) (bu : 0 ≤ u ∧ u ≤ 18446744073709551615) (q : Int) (bq : 0 ≤ q ∧ q ≤ 18446744073709551615) (w : World)
    (h : Rd (intE .u32) w s m) (hb : ∀ x ∈ m, 0 ≤ x ∧ x ≤ 4294967295) :
    Calls Try.prog 8 #[.agg #[.int .u32 x, .int .u64 i, .int .u64 u, s, .bool g], .int .u64 q] w fun e w' => e = .returned (.bool true) ∧ Below w.heap.size w w' := by
  obtain ⟨a, c, rfl, hc1, hm1⟩ := h.form
  have hX := more (Below.refl w.heap.size w) (.cells #[.int .u32 x, .int .u64 i, .int .u64 u, .slice a m.length c, .bool g] 40)
  have HB2 := Lib.hid (Blk.new w 40 #[.int .u32 x, .int .u64 i, .int .u64 u, .slice a m.length c, .bool g])
  have HX := Lib.hid (h.keep hX)
  have HK := Lib.hid hX
  have c2 : (w.alloc (.cells #[.int .u32 x, .int .u64 i, .int .u64 u, .slice a m.length c, .bool g] 40)).cell? ⟨w.heap.size, 2, none⟩ = some (.int .u64 u) := HB2.out.cell 2
  have c3 : (w.alloc (.cells #[.int .u32 x, .int .u64 i, .int .u64 u, .slice a m.length c, .bool g] 40)).cell? ⟨w.heap.size, 3, none⟩ = some (.slice a m.length c) := HB2.out.cell 3
  have H := Lib.hid h
  clear h hX
  go_enter Try.func8, Try.ntmps8
  go_upto_region 1 with fail
  generalize w.alloc (.cells #[.int .u32 x, .int .u64 i, .int .u64 u, .slice a m.length c, .bool g] 40) = w1 at *
  obtain ⟨g2, hg2⟩ : ∃ g, g = w.heap.size := ⟨_, rfl⟩
  have HG2 := Lib.hid hg2
  rw [← hg2] at HB2 c2 c3 ⊢
  clear hg2
  by_cases h20 : m.length > 20
  · have e20 : (m.length : Int) > 20 := by omega
    go_wp2_with fail
    refine (shawake_any w1).mono ?_
    rintro e w2 ⟨rfl, hk⟩
    have HK2 := Lib.hid (nest HK.out hk)
    clear hk c2 c3
    go_wp2_with fail
    go_ret
    exact ⟨rfl, HK2.out⟩
  have e20 : ¬ (m.length : Int) > 20 := by omega
  have f2 := HB2.out.frozen 2
  have f4 := HB2.out.frozen 4
  have c4 : w1.cell? ⟨g2, 4, none⟩ = some (.bool g) := HB2.out.cell 4
  go_wp2_with fail
  have HB3 : Hid (Blk ((w1.setCell ⟨g2, 2, none⟩ (.int .u64 (10 + u % 1000))).setCell ⟨g2, 4, none⟩ (.bool false)) g2 40 #[.int .u32 x, .int .u64 i, .int .u64 (10 + u % 1000), .slice a m.length c, .bool false]) := Lib.hid ((HB2.out.set_ 2 (.int .u64 (10 + u % 1000))).set_ 4 (.bool false))
  have hos : Only g2 w1 ((w1.setCell ⟨g2, 2, none⟩ (.int .u64 (10 + u % 1000))).setCell ⟨g2, 4, none⟩ (.bool false)) := (Only.set _ _ _).trans (Only.set _ _ _)
  have HK3 := Lib.hid (HK.out.trans (hos.below (by have := HG2.out; omega) HK.out.size))
  clear hos c2 c3 c4 f2 f4 HB2 HX HK
  generalize (w1.setCell ⟨g2, 2, none⟩ (.int .u64 (10 + u % 1000))).setCell ⟨g2, 4, none⟩ (.bool false) = w3 at *
  obtain ⟨V, hV, hV1⟩ : ∃ V : Int, 10 + u % 1000 = V ∧ (10 ≤ V ∧ V ≤ 1009) := ⟨_, rfl, by omega⟩
  rw [hV] at HB3
  have HV1 := Lib.hid hV1
  clear hV hV1
  have HY1 : Hid (okE (x, (i, V, m), false)) := Lib.hid ⟨⟨bx, bi, by have := HV1.out; simp only []; omega, hb⟩, by simp only []; omega⟩
  clear e20
  refine (shnew_any w3).mono ?_
  rintro e w4 ⟨b, W, R, rfl, hp, hr, hk⟩
  have HP4 := Lib.hid (sh_new (B := w.heap.size + 1) hp hr (by have := HK3.out.size; have := HB3.out.lt; have := HG2.out; omega))
  have HB4 := Lib.hid (HB3.out.keep hk)
  have HK4 := Lib.hid (nest HK3.out hk)
  have HS4 : Hid (w.heap.size + 1 ≤ w4.heap.size) := Lib.hid (by have := hk.size; have := HB3.out.lt; have := HG2.out; omega)
  clear hp hr hk HB3 HK3
  go_upto_region 7 with (first | (refine at_load 2 rfl ?_; refine wpList_load_row rfl 40 (.tmp 2) rfl g2 rfl 40 _ (0, 0) _ HB4.out Try.underlying40 rfl ent_info' ?_) | (go_at_call 18; refine (sh_put (w.heap.size + 1) b [] (x, (i, V, m), false) (.slice a m.length c) _ HP4.out HS4.out (H.out.keep HK4.out) HY1.out).mono ?_; rw [put_first]; rintro e w5 ⟨rfl, hp, hk5⟩))
  have HP5 := Lib.hid hp
  have HB5 := Lib.hid (HB4.out.below hk5 (by have := HG2.out; omega))
  have HK5 := Lib.hid (HK4.out.trans (Below.mono hk5 (Nat.le_succ _)))
  have HS5 : Hid (w.heap.size + 1 ≤ w5.heap.size) := Lib.hid (Nat.le_trans HS4.out hk5.size)
  clear hp hk5 HP4 HB4 HK4 HS4
  obtain ⟨N5, hN5⟩ : ∃ n, n = w5.heap.size := ⟨_, rfl⟩
  have HN5 := Lib.hid hN5
  clear hN5
  refine Run.region_walk (S := fun z => Blk z g2 40 #[.int .u32 x, .int .u64 i, .int .u64 V, .slice a m.length c, .bool false] ∧ Below N5 w5 z)
    lsholder.rows7 lsholder.plan7 (l := ?steps1) (by kernel_rfl) (by kernel_rfl) (by kernel_rfl) (by kernel_rfl) ?written1 ⟨HB5.out.keep (Below.refl _ _).drew, (Below.refl _ _).drew⟩ ?onward1
  case written1 =>
    simp only [lsholder.plan7, Run.stepsOf, Run.stepOf, Run.guardOf, List.getElem?_toArray, List.getElem?_cons_zero, List.getElem?_cons_succ, Option.map_some, Option.map_none, Option.bind_some, Option.toList_some, List.map_cons, List.map_nil, List.cons_append, List.nil_append, List.append_eq]
    rfl
  repeat ((first
    | (refine Run.takes (v := ?_) ?_ ?_; rotate_left; (· intro w' hS'; (first | (refine exec_load_blk (n := 5) (x := .tmp 2) (l := [.int .u32 x, .int .u64 i, .int .u64 V, .slice a m.length c, .bool false]) ?_ Try.underlying40 ent_info' ?_ ?_ hS'.1 <;> rfl) | (go_simp; (try with_reducible rfl)))))
    | (refine Run.takesG (v := ?_) ?_ ?_ ?_; rotate_left; (· simp only [List.getElem?_cons_zero, List.getElem?_cons_succ]); (· intro w' hS'; (first | (refine exec_load_blk (n := 5) (x := .tmp 2) (l := [.int .u32 x, .int .u64 i, .int .u64 V, .slice a m.length c, .bool false]) ?_ Try.underlying40 ent_info' ?_ ?_ hS'.1 <;> rfl) | (go_simp; (try with_reducible rfl)))))
    | (refine Run.skipsT ?_ ?_; (· simp only [List.getElem?_cons_zero, List.getElem?_cons_succ]))
    | (refine Run.skipsF ?_ ?_; (· simp only [List.getElem?_cons_zero, List.getElem?_cons_succ]))
    | (refine Run.skipsU ?_ ?_; (· simp only [List.getElem?_cons_zero, List.getElem?_cons_succ]))
    | (refine Run.passT ?_ ?_; (· simp only [List.getElem?_cons_zero, List.getElem?_cons_succ]))
    | (refine Run.passF ?_ ?_; (· simp only [List.getElem?_cons_zero, List.getElem?_cons_succ]))
    | (refine Run.passU ?_ ?_; (· simp only [List.getElem?_cons_zero, List.getElem?_cons_succ]))
    | fail); simp only [Act.put, List.setIfInBounds_toArray, List.set_cons_zero, List.set_cons_succ])
  refine Run.both ?_ ?_
  all_goals
    refine Run.one (fun hS K1 hK1 => ?_)
    go_simp
    have hX : Below w5.heap.size w5 (w5.alloc (.cells #[.int .u32 0, .int .u64 0, .int .u64 0, .slice none 0 0, .bool false] 40)).drew := (more (Below.refl _ _) _).drew
    have HA := Lib.hid ((Blk.new w5 40 #[.int .u32 0, .int .u64 0, .int .u64 0, .slice none 0 0, .bool false]).keep (Below.refl _ _).drew)
    refine hK1.out _ _ ⟨HB5.out.keep hX, by rw [HN5.out]; exact hX⟩ ?_
    clear hK1 K1 hS hX
    generalize (w5.alloc (.cells #[.int .u32 0, .int .u64 0, .int .u64 0, .slice none 0 0, .bool false] 40)).drew = Y1 at *
    try simp only [Act.put, List.setIfInBounds_toArray, List.set_cons_zero, List.set_cons_succ]
    refine Run.one (fun hS K1 hK1 => ?_)
    go_simp
    have hX := more (Below.refl Y1.heap.size Y1) (.cells #[.int .u32 0, .int .u64 0, .int .u64 0, .slice none 0 0, .bool false] 40)
    have HA2 := Lib.hid (Blk.new Y1 40 #[.int .u32 0, .int .u64 0, .int .u64 0, .slice none 0 0, .bool false])
    have HA1 := Lib.hid (HA.out.keep hX)
    have HNE : Hid (w5.heap.size < Y1.heap.size) := Lib.hid HA.out.lt
    have HN2 : Hid (N5 < Y1.heap.size) := Lib.hid (by rw [HN5.out]; exact HA.out.lt)
    have HN1 : Hid (N5 ≤ w5.heap.size) := Lib.hid (by rw [HN5.out]; exact Nat.le_refl _)
    refine hK1.out _ _ ⟨hS.1.keep hX, hS.2.trans (hX.mono (by have := HN2.out; omega))⟩ ?_
    have HB7 := Lib.hid (hS.1.keep hX)
    have HX7 : Hid (Below N5 w5 (Y1.alloc (.cells #[.int .u32 0, .int .u64 0, .int .u64 0, .slice none 0 0, .bool false] 40))) := Lib.hid (hS.2.trans (hX.mono (by have := HN2.out; omega)))
    clear hK1 K1 hS hX HA HB5
    generalize Y1.alloc (.cells #[.int .u32 0, .int .u64 0, .int .u64 0, .slice none 0 0, .bool false] 40) = Y2 at *
    try simp only [Act.put, List.setIfInBounds_toArray, List.set_cons_zero, List.set_cons_succ]
    obtain ⟨n1, hn1⟩ : ∃ n, n = w5.heap.size := ⟨_, rfl⟩
    obtain ⟨n2, hn2⟩ : ∃ n, n = Y1.heap.size := ⟨_, rfl⟩
    rw [← hn1] at HA1 HNE HN1 ⊢
    rw [← hn2] at HA2 HNE HN2 ⊢
    clear hn1 hn2
  · have HA8 := HA1
    have HA9 := HA2
    have HN8 : Hid (N5 ≤ n1 ∧ N5 ≤ n2 ∧ n1 ≠ n2) := Lib.hid ⟨HN1.out, Nat.le_of_lt HN2.out, Nat.ne_of_lt HNE.out⟩
    clear HA1 HA2 HNE HN1 HN2
    generalize n1 = g8 at *
    generalize n2 = g9 at *
    refine Run.runs (Run.one (fun hS K1 hK1 => ?_))
    refine wp_store_row 40 (.tmp 8) (.tmp 39) rfl g8 #[.int .u32 x, .int .u64 i, .int .u64 V, .slice a m.length c, .bool false] rfl rfl 40 _ HA8.out ent_info' rfl (by simp [Value.oneCell']) ?_
    have hos : Only g8 Y2 (Y2.setRow g8 #[.int .u32 x, .int .u64 i, .int .u64 V, .slice a m.length c, .bool false]) := Only.rowS Y2 _
    have HA82 := Lib.hid (Blk.rowS (t := 40) HA8.out #[.int .u32 x, .int .u64 i, .int .u64 V, .slice a m.length c, .bool false])
    have HA92 := Lib.hid (HA9.out.only hos (fun e => HN8.out.2.2 e.symm))
    have hst : Blk (Y2.setRow g8 #[.int .u32 x, .int .u64 i, .int .u64 V, .slice a m.length c, .bool false]) g2 40 #[.int .u32 x, .int .u64 i, .int .u64 V, .slice a m.length c, .bool false] ∧ Below N5 w5 (Y2.setRow g8 #[.int .u32 x, .int .u64 i, .int .u64 V, .slice a m.length c, .bool false]) := ⟨HB7.out.only hos (fun e => by have := HN8.out.1; have := HB7.out.lt; have h5 := HN5.out; have := HG2.out; have := HS5.out; omega), HX7.out.trans (hos.below HN8.out.1 (Nat.le_trans (Nat.le_of_eq HN5.out) HX7.out.size))⟩
    refine hK1.out _ _ hst ?_
    have HST := Lib.hid hst
    clear hK1 K1 hS hos hst HA8 HA9 HB7 HX7
    generalize Y2.setRow g8 #[.int .u32 x, .int .u64 i, .int .u64 V, .slice a m.length c, .bool false] = Y3 at *
    try simp only [Act.put, List.setIfInBounds_toArray, List.set_cons_zero, List.set_cons_succ]
    refine Run.runs (Run.one (fun hS K1 hK1 => ?_))
    refine wp_store_row 40 (.tmp 9) (.tmp 40) rfl g9 #[.int .u32 x, .int .u64 i, .int .u64 V, .slice a m.length c, .bool false] rfl rfl 40 _ HA92.out ent_info' rfl (by simp [Value.oneCell']) ?_
    have hos : Only g9 Y3 (Y3.setRow g9 #[.int .u32 x, .int .u64 i, .int .u64 V, .slice a m.length c, .bool false]) := Only.rowS Y3 _
    have HA83 := Lib.hid (HA82.out.only hos HN8.out.2.2)
    have HA93 := Lib.hid (Blk.rowS (t := 40) HA92.out #[.int .u32 x, .int .u64 i, .int .u64 V, .slice a m.length c, .bool false])
    have hst : Blk (Y3.setRow g9 #[.int .u32 x, .int .u64 i, .int .u64 V, .slice a m.length c, .bool false]) g2 40 #[.int .u32 x, .int .u64 i, .int .u64 V, .slice a m.length c, .bool false] ∧ Below N5 w5 (Y3.setRow g9 #[.int .u32 x, .int .u64 i, .int .u64 V, .slice a m.length c, .bool false]) := ⟨HST.out.1.only hos (fun e => by have := HN8.out.2.1; have h5 := HN5.out; have := HG2.out; have := HS5.out; omega), HST.out.2.trans (hos.below HN8.out.2.1 (Nat.le_trans (Nat.le_of_eq HN5.out) HST.out.2.size))⟩
    refine hK1.out _ _ hst ?_
    have HST2 := Lib.hid hst
    clear hK1 K1 hS hos hst HA82 HA92 HST
    generalize Y3.setRow g9 #[.int .u32 x, .int .u64 i, .int .u64 V, .slice a m.length c, .bool false] = Y4 at *
    try simp only [Act.put, List.setIfInBounds_toArray, List.set_cons_zero, List.set_cons_succ]
    refine Run.ends (fun hS => ?_)
    clear hS
    have c82 : Y4.cell? ⟨g8, 2, none⟩ = some (.int .u64 V) := HA83.out.cell 2
    have c94 : Y4.cell? ⟨g9, 4, none⟩ = some (.bool false) := HA93.out.cell 4
    have c22 : Y4.cell? ⟨g2, 2, none⟩ = some (.int .u64 V) := HST2.out.1.cell 2
    have f82 := HA83.out.frozen 2
    have f94 := HA93.out.frozen 4
    have hq0 : 0 ≤ q % 10 ∧ q % 10 < 10 := ⟨Int.emod_nonneg _ (by decide), Int.emod_lt_of_pos _ (by decide)⟩
    obtain ⟨V2, hV2, hV21⟩ : ∃ V2 : Int, V - q % 10 = V2 ∧ (1 ≤ V2 ∧ V2 ≤ V) := ⟨_, rfl, by have := HV1.out; omega⟩
    have hW2 : IntKind.u64.wrap (V - q % 10) = V2 := by rw [IntKind.wrap_u64, hV2]; have := HV1.out; omega
    have hW3 : (V - q % 10) % 18446744073709551616 = V2 := by rw [hV2]; have := HV1.out; omega
    have hne89 : g9 ≠ g8 := fun e => HN8.out.2.2 e.symm
    have HV2 := Lib.hid hV21
    have HST2' := HST2
    clear hq0 hV2 hV21 HST2
    go_upto_region 10 with fail
    have hos8 := Only.set (b := g8) Y4 2 (.int .u64 V2)
    have hos9 := Only.set (b := g9) (Y4.setCell ⟨g8, 2, none⟩ (.int .u64 V2)) 4 (.bool true)
    have HB8 : Hid (Blk ((Y4.setCell ⟨g8, 2, none⟩ (.int .u64 V2)).setCell ⟨g9, 4, none⟩ (.bool true)) g8 40 #[.int .u32 x, .int .u64 i, .int .u64 V2, .slice a m.length c, .bool false]) := Lib.hid ((HA83.out.set_ 2 (.int .u64 V2)).only hos9 HN8.out.2.2)
    have HB9 : Hid (Blk ((Y4.setCell ⟨g8, 2, none⟩ (.int .u64 V2)).setCell ⟨g9, 4, none⟩ (.bool true)) g9 40 #[.int .u32 x, .int .u64 i, .int .u64 V, .slice a m.length c, .bool true]) := Lib.hid ((HA93.out.only hos8 hne89).set_ 4 (.bool true))
    have HB2 : Hid (Blk ((Y4.setCell ⟨g8, 2, none⟩ (.int .u64 V2)).setCell ⟨g9, 4, none⟩ (.bool true)) g2 40 #[.int .u32 x, .int .u64 i, .int .u64 V, .slice a m.length c, .bool false]) := Lib.hid ((HST2'.out.1.only hos8 (fun e => by have := HN8.out.1; have h5 := HN5.out; have := HG2.out; have := HS5.out; omega)).only hos9 (fun e => by have := HN8.out.2.1; have h5 := HN5.out; have := HG2.out; have := HS5.out; omega))
    have hK7 : Below w5.heap.size w5 ((Y4.setCell ⟨g8, 2, none⟩ (.int .u64 V2)).setCell ⟨g9, 4, none⟩ (.bool true)) := by
      have h := HST2'.out.2
      have h8 : Below N5 w5 (Y4.setCell ⟨g8, 2, none⟩ (.int .u64 V2)) := h.trans (hos8.below HN8.out.1 (Nat.le_trans (Nat.le_of_eq HN5.out) h.size))
      have h9 := h8.trans (hos9.below HN8.out.2.1 (Nat.le_trans (Nat.le_of_eq HN5.out) h8.size))
      rw [HN5.out] at h9
      exact h9
    have HP8 := Lib.hid (HP5.out.free HS5.out hK7)
    have HK8 := Lib.hid (nest HK5.out hK7)
    have HS8 : Hid (w.heap.size + 1 ≤ ((Y4.setCell ⟨g8, 2, none⟩ (.int .u64 V2)).setCell ⟨g9, 4, none⟩ (.bool true)).heap.size) := Lib.hid (Nat.le_trans HS5.out hK7.size)
    have HL8 : Hid (w5.heap.size ≤ ((Y4.setCell ⟨g8, 2, none⟩ (.int .u64 V2)).setCell ⟨g9, 4, none⟩ (.bool true)).heap.size) := Lib.hid hK7.size
    clear c82 c94 c22 f82 f94 hos8 hos9 hK7 HST2' HA83 HA93 hW2 hW3
    generalize (Y4.setCell ⟨g8, 2, none⟩ (.int .u64 V2)).setCell ⟨g9, 4, none⟩ (.bool true) = Z1 at *
    obtain ⟨N, hN⟩ : ∃ N : Nat → Prop, N = (fun j => j < w.heap.size + 1 ∨ (w5.heap.size ≤ j ∧ j < Z1.heap.size)) := ⟨_, rfl⟩
    have HP1 : Hid (ShF N Z1 b [(x, (i, V, m), false)]) := Lib.hid (by rw [hN]; exact HP8.out)
    have HNB : Hid (∀ j, j < w.heap.size + 1 → N j) := Lib.hid (by rw [hN]; exact fun j hj => .inl hj)
    have HN9 : Hid (N g9) := Lib.hid (by rw [hN]; exact .inr ⟨by have := HN8.out.2.1; have := HN5.out; omega, HB9.out.lt⟩)
    have HNA8 : Hid (N g8) := Lib.hid (by rw [hN]; exact .inr ⟨by have := HN8.out.1; have := HN5.out; omega, HB8.out.lt⟩)
    have HN2 : Hid (N g2) := Lib.hid (HNB.out g2 (by have := HG2.out; omega))
    have HB81 := HB8
    have HB91 := HB9
    have HB21 := HB2
    have HK1 := HK8
    have HS1 := HS8
    have HY8 : Hid (okE (x, (i, V2, m), false)) := Lib.hid ⟨⟨HY1.out.1.1, HY1.out.1.2.1, by have := HV1.out; have := HV2.out; simp only []; omega, HY1.out.1.2.2.2⟩, HY1.out.2⟩
    have HY9 : Hid (okE (x, (i, V, m), true)) := Lib.hid ⟨HY1.out.1, HY1.out.2⟩
    have HE1 : Hid (putL [(x, (i, V, m), false)] (x, (i, V2, m), false) = ([(x, (i, V, m), false)], false, 0)) := Lib.hid (put_older rfl (by
      unfold newerV
      have := HV2.out
      simp only []
      split
      · rfl
      · simp; omega))
    have HE2 : Hid (putL [(x, (i, V, m), false)] (x, (i, V, m), true) = ([(x, (i, V, m), true)], true, 0)) := Lib.hid (put_newer rfl (by simp [newerV]))
    have HE3 : Hid (putL [(x, (i, V, m), true)] (x, (i, V, m), false) = ([(x, (i, V, m), true)], false, 0)) := Lib.hid (put_older rfl (by simp [newerV]))
    clear hN HP8 HB8 HB9 HB2 HK8 HS8
    go_upto_region 11 with (first | (refine at_load 8 rfl ?_; refine wpList_load_row rfl 40 (.tmp 8) rfl g8 rfl 40 _ (0, 0) _ HB81.out Try.underlying40 rfl ent_info' ?_) | (go_at_call 18; refine (shf_put N b [(x, (i, V, m), false)] (x, (i, V2, m), false) (.slice a m.length c) _ HP1.out (H.out.keep HK1.out) HY8.out).mono ?_; rw [HE1.out]; rintro e Z2 ⟨rfl, hp, hk5⟩))
    have HP2 := Lib.hid hp
    have HB22 := Lib.hid (Blk.left HB21.out hk5 HN2.out)
    have HB82 := Lib.hid (Blk.left HB81.out hk5 HNA8.out)
    have HB92 := Lib.hid (Blk.left HB91.out hk5 HN9.out)
    have HS2 : Hid (w.heap.size + 1 ≤ Z2.heap.size) := Lib.hid (Nat.le_trans HS1.out hk5.size)
    have HK2 := Lib.hid (HK1.out.trans (Turned.left hk5 (Nat.le_trans (Nat.le_succ _) HS1.out) (fun j hj => HNB.out j (by omega))))
    clear hp hk5 HP1 HB21 HB81 HB91 HK1 HS1
    go_upto_region 12 with (first | (refine at_load 9 rfl ?_; refine wpList_load_row rfl 40 (.tmp 9) rfl g9 rfl 40 _ (0, 0) _ HB92.out Try.underlying40 rfl ent_info' ?_) | (go_at_call 18; refine (shf_put N b [(x, (i, V, m), false)] (x, (i, V, m), true) (.slice a m.length c) _ HP2.out (H.out.keep HK2.out) HY9.out).mono ?_; rw [HE2.out]; rintro e Z3 ⟨rfl, hp, hk5⟩))
    have HP3 := Lib.hid hp
    have HB23 := Lib.hid (Blk.left HB22.out hk5 HN2.out)
    have HB83 := Lib.hid (Blk.left HB82.out hk5 HNA8.out)
    have HB93 := Lib.hid (Blk.left HB92.out hk5 HN9.out)
    have HS3 : Hid (w.heap.size + 1 ≤ Z3.heap.size) := Lib.hid (Nat.le_trans HS2.out hk5.size)
    have HK3 := Lib.hid (HK2.out.trans (Turned.left hk5 (Nat.le_trans (Nat.le_succ _) HS2.out) (fun j hj => HNB.out j (by omega))))
    clear hp hk5 HP2 HB22 HB82 HB92 HK2 HS2
    go_upto_region 13 with (first | (refine at_load 2 rfl ?_; refine wpList_load_row rfl 40 (.tmp 2) rfl g2 rfl 40 _ (0, 0) _ HB23.out Try.underlying40 rfl ent_info' ?_) | (go_at_call 18; refine (shf_put N b [(x, (i, V, m), true)] (x, (i, V, m), false) (.slice a m.length c) _ HP3.out (H.out.keep HK3.out) HY1.out).mono ?_; rw [HE3.out]; rintro e Z4 ⟨rfl, hp, hk5⟩))
    have HP4 := Lib.hid hp
    have HB24 := Lib.hid (Blk.left HB23.out hk5 HN2.out)
    have HB84 := Lib.hid (Blk.left HB83.out hk5 HNA8.out)
    have HB94 := Lib.hid (Blk.left HB93.out hk5 HN9.out)
    have HS4 : Hid (w.heap.size + 1 ≤ Z4.heap.size) := Lib.hid (Nat.le_trans HS3.out hk5.size)
    have HK4 := Lib.hid (HK3.out.trans (Turned.left hk5 (Nat.le_trans (Nat.le_succ _) HS3.out) (fun j hj => HNB.out j (by omega))))
    clear hp hk5 HP3 HB23 HB83 HB93 HK3 HS3
    have t0 : Z4.cell? ⟨g2, 0, none⟩ = some (.int .u32 x) := HB24.out.cell 0
    have t1 : Z4.cell? ⟨g2, 1, none⟩ = some (.int .u64 i) := HB24.out.cell 1
    go_upto_region 14 with (first | (go_at_call 23; refine (shf_get N b [(x, (i, V, m), true)] x i _ HP4.out HY1.out.1.1 HY1.out.1.2.1).mono ?_; rw [get_one (z := (x, (i, V, m), true)) rfl]; rintro e Z5 ⟨xg, rfl, hxg, hk5⟩; have HXG := Lib.hid hxg; have HKG := Lib.hid hk5; obtain ⟨ag, cg, rfl, _, _⟩ := hxg.form; clear hxg hk5) | (refine at_store 16 rfl ?_; refine wpList_store_row rfl 40 (.tmp 16) (.tmp 77) rfl Z5.heap.size #[.int .u32 x, .int .u64 i, .int .u64 V, .slice ag m.length cg, .bool true] rfl rfl 40 _ (heap_alloc_new Z5 _) ent_info' rfl (by simp [Value.oneCell']) ?_))
    (try rw [World.setRow_alloc_new])
    have hX := more (Below.refl Z5.heap.size Z5) (.cells #[.int .u32 x, .int .u64 i, .int .u64 V, .slice ag m.length cg, .bool true] 40)
    have HBX := Lib.hid (Blk.new Z5 40 #[.int .u32 x, .int .u64 i, .int .u64 V, .slice ag m.length cg, .bool true])
    have HB96 := Lib.hid ((HB94.out.keep HKG.out).keep hX)
    have HP6 := Lib.hid ((HP4.out.keep HKG.out).keep hX)
    have HK6 := Lib.hid (nest (nest HK4.out HKG.out) hX)
    have HX6 := Lib.hid (HXG.out.keep hX)
    have HH6 := Lib.hid (H.out.keep HK6.out)
    clear hX HP4 HB24 HB84 HB94 HK4 HS4 HKG HXG t0 t1
    generalize Z5.alloc (.cells #[.int .u32 x, .int .u64 i, .int .u64 V, .slice ag m.length cg, .bool true] 40) = Z6 at *
    obtain ⟨g16, hg16⟩ : ∃ g, g = Z5.heap.size := ⟨_, rfl⟩
    rw [← hg16] at HBX ⊢
    clear hg16
    refine Run.region_seq (S := fun z => Blk z g16 40 #[.int .u32 x, .int .u64 i, .int .u64 V, .slice ag m.length cg, .bool true] ∧ Blk z g9 40 #[.int .u32 x, .int .u64 i, .int .u64 V, .slice a m.length c, .bool true] ∧ Below Z6.heap.size Z6 z)
      [1, 0, 0, 0, 0, 0, 0, 0, 0, 0, 0, 0, 0, 0, 0, 0, 0, 0, 0, 0, 0, 1, 0, 0, 0, 1, 0, 0, 0, 0, 1, 0, 0, 0] (l := ?_) ?_ ⟨HBX.out, HB96.out, Below.refl _ _⟩ ?_
    rotate_left
    (· simp only [Run.seqOf, List.toList_toArray, Run.stepsOf, Run.stepOf, Run.guardOf, List.getElem?_toArray, List.getElem?_cons_zero, List.getElem?_cons_succ, Option.map_some, Option.map_none, Option.bind_some, Option.toList_some, List.map_cons, List.map_nil, List.cons_append, List.nil_append, List.append_eq]
       rfl)
    repeat ((first
      | (refine Run.takes (v := ?_) ?_ ?_; rotate_left; (· intro w' hS'; (first | (refine exec_load_blk (n := 5) (x := .tmp 16) (l := [.int .u32 x, .int .u64 i, .int .u64 V, .slice ag m.length cg, .bool true]) ?_ Try.underlying40 ent_info' ?_ ?_ hS'.1 <;> rfl) | (refine exec_load_blk (n := 5) (x := .tmp 9) (l := [.int .u32 x, .int .u64 i, .int .u64 V, .slice a m.length c, .bool true]) ?_ Try.underlying40 ent_info' ?_ ?_ hS'.2.1 <;> rfl) | (go_simp; (try with_reducible rfl)))))
      | (refine Run.takesG (v := ?_) ?_ ?_ ?_; rotate_left; (· simp only [List.getElem?_cons_zero, List.getElem?_cons_succ]); (· intro w' hS'; (first | (refine exec_load_blk (n := 5) (x := .tmp 16) (l := [.int .u32 x, .int .u64 i, .int .u64 V, .slice ag m.length cg, .bool true]) ?_ Try.underlying40 ent_info' ?_ ?_ hS'.1 <;> rfl) | (refine exec_load_blk (n := 5) (x := .tmp 9) (l := [.int .u32 x, .int .u64 i, .int .u64 V, .slice a m.length c, .bool true]) ?_ Try.underlying40 ent_info' ?_ ?_ hS'.2.1 <;> rfl) | (go_simp; (try with_reducible rfl)))))
      | (refine Run.skipsT ?_ ?_; (· simp only [List.getElem?_cons_zero, List.getElem?_cons_succ]))
      | (refine Run.skipsF ?_ ?_; (· simp only [List.getElem?_cons_zero, List.getElem?_cons_succ]))
      | (refine Run.skipsU ?_ ?_; (· simp only [List.getElem?_cons_zero, List.getElem?_cons_succ]))
      | (refine Run.passT ?_ ?_; (· simp only [List.getElem?_cons_zero, List.getElem?_cons_succ]))
      | (refine Run.passF ?_ ?_; (· simp only [List.getElem?_cons_zero, List.getElem?_cons_succ]))
      | (refine Run.passU ?_ ?_; (· simp only [List.getElem?_cons_zero, List.getElem?_cons_succ]))
      | (refine Run.runs ?_
         (first
         | (refine Run.callF 10 (by kernel_rfl) (fun hS => shawake_any _) rfl ?_)
         | (refine Run.callG 10 (by kernel_rfl) ?_ (fun hS => shawake_any _) rfl ?_; (· simp only [List.getElem?_cons_zero, List.getElem?_cons_succ]))
         | (refine Run.callF 27 (by kernel_rfl) (fun hS => entry_yes (x, (i, V, m), true) (.slice ag m.length cg) (.slice a m.length c) _ (HX6.out.keep hS.2.2) (HH6.out.keep hS.2.2)) rfl ?_)
         | (refine Run.callG 27 (by kernel_rfl) ?_ (fun hS => entry_yes (x, (i, V, m), true) (.slice ag m.length cg) (.slice a m.length c) _ (HX6.out.keep hS.2.2) (HH6.out.keep hS.2.2)) rfl ?_; (· simp only [List.getElem?_cons_zero, List.getElem?_cons_succ]))
         | (refine Run.callF 20 (by kernel_rfl) (fun hS => shf_len N b [(x, (i, V, m), true)] _ (HP6.out.keep hS.2.2)) rfl ?_)
         | (refine Run.callG 20 (by kernel_rfl) ?_ (fun hS => shf_len N b [(x, (i, V, m), true)] _ (HP6.out.keep hS.2.2)) rfl ?_; (· simp only [List.getElem?_cons_zero, List.getElem?_cons_succ]))
         | (refine Run.callF 21 (by kernel_rfl) (fun hS => shf_live N b [(x, (i, V, m), true)] _ (HP6.out.keep hS.2.2)) rfl ?_)
         | (refine Run.callG 21 (by kernel_rfl) ?_ (fun hS => shf_live N b [(x, (i, V, m), true)] _ (HP6.out.keep hS.2.2)) rfl ?_; (· simp only [List.getElem?_cons_zero, List.getElem?_cons_succ]))
         | fail)
         (first
         | (rintro hS e w' ⟨rfl, rfl⟩; refine ⟨_, rfl, hS, ?_⟩)
         | (rintro hS e w' ⟨rfl, hb⟩; refine ⟨_, rfl, ⟨hS.1.keep hb, hS.2.1.keep hb, nest hS.2.2 hb⟩, ?_⟩)
         | fail))
      | fail); simp only [Act.put, List.setIfInBounds_toArray, List.set_cons_zero, List.set_cons_succ])
    refine Run.ends (fun hS => ?_)
    have HE := Lib.hid (nest HK6.out hS.2.2)
    clear hS
    go_wp2_with fail
    go_ret
    exact ⟨rfl, HE.out⟩
  · have HA8 := HA2
    have HA9 := HA1
    have HN8 : Hid (N5 ≤ n2 ∧ N5 ≤ n1 ∧ n2 ≠ n1) := Lib.hid ⟨Nat.le_of_lt HN2.out, HN1.out, (Nat.ne_of_lt HNE.out).symm⟩
    clear HA1 HA2 HNE HN1 HN2
    generalize n2 = g8 at *
    generalize n1 = g9 at *
    refine Run.runs (Run.one (fun hS K1 hK1 => ?_))
    refine wp_store_row 40 (.tmp 8) (.tmp 39) rfl g8 #[.int .u32 x, .int .u64 i, .int .u64 V, .slice a m.length c, .bool false] rfl rfl 40 _ HA8.out ent_info' rfl (by simp [Value.oneCell']) ?_
    have hos : Only g8 Y2 (Y2.setRow g8 #[.int .u32 x, .int .u64 i, .int .u64 V, .slice a m.length c, .bool false]) := Only.rowS Y2 _
    have HA82 := Lib.hid (Blk.rowS (t := 40) HA8.out #[.int .u32 x, .int .u64 i, .int .u64 V, .slice a m.length c, .bool false])
    have HA92 := Lib.hid (HA9.out.only hos (fun e => HN8.out.2.2 e.symm))
    have hst : Blk (Y2.setRow g8 #[.int .u32 x, .int .u64 i, .int .u64 V, .slice a m.length c, .bool false]) g2 40 #[.int .u32 x, .int .u64 i, .int .u64 V, .slice a m.length c, .bool false] ∧ Below N5 w5 (Y2.setRow g8 #[.int .u32 x, .int .u64 i, .int .u64 V, .slice a m.length c, .bool false]) := ⟨HB7.out.only hos (fun e => by have := HN8.out.1; have := HB7.out.lt; have h5 := HN5.out; have := HG2.out; have := HS5.out; omega), HX7.out.trans (hos.below HN8.out.1 (Nat.le_trans (Nat.le_of_eq HN5.out) HX7.out.size))⟩
    refine hK1.out _ _ hst ?_
    have HST := Lib.hid hst
    clear hK1 K1 hS hos hst HA8 HA9 HB7 HX7
    generalize Y2.setRow g8 #[.int .u32 x, .int .u64 i, .int .u64 V, .slice a m.length c, .bool false] = Y3 at *
    try simp only [Act.put, List.setIfInBounds_toArray, List.set_cons_zero, List.set_cons_succ]
    refine Run.runs (Run.one (fun hS K1 hK1 => ?_))
    refine wp_store_row 40 (.tmp 9) (.tmp 40) rfl g9 #[.int .u32 x, .int .u64 i, .int .u64 V, .slice a m.length c, .bool false] rfl rfl 40 _ HA92.out ent_info' rfl (by simp [Value.oneCell']) ?_
    have hos : Only g9 Y3 (Y3.setRow g9 #[.int .u32 x, .int .u64 i, .int .u64 V, .slice a m.length c, .bool false]) := Only.rowS Y3 _
    have HA83 := Lib.hid (HA82.out.only hos HN8.out.2.2)
    have HA93 := Lib.hid (Blk.rowS (t := 40) HA92.out #[.int .u32 x, .int .u64 i, .int .u64 V, .slice a m.length c, .bool false])
    have hst : Blk (Y3.setRow g9 #[.int .u32 x, .int .u64 i, .int .u64 V, .slice a m.length c, .bool false]) g2 40 #[.int .u32 x, .int .u64 i, .int .u64 V, .slice a m.length c, .bool false] ∧ Below N5 w5 (Y3.setRow g9 #[.int .u32 x, .int .u64 i, .int .u64 V, .slice a m.length c, .bool false]) := ⟨HST.out.1.only hos (fun e => by have := HN8.out.2.1; have h5 := HN5.out; have := HG2.out; have := HS5.out; omega), HST.out.2.trans (hos.below HN8.out.2.1 (Nat.le_trans (Nat.le_of_eq HN5.out) HST.out.2.size))⟩
    refine hK1.out _ _ hst ?_
    have HST2 := Lib.hid hst
    clear hK1 K1 hS hos hst HA82 HA92 HST
    generalize Y3.setRow g9 #[.int .u32 x, .int .u64 i, .int .u64 V, .slice a m.length c, .bool false] = Y4 at *
    try simp only [Act.put, List.setIfInBounds_toArray, List.set_cons_zero, List.set_cons_succ]
    refine Run.ends (fun hS => ?_)
    clear hS
    have c82 : Y4.cell? ⟨g8, 2, none⟩ = some (.int .u64 V) := HA83.out.cell 2
    have c94 : Y4.cell? ⟨g9, 4, none⟩ = some (.bool false) := HA93.out.cell 4
    have c22 : Y4.cell? ⟨g2, 2, none⟩ = some (.int .u64 V) := HST2.out.1.cell 2
    have f82 := HA83.out.frozen 2
    have f94 := HA93.out.frozen 4
    have hq0 : 0 ≤ q % 10 ∧ q % 10 < 10 := ⟨Int.emod_nonneg _ (by decide), Int.emod_lt_of_pos _ (by decide)⟩
    obtain ⟨V2, hV2, hV21⟩ : ∃ V2 : Int, V - q % 10 = V2 ∧ (1 ≤ V2 ∧ V2 ≤ V) := ⟨_, rfl, by have := HV1.out; omega⟩
    have hW2 : IntKind.u64.wrap (V - q % 10) = V2 := by rw [IntKind.wrap_u64, hV2]; have := HV1.out; omega
    have hW3 : (V - q % 10) % 18446744073709551616 = V2 := by rw [hV2]; have := HV1.out; omega
    have hne89 : g9 ≠ g8 := fun e => HN8.out.2.2 e.symm
    have HV2 := Lib.hid hV21
    have HST2' := HST2
    clear hq0 hV2 hV21 HST2
    go_upto_region 10 with fail
    have hos8 := Only.set (b := g8) Y4 2 (.int .u64 V2)
    have hos9 := Only.set (b := g9) (Y4.setCell ⟨g8, 2, none⟩ (.int .u64 V2)) 4 (.bool true)
    have HB8 : Hid (Blk ((Y4.setCell ⟨g8, 2, none⟩ (.int .u64 V2)).setCell ⟨g9, 4, none⟩ (.bool true)) g8 40 #[.int .u32 x, .int .u64 i, .int .u64 V2, .slice a m.length c, .bool false]) := Lib.hid ((HA83.out.set_ 2 (.int .u64 V2)).only hos9 HN8.out.2.2)
    have HB9 : Hid (Blk ((Y4.setCell ⟨g8, 2, none⟩ (.int .u64 V2)).setCell ⟨g9, 4, none⟩ (.bool true)) g9 40 #[.int .u32 x, .int .u64 i, .int .u64 V, .slice a m.length c, .bool true]) := Lib.hid ((HA93.out.only hos8 hne89).set_ 4 (.bool true))
    have HB2 : Hid (Blk ((Y4.setCell ⟨g8, 2, none⟩ (.int .u64 V2)).setCell ⟨g9, 4, none⟩ (.bool true)) g2 40 #[.int .u32 x, .int .u64 i, .int .u64 V, .slice a m.length c, .bool false]) := Lib.hid ((HST2'.out.1.only hos8 (fun e => by have := HN8.out.1; have h5 := HN5.out; have := HG2.out; have := HS5.out; omega)).only hos9 (fun e => by have := HN8.out.2.1; have h5 := HN5.out; have := HG2.out; have := HS5.out; omega))
    have hK7 : Below w5.heap.size w5 ((Y4.setCell ⟨g8, 2, none⟩ (.int .u64 V2)).setCell ⟨g9, 4, none⟩ (.bool true)) := by
      have h := HST2'.out.2
      have h8 : Below N5 w5 (Y4.setCell ⟨g8, 2, none⟩ (.int .u64 V2)) := h.trans (hos8.below HN8.out.1 (Nat.le_trans (Nat.le_of_eq HN5.out) h.size))
      have h9 := h8.trans (hos9.below HN8.out.2.1 (Nat.le_trans (Nat.le_of_eq HN5.out) h8.size))
      rw [HN5.out] at h9
      exact h9
    have HP8 := Lib.hid (HP5.out.free HS5.out hK7)
    have HK8 := Lib.hid (nest HK5.out hK7)
    have HS8 : Hid (w.heap.size + 1 ≤ ((Y4.setCell ⟨g8, 2, none⟩ (.int .u64 V2)).setCell ⟨g9, 4, none⟩ (.bool true)).heap.size) := Lib.hid (Nat.le_trans HS5.out hK7.size)
    have HL8 : Hid (w5.heap.size ≤ ((Y4.setCell ⟨g8, 2, none⟩ (.int .u64 V2)).setCell ⟨g9, 4, none⟩ (.bool true)).heap.size) := Lib.hid hK7.size
    clear c82 c94 c22 f82 f94 hos8 hos9 hK7 HST2' HA83 HA93 hW2 hW3
    generalize (Y4.setCell ⟨g8, 2, none⟩ (.int .u64 V2)).setCell ⟨g9, 4, none⟩ (.bool true) = Z1 at *
    obtain ⟨N, hN⟩ : ∃ N : Nat → Prop, N = (fun j => j < w.heap.size + 1 ∨ (w5.heap.size ≤ j ∧ j < Z1.heap.size)) := ⟨_, rfl⟩
    have HP1 : Hid (ShF N Z1 b [(x, (i, V, m), false)]) := Lib.hid (by rw [hN]; exact HP8.out)
    have HNB : Hid (∀ j, j < w.heap.size + 1 → N j) := Lib.hid (by rw [hN]; exact fun j hj => .inl hj)
    have HN9 : Hid (N g9) := Lib.hid (by rw [hN]; exact .inr ⟨by have := HN8.out.2.1; have := HN5.out; omega, HB9.out.lt⟩)
    have HNA8 : Hid (N g8) := Lib.hid (by rw [hN]; exact .inr ⟨by have := HN8.out.1; have := HN5.out; omega, HB8.out.lt⟩)
    have HN2 : Hid (N g2) := Lib.hid (HNB.out g2 (by have := HG2.out; omega))
    have HB81 := HB8
    have HB91 := HB9
    have HB21 := HB2
    have HK1 := HK8
    have HS1 := HS8
    have HY8 : Hid (okE (x, (i, V2, m), false)) := Lib.hid ⟨⟨HY1.out.1.1, HY1.out.1.2.1, by have := HV1.out; have := HV2.out; simp only []; omega, HY1.out.1.2.2.2⟩, HY1.out.2⟩
    have HY9 : Hid (okE (x, (i, V, m), true)) := Lib.hid ⟨HY1.out.1, HY1.out.2⟩
    have HE1 : Hid (putL [(x, (i, V, m), false)] (x, (i, V2, m), false) = ([(x, (i, V, m), false)], false, 0)) := Lib.hid (put_older rfl (by
      unfold newerV
      have := HV2.out
      simp only []
      split
      · rfl
      · simp; omega))
    have HE2 : Hid (putL [(x, (i, V, m), false)] (x, (i, V, m), true) = ([(x, (i, V, m), true)], true, 0)) := Lib.hid (put_newer rfl (by simp [newerV]))
    have HE3 : Hid (putL [(x, (i, V, m), true)] (x, (i, V, m), false) = ([(x, (i, V, m), true)], false, 0)) := Lib.hid (put_older rfl (by simp [newerV]))
    clear hN HP8 HB8 HB9 HB2 HK8 HS8
    go_upto_region 11 with (first | (refine at_load 8 rfl ?_; refine wpList_load_row rfl 40 (.tmp 8) rfl g8 rfl 40 _ (0, 0) _ HB81.out Try.underlying40 rfl ent_info' ?_) | (go_at_call 18; refine (shf_put N b [(x, (i, V, m), false)] (x, (i, V2, m), false) (.slice a m.length c) _ HP1.out (H.out.keep HK1.out) HY8.out).mono ?_; rw [HE1.out]; rintro e Z2 ⟨rfl, hp, hk5⟩))
    have HP2 := Lib.hid hp
    have HB22 := Lib.hid (Blk.left HB21.out hk5 HN2.out)
    have HB82 := Lib.hid (Blk.left HB81.out hk5 HNA8.out)
    have HB92 := Lib.hid (Blk.left HB91.out hk5 HN9.out)
    have HS2 : Hid (w.heap.size + 1 ≤ Z2.heap.size) := Lib.hid (Nat.le_trans HS1.out hk5.size)
    have HK2 := Lib.hid (HK1.out.trans (Turned.left hk5 (Nat.le_trans (Nat.le_succ _) HS1.out) (fun j hj => HNB.out j (by omega))))
    clear hp hk5 HP1 HB21 HB81 HB91 HK1 HS1
    go_upto_region 12 with (first | (refine at_load 9 rfl ?_; refine wpList_load_row rfl 40 (.tmp 9) rfl g9 rfl 40 _ (0, 0) _ HB92.out Try.underlying40 rfl ent_info' ?_) | (go_at_call 18; refine (shf_put N b [(x, (i, V, m), false)] (x, (i, V, m), true) (.slice a m.length c) _ HP2.out (H.out.keep HK2.out) HY9.out).mono ?_; rw [HE2.out]; rintro e Z3 ⟨rfl, hp, hk5⟩))
    have HP3 := Lib.hid hp
    have HB23 := Lib.hid (Blk.left HB22.out hk5 HN2.out)
    have HB83 := Lib.hid (Blk.left HB82.out hk5 HNA8.out)
    have HB93 := Lib.hid (Blk.left HB92.out hk5 HN9.out)
    have HS3 : Hid (w.heap.size + 1 ≤ Z3.heap.size) := Lib.hid (Nat.le_trans HS2.out hk5.size)
    have HK3 := Lib.hid (HK2.out.trans (Turned.left hk5 (Nat.le_trans (Nat.le_succ _) HS2.out) (fun j hj => HNB.out j (by omega))))
    clear hp hk5 HP2 HB22 HB82 HB92 HK2 HS2
    go_upto_region 13 with (first | (refine at_load 2 rfl ?_; refine wpList_load_row rfl 40 (.tmp 2) rfl g2 rfl 40 _ (0, 0) _ HB23.out Try.underlying40 rfl ent_info' ?_) | (go_at_call 18; refine (shf_put N b [(x, (i, V, m), true)] (x, (i, V, m), false) (.slice a m.length c) _ HP3.out (H.out.keep HK3.out) HY1.out).mono ?_; rw [HE3.out]; rintro e Z4 ⟨rfl, hp, hk5⟩))
    have HP4 := Lib.hid hp
    have HB24 := Lib.hid (Blk.left HB23.out hk5 HN2.out)
    have HB84 := Lib.hid (Blk.left HB83.out hk5 HNA8.out)
    have HB94 := Lib.hid (Blk.left HB93.out hk5 HN9.out)
    have HS4 : Hid (w.heap.size + 1 ≤ Z4.heap.size) := Lib.hid (Nat.le_trans HS3.out hk5.size)
    have HK4 := Lib.hid (HK3.out.trans (Turned.left hk5 (Nat.le_trans (Nat.le_succ _) HS3.out) (fun j hj => HNB.out j (by omega))))
    clear hp hk5 HP3 HB23 HB83 HB93 HK3 HS3
    have t0 : Z4.cell? ⟨g2, 0, none⟩ = some (.int .u32 x) := HB24.out.cell 0
    have t1 : Z4.cell? ⟨g2, 1, none⟩ = some (.int .u64 i) := HB24.out.cell 1
    go_upto_region 14 with (first | (go_at_call 23; refine (shf_get N b [(x, (i, V, m), true)] x i _ HP4.out HY1.out.1.1 HY1.out.1.2.1).mono ?_; rw [get_one (z := (x, (i, V, m), true)) rfl]; rintro e Z5 ⟨xg, rfl, hxg, hk5⟩; have HXG := Lib.hid hxg; have HKG := Lib.hid hk5; obtain ⟨ag, cg, rfl, _, _⟩ := hxg.form; clear hxg hk5) | (refine at_store 16 rfl ?_; refine wpList_store_row rfl 40 (.tmp 16) (.tmp 77) rfl Z5.heap.size #[.int .u32 x, .int .u64 i, .int .u64 V, .slice ag m.length cg, .bool true] rfl rfl 40 _ (heap_alloc_new Z5 _) ent_info' rfl (by simp [Value.oneCell']) ?_))
    (try rw [World.setRow_alloc_new])
    have hX := more (Below.refl Z5.heap.size Z5) (.cells #[.int .u32 x, .int .u64 i, .int .u64 V, .slice ag m.length cg, .bool true] 40)
    have HBX := Lib.hid (Blk.new Z5 40 #[.int .u32 x, .int .u64 i, .int .u64 V, .slice ag m.length cg, .bool true])
    have HB96 := Lib.hid ((HB94.out.keep HKG.out).keep hX)
    have HP6 := Lib.hid ((HP4.out.keep HKG.out).keep hX)
    have HK6 := Lib.hid (nest (nest HK4.out HKG.out) hX)
    have HX6 := Lib.hid (HXG.out.keep hX)
    have HH6 := Lib.hid (H.out.keep HK6.out)
    clear hX HP4 HB24 HB84 HB94 HK4 HS4 HKG HXG t0 t1
    generalize Z5.alloc (.cells #[.int .u32 x, .int .u64 i, .int .u64 V, .slice ag m.length cg, .bool true] 40) = Z6 at *
    obtain ⟨g16, hg16⟩ : ∃ g, g = Z5.heap.size := ⟨_, rfl⟩
    rw [← hg16] at HBX ⊢
    clear hg16
    refine Run.region_seq (S := fun z => Blk z g16 40 #[.int .u32 x, .int .u64 i, .int .u64 V, .slice ag m.length cg, .bool true] ∧ Blk z g9 40 #[.int .u32 x, .int .u64 i, .int .u64 V, .slice a m.length c, .bool true] ∧ Below Z6.heap.size Z6 z)
      [1, 0, 0, 0, 0, 0, 0, 0, 0, 0, 0, 0, 0, 0, 0, 0, 0, 0, 0, 0, 0, 1, 0, 0, 0, 1, 0, 0, 0, 0, 1, 0, 0, 0] (l := ?_) ?_ ⟨HBX.out, HB96.out, Below.refl _ _⟩ ?_
    rotate_left
    (· simp only [Run.seqOf, List.toList_toArray, Run.stepsOf, Run.stepOf, Run.guardOf, List.getElem?_toArray, List.getElem?_cons_zero, List.getElem?_cons_succ, Option.map_some, Option.map_none, Option.bind_some, Option.toList_some, List.map_cons, List.map_nil, List.cons_append, List.nil_append, List.append_eq]
       rfl)
    repeat ((first
      | (refine Run.takes (v := ?_) ?_ ?_; rotate_left; (· intro w' hS'; (first | (refine exec_load_blk (n := 5) (x := .tmp 16) (l := [.int .u32 x, .int .u64 i, .int .u64 V, .slice ag m.length cg, .bool true]) ?_ Try.underlying40 ent_info' ?_ ?_ hS'.1 <;> rfl) | (refine exec_load_blk (n := 5) (x := .tmp 9) (l := [.int .u32 x, .int .u64 i, .int .u64 V, .slice a m.length c, .bool true]) ?_ Try.underlying40 ent_info' ?_ ?_ hS'.2.1 <;> rfl) | (go_simp; (try with_reducible rfl)))))
      | (refine Run.takesG (v := ?_) ?_ ?_ ?_; rotate_left; (· simp only [List.getElem?_cons_zero, List.getElem?_cons_succ]); (· intro w' hS'; (first | (refine exec_load_blk (n := 5) (x := .tmp 16) (l := [.int .u32 x, .int .u64 i, .int .u64 V, .slice ag m.length cg, .bool true]) ?_ Try.underlying40 ent_info' ?_ ?_ hS'.1 <;> rfl) | (refine exec_load_blk (n := 5) (x := .tmp 9) (l := [.int .u32 x, .int .u64 i, .int .u64 V, .slice a m.length c, .bool true]) ?_ Try.underlying40 ent_info' ?_ ?_ hS'.2.1 <;> rfl) | (go_simp; (try with_reducible rfl)))))
      | (refine Run.skipsT ?_ ?_; (· simp only [List.getElem?_cons_zero, List.getElem?_cons_succ]))
      | (refine Run.skipsF ?_ ?_; (· simp only [List.getElem?_cons_zero, List.getElem?_cons_succ]))
      | (refine Run.skipsU ?_ ?_; (· simp only [List.getElem?_cons_zero, List.getElem?_cons_succ]))
      | (refine Run.passT ?_ ?_; (· simp only [List.getElem?_cons_zero, List.getElem?_cons_succ]))
      | (refine Run.passF ?_ ?_; (· simp only [List.getElem?_cons_zero, List.getElem?_cons_succ]))
      | (refine Run.passU ?_ ?_; (· simp only [List.getElem?_cons_zero, List.getElem?_cons_succ]))
      | (refine Run.runs ?_
         (first
         | (refine Run.callF 10 (by kernel_rfl) (fun hS => shawake_any _) rfl ?_)
         | (refine Run.callG 10 (by kernel_rfl) ?_ (fun hS => shawake_any _) rfl ?_; (· simp only [List.getElem?_cons_zero, List.getElem?_cons_succ]))
         | (refine Run.callF 27 (by kernel_rfl) (fun hS => entry_yes (x, (i, V, m), true) (.slice ag m.length cg) (.slice a m.length c) _ (HX6.out.keep hS.2.2) (HH6.out.keep hS.2.2)) rfl ?_)
         | (refine Run.callG 27 (by kernel_rfl) ?_ (fun hS => entry_yes (x, (i, V, m), true) (.slice ag m.length cg) (.slice a m.length c) _ (HX6.out.keep hS.2.2) (HH6.out.keep hS.2.2)) rfl ?_; (· simp only [List.getElem?_cons_zero, List.getElem?_cons_succ]))
         | (refine Run.callF 20 (by kernel_rfl) (fun hS => shf_len N b [(x, (i, V, m), true)] _ (HP6.out.keep hS.2.2)) rfl ?_)
         | (refine Run.callG 20 (by kernel_rfl) ?_ (fun hS => shf_len N b [(x, (i, V, m), true)] _ (HP6.out.keep hS.2.2)) rfl ?_; (· simp only [List.getElem?_cons_zero, List.getElem?_cons_succ]))
         | (refine Run.callF 21 (by kernel_rfl) (fun hS => shf_live N b [(x, (i, V, m), true)] _ (HP6.out.keep hS.2.2)) rfl ?_)
         | (refine Run.callG 21 (by kernel_rfl) ?_ (fun hS => shf_live N b [(x, (i, V, m), true)] _ (HP6.out.keep hS.2.2)) rfl ?_; (· simp only [List.getElem?_cons_zero, List.getElem?_cons_succ]))
         | fail)
         (first
         | (rintro hS e w' ⟨rfl, rfl⟩; refine ⟨_, rfl, hS, ?_⟩)
         | (rintro hS e w' ⟨rfl, hb⟩; refine ⟨_, rfl, ⟨hS.1.keep hb, hS.2.1.keep hb, nest hS.2.2 hb⟩, ?_⟩)
         | fail))
      | fail); simp only [Act.put, List.setIfInBounds_toArray, List.set_cons_zero, List.set_cons_succ])
    refine Run.ends (fun hS => ?_)
    have HE := Lib.hid (nest HK6.out hS.2.2)
    clear hS
    go_wp2_with fail
    go_ret
    exact ⟨rfl, HE.out⟩
end Go.Proofs.Ytmcnfndebmcapaa.shelfOlder
