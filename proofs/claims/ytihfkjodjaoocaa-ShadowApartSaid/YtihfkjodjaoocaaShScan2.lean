/- Walks of package shelf: Scan. -/
import Derived.Test.YtihfkjodjaoocaaShKeys
import Derived.Test.YtihfkjodjaoocaaShGet
set_option maxRecDepth 4000
namespace Go.Proofs.Ytihfkjodjaoocaa
open Go.RowKit Mem
set_option linter.unusedSimpArgs false
set_option linter.unusedVariables false
attribute [local irreducible] Go.Calls

theorem Row.ne_row {α β : Type} {E : Enc α} {F : Enc β} {T T' : TypeId} {N N' : Nat} {w : World} {v v' : Value} {l : List α} {l' : List β} (h : Row E T N w v l) (h' : Row F T' N' w v' l') (hT : T ≠ T') {g : Nat} (hg : v.ownBlock = some g) : v'.ownBlock ≠ some g := by
  intro hg'
  rcases h.2 with ⟨rfl, _⟩ | ⟨b, cap, cur, rfl, _, hc, _⟩
  · cases hg
  · rcases h'.2 with ⟨rfl, _⟩ | ⟨b', cap', cur', rfl, _, hc', _⟩
    · cases hg'
    · have e1 : some b = some g := hg
      have e2 : some b' = some g := hg'
      injection e1 with e1
      injection e2 with e2
      subst e1 e2
      rw [hc] at hc'
      injection hc' with hc'
      injection hc' with _ e _
      exact hT e
/-- entries of one's own, with values of one's own -/
def OutR (N : Nat) (w : World) (v : Value) (M : List Ent) : Prop :=
  ∃ hs : List (Raw 5), hs.length = M.length ∧ Row (rawE 5) 28 N w v hs ∧ ∀ (i : Nat) (x : Raw 5) (y : Ent), hs[i]? = some x → M[i]? = some y → ∃ u, x.1 = ecl y u ∧ Row (intE .u32) 22 N w u y.2.1.2.2
theorem OutR.keep {N : Nat} {w w' : World} {v : Value} {M : List Ent} (h : OutR N w v M) (k : Below w.heap.size w w') : OutR N w' v M := by
  obtain ⟨hs, h1, h2, h3⟩ := h
  exact ⟨hs, h1, h2.keep k, fun i x y hx hy => by obtain ⟨u, hu, hr⟩ := h3 i x y hx hy; exact ⟨u, hu, hr.keep k⟩⟩
theorem OutR.turned {N : Nat} {S : Nat → Prop} {w w' : World} {v : Value} {M : List Ent} (h : OutR N w v M) (t : Turned S w w') (hS : ∀ j, S j → j < N) : OutR N w' v M := by
  obtain ⟨hs, h1, h2, h3⟩ := h
  refine ⟨hs, h1, h2.turned t (fun g hg hs' => by have := (h2.block g hg).1; have := hS g hs'; omega), fun i x y hx hy => ?_⟩
  obtain ⟨u, hu, hr⟩ := h3 i x y hx hy
  exact ⟨u, hu, hr.turned t (fun g hg hs' => by have := (hr.block g hg).1; have := hS g hs'; omega)⟩
theorem OutR.mono {N N' : Nat} {w : World} {v : Value} {M : List Ent} (h : OutR N w v M) (hN : N' ≤ N) : OutR N' w v M := by
  obtain ⟨hs, h1, h2, h3⟩ := h
  exact ⟨hs, h1, h2.mono hN, fun i x y hx hy => by obtain ⟨u, hu, hr⟩ := h3 i x y hx hy; exact ⟨u, hu, hr.mono hN⟩⟩
theorem OutR.ents {N : Nat} {w : World} {v : Value} {M : List Ent} (h : OutR N w v M) : EntsIn (fun j => N ≤ j) w v M := by
  obtain ⟨hs, h1, h2, h3⟩ := h
  refine ⟨hs, h1, h2.rd, fun _ g hg => (h2.block g hg).1, fun i x y hx hy => ?_⟩
  obtain ⟨u, hu, hr⟩ := h3 i x y hx hy
  exact ⟨u, hu, hr.rd, fun _ g hg => (hr.block g hg).1⟩
/-- one more put behind -/
theorem OutR.snoc {N : Nat} {w w' : World} {v v' : Value} {M : List Ent} {y : Ent} {u : Value} {hs : List (Raw 5)} (hu : u.oneCell' = true) (h1 : hs.length = M.length) (h2 : Row (rawE 5) 28 N w v hs)
    (h3 : ∀ (i : Nat) (x : Raw 5) (y : Ent), hs[i]? = some x → M[i]? = some y → ∃ u, x.1 = ecl y u ∧ Row (intE .u32) 22 N w u y.2.1.2.2)
    (hr : Row (rawE 5) 28 N w' v' (hs ++ [rawEnt y u hu])) (hg : w.grownBy w' v.ownBlock) (hy : Row (intE .u32) 22 N w u y.2.1.2.2) : OutR N w' v' (M ++ [y]) := by
  have hk : ∀ (u : Value) (l : List Int), Row (intE .u32) 22 N w u l → Row (intE .u32) 22 N w' u l := fun u l hul => hul.kept hg (by
    cases e : u.ownBlock with
    | none => exact .inl rfl
    | some g => exact .inr (fun h => Row.ne_row hul h2 (by decide) e h.symm))
  refine ⟨hs ++ [rawEnt y u hu], by simp [h1], hr, fun i x z hx hz => ?_⟩
  by_cases hi : i < hs.length
  · rw [List.getElem?_append_left hi] at hx
    rw [List.getElem?_append_left (by omega)] at hz
    obtain ⟨u', hu', hr'⟩ := h3 i x z hx hz
    exact ⟨u', hu', hk _ _ hr'⟩
  · rw [List.getElem?_append_right (by omega)] at hx
    rw [List.getElem?_append_right (by omega), ← h1] at hz
    by_cases hi2 : i - hs.length = 0
    · rw [hi2] at hx hz
      simp only [List.getElem?_cons_zero, Option.some.injEq] at hx hz
      subst hx hz
      exact ⟨u, rfl, hk _ _ hy⟩
    · rw [List.getElem?_eq_none (by simp; omega)] at hx
      cases hx
theorem egrow_zero (w : World) : Calls Try.prog 39 #[.slice none 0 0, .int .i64 0] w fun e w' => ∃ v, e = .returned v ∧ Row (rawE 5) 28 w.heap.size w' v [] ∧ Below w.heap.size w w' := by
  go_enter Try.func39, Try.ntmps39
  go_wp2
  go_ret
  exact ⟨_, rfl, Row.nil, Below.refl _ _⟩
theorem egrow_some (n : Nat) (hn : 0 < n) (hn1 : n ≤ 1000000) (w : World) : Calls Try.prog 39 #[.slice none 0 0, .int .i64 n] w fun e w' => ∃ v, e = .returned v ∧ Row (rawE 5) 28 w.heap.size w' v [] ∧ Below w.heap.size w w' := by
  have hn2 : (0 : Int) < (n : Int) := by omega
  go_enter Try.func39, Try.ntmps39
  go_wp2_with (at_builtin; go_must (refine wpList_append_make entElem Try.underlying3 (by decide) rfl (.tmp 20) (.tmp 21) rfl n rfl rfl hn (by omega) (by omega) ?_); intro cap cur h1 h2 h3)
  go_ret
  exact ⟨_, rfl, World.ownsRow_made w.drew cur cap (Nat.le_refl _) h2 h3, (Below.refl _ _).drew.alloc (Nat.le_refl _) _⟩
theorem egrow_any (n : Nat) (hn1 : n ≤ 1000000) (w : World) : Calls Try.prog 39 #[.slice none 0 0, .int .i64 n] w fun e w' => ∃ v, e = .returned v ∧ Row (rawE 5) 28 w.heap.size w' v [] ∧ Below w.heap.size w w' := by
  by_cases h : n = 0
  · subst h; exact egrow_zero w
  · exact egrow_some n (by omega) hn1 w
set_option maxHeartbeats 2000000 in
theorem shscan_nil (f t : Int) (w : World) : Calls Try.prog 24 #[.pointer none, .agg #[.int .u32 f, .int .u32 t]] w fun e w' => ∃ a c, e = .returned (.slice a 0 c) ∧ c ≤ maxLen ∧ Below w.heap.size w w' := by
  go_enter Try.func24, Try.ntmps24
  go_wp2_with fail
  go_ret
  exact ⟨none, 0, rfl, Nat.zero_le _, more (Below.refl _ _) _⟩
set_option maxHeartbeats 8000000 in
set_option maxRecDepth 100000 in
theorem shscanR_any (b : Nat) (W R : Nat → Prop) (L : List Ent) (f t : Int) (w : World) (h : ShAt w b W R L) :
    Calls Try.prog 24 #[.pointer (some ⟨b, 0, none⟩), .agg #[.int .u32 f, .int .u32 t]] w fun e w' => ∃ v, e = .returned v ∧ OutR w.heap.size w' v (scanL f t L) ∧ Below w.heap.size w w' := by
  have hk0 : Below w.heap.size w (w.alloc (.cells #[.int .u32 f, .int .u32 t] 61)) := more (Below.refl _ _) _
  have HS := Lib.hid (h.turned (S := fun _ => False) (Turned.of_below hk0) (fun _ _ h => h))
  have HSP : Hid (Blk (w.alloc (.cells #[.int .u32 f, .int .u32 t] 61)) w.heap.size 61 #[.int .u32 f, .int .u32 t]) := Lib.hid (Blk.new _ _ _)
  have HK0 := Lib.hid hk0
  have HLN : Hid ((scanL f t L).length ≤ 10000) := Lib.hid (by
    have := (scanL_perm f t L).length_eq
    have := List.length_filter_le (fun y => hasV f t y.1) L
    have := h.len
    omega)
  have HM : Hid (∀ y ∈ scanL f t L, y ∈ L) := Lib.hid (fun y hy => (List.mem_filter.1 ((scanL_perm f t L).mem_iff.1 hy)).1)
  have HU := Lib.hid h.uniq
  have HOK := Lib.hid h.ok
  clear h hk0
  obtain ⟨M, hM⟩ : ∃ M, M = scanL f t L := ⟨_, rfl⟩
  rw [← hM] at HLN HM ⊢
  have HME := Lib.hid hM
  clear hM
  go_enter Try.func24, Try.ntmps24
  go_upto_region 1 with fail
  generalize w.alloc (.cells #[.int .u32 f, .int .u32 t] 61) = w1 at *
  obtain ⟨gs, hgs⟩ : ∃ g, g = w.heap.size := ⟨_, rfl⟩
  rw [← hgs] at HSP ⊢
  have HGS := Lib.hid hgs
  clear hgs
  have hkeys := shkeys_any b W R L f t w1 HS.out
  rw [← HME.out] at hkeys
  have HKEYS := Lib.hid hkeys
  clear hkeys
  go_upto_region 4 with (first | (refine at_load 3 rfl ?_; refine wpList_load_row rfl 61 (.tmp 3) rfl gs rfl 61 _ (0, 0) _ HSP.out Try.underlying61 rfl span_info ?_) | (go_at_call 38; refine HKEYS.out.mono ?_; rintro e w2 ⟨kv2, rfl, hrd, hk2⟩; obtain ⟨ak, ck, hkv, hck1, hck2⟩ := hrd.form; subst hkv))
  have HRD := Lib.hid hrd
  have HB2 := Lib.hid (nest HK0.out hk2)
  have HS2 := Lib.hid (HS.out.turned (S := fun _ => False) (Turned.of_below hk2) (fun _ _ h => h))
  clear hrd hk2 hck1 hck2 HS HSP HKEYS
  have HGROW := Lib.hid (egrow_any M.length (by have := HLN.out; omega) w2)
  go_upto_region 5 with (go_at_call 39; refine HGROW.out.mono ?_; rintro e w3 ⟨v0, rfl, hro, hk3⟩)
  have HRO := Lib.hid hro
  have HN3 : Hid (w.heap.size ≤ w2.heap.size) := Lib.hid HB2.out.size
  have HB3 := Lib.hid hk3
  clear hro hk3 HGROW
  obtain ⟨N, hN⟩ : ∃ n, n = w2.heap.size := ⟨_, rfl⟩
  rw [← hN] at HRO HN3 HB3
  have HNN := Lib.hid hN
  clear hN
  go_upto_block 99 with fail
  go_loopw [6, 21] (fun vl i wr => ∃ j : Nat, j ≤ M.length ∧ i = .int .i64 j ∧ OutR N wr vl (M.take j) ∧ Below N w2 wr) (fun _ i _ => M.length - (intOf i).toNat)
  case atStart => exact ⟨0, Nat.zero_le _, rfl, ⟨[], rfl, HRO.out, fun i x y hx _ => by simp at hx⟩, HB3.out⟩
  case round =>
    obtain ⟨j, hj, rfl, hout, hb⟩ := hrel
    have HOUT := Lib.hid hout
    have HB := Lib.hid hb
    clear hout hb
    by_cases hlt : j < M.length
    · have hb2 : Below w2.heap.size w2 wr := by have := HB.out; rw [HNN.out] at this; exact this
      have HRDr := Lib.hid (HRD.out.keep hb2)
      have HSr := Lib.hid (HS2.out.turned (S := fun _ => False) (Turned.of_below hb2) (fun _ _ h => h))
      clear hb2
      obtain ⟨g, off, c', hv, hc1, hc2, hc⟩ := HRDr.out.cells (by rw [List.length_map]; omega)
      have hlm : (M.map keyP).length = M.length := List.length_map _
      rw [hlm] at hv
      injection hv with e1 e2 e3
      subst e1 e3
      obtain ⟨y, hy⟩ : ∃ y, y = M.getD j e0 := ⟨_, rfl⟩
      have hyM : M[j]? = some y := by rw [hy, List.getD_eq_getElem?_getD, List.getElem?_eq_getElem hlt]; rfl
      have hyL : y ∈ L := HM.out _ (List.mem_of_getElem? hyM)
      have hkj : (M.map keyP)[j]'(by rw [hlm]; exact hlt) = keyP y := by
        rw [List.getElem_map]
        congr 1
        rw [List.getElem?_eq_getElem hlt] at hyM
        exact Option.some.inj hyM
      have d0 := hc j (by rw [hlm]; exact hlt) 0 (by decide)
      have d1 := hc j (by rw [hlm]; exact hlt) 1 (by decide)
      rw [hkj] at d0 d1
      have hget : getE L y.1 y.2.1.1 = (y, true) := getE_yes HU.out hyL rfl
      have HYOK := Lib.hid (HOK.out y hyL)
      have HYM := Lib.hid hyM
      have HGET := Lib.hid (shgetR_any b W R L y.1 y.2.1.1)
      have HGE := Lib.hid hget
      obtain ⟨ya, ⟨yi, yv, yl⟩, yg⟩ := y
      have d0 : wr.cell? ⟨g, off + j * 2, none⟩ = some (.int .u32 ya) := d0
      have d1 : wr.cell? ⟨g, off + j * 2 + 1, none⟩ = some (.int .u64 yi) := d1
      clear hc1 hc2 hc hlm hy hyM hyL hkj hget e2
      go_upto_region 8 with fail
      have hX : Below wr.heap.size wr (wr.alloc (.cells #[.int .u32 ya, .int .u64 yi] 66)) := more (Below.refl _ _) _
      have HBK : Hid (Blk (wr.alloc (.cells #[.int .u32 ya, .int .u64 yi] 66)) wr.heap.size 66 #[.int .u32 ya, .int .u64 yi]) := Lib.hid (Blk.new _ _ _)
      have HS4 := Lib.hid (HSr.out.turned (S := fun _ => False) (Turned.of_below hX) (fun _ _ h => h))
      have HOUT4 := Lib.hid (HOUT.out.keep hX)
      have HNW : Hid (N ≤ wr.heap.size) := Lib.hid (by have := HB.out.size; have := HNN.out; omega)
      have HB4 : Hid (Below N w2 (wr.alloc (.cells #[.int .u32 ya, .int .u64 yi] 66))) := Lib.hid (HB.out.trans (hX.mono HNW.out))
      clear hX d0 d1 HSr HRDr
      generalize wr.alloc (.cells #[.int .u32 ya, .int .u64 yi] 66) = w4 at *
      obtain ⟨g8, hg8⟩ : ∃ g, g = wr.heap.size := ⟨_, rfl⟩
      rw [← hg8] at HBK ⊢
      clear hg8
      have hgt := HGET.out w4 HS4.out HYOK.out.1.1 HYOK.out.1.2.1
      rw [HGE.out] at hgt
      have HG4 : Hid (Calls Try.prog 40 #[.pointer (some ⟨b, 0, none⟩), .agg #[.int .u32 ya, .int .u64 yi]] w4 fun e w' => ∃ x, e = .returned (.tuple #[.agg (ecl (ya, (yi, yv, yl), yg) x).toArray, .bool true]) ∧ Row (intE .u32) 22 w4.heap.size w' x yl ∧ Below w4.heap.size w4 w') := Lib.hid hgt
      clear hgt HGET
      go_upto_region 9 with (first | (refine at_load 8 rfl ?_; refine wpList_load_row rfl 66 (.tmp 8) rfl g8 rfl 66 _ (0, 0) _ HBK.out Try.underlying66 rfl key_info ?_) | (go_at_call 40; refine HG4.out.mono ?_; rintro e w5 ⟨xo, rfl, hrow, hk5⟩; obtain ⟨ao, co, hxo, hco1, hco2⟩ := hrow.rd.form; subst hxo; simp only [ecl]))
      have hX : Below w5.heap.size w5 (w5.alloc (.cells #[.int .u32 ya, .int .u64 yi, .int .u64 yv, .slice ao yl.length co, .bool yg] 28)) := more (Below.refl _ _) _
      have HOUT6 := Lib.hid ((HOUT4.out.keep hk5).keep hX)
      have HN4 : Hid (N ≤ w4.heap.size) := Lib.hid (by have := HB4.out.size; have := HNN.out; omega)
      have HROW6 : Hid (Row (intE .u32) 22 N (w5.alloc (.cells #[.int .u32 ya, .int .u64 yi, .int .u64 yv, .slice ao yl.length co, .bool yg] 28)) (.slice ao yl.length co) yl) := Lib.hid ((hrow.keep hX).mono HN4.out)
      have HB6 : Hid (Below N w2 (w5.alloc (.cells #[.int .u32 ya, .int .u64 yi, .int .u64 yv, .slice ao yl.length co, .bool yg] 28))) := Lib.hid ((HB4.out.trans (hk5.mono HN4.out)).trans (hX.mono (Nat.le_trans HN4.out hk5.size)))
      have HBE : Hid (Blk (w5.alloc (.cells #[.int .u32 ya, .int .u64 yi, .int .u64 yv, .slice ao yl.length co, .bool yg] 28)) w5.heap.size 28 #[.int .u32 ya, .int .u64 yi, .int .u64 yv, .slice ao yl.length co, .bool yg]) := Lib.hid (Blk.new _ _ _)
      clear hX hk5 hrow hco1 hco2 HG4 HOUT4 HS4 HBK
      generalize w5.alloc (.cells #[.int .u32 ya, .int .u64 yi, .int .u64 yv, .slice ao yl.length co, .bool yg] 28) = w6 at *
      obtain ⟨g9, hg9⟩ : ∃ g, g = w5.heap.size := ⟨_, rfl⟩
      rw [← hg9] at HBE ⊢
      clear hg9
      have hX : Below w6.heap.size w6 (w6.alloc (.cells #[.int .u32 ya, .int .u64 yi, .int .u64 yv, .slice ao yl.length co, .bool yg] 28)) := more (Below.refl _ _) _
      obtain ⟨hs, h1, h2, h3⟩ := HOUT6.out.keep hX
      have hsl : hs.length = j := by rw [h1, List.length_take]; omega
      have HHS := Lib.hid h1
      have HROW7 := Lib.hid h2
      have HEL := Lib.hid h3
      have HSL : Hid (hs.length + 1 ≤ 10000) := Lib.hid (by have := HLN.out; omega)
      have HX7 := Lib.hid hX
      have HN7 : Hid (N ≤ (w6.alloc (.cells #[.int .u32 ya, .int .u64 yi, .int .u64 yv, .slice ao yl.length co, .bool yg] 28)).heap.size) := Lib.hid (by have := HB6.out.size; have := HNN.out; have := hX.size; omega)
      have HFR : Hid (Rd (rawE 5) (w6.alloc (.cells #[.int .u32 ya, .int .u64 yi, .int .u64 yv, .slice ao yl.length co, .bool yg] 28)) (.slice (some ⟨w6.heap.size, 0, none⟩) 1 1) [rawEnt (ya, (yi, yv, yl), yg) (.slice ao yl.length co) rfl]) := Lib.hid (Rd.fresh w6 (rawEnt (ya, (yi, yv, yl), yg) (.slice ao yl.length co) rfl) _ _ _ rfl rfl)
      clear hX h1 h2 h3 hsl
      go_wp2_with (first | (refine at_load 9 rfl ?_; refine wpList_load_row rfl 28 (.tmp 9) rfl g9 rfl 28 _ (0, 0) _ HBE.out Try.underlying28 rfl ent_info' ?_) | (at_builtin; go_must (refine wpList_append (E := rawE 5) (B := N) (l := hs) (m := [rawEnt (ya, (yi, yv, yl), yg) (.slice ao yl.length co) rfl]) (bytes := 56) entElem (by decide) rfl (.tmp 31) (.tmp 33) rfl rfl HROW7.out rfl HFR.out (by have := HSL.out; simp [maxLen]; omega) (by have := HSL.out; simp; omega) HN7.out ?_); intro v9 z hr9 hk9 hg9 hw9))
      have hkw : wrap64 ((j : Int) + 1) = ((j + 1 : Nat) : Int) := by
        have := HLN.out
        rw [IntWalk.wrap64_in _ (by omega)]; omega
      have htk : M.take (j + 1) = M.take j ++ [(ya, (yi, yv, yl), yg)] := by rw [List.take_add_one, HYM.out]; rfl
      refine ⟨⟨j + 1, by omega, by rw [hkw], ?_, HB6.out.trans ((HX7.out.mono (by have := HB6.out.size; have := HNN.out; omega)).trans hk9)⟩, by rw [hkw]; simp only [intOf]; omega⟩
      rw [htk]
      exact OutR.snoc rfl HHS.out HROW7.out HEL.out hr9 hg9 (HROW6.out.keep HX7.out)
    · have hjl : j = M.length := by omega
      subst hjl
      have HFIN := HOUT
      rw [List.take_length] at HFIN
      go_wp2_with fail
      go_ret
      exact ⟨_, rfl, HFIN.out.mono HN3.out, HB2.out.trans (HB.out.mono HN3.out)⟩
end Go.Proofs.Ytihfkjodjaoocaa
