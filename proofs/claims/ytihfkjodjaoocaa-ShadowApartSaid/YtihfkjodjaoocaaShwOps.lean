/- Walks of package shadow: New, open, lay, Of, Drop, Set, Fork of nil. -/
import Derived.Test.YtihfkjodjaoocaaShwBd
import Derived.Test.YtihfkjodjaoocaaShJoin3
set_option maxRecDepth 4000
namespace Go.Proofs.Ytihfkjodjaoocaa
open Go.RowKit Mem
set_option linter.unusedSimpArgs false
set_option linter.unusedVariables false
attribute [local irreducible] Go.Calls

/-- what a call leaves -/
def WStep (W R : Nat → Prop) (w w' : World) (b : Nat) (F : Int → List Ent) : Prop := ∃ W' R', ShwAt w' b W' R' F ∧ Turned W w w' ∧ (∀ j, W' j → W j ∨ w.heap.size ≤ j) ∧ (∀ j, R' j → R j ∨ w.heap.size ≤ j)
set_option maxHeartbeats 2000000 in
theorem shwnew_any (w : World) : Calls Try.prog 13 #[] w fun e w' => ∃ b W R, e = .returned (.pointer (some ⟨b, 0, none⟩)) ∧ ShwAt w' b W R (fun _ => []) ∧ (∀ j, R j → w.heap.size ≤ j) ∧ Below w.heap.size w w' := by
  go_enter Try.func13, Try.ntmps13
  go_wp2_with fail
  go_ret
  refine ⟨w.heap.size, fun j => j = w.heap.size, fun j => j = w.heap.size, rfl, ⟨fun _ => Iff.rfl, rfl, fun j hj => by rw [hj, size_alloc]; omega, .map none, [], ⟨Blk.new _ _ _, .inl ⟨rfl, rfl⟩, fun g hg => (by cases hg), fun p hp => by simp at hp, fun _ _ => rfl⟩⟩, fun j hj => by rw [hj]; exact Nat.le_refl _, more (Below.refl _ _) _⟩
theorem shwput_nil (o : Int) (y : Ent) (x : Value) (w : World) : Calls Try.prog 8 #[.pointer none, .int .u32 o, .agg (ecl y x).toArray] w fun e w' => e = .returned (.bool false) ∧ Below w.heap.size w w' := by
  unfold ecl
  go_enter Try.func8, Try.ntmps8
  go_wp2_with fail
  go_ret
  exact ⟨rfl, more (Below.refl _ _) _⟩
theorem shwof_nil (o : Int) (w : World) : Calls Try.prog 9 #[.pointer none, .int .u32 o] w fun e w' => ∃ a c, e = .returned (.slice a 0 c) ∧ c ≤ maxLen ∧ Below w.heap.size w w' := by
  go_enter Try.func9, Try.ntmps9
  go_wp2_with fail
  go_ret
  exact ⟨none, 0, rfl, Nat.zero_le _, Below.refl _ _⟩
theorem shwdrop_nil (o : Int) (w : World) : Calls Try.prog 10 #[.pointer none, .int .u32 o] w fun e w' => e = .returned (.int .i64 0) ∧ Below w.heap.size w w' := by
  go_enter Try.func10, Try.ntmps10
  go_wp2_with fail
  go_ret
  exact ⟨rfl, Below.refl _ _⟩
theorem shwset_nil (o : Int) (v : Value) (w : World) : Calls Try.prog 6 #[.pointer none, .int .u32 o, v] w fun e w' => (∃ u, e = .returned u) ∧ Below w.heap.size w w' := by
  go_enter Try.func6, Try.ntmps6
  go_wp2_with fail
  (try simp only [Exit.inBlock, Exit.then])
  refine bodyPost_ret (results_none rfl _ _ _) rfl ?_
  exact ⟨⟨_, rfl⟩, Below.refl _ _⟩
theorem shwowners_nil (w : World) : Calls Try.prog 11 #[.pointer none] w fun e w' => ∃ a c, e = .returned (.slice a 0 c) ∧ c ≤ maxLen ∧ Below w.heap.size w w' := by
  go_enter Try.func11, Try.ntmps11
  go_wp2_with fail
  go_ret
  exact ⟨none, 0, rfl, Nat.zero_le _, Below.refl _ _⟩
theorem shwfork_nil (w : World) : Calls Try.prog 12 #[.pointer none] w fun e w' => e = .returned (.pointer none) ∧ Below w.heap.size w w' := by
  go_enter Try.func12, Try.ntmps12
  go_wp2_with fail
  go_ret
  exact ⟨rfl, Below.refl _ _⟩
set_option maxHeartbeats 2000000 in
theorem shwopen_any (b : Nat) (W R : Nat → Prop) (F : Int → List Ent) (o : Int) (w : World) (h : ShwAt w b W R F) (bo : okO o) :
    Calls Try.prog 22 #[.pointer (some ⟨b, 0, none⟩), .int .u32 o] w fun e w' => ∃ sb W1 R1, e = .returned (.pointer (some ⟨sb, 0, none⟩)) ∧ ShAt w' sb W1 R1 (F o) ∧ (∀ j, W1 j → w.heap.size ≤ j) ∧ (∀ j, R1 j → (R j ∨ w.heap.size ≤ j) ∧ j ≠ b) ∧ Below w.heap.size w w' := by
  obtain ⟨h1, h2, h3, v, M, h4⟩ := h
  have HB := Lib.hid (h3 b h2)
  have c0 := h4.blk.cell 0
  have c0 : w.cell? ⟨b, 0, none⟩ = some v := c0
  rcases h4.look o bo with ⟨sb, W1, R1, hm, hne, hs, hr, hl, _⟩ | ⟨he, hn, hl, _⟩
  · have HS := Lib.hid hs
    have HR := Lib.hid hr
    clear h1 h2 h3 h4 hs hr hm hne
    go_enter Try.func22, Try.ntmps22
    go_wp2_with (go_at_call 37; refine (shfork_any sb W1 R1 _ w HS.out).mono ?_; rintro e w' ⟨b', W2, R2, rfl, hsa, hw2, hr2, hk⟩)
    go_ret
    exact ⟨b', W2, R2, rfl, hsa, hw2, fun j hj => by
      rcases hr2 j hj with h | h
      · exact ⟨.inl (HR.out j h.1).1, (HR.out j h.1).2⟩
      · exact ⟨.inr h, by have := HB.out; omega⟩, hk⟩
  · have HE := Lib.hid he
    clear h1 h2 h3 h4 he hn
    go_enter Try.func22, Try.ntmps22
    go_wp2_with (go_at_call 18; refine (shnew_any w).mono ?_; rintro e w' ⟨b', W2, R2, rfl, hsa, hr2, hk⟩)
    go_ret
    exact ⟨b', W2, R2, rfl, by rw [HE.out]; exact hsa, fun j hj => hr2 j (hsa.sub hj), fun j hj => ⟨.inr (hr2 j hj), by have := hr2 j hj; have := HB.out; omega⟩, hk⟩
theorem shlen_arg {w : World} {sv : Value} {L : List Ent} {Q : Nat → Prop} (h : ShelfArg w sv L Q) : Calls Try.prog 25 #[sv] w fun e w' => e = .returned (.int .i64 L.length) ∧ Below w.heap.size w w' := by
  rcases h with ⟨rfl, rfl⟩ | ⟨sb, W1, R1, rfl, hs, _⟩
  · exact shlen_nil w
  · exact shlen_any sb W1 R1 L w hs
set_option maxHeartbeats 4000000 in
theorem shwlay_any (b : Nat) (W R Q : Nat → Prop) (F : Int → List Ent) (o : Int) (sv : Value) (L : List Ent) (w : World) (h : ShwAt w b W R F) (bo : okO o) (hs : ShelfArg w sv L Q) (hQ : ∀ j, Q j → j ≠ b) :
    Calls Try.prog 20 #[.pointer (some ⟨b, 0, none⟩), .int .u32 o, sv] w fun e w' => e = .returned (.tuple #[]) ∧ ∃ R', ShwAt w' b W R' (updF F o L) ∧ Turned W w w' ∧ (∀ j, R' j → R j ∨ (Q j ∧ j < w.heap.size) ∨ w.heap.size ≤ j) := by
  obtain ⟨h1, h2, h3, v, M, h4⟩ := h
  have HH := Lib.hid h4
  have HW := Lib.hid h1
  have HRB := Lib.hid h2
  have HRL := Lib.hid h3
  have HQ := Lib.hid hQ
  have HSA := Lib.hid hs
  have HBO := Lib.hid bo
  have hsf : ∃ x, sv = .pointer x := by
    rcases hs with ⟨e, _⟩ | ⟨sb, _, _, e, _⟩
    · exact ⟨_, e⟩
    · exact ⟨_, e⟩
  obtain ⟨x, rfl⟩ := hsf
  have hmk := run_makeMap_hint (P := Try.prog) (t := 54) Try.underlying54
  have hlen := h4.mp.len (t := 54) Try.underlying54 3
  have c0 : w.cell? ⟨b, 0, none⟩ = some v := h4.blk.cell 0
  clear h1 h2 h3 h4 hQ hs bo
  go_enter Try.func20, Try.ntmps20
  go_upto_region 1 with fail
  have hm0 : MapAt Try.prog 58 ovc (w.alloc (.map #[] 0)) w.heap.size [] := MapAt.made w
  have hk1 : Below w.heap.size w (w.alloc (.map #[] 0)) := more (Below.refl _ _) _
  have HM0 := Lib.hid hm0
  have HK1 := Lib.hid hk1
  have HH1 := Lib.hid (HH.out.keep hk1)
  have HNE : Hid (v ≠ .map (some w.heap.size)) := Lib.hid (fun e => by have := HRL.out _ (HH.out.mR _ e); omega)
  have HCP := Lib.hid (shwcopy_any w.heap.size v M _ hm0 HH1.out.mp HNE.out (fun p hp => (HH1.out.sh p hp).1))
  clear hm0 hk1 hmk hlen c0
  generalize w.alloc (.map #[] 0) = w1 at *
  obtain ⟨g, hg⟩ : ∃ g, g = w.heap.size := ⟨_, rfl⟩
  rw [← hg] at HM0 HCP HNE ⊢
  have HG := Lib.hid hg
  clear hg
  have c0 : w1.cell? ⟨b, 0, none⟩ = some v := HH1.out.blk.cell 0
  go_upto_region 2 with (go_at_call 34; refine HCP.out.mono ?_; rintro e w2 ⟨rfl, ho2, M2, hm2, hmem2⟩)
  have HK2 : Hid (Below w.heap.size w w2) := Lib.hid (HK1.out.trans (ho2.below (by rw [HG.out]; exact Nat.le_refl _) HK1.out.size))
  have HM2 := Lib.hid hm2
  have HMEM2 := Lib.hid hmem2
  obtain ⟨kl, hkl⟩ := okey_of HBO.out
  have HKL := Lib.hid hkl
  clear c0 ho2 hm2 hmem2 hkl HCP HK1 HH1 HM0
  obtain ⟨w3, M3, hdel, hm3, hmem3, ho3⟩ := HM2.out.drop okeyK (t := 54) Try.underlying54 HKL.out 0
  unfold okv at hdel
  go_upto_region 3 with fail
  have HK3 : Hid (Below w.heap.size w w3) := Lib.hid (HK2.out.trans (ho3.below (by rw [HG.out]; exact Nat.le_refl _) HK2.out.size))
  have HM3 := Lib.hid hm3
  have HMEM3 : Hid (∀ q, q ∈ M3 ↔ q ∈ M ∧ q.1 ≠ o) := Lib.hid (fun q => by rw [hmem3, HMEM2.out]; exact ⟨fun h => ⟨h.1, fun e => h.2 (by simp only [ovc]; rw [e])⟩, fun h => ⟨h.1, fun e => h.2 (okv_inj.1 e)⟩⟩)
  have HLN := Lib.hid (shlen_arg (HSA.out.keep HK3.out))
  clear hdel ho3 hm3 hmem3 HK2 HM2 HMEM2
  have HB : Hid (b < w.heap.size) := Lib.hid (HRL.out b HRB.out)
  have HEND : Hid (∀ w5 M5, Below w.heap.size w w5 → MapAt Try.prog 58 ovc w5 g M5 → (∀ q, q ∈ M5 ↔ (L ≠ [] ∧ (ovc q).1 = okv o ∧ (ovc q).2 = .pointer x) ∨ (q ∈ M ∧ q.1 ≠ o)) →
      ∃ R', ShwAt (w5.setCell ⟨b, 0, none⟩ (.map (some g))) b W R' (updF F o L) ∧ Turned W w (w5.setCell ⟨b, 0, none⟩ (.map (some g))) ∧ (∀ j, R' j → R j ∨ (Q j ∧ j < w.heap.size) ∨ w.heap.size ≤ j)) := Lib.hid (by
    intro w5 M5 k5 hm5 hmem5
    have hbl := HH.out.blk.keep k5
    have o2 : Only b w5 (w5.setCell ⟨b, 0, none⟩ (.map (some g))) := Only.set _ _ _
    have hb2 : Blk (w5.setCell ⟨b, 0, none⟩ (.map (some g))) b 56 #[.map (some g)] := hbl.set_ 0 _
    have ht : Turned W w (w5.setCell ⟨b, 0, none⟩ (.map (some g))) := (Turned.of_below k5).trans (Turned.of_only o2 (S := W) ((HW.out b).2 rfl)) (fun _ _ h => h)
    have hgl := hm5.lt
    have hz : w5.heap.size ≤ (w5.setCell ⟨b, 0, none⟩ (.map (some g))).heap.size := o2.size
    have hz0 := k5.size
    refine ⟨fun j => (R j ∨ (Q j ∧ j < w.heap.size) ∨ w.heap.size ≤ j) ∧ j < (w5.setCell ⟨b, 0, none⟩ (.map (some g))).heap.size, ⟨HW.out, ⟨.inl HRB.out, by have := HB.out; omega⟩, fun j hj => hj.2, _, M5, HH.out.laid HRL.out k5 hm5 (by rw [HG.out]; exact Nat.le_refl _) o2 hb2 HBO.out HSA.out HQ.out hmem5 ⟨.inr (.inr (by rw [HG.out]; exact Nat.le_refl _)), by omega⟩ (fun j hj => ⟨.inl hj, by have := HRL.out j hj; omega⟩) (fun j hj hq => ⟨.inr (.inl ⟨hq, hj⟩), by omega⟩)⟩, ht, fun j hj => hj.1⟩)
  by_cases hL : L = []
  · have HL := Lib.hid hL
    have hl0 : (L.length : Int) = 0 := by rw [hL]; rfl
    clear hL
    go_upto_region 5 with (go_at_call 25; refine HLN.out.mono ?_; rw [hl0]; rintro e w4 ⟨rfl, hk4⟩)
    have HK4 := Lib.hid (HK3.out.trans (hk4.mono HK3.out.size))
    have HM4 := Lib.hid (HM3.out.keep hk4)
    have hbl := HH.out.blk.keep HK4.out
    have c0 : w4.cell? ⟨b, 0, none⟩ = some v := hbl.cell 0
    have f0 := hbl.frozen 0
    clear hk4 hl0 hbl
    go_wp2_with fail
    go_end0
    exact ⟨rfl, HEND.out w4 M3 HK4.out HM4.out (fun q => by rw [HMEM3.out]; exact ⟨fun h => .inr h, fun h => h.resolve_left (fun h => h.1 HL.out)⟩)⟩
  · have HL := Lib.hid hL
    have hl0 : 0 < L.length := List.length_pos_iff.2 hL
    have hl1 : (0 : Int) < (L.length : Int) := by omega
    clear hL
    go_upto_region 4 with (go_at_call 25; refine HLN.out.mono ?_; rintro e w4 ⟨rfl, hk4⟩)
    have HK4 := Lib.hid (HK3.out.trans (hk4.mono HK3.out.size))
    have HM4 := Lib.hid (HM3.out.keep hk4)
    clear hk4 hl0 hl1
    rcases HSA.out with ⟨e, hl⟩ | ⟨sb, W1, R1, e, hsa, hq⟩
    · exact absurd hl HL.out
    injection e with e
    subst e
    clear hsa hq
    go_upto_region 5 with (first | (at_mapUpdate; refine wpList_store_map rfl rfl okeyK Try.underlying54 rfl HM4.out (o, sb) rfl rfl HKL.out ?_; intro w5 M5 hm5 hmem5 ho5; go_frame) | go_in)
    have HK5 : Hid (Below w.heap.size w w5) := Lib.hid (HK4.out.trans (ho5.below (by rw [HG.out]; exact Nat.le_refl _) HK4.out.size))
    have HM5 := Lib.hid hm5
    have HMEM5 := Lib.hid hmem5
    have hbl := HH.out.blk.keep HK5.out
    have c0 : w5.cell? ⟨b, 0, none⟩ = some v := hbl.cell 0
    have f0 := hbl.frozen 0
    clear hm5 hmem5 ho5 hbl
    go_wp2_with fail
    go_end0
    refine ⟨rfl, HEND.out w5 M5 HK5.out HM5.out (fun q => ?_)⟩
    rw [HMEM5.out, HMEM3.out]
    constructor
    · rintro (rfl | ⟨h1, h2⟩)
      · exact .inl ⟨HL.out, rfl, rfl⟩
      · exact .inr h1
    · rintro (⟨_, h1, h2⟩ | h)
      · refine .inl ?_
        obtain ⟨q1, q2⟩ := q
        have e1 : q1 = o := okv_inj.1 h1
        have e2 : q2 = sb := by simpa [ovc] using h2
        rw [e1, e2]
      · exact .inr ⟨h, fun e => h.2 (okv_inj.1 e)⟩
set_option maxHeartbeats 2000000 in
theorem shwof_any (b : Nat) (W R : Nat → Prop) (F : Int → List Ent) (o : Int) (w : World) (h : ShwAt w b W R F) (bo : 0 ≤ o ∧ o ≤ 4294967295) :
    Calls Try.prog 9 #[.pointer (some ⟨b, 0, none⟩), .int .u32 o] w fun e w' => ∃ v, e = .returned v ∧ EntsIn (fun j => ¬ W j ∧ (R j ∨ w.heap.size ≤ j)) w' v (scanL 4294967295 4294967295 (F o)) ∧ Below w.heap.size w w' := by
  obtain ⟨h1, h2, h3, v, M, h4⟩ := h
  have HB := Lib.hid (h3 b h2)
  have HW := Lib.hid h1
  have c0 : w.cell? ⟨b, 0, none⟩ = some v := h4.blk.cell 0
  rcases h4.look o bo with ⟨sb, W1, R1, hm, hne, hs, hr, _, hl⟩ | ⟨he, hn, _, hl⟩
  · have HS := Lib.hid hs
    have HR := Lib.hid hr
    clear h1 h2 h3 h4 hs hr hm hne
    go_enter Try.func9, Try.ntmps9
    go_wp2_with (go_at_call 24; refine (shscan_any sb W1 R1 _ 4294967295 4294967295 w HS.out (by omega) (by omega)).mono ?_; rintro e w' ⟨v', rfl, hv, hk⟩)
    obtain ⟨a, g, off, c, rfl, _⟩ := hv.at
    go_ret
    refine ⟨_, rfl, hv.mono (fun j hj hq => ?_), hk⟩
    rcases hq.2 with h | h
    · exact ⟨fun hw => (HR.out j h).2 ((HW.out j).1 hw), .inl (HR.out j h).1⟩
    · exact ⟨fun hw => by have := (HW.out j).1 hw; have := HB.out; omega, .inr h⟩
  · have HE := Lib.hid he
    clear h1 h2 h3 h4 he hn
    go_enter Try.func9, Try.ntmps9
    go_wp2_with (go_at_call 24; refine (shscan_nil 4294967295 4294967295 w).mono ?_; rintro e w' ⟨a, c, rfl, hc, hk⟩)
    go_ret
    refine ⟨_, rfl, ?_, hk⟩
    rw [HE.out]
    exact EntsIn.nil _ _ _ _ hc
theorem updF_same {F : Int → List Ent} {o : Int} {L : List Ent} (h : F o = L) : updF F o L = F := by
  funext p
  unfold updF
  split
  · rename_i e; rw [e, h]
  · rfl
set_option maxHeartbeats 2000000 in
theorem shwdrop_any (b : Nat) (W R : Nat → Prop) (F : Int → List Ent) (o : Int) (w : World) (h : ShwAt w b W R F) (bo : 0 ≤ o ∧ o ≤ 4294967295) :
    Calls Try.prog 10 #[.pointer (some ⟨b, 0, none⟩), .int .u32 o] w fun e w' => e = .returned (.int .i64 ((F o).length : Int)) ∧ WStep W R w w' b (updF F o []) := by
  have HH := Lib.hid h
  obtain ⟨h1, h2, h3, v, M, h4⟩ := h
  have c0 : w.cell? ⟨b, 0, none⟩ = some v := h4.blk.cell 0
  have HBO := Lib.hid bo
  have HB := Lib.hid (h3 b h2)
  rcases h4.look o bo with ⟨sb, W1, R1, hm, hne, hs, hr, _, hl⟩ | ⟨he, hn, _, hl⟩
  · have HS := Lib.hid hs
    have hl0 : 0 < (F o).length := List.length_pos_iff.2 hne
    have hl1 : (0 : Int) < ((F o).length : Int) := by omega
    clear h1 h2 h3 h4 hs hr hm hne hl0
    go_enter Try.func10, Try.ntmps10
    go_upto_region 4 with (go_at_call 25; refine (shlen_any sb W1 R1 _ w HS.out).mono ?_; rintro e w1 ⟨rfl, hk⟩)
    have HH1 := Lib.hid (HH.out.turned (S := fun _ => False) (Turned.of_below hk) (fun _ _ h => h))
    have HK := Lib.hid hk
    clear hk hl c0 HS
    go_wp2_with (go_at_call 20; refine (shwlay_any b W R (fun _ => False) F o (.pointer none) [] w1 HH1.out HBO.out (.inl ⟨rfl, rfl⟩) (fun _ h => h.elim)).mono ?_; rintro e w2 ⟨rfl, R', hp, ht, hr⟩)
    go_ret
    refine ⟨rfl, W, R', hp, (Turned.of_below HK.out).trans ht (fun _ _ h => h), fun j hj => .inl hj, fun j hj => ?_⟩
    rcases hr j hj with h | h | h
    · exact .inl h
    · exact h.1.elim
    · exact .inr (Nat.le_trans HK.out.size h)
  · have HE := Lib.hid he
    clear h1 h2 h3 h4 he hn
    go_enter Try.func10, Try.ntmps10
    go_wp2_with (go_at_call 25; refine (shlen_nil w).mono ?_; rintro e w1 ⟨rfl, hk⟩)
    go_ret
    refine ⟨by rw [HE.out]; rfl, W, R, ?_, Turned.of_below hk, fun j hj => .inl hj, fun j hj => .inl hj⟩
    rw [updF_same HE.out]
    exact HH.out.turned (S := fun _ => False) (Turned.of_below hk) (fun _ _ h => h)
set_option maxHeartbeats 2000000 in
theorem shwset_any (b : Nat) (W R Q : Nat → Prop) (F : Int → List Ent) (o : Int) (l : List Ent) (v : Value) (w : World) (h : ShwAt w b W R F) (bo : 0 ≤ o ∧ o ≤ 4294967295) (hv : EntsIn Q w v l) (hQ : ∀ j, Q j → ¬ W j) (hl : ∀ y ∈ l, okE y) (hn : l.length ≤ 1000000) :
    Calls Try.prog 6 #[.pointer (some ⟨b, 0, none⟩), .int .u32 o, v] w fun e w' => (∃ u, e = .returned u) ∧ WStep W R w w' b (updF F o (joinL [] l).1) := by
  have HH := Lib.hid h
  have HBO := Lib.hid bo
  have HL := Lib.hid hl
  have HN := Lib.hid hn
  have HV : Hid (EntsIn (fun j => j < w.heap.size) w v l) := Lib.hid (hv.mono (fun j hj _ => hj))
  have HB : Hid (b < w.heap.size) := Lib.hid (h.lt h.2.1)
  obtain ⟨a, g, off, c, rfl, _⟩ := hv.at
  clear h bo hv hQ hl hn
  go_enter Try.func6, Try.ntmps6
  go_upto_region 2 with (go_at_call 18; refine (shnew_any w).mono ?_; rintro e w1 ⟨sb, W1, R1, rfl, hs, hr, hk⟩)
  have HS := Lib.hid hs
  have HR := Lib.hid hr
  have HK := Lib.hid hk
  have HV1 := Lib.hid (HV.out.turned (S := fun _ => False) (Turned.of_below hk) (fun _ _ h => h))
  clear hs hr hk
  go_upto_region 3 with (go_at_call 19; refine (shjoin_any sb W1 R1 _ [] l _ w1 HS.out HV1.out (fun j hj hw => by have := HR.out j (HS.out.sub hw); omega) HL.out HN.out).mono ?_; rintro e w2 ⟨rfl, W2, R2, hs2, ht2, hw2, hr2⟩)
  have HS2 := Lib.hid hs2
  have HK2 : Hid (Below w.heap.size w w2) := Lib.hid (HK.out.trans (ht2.below HK.out.size (fun j hj => HR.out j (HS.out.sub hj))))
  have HR2 : Hid (∀ j, R2 j → w.heap.size ≤ j) := Lib.hid (fun j hj => by
    rcases hr2 j hj with h | h
    · exact HR.out j h
    · exact Nat.le_trans HK.out.size h)
  clear hs2 ht2 hw2 hr2
  have HH2 := Lib.hid (HH.out.turned (S := fun _ => False) (Turned.of_below HK2.out) (fun _ _ h => h))
  go_wp2_with (go_at_call 20; refine (shwlay_any b W R (fun j => w.heap.size ≤ j) F o _ (joinL [] l).1 w2 HH2.out HBO.out (.inr ⟨sb, W2, R2, rfl, HS2.out, HR2.out⟩) (fun j hj e => by have := HB.out; omega)).mono ?_; rintro e w3 ⟨rfl, R', hp, ht, hr⟩)
  go_end0
  refine ⟨⟨_, rfl⟩, W, R', hp, (Turned.of_below HK2.out).trans ht (fun _ _ h => h), fun j hj => .inl hj, fun j hj => ?_⟩
  rcases hr j hj with h | h | h
  · exact .inl h
  · exact .inr h.1
  · exact .inr (Nat.le_trans HK2.out.size h)
end Go.Proofs.Ytihfkjodjaoocaa
