/- Walks of package shelf: Put, Join, Live. -/
import Derived.Test.YtmcnfndebmcapaaShNew
set_option maxRecDepth 4000
namespace Go.Proofs.Ytmcnfndebmcapaa
open Go.RowKit Mem
set_option linter.unusedSimpArgs false
set_option linter.unusedVariables false
attribute [local irreducible] Go.Calls

/-- the cells of a change that begins -/
def ch0 (b : Nat) : Array Value := (.pointer (some ⟨b, 0, none⟩) :: List.replicate 256 fb).toArray
theorem ch0_size (b : Nat) : (ch0 b).size = 257 := by simp [ch0]
theorem ch0_one (b : Nat) : (ch0 b).all (·.oneCell') = true := by
  unfold ch0
  rw [List.all_toArray, List.all_eq_true]
  intro u hu
  rcases List.mem_cons.1 hu with rfl | hu
  · rfl
  · rw [(List.mem_replicate.1 hu).2]; rfl
theorem ch0_is (b : Nat) : Try.zeroCells70.setIfInBounds 0 (.pointer (some ⟨b, 0, none⟩)) = ch0 b := by
  rw [zero_change_cells]
  rfl
theorem change_start {w w' : World} {b c : Nat} {R : Nat → Prop} {n : Int} {L : List Ent} {cs : List Value} {B : Nat → List EV} (h : ShIs w b R n L cs B) (k : Below w.heap.size w w') (hc : Blk w' c 70 (ch0 b)) (hcw : w.heap.size ≤ c) : ChIs w.heap.size w' b c (fun j => R j ∨ w.heap.size ≤ j) n L cs B (List.replicate 256 fb) :=
  ⟨(h.keep k).mono (fun j _ hj => .inl hj), hc, List.length_replicate, fun i hi => .inl (by rw [List.getD_eq_getElem?_getD, List.getElem?_replicate, if_pos hi]; rfl), h.blk.lt, hcw, fun j hj => .inr hj⟩
theorem change_end {w w' : World} {b c : Nat} {W R : Nat → Prop} {L L' : List Ent} {cs : List Value} {B : Nat → List EV} {fl : List Value} (h : ShAt w b W R L) (hc : ChIs w.heap.size w' b c (fun j => R j ∨ w.heap.size ≤ j) L'.length L' cs B fl) (t : Turned (fun j => j = b ∨ w.heap.size ≤ j) w w') (hn : L'.length ≤ 10000) : SStep W R w w' b L' := by
  refine ⟨W, fun j => (R j ∨ w.heap.size ≤ j) ∧ j < w'.heap.size, ⟨hn, h.2.1, ⟨.inl h.2.2.1, Nat.lt_of_lt_of_le (h.lt h.2.2.1) t.size⟩, fun j hj => hj.2, cs, B, hc.sh.mono (fun j hj hR => ⟨hR, hj⟩)⟩, t.mono (fun j hj hS => ?_), fun j hj => .inl hj, fun j hj => hj.1⟩
  rcases hS with e | e
  · exact (h.2.1 j).2 e
  · omega
theorem putL_max {L : List Ent} (y : Ent) (hu : UniqK L) (hn : L.length ≤ 10000) : (putL L y).1.length ≤ 10000 := by
  rcases putL_cases L y hu with ⟨z, hz, hkz, hn', h1, h2, h3, h4⟩ | ⟨z, hz, hkz, hn', h1⟩ | ⟨hno, h1, h2⟩ | ⟨hno, h1, h2, h3⟩
  · omega
  · rw [h1]; exact hn
  · rw [h2]; exact hn
  · rw [h2]; simp; omega
set_option maxHeartbeats 4000000 in
set_option maxRecDepth 100000 in
theorem shput_any (b : Nat) (W R : Nat → Prop) (L : List Ent) (y : Ent) (x : Value) (w : World) (h : ShAt w b W R L) (hx : Rd (intE .u32) w x y.2.1.2.2) (hy : okE y) :
    Calls Try.prog 18 #[.pointer (some ⟨b, 0, none⟩), .agg (ecl y x).toArray] w fun e w' => e = .returned (.tuple #[.bool (putL L y).2.1, .int .i64 (putL L y).2.2]) ∧ SStep W R w w' b (putL L y).1 := by
  obtain ⟨L2, rb, re, hRES⟩ : ∃ (L2 : List Ent) (rb : Bool) (re : Int), (L2, rb, re) = putL L y := ⟨_, _, _, rfl⟩
  have hlen := putL_max y h.uniq h.len
  rw [← hRES] at hlen ⊢
  have HLEN := Lib.hid hlen
  have HRES := Lib.hid hRES
  have HH := Lib.hid h
  have HY := Lib.hid hy
  have HX := Lib.hid hx
  obtain ⟨_, _, _, _, cs, B, hs⟩ := h
  have HS := Lib.hid hs
  obtain ⟨ax, cx, rfl, _, _⟩ := hx.form
  clear hs hy hx hRES hlen
  have HCP : Hid (∀ (c : Nat) (z : World), Below w.heap.size w z → Blk z c 70 (ch0 b) → w.heap.size ≤ c → Calls Try.prog 32 #[.pointer (some ⟨c, 0, none⟩), .agg (ecl y (.slice ax y.2.1.2.2.length cx)).toArray] z fun e w' => e = .returned (.tuple #[.bool rb, .int .i64 re]) ∧ (∃ cs' B' fl', ChIs w.heap.size w' b c (fun j => R j ∨ w.heap.size ≤ j) L2.length L2 cs' B' fl') ∧ Turned (fun j => j = b ∨ w.heap.size ≤ j) z w') := Lib.hid (fun c z k hc hcw => by
    have := shcput_any w.heap.size b c _ L cs B _ y (.slice ax y.2.1.2.2.length cx) z (change_start HS.out k hc hcw) (HX.out.keep k) HY.out HH.out.len
    rw [← HRES.out] at this
    exact this)
  clear HX HS HY HRES
  obtain ⟨ya, ⟨yi, yv, yl⟩, yg⟩ := y
  have HCP : Hid (∀ (c : Nat) (z : World), Below w.heap.size w z → Blk z c 70 (ch0 b) → w.heap.size ≤ c → Calls Try.prog 32 #[.pointer (some ⟨c, 0, none⟩), .agg #[.int .u32 ya, .int .u64 yi, .int .u64 yv, .slice ax yl.length cx, .bool yg]] z fun e w' => e = .returned (.tuple #[.bool rb, .int .i64 re]) ∧ (∃ cs' B' fl', ChIs w.heap.size w' b c (fun j => R j ∨ w.heap.size ≤ j) L2.length L2 cs' B' fl') ∧ Turned (fun j => j = b ∨ w.heap.size ≤ j) z w') := HCP
  show Calls Try.prog 18 #[.pointer (some ⟨b, 0, none⟩), .agg #[.int .u32 ya, .int .u64 yi, .int .u64 yv, .slice ax yl.length cx, .bool yg]] w _
  go_enter Try.func18, Try.ntmps18
  go_upto_region 4 with (first | (refine at_store 6 rfl ?_; refine wpList_store_row rfl 70 (.tmp 6) (.tmp 10) rfl (w.heap.size + 1) (Try.zeroCells70.setIfInBounds 0 (.pointer (some ⟨b, 0, none⟩))) rfl rfl 70 Try.zeroCells70 (Blk.newAt _ _ _ (size_alloc _ _).symm) (by rw [ch0_is, ch0_size]; exact change_info) (by rw [ch0_is, ch0_size, zero_change_cells]; simp) (by rw [ch0_is]; exact ch0_one b) ?_))
  have hw : ((w.alloc (.cells #[.int .u32 ya, .int .u64 yi, .int .u64 yv, .slice ax yl.length cx, .bool yg] 40)).alloc (.cells Try.zeroCells70 70)).setRow (w.heap.size + 1) (Try.zeroCells70.setIfInBounds 0 (.pointer (some ⟨b, 0, none⟩))) = (w.alloc (.cells #[.int .u32 ya, .int .u64 yi, .int .u64 yv, .slice ax yl.length cx, .bool yg] 40)).alloc (.cells (ch0 b) 70) := by
    rw [← size_alloc w (.cells #[.int .u32 ya, .int .u64 yi, .int .u64 yv, .slice ax yl.length cx, .bool yg] 40), World.setRow_alloc_new, ch0_is]
  rw [hw, ch0_is]
  clear hw
  have HBC : Hid (Blk ((w.alloc (.cells #[.int .u32 ya, .int .u64 yi, .int .u64 yv, .slice ax yl.length cx, .bool yg] 40)).alloc (.cells (ch0 b) 70)) (w.heap.size + 1) 70 (ch0 b)) := Lib.hid (Blk.newAt _ _ _ (size_alloc _ _).symm)
  have HBE : Hid (Blk ((w.alloc (.cells #[.int .u32 ya, .int .u64 yi, .int .u64 yv, .slice ax yl.length cx, .bool yg] 40)).alloc (.cells (ch0 b) 70)) w.heap.size 40 #[.int .u32 ya, .int .u64 yi, .int .u64 yv, .slice ax yl.length cx, .bool yg]) := Lib.hid ((Blk.new _ _ _).keep (more (Below.refl _ _) _))
  have HK : Hid (Below w.heap.size w ((w.alloc (.cells #[.int .u32 ya, .int .u64 yi, .int .u64 yv, .slice ax yl.length cx, .bool yg] 40)).alloc (.cells (ch0 b) 70))) := Lib.hid (more (more (Below.refl _ _) _) _)
  generalize (w.alloc (.cells #[.int .u32 ya, .int .u64 yi, .int .u64 yv, .slice ax yl.length cx, .bool yg] 40)).alloc (.cells (ch0 b) 70) = w2 at *
  have HC2 := Lib.hid (HCP.out (w.heap.size + 1) w2 HK.out HBC.out (Nat.le_succ _))
  clear HCP
  simp only [Act.put]
  go_upto_if 99 with (first | (refine at_load 3 rfl ?_; refine wpList_load_row rfl 40 (.tmp 3) rfl w.heap.size rfl 40 _ (0, 0) _ HBE.out Try.underlying40 rfl ent_info' ?_) | (go_at_call 32; refine HC2.out.mono ?_; rintro e w3 ⟨rfl, ⟨cs', B', fl', hch⟩, ht⟩))
  have HCH := Lib.hid hch
  have HT := Lib.hid ht
  clear hch ht
  go_ret2
  exact ⟨rfl, change_end HH.out HCH.out ((Turned.of_below (S := fun j => j = b ∨ w.heap.size ≤ j) HK.out).trans HT.out (fun _ _ h => h)) HLEN.out⟩
/-! ### Live -/
theorem shlive_nil (w : World) : Calls Try.prog 21 #[.pointer none] w fun e w' => e = .returned (.int .i64 0) ∧ Below w.heap.size w w' := by
  go_enter Try.func21, Try.ntmps21
  go_wp2_with fail
  go_ret
  exact ⟨rfl, Below.refl _ _⟩
/-- how many of a board live -/
def liveB (S : List EV) : Nat := liveE (S.map (·.1))
theorem liveB_append (S T : List EV) : liveB (S ++ T) = liveB S + liveB T := by simp [liveB, liveE]
theorem liveB_erase {S : List EV} {i : Nat} {q : EV} (h : S[i]? = some q) : liveB (S.eraseIdx i) + (if q.1.2.2 then 0 else 1) = liveB S := by
  obtain ⟨hi, hq⟩ := List.getElem?_eq_some_iff.1 h
  have e1 : S = S.take i ++ q :: S.drop (i + 1) := by
    rw [← hq, ← List.drop_eq_getElem_cons hi, List.take_append_drop]
  have e2 : S.eraseIdx i = S.take i ++ S.drop (i + 1) := List.eraseIdx_eq_take_drop_succ S i
  rw [e2, liveB_append]
  conv => rhs; rw [e1, liveB_append]
  have : liveB (q :: S.drop (i + 1)) = (if q.1.2.2 then 0 else 1) + liveB (S.drop (i + 1)) := by
    unfold liveB liveE
    rw [List.map_cons, List.filter_cons]
    cases q.1.2.2 <;> simp; omega
  rw [this]
  omega
theorem liveB_le (S : List EV) : liveB S ≤ S.length := by
  have := liveE_le (S.map (·.1))
  rw [List.length_map] at this
  exact this
theorem allB_mono (B : Nat → List EV) {k : Nat} : ∀ m, k ≤ m → (allB B k).length ≤ (allB B m).length
  | 0, h => by rw [Nat.le_zero.1 h]; exact Nat.le_refl _
  | m + 1, h => by
    by_cases e : k = m + 1
    · rw [e]; exact Nat.le_refl _
    · have := allB_mono B (k := k) m (by omega)
      rw [allB_succ, List.length_append]
      omega
theorem ShIs.live {w : World} {b : Nat} {R : Nat → Prop} {n : Int} {L : List Ent} {cs : List Value} {B : Nat → List EV} (h : ShIs w b R n L cs B) : liveB (allB B 256) = liveE L := by
  unfold liveB liveE
  exact (h.all.filter _).length_eq
theorem ShIs.live_le {w : World} {b : Nat} {R : Nat → Prop} {n : Int} {L : List Ent} {cs : List Value} {B : Nat → List EV} (h : ShIs w b R n L cs B) {k : Nat} (hk : k ≤ 256) : liveB (allB B k) ≤ L.length := by
  have h1 := liveB_le (allB B k)
  have h2 := allB_mono B 256 hk
  have h3 := h.all.length_eq
  rw [List.length_map] at h3
  omega
set_option maxHeartbeats 4000000 in
set_option maxRecDepth 100000 in
theorem shlive_any (b : Nat) (W R : Nat → Prop) (L : List Ent) (w : World) (h : ShAt w b W R L) : Calls Try.prog 21 #[.pointer (some ⟨b, 0, none⟩)] w fun e w' => e = .returned (.int .i64 (liveE L)) ∧ Below w.heap.size w w' := by
  obtain ⟨hn, _, _, _, cs, B, h⟩ := h
  have HN := Lib.hid hn
  have HS := Lib.hid h
  clear h hn
  go_enter Try.func21, Try.ntmps21
  go_wp2_with fail
  go_loopw [3, 9] (fun n i wr => ∃ k : Nat, k ≤ 256 ∧ i = .int .i64 k ∧ n = .int .i64 (liveB (allB B k) : Nat) ∧ Below w.heap.size w wr) (fun _ i _ => 256 - (intOf i).toNat)
  case atStart => exact ⟨0, Nat.zero_le _, rfl, rfl, Below.refl _ _⟩
  case round =>
    obtain ⟨k, hk, rfl, rfl, hb⟩ := hrel
    have HB := Lib.hid hb
    clear hb
    by_cases hlt : k < 256
    · have hpi : (k : Int) < 256 := by omega
      have hpn : ¬ ((k : Int) < 0) := by omega
      have HSR := Lib.hid (HS.out.keep HB.out)
      have c0 := HSR.out.board hlt
      obtain ⟨v, hv⟩ : ∃ v, v = cs.getD k nm := ⟨_, rfl⟩
      have HV := Lib.hid hv
      rw [← hv] at c0
      have HIS : Hid (MapIs Try.prog 28 evc wr v (B k)) := Lib.hid (by rw [hv]; exact HSR.out.bd k hlt)
      have HK := Lib.hid hlt
      clear hv hlt hk
      go_wp2_with (at_range; refine wpList_range_map rfl rfl Try.underlying63 rfl HIS.out ?_; intro w0 hrg0 hg0 hs0)
      try go_frame
      have HRG0 := Lib.hid hrg0
      have HB0 := Lib.hid (HB.out.trans (hg0.mono HB.out.size))
      clear hrg0 hg0 hs0 c0
      obtain ⟨r, hr⟩ : ∃ r, r = wr.heap.size := ⟨_, rfl⟩
      have HR : Hid (w.heap.size ≤ r) := Lib.hid (by rw [hr]; exact HB.out.size)
      rw [← hr] at HRG0 ⊢
      clear hr
      have HSUM : Hid (liveB (allB B (k + 1)) = liveB (allB B k) + liveB (B k)) := Lib.hid (by rw [allB_succ, liveB_append])
      have HLE : Hid (liveB (allB B (k + 1)) ≤ 10000) := Lib.hid (Nat.le_trans (HS.out.live_le (by have := HK.out; omega)) HN.out)
      obtain ⟨wo, hwo⟩ : ∃ z, z = wr := ⟨_, rfl⟩
      subst hwo
      have hkw : wrap64 ((k : Int) + 1) = ((k + 1 : Nat) : Int) := by rw [IntWalk.wrap64_in _ (by omega)]; omega
      have HKW := Lib.hid hkw
      clear hkw
      go_loopw [3] (fun n wq => ∃ (N : Nat) (S : List EV), n = .int .i64 N ∧ N + liveB S = liveB (allB B (k + 1)) ∧ Rng Try.prog 28 evc wq v r (B k) S ∧ Below w.heap.size w wq) (fun _ wq => rngLeft wq r)
      case atStart => exact ⟨_, B k, rfl, HSUM.out.symm, HRG0.out, HB0.out⟩
      case round =>
        obtain ⟨N, S, rfl, hN, hrg, hbq⟩ := hrel
        have HNS := Lib.hid hN
        have HRG := Lib.hid hrg
        have HBQ := Lib.hid hbq
        clear hN hrg hbq HRG0 HB0
        go_wp2_with (first | (at_next; refine wpList_next_map rfl rfl rfl HRG.out ?_ ?_) | go_in)
        · intro hS
          have HNE : Hid (N = liveB (allB B (k + 1))) := Lib.hid (by have := HNS.out; rw [hS] at this; exact this)
          have hkw := HKW.out
          clear hS
          go_wp2_with fail
          go_roundw
          case rel => exact ⟨k + 1, HK.out, rfl, by rw [HNE.out], HBQ.out⟩
          case measure =>
            simp only [intOf]
            omega
        · intro kk vv w1 hn
          obtain ⟨i, q, hx, hf, hrg1, ho1, hs1, hen⟩ := hn
          have HX := Lib.hid hx
          have HRG1 := Lib.hid hrg1
          have HO1 := Lib.hid ho1
          have HQ := Lib.hid (HSR.out.slices HK.out q (HRG.out.sub.subset (List.mem_of_getElem? hx)))
          clear hx hrg1 ho1 hs1
          obtain ⟨⟨ya, ⟨yi, yv, yl⟩, yg⟩, xv⟩ := q
          obtain ⟨ax, nx, cx, hxv⟩ := HQ.out
          have hxv : xv = .slice ax nx cx := hxv
          subst hxv
          simp only [evc, kv, ecl, Prod.mk.injEq] at hf
          obtain ⟨rfl, rfl⟩ := hf
          have HB1 := Lib.hid (HBQ.out.trans (HO1.out.below HR.out HBQ.out.size))
          have HLV := Lib.hid (liveB_erase HX.out)
          have hX : Below w1.heap.size w1 (w1.alloc (.cells #[.int .u32 ya, .int .u64 yi, .int .u64 yv, .slice ax nx cx, .bool yg] 40)) := more (Below.refl _ _) _
          have HRG2 := Lib.hid (HRG1.out.keep hX)
          have HB2 := Lib.hid (HB1.out.trans (hX.mono HB1.out.size))
          have HLS : Hid ((S.eraseIdx i).length < S.length) := Lib.hid (by
            have := (List.getElem?_eq_some_iff.1 HX.out).1
            rw [List.length_eraseIdx, if_pos this]
            omega)
          clear hX
          cases yg
          · have HL2 : Hid (liveB (S.eraseIdx i) + 1 = liveB S) := Lib.hid (by have := HLV.out; simpa using this)
            have hnw : wrap64 ((N : Int) + 1) = ((N + 1 : Nat) : Int) := by
              have := HNS.out; have := HLE.out; have := HL2.out
              rw [IntWalk.wrap64_in _ (by omega)]; omega
            go_wp2_with fail
            go_roundw
            case rel => exact ⟨N + 1, S.eraseIdx i, by rw [hnw], by have := HNS.out; have := HL2.out; omega, HRG2.out, HB2.out⟩
            case measure => rw [HRG2.out.left, HRG.out.left]; exact HLS.out
          · have HL2 : Hid (liveB (S.eraseIdx i) = liveB S) := Lib.hid (by have := HLV.out; simpa using this)
            go_wp2_with fail
            go_roundw
            case rel => exact ⟨N, S.eraseIdx i, rfl, by have := HNS.out; have := HL2.out; omega, HRG2.out, HB2.out⟩
            case measure => rw [HRG2.out.left, HRG.out.left]; exact HLS.out
    · obtain rfl : k = 256 := by omega
      go_wp2_with fail
      go_ret
      exact ⟨by rw [HS.out.live]; rfl, HB.out⟩
end Go.Proofs.Ytmcnfndebmcapaa
