/- Walks of package shelf: the keys in a span, in its order. -/
import Derived.Test.YtihfkjodjaoocaaShSort
import Derived.Test.YtihfkjodjaoocaaShJoin2
set_option maxRecDepth 4000
namespace Go.Proofs.Ytihfkjodjaoocaa
open Go.RowKit Mem
set_option linter.unusedSimpArgs false
set_option linter.unusedVariables false
attribute [local irreducible] Go.Calls

theorem span_info : (Try.prog.info? 61).map (·.size) = some 2 := by kernel_rfl
theorem Row.ne_map {α β : Type} {E : Enc α} {T : TypeId} {N : Nat} {w : World} {v : Value} {l : List α} {P : Program} {k : TypeId} {f : β → Value × Value} {g : Nat} {M : List β} (h : Row E T N w v l) (hm : MapAt P k f w g M) : v.ownBlock ≠ some g := by
  obtain ⟨es, clock, hb, _⟩ := hm
  rcases h.2 with ⟨rfl, _⟩ | ⟨g', cap, cur, rfl, _, hc, _⟩
  · intro e; cases e
  · intro e
    have e : some g' = some g := e
    injection e with e
    subst e
    rw [hb] at hc
    cases hc
/-- the keys of a board's entries that are in a span -/
def kf (f t : Int) (S : List EV) : List (Int × Int) := (S.filter fun p => hasV f t p.1.1).map fun p => keyP p.1
theorem kf_append (f t : Int) (S T : List EV) : kf f t (S ++ T) = kf f t S ++ kf f t T := by simp [kf]
theorem kf_erase (f t : Int) {S : List EV} {i : Nat} {q : EV} (h : S[i]? = some q) : (kf f t S).Perm ((if hasV f t q.1.1 = true then [keyP q.1] else []) ++ kf f t (S.eraseIdx i)) := by
  obtain ⟨hi, hq⟩ := List.getElem?_eq_some_iff.1 h
  have e1 : S = S.take i ++ q :: S.drop (i + 1) := by
    rw [← hq, ← List.drop_eq_getElem_cons hi, List.take_append_drop]
  have e2 : S.eraseIdx i = S.take i ++ S.drop (i + 1) := List.eraseIdx_eq_take_drop_succ S i
  have e3 : kf f t (q :: S.drop (i + 1)) = (if hasV f t q.1.1 = true then [keyP q.1] else []) ++ kf f t (S.drop (i + 1)) := by
    unfold kf
    rw [List.filter_cons]
    split <;> simp
  rw [e2, kf_append]
  conv => lhs; rw [e1, kf_append, e3]
  rw [← List.append_assoc, ← List.append_assoc]
  exact List.Perm.append_right _ List.perm_append_comm
theorem kf_len (f t : Int) (S : List EV) : (kf f t S).length ≤ S.length := by
  unfold kf
  rw [List.length_map]
  exact List.length_filter_le _ _
section
variable {w : World} {b : Nat} {R : Nat → Prop} {n : Int} {L : List Ent} {cs : List Value} {B : Nat → List EV}
theorem ShIs.keys_scan (h : ShIs w b R n L cs B) (f t : Int) : (kf f t (allB B 256)).Perm ((scanL f t L).map keyP) := by
  have h1 := ((h.all.filter fun y => hasV f t y.1).map keyP)
  have h2 := (scanL_perm f t L).map keyP
  refine List.Perm.trans ?_ (h1.trans h2.symm)
  unfold kf
  rw [List.filter_map, List.map_map]
  exact List.Perm.refl _
theorem ShIs.okv (h : ShIs w b R n L cs B) : ∀ y ∈ L, okV y := fun y hy => (h.ok hy).1.1
theorem ShIs.scan_sorted (h : ShIs w b R n L cs B) (f t : Int) : ((scanL f t L).map keyP).Pairwise (KAhead f) := by
  rw [List.pairwise_map]
  exact (scanL_sorted f t L h.uniq h.okv).imp (fun hxy => kahead_iff.1 hxy)
theorem ShIs.scan_is (h : ShIs w b R n L cs B) {f t : Int} {l : List (Int × Int)} (hl : l.Pairwise (KAhead f)) (hp : l.Perm (kf f t (allB B 256))) : l = (scanL f t L).map keyP :=
  List.Perm.eq_of_pairwise (le := KAhead f) (fun a b _ _ h1 h2 => absurd h2 (kahead_asymm h1)) hl (h.scan_sorted f t) (hp.trans (h.keys_scan f t))
theorem ShIs.scan_ok (h : ShIs w b R n L cs B) (f t : Int) : ∀ y ∈ scanL f t L, y ∈ L := fun y hy => (List.mem_filter.1 ((scanL_perm f t L).mem_iff.1 hy)).1
theorem ShIs.kf_ok (h : ShIs w b R n L cs B) (f t : Int) : (kf f t (allB B 256)).Nodup ∧ ∀ p ∈ kf f t (allB B 256), okK p := by
  have hp := h.keys_scan f t
  refine ⟨hp.nodup_iff.2 ?_, fun p hp' => ?_⟩
  · have := h.scan_sorted f t
    exact this.imp (fun {a b} h e => by subst e; exact kahead_asymm h h)
  · obtain ⟨y, hy, rfl⟩ := List.mem_map.1 (hp.mem_iff.1 hp')
    have := h.ok (h.scan_ok f t y hy)
    exact ⟨this.1.1, this.1.2.1⟩
theorem ShIs.kf_le (h : ShIs w b R n L cs B) (f t : Int) {k : Nat} (hk : k ≤ 256) : (kf f t (allB B k)).length ≤ L.length := by
  have h1 := kf_len f t (allB B k)
  have h2 := allB_mono B 256 hk
  have h3 := h.all.length_eq
  rw [List.length_map] at h3
  omega
end
set_option maxHeartbeats 8000000 in
set_option maxRecDepth 100000 in
theorem shkeys_any (b : Nat) (W R : Nat → Prop) (L : List Ent) (f t : Int) (w : World) (h : ShAt w b W R L) :
    Calls Try.prog 38 #[.pointer (some ⟨b, 0, none⟩), .agg #[.int .u32 f, .int .u32 t]] w fun e w' => ∃ v, e = .returned v ∧ Rd ukE w' v ((scanL f t L).map keyP) ∧ Below w.heap.size w w' := by
  obtain ⟨hn, _, _, _, cs, B, h⟩ := h
  have HN := Lib.hid hn
  have hk0 : Below w.heap.size w (w.alloc (.cells #[.int .u32 f, .int .u32 t] 61)) := more (Below.refl _ _) _
  have HS := Lib.hid (h.keep hk0)
  have HSP : Hid (Blk (w.alloc (.cells #[.int .u32 f, .int .u32 t] 61)) w.heap.size 61 #[.int .u32 f, .int .u32 t]) := Lib.hid (Blk.new _ _ _)
  have HK0 := Lib.hid hk0
  have HN1 : Hid (w.heap.size < (w.alloc (.cells #[.int .u32 f, .int .u32 t] 61)).heap.size) := Lib.hid (by rw [size_alloc]; omega)
  clear h hn hk0
  go_enter Try.func38, Try.ntmps38
  go_upto_region 1 with fail
  generalize w.alloc (.cells #[.int .u32 f, .int .u32 t] 61) = w1 at *
  obtain ⟨gs, hgs⟩ : ∃ g, g = w.heap.size := ⟨_, rfl⟩
  rw [← hgs] at HSP HN1 ⊢
  have HGS := Lib.hid hgs
  clear hgs
  obtain ⟨N1, hN1⟩ : ∃ n, n = w1.heap.size := ⟨_, rfl⟩
  rw [← hN1] at HN1
  have HNN := Lib.hid hN1
  clear hN1
  go_wp2_with fail
  go_loopw [5, 8] (fun v i wr => ∃ (k : Nat) (l : List (Int × Int)), k ≤ 256 ∧ i = .int .i64 k ∧ Row ukE 66 N1 wr v l ∧ l.Perm (kf f t (allB B k)) ∧ Below N1 w1 wr) (fun _ i _ => 256 - (intOf i).toNat)
  case atStart => exact ⟨0, [], Nat.zero_le _, rfl, Row.nil, List.Perm.refl _, Below.refl _ _⟩
  case round =>
    obtain ⟨k, l, hk, rfl, hrow, hp, hb⟩ := hrel
    have HROW := Lib.hid hrow
    have HP := Lib.hid hp
    have HB := Lib.hid hb
    clear hrow hp hb
    by_cases hlt : k < 256
    · have hpi : (k : Int) < 256 := by omega
      have hpn : ¬ ((k : Int) < 0) := by omega
      have HK := Lib.hid hlt
      have HSR : Hid (ShIs wr b R L.length L cs B) := Lib.hid (HS.out.keep (by have := HB.out; rw [HNN.out] at this; exact this))
      have c0 := HSR.out.board hlt
      obtain ⟨v, hv⟩ : ∃ v, v = cs.getD k nm := ⟨_, rfl⟩
      rw [← hv] at c0
      have HIS : Hid (MapIs Try.prog 66 evc wr v (B k)) := Lib.hid (by rw [hv]; exact HSR.out.bd k hlt)
      have HCS : Hid (cs.getD k nm = v) := Lib.hid hv.symm
      clear hv hlt hk
      go_wp2_with (at_range; refine wpList_range_map rfl rfl Try.underlying71 rfl HIS.out ?_; intro w0 hrg0 hg0 hs0)
      try go_frame
      have HRG0 := Lib.hid hrg0
      have HROW0 := Lib.hid (HROW.out.keep hg0)
      have HN1w : Hid (N1 ≤ wr.heap.size) := Lib.hid (by have := HB.out.size; have := HNN.out; omega)
      have HB0 : Hid (Below N1 w1 w0) := Lib.hid (HB.out.trans (hg0.mono HN1w.out))
      have HR : Hid (N1 ≤ wr.heap.size ∧ wr.heap.size < w0.heap.size) := Lib.hid ⟨HN1w.out, by omega⟩
      clear hrg0 hg0 hs0 c0 HN1w
      obtain ⟨r, hr⟩ : ∃ r, r = wr.heap.size := ⟨_, rfl⟩
      rw [← hr] at HRG0 HR ⊢
      have HRW := Lib.hid hr
      clear hr
      have HSUM : Hid (kf f t (allB B (k + 1)) = kf f t (allB B k) ++ kf f t (B k)) := Lib.hid (by rw [allB_succ, kf_append])
      have HLE : Hid ((kf f t (allB B (k + 1))).length ≤ 10000) := Lib.hid (Nat.le_trans (HS.out.kf_le f t (by have := HK.out; omega)) HN.out)
      have hkw : wrap64 ((k : Int) + 1) = ((k + 1 : Nat) : Int) := by rw [IntWalk.wrap64_in _ (by omega)]; omega
      have HKW := Lib.hid hkw
      clear hkw
      obtain ⟨wo, hwo⟩ : ∃ z, z = wr := ⟨_, rfl⟩
      subst hwo
      go_loopw [5] (fun vl wq => ∃ (lq : List (Int × Int)) (S : List EV), Row ukE 66 N1 wq vl lq ∧ (lq ++ kf f t S).Perm (kf f t (allB B (k + 1))) ∧ Rng Try.prog 66 evc wq v r (B k) S ∧ Below N1 w1 wq ∧ vl.ownBlock ≠ some r) (fun _ wq => rngLeft wq r)
      case atStart => exact ⟨l, B k, HROW0.out, by rw [HSUM.out]; exact HP.out.append_right _, HRG0.out, HB0.out, fun e => by have := (HROW.out.block r e).2; have := HRW.out; omega⟩
      case round =>
        obtain ⟨lq, S, hrow, hpq, hrg, hbq, hvr⟩ := hrel
        have HROWQ := Lib.hid hrow
        have HPQ := Lib.hid hpq
        have HRG := Lib.hid hrg
        have HBQ := Lib.hid hbq
        have HVR := Lib.hid hvr
        clear hrow hpq hrg hbq hvr HRG0 HB0 HROW0
        go_wp2_with (first | (at_next; refine wpList_next_map rfl rfl rfl HRG.out ?_ ?_) | go_in)
        · intro hS
          have HNE : Hid (lq.Perm (kf f t (allB B (k + 1)))) := Lib.hid (by have := HPQ.out; rw [hS] at this; simpa [kf] using this)
          have hkw := HKW.out
          clear hS
          go_wp2_with fail
          go_roundw
          case rel => exact ⟨k + 1, lq, HK.out, rfl, HROWQ.out, HNE.out, HBQ.out⟩
          case measure =>
            simp only [intOf]
            omega
        · intro kk vv w2 hn
          obtain ⟨i, q, hx, hf, hrg1, ho1, hs1, hen⟩ := hn
          have HX := Lib.hid hx
          have HRG1 := Lib.hid hrg1
          have HO1 := Lib.hid ho1
          have HQK : Hid (okK (keyP q.1)) := Lib.hid (by
            have := (HSR.out.ev k q HK.out (HRG.out.sub.subset (List.mem_of_getElem? hx))).1.1
            exact ⟨this.1.1, this.1.2.1⟩)
          clear hx hrg1 ho1 hs1
          obtain ⟨⟨ya, ⟨yi, yv, yl⟩, yg⟩, xv⟩ := q
          simp only [evc, kv, ecl, Prod.mk.injEq] at hf
          obtain ⟨rfl, rfl⟩ := hf
          have HB2 : Hid (Below N1 w1 w2) := Lib.hid (HBQ.out.trans (HO1.out.below HR.out.1 (by have := HBQ.out.size; have := HNN.out; omega)))
          have HROW2 := Lib.hid (HROWQ.out.only HO1.out HVR.out)
          have HER := Lib.hid (kf_erase f t HX.out)
          have HLS : Hid ((S.eraseIdx i).length < S.length) := Lib.hid (by
            have := (List.getElem?_eq_some_iff.1 HX.out).1
            rw [List.length_eraseIdx, if_pos this]
            omega)
          have HRLT : Hid (r < w2.heap.size) := Lib.hid HRG1.out.lt
          go_upto_region 8 with fail
          have hX : Below w2.heap.size w2 (w2.alloc (.cells #[.int .u32 ya, .int .u64 yi] 66)) := more (Below.refl _ _) _
          have HN2 : Hid (N1 ≤ w2.heap.size) := Lib.hid (by have := HB2.out.size; have := HNN.out; omega)
          have HB3 : Hid (Below N1 w1 (w2.alloc (.cells #[.int .u32 ya, .int .u64 yi] 66))) := Lib.hid (HB2.out.trans (hX.mono HN2.out))
          have HROW3 := Lib.hid (HROW2.out.keep hX)
          have HRG3 := Lib.hid (HRG1.out.keep hX)
          have HBK3 : Hid (Blk (w2.alloc (.cells #[.int .u32 ya, .int .u64 yi] 66)) w2.heap.size 66 #[.int .u32 ya, .int .u64 yi]) := Lib.hid (Blk.new _ _ _)
          have HSP3 := Lib.hid (HSP.out.below HB3.out HN1.out)
          clear hX hen
          generalize w2.alloc (.cells #[.int .u32 ya, .int .u64 yi] 66) = w3 at *
          obtain ⟨g7, hg7⟩ : ∃ g, g = w2.heap.size := ⟨_, rfl⟩
          rw [← hg7] at HBK3 ⊢
          clear hg7
          have HHAS : Hid (∀ z, Calls Try.prog 52 #[.agg #[.int .u32 f, .int .u32 t], .int .u32 ya] z fun e w' => e = .returned (.bool (hasV f t ya)) ∧ Below z.heap.size z w') := Lib.hid (fun z => has_any f t ya z)
          cases hq : hasV f t ya
          · have HER2 : Hid ((kf f t S).Perm (kf f t (S.eraseIdx i))) := Lib.hid (by have := HER.out; rw [show hasV f t (((ya, (yi, yv, yl), yg), xv) : EV).1.1 = false from hq] at this; simpa using this)
            have HQ := Lib.hid hq
            clear hq
            have c7 : w3.cell? ⟨g7, 0, none⟩ = some (.int .u32 ya) := HBK3.out.cell 0
            go_wp2_with (first | (refine at_load 3 rfl ?_; refine wpList_load_row rfl 61 (.tmp 3) rfl gs rfl 61 _ (0, 0) _ HSP3.out Try.underlying61 rfl span_info ?_) | (go_at_call 52; refine (HHAS.out _).mono ?_; rw [HQ.out]; rintro e w4 ⟨rfl, hk4⟩))
            have HRG4 := Lib.hid (HRG3.out.keep hk4)
            have HROW4 := Lib.hid (HROW3.out.keep hk4)
            have HB4 : Hid (Below N1 w1 w4) := Lib.hid (HB3.out.trans (hk4.mono (by have := HB3.out.size; have := HNN.out; omega)))
            clear hk4
            refine ⟨⟨lq, S.eraseIdx i, HROW4.out, (HER2.out.symm.append_left lq).trans HPQ.out, HRG4.out, HB4.out, HVR.out⟩, ?_⟩
            rw [HRG4.out.left, HRG.out.left]
            exact HLS.out
          · have HER2 : Hid ((kf f t S).Perm ((ya, yi) :: kf f t (S.eraseIdx i))) := Lib.hid (by have := HER.out; rw [show hasV f t (((ya, (yi, yv, yl), yg), xv) : EV).1.1 = true from hq] at this; simpa [keyP] using this)
            have HLQ : Hid (lq.length + 1 ≤ 10000) := Lib.hid (by
              have h1 := HPQ.out.length_eq
              have h2 := HER2.out.length_eq
              rw [List.length_append] at h1
              rw [List.length_cons] at h2
              have := HLE.out
              omega)
            have HQ := Lib.hid hq
            clear hq
            have c7 : w3.cell? ⟨g7, 0, none⟩ = some (.int .u32 ya) := HBK3.out.cell 0
            go_upto_region 9 with (first | (refine at_load 3 rfl ?_; refine wpList_load_row rfl 61 (.tmp 3) rfl gs rfl 61 _ (0, 0) _ HSP3.out Try.underlying61 rfl span_info ?_) | (go_at_call 52; refine (HHAS.out _).mono ?_; rw [HQ.out]; rintro e w4 ⟨rfl, hk4⟩))
            have HRG4 := Lib.hid (HRG3.out.keep hk4)
            have HROW4 := Lib.hid (HROW3.out.keep hk4)
            have HBK4 := Lib.hid (HBK3.out.keep hk4)
            have HN4 : Hid (N1 ≤ w4.heap.size ∧ r < w4.heap.size) := Lib.hid (by have := HB3.out.size; have := HNN.out; have := hk4.size; have := HRG3.out.lt; omega)
            have HB4 : Hid (Below N1 w1 w4) := Lib.hid (HB3.out.trans (hk4.mono (by have := HB3.out.size; have := HNN.out; omega)))
            clear hk4 c7
            have hX : Below w4.heap.size w4 (w4.alloc (.cells #[.int .u32 ya, .int .u64 yi] 66)) := more (Below.refl _ _) _
            have HX5 := Lib.hid hX
            have HFR : Hid (Rd ukE (w4.alloc (.cells #[.int .u32 ya, .int .u64 yi] 66)) (.slice (some ⟨w4.heap.size, 0, none⟩) 1 1) [(ya, yi)]) := Lib.hid (Rd.fresh w4 (ya, yi) _ _ _ rfl rfl)
            clear hX
            go_wp2_with (first | (refine at_load 7 rfl ?_; refine wpList_load_row rfl 66 (.tmp 7) rfl g7 rfl 66 _ (0, 0) _ HBK4.out Try.underlying66 rfl key_info ?_) | (at_builtin; go_must (refine wpList_append (E := ukE) (B := N1) (l := lq) (m := [(ya, yi)]) (bytes := 16) keyElem Nat.zero_lt_two rfl (.tmp 26) (.tmp 28) rfl rfl (HROW4.out.keep HX5.out) rfl HFR.out (by have := HLQ.out; simp [maxLen]; omega) (by have := HLQ.out; simp; omega) (by have := HN4.out.1; have := HX5.out.size; omega) ?_); intro v9 z hr9 hk9 hg9 hw9))
            have hg9' : (w4.alloc (.cells #[.int .u32 ya, .int .u64 yi] 66)).grownBy z u5.ownBlock := hg9
            have hw9' : v9.ownBlock = u5.ownBlock ∨ v9.ownBlock = some (w4.alloc (.cells #[.int .u32 ya, .int .u64 yi] 66)).heap.size := hw9
            have HRG5 := Lib.hid ((HRG4.out.keep HX5.out).turned (Turned.of_grown (S := fun j => u5.ownBlock = some j) hg9' (fun k h => h)) (fun e => HVR.out e) (fun g hg e => by
              rcases HRG4.out.is with ⟨e', _⟩ | ⟨g', e', hm⟩
              · rw [hg] at e'; cases e'
              · rw [hg] at e'; cases e'; exact Row.ne_map HROW4.out hm e))
            refine ⟨⟨lq ++ [(ya, yi)], S.eraseIdx i, hr9, ?_, HRG5.out, HB4.out.trans ((HX5.out.mono HN4.out.1).trans hk9), fun e => ?_⟩, ?_⟩
            · rw [List.append_assoc, List.singleton_append]
              exact (HER2.out.symm.append_left lq).trans HPQ.out
            · rcases hw9' with h | h
              · rw [h] at e; exact HVR.out e
              · rw [h] at e
                injection e with e
                have := HX5.out.size
                have := HN4.out.2
                omega
            · rw [HRG5.out.left, HRG.out.left]
              exact HLS.out
    · obtain rfl : k = 256 := by omega
      have hN1 : N1 ≤ wr.heap.size := by have := HB.out.size; have := HNN.out; omega
      have hsp := HSP.out.below HB.out HN1.out
      have HKO := Lib.hid (HS.out.kf_ok f t)
      have HSORT := Lib.hid (sortkeys_any gs f t l _ N1 wr HROW.out (fun p hp => HKO.out.2 p (HP.out.mem_iff.1 hp)) (HP.out.nodup_iff.2 HKO.out.1) (by have := HP.out.length_eq; have := HS.out.kf_le f t (Nat.le_refl 256); have := HN.out; omega) HN1.out hN1 (hsp.cell 0) (hsp.cell 1))
      clear hN1 hsp
      go_wp2_with (go_at_call 53; refine HSORT.out.mono ?_; rintro e z ⟨rfl, l', hrd, hpl, hso, hbz⟩)
      have HL := Lib.hid (HS.out.scan_is hso (hpl.trans HP.out))
      have HRD := Lib.hid hrd
      have HBZ : Hid (Below N1 w1 z) := Lib.hid (HB.out.trans hbz)
      clear hrd hpl hso hbz
      go_ret
      refine ⟨_, rfl, ?_, HK0.out.trans (HBZ.out.mono (by have := HNN.out; have := HK0.out.size; omega))⟩
      rw [← HL.out]
      exact HRD.out
end Go.Proofs.Ytihfkjodjaoocaa
