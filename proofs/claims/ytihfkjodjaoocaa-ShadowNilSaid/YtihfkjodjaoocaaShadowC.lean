/- The contracts of package shadow, as landed: Put, Owners. -/
import Derived.Test.YtihfkjodjaoocaaShwOps
import Derived.Test.YtihfkjodjaoocaaSort32
set_option maxRecDepth 4000
namespace Go.Proofs.Ytihfkjodjaoocaa
open Go.RowKit Mem
set_option linter.unusedSimpArgs false
set_option linter.unusedVariables false
attribute [local irreducible] Go.Calls

/-- what Put left, looked for -/
theorem put_there {L : List Ent} {y : Ent} (hu : UniqK L) : (getE (putL L y).1 y.1 y.2.1.1).2 = decide ((putL L y).2.2 = 0) ∧ ((putL L y).2.1 = false → (putL L y).1 = L) := by
  rcases putL_cases L y hu with ⟨z, hz, hkz, hn, h1, h2, h3, h4⟩ | ⟨z, hz, hkz, hn, h1⟩ | ⟨hno, h1, h2⟩ | ⟨hno, h1, h2, h3⟩
  · refine ⟨?_, fun h => by rw [h1] at h; cases h⟩
    rw [getE_yes h2 ((h4 y).2 (.inl rfl)) rfl, h1]
    rfl
  · rw [h1]
    refine ⟨?_, fun _ => rfl⟩
    rw [getE_yes hu hz hkz]
    rfl
  · rw [h2]
    refine ⟨?_, fun _ => rfl⟩
    rw [getE_no (fun z hz => hno z hz)]
    rfl
  · rw [h2]
    refine ⟨?_, fun h => by cases h⟩
    rw [getE_yes (q := y) h3 (List.mem_append_right _ (List.mem_singleton_self y)) rfl]
    rfl
theorem getE_ver {L : List Ent} (h : ∀ y ∈ L, okE y) (v i : Int) : 0 ≤ (getE L v i).1.2.1.2.1 := by
  unfold getE
  split
  · rename_i hp
    have hm : L.getD (posE L v i) e0 ∈ L := by rw [show L.getD (posE L v i) e0 = L[posE L v i] by simp [List.getD, hp]]; exact List.getElem_mem _
    exact (h _ hm).1.2.2.1.1
  · exact Int.le_refl _
theorem nodup_len : ∀ (l K : List Int), l.Nodup → (∀ x ∈ l, x ∈ K) → l.length ≤ K.length
  | [], K, _, _ => Nat.zero_le _
  | a :: l, K, hn, hs => by
    obtain ⟨h1, h2⟩ := List.nodup_cons.1 hn
    have ha := hs a List.mem_cons_self
    have := nodup_len l (K.erase a) h2 (fun x hx => (List.mem_erase_of_ne (fun e => h1 (by rw [← e]; exact hx))).2 (hs x (List.mem_cons_of_mem _ hx)))
    rw [List.length_erase_of_mem ha] at this
    have := List.length_pos_of_mem ha
    rw [List.length_cons]
    omega
theorem sorted_lt {l : List Int} (hs : l.Pairwise (· ≤ ·)) (hn : l.Nodup) : l.Pairwise (· < ·) := by
  have : l.Pairwise fun a b => a ≤ b ∧ a ≠ b := hs.and hn
  exact this.imp (fun {a b} h => by have h1 := h.1; have h2 := h.2; omega)
section
variable {w : World} {b : Nat} {R : Nat → Prop} {v : Value} {M : List OV} {F : Int → List Ent}
theorem ShwIs.nodup (h : ShwIs w b R v M F) : (M.map (·.1)).Nodup := by
  have := h.mp.keys
  rw [List.Nodup, List.pairwise_map] at this ⊢
  exact this.imp (fun hne e => hne (by simp only [ovc]; rw [e]))
theorem ShwIs.owner (h : ShwIs w b R v M F) (o : Int) : o ∈ M.map (·.1) ↔ (0 ≤ o ∧ o ≤ 4294967295) ∧ F o ≠ [] := by
  constructor
  · intro ho
    obtain ⟨p, hp, rfl⟩ := List.mem_map.1 ho
    exact ⟨(h.sh p hp).1, (h.sh p hp).2.1⟩
  · rintro ⟨h1, h2⟩
    rcases h.at o with ⟨sb, W1, R1, hm, _⟩ | ⟨e, _⟩
    · exact List.mem_map.2 ⟨_, hm, rfl⟩
    · exact absurd e h2
end
theorem map_erase {S : List OV} {i : Nat} {q : OV} (h : S[i]? = some q) : (S.map (·.1)).Perm (q.1 :: (S.eraseIdx i).map (·.1)) := by
  obtain ⟨hi, hq⟩ := List.getElem?_eq_some_iff.1 h
  have e1 : S = S.take i ++ q :: S.drop (i + 1) := by
    rw [← hq, ← List.drop_eq_getElem_cons hi, List.take_append_drop]
  have e2 : S.eraseIdx i = S.take i ++ S.drop (i + 1) := List.eraseIdx_eq_take_drop_succ S i
  rw [e2]
  conv => lhs; rw [e1]
  rw [List.map_append, List.map_append, List.map_cons]
  exact List.perm_middle
theorem u32ElemW : Elem Try.prog 24 22 1 4 := elem_of (z := .int .u32 0) Try.underlying24 (by kernel_rfl) rfl
set_option maxHeartbeats 8000000 in
set_option maxRecDepth 100000 in
theorem shwowners_any (b : Nat) (W R : Nat → Prop) (F : Int → List Ent) (K : List Int) (w : World) (h : ShwAt w b W R F) (hK : ∀ o, F o ≠ [] → o ∈ K) (hKn : K.length ≤ 12) :
    Calls Try.prog 11 #[.pointer (some ⟨b, 0, none⟩)] w fun e w' => ∃ os v, e = .returned v ∧ Rd (intE .u32) w' v os ∧ os.Pairwise (· < ·) ∧ (∀ o, o ∈ os ↔ (0 ≤ o ∧ o ≤ 4294967295) ∧ F o ≠ []) ∧ Below w.heap.size w w' := by
  obtain ⟨_, _, _, v, M, h4⟩ := h
  have HH := Lib.hid h4
  have HND := Lib.hid h4.nodup
  have HMEM := Lib.hid h4.owner
  have HML : Hid ((M.map (·.1)).length ≤ 12) := Lib.hid (Nat.le_trans (nodup_len _ K h4.nodup (fun x hx => hK x ((h4.owner x).1 hx).2)) hKn)
  have c0 : w.cell? ⟨b, 0, none⟩ = some v := h4.blk.cell 0
  clear h4 hK hKn
  obtain ⟨N, hN⟩ : ∃ n, n = w.heap.size := ⟨_, rfl⟩
  have HN := Lib.hid hN
  clear hN
  go_enter Try.func11, Try.ntmps11
  go_wp2_with (at_range; refine wpList_range_map rfl rfl Try.underlying54 rfl HH.out.mp ?_; intro w0 hrg0 hg0 hs0)
  try go_frame
  have HRG0 := Lib.hid hrg0
  have HB0 : Hid (Below N w w0) := Lib.hid (by rw [HN.out]; exact hg0)
  have HR : Hid (w.heap.size < w0.heap.size) := Lib.hid (by omega)
  clear hrg0 hg0 hs0 c0
  rw [← HN.out] at HRG0 HR ⊢
  go_loopw [3] (fun vl wq => ∃ (lq : List Int) (S : List OV), Row (intE .u32) 22 N wq vl lq ∧ (lq ++ S.map (·.1)).Perm (M.map (·.1)) ∧ Rng Try.prog 58 ovc wq v N M S ∧ Below N w wq ∧ vl.ownBlock ≠ some N) (fun _ wq => rngLeft wq N)
  case atStart => exact ⟨[], M, Row.nil, List.Perm.refl _, HRG0.out, HB0.out, fun e => by cases e⟩
  case round =>
    obtain ⟨lq, S, hrow, hpq, hrg, hbq, hvr⟩ := hrel
    have HROWQ := Lib.hid hrow
    have HPQ := Lib.hid hpq
    have HRG := Lib.hid hrg
    have HBQ := Lib.hid hbq
    have HVR := Lib.hid hvr
    have HSZ : Hid (N ≤ wr.heap.size) := Lib.hid (by rw [HN.out]; exact hbq.size)
    clear hrow hpq hrg hbq hvr HRG0 HB0
    go_wp2_with (first | (at_next; refine wpList_next_map rfl rfl rfl HRG.out ?_ ?_) | go_in)
    · intro hS
      have HNE : Hid (lq.Perm (M.map (·.1))) := Lib.hid (by have := HPQ.out; rw [hS] at this; simpa using this)
      have HSORT := Lib.hid (sort32_any _ N lq wr HROWQ.out HSZ.out (by have := HNE.out.length_eq; have := HML.out; omega))
      clear hS
      go_wp2_with (go_at_call 26; refine HSORT.out.mono ?_; rintro e z ⟨rfl, l', hrow, hp, hs, hk⟩)
      have HP := Lib.hid (hp.trans HNE.out)
      have HS := Lib.hid hs
      have HROW := Lib.hid hrow
      have HBZ := Lib.hid (HBQ.out.trans hk)
      clear hrow hp hs hk
      go_ret
      refine ⟨l', _, rfl, HROW.out.rd, sorted_lt HS.out (HP.out.nodup_iff.2 HND.out), fun o => ?_, by rw [← HN.out]; exact HBZ.out⟩
      rw [HP.out.mem_iff, HMEM.out]
    · intro kk vv w2 hn
      obtain ⟨i, q, hx, hf, hrg1, ho1, hs1, hen⟩ := hn
      have HX := Lib.hid hx
      have HRG1 := Lib.hid hrg1
      have HO1 := Lib.hid ho1
      clear hx hrg1 ho1 hs1
      obtain ⟨xo, xb⟩ := q
      simp only [ovc, okv, Prod.mk.injEq] at hf
      obtain ⟨rfl, rfl⟩ := hf
      have HB2 : Hid (Below N w w2) := Lib.hid (HBQ.out.trans (HO1.out.below (Nat.le_refl _) HSZ.out))
      have HROW2 := Lib.hid (HROWQ.out.only HO1.out HVR.out)
      have HER := Lib.hid (map_erase HX.out)
      have HLS : Hid ((S.eraseIdx i).length < S.length) := Lib.hid (by
        have := (List.getElem?_eq_some_iff.1 HX.out).1
        rw [List.length_eraseIdx, if_pos this]
        omega)
      have HLQ : Hid (lq.length + 1 ≤ 12) := Lib.hid (by
        have h1 := HPQ.out.length_eq
        have h2 := HER.out.length_eq
        rw [List.length_append] at h1
        rw [List.length_cons] at h2
        have := HML.out
        omega)
      have HN2 : Hid (N < w2.heap.size) := Lib.hid HRG1.out.lt
      go_upto_region 7 with fail
      have hX : Below w2.heap.size w2 (w2.alloc (.cells #[.int .u32 xo] 58)) := more (Below.refl _ _) _
      have HB3 : Hid (Below N w (w2.alloc (.cells #[.int .u32 xo] 58))) := Lib.hid (HB2.out.trans (hX.mono (Nat.le_of_lt HN2.out)))
      have HROW3 := Lib.hid (HROW2.out.keep hX)
      have HRG3 := Lib.hid (HRG1.out.keep hX)
      have HBK3 : Hid (Blk (w2.alloc (.cells #[.int .u32 xo] 58)) w2.heap.size 58 #[.int .u32 xo]) := Lib.hid (Blk.new _ _ _)
      have HN3 : Hid (N < (w2.alloc (.cells #[.int .u32 xo] 58)).heap.size) := Lib.hid (by rw [size_alloc]; have := HN2.out; omega)
      clear hX hen
      generalize w2.alloc (.cells #[.int .u32 xo] 58) = w3 at *
      obtain ⟨g7, hg7⟩ : ∃ g, g = w2.heap.size := ⟨_, rfl⟩
      rw [← hg7] at HBK3 ⊢
      clear hg7
      have c7 : w3.cell? ⟨g7, 0, none⟩ = some (.int .u32 xo) := HBK3.out.cell 0
      have hX : Below w3.heap.size w3 (w3.alloc (.cells #[.int .u32 xo] 22)) := more (Below.refl _ _) _
      have HX5 := Lib.hid hX
      have HFR : Hid (Rd (intE .u32) (w3.alloc (.cells #[.int .u32 xo] 22)) (.slice (some ⟨w3.heap.size, 0, none⟩) 1 1) [xo]) := Lib.hid (Rd.fresh w3 xo _ _ _ rfl rfl)
      clear hX
      go_wp2_with (at_builtin; go_must (refine wpList_append (E := intE .u32) (B := N) (l := lq) (m := [xo]) (bytes := 4) u32ElemW Nat.zero_lt_one rfl (.tmp 16) (.tmp 19) rfl rfl (HROW3.out.keep HX5.out) rfl HFR.out (by have := HLQ.out; simp [maxLen]; omega) (by have := HLQ.out; simp; omega) (by have := HN3.out; have := HX5.out.size; omega) ?_); intro v9 z hr9 hk9 hg9 hw9)
      have hg9' : (w3.alloc (.cells #[.int .u32 xo] 22)).grownBy z u3.ownBlock := hg9
      have hw9' : v9.ownBlock = u3.ownBlock ∨ v9.ownBlock = some (w3.alloc (.cells #[.int .u32 xo] 22)).heap.size := hw9
      have HRG5 := Lib.hid ((HRG3.out.keep HX5.out).turned (Turned.of_grown (S := fun j => u3.ownBlock = some j) hg9' (fun k h => h)) (fun e => HVR.out e) (fun g hg e => by
        rcases HRG3.out.is with ⟨e', _⟩ | ⟨g', e', hm⟩
        · rw [hg] at e'; cases e'
        · rw [hg] at e'; cases e'; exact Row.ne_map HROW3.out hm e))
      refine ⟨⟨lq ++ [xo], S.eraseIdx i, hr9, ?_, HRG5.out, HB3.out.trans ((HX5.out.mono (Nat.le_of_lt HN3.out)).trans hk9), fun e => ?_⟩, ?_⟩
      · rw [List.append_assoc, List.singleton_append]
        exact (HER.out.symm.append_left lq).trans HPQ.out
      · rcases hw9' with h | h
        · rw [h] at e; exact HVR.out e
        · rw [h] at e
          injection e with e
          have := HX5.out.size
          have := HN3.out
          omega
      · rw [HRG5.out.left, HRG.out.left]
        exact HLS.out
set_option maxHeartbeats 4000000 in
set_option maxRecDepth 100000 in
theorem shwput_exact (b : Nat) (W R : Nat → Prop) (F : Int → List Ent) (o : Int) (y : Ent) (x : Value) (w : World) (h : ShwAt w b W R F) (bo : 0 ≤ o ∧ o ≤ 4294967295) (hx : Rd (intE .u32) w x y.2.1.2.2) (hy : okE y) :
    Calls Try.prog 8 #[.pointer (some ⟨b, 0, none⟩), .int .u32 o, .agg (ecl y x).toArray] w fun e w' => e = .returned (.bool (decide ((putL (F o) y).2.2 = 0))) ∧ WStep W R w w' b (updF F o (putL (F o) y).1) := by
  obtain ⟨p, hp⟩ : ∃ p, p = putL (F o) y := ⟨_, rfl⟩
  have HPT := Lib.hid (put_there (y := y) (h.facts o).1)
  have HP := Lib.hid hp
  have HBO := Lib.hid bo
  have HY := Lib.hid hy
  have hk0 : Below w.heap.size w (w.alloc (.cells (ecl y x).toArray 28)) := more (Below.refl _ _) _
  have HH := Lib.hid (h.turned (S := fun _ => False) (Turned.of_below hk0) (fun _ _ h => h))
  have HX := Lib.hid (hx.keep hk0)
  have HK := Lib.hid hk0
  have HB : Hid (b < w.heap.size) := Lib.hid (h.lt h.2.1)
  have HRL : Hid (∀ j, R j → j < w.heap.size) := Lib.hid (fun j hj => h.lt hj)
  have HWB : Hid (∀ j, W j ↔ j = b) := Lib.hid h.1
  have HBE : Hid (Blk (w.alloc (.cells (ecl y x).toArray 28)) w.heap.size 28 (ecl y x).toArray) := Lib.hid (Blk.new _ _ _)
  rw [← hp] at HPT ⊢
  obtain ⟨ax, cx, rfl, _, _⟩ := hx.form
  clear hp h bo hx hy hk0
  obtain ⟨ya, ⟨yi, yv, yl⟩, yg⟩ := y
  unfold ecl at HBE HK HH HX ⊢
  dsimp only at HBE HK HH HX HPT HP ⊢
  go_enter Try.func8, Try.ntmps8
  go_upto_region 1 with fail
  generalize w.alloc (.cells #[.int .u32 ya, .int .u64 yi, .int .u64 yv, .slice ax yl.length cx, .bool yg] 28) = w1 at *
  obtain ⟨g5, hg5⟩ : ∃ g, g = w.heap.size := ⟨_, rfl⟩
  rw [← hg5] at HBE ⊢
  have HG5 := Lib.hid hg5
  clear hg5
  go_upto_region 4 with (go_at_call 22; refine (shwopen_any b W R F o w1 HH.out HBO.out).mono ?_; rintro e w2 ⟨sb, W1, R1, rfl, hs, hw1, hr1, hk2⟩)
  have HS := Lib.hid hs
  have HW1 := Lib.hid hw1
  have HR1 : Hid (∀ j, R1 j → (R j ∨ w.heap.size ≤ j) ∧ j ≠ b) := Lib.hid (fun j hj => ⟨(hr1 j hj).1.imp id (fun h => Nat.le_trans HK.out.size h), (hr1 j hj).2⟩)
  have HH2 := Lib.hid (HH.out.turned (S := fun _ => False) (Turned.of_below hk2) (fun _ _ h => h))
  have HX2 := Lib.hid (HX.out.keep hk2)
  have HBE2 := Lib.hid (HBE.out.keep hk2)
  have HK2 := Lib.hid (nest HK.out hk2)
  have HS12 : Hid (w1.heap.size ≤ w2.heap.size ∧ g5 < w1.heap.size ∧ w.heap.size ≤ w1.heap.size) := Lib.hid ⟨hk2.size, HBE.out.lt, HK.out.size⟩
  clear hs hw1 hr1 hk2 HH HX HBE HK
  have HPC : Hid (Calls Try.prog 23 #[.pointer (some ⟨sb, 0, none⟩), .agg #[.int .u32 ya, .int .u64 yi, .int .u64 yv, .slice ax yl.length cx, .bool yg]] w2 fun e w' => e = .returned (.tuple #[.bool p.2.1, .int .i64 p.2.2]) ∧ SStep W1 R1 w2 w' sb p.1) := Lib.hid (by rw [HP.out]; exact shput_any sb W1 R1 (F o) (ya, (yi, yv, yl), yg) (.slice ax yl.length cx) w2 HS.out HX2.out HY.out)
  go_upto_region 5 with (first | (refine at_load 5 rfl ?_; refine wpList_load_row rfl 28 (.tmp 5) rfl g5 rfl 28 _ (0, 0) _ HBE2.out Try.underlying28 rfl ent_info' ?_) | (go_at_call 23; refine HPC.out.mono ?_; rintro e w3 ⟨rfl, W2, R2, hs2, ht2, hw2, hr2⟩))
  have HS2 := Lib.hid hs2
  have HT2 : Hid (Turned (fun j => w1.heap.size ≤ j) w2 w3) := Lib.hid (ht2.mono (fun j _ hj => HW1.out j hj))
  have HW2 : Hid (∀ j, W2 j → w1.heap.size ≤ j) := Lib.hid (fun j hj => by
    rcases hw2 j hj with h | h
    · exact HW1.out j h
    · have := HS12.out.1; omega)
  have HR2 : Hid (∀ j, R2 j → (R j ∨ w.heap.size ≤ j) ∧ j ≠ b) := Lib.hid (fun j hj => by
    rcases hr2 j hj with h | h
    · exact HR1.out j h
    · have := HK2.out.size; have := HB.out; exact ⟨.inr (by omega), by omega⟩)
  clear hs2 ht2 hw2 hr2 HPC HS HX2
  have HH3 : Hid (ShwAt w3 b W R F) := Lib.hid (HH2.out.turned HT2.out (fun j hj hq => by have := HRL.out j hj; have := HS12.out.2.2; omega))
  have HBE3 := Lib.hid (HBE2.out.turned HT2.out (by have := HS12.out.2.1; omega))
  have HT3 : Hid (Turned W w w3) := Lib.hid (Turned.of_below (HK2.out.trans (HT2.out.below HK2.out.size (fun j hj => by have := HS12.out.2.2; omega))))
  clear HH2 HT2 HBE2 HK2
  obtain ⟨L', pb, pe⟩ := p
  dsimp only at HPT HS2 ⊢
  cases pb with
  | false =>
    have HH4 : Hid (ShwAt w3 b W R (updF F o L')) := Lib.hid (by rw [HPT.out.2 rfl, updF_same rfl]; exact HH3.out)
    go_wp2_with fail
    go_ret
    exact ⟨by congr 2, W, R, HH4.out, HT3.out, fun j hj => .inl hj, fun j hj => .inl hj⟩
  | true =>
    go_upto_region 7 with (go_at_call 20; refine (shwlay_any b W R (fun j => (R j ∨ w.heap.size ≤ j) ∧ j ≠ b) F o _ L' w3 HH3.out HBO.out (.inr ⟨sb, W2, R2, rfl, HS2.out, HR2.out⟩) (fun j hj => hj.2)).mono ?_; rintro e w4 ⟨rfl, R4, hp, ht, hr⟩)
    have HH4 := Lib.hid hp
    have HT4 := Lib.hid (HT3.out.trans ht (fun _ _ h => h))
    have HRR : Hid (∀ j, R4 j → R j ∨ w.heap.size ≤ j) := Lib.hid (fun j hj => by
      rcases hr j hj with h | h | h
      · exact .inl h
      · exact h.1.1
      · exact .inr (Nat.le_trans HT3.out.size h))
    clear hp ht hr
    go_wp2_with fail
    go_ret
    exact ⟨by congr 2, W, R4, HH4.out, HT4.out, fun j hj => .inl hj, HRR.out⟩
/-- it answers true, where the owner had nothing -/
def PutAns (e : Ending) (h : Prop) : Prop := ∃ r, e = .returned (.bool r) ∧ (h → r = true)
theorem shwput_any (b : Nat) (W R : Nat → Prop) (F : Int → List Ent) (o : Int) (y : Ent) (x : Value) (w : World) (h : ShwAt w b W R F) (bo : 0 ≤ o ∧ o ≤ 4294967295) (hx : Rd (intE .u32) w x y.2.1.2.2) (hy : okE y) :
    Calls Try.prog 8 #[.pointer (some ⟨b, 0, none⟩), .int .u32 o, .agg (ecl y x).toArray] w fun e w' => PutAns e (F o = []) ∧ WStep W R w w' b (updF F o (putL (F o) y).1) :=
  (shwput_exact b W R F o y x w h bo hx hy).mono fun e w' ⟨he, k⟩ => ⟨⟨_, he, fun e0 => by rw [e0]; rfl⟩, k⟩
end Go.Proofs.Ytihfkjodjaoocaa
