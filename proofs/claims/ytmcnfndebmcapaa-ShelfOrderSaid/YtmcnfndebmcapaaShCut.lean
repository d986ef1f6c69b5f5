/- The document's answers for package shelf (petasosref09): Get, Cut. -/
import Derived.Test.YtmcnfndebmcapaaShScan
set_option maxRecDepth 4000
namespace Go.Proofs.Ytmcnfndebmcapaa
open Go.RowKit Mem
set_option linter.unusedSimpArgs false
set_option linter.unusedVariables false
attribute [local irreducible] Go.Calls

theorem key_info : (Try.prog.info? 28).map (·.size) = some 2 := by kernel_rfl
/-- what stands at a key -/
def getE (L : List Ent) (v i : Int) : Ent × Bool := if posE L v i < L.length then (L.getD (posE L v i) e0, true) else (e0, false)
set_option maxRecDepth 100000 in
set_option maxHeartbeats 4000000 in
theorem rshget_any (b : Nat) (W R : Nat → Prop) (L : List Ent) (v i : Int) (w : World) (h : RfAt w b W R L) (hLl : ∀ y ∈ L, y.2.1.2.2.length ≤ 35184372087808) (hLn : L.length ≤ 1000000) :
    Calls Try.prog 24 #[.pointer (some ⟨b, 0, none⟩), .agg #[.int .u32 v, .int .u64 i]] w fun e w' => ∃ x, e = .returned (.tuple #[.agg (ecl (getE L v i).1 x).toArray, .bool (getE L v i).2]) ∧ Row (intE .u32) 23 w.heap.size w' x (getE L v i).1.2.1.2.2 ∧ Below w.heap.size w w' := by
  have hk0 : Below w.heap.size w ((w.alloc (.cells #[.int .u32 v, .int .u64 i] 28)).alloc (.cells #[.int .u32 0, .int .u64 0, .int .u64 0, .slice none 0 0, .bool false] 40)) := more (more (Below.refl _ _) _) _
  have HB3 : Hid (Blk ((w.alloc (.cells #[.int .u32 v, .int .u64 i] 28)).alloc (.cells #[.int .u32 0, .int .u64 0, .int .u64 0, .slice none 0 0, .bool false] 40)) w.heap.size 28 #[.int .u32 v, .int .u64 i]) := Lib.hid ((Blk.new w _ _).keep (more (Below.refl _ _) _))
  have HB4 : Hid (Blk ((w.alloc (.cells #[.int .u32 v, .int .u64 i] 28)).alloc (.cells #[.int .u32 0, .int .u64 0, .int .u64 0, .slice none 0 0, .bool false] 40)) (w.heap.size + 1) 40 #[.int .u32 0, .int .u64 0, .int .u64 0, .slice none 0 0, .bool false]) := Lib.hid (Blk.newAt _ _ _ (size_alloc _ _).symm)
  have HH := Lib.hid (h.keep hk0)
  have HK := Lib.hid hk0
  have HLL := Lib.hid hLl
  have HLN := Lib.hid hLn
  clear h hk0 hLl hLn
  go_enter Try.func24, Try.ntmps24
  go_upto_region 1 with fail
  generalize (w.alloc (.cells #[.int .u32 v, .int .u64 i] 28)).alloc (.cells #[.int .u32 0, .int .u64 0, .int .u64 0, .slice none 0 0, .bool false] 40) = w1 at *
  obtain ⟨g3, hg3⟩ : ∃ g, g = w.heap.size := ⟨_, rfl⟩
  have HG3 := Lib.hid hg3
  rw [← hg3] at HB3 HB4 ⊢
  clear hg3
  go_upto_region 2 with (first | (refine at_load 3 rfl ?_; refine wpList_load_row rfl 28 (.tmp 3) rfl g3 rfl 28 _ (0, 0) _ HB3.out Try.underlying28 rfl key_info ?_) | (go_at_call 33; refine (rshfind_any b W R L v i _ HH.out).mono ?_; rintro e w2 ⟨rfl, hk2⟩))
  have HB42 := Lib.hid (HB4.out.keep hk2)
  have HK2 := Lib.hid (nest HK.out hk2)
  have HH2 := Lib.hid (HH.out.keep hk2)
  clear hk2 HB3 HB4 HH HK
  by_cases hp : posE L v i < L.length
  case neg =>
    have HGE : Hid (getE L v i = (e0, false)) := Lib.hid (by unfold getE; rw [if_neg hp])
    rw [if_neg hp]
    go_upto_if 99 with (refine at_store 4 rfl ?_; refine wpList_store_row rfl 40 (.tmp 4) (.tmp 12) rfl (g3 + 1) #[.int .u32 0, .int .u64 0, .int .u64 0, .slice none 0 0, .bool false] rfl rfl 40 _ HB42.out ent_info' rfl (by simp [Value.oneCell']) ?_)
    refine bodyPost_ret (results_blk_tmp (l := [.int .u32 0, .int .u64 0, .int .u64 0, .slice none 0 0, .bool false]) rfl Try.underlying40 ent_info' rfl rfl (Blk.rowS HB42.out _)) rfl ?_
    rw [HGE.out]
    exact ⟨.slice none 0 0, rfl, Row.nil, HK2.out.trans ((Only.rowS w2 _).below (by have := HG3.out; omega) HK2.out.size)⟩
  have hge : getE L v i = (L.getD (posE L v i) e0, true) := by unfold getE; rw [if_pos hp]
  rw [if_pos hp]
  have hm : L.getD (posE L v i) e0 ∈ L := by rw [show L.getD (posE L v i) e0 = L[posE L v i] by simp [List.getD, hp]]; exact List.getElem_mem _
  have hyl := HLL.out _ hm
  obtain ⟨a, g, off, c, hc0, hc1, hc2, hc3, hc4⟩ := HH2.out.at
  obtain ⟨rfl, hg1, hg2⟩ := hc3 (by omega)
  obtain ⟨x, d0, d1, d2, d3, d4, hrx, _⟩ := hc4 _ hp
  obtain ⟨k, hk⟩ : ∃ k, k = posE L v i := ⟨_, rfl⟩
  rw [← hk] at hp d0 d1 d2 d3 d4 hrx hyl hge ⊢
  obtain ⟨y, hy⟩ : ∃ y, y = L.getD k e0 := ⟨_, rfl⟩
  rw [← hy] at d0 d1 d2 d4 hrx hyl hge
  obtain ⟨ax, cx, rfl, _, _⟩ := hrx.form
  obtain ⟨ya, ⟨yi, yv, yl⟩, yg⟩ := y
  have d0 : w2.cell? ⟨g, off + k * 5, none⟩ = some (.int .u32 ya) := d0
  have d1 : w2.cell? ⟨g, off + k * 5 + 1, none⟩ = some (.int .u64 yi) := d1
  have d2 : w2.cell? ⟨g, off + k * 5 + 2, none⟩ = some (.int .u64 yv) := d2
  have d3 : w2.cell? ⟨g, off + k * 5 + 3, none⟩ = some (.slice ax yl.length cx) := d3
  have d4 : w2.cell? ⟨g, off + k * 5 + 4, none⟩ = some (.bool yg) := d4
  have HX : Hid (Rd (intE .u32) w2 (.slice ax yl.length cx) yl) := Lib.hid hrx
  have HYL : Hid (yl.length ≤ 35184372087808) := Lib.hid hyl
  have hki : (k : Int) < (L.length : Int) := by omega
  have hkn : ¬ ((k : Int) < 0) := by omega
  have HGE := Lib.hid hge
  clear hc3 hc4 hk hy hm hrx hyl hg1 hg2 hge
  go_upto_if 99 with (first | (go_at_call 35; refine (copyent_any (ya, (yi, yv, yl), yg) (.slice ax yl.length cx) _ HX.out HYL.out).mono ?_; rintro e w3 ⟨xq, rfl, hr3, hk3⟩; have HR3 := Lib.hid hr3; have HK3 := Lib.hid hk3; obtain ⟨aq, cq, rfl, _, _⟩ := hr3.rd.form; have HB43 := Lib.hid (HB42.out.keep hk3); clear hr3 hk3) | (refine at_store 4 rfl ?_; refine wpList_store_row rfl 40 (.tmp 4) (.tmp 20) rfl (g3 + 1) #[.int .u32 ya, .int .u64 yi, .int .u64 yv, .slice aq yl.length cq, .bool yg] rfl rfl 40 _ HB43.out ent_info' rfl (by simp [Value.oneCell']) ?_))
  refine bodyPost_ret (results_blk_tmp (l := [.int .u32 ya, .int .u64 yi, .int .u64 yv, .slice aq yl.length cq, .bool yg]) rfl Try.underlying40 ent_info' rfl rfl (Blk.rowS HB43.out _)) rfl ?_
  rw [HGE.out]
  have hW := HK2.out.size
  exact ⟨_, rfl, (HR3.out.only (Only.rowS w3 _) (HR3.out.ne_blk HB43.out (by decide))).mono hW, (nest HK2.out HK3.out).trans ((Only.rowS w3 _).below (by have := HG3.out; omega) (nest HK2.out HK3.out).size)⟩
theorem OutAt.turned {B : Nat} {S : Nat → Prop} {w w' : World} {v : Value} {M : List Ent} (h : OutAt B w v M) (t : Turned S w w') (hs : ∀ j, S j → j < B) : OutAt B w' v M := by
  obtain ⟨hs', h1, h2⟩ := h
  exact ⟨hs', h1.turned t (fun g hg hS => by have := (h1.block g hg).1; have := hs g hS; omega), h2.imp fun x y h => h.turned t (fun j hj hS => by have := hs j hS; have hj : B ≤ j := hj; omega)⟩
/-- what is left behind a cut -/
def restL (f t : Int) (L : List Ent) : List Ent := L.filter fun y => !hasV f t y.1
theorem restL_step (f t : Int) {L : List Ent} {k : Nat} (hk : k < L.length) : restL f t (L.take (k + 1)) = restL f t (L.take k) ++ (if hasV f t (L.getD k e0).1 = true then [] else [L.getD k e0]) := by
  unfold restL
  rw [List.take_add_one, List.getElem?_eq_getElem hk, Option.toList_some, List.filter_append, show L.getD k e0 = L[k] by simp [List.getD, hk]]
  cases hq : hasV f t L[k].1 <;> simp [hq]
theorem restL_len (f t : Int) (L : List Ent) : (restL f t L).length ≤ L.length := List.length_filter_le _ _
set_option maxRecDepth 100000 in
set_option maxHeartbeats 4000000 in
theorem rshcut_any (b : Nat) (W R : Nat → Prop) (L : List Ent) (f t : Int) (bf : 0 ≤ f ∧ f ≤ 4294967295) (bt : 0 ≤ t ∧ t ≤ 4294967295) (w : World) (h : RfAt w b W R L) (hLb : ∀ y ∈ L, entB y) (hLl : ∀ y ∈ L, y.2.1.2.2.length ≤ 35184372087808) (hLn : L.length ≤ 1000000) :
    Calls Try.prog 14 #[.pointer (some ⟨b, 0, none⟩), .agg #[.int .u32 f, .int .u32 t]] w fun e w' => ∃ v, e = .returned v ∧ OutAt w.heap.size w' v (scanL f t L) ∧ RStep W R w w' b (restL f t L) := by
  have hk0 : Below w.heap.size w (w.alloc (.cells #[.int .u32 f, .int .u32 t] 25)) := more (Below.refl _ _) _
  have HB3 := Lib.hid (Blk.new w 25 #[.int .u32 f, .int .u32 t])
  have HH := Lib.hid (h.keep hk0)
  have HK := Lib.hid hk0
  have HLB := Lib.hid hLb
  have HLL := Lib.hid hLl
  have HLN := Lib.hid hLn
  have HBF := Lib.hid bf
  have HBT := Lib.hid bt
  have H0 := Lib.hid h
  clear h hk0 hLb hLl hLn bf bt
  go_enter Try.func14, Try.ntmps14
  go_upto_region 1 with fail
  generalize w.alloc (.cells #[.int .u32 f, .int .u32 t] 25) = w1 at *
  obtain ⟨g3, hg3⟩ : ∃ g, g = w.heap.size := ⟨_, rfl⟩
  rw [← hg3] at HB3 ⊢
  have HG3 := Lib.hid hg3
  clear hg3
  go_upto_region 2 with (first | (refine at_load 3 rfl ?_; refine wpList_load_row rfl 25 (.tmp 3) rfl g3 rfl 25 _ (0, 0) _ HB3.out Try.underlying25 rfl span_info9 ?_) | (go_at_call 26; refine (rshscan_any b W R L f t HBF.out HBT.out _ HH.out HLB.out HLL.out HLN.out).mono ?_; rintro e w2 ⟨ov, rfl, hout, hk2⟩))
  have HOUT : Hid (OutAt w.heap.size w2 ov (scanL f t L)) := Lib.hid (by obtain ⟨hs, h1, h2⟩ := hout; exact ⟨hs, h1.mono HK.out.size, h2.imp fun x y h => h.mono fun j _ hj => Nat.le_trans HK.out.size hj⟩)
  have HB32 := Lib.hid (HB3.out.keep hk2)
  have HK2 := Lib.hid (nest HK.out hk2)
  obtain ⟨sl, hsb, hse, hWb, hsW, hWR, hR⟩ := HH.out.keep hk2
  have hin : EntsIn R w2 sl L := hse.rd.mono (fun j _ hj => by rcases hj with hj | hj; exact hj.1; exact hWR j (hsW j hj))
  obtain ⟨a, g, off, c, rfl, hc1, hc2, hc3, hc4⟩ := hin.at
  have hc2' : c ≤ 9223372036854775807 := hc2
  obtain ⟨hs0, hl0, hrow0, hown0, hel0⟩ := hse
  have HROW0 := Lib.hid hrow0
  have HEL0 := Lib.hid hel0
  have HL0 := Lib.hid hl0
  have HSB := Lib.hid hsb
  have HC3 := Lib.hid hc3
  have HC4 := Lib.hid hc4
  have HLN2 := HLN.out
  obtain ⟨ao, no, co, hov⟩ : ∃ ao no co, ov = .slice ao no co := by
    obtain ⟨hs, h1, _⟩ := HOUT.out
    obtain ⟨a, c, hv, _, _⟩ := h1.rd.form
    exact ⟨_, _, _, hv⟩
  subst hov
  clear hout hk2 HB3 HH hsb hin hc2 hc3 hc4 hrow0 hel0 hl0 hown0 hWb hsW hWR hR
  go_upto_block 99 with fail
  go_loopw [6, 7] (fun rv n wr => ∃ (j : Nat) (hs : List (Raw 5)), j ≤ L.length ∧ n = .int .i64 j ∧ Row (rawE 5) 40 w2.heap.size wr rv hs ∧ PW (fun x y => EntIn (fun j => R j ∧ ¬ W j) w2 x y) hs (restL f t (L.take j)) ∧ Below w2.heap.size w2 wr) (fun _ n _ => L.length - (intOf n).toNat)
  case atStart => exact ⟨0, [], Nat.zero_le _, rfl, Row.nil, ⟨rfl, fun i x y hx _ => by simp at hx⟩, Below.refl _ _⟩
  case round =>
    obtain ⟨j, hs, hj, rfl, hrow, hpw, hb⟩ := hrel
    have HKW := Lib.hid hb
    have c0 : wr.cell? ⟨b, 0, none⟩ = some (.slice a L.length c) := kc hb (HSB.out.cell 0)
    obtain ⟨aq, cq, rfl, hcq1, hcq2⟩ := hrow.rd.form
    have hcq2' : cq ≤ 9223372036854775807 := hcq2
    have HROW := Lib.hid hrow
    have HPW := Lib.hid hpw
    have HHL : Hid (hs.length ≤ L.length) := Lib.hid (by rw [hpw.1]; have := restL_len f t (L.take j); rw [List.length_take] at this; omega)
    by_cases hlt : j < L.length
    case neg =>
      have hjl : j = L.length := by omega
      subst hjl
      rw [List.take_length] at HPW
      replace HROW := Lib.hid (HROW.out.mono HK2.out.size)
      clear hrow hpw hb
      have q1 := (HSB.out.keep HKW.out).frozen 0
      have hos := Only.set (b := b) wr 0 (.slice aq hs.length cq)
      have hwb : b < w.heap.size := H0.out.lt (by obtain ⟨sl0, _, _, h3, _, h5, _⟩ := H0.out; exact h5 b h3)
      have hnb : (Value.slice aq hs.length cq).ownBlock ≠ some b := fun e => by have := (HROW.out.block b e).1; omega
      have hT : Turned (fun j => j = b) w2 (wr.setCell ⟨b, 0, none⟩ (.slice aq hs.length cq)) := (Turned.of_below HKW.out).trans (Turned.of_only (S := fun j => j = b) hos rfl) (fun _ _ h => h)
      have hrst : RStep W R w (wr.setCell ⟨b, 0, none⟩ (.slice aq hs.length cq)) b (restL f t L) := by
        obtain ⟨sl0, _, _, hWb, _, hWR, hR⟩ := H0.out
        have hsz := (nest HK2.out HKW.out).size
        refine ⟨fun j => j = b ∨ (Value.slice aq hs.length cq).ownBlock = some j, fun j => (R j ∧ ¬ W j) ∨ (j = b ∨ (Value.slice aq hs.length cq).ownBlock = some j), ⟨.slice aq hs.length cq, by simpa using (HSB.out.keep HKW.out).set_ 0 (.slice aq hs.length cq), ⟨hs, HPW.out.1, (HROW.out.only hos hnb).mono (Nat.zero_le _), fun g hg hq => hq.2 (.inr hg), fun i x y hx hy => ?_⟩, .inl rfl, fun g hg => .inr hg, fun j hj => .inr hj, fun j hj => ?_⟩, ?_, fun j hj => ?_, fun j hj => ?_⟩
        · refine ((HPW.out.2 i x y hx hy).turned hT (fun j hj e => hj.2 (by rw [e]; exact hWb))).mono (fun j _ hj => ⟨.inl hj, fun hw => ?_⟩)
          rcases hw with rfl | hw
          · exact hj.2 hWb
          · have := (HROW.out.block j hw).1
            have := hR j hj.1
            omega
        · have hz := hos.size
          rcases hj with hj | rfl | hj
          · have := hR j hj.1; omega
          · omega
          · have := (HROW.out.block j hj).2; omega
        · exact (Turned.of_below (nest HK2.out HKW.out)).trans (Turned.of_only hos hWb) (fun _ _ h => h)
        · rcases hj with rfl | hj
          · exact .inl hWb
          · exact .inr (HROW.out.block j hj).1
        · rcases hj with hj | rfl | hj
          · exact .inl hj.1
          · exact .inl (hWR _ hWb)
          · exact .inr (HROW.out.block j hj).1
      have hfin : OutAt w.heap.size (wr.setCell ⟨b, 0, none⟩ (.slice aq hs.length cq)) (.slice ao no co) (scanL f t L) := HOUT.out.turned hT (fun j hj => by rw [hj]; exact hwb)
      have HRST := Lib.hid hrst
      have HFIN := Lib.hid hfin
      clear hos hnb hT hrst hfin hwb
      go_wp2_with fail
      go_ret
      exact ⟨_, rfl, HFIN.out, HRST.out⟩
    have HSTEP := Lib.hid (restL_step f t hlt)
    obtain ⟨rfl, hg1, hg2⟩ := HC3.out (by omega)
    obtain ⟨x, t0, t1, t2, t3, t4, trx, trq⟩ := ents_cells (i := j) HL0.out HROW0.out.rd HEL0.out rfl rfl hlt
    have hm : L.getD j e0 ∈ L := by rw [show L.getD j e0 = L[j] by simp [List.getD, hlt]]; exact List.getElem_mem hlt
    have hyb := HLB.out _ hm
    have hyl := HLL.out _ hm
    obtain ⟨y, hy⟩ : ∃ y, y = L.getD j e0 := ⟨_, rfl⟩
    rw [← hy] at t0 t1 t2 t4 trx trq hyb hyl HSTEP
    obtain ⟨ax, cx, rfl, _, _⟩ := trx.form
    obtain ⟨ya, ⟨yi, yv, yl⟩, yg⟩ := y
    have d0 : wr.cell? ⟨g, off + j * 5, none⟩ = some (.int .u32 ya) := kc hb t0
    have d1 : wr.cell? ⟨g, off + j * 5 + 1, none⟩ = some (.int .u64 yi) := kc hb t1
    have d2 : wr.cell? ⟨g, off + j * 5 + 2, none⟩ = some (.int .u64 yv) := kc hb t2
    have d3 : wr.cell? ⟨g, off + j * 5 + 3, none⟩ = some (.slice ax yl.length cx) := kc hb t3
    have d4 : wr.cell? ⟨g, off + j * 5 + 4, none⟩ = some (.bool yg) := kc hb t4
    have HRAW : Hid (EntIn (fun j => R j ∧ ¬ W j) w2 (rawEnt (ya, (yi, yv, yl), yg) (.slice ax yl.length cx) rfl) (ya, (yi, yv, yl), yg)) := Lib.hid ⟨.slice ax yl.length cx, rfl, trx, trq⟩
    have hya : 0 ≤ ya ∧ ya ≤ 4294967295 := hyb.1
    obtain ⟨hb2, hhb⟩ : ∃ q, q = hasV f t ya := ⟨_, rfl⟩
    have HHAS : Hid (∀ z, Calls Try.prog 31 #[.agg #[.int .u32 f, .int .u32 t], .int .u32 ya] z fun e w' => e = .returned (.bool hb2) ∧ Below z.heap.size z w') := Lib.hid (fun z => by rw [hhb]; exact rhas_any f t ya HBF.out HBT.out hya z)
    have HST2 : Hid (restL f t (L.take (j + 1)) = restL f t (L.take j) ++ (if hb2 = true then [] else [(ya, (yi, yv, yl), yg)])) := Lib.hid (by rw [hhb]; exact HSTEP.out)
    have HB3W := Lib.hid (HB32.out.keep hb)
    have hcL : (L.length : Int) ≤ c := by omega
    clear t0 t1 t2 t3 t4 trx trq hm hyb hyl hy hya hhb HSTEP hrow hpw hb hg1 hg2
    go_upto_region 6 with fail
    refine Run.region_walk (S := fun z => Blk z g3 25 #[.int .u32 f, .int .u32 t] ∧ z.cell? ⟨b, 0, none⟩ = some (.slice (some ⟨g, off, none⟩) L.length c) ∧ z.cell? ⟨g, off + j * 5, none⟩ = some (.int .u32 ya) ∧ Below wr.heap.size wr z)
      rshcut.rows5 rshcut.plan5 (l := ?steps1) (by kernel_rfl) (by kernel_rfl) (by kernel_rfl) (by kernel_rfl) ?written1 ⟨HB3W.out.keep (Below.refl _ _).drew, c0, d0, (Below.refl _ _).drew⟩ ?onward1
    case written1 =>
      simp only [rshcut.plan5, Run.stepsOf, Run.stepOf, Run.guardOf, List.getElem?_toArray, List.getElem?_cons_zero, List.getElem?_cons_succ, Option.map_some, Option.map_none, Option.bind_some, Option.toList_some, List.map_cons, List.map_nil, List.cons_append, List.nil_append, List.append_eq]
      rfl
    repeat ((first
      | (refine Run.takes (v := ?_) ?_ ?_; rotate_left; (· intro w' hS'; (first | (refine exec_load_blk (n := 2) (x := .tmp 3) (l := [.int .u32 f, .int .u32 t]) ?_ Try.underlying25 span_info9 ?_ ?_ hS'.1 <;> rfl) | (go_simp; (try with_reducible rfl)))))
      | (refine Run.takesG (v := ?_) ?_ ?_ ?_; rotate_left; (· simp only [List.getElem?_cons_zero, List.getElem?_cons_succ]); (· intro w' hS'; (first | (refine exec_load_blk (n := 2) (x := .tmp 3) (l := [.int .u32 f, .int .u32 t]) ?_ Try.underlying25 span_info9 ?_ ?_ hS'.1 <;> rfl) | (go_simp; (try with_reducible rfl)))))
      | (refine Run.skipsT ?_ ?_; (· simp only [List.getElem?_cons_zero, List.getElem?_cons_succ]))
      | (refine Run.skipsF ?_ ?_; (· simp only [List.getElem?_cons_zero, List.getElem?_cons_succ]))
      | (refine Run.skipsU ?_ ?_; (· simp only [List.getElem?_cons_zero, List.getElem?_cons_succ]))
      | (refine Run.passT ?_ ?_; (· simp only [List.getElem?_cons_zero, List.getElem?_cons_succ]))
      | (refine Run.passF ?_ ?_; (· simp only [List.getElem?_cons_zero, List.getElem?_cons_succ]))
      | (refine Run.passU ?_ ?_; (· simp only [List.getElem?_cons_zero, List.getElem?_cons_succ]))
      | (refine Run.runs ?_
         (first
         | (refine Run.callF 31 (by kernel_rfl) (fun hS => HHAS.out _) rfl ?_)
         | (refine Run.callG 31 (by kernel_rfl) ?_ (fun hS => HHAS.out _) rfl ?_; (· simp only [List.getElem?_cons_zero, List.getElem?_cons_succ]))
         | fail)
         (first
         | (rintro hS e w' ⟨rfl, rfl⟩; refine ⟨_, rfl, hS, ?_⟩)
         | (rintro hS e w' ⟨rfl, hb⟩; refine ⟨_, rfl, ⟨hS.1.keep hb, kc hb hS.2.1, kc hb hS.2.2.1, nest hS.2.2.2 hb⟩, ?_⟩)
         | fail))
      | fail); simp only [Act.put, List.setIfInBounds_toArray, List.set_cons_zero, List.set_cons_succ])
    refine Run.ends (fun hS => ?_)
    have HKX := Lib.hid hS.2.2.2
    have d0 := kc HKX.out d0
    have d1 := kc HKX.out d1
    have d2 := kc HKX.out d2
    have d3 := kc HKX.out d3
    have d4 := kc HKX.out d4
    have c0 := kc HKX.out c0
    clear hS
    cases hb2 with
    | true =>
      have HNX : Hid (restL f t (L.take (j + 1)) = restL f t (L.take j)) := Lib.hid (by rw [HST2.out, if_pos rfl, List.append_nil])
      go_wp2_with fail
      exact ⟨⟨j + 1, hs, by omega, by go_num, HROW.out.keep HKX.out, by rw [HNX.out]; exact HPW.out, nest HKW.out HKX.out⟩, by simp [intOf]; omega⟩
    | false =>
      have HNX : Hid (restL f t (L.take (j + 1)) = restL f t (L.take j) ++ [(ya, (yi, yv, yl), yg)]) := Lib.hid (by rw [HST2.out, if_neg (by decide)])
      obtain ⟨zs, hzs⟩ : ∃ z, z = w' := ⟨_, rfl⟩
      subst hzs
      have HX3 := Lib.hid (Row.lit (E := rawE 5) zs.heap.size zs #[.int .u32 ya, .int .u64 yi, .int .u64 yv, .slice ax yl.length cx, .bool yg] [rawEnt (ya, (yi, yv, yl), yg) (.slice ax yl.length cx) rfl] 1 zs.heap.size rfl rfl rfl (Nat.le_refl _) (by simp [maxLen]) : Row (rawE 5) 40 zs.heap.size (zs.alloc (.cells #[.int .u32 ya, .int .u64 yi, .int .u64 yv, .slice ax yl.length cx, .bool yg] 40)) (.slice (some ⟨zs.heap.size, 0, none⟩) 1 1) [rawEnt (ya, (yi, yv, yl), yg) (.slice ax yl.length cx) rfl])
      have HX4 : Hid (Below zs.heap.size zs (zs.alloc (.cells #[.int .u32 ya, .int .u64 yi, .int .u64 yv, .slice ax yl.length cx, .bool yg] 40))) := Lib.hid (more (Below.refl _ _) _)
      have HROWX := Lib.hid ((HROW.out.keep HKX.out).keep HX4.out)
      have HBS : Hid (w2.heap.size ≤ (zs.alloc (.cells #[.int .u32 ya, .int .u64 yi, .int .u64 yv, .slice ax yl.length cx, .bool yg] 40)).heap.size) := Lib.hid (nest (nest HKW.out HKX.out) HX4.out).size
      go_upto_if 99 with (first
        | (refine at_build 38 rfl ?_; refine wpList_build_one (size := 5) (bytes := 56) entElem (by decide) (by decide) rfl _ rfl (C := #[.int .u32 ya, .int .u64 yi, .int .u64 yv, .slice ax yl.length cx, .bool yg]) rfl rfl ?_)
        | (at_builtin; refine wpList_append (E := rawE 5) (B := w2.heap.size) (l := hs) (m := [rawEnt (ya, (yi, yv, yl), yg) (.slice ax yl.length cx) rfl]) (bytes := 56) entElem (Nat.zero_lt_succ 4) rfl (.tmp 31) (.tmp 39) rfl rfl HROWX.out rfl HX3.out.rd (by have := HHL.out; simp [maxLen]; omega) (by have := HHL.out; simp; omega) HBS.out ?_; intro v9 y9 hr9 hk9 hg9 _))
      exact ⟨⟨j + 1, by omega, by go_num, hs ++ [rawEnt (ya, (yi, yv, yl), yg) (.slice ax yl.length cx) rfl], hr9, by rw [HNX.out]; exact HPW.out.append (PW.one HRAW.out), (nest (nest HKW.out HKX.out) HX4.out).trans hk9⟩, by simp [intOf]; omega⟩
end Go.Proofs.Ytmcnfndebmcapaa
