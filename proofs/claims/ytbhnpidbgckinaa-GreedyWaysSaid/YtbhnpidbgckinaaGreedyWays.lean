/- Walk of the law GreedyWays. -/
import Derived.Test.YtbhnpidbgckinaaGrLaw
import Derived.Test.YtbhnpidbgckinaaFroms
set_option maxRecDepth 4000
namespace Go.Proofs.Ytbhnpidbgckinaa.greedyWays
open Go.RowKit Mem
set_option linter.unusedSimpArgs false
set_option linter.unusedVariables false
attribute [local irreducible] Go.Calls

/-- what a way is, place by place -/
theorem way_is {L : List Int} (h : okR L) {v : Int} (bv : 0 ≤ v ∧ v ≤ 4294967295) (K : Int → List Int) {a : Int} (ha : a ∈ L) :
    0 < (wayR L K v L.length a).length ∧ (wayR L K v L.length a).length ≤ L.length ∧ (wayR L K v L.length a).getD 0 0 = a ∧ (wayR L K v L.length a).getD ((wayR L K v L.length a).length - 1) 0 = (ownR L v).1 ∧
    ∀ i, 0 < i → i < (wayR L K v L.length a).length → (wayR L K v L.length a).getD (i - 1) 0 ∈ L ∧ goR L (K ((wayR L K v L.length a).getD (i - 1) 0)) ((wayR L K v L.length a).getD (i - 1) 0) v = ((wayR L K v L.length a).getD i 0, true) ∧
      (i + 1 < (wayR L K v L.length a).length → (v - (wayR L K v L.length a).getD i 0) % 4294967296 < (v - (wayR L K v L.length a).getD (i - 1) 0) % 4294967296) := by
  obtain ⟨r1, r2, r3, r4, r5⟩ := way_facts h bv K L.length a ha
  obtain ⟨e1, e2⟩ := way_end h bv K ha
  obtain ⟨rr, hrr⟩ := way_ne L K v L.length a
  generalize wayR L K v L.length a = W at *
  have hmem : ∀ i, i < W.length → W.getD i 0 ∈ L := fun i hi => r1 _ (by rw [show W.getD i 0 = W[i] by simp [List.getD, hi]]; exact List.getElem_mem hi)
  refine ⟨by rw [hrr]; simp, e1, by rw [hrr]; rfl, e2, fun i h0 hi => ?_⟩
  have hs := r4 (i - 1) (by omega)
  rw [show i - 1 + 1 = i by omega] at hs
  refine ⟨hmem (i - 1) (by omega), hs, fun hi2 => ?_⟩
  have ht := (goR_true h bv (K (W.getD (i - 1) 0))).1 (by rw [hs])
  obtain ⟨_, hn⟩ := goR_near h bv (K (W.getD (i - 1) 0)) ht.1 ht.2
  rw [hs] at hn
  rcases hn with e | e
  · have h4 := r4 i hi2
    rw [goR_false _ (.inr e.symm)] at h4
    simp at h4
  · exact e
set_option maxRecDepth 100000 in
set_option maxHeartbeats 8000000 in
theorem walk (v : Value) (l : List Int) (u : Value) (F : List (List Int)) (t : Int) (bt : -9223372036854775808 ≤ t ∧ t ≤ 9223372036854775807) (x : Int) (bx : 0 ≤ x ∧ x ≤ 4294967295) (w : World) (h : Rd (intE .u32) w v l) (hb : ∀ x ∈ l, 0 ≤ x ∧ x ≤ 4294967295) (hu : fromsK.rd w [u] F) :
    Calls Try.prog 4 #[v, u, .int .i64 t, .int .u32 x] w fun e w' => e = .returned (.bool true) ∧ Below w.heap.size w w' := by
  have HMD := Lib.hid (made13_any v l w h hb)
  have HO := Lib.hid (made_ok13 hb)
  obtain ⟨L, hL⟩ : ∃ x, x = addsR [] (l.take 60) := ⟨_, rfl⟩
  rw [← hL] at HMD HO
  have HBX := Lib.hid bx
  obtain ⟨a, c, rfl, _, _⟩ := h.form
  obtain ⟨au, cu, rfl, hcu, hmu, hau⟩ := froms_at hu
  have hmu' : cu ≤ 9223372036854775807 := hmu
  have HAU := Lib.hid hau
  clear h hb hL bx hu hmu hau
  go_enter Try.func4, Try.ntmps4
  go_upto_region 2 with (go_at_call 8; refine HMD.out.mono ?_; rintro e w2 ⟨r, rr, rfl, hp, hk⟩)
  have HP2 := Lib.hid hp
  have HK2 := Lib.hid hk
  clear hp hk HMD
  obtain ⟨a2, g2, o2, c2, hc0, hq1, hq2, hq3, hq4, hq5⟩ := HP2.out.two.at
  have d0 := hc0
  have HC0 := Lib.hid hc0
  have hq2' : c2 ≤ 9223372036854775807 := hq2
  have HQ3 := Lib.hid hq3
  have HQ4 := Lib.hid hq4
  have HQ5 := Lib.hid hq5
  have hl64 : L.length ≤ 64 := HO.out.2.2
  clear hc0 hq2 hq3 hq4 hq5
  by_cases hL0 : L = []
  · have hLz : L.length = 0 := by rw [hL0]; rfl
    have hLz2 : ((L.length : Int) == 0) = true := by rw [hLz]; rfl
    go_wp2_with (go_at_call 9; refine (grawake_any w2).mono ?_; rintro e w5 ⟨rfl, hk⟩)
    go_ret
    exact ⟨rfl, nest HK2.out hk⟩
  have hLp : 0 < L.length := List.length_pos_iff.2 hL0
  have hLz2 : ((L.length : Int) == 0) = false := beq_eq_false_iff_ne.2 (by omega)
  obtain ⟨rfl, _⟩ := HQ3.out hLp
  by_cases h40 : 60 < F.length
  · have h40i : (60 : Int) < (F.length : Int) := by omega
    go_wp2_with (go_at_call 9; refine (grawake_any w2).mono ?_; rintro e w5 ⟨rfl, hk⟩)
    go_ret
    exact ⟨rfl, nest HK2.out hk⟩
  have h40i : ¬ (60 : Int) < (F.length : Int) := by omega
  have H40 : Hid (F.length ≤ 60) := Lib.hid (by omega)
  go_upto_region 4 with fail
  clear h40i h40
  obtain ⟨k, hkS, hkq⟩ : ∃ k : Nat, k < L.length ∧ wrap64 ((IntKind.u64.wrap t).tmod (L.length : Int)) = (k : Int) := by
    have q0 : 0 ≤ IntKind.u64.wrap t := by rw [IntKind.wrap_u64]; omega
    have q1 : 0 ≤ (IntKind.u64.wrap t).tmod (L.length : Int) := Int.tmod_nonneg _ q0
    have q2 := Int.tmod_lt_of_pos (IntKind.u64.wrap t) (show (0 : Int) < (L.length : Int) by omega)
    refine ⟨((IntKind.u64.wrap t).tmod (L.length : Int)).toNat, by omega, ?_⟩
    unfold wrap64
    omega
  have dk := HQ4.out k hkS
  obtain ⟨p, hp⟩ : ∃ x, x = L.getD k 0 := ⟨_, rfl⟩
  rw [← hp] at dk
  have HPM : Hid (p ∈ L) := Lib.hid (by rw [hp, show L.getD k 0 = L[k] by simp [List.getD, hkS]]; exact List.getElem_mem hkS)
  have hkl : (k : Int) < (L.length : Int) := by omega
  have hcl : (L.length : Int) ≤ c2 := by omega
  have hw64 : IntKind.u64.wrap (L.length : Int) = (L.length : Int) := by rw [IntKind.wrap_u64]; omega
  have hlz : ¬ (L.length : Int) = 0 := by omega
  have hkq2 : IntKind.i64.wrap ((IntKind.u64.wrap t).tmod (L.length : Int)) = (k : Int) := by
    have q0 : 0 ≤ IntKind.u64.wrap t := by rw [IntKind.wrap_u64]; omega
    have q1 : 0 ≤ (IntKind.u64.wrap t).tmod (L.length : Int) := Int.tmod_nonneg _ q0
    have q2 := Int.tmod_lt_of_pos (IntKind.u64.wrap t) (show (0 : Int) < (L.length : Int) by omega)
    rw [← hkq, IntWalk.i64_in _ (by omega), IntWalk.wrap64_in _ (by omega)]
  have d1 : w2.drew.cell? ⟨rr, 0, none⟩ = some (.slice (some ⟨g2, o2, none⟩) L.length c2) := d0
  have d2 : w2.drew.cell? ⟨g2, o2 + k, none⟩ = some (.int .u32 p) := dk
  have HDR : Hid (Below w2.heap.size w2 w2.drew) := Lib.hid (Below.refl _ _).drew
  clear hp
  refine Run.region_walk (S := fun z => z.cell? ⟨rr, 0, none⟩ = some (.slice (some ⟨g2, o2, none⟩) L.length c2) ∧ z.cell? ⟨g2, o2 + k, none⟩ = some (.int .u32 p))
    lgways.rows4 lgways.plan4 (l := ?steps1) (by kernel_rfl) (by kernel_rfl) (by kernel_rfl) (by kernel_rfl) ?written1 ⟨d1, d2⟩ ?onward1
  case written1 =>
    simp only [lgways.plan4, Run.stepsOf, Run.stepOf, Run.guardOf, List.getElem?_toArray, List.getElem?_cons_zero, List.getElem?_cons_succ, Option.map_some, Option.map_none, Option.bind_some, Option.toList_some, List.map_cons, List.map_nil, List.cons_append, List.nil_append, List.append_eq]
    rfl
  repeat ((first
    | (refine Run.takes (v := ?_) ?_ ?_; rotate_left; (· intro w' hS'; (first | (have h1 := hS'.1; have h2 := hS'.2; go_simp; done) | (go_simp; (try with_reducible rfl)))))
    | (refine Run.takesG (v := ?_) ?_ ?_ ?_; rotate_left; (· simp only [List.getElem?_cons_zero, List.getElem?_cons_succ]); (· intro w' hS'; (first | (have h1 := hS'.1; have h2 := hS'.2; go_simp; done) | (go_simp; (try with_reducible rfl)))))
    | (refine Run.skipsT ?_ ?_; (· simp only [List.getElem?_cons_zero, List.getElem?_cons_succ]))
    | (refine Run.skipsF ?_ ?_; (· simp only [List.getElem?_cons_zero, List.getElem?_cons_succ]))
    | (refine Run.skipsU ?_ ?_; (· simp only [List.getElem?_cons_zero, List.getElem?_cons_succ]))
    | (refine Run.passT ?_ ?_; (· simp only [List.getElem?_cons_zero, List.getElem?_cons_succ]))
    | (refine Run.passF ?_ ?_; (· simp only [List.getElem?_cons_zero, List.getElem?_cons_succ]))
    | (refine Run.passU ?_ ?_; (· simp only [List.getElem?_cons_zero, List.getElem?_cons_succ]))
    | fail); simp only [Act.put, List.setIfInBounds_toArray, List.set_cons_zero, List.set_cons_succ])
  refine Run.ends (fun _ => ?_)
  clear hw64 hlz hkq hkq2 d1 d2 d0 dk hkl hcl hkS
  have HP3 := Lib.hid (HP2.out.keep HDR.out)
  have HK3 := Lib.hid (nest HK2.out HDR.out)
  have HV3 := Lib.hid (HQ5.out.keep HDR.out)
  have HC3 := Lib.hid (kc HDR.out HC0.out)
  have HLE : Hid (∀ i, i < L.length → w2.drew.cell? ⟨g2, o2 + i, none⟩ = some (.int .u32 (L.getD i 0))) := Lib.hid (fun i hi => HQ4.out i hi)
  clear HP2 HK2 HQ5 HC0 HDR HQ4
  generalize w2.drew = w3 at *
  have hmk := run_makeMap_none (P := Try.prog) (t := 39) Try.underlying39
  go_upto_region 6 with fail
  clear hmk
  have hX : Below w3.heap.size w3 (w3.alloc (.map #[] 0)) := more (Below.refl _ _) _
  have HLO0 := Lib.hid (LinksOld.made w w3)
  have HX := Lib.hid hX
  clear hX
  generalize w3.alloc (.map #[] 0) = w4 at *
  obtain ⟨gm, hgm⟩ : ∃ q, q = w3.heap.size := ⟨_, rfl⟩
  rw [← hgm] at HLO0 ⊢
  have HGM := Lib.hid hgm
  clear hgm
  have hl64 : L.length ≤ 64 := HO.out.2.2
  go_upto_block 99 with fail
  go_loopw [13] (fun iv wr => ∃ i : Nat, i ≤ L.length ∧ i ≤ F.length ∧ iv = .int .i64 i ∧ LinksOld w wr gm (kOf L F i) ∧ Below w3.heap.size w3 wr) (fun iv _ => L.length - (intOf iv).toNat)
  case atStart => exact ⟨0, Nat.zero_le _, Nat.zero_le _, rfl, HLO0.out, HX.out⟩
  case round =>
    obtain ⟨i, hiL, hiF, rfl, hlo, hk⟩ := hrel
    have HLO := Lib.hid hlo
    have HKI := Lib.hid hk
    have d0 := kc hk HC3.out
    clear hlo hk HLO0 HX
    by_cases hgo : i < L.length ∧ i < F.length
    · skip
      as_aux_lemma =>
        obtain ⟨h1, h2⟩ := hgo
        obtain ⟨gu, ou, rfl, hel⟩ := HAU.out (by omega)
        obtain ⟨uu, hcu0, hru, hbu⟩ := hel i h2
        obtain ⟨ax, cx, rfl, _, _⟩ := hru.form
        have e0 := kc (nest HK3.out HKI.out) hcu0
        have HRU := Lib.hid hru
        have HBU := Lib.hid hbu
        have f0 := kc HKI.out (HLE.out i h1)
        have HLI : Hid (0 ≤ L.getD i 0 ∧ L.getD i 0 ≤ 4294967295) := Lib.hid (HO.out.2.1 _ (by rw [show L.getD i 0 = L[i] by simp [List.getD, h1]]; exact List.getElem_mem h1))
        have HNEW := Lib.hid (kOf_new HO.out.1 F h1)
        obtain ⟨FS, hFS⟩ : ∃ q, q = F.getD i [] := ⟨_, rfl⟩
        rw [← hFS] at HRU HBU HNEW e0
        obtain ⟨li, hli⟩ : ∃ q, q = L.getD i 0 := ⟨_, rfl⟩
        rw [← hli] at HLI HNEW f0
        have h1i : (i : Int) < (L.length : Int) := by omega
        have h2i : (i : Int) < (F.length : Int) := by omega
        have hcl : (L.length : Int) ≤ c2 := by omega
        have hcf : (F.length : Int) ≤ cu := by omega
        have HILT : Hid (i < L.length ∧ i < F.length ∧ L.length ≤ 64) := Lib.hid ⟨h1, h2, hl64⟩
        clear hel hcu0 hru hbu hFS hli h1 h2
        by_cases h20 : 20 < FS.length
        · have h20i : (20 : Int) < (FS.length : Int) := by omega
          go_wp2_with (go_at_call 9; refine (grawake_any wr).mono ?_; rintro e w5 ⟨rfl, hk⟩)
          go_ret
          exact ⟨rfl, nest (nest HK3.out HKI.out) hk⟩
        have h20i : ¬ (20 : Int) < (FS.length : Int) := by omega
        clear h20
        go_upto_region 10 with fail
        clear h20i
        have d1 : wr.drew.cell? ⟨rr, 0, none⟩ = some (.slice (some ⟨g2, o2, none⟩) L.length c2) := d0
        have e1 : wr.drew.cell? ⟨gu, ou + i, none⟩ = some (.slice ax FS.length cx) := e0
        have f1 : wr.drew.cell? ⟨g2, o2 + i, none⟩ = some (.int .u32 li) := f0
        have HLO1 := Lib.hid (HLO.out.keep (Below.refl _ _).drew)
        have HKD : Hid (Below w3.heap.size w3 wr.drew) := Lib.hid HKI.out.drew
        refine Run.region_walk (S := fun z => z.cell? ⟨rr, 0, none⟩ = some (.slice (some ⟨g2, o2, none⟩) L.length c2) ∧ z.cell? ⟨gu, ou + i, none⟩ = some (.slice ax FS.length cx) ∧ z.cell? ⟨g2, o2 + i, none⟩ = some (.int .u32 li))
          lgways.rows10 lgways.plan10 (l := ?steps2) (by kernel_rfl) (by kernel_rfl) (by kernel_rfl) (by kernel_rfl) ?written2 ⟨d1, e1, f1⟩ ?onward2
        case written2 =>
          simp only [lgways.plan10, Run.stepsOf, Run.stepOf, Run.guardOf, List.getElem?_toArray, List.getElem?_cons_zero, List.getElem?_cons_succ, Option.map_some, Option.map_none, Option.bind_some, Option.toList_some, List.map_cons, List.map_nil, List.cons_append, List.nil_append, List.append_eq]
          rfl
        repeat ((first
          | (refine Run.takes (v := ?_) ?_ ?_; rotate_left; (· intro w' hS'; (first | (have h1 := hS'.1; have h2 := hS'.2.1; have h3 := hS'.2.2; go_simp; done) | (go_simp; (try with_reducible rfl)))))
          | (refine Run.takesG (v := ?_) ?_ ?_ ?_; rotate_left; (· simp only [List.getElem?_cons_zero, List.getElem?_cons_succ]); (· intro w' hS'; (first | (have h1 := hS'.1; have h2 := hS'.2.1; have h3 := hS'.2.2; go_simp; done) | (go_simp; (try with_reducible rfl)))))
          | (refine Run.skipsT ?_ ?_; (· simp only [List.getElem?_cons_zero, List.getElem?_cons_succ]))
          | (refine Run.skipsF ?_ ?_; (· simp only [List.getElem?_cons_zero, List.getElem?_cons_succ]))
          | (refine Run.skipsU ?_ ?_; (· simp only [List.getElem?_cons_zero, List.getElem?_cons_succ]))
          | (refine Run.passT ?_ ?_; (· simp only [List.getElem?_cons_zero, List.getElem?_cons_succ]))
          | (refine Run.passF ?_ ?_; (· simp only [List.getElem?_cons_zero, List.getElem?_cons_succ]))
          | (refine Run.passU ?_ ?_; (· simp only [List.getElem?_cons_zero, List.getElem?_cons_succ]))
          | fail); simp only [Act.put, List.setIfInBounds_toArray, List.set_cons_zero, List.set_cons_succ])
        obtain ⟨M, hm, hM2, hM3⟩ := HLO1.out
        have HMA := Lib.hid hm
        have HM2 := Lib.hid hM2
        have HM3 := Lib.hid hM3
        clear hm hM2 hM3 HLO HLO1
        refine Run.runs (Run.one (fun hS K1 hK1 => ?_))
        refine wp_store_map rfl u32K Try.underlying39 rfl HMA.out (li, (FS, .slice ax FS.length cx)) rfl rfl (u32key HLI.out) ?_
        intro z3 M3 hm3 hmem3 ho3
        have hcn : ∀ o y, wr.drew.cell? ⟨gm, o, none⟩ ≠ some y := fun o y e => by
          obtain ⟨es, clock, hb, _⟩ := HMA.out
          simp [World.cell?, hb] at e
        have ht3 : Turned (fun j => j = gm) wr.drew z3 := Turned.of_only ho3 rfl
        refine hK1.out _ _ ⟨ht3.cell d1 (fun e => hcn 0 _ (by rw [show rr = gm from e] at d1; exact d1)), ht3.cell e1 (fun e => hcn _ _ (by rw [show gu = gm from e] at e1; exact e1)), ht3.cell f1 (fun e => hcn _ _ (by rw [show g2 = gm from e] at f1; exact f1))⟩ ?_
        have HLN : Hid (LinksOld w z3 gm (kOf L F (i + 1))) := Lib.hid (LinksOld.lay HM2.out HM3.out hm3 hmem3 HLI.out HRU.out HBU.out HNEW.out.1 HNEW.out.2)
        have HK3' : Hid (Below w3.heap.size w3 z3) := Lib.hid (HKD.out.trans (ho3.below (by rw [HGM.out]; exact Nat.le_refl _) HKD.out.size))
        clear hK1 K1 hS hm3 hmem3 ho3 hcn ht3 d1 e1 f1 d0 e0 f0
        try simp only [Act.put, List.setIfInBounds_toArray, List.set_cons_zero, List.set_cons_succ]
        refine Run.ends (fun _ => ?_)
        go_wp2_with fail
        exact ⟨⟨i + 1, by have := HILT.out; omega, by have := HILT.out; omega, by have := HILT.out; go_num, HLN.out, HK3'.out⟩, by have := HILT.out; simp [intOf]; omega⟩
    · skip
      obtain ⟨wi, hwi⟩ : ∃ z, z = wr := ⟨_, rfl⟩
      subst hwi
      have HLI := Lib.hid (HLO.out.is (nest HK3.out HKI.out))
      obtain ⟨K, hK⟩ : ∃ q, q = kOf L F i := ⟨_, rfl⟩
      rw [← hK] at HLI
      have HPW := Lib.hid (HP3.out.keep HKI.out)
      have HWI := Lib.hid (way_is HO.out HBX.out K HPM.out)
      have HCP : Hid (L.contains p = true) := Lib.hid (by have := HPM.out; simpa using this)
      have HPB := Lib.hid (HO.out.2.1 p HPM.out)
      obtain ⟨W, hW⟩ : ∃ q, q = wayR L K x L.length p := ⟨_, rfl⟩
      have HWY : Hid (∀ z, Pr w.heap.size z r rr L L → LinksIs z (.map (some gm)) K → Calls Try.prog 15 #[.pointer (some ⟨r, 0, none⟩), .map (some gm), .int .u32 p, .int .u32 x] z fun e w' => ∃ q, e = .returned (.tuple #[q, .bool true]) ∧ Rd (intE .u32) w' q W ∧ Below z.heap.size z w') := Lib.hid (fun z hz hl => by
        have h1 := pr_way _ r rr L L z hz K (.map (some gm)) p x hl HPB.out HBX.out
        rw [HCP.out, if_pos rfl, ← hW] at h1
        exact h1)
      rw [← hW] at HWI
      obtain ⟨ow, how⟩ : ∃ q, q = (ownR L x).1 := ⟨_, rfl⟩
      rw [← how] at HWI
      have HOC := Lib.hid (rrowner_any rr L x wi HPW.out.two)
      rw [← how] at HOC
      generalize (ownR L x).2 = oi at HOC
      have HKW : Hid (Below w.heap.size w wi) := Lib.hid (nest HK3.out HKI.out)
      have HV := Lib.hid (HV3.out.keep HKI.out)
      have HCC := Lib.hid (kc HKI.out HC3.out)
      clear hK hW how HLO hiL hiF
      rcases (show ¬ (i : Int) < (L.length : Int) ∨ ((i : Int) < (L.length : Int) ∧ ¬ (i : Int) < (F.length : Int)) by omega) with q1 | ⟨q1, q2⟩
      all_goals
        go_upto_region 13 with (go_at_call 14; refine HOC.out.mono ?_; rintro e w5 ⟨rfl, hk5⟩)
        (try clear q1)
        (try clear q2)
        go_upto_region 14 with (go_at_call 15; refine (HWY.out w5 (HPW.out.keep hk5) (HLI.out.keep hk5)).mono ?_; rintro e w6 ⟨vx, rfl, hvx, hk6⟩)
        have HB6 : Hid (Below wi.heap.size wi w6) := Lib.hid (nest hk5 hk6)
        have HVX := Lib.hid hvx
        obtain ⟨ax, gx, ox, cx, rfl, hcx, hmx, hax, hex⟩ := Mem.Rd.loopI hvx
        have hmx' : cx ≤ 9223372036854775807 := hmx
        obtain ⟨rfl, _⟩ := hax HWI.out.1
        have HEX := Lib.hid hex
        have e0 := hex 0 HWI.out.1
        rw [HWI.out.2.2.1, Nat.add_zero] at e0
        have e1 := hex (W.length - 1) (by have := HWI.out.1; omega)
        rw [HWI.out.2.2.2.1] at e1
        have hw0 : ((W.length : Int) == 0) = false := beq_eq_false_iff_ne.2 (by have := HWI.out.1; omega)
        have hw1 : (0 : Int) < (W.length : Int) := by have := HWI.out.1; omega
        have hw2 : ¬ (L.length : Int) < (W.length : Int) := by have := HWI.out.2.1; omega
        have hw3 : (W.length : Int) ≤ (cx : Int) := by omega
        have hw4 : 0 < W.length := HWI.out.1
        have hw5 : wrap64 ((W.length : Int) - 1) = ((W.length - 1 : Nat) : Int) := by rw [IntWalk.wrap64_in _ (by omega)]; omega
        have hw6 : W.length - 1 < W.length := by omega
        have HE0 := Lib.hid e0
        have HE1 := Lib.hid e1
        clear hvx hk5 hk6 hmx hax hex
        go_upto_region 16 with (go_at_call 9; refine (grawake_any w6).mono ?_; rintro e w8 ⟨rfl, hk8⟩; have d0 := kc (nest HB6.out hk8) HCC.out; have e2 := kc hk8 HE0.out; have e3 := kc hk8 HE1.out)
        have HB8 : Hid (Below wi.heap.size wi w8) := Lib.hid (nest HB6.out hk8)
        have HK8 : Hid (Below w.heap.size w w8) := Lib.hid (nest HKW.out HB8.out)
        have HEX8 : Hid (∀ i, i < W.length → w8.cell? ⟨gx, ox + i, none⟩ = some (.int .u32 (W.getD i 0))) := Lib.hid (fun i hi => kc hk8 (HEX.out i hi))
        have HL8 := Lib.hid (HLI.out.keep HB8.out)
        have HR8 := Lib.hid (HPW.out.two.keep HB8.out)
        clear hk8 d0 e0 e1 e2 e3 hw0 hw1 hw2 hw5 hw6 HEX HE0 HE1 HCC HWY HOC
        go_upto_block 99 with fail
        go_loopw [18] (fun iv wr => ∃ j : Nat, 1 ≤ j ∧ j ≤ W.length ∧ iv = .int .i64 j ∧ Below w8.heap.size w8 wr) (fun iv _ => W.length - (intOf iv).toNat)
        case atStart => exact ⟨1, Nat.le_refl _, hw4, rfl, Below.refl _ _⟩
        case round =>
          obtain ⟨j, hj1, hjW, rfl, hk⟩ := hrel
          have HKJ := Lib.hid hk
          clear hk
          by_cases hlt : j < W.length
          · skip
            as_aux_lemma =>
              have hjl : (j : Int) < (W.length : Int) := by omega
              obtain ⟨k, hkj⟩ : ∃ k, j = k + 1 := ⟨j - 1, by omega⟩
              have HWJ := Lib.hid (HWI.out.2.2.2.2 j (by omega) hlt)
              have f0 := kc HKJ.out (HEX8.out (j - 1) (by omega))
              have f1 := kc HKJ.out (HEX8.out j hlt)
              obtain ⟨y, hy⟩ : ∃ q, q = W.getD (j - 1) 0 := ⟨_, rfl⟩
              obtain ⟨y1, hy1⟩ : ∃ q, q = W.getD j 0 := ⟨_, rfl⟩
              rw [← hy, ← hy1] at HWJ
              rw [← hy] at f0
              rw [← hy1] at f1
              have hjk : j - 1 = k := by omega
              rw [hjk] at f0
              have hkw : IntKind.i64.wrap ((j : Int) - 1) = (k : Int) := by rw [IntWalk.i64_in _ (by omega)]; omega
              have hkl : (k : Int) < (W.length : Int) := by omega
              have HYB := Lib.hid (HO.out.2.1 y HWJ.out.1)
              obtain ⟨uL, hlk, hul⟩ := (HL8.out.keep HKJ.out).lookAll HYB.out
              have hlk0 := hlk _ (Below.refl _ _)
              have HLK := Lib.hid hlk
              have HUL := Lib.hid hul
              obtain ⟨aL, cL, rfl, _, _⟩ := hul.form
              have HRJ := Lib.hid (HR8.out.keep HKJ.out)
              have HGO : Hid (∀ z, Below wr.heap.size wr z → Calls Try.prog 12 #[.pointer (some ⟨rr, 0, none⟩), .slice aL (K y).length cL, .int .u32 y, .int .u32 x] z fun e w' => e = .returned (.tuple #[.int .u32 y1, .bool true]) ∧ Below z.heap.size z w') := Lib.hid (fun z hz => by
                have h1 := rgo_any rr L (K y) _ y x z (HRJ.out.keep hz) (HUL.out.keep hz) HYB.out HBX.out
                rw [HWJ.out.2.1] at h1
                exact h1)
              have HJJ : Hid (j < W.length ∧ W.length ≤ 64) := Lib.hid ⟨hlt, by have := HWI.out.2.1; omega⟩
              have HNR : Hid ((j : Int) < (W.length : Int) - 1 → (x - y1) % 4294967296 < (x - y) % 4294967296) := Lib.hid (fun h => HWJ.out.2.2 (by omega))
              clear hy hy1 hlk hul hj1 hjW hlt hjk hkj hlk0
              go_upto_region 19 with fail
              have g0 : wr.drew.cell? ⟨gx, ox + k, none⟩ = some (.int .u32 y) := f0
              refine Run.region_walk (S := fun z => z.cell? ⟨gx, ox + k, none⟩ = some (.int .u32 y) ∧ Below wr.heap.size wr z)
                lgways.rows18 lgways.plan18b (l := ?_) (by kernel_rfl) (by kernel_rfl) (by kernel_rfl) (by kernel_rfl) ?_ ⟨g0, (Below.refl _ _).drew⟩ ?_
              rotate_left
              (· simp only [lgways.plan18b, Run.stepsOf, Run.stepOf, Run.guardOf, List.getElem?_toArray, List.getElem?_cons_zero, List.getElem?_cons_succ, Option.map_some, Option.map_none, Option.bind_some, Option.toList_some, List.map_cons, List.map_nil, List.cons_append, List.nil_append, List.append_eq]
                 rfl)
              repeat ((first
                | (refine Run.takes (v := ?_) ?_ ?_; rotate_left; (· intro w' hS'; (first | (refine exec_look1 (m := .tmp 149) (x := .tmp 154) (r := .slice aL (K y).length cL) (u := .map (some gm)) (k := .int .u32 y) (t := 39) ?_ ?_ ?_ (HLK.out _ hS'.2) <;> rfl) | (have h1 := hS'.1; go_simp; done) | (go_simp; (try with_reducible rfl)))))
                | (refine Run.takesG (v := ?_) ?_ ?_ ?_; rotate_left; (· simp only [List.getElem?_cons_zero, List.getElem?_cons_succ]); (· intro w' hS'; (first | (refine exec_look1 (m := .tmp 149) (x := .tmp 154) (r := .slice aL (K y).length cL) (u := .map (some gm)) (k := .int .u32 y) (t := 39) ?_ ?_ ?_ (HLK.out _ hS'.2) <;> rfl) | (have h1 := hS'.1; go_simp; done) | (go_simp; (try with_reducible rfl)))))
                | (refine Run.skipsT ?_ ?_; (· simp only [List.getElem?_cons_zero, List.getElem?_cons_succ]))
                | (refine Run.skipsF ?_ ?_; (· simp only [List.getElem?_cons_zero, List.getElem?_cons_succ]))
                | (refine Run.skipsU ?_ ?_; (· simp only [List.getElem?_cons_zero, List.getElem?_cons_succ]))
                | (refine Run.passT ?_ ?_; (· simp only [List.getElem?_cons_zero, List.getElem?_cons_succ]))
                | (refine Run.passF ?_ ?_; (· simp only [List.getElem?_cons_zero, List.getElem?_cons_succ]))
                | (refine Run.passU ?_ ?_; (· simp only [List.getElem?_cons_zero, List.getElem?_cons_succ]))
                | (refine Run.runs ?_
                   (first
                   | (refine Run.callF 12 (by kernel_rfl) (fun hS => HGO.out _ hS.2) rfl ?_)
                   | (refine Run.callG 12 (by kernel_rfl) ?_ (fun hS => HGO.out _ hS.2) rfl ?_; (· simp only [List.getElem?_cons_zero, List.getElem?_cons_succ]))
                   | fail)
                   (first
                   | (rintro hS e w' ⟨rfl, rfl⟩; refine ⟨_, rfl, hS, ?_⟩)
                   | (rintro hS e w' ⟨rfl, hb⟩; refine ⟨_, rfl, ⟨kc hb hS.1, nest hS.2 hb⟩, ?_⟩)
                   | fail))
                | fail); simp only [Act.put, List.setIfInBounds_toArray, List.set_cons_zero, List.set_cons_succ])
              refine Run.ends (fun hS => ?_)
              have HKZ := Lib.hid hS.2
              clear hS g0
              have g1 := kc HKZ.out f1
              have g2' := kc HKZ.out f0
              obtain ⟨m1, hm1⟩ : ∃ q, q = (W.length : Int) - 1 := ⟨_, rfl⟩
              have hmw : IntKind.i64.wrap ((W.length : Int) - 1) = m1 := by have := HJJ.out; rw [hm1, IntWalk.i64_in _ (by omega)]
              have HNM : Hid ((j : Int) < m1 → (x - y1) % 4294967296 < (x - y) % 4294967296) := Lib.hid (fun h => HNR.out (by omega))
              clear hm1 f0 f1
              by_cases hjm : (j : Int) < m1
              · have hge : ¬ IntKind.u32.wrap (x - y) ≤ IntKind.u32.wrap (x - y1) := by
                  have q1 : IntKind.u32.wrap (x - y) = (x - y) % 4294967296 := rfl
                  have q2 : IntKind.u32.wrap (x - y1) = (x - y1) % 4294967296 := rfl
                  have := HNM.out hjm
                  omega
                go_upto_region 20 with fail
                have g3 : w'.drew.cell? ⟨gx, ox + j, none⟩ = some (.int .u32 y1) := g1
                have g4 : w'.drew.cell? ⟨gx, ox + k, none⟩ = some (.int .u32 y) := g2'
                refine Run.region_walk (S := fun z => z.cell? ⟨gx, ox + j, none⟩ = some (.int .u32 y1) ∧ z.cell? ⟨gx, ox + k, none⟩ = some (.int .u32 y))
                  lgways.rows19 lgways.plan19 (l := ?_) (by kernel_rfl) (by kernel_rfl) (by kernel_rfl) (by kernel_rfl) ?_ ⟨g3, g4⟩ ?_
                rotate_left
                (· simp only [lgways.plan19, Run.stepsOf, Run.stepOf, Run.guardOf, List.getElem?_toArray, List.getElem?_cons_zero, List.getElem?_cons_succ, Option.map_some, Option.map_none, Option.bind_some, Option.toList_some, List.map_cons, List.map_nil, List.cons_append, List.nil_append, List.append_eq]
                   rfl)
                repeat ((first
                  | (refine Run.takes (v := ?_) ?_ ?_; rotate_left; (· intro w' hS'; (first | (have h1 := hS'.1; have h2 := hS'.2; go_simp; done) | (go_simp; (try with_reducible rfl)))))
                  | (refine Run.takesG (v := ?_) ?_ ?_ ?_; rotate_left; (· simp only [List.getElem?_cons_zero, List.getElem?_cons_succ]); (· intro w' hS'; (first | (have h1 := hS'.1; have h2 := hS'.2; go_simp; done) | (go_simp; (try with_reducible rfl)))))
                  | (refine Run.skipsT ?_ ?_; (· simp only [List.getElem?_cons_zero, List.getElem?_cons_succ]))
                  | (refine Run.skipsF ?_ ?_; (· simp only [List.getElem?_cons_zero, List.getElem?_cons_succ]))
                  | (refine Run.skipsU ?_ ?_; (· simp only [List.getElem?_cons_zero, List.getElem?_cons_succ]))
                  | (refine Run.passT ?_ ?_; (· simp only [List.getElem?_cons_zero, List.getElem?_cons_succ]))
                  | (refine Run.passF ?_ ?_; (· simp only [List.getElem?_cons_zero, List.getElem?_cons_succ]))
                  | (refine Run.passU ?_ ?_; (· simp only [List.getElem?_cons_zero, List.getElem?_cons_succ]))
                  | fail); simp only [Act.put, List.setIfInBounds_toArray, List.set_cons_zero, List.set_cons_succ])
                refine Run.ends (fun _ => ?_)
                clear g1 g2' g3 g4
                go_wp2_with fail
                exact ⟨⟨j + 1, by omega, by have := HJJ.out; omega, by have := HJJ.out; go_num, (nest HKJ.out HKZ.out).trans ((Below.refl _ _).drew.mono (nest HKJ.out HKZ.out).size)⟩, by have := HJJ.out; simp [intOf]; omega⟩
              · skip
                go_upto_region 20 with fail
                have g3 : w'.drew.cell? ⟨gx, ox + j, none⟩ = some (.int .u32 y1) := g1
                have g4 : w'.drew.cell? ⟨gx, ox + k, none⟩ = some (.int .u32 y) := g2'
                refine Run.region_walk (S := fun z => z.cell? ⟨gx, ox + j, none⟩ = some (.int .u32 y1) ∧ z.cell? ⟨gx, ox + k, none⟩ = some (.int .u32 y))
                  lgways.rows19 lgways.plan19 (l := ?_) (by kernel_rfl) (by kernel_rfl) (by kernel_rfl) (by kernel_rfl) ?_ ⟨g3, g4⟩ ?_
                rotate_left
                (· simp only [lgways.plan19, Run.stepsOf, Run.stepOf, Run.guardOf, List.getElem?_toArray, List.getElem?_cons_zero, List.getElem?_cons_succ, Option.map_some, Option.map_none, Option.bind_some, Option.toList_some, List.map_cons, List.map_nil, List.cons_append, List.nil_append, List.append_eq]
                   rfl)
                repeat ((first
                  | (refine Run.takes (v := ?_) ?_ ?_; rotate_left; (· intro w' hS'; (first | (have h1 := hS'.1; have h2 := hS'.2; go_simp; done) | (go_simp; (try with_reducible rfl)))))
                  | (refine Run.takesG (v := ?_) ?_ ?_ ?_; rotate_left; (· simp only [List.getElem?_cons_zero, List.getElem?_cons_succ]); (· intro w' hS'; (first | (have h1 := hS'.1; have h2 := hS'.2; go_simp; done) | (go_simp; (try with_reducible rfl)))))
                  | (refine Run.skipsT ?_ ?_; (· simp only [List.getElem?_cons_zero, List.getElem?_cons_succ]))
                  | (refine Run.skipsF ?_ ?_; (· simp only [List.getElem?_cons_zero, List.getElem?_cons_succ]))
                  | (refine Run.skipsU ?_ ?_; (· simp only [List.getElem?_cons_zero, List.getElem?_cons_succ]))
                  | (refine Run.passT ?_ ?_; (· simp only [List.getElem?_cons_zero, List.getElem?_cons_succ]))
                  | (refine Run.passF ?_ ?_; (· simp only [List.getElem?_cons_zero, List.getElem?_cons_succ]))
                  | (refine Run.passU ?_ ?_; (· simp only [List.getElem?_cons_zero, List.getElem?_cons_succ]))
                  | fail); simp only [Act.put, List.setIfInBounds_toArray, List.set_cons_zero, List.set_cons_succ])
                refine Run.ends (fun _ => ?_)
                clear g1 g2' g3 g4
                go_wp2_with fail
                exact ⟨⟨j + 1, by omega, by have := HJJ.out; omega, by have := HJJ.out; go_num, (nest HKJ.out HKZ.out).trans ((Below.refl _ _).drew.mono (nest HKJ.out HKZ.out).size)⟩, by have := HJJ.out; simp [intOf]; omega⟩
          · have hjl : ¬ (j : Int) < (W.length : Int) := by omega
            go_wp2_with fail
            go_ret
            exact ⟨rfl, nest HK8.out HKJ.out⟩
end Go.Proofs.Ytbhnpidbgckinaa.greedyWays
