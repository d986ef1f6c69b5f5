/- Walk of the law ShelfCuts. -/
import Derived.Test.YtmcnfndebmcapaaShAwake
set_option maxRecDepth 4000
namespace Go.Proofs.Ytmcnfndebmcapaa.shelfCuts
open Go.RowKit Mem
set_option linter.unusedSimpArgs false
set_option linter.unusedVariables false
attribute [local irreducible] Go.Calls

theorem back_all (f t g : Int) (J : List Ent) (hu : UniqK J) (hv : ∀ y ∈ J, okV y) (hn : J.length ≤ 10000) :
    joinL (restL f t J) (scanL f t J) = (restL f t J ++ scanL f t J, (scanL f t J).length) ∧ scanL g g (restL f t J ++ scanL f t J) = scanL g g J := by
  have hp := cut_perm f t J
  refine ⟨joinL_new _ _ (hu.perm hp.symm) ?_, ?_⟩
  · have := hp.length_eq
    rw [List.length_append] at this
    omega
  · exact (scanL_eq hu hv hp.symm).symm
theorem rest_len (f t g : Int) (J : List Ent) : ((restL f t J).length : Int) = ((scanL g g J).length : Int) - ((scanL f t J).length : Int) := by
  have h1 := (cut_perm f t J).length_eq
  have h2 := (scanL_whole g J).length_eq
  rw [List.length_append] at h1
  omega

set_option maxRecDepth 100000 in
set_option maxHeartbeats 4000000 in
theorem walk (v : Value) (l : List Ent) (f t : Int) (bf : 0 ≤ f ∧ f ≤ 4294967295) (bt : 0 ≤ t ∧ t ≤ 4294967295) (w : World) (h : entsK.rd w [v] l) :
    Calls Try.prog 5 #[v, .agg #[.int .u32 f, .int .u32 t]] w fun e w' => e = .returned (.bool true) ∧ Below w.heap.size w w' := by
  obtain ⟨hin, hbd⟩ := ents_of_kd h
  have hX := more (Below.refl w.heap.size w) (.cells #[.int .u32 f, .int .u32 t] 25)
  have HB3 := Lib.hid (Blk.new w 25 #[.int .u32 f, .int .u32 t])
  have HIN := Lib.hid (hin.keep hX)
  have HK := Lib.hid hX
  have HBD := Lib.hid hbd
  obtain ⟨a, g, off, c, rfl, _⟩ := hin.at
  clear h hX hin hbd
  go_enter Try.func5, Try.ntmps5
  go_upto_region 1 with fail
  generalize w.alloc (.cells #[.int .u32 f, .int .u32 t] 25) = w1 at *
  obtain ⟨g3, hg3⟩ : ∃ g, g = w.heap.size := ⟨_, rfl⟩
  have HG3 := Lib.hid hg3
  rw [← hg3] at HB3 ⊢
  clear hg3
  go_wp2_with fail
  refine (shfew_any _ _ l w1 HIN.out).mono ?_
  rintro e w2 ⟨rfl, hk⟩
  have HB32 := Lib.hid (HB3.out.keep hk)
  have HIN2 := Lib.hid (HIN.out.keep hk)
  have HK2 := Lib.hid (nest HK.out hk)
  clear hk HB3 HIN HK
  obtain ⟨fe, hfe⟩ : ∃ fe, fe = fewE l := ⟨_, rfl⟩
  rw [← hfe]
  cases fe with
  | false =>
    clear hfe
    go_wp2_with fail
    refine (shawake_any w2).mono ?_
    rintro e w3 ⟨rfl, hk⟩
    have HK3 := Lib.hid (nest HK2.out hk)
    clear hk
    go_wp2_with fail
    go_ret
    exact ⟨rfl, HK3.out⟩
  | true =>
    have hff := few_yes.1 hfe.symm
    have HLL : Hid (l.length ≤ 30) := Lib.hid hff.1
    have HOK : Hid (∀ y ∈ l, okE y) := Lib.hid (fun y hy => ⟨HBD.out y hy, by have := hff.2 y hy; omega⟩)
    clear hff hfe
    go_wp2_with fail
    refine (shnew_any w2).mono ?_
    rintro e w3 ⟨b, W, R, rfl, hp, hr, hk⟩
    have HP3 := Lib.hid (shf_new hp hr hk)
    have HB33 := Lib.hid (HB32.out.keep hk)
    have HIN3 := Lib.hid (HIN2.out.keep hk)
    have HK3 := Lib.hid (nest HK2.out hk)
    have HS3 : Hid (w.heap.size + 1 ≤ w2.heap.size) := Lib.hid (by have := HB32.out.lt; have := HG3.out; omega)
    clear hp hr hk HB32 HIN2 HK2
    go_wp2_with fail
    refine (shawake_any w3).mono ?_
    rintro e w4 ⟨rfl, hk⟩
    have HP4 := Lib.hid (HP3.out.keep hk)
    have HB34 := Lib.hid (HB33.out.keep hk)
    have HIN4 := Lib.hid (HIN3.out.keep hk)
    have HK4 := Lib.hid (nest HK3.out hk)
    clear hk HP3 HB33 HIN3 HK3
    go_wp2_with fail
    refine (shf_join _ b _ [] l _ w4 HP4.out HIN4.out (fun j hj => by have := HS3.out; omega) HOK.out (by have := HLL.out; omega)).mono ?_
    rintro e w5 ⟨rfl, hp, ht⟩
    have HP5 := Lib.hid hp
    have HB35 := Lib.hid (Blk.left HB34.out ht (by have := HS3.out; have := HG3.out; omega))
    have HK5 := Lib.hid (HK4.out.trans (Turned.left (B := w.heap.size) ht HK4.out.size (fun j hj => by have := HS3.out; omega)))
    clear hp ht HP4 HB34 HIN4 HK4
    obtain ⟨J, hJ⟩ : ∃ J, J = (joinL [] l).1 := ⟨_, rfl⟩
    rw [← hJ] at HP5
    have HU : Hid (UniqK J) := Lib.hid HP5.out.uniq
    have HE : Hid (∀ y ∈ J, okE y) := Lib.hid HP5.out.ok
    have HVV : Hid (∀ y ∈ J, okV y) := Lib.hid (fun y hy => (HE.out y hy).1.1)
    have HJL : Hid (J.length ≤ 30) := Lib.hid (by rw [hJ]; have := (joinL_count [] l).1; have := HLL.out; simp at *; omega)
    clear hJ
    have c30 : w5.cell? ⟨g3, 0, none⟩ = some (.int .u32 f) := HB35.out.cell 0
    go_upto_region 8 with fail
    have hX := more (Below.refl w5.heap.size w5) (.cells #[.int .u32 f, .int .u32 f] 25)
    have hP6 := HP5.out.free hX
    have HB6 := Lib.hid (Blk.new w5 25 #[.int .u32 f, .int .u32 f])
    have HB36 := Lib.hid (HB35.out.keep hX)
    have HK6 := Lib.hid (nest HK5.out hX)
    obtain ⟨N, hN⟩ : ∃ N : Nat → Prop, N = (fun j => j < w2.heap.size ∨ (w5.heap.size ≤ j ∧ j < (w5.alloc (.cells #[.int .u32 f, .int .u32 f] 25)).heap.size)) := ⟨_, rfl⟩
    rw [← hN] at hP6
    have HP6 := Lib.hid hP6
    have HNB : Hid (∀ j, j < w.heap.size → N j) := Lib.hid (by rw [hN]; exact fun j hj => .inl (by have := HS3.out; omega))
    have HN3 : Hid (N g3) := Lib.hid (by rw [hN]; exact .inl (by have := HS3.out; have := HG3.out; omega))
    have HN6 : Hid (N w5.heap.size) := Lib.hid (by rw [hN]; exact .inr ⟨Nat.le_refl _, HB6.out.lt⟩)
    clear hX hP6 hN HP5 HB35 HK5 c30
    generalize w5.alloc (.cells #[.int .u32 f, .int .u32 f] 25) = w6 at *
    obtain ⟨g6, hg6⟩ : ∃ g, g = w5.heap.size := ⟨_, rfl⟩
    rw [← hg6] at HB6 HN6 ⊢
    clear hg6
    have HBF := Lib.hid bf
    have HBT := Lib.hid bt
    go_upto_region 9 with (first | (refine at_load 6 rfl ?_; refine wpList_load_row rfl 25 (.tmp 6) rfl g6 rfl 25 _ (0, 0) _ HB6.out Try.underlying25 rfl span_info9 ?_) | (go_at_call 25; refine (shf_scan N b J f f _ HP6.out HBF.out HBF.out).mono ?_; rintro e w7 ⟨v7, Q7, rfl, hv7, hp7, hk7⟩))
    have HP7 := Lib.hid hp7
    have HV7 := Lib.hid hv7
    have HB67 := Lib.hid (HB6.out.keep hk7)
    have HB37 := Lib.hid (HB36.out.keep hk7)
    have HK7 := Lib.hid (nest HK6.out hk7)
    clear hp7 hv7 hk7 HP6 HB6 HB36 HK6
    go_upto_region 10 with (first | (refine at_load 3 rfl ?_; refine wpList_load_row rfl 25 (.tmp 3) rfl g3 rfl 25 _ (0, 0) _ HB37.out Try.underlying25 rfl span_info9 ?_) | (go_at_call 25; refine (shf_scan _ b J f t _ HP7.out HBF.out HBT.out).mono ?_; rintro e w8 ⟨v8, Q8, rfl, hv8, hp8, hk8⟩))
    have HP8 := Lib.hid hp8
    have HV8 := Lib.hid hv8
    have HV78 := Lib.hid (HV7.out.keep hk8)
    have HB68 := Lib.hid (HB67.out.keep hk8)
    have HB38 := Lib.hid (HB37.out.keep hk8)
    have HK8 := Lib.hid (nest HK7.out hk8)
    clear hp8 hv8 hk8 HP7 HV7 HB67 HB37 HK7
    go_upto_region 11 with (first | (refine at_load 3 rfl ?_; refine wpList_load_row rfl 25 (.tmp 3) rfl g3 rfl 25 _ (0, 0) _ HB38.out Try.underlying25 rfl span_info9 ?_) | (go_at_call 13; refine (shf_cut _ b J f t _ HP8.out HBF.out HBT.out).mono ?_; rintro e w9 ⟨v9, Q9, rfl, hv9, hp9, ht9⟩))
    have HP9 := Lib.hid hp9
    have HV9 := Lib.hid hv9
    have HV79 := Lib.hid (HV78.out.left ht9 (fun j hj => .inl (.inr hj)))
    have HV89 := Lib.hid (HV8.out.left ht9 (fun j hj => .inr hj))
    have HB69 := Lib.hid (Blk.left HB68.out ht9 (.inl (.inl HN6.out)))
    have HB39 := Lib.hid (Blk.left HB38.out ht9 (.inl (.inl HN3.out)))
    have HK9 := Lib.hid (HK8.out.trans (Turned.left (B := w.heap.size) ht9 HK8.out.size (fun j hj => .inl (.inl (HNB.out j hj)))))
    clear hp9 hv9 ht9 HP8 HV8 HV78 HB68 HB38 HK8
    have HOKM : Hid (∀ y ∈ scanL f t J, okE y) := Lib.hid (fun y hy => HE.out y (List.mem_filter.1 ((scanL_perm f t J).mem_iff.1 hy)).1)
    have HOKA : Hid (∀ y ∈ scanL f f J, entB y) := Lib.hid (fun y hy => (HE.out y ((scanL_whole f J).mem_iff.1 hy)).1)
    have HLEN := Lib.hid (rest_len f t f J)
    have HBACK := Lib.hid (back_all f t f J HU.out HVV.out (by have := HJL.out; omega))
    have HSR := Lib.hid (scanL_rest f t J)
    have HML : Hid ((scanL f t J).length ≤ 30) := Lib.hid (by have h1 := (cut_perm f t J).length_eq; rw [List.length_append] at h1; have := HJL.out; omega)
    have HAL : Hid ((scanL f f J).length ≤ 30) := Lib.hid (by have h1 := (scanL_whole f J).length_eq; have := HJL.out; omega)
    obtain ⟨M, hM⟩ : ∃ M, M = scanL f t J := ⟨_, rfl⟩
    obtain ⟨A, hA⟩ : ∃ A, A = scanL f f J := ⟨_, rfl⟩
    obtain ⟨RR, hR⟩ : ∃ RR, RR = restL f t J := ⟨_, rfl⟩
    rw [← hM] at HV9 HV89 HOKM HLEN HBACK HML
    rw [← hA] at HV79 HOKA HLEN HBACK HAL
    rw [← hR] at HP9 HLEN HBACK HSR
    clear hM hA hR
    obtain ⟨a7, g7, o7, c7, rfl, hc7, hm7, _, _⟩ := HV79.out.at
    obtain ⟨a8, g8, o8, c8, rfl, _, _, _, _⟩ := HV89.out.at
    obtain ⟨a9, g9, o9, c9, rfl, hc9, hm9, _, _⟩ := HV9.out.at
    have hlen : (RR.length : Int) = (A.length : Int) - (M.length : Int) := HLEN.out
    have hwl : IntKind.i64.wrap ((A.length : Int) - (M.length : Int)) = (RR.length : Int) := by rw [hlen]; exact IntWalk.i64_in _ (by have := HAL.out; have := HML.out; omega)
    have hwl2 : wrap64 ((A.length : Int) - (M.length : Int)) = (RR.length : Int) := by rw [hlen]; have := HAL.out; have := HML.out; unfold wrap64; omega
    refine Run.region_seq (S := fun z => Blk z g3 25 #[.int .u32 f, .int .u32 t] ∧ Blk z g6 25 #[.int .u32 f, .int .u32 f] ∧ Below w9.heap.size w9 z)
      [0, 0, 1, 0, 0, 0, 0, 1, 0, 0, 0, 0, 0, 1, 0, 0, 0, 0, 0, 0, 0] (l := ?_) ?_ ⟨HB39.out, HB69.out, Below.refl _ _⟩ ?_
    rotate_left
    (· simp only [Run.seqOf, List.toList_toArray, Run.stepsOf, Run.stepOf, Run.guardOf, List.getElem?_toArray, List.getElem?_cons_zero, List.getElem?_cons_succ, Option.map_some, Option.map_none, Option.bind_some, Option.toList_some, List.map_cons, List.map_nil, List.cons_append, List.nil_append, List.append_eq]
       rfl)
    repeat ((first
      | (refine Run.takes (v := ?_) ?_ ?_; rotate_left; (· intro w' hS'; (first | (refine exec_load_blk (n := 2) (x := .tmp 3) (l := [.int .u32 f, .int .u32 t]) ?_ Try.underlying25 span_info9 ?_ ?_ hS'.1 <;> rfl) | (go_simp; (try with_reducible rfl)))))
      | (refine Run.takesG (v := ?_) ?_ ?_ ?_; rotate_left; (· simp only [List.getElem?_cons_zero, List.getElem?_cons_succ]); (· intro w' hS'; (first | (refine exec_load_blk (n := 2) (x := .tmp 3) (l := [.int .u32 f, .int .u32 t]) ?_ Try.underlying25 span_info9 ?_ ?_ hS'.1 <;> rfl) | (go_simp; (try with_reducible rfl)))))
      | (refine Run.skipsT ?_ ?_; (· simp only [List.getElem?_cons_zero, List.getElem?_cons_succ]))
      | (refine Run.skipsF ?_ ?_; (· simp only [List.getElem?_cons_zero, List.getElem?_cons_succ]))
      | (refine Run.skipsU ?_ ?_; (· simp only [List.getElem?_cons_zero, List.getElem?_cons_succ]))
      | (refine Run.passT ?_ ?_; (· simp only [List.getElem?_cons_zero, List.getElem?_cons_succ]))
      | (refine Run.passF ?_ ?_; (· simp only [List.getElem?_cons_zero, List.getElem?_cons_succ]))
      | (refine Run.passU ?_ ?_; (· simp only [List.getElem?_cons_zero, List.getElem?_cons_succ]))
      | (refine Run.runs ?_
         (first
         | (refine Run.callF 12 (by kernel_rfl) (fun hS => entries_yes _ _ M _ (HV9.out.keep hS.2.2) (HV89.out.keep hS.2.2) (fun y hy => (HOKM.out y hy).1)) rfl ?_)
         | (refine Run.callG 12 (by kernel_rfl) ?_ (fun hS => entries_yes _ _ M _ (HV9.out.keep hS.2.2) (HV89.out.keep hS.2.2) (fun y hy => (HOKM.out y hy).1)) rfl ?_; (· simp only [List.getElem?_cons_zero, List.getElem?_cons_succ]))
         | (refine Run.callF 25 (by kernel_rfl) (fun hS => shf_scan _ b RR f t _ (HP9.out.keep hS.2.2) HBF.out HBT.out) rfl ?_)
         | (refine Run.callG 25 (by kernel_rfl) ?_ (fun hS => shf_scan _ b RR f t _ (HP9.out.keep hS.2.2) HBF.out HBT.out) rfl ?_; (· simp only [List.getElem?_cons_zero, List.getElem?_cons_succ]))
         | (refine Run.callF 20 (by kernel_rfl) (fun hS => shf_len _ b RR _ (HP9.out.keep hS.2.2)) rfl ?_)
         | (refine Run.callG 20 (by kernel_rfl) ?_ (fun hS => shf_len _ b RR _ (HP9.out.keep hS.2.2)) rfl ?_; (· simp only [List.getElem?_cons_zero, List.getElem?_cons_succ]))
         | fail)
         (first
         | (rintro hS e w' ⟨vq, Qq, rfl, hvq, _, hb⟩; rw [HSR.out] at hvq; obtain ⟨aq, gq, oq, cq, rfl, _⟩ := hvq.at; refine ⟨_, rfl, ⟨hS.1.keep hb, hS.2.1.keep hb, nest hS.2.2 hb⟩, ?_⟩; clear hvq)
         | (rintro hS e w' ⟨rfl, rfl⟩; refine ⟨_, rfl, hS, ?_⟩)
         | (rintro hS e w' ⟨rfl, hb⟩; refine ⟨_, rfl, ⟨hS.1.keep hb, hS.2.1.keep hb, nest hS.2.2 hb⟩, ?_⟩)
         | fail))
      | fail); simp only [Act.put, List.setIfInBounds_toArray, List.set_cons_zero, List.set_cons_succ])
    refine Run.ends (fun hS => ?_)
    obtain ⟨w10, hw10⟩ : ∃ z, z = w' := ⟨_, rfl⟩
    subst hw10
    have HP10 := Lib.hid (HP9.out.keep hS.2.2)
    have HV910 := Lib.hid (HV9.out.keep hS.2.2)
    have HV710 := Lib.hid (HV79.out.keep hS.2.2)
    have HB610 := Lib.hid hS.2.1
    have HK10 := Lib.hid (nest HK9.out hS.2.2)
    clear hS HP9 HV9 HV79 HV89 HB69 HB39 HK9 hlen hwl hwl2
    go_wp2_with fail
    refine (shf_join _ b Q9 RR M _ w10 HP10.out HV910.out (fun j hj => .inr hj) HOKM.out (by have := HML.out; omega)).mono ?_
    rw [HBACK.out.1]
    rintro e w11 ⟨rfl, hp, ht⟩
    have HP11 := Lib.hid hp
    have HV711 := Lib.hid (HV710.out.left ht (fun j hj => .inl (.inl (.inr hj))))
    have HB611 := Lib.hid (Blk.left HB610.out ht (.inl (.inl (.inl HN6.out))))
    have HK11 := Lib.hid (HK10.out.trans (Turned.left (B := w.heap.size) ht HK10.out.size (fun j hj => .inl (.inl (.inl (HNB.out j hj))))))
    clear hp ht HP10 HV910 HV710 HB610 HK10
    have s0 : w11.cell? ⟨g6, 0, none⟩ = some (.int .u32 f) := HB611.out.cell 0
    have s1 : w11.cell? ⟨g6, 1, none⟩ = some (.int .u32 f) := HB611.out.cell 1
    go_wp2_with fail
    refine (shf_scan _ b _ f f w11 HP11.out HBF.out HBF.out).mono ?_
    rw [HBACK.out.2]
    rintro e w12 ⟨v12, Q12, rfl, hv12, _, hk⟩
    have HV12 := Lib.hid hv12
    have HV712 := Lib.hid (HV711.out.keep hk)
    have HK12 := Lib.hid (nest HK11.out hk)
    obtain ⟨a12, g12, o12, c12, rfl, _⟩ := hv12.at
    clear hv12 hk s0 s1 HP11 HV711 HB611 HK11
    go_wp2_with fail
    refine (entries_yes _ _ A w12 HV12.out HV712.out HOKA.out).mono ?_
    rintro e w13 ⟨rfl, hk⟩
    have HK13 := Lib.hid (nest HK12.out hk)
    clear hk HV12 HV712 HK12
    go_wp2_with fail
    go_ret
    exact ⟨rfl, HK13.out⟩
end Go.Proofs.Ytmcnfndebmcapaa.shelfCuts
