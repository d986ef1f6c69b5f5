/- Walk of the law DensitySplits. -/
import Derived.Test.YtpfdmjgojpngjaaDnLaw
import Derived.Test.YtpfdmjgojpngjaaDnMath2
import Derived.Deep.RegionHeld3
set_option maxRecDepth 4000
namespace Go.Proofs.Ytpfdmjgojpngjaa.densitySplits
open Go.RowKit Mem Cir
set_option linter.unusedSimpArgs false
set_option linter.unusedVariables false
attribute [local irreducible] Go.Calls

set_option maxRecDepth 100000 in
set_option maxHeartbeats 8000000 in
theorem walk (D : List Int) (hD : okD D) (f t : Int) (bf : 0 ≤ f ∧ f ≤ 4294967295) (bt : 0 ≤ t ∧ t ≤ 4294967295) (x : Int) (bx : 0 ≤ x ∧ x ≤ 4294967295) (w : World) :
    Calls Try.prog 7 #[.agg (dcs D).toArray, .agg #[.int .u32 f, .int .u32 t], .int .u32 x] w fun e w' => e = .returned (.bool true) ∧ Below w.heap.size w w' := by
  have HD := Lib.hid hD
  have HDL : Hid (D.length = 16) := Lib.hid hD.1
  have HBF := Lib.hid bf
  have HBT := Lib.hid bt
  have HBX := Lib.hid bx
  clear hD bf bt
  go_enter Try.func7, Try.ntmps7
  go_upto_region 1 with fail
  obtain ⟨W, hW⟩ : ∃ W, W = (w.alloc (.cells (dcs D).toArray 24)).alloc (.cells #[.int .u32 f, .int .u32 t] 28) := ⟨_, rfl⟩
  have HK : Hid (Below w.heap.size w W) := Lib.hid (hW ▸ more (more (Below.refl _ _) _) _)
  have HG : Hid (Blk W w.heap.size 24 (dcs D).toArray) := Lib.hid (by rw [hW]; exact (Blk.new w _ _).keep (more (Below.refl _ _) _))
  have HR : Hid (Blk W (w.heap.size + 1) 28 #[.int .u32 f, .int .u32 t]) := Lib.hid (by rw [hW]; exact Blk.newAt _ _ _ (by rw [size_alloc]))
  rw [← hW]
  obtain ⟨r, hr⟩ : ∃ r, r = w.heap.size + 1 := ⟨_, rfl⟩
  obtain ⟨g, hg⟩ : ∃ g, g = w.heap.size := ⟨_, rfl⟩
  rw [← hr] at HR ⊢
  rw [← hg] at HG ⊢
  clear hW hr hg
  have c0 := HR.out.cell 0
  have c1 := HR.out.cell 1
  go_upto_region 2 with fail
  obtain ⟨E, hE⟩ : ∃ E, E = (x * 268435456 % 4294967296 - 1) % 4294967296 := ⟨_, rfl⟩
  have HEE : Hid (E = (268435456 * (x % 16) - 1) % 4294967296) := Lib.hid (by omega)
  have HEB : Hid (0 ≤ E ∧ E ≤ 4294967295) := Lib.hid (by omega)
  rw [← hE]
  clear hE bx
  have HHAS := Lib.hid (rhas_any f t E HBF.out HBT.out HEB.out W)
  have hdec : Hid (decide (beh f E ≤ beh f t) = true → (E - f - 1) % 4294967296 + 1 ≤ (t - f - 1) % 4294967296 + 1) := Lib.hid (by
    rw [decide_eq_true_iff]
    unfold beh
    omega)
  obtain ⟨hb, hhb⟩ : ∃ b, b = decide (beh f E ≤ beh f t) := ⟨_, rfl⟩
  rw [← hhb] at HHAS hdec
  clear hhb
  cases hb with
  | false =>
    go_upto_region 3 with (go_at_call 22; refine HHAS.out.mono ?_; rintro e w1 ⟨rfl, hk⟩)
    have HK1 := Lib.hid (nest HK.out hk)
    clear hk c0 c1
    go_wp2_with (go_at_call 9; refine (dawake_any w1).mono ?_; rintro e w2 ⟨rfl, hk⟩)
    go_ret
    exact ⟨rfl, nest HK1.out hk⟩
  | true =>
    have HIN := Lib.hid (hdec.out rfl)
    clear hdec
    by_cases het : E = t
    · have HET := Lib.hid het
      have het2 : (E == t) = true := by simpa using het
      clear het
      go_upto_region 3 with (go_at_call 22; refine HHAS.out.mono ?_; rintro e w1 ⟨rfl, hk⟩; have c1' : w1.cell? ⟨r, 1, none⟩ = some (.int .u32 t) := kc hk c1)
      have HK1 := Lib.hid (nest HK.out hk)
      clear hk c0 c1 c1'
      go_wp2_with (go_at_call 9; refine (dawake_any w1).mono ?_; rintro e w2 ⟨rfl, hk⟩)
      go_ret
      exact ⟨rfl, nest HK1.out hk⟩
    · have het2 : (E == t) = false := beq_eq_false_iff_ne.2 het
      go_upto_region 4 with (go_at_call 22; refine HHAS.out.mono ?_; rintro e w1 ⟨rfl, hk⟩; have c1' : w1.cell? ⟨r, 1, none⟩ = some (.int .u32 t) := kc hk c1)
      have HK1 := Lib.hid (nest HK.out hk)
      have HG1 := Lib.hid (HG.out.keep hk)
      have HR1 := Lib.hid (HR.out.keep hk)
      clear hk c0 c1 c1' HK HG HR HHAS
      have c0 : w1.cell? ⟨r, 0, none⟩ = some (.int .u32 f) := HR1.out.cell 0
      have c1 : w1.cell? ⟨r, 1, none⟩ = some (.int .u32 t) := HR1.out.cell 1
      go_region_held3 (fun z => z.cell? ⟨r, 0, none⟩ = some (.int .u32 f) ∧ z.cell? ⟨r, 1, none⟩ = some (.int .u32 t) ∧ Below w1.heap.size w1 z)
        (first | assumption | (suffices hB : Below w1.heap.size w1 _ from ⟨kc hB c0, kc hB c1, hB⟩; repeat (first | exact Below.refl _ _ | refine Below.drew ?_ | refine more ?_ _ | refine Below.alloc ?_ (by simp) _ | refine Below.setCell ?_ (by simp) _)))
        (first | fail)
      · skip
        obtain ⟨Z, hZ⟩ : ∃ Z, Z = ((w1.alloc (.cells #[.int .u32 f, .int .u32 E] 28)).alloc (.cells #[.int .u32 E, .int .u32 t] 28)).drew := ⟨_, rfl⟩
        have HZ : Hid (Below w1.heap.size w1 Z) := Lib.hid (hZ ▸ (more (more (Below.refl _ _) _) _).drew)
        have HP : Hid (Blk Z w1.heap.size 28 #[.int .u32 f, .int .u32 E]) := Lib.hid (by rw [hZ]; exact (Blk.new w1 _ _).keep (more (Below.refl _ _) _).drew)
        have HQ : Hid (Blk Z (w1.heap.size + 1) 28 #[.int .u32 E, .int .u32 t]) := Lib.hid (by rw [hZ]; exact Blk.keep (Blk.newAt _ _ _ (by rw [size_alloc])) (Below.refl _ _).drew)
        rw [← hZ]
        obtain ⟨q, hq⟩ : ∃ q, q = w1.heap.size + 1 := ⟨_, rfl⟩
        obtain ⟨p, hp⟩ : ∃ p, p = w1.heap.size := ⟨_, rfl⟩
        rw [← hq] at HQ ⊢
        rw [← hp] at HP ⊢
        clear hZ hq hp
        as_aux_lemma =>
          have HK2 := Lib.hid (nest HK1.out HZ.out)
          have HG2 := Lib.hid (HG1.out.keep HZ.out)
          have HR2 := Lib.hid (HR1.out.keep HZ.out)
          clear c0 c1 HZ HK1 HG1 HR1
          have c0 : Z.cell? ⟨r, 0, none⟩ = some (.int .u32 f) := HR2.out.cell 0
          have c1 : Z.cell? ⟨r, 1, none⟩ = some (.int .u32 t) := HR2.out.cell 1
          by_cases hne : f = t
          · have hne2 : (f == t) = true := by simpa using hne
            have HAL := Lib.hid (fun z => dall_any D HD.out z)
            have HWI := Lib.hid (fun z => dwithin_any D f t HD.out HBF.out HBT.out z)
            have HWQ : Hid (withD D (f, t) = allD D) := Lib.hid (by rw [← hne]; exact with_whole HD.out f HBF.out)
            rw [HWQ.out] at HWI
            clear hne
            go_upto_region 6 with fail
            clear c0 c1
            refine Run.region_walk (S := fun z => Below Z.heap.size Z z)
              ldsplits.rows6 ldsplits.plan6 (l := ?_) (by kernel_rfl) (by kernel_rfl) (by kernel_rfl) (by kernel_rfl) ?_ (Below.refl _ _).drew ?_
            rotate_left
            (· simp only [ldsplits.plan6, Run.stepsOf, Run.stepOf, Run.guardOf, List.getElem?_toArray, List.getElem?_cons_zero, List.getElem?_cons_succ, Option.map_some, Option.map_none, Option.bind_some, Option.toList_some, List.map_cons, List.map_nil, List.cons_append, List.nil_append, List.append_eq]
               rfl)
            repeat ((first
              | (refine Run.takes (v := ?_) ?_ ?_; rotate_left; (· intro w' hS'; (first | (refine exec_load_arr (n := 16) (x := .tmp 3) (l := dcs D) ?_ Try.underlying24 den_i (by rw [dcs_len]; exact HDL.out) ?_ (HG2.out.keep hS') <;> rfl) | (refine exec_load_blk (n := 2) (x := .tmp 4) (l := [.int .u32 f, .int .u32 t]) ?_ Try.underlying28 spn_info ?_ ?_ (HR2.out.keep hS') <;> rfl) | (go_simp; (try with_reducible rfl)))))
              | (refine Run.takesG (v := ?_) ?_ ?_ ?_; rotate_left; (· simp only [List.getElem?_cons_zero, List.getElem?_cons_succ]); (· intro w' hS'; (first | (refine exec_load_arr (n := 16) (x := .tmp 3) (l := dcs D) ?_ Try.underlying24 den_i (by rw [dcs_len]; exact HDL.out) ?_ (HG2.out.keep hS') <;> rfl) | (refine exec_load_blk (n := 2) (x := .tmp 4) (l := [.int .u32 f, .int .u32 t]) ?_ Try.underlying28 spn_info ?_ ?_ (HR2.out.keep hS') <;> rfl) | (go_simp; (try with_reducible rfl)))))
              | (refine Run.skipsT ?_ ?_; (· simp only [List.getElem?_cons_zero, List.getElem?_cons_succ]))
              | (refine Run.skipsF ?_ ?_; (· simp only [List.getElem?_cons_zero, List.getElem?_cons_succ]))
              | (refine Run.skipsU ?_ ?_; (· simp only [List.getElem?_cons_zero, List.getElem?_cons_succ]))
              | (refine Run.passT ?_ ?_; (· simp only [List.getElem?_cons_zero, List.getElem?_cons_succ]))
              | (refine Run.passF ?_ ?_; (· simp only [List.getElem?_cons_zero, List.getElem?_cons_succ]))
              | (refine Run.passU ?_ ?_; (· simp only [List.getElem?_cons_zero, List.getElem?_cons_succ]))
              | (refine Run.runs ?_
                 (first
                 | (refine Run.callF 9 (by kernel_rfl) (fun hS => dawake_any _) rfl ?_)
                 | (refine Run.callG 9 (by kernel_rfl) ?_ (fun hS => dawake_any _) rfl ?_; (· simp only [List.getElem?_cons_zero, List.getElem?_cons_succ]))
                 | (refine Run.callF 13 (by kernel_rfl) (fun hS => HAL.out _) rfl ?_)
                 | (refine Run.callG 13 (by kernel_rfl) ?_ (fun hS => HAL.out _) rfl ?_; (· simp only [List.getElem?_cons_zero, List.getElem?_cons_succ]))
                 | (refine Run.callF 19 (by kernel_rfl) (fun hS => HWI.out _) rfl ?_)
                 | (refine Run.callG 19 (by kernel_rfl) ?_ (fun hS => HWI.out _) rfl ?_; (· simp only [List.getElem?_cons_zero, List.getElem?_cons_succ]))
                 | fail)
                 (first
                 | (rintro hS e w' ⟨rfl, rfl⟩; refine ⟨_, rfl, hS, ?_⟩)
                 | (rintro hS e w' ⟨rfl, hb⟩; refine ⟨_, rfl, nest hS hb, ?_⟩)
                 | fail))
              | fail); simp only [Act.put, List.setIfInBounds_toArray, List.set_cons_zero, List.set_cons_succ])
            refine Run.ends (fun hS => ?_)
            have HK5 := Lib.hid (nest HK2.out hS)
            clear hS
            go_wp2_with fail
            go_ret
            exact ⟨rfl, HK5.out⟩
          · have hne2 : (f == t) = false := beq_eq_false_iff_ne.2 hne
            have HNE := Lib.hid hne
            have HET := Lib.hid het
            clear hne het
            have HSZ := Lib.hid (fun z => rsize_any f t HBF.out HBT.out z)
            have HW1 := Lib.hid (fun z => dwithin_any D f E HD.out HBF.out HEB.out z)
            have HW2 := Lib.hid (fun z => dwithin_any D E t HD.out HEB.out HBT.out z)
            have HW3 := Lib.hid (fun z => dwithin_any D f t HD.out HBF.out HBT.out z)
            have HCUT : Hid (¬ (f / 268435456 = t / 268435456 ∧ beh f t > 2147483648) → IntKind.u64.wrap (withD D (f, E) + withD D (E, t)) = withD D (f, t)) := Lib.hid (fun hq => by
              have e := with_cut HD.out f t (x % 16) HBF.out HBT.out (by omega) E HEE.out HNE.out HET.out HIN.out (by rw [show (t - f - 1) % 4294967296 + 1 = beh f t by unfold beh; rfl]; exact hq)
              have b1 := with_le HD.out (f, t) HBF.out HBT.out
              have b2 := with_le HD.out (f, E) HBF.out HEB.out
              have b3 := with_le HD.out (E, t) HEB.out HBT.out
              have b4 := HD.out.all_bd
              rw [IntKind.wrap_u64, e]
              omega)
            obtain ⟨sz, hsz⟩ : ∃ s, s = beh f t := ⟨_, rfl⟩
            rw [← hsz] at HSZ HCUT
            clear hsz
            generalize withD D (f, E) = i1 at *
            generalize withD D (E, t) = i2 at *
            generalize withD D (f, t) = i3 at *
            by_cases hfb : f / 268435456 = t / 268435456
            · have hfb2 : (f / 268435456 == t / 268435456) = true := by simpa using hfb
              have HFB := Lib.hid hfb
              clear hfb
              by_cases hbig : sz > 2147483648
              · go_upto_region 7 with fail
                refine Run.region_seq (S := fun z => z.cell? ⟨r, 0, none⟩ = some (.int .u32 f) ∧ z.cell? ⟨r, 1, none⟩ = some (.int .u32 t) ∧ Below Z.heap.size Z z)
                  [0, 0, 0, 0, 0, 0, 0, 0, 0, 1, 0, 0] (l := ?_) ?_ ⟨c0, c1, Below.refl _ _⟩ ?_
                rotate_left
                (· simp only [Run.seqOf, List.toList_toArray, Run.stepsOf, Run.stepOf, Run.guardOf, List.getElem?_toArray, List.getElem?_cons_zero, List.getElem?_cons_succ, Option.map_some, Option.map_none, Option.bind_some, Option.toList_some, List.map_cons, List.map_nil, List.cons_append, List.nil_append, List.append_eq]
                   rfl)
                repeat ((first
                  | (refine Run.takes (v := ?_) ?_ ?_; rotate_left; (· intro w' hS'; (first | (have h1 := hS'.1; have h2 := hS'.2.1; go_simp; done) | (go_simp; (try with_reducible rfl)))))
                  | (refine Run.takesG (v := ?_) ?_ ?_ ?_; rotate_left; (· simp only [List.getElem?_cons_zero, List.getElem?_cons_succ]); (· intro w' hS'; (first | (have h1 := hS'.1; have h2 := hS'.2.1; go_simp; done) | (go_simp; (try with_reducible rfl)))))
                  | (refine Run.skipsT ?_ ?_; (· simp only [List.getElem?_cons_zero, List.getElem?_cons_succ]))
                  | (refine Run.skipsF ?_ ?_; (· simp only [List.getElem?_cons_zero, List.getElem?_cons_succ]))
                  | (refine Run.skipsU ?_ ?_; (· simp only [List.getElem?_cons_zero, List.getElem?_cons_succ]))
                  | (refine Run.passT ?_ ?_; (· simp only [List.getElem?_cons_zero, List.getElem?_cons_succ]))
                  | (refine Run.passF ?_ ?_; (· simp only [List.getElem?_cons_zero, List.getElem?_cons_succ]))
                  | (refine Run.passU ?_ ?_; (· simp only [List.getElem?_cons_zero, List.getElem?_cons_succ]))
                  | (refine Run.runs ?_
                     (first
                     | (refine Run.callF 23 (by kernel_rfl) (fun hS => HSZ.out _) rfl ?_)
                     | (refine Run.callG 23 (by kernel_rfl) ?_ (fun hS => HSZ.out _) rfl ?_; (· simp only [List.getElem?_cons_zero, List.getElem?_cons_succ]))
                     | fail)
                     (first
                     | (rintro hS e w' ⟨rfl, rfl⟩; refine ⟨_, rfl, hS, ?_⟩)
                     | (rintro hS e w' ⟨rfl, hb⟩; refine ⟨_, rfl, ⟨kc hb hS.1, kc hb hS.2.1, nest hS.2.2 hb⟩, ?_⟩)
                     | fail))
                  | fail); simp only [Act.put, List.setIfInBounds_toArray, List.set_cons_zero, List.set_cons_succ])
                refine Run.ends (fun hS => ?_)
                have HK5 := Lib.hid (nest HK2.out hS.2.2)
                clear hS c0 c1
                go_wp2_with (go_at_call 9; refine (dawake_any _).mono ?_; rintro e w2 ⟨rfl, hk⟩)
                go_ret
                exact ⟨rfl, nest HK5.out hk⟩
              · have hsum := HCUT.out (fun h => hbig h.2)
                go_upto_region 7 with fail
                refine Run.region_seq (S := fun z => z.cell? ⟨r, 0, none⟩ = some (.int .u32 f) ∧ z.cell? ⟨r, 1, none⟩ = some (.int .u32 t) ∧ Below Z.heap.size Z z)
                  [0, 0, 0, 0, 0, 0, 0, 0, 0, 1, 0, 0] (l := ?_) ?_ ⟨c0, c1, Below.refl _ _⟩ ?_
                rotate_left
                (· simp only [Run.seqOf, List.toList_toArray, Run.stepsOf, Run.stepOf, Run.guardOf, List.getElem?_toArray, List.getElem?_cons_zero, List.getElem?_cons_succ, Option.map_some, Option.map_none, Option.bind_some, Option.toList_some, List.map_cons, List.map_nil, List.cons_append, List.nil_append, List.append_eq]
                   rfl)
                repeat ((first
                  | (refine Run.takes (v := ?_) ?_ ?_; rotate_left; (· intro w' hS'; (first | (have h1 := hS'.1; have h2 := hS'.2.1; go_simp; done) | (go_simp; (try with_reducible rfl)))))
                  | (refine Run.takesG (v := ?_) ?_ ?_ ?_; rotate_left; (· simp only [List.getElem?_cons_zero, List.getElem?_cons_succ]); (· intro w' hS'; (first | (have h1 := hS'.1; have h2 := hS'.2.1; go_simp; done) | (go_simp; (try with_reducible rfl)))))
                  | (refine Run.skipsT ?_ ?_; (· simp only [List.getElem?_cons_zero, List.getElem?_cons_succ]))
                  | (refine Run.skipsF ?_ ?_; (· simp only [List.getElem?_cons_zero, List.getElem?_cons_succ]))
                  | (refine Run.skipsU ?_ ?_; (· simp only [List.getElem?_cons_zero, List.getElem?_cons_succ]))
                  | (refine Run.passT ?_ ?_; (· simp only [List.getElem?_cons_zero, List.getElem?_cons_succ]))
                  | (refine Run.passF ?_ ?_; (· simp only [List.getElem?_cons_zero, List.getElem?_cons_succ]))
                  | (refine Run.passU ?_ ?_; (· simp only [List.getElem?_cons_zero, List.getElem?_cons_succ]))
                  | (refine Run.runs ?_
                     (first
                     | (refine Run.callF 23 (by kernel_rfl) (fun hS => HSZ.out _) rfl ?_)
                     | (refine Run.callG 23 (by kernel_rfl) ?_ (fun hS => HSZ.out _) rfl ?_; (· simp only [List.getElem?_cons_zero, List.getElem?_cons_succ]))
                     | fail)
                     (first
                     | (rintro hS e w' ⟨rfl, rfl⟩; refine ⟨_, rfl, hS, ?_⟩)
                     | (rintro hS e w' ⟨rfl, hb⟩; refine ⟨_, rfl, ⟨kc hb hS.1, kc hb hS.2.1, nest hS.2.2 hb⟩, ?_⟩)
                     | fail))
                  | fail); simp only [Act.put, List.setIfInBounds_toArray, List.set_cons_zero, List.set_cons_succ])
                refine Run.ends (fun hS => ?_)
                replace HK2 := Lib.hid (nest HK2.out hS.2.2)
                replace HG2 := Lib.hid (HG2.out.keep hS.2.2)
                replace HR2 := Lib.hid (HR2.out.keep hS.2.2)
                replace HP := Lib.hid (HP.out.keep hS.2.2)
                replace HQ := Lib.hid (HQ.out.keep hS.2.2)
                clear hS c0 c1
                obtain ⟨zz, hzz⟩ : ∃ z, z = w' := ⟨_, rfl⟩
                rw [← hzz] at HK2 HG2 HR2 HP HQ ⊢
                clear hzz
                go_upto_region 9 with fail
                refine Run.region_walk (S := fun z => Below zz.heap.size zz z)
                  ldsplits.rows9 ldsplits.plan9 (l := ?_) (by kernel_rfl) (by kernel_rfl) (by kernel_rfl) (by kernel_rfl) ?_ (Below.refl _ _).drew ?_
                rotate_left
                (· simp only [ldsplits.plan9, Run.stepsOf, Run.stepOf, Run.guardOf, List.getElem?_toArray, List.getElem?_cons_zero, List.getElem?_cons_succ, Option.map_some, Option.map_none, Option.bind_some, Option.toList_some, List.map_cons, List.map_nil, List.cons_append, List.nil_append, List.append_eq]
                   rfl)
                repeat ((first
                  | (refine Run.takes (v := ?_) ?_ ?_; rotate_left; (· intro w' hS'; (first | (refine exec_load_arr (n := 16) (x := .tmp 3) (l := dcs D) ?_ Try.underlying24 den_i (by rw [dcs_len]; exact HDL.out) ?_ (HG2.out.keep hS') <;> rfl) | (refine exec_load_blk (n := 2) (x := .tmp 4) (l := [.int .u32 f, .int .u32 t]) ?_ Try.underlying28 spn_info ?_ ?_ (HR2.out.keep hS') <;> rfl) | (refine exec_load_blk (n := 2) (x := .tmp 8) (l := [.int .u32 f, .int .u32 E]) ?_ Try.underlying28 spn_info ?_ ?_ (HP.out.keep hS') <;> rfl) | (refine exec_load_blk (n := 2) (x := .tmp 9) (l := [.int .u32 E, .int .u32 t]) ?_ Try.underlying28 spn_info ?_ ?_ (HQ.out.keep hS') <;> rfl) | (go_simp; (try with_reducible rfl)))))
                  | (refine Run.takesG (v := ?_) ?_ ?_ ?_; rotate_left; (· simp only [List.getElem?_cons_zero, List.getElem?_cons_succ]); (· intro w' hS'; (first | (refine exec_load_arr (n := 16) (x := .tmp 3) (l := dcs D) ?_ Try.underlying24 den_i (by rw [dcs_len]; exact HDL.out) ?_ (HG2.out.keep hS') <;> rfl) | (refine exec_load_blk (n := 2) (x := .tmp 4) (l := [.int .u32 f, .int .u32 t]) ?_ Try.underlying28 spn_info ?_ ?_ (HR2.out.keep hS') <;> rfl) | (refine exec_load_blk (n := 2) (x := .tmp 8) (l := [.int .u32 f, .int .u32 E]) ?_ Try.underlying28 spn_info ?_ ?_ (HP.out.keep hS') <;> rfl) | (refine exec_load_blk (n := 2) (x := .tmp 9) (l := [.int .u32 E, .int .u32 t]) ?_ Try.underlying28 spn_info ?_ ?_ (HQ.out.keep hS') <;> rfl) | (go_simp; (try with_reducible rfl)))))
                  | (refine Run.skipsT ?_ ?_; (· simp only [List.getElem?_cons_zero, List.getElem?_cons_succ]))
                  | (refine Run.skipsF ?_ ?_; (· simp only [List.getElem?_cons_zero, List.getElem?_cons_succ]))
                  | (refine Run.skipsU ?_ ?_; (· simp only [List.getElem?_cons_zero, List.getElem?_cons_succ]))
                  | (refine Run.passT ?_ ?_; (· simp only [List.getElem?_cons_zero, List.getElem?_cons_succ]))
                  | (refine Run.passF ?_ ?_; (· simp only [List.getElem?_cons_zero, List.getElem?_cons_succ]))
                  | (refine Run.passU ?_ ?_; (· simp only [List.getElem?_cons_zero, List.getElem?_cons_succ]))
                  | (refine Run.runs ?_
                     (first
                     | (refine Run.callF 9 (by kernel_rfl) (fun hS => dawake_any _) rfl ?_)
                     | (refine Run.callG 9 (by kernel_rfl) ?_ (fun hS => dawake_any _) rfl ?_; (· simp only [List.getElem?_cons_zero, List.getElem?_cons_succ]))
                     | (refine Run.callF 19 (by kernel_rfl) (fun hS => HW1.out _) rfl ?_)
                     | (refine Run.callG 19 (by kernel_rfl) ?_ (fun hS => HW1.out _) rfl ?_; (· simp only [List.getElem?_cons_zero, List.getElem?_cons_succ]))
                     | (refine Run.callF 19 (by kernel_rfl) (fun hS => HW2.out _) rfl ?_)
                     | (refine Run.callG 19 (by kernel_rfl) ?_ (fun hS => HW2.out _) rfl ?_; (· simp only [List.getElem?_cons_zero, List.getElem?_cons_succ]))
                     | (refine Run.callF 19 (by kernel_rfl) (fun hS => HW3.out _) rfl ?_)
                     | (refine Run.callG 19 (by kernel_rfl) ?_ (fun hS => HW3.out _) rfl ?_; (· simp only [List.getElem?_cons_zero, List.getElem?_cons_succ]))
                     | fail)
                     (first
                     | (rintro hS e w' ⟨rfl, rfl⟩; refine ⟨_, rfl, hS, ?_⟩)
                     | (rintro hS e w' ⟨rfl, hb⟩; refine ⟨_, rfl, nest hS hb, ?_⟩)
                     | fail))
                  | fail); simp only [Act.put, List.setIfInBounds_toArray, List.set_cons_zero, List.set_cons_succ])
                refine Run.ends (fun hS => ?_)
                have HK5 := Lib.hid (nest HK2.out hS)
                clear hS
                go_wp2_with fail
                go_ret
                exact ⟨rfl, HK5.out⟩
            · have hfb2 : (f / 268435456 == t / 268435456) = false := beq_eq_false_iff_ne.2 hfb
              have hsum := HCUT.out (fun h => hfb h.1)
              clear hfb
              go_upto_region 9 with fail
              clear c0 c1
              refine Run.region_walk (S := fun z => Below Z.heap.size Z z)
                ldsplits.rows9 ldsplits.plan9 (l := ?_) (by kernel_rfl) (by kernel_rfl) (by kernel_rfl) (by kernel_rfl) ?_ (Below.refl _ _).drew ?_
              rotate_left
              (· simp only [ldsplits.plan9, Run.stepsOf, Run.stepOf, Run.guardOf, List.getElem?_toArray, List.getElem?_cons_zero, List.getElem?_cons_succ, Option.map_some, Option.map_none, Option.bind_some, Option.toList_some, List.map_cons, List.map_nil, List.cons_append, List.nil_append, List.append_eq]
                 rfl)
              repeat ((first
                | (refine Run.takes (v := ?_) ?_ ?_; rotate_left; (· intro w' hS'; (first | (refine exec_load_arr (n := 16) (x := .tmp 3) (l := dcs D) ?_ Try.underlying24 den_i (by rw [dcs_len]; exact HDL.out) ?_ (HG2.out.keep hS') <;> rfl) | (refine exec_load_blk (n := 2) (x := .tmp 4) (l := [.int .u32 f, .int .u32 t]) ?_ Try.underlying28 spn_info ?_ ?_ (HR2.out.keep hS') <;> rfl) | (refine exec_load_blk (n := 2) (x := .tmp 8) (l := [.int .u32 f, .int .u32 E]) ?_ Try.underlying28 spn_info ?_ ?_ (HP.out.keep hS') <;> rfl) | (refine exec_load_blk (n := 2) (x := .tmp 9) (l := [.int .u32 E, .int .u32 t]) ?_ Try.underlying28 spn_info ?_ ?_ (HQ.out.keep hS') <;> rfl) | (go_simp; (try with_reducible rfl)))))
                | (refine Run.takesG (v := ?_) ?_ ?_ ?_; rotate_left; (· simp only [List.getElem?_cons_zero, List.getElem?_cons_succ]); (· intro w' hS'; (first | (refine exec_load_arr (n := 16) (x := .tmp 3) (l := dcs D) ?_ Try.underlying24 den_i (by rw [dcs_len]; exact HDL.out) ?_ (HG2.out.keep hS') <;> rfl) | (refine exec_load_blk (n := 2) (x := .tmp 4) (l := [.int .u32 f, .int .u32 t]) ?_ Try.underlying28 spn_info ?_ ?_ (HR2.out.keep hS') <;> rfl) | (refine exec_load_blk (n := 2) (x := .tmp 8) (l := [.int .u32 f, .int .u32 E]) ?_ Try.underlying28 spn_info ?_ ?_ (HP.out.keep hS') <;> rfl) | (refine exec_load_blk (n := 2) (x := .tmp 9) (l := [.int .u32 E, .int .u32 t]) ?_ Try.underlying28 spn_info ?_ ?_ (HQ.out.keep hS') <;> rfl) | (go_simp; (try with_reducible rfl)))))
                | (refine Run.skipsT ?_ ?_; (· simp only [List.getElem?_cons_zero, List.getElem?_cons_succ]))
                | (refine Run.skipsF ?_ ?_; (· simp only [List.getElem?_cons_zero, List.getElem?_cons_succ]))
                | (refine Run.skipsU ?_ ?_; (· simp only [List.getElem?_cons_zero, List.getElem?_cons_succ]))
                | (refine Run.passT ?_ ?_; (· simp only [List.getElem?_cons_zero, List.getElem?_cons_succ]))
                | (refine Run.passF ?_ ?_; (· simp only [List.getElem?_cons_zero, List.getElem?_cons_succ]))
                | (refine Run.passU ?_ ?_; (· simp only [List.getElem?_cons_zero, List.getElem?_cons_succ]))
                | (refine Run.runs ?_
                   (first
                   | (refine Run.callF 9 (by kernel_rfl) (fun hS => dawake_any _) rfl ?_)
                   | (refine Run.callG 9 (by kernel_rfl) ?_ (fun hS => dawake_any _) rfl ?_; (· simp only [List.getElem?_cons_zero, List.getElem?_cons_succ]))
                   | (refine Run.callF 19 (by kernel_rfl) (fun hS => HW1.out _) rfl ?_)
                   | (refine Run.callG 19 (by kernel_rfl) ?_ (fun hS => HW1.out _) rfl ?_; (· simp only [List.getElem?_cons_zero, List.getElem?_cons_succ]))
                   | (refine Run.callF 19 (by kernel_rfl) (fun hS => HW2.out _) rfl ?_)
                   | (refine Run.callG 19 (by kernel_rfl) ?_ (fun hS => HW2.out _) rfl ?_; (· simp only [List.getElem?_cons_zero, List.getElem?_cons_succ]))
                   | (refine Run.callF 19 (by kernel_rfl) (fun hS => HW3.out _) rfl ?_)
                   | (refine Run.callG 19 (by kernel_rfl) ?_ (fun hS => HW3.out _) rfl ?_; (· simp only [List.getElem?_cons_zero, List.getElem?_cons_succ]))
                   | fail)
                   (first
                   | (rintro hS e w' ⟨rfl, rfl⟩; refine ⟨_, rfl, hS, ?_⟩)
                   | (rintro hS e w' ⟨rfl, hb⟩; refine ⟨_, rfl, nest hS hb, ?_⟩)
                   | fail))
                | fail); simp only [Act.put, List.setIfInBounds_toArray, List.set_cons_zero, List.set_cons_succ])
              refine Run.ends (fun hS => ?_)
              have HK5 := Lib.hid (nest HK2.out hS)
              clear hS
              go_wp2_with fail
              go_ret
              exact ⟨rfl, HK5.out⟩
      · skip
        obtain ⟨Z, hZ⟩ : ∃ Z, Z = ((w1.alloc (.cells #[.int .u32 E, .int .u32 t] 28)).alloc (.cells #[.int .u32 f, .int .u32 E] 28)).drew := ⟨_, rfl⟩
        have HZ : Hid (Below w1.heap.size w1 Z) := Lib.hid (hZ ▸ (more (more (Below.refl _ _) _) _).drew)
        have HQ : Hid (Blk Z w1.heap.size 28 #[.int .u32 E, .int .u32 t]) := Lib.hid (by rw [hZ]; exact (Blk.new w1 _ _).keep (more (Below.refl _ _) _).drew)
        have HP : Hid (Blk Z (w1.heap.size + 1) 28 #[.int .u32 f, .int .u32 E]) := Lib.hid (by rw [hZ]; exact Blk.keep (Blk.newAt _ _ _ (by rw [size_alloc])) (Below.refl _ _).drew)
        rw [← hZ]
        obtain ⟨p, hp⟩ : ∃ p, p = w1.heap.size + 1 := ⟨_, rfl⟩
        obtain ⟨q, hq⟩ : ∃ q, q = w1.heap.size := ⟨_, rfl⟩
        rw [← hp] at HP ⊢
        rw [← hq] at HQ ⊢
        clear hZ hq hp
        as_aux_lemma =>
          have HK2 := Lib.hid (nest HK1.out HZ.out)
          have HG2 := Lib.hid (HG1.out.keep HZ.out)
          have HR2 := Lib.hid (HR1.out.keep HZ.out)
          clear c0 c1 HZ HK1 HG1 HR1
          have c0 : Z.cell? ⟨r, 0, none⟩ = some (.int .u32 f) := HR2.out.cell 0
          have c1 : Z.cell? ⟨r, 1, none⟩ = some (.int .u32 t) := HR2.out.cell 1
          by_cases hne : f = t
          · have hne2 : (f == t) = true := by simpa using hne
            have HAL := Lib.hid (fun z => dall_any D HD.out z)
            have HWI := Lib.hid (fun z => dwithin_any D f t HD.out HBF.out HBT.out z)
            have HWQ : Hid (withD D (f, t) = allD D) := Lib.hid (by rw [← hne]; exact with_whole HD.out f HBF.out)
            rw [HWQ.out] at HWI
            clear hne
            go_upto_region 6 with fail
            clear c0 c1
            refine Run.region_walk (S := fun z => Below Z.heap.size Z z)
              ldsplits.rows6 ldsplits.plan6 (l := ?_) (by kernel_rfl) (by kernel_rfl) (by kernel_rfl) (by kernel_rfl) ?_ (Below.refl _ _).drew ?_
            rotate_left
            (· simp only [ldsplits.plan6, Run.stepsOf, Run.stepOf, Run.guardOf, List.getElem?_toArray, List.getElem?_cons_zero, List.getElem?_cons_succ, Option.map_some, Option.map_none, Option.bind_some, Option.toList_some, List.map_cons, List.map_nil, List.cons_append, List.nil_append, List.append_eq]
               rfl)
            repeat ((first
              | (refine Run.takes (v := ?_) ?_ ?_; rotate_left; (· intro w' hS'; (first | (refine exec_load_arr (n := 16) (x := .tmp 3) (l := dcs D) ?_ Try.underlying24 den_i (by rw [dcs_len]; exact HDL.out) ?_ (HG2.out.keep hS') <;> rfl) | (refine exec_load_blk (n := 2) (x := .tmp 4) (l := [.int .u32 f, .int .u32 t]) ?_ Try.underlying28 spn_info ?_ ?_ (HR2.out.keep hS') <;> rfl) | (go_simp; (try with_reducible rfl)))))
              | (refine Run.takesG (v := ?_) ?_ ?_ ?_; rotate_left; (· simp only [List.getElem?_cons_zero, List.getElem?_cons_succ]); (· intro w' hS'; (first | (refine exec_load_arr (n := 16) (x := .tmp 3) (l := dcs D) ?_ Try.underlying24 den_i (by rw [dcs_len]; exact HDL.out) ?_ (HG2.out.keep hS') <;> rfl) | (refine exec_load_blk (n := 2) (x := .tmp 4) (l := [.int .u32 f, .int .u32 t]) ?_ Try.underlying28 spn_info ?_ ?_ (HR2.out.keep hS') <;> rfl) | (go_simp; (try with_reducible rfl)))))
              | (refine Run.skipsT ?_ ?_; (· simp only [List.getElem?_cons_zero, List.getElem?_cons_succ]))
              | (refine Run.skipsF ?_ ?_; (· simp only [List.getElem?_cons_zero, List.getElem?_cons_succ]))
              | (refine Run.skipsU ?_ ?_; (· simp only [List.getElem?_cons_zero, List.getElem?_cons_succ]))
              | (refine Run.passT ?_ ?_; (· simp only [List.getElem?_cons_zero, List.getElem?_cons_succ]))
              | (refine Run.passF ?_ ?_; (· simp only [List.getElem?_cons_zero, List.getElem?_cons_succ]))
              | (refine Run.passU ?_ ?_; (· simp only [List.getElem?_cons_zero, List.getElem?_cons_succ]))
              | (refine Run.runs ?_
                 (first
                 | (refine Run.callF 9 (by kernel_rfl) (fun hS => dawake_any _) rfl ?_)
                 | (refine Run.callG 9 (by kernel_rfl) ?_ (fun hS => dawake_any _) rfl ?_; (· simp only [List.getElem?_cons_zero, List.getElem?_cons_succ]))
                 | (refine Run.callF 13 (by kernel_rfl) (fun hS => HAL.out _) rfl ?_)
                 | (refine Run.callG 13 (by kernel_rfl) ?_ (fun hS => HAL.out _) rfl ?_; (· simp only [List.getElem?_cons_zero, List.getElem?_cons_succ]))
                 | (refine Run.callF 19 (by kernel_rfl) (fun hS => HWI.out _) rfl ?_)
                 | (refine Run.callG 19 (by kernel_rfl) ?_ (fun hS => HWI.out _) rfl ?_; (· simp only [List.getElem?_cons_zero, List.getElem?_cons_succ]))
                 | fail)
                 (first
                 | (rintro hS e w' ⟨rfl, rfl⟩; refine ⟨_, rfl, hS, ?_⟩)
                 | (rintro hS e w' ⟨rfl, hb⟩; refine ⟨_, rfl, nest hS hb, ?_⟩)
                 | fail))
              | fail); simp only [Act.put, List.setIfInBounds_toArray, List.set_cons_zero, List.set_cons_succ])
            refine Run.ends (fun hS => ?_)
            have HK5 := Lib.hid (nest HK2.out hS)
            clear hS
            go_wp2_with fail
            go_ret
            exact ⟨rfl, HK5.out⟩
          · have hne2 : (f == t) = false := beq_eq_false_iff_ne.2 hne
            have HNE := Lib.hid hne
            have HET := Lib.hid het
            clear hne het
            have HSZ := Lib.hid (fun z => rsize_any f t HBF.out HBT.out z)
            have HW1 := Lib.hid (fun z => dwithin_any D f E HD.out HBF.out HEB.out z)
            have HW2 := Lib.hid (fun z => dwithin_any D E t HD.out HEB.out HBT.out z)
            have HW3 := Lib.hid (fun z => dwithin_any D f t HD.out HBF.out HBT.out z)
            have HCUT : Hid (¬ (f / 268435456 = t / 268435456 ∧ beh f t > 2147483648) → IntKind.u64.wrap (withD D (f, E) + withD D (E, t)) = withD D (f, t)) := Lib.hid (fun hq => by
              have e := with_cut HD.out f t (x % 16) HBF.out HBT.out (by omega) E HEE.out HNE.out HET.out HIN.out (by rw [show (t - f - 1) % 4294967296 + 1 = beh f t by unfold beh; rfl]; exact hq)
              have b1 := with_le HD.out (f, t) HBF.out HBT.out
              have b2 := with_le HD.out (f, E) HBF.out HEB.out
              have b3 := with_le HD.out (E, t) HEB.out HBT.out
              have b4 := HD.out.all_bd
              rw [IntKind.wrap_u64, e]
              omega)
            obtain ⟨sz, hsz⟩ : ∃ s, s = beh f t := ⟨_, rfl⟩
            rw [← hsz] at HSZ HCUT
            clear hsz
            generalize withD D (f, E) = i1 at *
            generalize withD D (E, t) = i2 at *
            generalize withD D (f, t) = i3 at *
            by_cases hfb : f / 268435456 = t / 268435456
            · have hfb2 : (f / 268435456 == t / 268435456) = true := by simpa using hfb
              have HFB := Lib.hid hfb
              clear hfb
              by_cases hbig : sz > 2147483648
              · go_upto_region 7 with fail
                refine Run.region_seq (S := fun z => z.cell? ⟨r, 0, none⟩ = some (.int .u32 f) ∧ z.cell? ⟨r, 1, none⟩ = some (.int .u32 t) ∧ Below Z.heap.size Z z)
                  [0, 0, 0, 0, 0, 0, 0, 0, 0, 1, 0, 0] (l := ?_) ?_ ⟨c0, c1, Below.refl _ _⟩ ?_
                rotate_left
                (· simp only [Run.seqOf, List.toList_toArray, Run.stepsOf, Run.stepOf, Run.guardOf, List.getElem?_toArray, List.getElem?_cons_zero, List.getElem?_cons_succ, Option.map_some, Option.map_none, Option.bind_some, Option.toList_some, List.map_cons, List.map_nil, List.cons_append, List.nil_append, List.append_eq]
                   rfl)
                repeat ((first
                  | (refine Run.takes (v := ?_) ?_ ?_; rotate_left; (· intro w' hS'; (first | (have h1 := hS'.1; have h2 := hS'.2.1; go_simp; done) | (go_simp; (try with_reducible rfl)))))
                  | (refine Run.takesG (v := ?_) ?_ ?_ ?_; rotate_left; (· simp only [List.getElem?_cons_zero, List.getElem?_cons_succ]); (· intro w' hS'; (first | (have h1 := hS'.1; have h2 := hS'.2.1; go_simp; done) | (go_simp; (try with_reducible rfl)))))
                  | (refine Run.skipsT ?_ ?_; (· simp only [List.getElem?_cons_zero, List.getElem?_cons_succ]))
                  | (refine Run.skipsF ?_ ?_; (· simp only [List.getElem?_cons_zero, List.getElem?_cons_succ]))
                  | (refine Run.skipsU ?_ ?_; (· simp only [List.getElem?_cons_zero, List.getElem?_cons_succ]))
                  | (refine Run.passT ?_ ?_; (· simp only [List.getElem?_cons_zero, List.getElem?_cons_succ]))
                  | (refine Run.passF ?_ ?_; (· simp only [List.getElem?_cons_zero, List.getElem?_cons_succ]))
                  | (refine Run.passU ?_ ?_; (· simp only [List.getElem?_cons_zero, List.getElem?_cons_succ]))
                  | (refine Run.runs ?_
                     (first
                     | (refine Run.callF 23 (by kernel_rfl) (fun hS => HSZ.out _) rfl ?_)
                     | (refine Run.callG 23 (by kernel_rfl) ?_ (fun hS => HSZ.out _) rfl ?_; (· simp only [List.getElem?_cons_zero, List.getElem?_cons_succ]))
                     | fail)
                     (first
                     | (rintro hS e w' ⟨rfl, rfl⟩; refine ⟨_, rfl, hS, ?_⟩)
                     | (rintro hS e w' ⟨rfl, hb⟩; refine ⟨_, rfl, ⟨kc hb hS.1, kc hb hS.2.1, nest hS.2.2 hb⟩, ?_⟩)
                     | fail))
                  | fail); simp only [Act.put, List.setIfInBounds_toArray, List.set_cons_zero, List.set_cons_succ])
                refine Run.ends (fun hS => ?_)
                have HK5 := Lib.hid (nest HK2.out hS.2.2)
                clear hS c0 c1
                go_wp2_with (go_at_call 9; refine (dawake_any _).mono ?_; rintro e w2 ⟨rfl, hk⟩)
                go_ret
                exact ⟨rfl, nest HK5.out hk⟩
              · have hsum := HCUT.out (fun h => hbig h.2)
                go_upto_region 7 with fail
                refine Run.region_seq (S := fun z => z.cell? ⟨r, 0, none⟩ = some (.int .u32 f) ∧ z.cell? ⟨r, 1, none⟩ = some (.int .u32 t) ∧ Below Z.heap.size Z z)
                  [0, 0, 0, 0, 0, 0, 0, 0, 0, 1, 0, 0] (l := ?_) ?_ ⟨c0, c1, Below.refl _ _⟩ ?_
                rotate_left
                (· simp only [Run.seqOf, List.toList_toArray, Run.stepsOf, Run.stepOf, Run.guardOf, List.getElem?_toArray, List.getElem?_cons_zero, List.getElem?_cons_succ, Option.map_some, Option.map_none, Option.bind_some, Option.toList_some, List.map_cons, List.map_nil, List.cons_append, List.nil_append, List.append_eq]
                   rfl)
                repeat ((first
                  | (refine Run.takes (v := ?_) ?_ ?_; rotate_left; (· intro w' hS'; (first | (have h1 := hS'.1; have h2 := hS'.2.1; go_simp; done) | (go_simp; (try with_reducible rfl)))))
                  | (refine Run.takesG (v := ?_) ?_ ?_ ?_; rotate_left; (· simp only [List.getElem?_cons_zero, List.getElem?_cons_succ]); (· intro w' hS'; (first | (have h1 := hS'.1; have h2 := hS'.2.1; go_simp; done) | (go_simp; (try with_reducible rfl)))))
                  | (refine Run.skipsT ?_ ?_; (· simp only [List.getElem?_cons_zero, List.getElem?_cons_succ]))
                  | (refine Run.skipsF ?_ ?_; (· simp only [List.getElem?_cons_zero, List.getElem?_cons_succ]))
                  | (refine Run.skipsU ?_ ?_; (· simp only [List.getElem?_cons_zero, List.getElem?_cons_succ]))
                  | (refine Run.passT ?_ ?_; (· simp only [List.getElem?_cons_zero, List.getElem?_cons_succ]))
                  | (refine Run.passF ?_ ?_; (· simp only [List.getElem?_cons_zero, List.getElem?_cons_succ]))
                  | (refine Run.passU ?_ ?_; (· simp only [List.getElem?_cons_zero, List.getElem?_cons_succ]))
                  | (refine Run.runs ?_
                     (first
                     | (refine Run.callF 23 (by kernel_rfl) (fun hS => HSZ.out _) rfl ?_)
                     | (refine Run.callG 23 (by kernel_rfl) ?_ (fun hS => HSZ.out _) rfl ?_; (· simp only [List.getElem?_cons_zero, List.getElem?_cons_succ]))
                     | fail)
                     (first
                     | (rintro hS e w' ⟨rfl, rfl⟩; refine ⟨_, rfl, hS, ?_⟩)
                     | (rintro hS e w' ⟨rfl, hb⟩; refine ⟨_, rfl, ⟨kc hb hS.1, kc hb hS.2.1, nest hS.2.2 hb⟩, ?_⟩)
                     | fail))
                  | fail); simp only [Act.put, List.setIfInBounds_toArray, List.set_cons_zero, List.set_cons_succ])
                refine Run.ends (fun hS => ?_)
                replace HK2 := Lib.hid (nest HK2.out hS.2.2)
                replace HG2 := Lib.hid (HG2.out.keep hS.2.2)
                replace HR2 := Lib.hid (HR2.out.keep hS.2.2)
                replace HP := Lib.hid (HP.out.keep hS.2.2)
                replace HQ := Lib.hid (HQ.out.keep hS.2.2)
                clear hS c0 c1
                obtain ⟨zz, hzz⟩ : ∃ z, z = w' := ⟨_, rfl⟩
                rw [← hzz] at HK2 HG2 HR2 HP HQ ⊢
                clear hzz
                go_upto_region 9 with fail
                refine Run.region_walk (S := fun z => Below zz.heap.size zz z)
                  ldsplits.rows9 ldsplits.plan9 (l := ?_) (by kernel_rfl) (by kernel_rfl) (by kernel_rfl) (by kernel_rfl) ?_ (Below.refl _ _).drew ?_
                rotate_left
                (· simp only [ldsplits.plan9, Run.stepsOf, Run.stepOf, Run.guardOf, List.getElem?_toArray, List.getElem?_cons_zero, List.getElem?_cons_succ, Option.map_some, Option.map_none, Option.bind_some, Option.toList_some, List.map_cons, List.map_nil, List.cons_append, List.nil_append, List.append_eq]
                   rfl)
                repeat ((first
                  | (refine Run.takes (v := ?_) ?_ ?_; rotate_left; (· intro w' hS'; (first | (refine exec_load_arr (n := 16) (x := .tmp 3) (l := dcs D) ?_ Try.underlying24 den_i (by rw [dcs_len]; exact HDL.out) ?_ (HG2.out.keep hS') <;> rfl) | (refine exec_load_blk (n := 2) (x := .tmp 4) (l := [.int .u32 f, .int .u32 t]) ?_ Try.underlying28 spn_info ?_ ?_ (HR2.out.keep hS') <;> rfl) | (refine exec_load_blk (n := 2) (x := .tmp 8) (l := [.int .u32 f, .int .u32 E]) ?_ Try.underlying28 spn_info ?_ ?_ (HP.out.keep hS') <;> rfl) | (refine exec_load_blk (n := 2) (x := .tmp 9) (l := [.int .u32 E, .int .u32 t]) ?_ Try.underlying28 spn_info ?_ ?_ (HQ.out.keep hS') <;> rfl) | (go_simp; (try with_reducible rfl)))))
                  | (refine Run.takesG (v := ?_) ?_ ?_ ?_; rotate_left; (· simp only [List.getElem?_cons_zero, List.getElem?_cons_succ]); (· intro w' hS'; (first | (refine exec_load_arr (n := 16) (x := .tmp 3) (l := dcs D) ?_ Try.underlying24 den_i (by rw [dcs_len]; exact HDL.out) ?_ (HG2.out.keep hS') <;> rfl) | (refine exec_load_blk (n := 2) (x := .tmp 4) (l := [.int .u32 f, .int .u32 t]) ?_ Try.underlying28 spn_info ?_ ?_ (HR2.out.keep hS') <;> rfl) | (refine exec_load_blk (n := 2) (x := .tmp 8) (l := [.int .u32 f, .int .u32 E]) ?_ Try.underlying28 spn_info ?_ ?_ (HP.out.keep hS') <;> rfl) | (refine exec_load_blk (n := 2) (x := .tmp 9) (l := [.int .u32 E, .int .u32 t]) ?_ Try.underlying28 spn_info ?_ ?_ (HQ.out.keep hS') <;> rfl) | (go_simp; (try with_reducible rfl)))))
                  | (refine Run.skipsT ?_ ?_; (· simp only [List.getElem?_cons_zero, List.getElem?_cons_succ]))
                  | (refine Run.skipsF ?_ ?_; (· simp only [List.getElem?_cons_zero, List.getElem?_cons_succ]))
                  | (refine Run.skipsU ?_ ?_; (· simp only [List.getElem?_cons_zero, List.getElem?_cons_succ]))
                  | (refine Run.passT ?_ ?_; (· simp only [List.getElem?_cons_zero, List.getElem?_cons_succ]))
                  | (refine Run.passF ?_ ?_; (· simp only [List.getElem?_cons_zero, List.getElem?_cons_succ]))
                  | (refine Run.passU ?_ ?_; (· simp only [List.getElem?_cons_zero, List.getElem?_cons_succ]))
                  | (refine Run.runs ?_
                     (first
                     | (refine Run.callF 9 (by kernel_rfl) (fun hS => dawake_any _) rfl ?_)
                     | (refine Run.callG 9 (by kernel_rfl) ?_ (fun hS => dawake_any _) rfl ?_; (· simp only [List.getElem?_cons_zero, List.getElem?_cons_succ]))
                     | (refine Run.callF 19 (by kernel_rfl) (fun hS => HW1.out _) rfl ?_)
                     | (refine Run.callG 19 (by kernel_rfl) ?_ (fun hS => HW1.out _) rfl ?_; (· simp only [List.getElem?_cons_zero, List.getElem?_cons_succ]))
                     | (refine Run.callF 19 (by kernel_rfl) (fun hS => HW2.out _) rfl ?_)
                     | (refine Run.callG 19 (by kernel_rfl) ?_ (fun hS => HW2.out _) rfl ?_; (· simp only [List.getElem?_cons_zero, List.getElem?_cons_succ]))
                     | (refine Run.callF 19 (by kernel_rfl) (fun hS => HW3.out _) rfl ?_)
                     | (refine Run.callG 19 (by kernel_rfl) ?_ (fun hS => HW3.out _) rfl ?_; (· simp only [List.getElem?_cons_zero, List.getElem?_cons_succ]))
                     | fail)
                     (first
                     | (rintro hS e w' ⟨rfl, rfl⟩; refine ⟨_, rfl, hS, ?_⟩)
                     | (rintro hS e w' ⟨rfl, hb⟩; refine ⟨_, rfl, nest hS hb, ?_⟩)
                     | fail))
                  | fail); simp only [Act.put, List.setIfInBounds_toArray, List.set_cons_zero, List.set_cons_succ])
                refine Run.ends (fun hS => ?_)
                have HK5 := Lib.hid (nest HK2.out hS)
                clear hS
                go_wp2_with fail
                go_ret
                exact ⟨rfl, HK5.out⟩
            · have hfb2 : (f / 268435456 == t / 268435456) = false := beq_eq_false_iff_ne.2 hfb
              have hsum := HCUT.out (fun h => hfb h.1)
              clear hfb
              go_upto_region 9 with fail
              clear c0 c1
              refine Run.region_walk (S := fun z => Below Z.heap.size Z z)
                ldsplits.rows9 ldsplits.plan9 (l := ?_) (by kernel_rfl) (by kernel_rfl) (by kernel_rfl) (by kernel_rfl) ?_ (Below.refl _ _).drew ?_
              rotate_left
              (· simp only [ldsplits.plan9, Run.stepsOf, Run.stepOf, Run.guardOf, List.getElem?_toArray, List.getElem?_cons_zero, List.getElem?_cons_succ, Option.map_some, Option.map_none, Option.bind_some, Option.toList_some, List.map_cons, List.map_nil, List.cons_append, List.nil_append, List.append_eq]
                 rfl)
              repeat ((first
                | (refine Run.takes (v := ?_) ?_ ?_; rotate_left; (· intro w' hS'; (first | (refine exec_load_arr (n := 16) (x := .tmp 3) (l := dcs D) ?_ Try.underlying24 den_i (by rw [dcs_len]; exact HDL.out) ?_ (HG2.out.keep hS') <;> rfl) | (refine exec_load_blk (n := 2) (x := .tmp 4) (l := [.int .u32 f, .int .u32 t]) ?_ Try.underlying28 spn_info ?_ ?_ (HR2.out.keep hS') <;> rfl) | (refine exec_load_blk (n := 2) (x := .tmp 8) (l := [.int .u32 f, .int .u32 E]) ?_ Try.underlying28 spn_info ?_ ?_ (HP.out.keep hS') <;> rfl) | (refine exec_load_blk (n := 2) (x := .tmp 9) (l := [.int .u32 E, .int .u32 t]) ?_ Try.underlying28 spn_info ?_ ?_ (HQ.out.keep hS') <;> rfl) | (go_simp; (try with_reducible rfl)))))
                | (refine Run.takesG (v := ?_) ?_ ?_ ?_; rotate_left; (· simp only [List.getElem?_cons_zero, List.getElem?_cons_succ]); (· intro w' hS'; (first | (refine exec_load_arr (n := 16) (x := .tmp 3) (l := dcs D) ?_ Try.underlying24 den_i (by rw [dcs_len]; exact HDL.out) ?_ (HG2.out.keep hS') <;> rfl) | (refine exec_load_blk (n := 2) (x := .tmp 4) (l := [.int .u32 f, .int .u32 t]) ?_ Try.underlying28 spn_info ?_ ?_ (HR2.out.keep hS') <;> rfl) | (refine exec_load_blk (n := 2) (x := .tmp 8) (l := [.int .u32 f, .int .u32 E]) ?_ Try.underlying28 spn_info ?_ ?_ (HP.out.keep hS') <;> rfl) | (refine exec_load_blk (n := 2) (x := .tmp 9) (l := [.int .u32 E, .int .u32 t]) ?_ Try.underlying28 spn_info ?_ ?_ (HQ.out.keep hS') <;> rfl) | (go_simp; (try with_reducible rfl)))))
                | (refine Run.skipsT ?_ ?_; (· simp only [List.getElem?_cons_zero, List.getElem?_cons_succ]))
                | (refine Run.skipsF ?_ ?_; (· simp only [List.getElem?_cons_zero, List.getElem?_cons_succ]))
                | (refine Run.skipsU ?_ ?_; (· simp only [List.getElem?_cons_zero, List.getElem?_cons_succ]))
                | (refine Run.passT ?_ ?_; (· simp only [List.getElem?_cons_zero, List.getElem?_cons_succ]))
                | (refine Run.passF ?_ ?_; (· simp only [List.getElem?_cons_zero, List.getElem?_cons_succ]))
                | (refine Run.passU ?_ ?_; (· simp only [List.getElem?_cons_zero, List.getElem?_cons_succ]))
                | (refine Run.runs ?_
                   (first
                   | (refine Run.callF 9 (by kernel_rfl) (fun hS => dawake_any _) rfl ?_)
                   | (refine Run.callG 9 (by kernel_rfl) ?_ (fun hS => dawake_any _) rfl ?_; (· simp only [List.getElem?_cons_zero, List.getElem?_cons_succ]))
                   | (refine Run.callF 19 (by kernel_rfl) (fun hS => HW1.out _) rfl ?_)
                   | (refine Run.callG 19 (by kernel_rfl) ?_ (fun hS => HW1.out _) rfl ?_; (· simp only [List.getElem?_cons_zero, List.getElem?_cons_succ]))
                   | (refine Run.callF 19 (by kernel_rfl) (fun hS => HW2.out _) rfl ?_)
                   | (refine Run.callG 19 (by kernel_rfl) ?_ (fun hS => HW2.out _) rfl ?_; (· simp only [List.getElem?_cons_zero, List.getElem?_cons_succ]))
                   | (refine Run.callF 19 (by kernel_rfl) (fun hS => HW3.out _) rfl ?_)
                   | (refine Run.callG 19 (by kernel_rfl) ?_ (fun hS => HW3.out _) rfl ?_; (· simp only [List.getElem?_cons_zero, List.getElem?_cons_succ]))
                   | fail)
                   (first
                   | (rintro hS e w' ⟨rfl, rfl⟩; refine ⟨_, rfl, hS, ?_⟩)
                   | (rintro hS e w' ⟨rfl, hb⟩; refine ⟨_, rfl, nest hS hb, ?_⟩)
                   | fail))
                | fail); simp only [Act.put, List.setIfInBounds_toArray, List.set_cons_zero, List.set_cons_succ])
              refine Run.ends (fun hS => ?_)
              have HK5 := Lib.hid (nest HK2.out hS)
              clear hS
              go_wp2_with fail
              go_ret
              exact ⟨rfl, HK5.out⟩
end Go.Proofs.Ytpfdmjgojpngjaa.densitySplits
