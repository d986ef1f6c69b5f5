/- Walk of the law SampleWalks. -/
import Derived.Test.YtgkfioloceemcaaSaLaw
import Derived.Test.YtgkfioloceemcaaFroms
import Derived.Test.YtgkfioloceemcaaRgPair
import Derived.Test.YtgkfioloceemcaaLdPlans
set_option maxRecDepth 4000
namespace Go.Proofs.Ytgkfioloceemcaa.sampleWalks
open Go.RowKit Mem
set_option linter.unusedSimpArgs false
set_option linter.unusedVariables false
attribute [local irreducible] Go.Calls

set_option maxRecDepth 100000 in
set_option maxHeartbeats 8000000 in
theorem walk (v : Value) (l : List Int) (u : Value) (F : List (List Int)) (at_ : Int) (ba : 0 ≤ at_ ∧ at_ ≤ 4294967295) (steps : Int) (bn : -9223372036854775808 ≤ steps ∧ steps ≤ 9223372036854775807) (s : Int) (bs : 0 ≤ s ∧ s ≤ 18446744073709551615) (w : World) (h : Rd (intE .u32) w v l) (hb : ∀ x ∈ l, 0 ≤ x ∧ x ≤ 4294967295) (hu : fromsK.rd w [u] F) :
    Calls Try.prog 3 #[v, u, .int .u32 at_, .int .i64 steps, .int .u64 s] w fun e w' => e = .returned (.bool true) ∧ Below w.heap.size w w' := by
  obtain ⟨a, g, o, c, rfl, hc, hm, ha, hcells⟩ := Mem.Rd.loopI h
  have hm' : c ≤ 9223372036854775807 := hm
  have HA := Lib.hid ha
  have HC := Lib.hid hcells
  have HB := Lib.hid hb
  obtain ⟨au, cu, rfl, hcu, hmu, hau⟩ := froms_at hu
  have hmu' : cu ≤ 9223372036854775807 := hmu
  have HAU := Lib.hid hau
  have HBA := Lib.hid ba
  have HBN := Lib.hid bn
  have HBS := Lib.hid bs
  clear h ha hcells hm hb hu hmu hau ba bn bs
  go_enter Try.func3, Try.ntmps3
  go_upto_region 2 with (go_at_call 7; refine (rgnew_any w).mono ?_; rintro e w1 ⟨r, W, R, rfl, hp, hr, hk⟩)
  have hX : Below w1.heap.size w1 (w1.alloc (.cells #[.slice none 0 0] 30)) := more (Below.refl _ _) _
  have hbl : Blk (w1.alloc (.cells #[.slice none 0 0] 30)) w1.heap.size 30 #[.slice none 0 0] := Blk.new _ _ _
  have HP := Lib.hid (Pr.new (B := w.heap.size) (rg_new hp hr (Nat.le_refl _)) hX ⟨_, hbl, Rd.nil _ _ (Nat.zero_le _), fun g hg => (by cases hg), ⟨List.Pairwise.nil, fun x hx => (nomatch hx), Nat.zero_le _⟩⟩ (Nat.le_refl _) (fun v g hv hg => by rw [hbl.cell 0] at hv; injection hv with hv; subst hv; cases hg) hk.size)
  have HK := Lib.hid (nest hk hX)
  clear hp hr hk hX hbl
  generalize w1.alloc (.cells #[.slice none 0 0] 30) = w2 at *
  generalize w1.heap.size = rr at *
  go_upto_block 0 with fail
  go_cut [13] from 28 to 49 (fun iv wx => Pr w.heap.size wx r rr (addsR [] (l.take 40)) (addsR [] (l.take 40)) ∧ Below w.heap.size w wx)
  case first =>
    go_upto_block 99 with fail
    go_loopw [13] (fun iv wr => ∃ i : Nat, i ≤ l.length ∧ i ≤ 40 ∧ iv = .int .i64 i ∧ Pr w.heap.size wr r rr (addsR [] (l.take i)) (addsR [] (l.take i)) ∧ Below w.heap.size w wr) (fun iv _ => 40 - (intOf iv).toNat)
    case atStart => exact ⟨0, Nat.zero_le _, Nat.zero_le _, rfl, HP.out, HK.out⟩
    case round =>
      obtain ⟨i, hi, hi60, rfl, hpr, hbw⟩ := hrel
      have HPR := Lib.hid hpr
      have HKI := Lib.hid hbw
      clear hpr hbw HP HK
      by_cases hlt : i < l.length ∧ i < 40
      · obtain ⟨h1, h2⟩ := hlt
        obtain ⟨rfl, hg⟩ := HA.out (by omega)
        have d0 := kc HKI.out (HC.out i h1)
        have HSL := Lib.hid (addsR_step [] h1)
        have HBX : Hid (0 ≤ l.getD i 0 ∧ l.getD i 0 ≤ 4294967295) := Lib.hid (HB.out _ (by rw [show l.getD i 0 = l[i] by simp [List.getD, h1]]; exact List.getElem_mem h1))
        obtain ⟨x, hx⟩ : ∃ x, x = l.getD i 0 := ⟨_, rfl⟩
        rw [← hx] at d0 HSL HBX
        have HC0 : Hid (w.cell? ⟨g, o + i, none⟩ = some (.int .u32 x)) := Lib.hid (by rw [hx]; exact HC.out i h1)
        have hil : (i : Int) < (l.length : Int) := by omega
        have hcl : (l.length : Int) ≤ c := by omega
        have hi60' : (i : Int) < 40 := by omega
        clear hx hg
        go_upto_region 6 with (go_at_call 8; refine (pr_gadd w.heap.size r rr _ _ x wr HPR.out HKI.out.size HBX.out).mono ?_; rintro e w3 ⟨rfl, hp, hk⟩)
        have HP3 := Lib.hid hp
        have HK3 := Lib.hid (HKI.out.trans hk)
        clear hp hk d0
        have d1 := kc HK3.out HC0.out
        go_wp2_with (go_at_call 9; refine (pr_radd w.heap.size r rr _ _ x w3 HP3.out HK3.out.size HBX.out).mono ?_; rintro e w4 ⟨rfl, hp, hk⟩)
        exact ⟨⟨i + 1, by omega, by omega, by go_num, by rw [HSL.out]; exact hp, HK3.out.trans hk⟩, by simp [intOf]; omega⟩
      have HE : Hid (l.take i = l.take 40) := Lib.hid (by
        by_cases h1 : i < l.length
        · rw [show i = 40 by omega]
        · rw [List.take_of_length_le (by omega), List.take_of_length_le (by omega)])
      rcases (show ¬ (i : Int) < (l.length : Int) ∨ ((i : Int) < (l.length : Int) ∧ ¬ (i : Int) < 40) by omega) with q | ⟨q1, q2⟩
      all_goals
        go_wp2_with fail
        go_meet
        case rel => exact ⟨by rw [← HE.out]; exact HPR.out, HKI.out⟩
  case rest =>
  obtain ⟨hpr, hbw⟩ := hcut
  obtain ⟨w5, hw5⟩ : ∃ z, z = wc := ⟨_, rfl⟩
  subst hw5
  have HPR := Lib.hid hpr
  have HKI := Lib.hid hbw
  have HO : Hid (okR (addsR [] (l.take 40))) := Lib.hid hpr.two.ok
  obtain ⟨L, hL⟩ : ∃ q, q = addsR [] (l.take 40) := ⟨_, rfl⟩
  rw [← hL] at HPR HO
  clear hpr hbw hL HA HC HB HP HK
  have hmk := run_makeMap_none (P := Try.prog) (t := 33) Try.underlying33
  go_upto_region 8 with fail
  clear hmk
  have hX : Below w5.heap.size w5 (w5.alloc (.map #[] 0)) := more (Below.refl _ _) _
  have HLO0 := Lib.hid (LinksOld.made w w5)
  have HX := Lib.hid hX
  clear hX
  have HP5 := Lib.hid HPR.out
  have HK5 := Lib.hid HKI.out
  clear HPR HKI
  obtain ⟨a2, g2, o2, c2, hc0, hq1, hq2, hq3, hq4, hq5⟩ := HP5.out.two.at
  have HC0 := Lib.hid hc0
  have hq2' : c2 ≤ 9223372036854775807 := hq2
  have HQ3 := Lib.hid hq3
  have HQ4 := Lib.hid hq4
  have HQ5 := Lib.hid hq5
  have hl64 : L.length ≤ 64 := HO.out.2.2
  clear hc0 hq2 hq3 hq4 hq5
  generalize w5.alloc (.map #[] 0) = w6 at *
  obtain ⟨gm, hgm⟩ : ∃ q, q = w5.heap.size := ⟨_, rfl⟩
  rw [← hgm] at HLO0 ⊢
  have HGM := Lib.hid hgm
  clear hgm
  go_upto_block 2 with fail
  go_cut [15] from 51 to 84 (fun iv wx => ∃ K, LinksOld w wx gm K ∧ (∀ o, (K o).length ≤ 20) ∧ Below w5.heap.size w5 wx)
  case first =>
    go_upto_block 99 with fail
    go_loopw [15] (fun iv wr => ∃ i : Nat, i ≤ L.length ∧ i ≤ F.length ∧ iv = .int .i64 i ∧ LinksOld w wr gm (kOf L F i) ∧ (∀ o, (kOf L F i o).length ≤ 20) ∧ Below w5.heap.size w5 wr) (fun iv _ => L.length - (intOf iv).toNat)
    case atStart => exact ⟨0, Nat.zero_le _, Nat.zero_le _, rfl, HLO0.out, fun _ => Nat.zero_le _, HX.out⟩
    case round =>
      obtain ⟨i, hiL, hiF, rfl, hlo, hk20, hk⟩ := hrel
      have HLO := Lib.hid hlo
      have HKI := Lib.hid hk
      have HK20 := Lib.hid hk20
      have d0 := kc hk HC0.out
      clear hlo hk hk20 HLO0 HX
      by_cases hgo : i < L.length ∧ i < F.length
      · skip
        as_aux_lemma =>
          obtain ⟨h1, h2⟩ := hgo
          obtain ⟨gu, ou, rfl, hel⟩ := HAU.out (by omega)
          obtain ⟨rfl, _⟩ := HQ3.out (by omega)
          obtain ⟨uu, hcu0, hru, hbu⟩ := hel i h2
          obtain ⟨ax, cx, rfl, _, _⟩ := hru.form
          have e0 := kc (nest HK5.out HKI.out) hcu0
          have HRU := Lib.hid hru
          have HBU := Lib.hid hbu
          have f0 := kc HKI.out (HQ4.out i h1)
          have HLI : Hid (0 ≤ L.getD i 0 ∧ L.getD i 0 ≤ 4294967295) := Lib.hid (HO.out.2.1 _ (by rw [show L.getD i 0 = L[i] by simp [List.getD, h1]]; exact List.getElem_mem h1))
          have HNEW := Lib.hid (kOf_new HO.out.1 F h1)
          obtain ⟨FS, hFS⟩ : ∃ q, q = F.getD i [] := ⟨_, rfl⟩
          have HFSE := Lib.hid hFS
          rw [← hFS] at HRU HBU HNEW e0
          obtain ⟨li, hli⟩ : ∃ q, q = L.getD i 0 := ⟨_, rfl⟩
          rw [← hli] at HLI HNEW f0
          have h1i : (i : Int) < (L.length : Int) := by omega
          have h2i : (i : Int) < (F.length : Int) := by omega
          have hcl : (L.length : Int) ≤ c2 := by omega
          have hcf : (F.length : Int) ≤ cu := by omega
          have HILT : Hid (i < L.length ∧ i < F.length ∧ L.length ≤ 64) := Lib.hid ⟨h1, h2, hl64⟩
          clear hel hcu0 hru hbu hFS hli h1 h2
          by_cases h20 : 20 < FS.length
          · have h20i : (20 : Int) < (FS.length : Int) := by omega
            go_wp2_with (go_at_call 10; refine (saawake_any wr).mono ?_; rintro e w7 ⟨rfl, hk⟩)
            go_ret
            exact ⟨rfl, nest (nest HK5.out HKI.out) hk⟩
          have h20i : ¬ (20 : Int) < (FS.length : Int) := by omega
          have HF20 : Hid (FS.length ≤ 20) := Lib.hid (by omega)
          clear h20
          go_upto_region 13 with fail
          clear h20i
          have d1 : wr.drew.cell? ⟨rr, 0, none⟩ = some (.slice (some ⟨g2, o2, none⟩) L.length c2) := d0
          have e1 : wr.drew.cell? ⟨gu, ou + i, none⟩ = some (.slice ax FS.length cx) := e0
          have f1 : wr.drew.cell? ⟨g2, o2 + i, none⟩ = some (.int .u32 li) := f0
          have HLO1 := Lib.hid (HLO.out.keep (Below.refl _ _).drew)
          have HKD : Hid (Below w5.heap.size w5 wr.drew) := Lib.hid HKI.out.drew
          refine Run.region_walk (S := fun z => z.cell? ⟨rr, 0, none⟩ = some (.slice (some ⟨g2, o2, none⟩) L.length c2) ∧ z.cell? ⟨gu, ou + i, none⟩ = some (.slice ax FS.length cx) ∧ z.cell? ⟨g2, o2 + i, none⟩ = some (.int .u32 li))
            lswalks.rows12 lswalks.plan12 (l := ?_) (by kernel_rfl) (by kernel_rfl) (by kernel_rfl) (by kernel_rfl) ?_ ⟨d1, e1, f1⟩ ?_
          rotate_left
          (· simp only [lswalks.plan12, Run.stepsOf, Run.stepOf, Run.guardOf, List.getElem?_toArray, List.getElem?_cons_zero, List.getElem?_cons_succ, Option.map_some, Option.map_none, Option.bind_some, Option.toList_some, List.map_cons, List.map_nil, List.cons_append, List.nil_append, List.append_eq]
             rfl)
          repeat ((first
            | (refine Run.takes (v := ?_) ?_ ?_; rotate_left; (· intro w' hS'; (first | (have h1 := hS'.1; have h2 := hS'.2.1; have h3 := hS'.2.2; go_simp; done) | (go_simp; (try with_reducible rfl)))))
            | (refine Run.takesG (v := ?_) ?_ ?_ ?_; rotate_left; (· simp only [List.getElem?_cons_zero, List.getElem?_cons_succ]); (· intro w' hS'; (first | (have h1 := hS'.1; have h2 := hS'.2.1; have h3 := hS'.2.2; go_simp; done) | (go_simp; (try with_reducible rfl)))))
            | (refine Run.skipsT ?_ ?_; (· simp only [List.getElem?_cons_zero, List.getElem?_cons_succ]))
            | (refine Run.skipsF ?_ ?_; (· simp only [List.getElem?_cons_zero, List.getElem?_cons_succ]))
            | (refine Run.skipsU ?_ ?_; (· simp only [List.getElem?_cons_zero, List.getElem?_cons_succ]))
            | (refine Run.passT ?_ ?_; (· simp only [List.getElem?_cons_zero, List.getElem?_cons_succ]))
            | (refine Run.passF ?_ ?_; (· simp only [List.getElem?_cons_zero, List.getElem?_cons_succ]))
            | (refine Run.passU ?_ ?_; (· simp only [List.getElem?_cons_zero, List.getElem?_cons_succ]))
            | fail); simp only [Act.put, List.setIfInBounds_toArray, List.set_cons_zero, List.set_cons_succ])
          obtain ⟨M, hm, hM2, hM3⟩ := HLO1.out
          have HMA := Lib.hid hm
          have HM2 := Lib.hid hM2
          have HM3 := Lib.hid hM3
          clear hm hM2 hM3 HLO HLO1
          refine Run.runs (Run.one (fun hS K1 hK1 => ?_))
          refine wp_store_map rfl u32K Try.underlying33 rfl HMA.out (li, (FS, .slice ax FS.length cx)) rfl rfl (u32key HLI.out) ?_
          intro z3 M3 hm3 hmem3 ho3
          have hcn : ∀ o y, wr.drew.cell? ⟨gm, o, none⟩ ≠ some y := fun o y e => by
            obtain ⟨es, clock, hb, _⟩ := HMA.out
            simp [World.cell?, hb] at e
          have ht3 : Turned (fun j => j = gm) wr.drew z3 := Turned.of_only ho3 rfl
          refine hK1.out _ _ ⟨ht3.cell d1 (fun e => hcn 0 _ (by rw [show rr = gm from e] at d1; exact d1)), ht3.cell e1 (fun e => hcn _ _ (by rw [show gu = gm from e] at e1; exact e1)), ht3.cell f1 (fun e => hcn _ _ (by rw [show g2 = gm from e] at f1; exact f1))⟩ ?_
          have HLN : Hid (LinksOld w z3 gm (kOf L F (i + 1))) := Lib.hid (LinksOld.lay HM2.out HM3.out hm3 hmem3 HLI.out HRU.out HBU.out HNEW.out.1 HNEW.out.2)
          have HLN20 := Lib.hid (kOf_len (L := L) (F := F) (i := i) HK20.out (by rw [← HFSE.out]; exact HF20.out))
          have HK3' : Hid (Below w5.heap.size w5 z3) := Lib.hid (HKD.out.trans (ho3.below (by rw [HGM.out]; exact Nat.le_refl _) HKD.out.size))
          clear hK1 K1 hS hm3 hmem3 ho3 hcn ht3 d1 e1 f1 d0 e0 f0
          try simp only [Act.put, List.setIfInBounds_toArray, List.set_cons_zero, List.set_cons_succ]
          refine Run.ends (fun _ => ?_)
          go_wp2_with fail
          exact ⟨⟨i + 1, by have := HILT.out; omega, by have := HILT.out; omega, by have := HILT.out; go_num, HLN.out, HLN20.out, HK3'.out⟩, by have := HILT.out; simp [intOf]; omega⟩
      · rcases (show ¬ (i : Int) < (L.length : Int) ∨ ((i : Int) < (L.length : Int) ∧ ¬ (i : Int) < (F.length : Int)) by omega) with q1 | ⟨q1, q2⟩
        all_goals
          go_wp2_with fail
          go_meet
          case rel => exact ⟨_, HLO.out, HK20.out, HKI.out⟩
  case rest =>
  obtain ⟨K, hlo, hk20, hk⟩ := hcut
  obtain ⟨w7, hw7⟩ : ∃ z, z = wc := ⟨_, rfl⟩
  subst hw7
  have HLI := Lib.hid (hlo.is (nest HK5.out hk))
  have HK20 := Lib.hid hk20
  have HP7 := Lib.hid (HP5.out.keep hk)
  have HK7 := Lib.hid (nest HK5.out hk)
  have HC7 := Lib.hid (kc hk HC0.out)
  have HV7 := Lib.hid (HQ5.out.keep hk)
  clear hlo hk20 hk HLO0 HX HP5 HK5 HQ3 HQ4 HQ5 HC0 HAU HGM
  go_upto_if 86 with fail
  go_cut [3] from 85 to 86 (fun st wx => st = .int .i64 (min steps 60) ∧ wx = w7)
  case first =>
    by_cases h60 : steps > 60
    · have hm60 : Hid (min steps 60 = 60) := Lib.hid (by omega)
      go_wp2_with fail
      go_meet
      case rel => exact ⟨by rw [hm60.out], rfl⟩
    · have hm60 : Hid (min steps 60 = steps) := Lib.hid (by omega)
      go_wp2_with fail
      go_meet
      case rel => exact ⟨by rw [hm60.out], rfl⟩
  case rest =>
  obtain ⟨rfl, rfl⟩ := hcut
  have HN60 : Hid (-9223372036854775808 ≤ min steps 60 ∧ min steps 60 ≤ 60) := Lib.hid (by have := HBN.out; omega)
  obtain ⟨n, hn⟩ : ∃ n, n = min steps 60 := ⟨_, rfl⟩
  rw [← hn] at HN60 ⊢
  clear hn HBN
  go_upto_region 17 with (go_at_call 11; refine (dnew_any s HBS.out wc).mono ?_; rintro e w8 ⟨d, rfl, hd0, hd, hk⟩)
  have hk9 := more hk (.cells #[.int .u64 s] 39)
  have HE9 := Lib.hid (Blk.new w8 39 #[.int .u64 s])
  have HD9 := Lib.hid (hd.keep (more (Below.refl _ _) (.cells #[.int .u64 s] 39)))
  have HK9 := Lib.hid hk9
  have HDE : Hid (wc.heap.size ≤ d ∧ d < w8.heap.size) := Lib.hid ⟨hd0, hd.lt⟩
  clear hd0 hd hk hk9
  generalize w8.alloc (.cells #[.int .u64 s] 39) = w9 at *
  obtain ⟨ee, hee⟩ : ∃ q, q = w8.heap.size := ⟨_, rfl⟩
  rw [← hee] at HE9 HDE ⊢
  clear hee
  obtain ⟨W, R, hg, hrr, _⟩ := id HP7.out
  have HG9 := Lib.hid (hg.keep HK9.out)
  have HND : Hid (¬ R d) := Lib.hid (fun h => by have := hg.lt h; have := HDE.out; omega)
  have HLI9 := Lib.hid (HLI.out.keep HK9.out)
  clear hg hrr
  have HSW := Lib.hid (swalk_any r d W R L K (.map (some gm)) at_ n s w9 HG9.out HLI9.out (fun o => by have := HK20.out o; omega) HD9.out HND.out HBS.out HBA.out (by have := HN60.out; omega))
  go_upto_region 18 with (go_at_call 12; refine HSW.out.mono ?_; rintro e w10 ⟨x, rfl, hx, hxo, hdd, ht⟩)
  have HX10 := Lib.hid hx
  have HXO := Lib.hid hxo
  have HD10 := Lib.hid hdd
  have HE10 := Lib.hid (Blk.turned HE9.out ht (fun h => by have := HDE.out; omega))
  have HK10 := Lib.hid (sa_turn HK9.out ht HDE.out.1 (Nat.le_refl _))
  have HS910 := Lib.hid ht.size
  obtain ⟨ax, cx, rfl, _, _⟩ := hx.form
  clear hx hxo hdd ht HSW HG9 HLI9 HD9 HND HK9
  have HP10 := Lib.hid (HP7.out.keep HK10.out)
  have HLI10 := Lib.hid (HLI.out.keep HK10.out)
  have HV10 := Lib.hid (HV7.out.keep HK10.out)
  have HK10w := Lib.hid (nest HK7.out HK10.out)
  have HEE : Hid (ee < w9.heap.size ∧ ee < w10.heap.size ∧ w.heap.size ≤ ee ∧ w.heap.size ≤ w10.heap.size) := Lib.hid (by
    have h1 := HE9.out.lt
    have h2 := HS910.out
    have h3 := HDE.out
    have h4 := HK7.out.size
    omega)
  have cc0 := kc HK10.out HC7.out
  have HCC := Lib.hid cc0
  clear HE9 HS910
  go_upto_region 19 with fail
  have HIN := Lib.hid (inU_any _ L at_ w10 HV10.out)
  obtain ⟨cb, hcb⟩ : ∃ b, b = L.contains at_ := ⟨_, rfl⟩
  rw [← hcb] at HIN
  have HCB := Lib.hid hcb
  clear hcb
  go_upto_if 103 with (go_at_call 13; refine HIN.out.mono ?_; rintro e w11 ⟨rfl, hk⟩)
  have HK11 := Lib.hid hk
  have HKC : Hid (∀ z, Turned (fun j => j = ee) w11 z → Below wc.heap.size wc z) := Lib.hid (fun z hz => (nest HK10.out HK11.out).trans (hz.below (nest HK10.out HK11.out).size (fun j hj => by rw [hj]; have := HDE.out; have := HEE.out; omega)))
  have HE11 := Lib.hid (HE10.out.keep hk)
  clear hk HIN cc0
  go_cut [2, 19, 20, 21, 22, 23, 24] from 104 to 159 (fun av wv a1 a2 a3 a4 a5 wx => Rd (intE .u32) wx wv (walkR L K at_ n s) ∧ Blk wx ee 39 #[.int .u64 (walkE L K at_ n s)] ∧ Turned (fun j => j = ee) w11 wx)
  case first =>
    cases cb with
    | false =>
      have hc := HCB.out.symm
      have HW0 : Hid (walkR L K at_ n s = []) := Lib.hid (by unfold walkR; rw [hc]; rfl)
      have HW1 : Hid (walkE L K at_ n s = s) := Lib.hid (by unfold walkE; rw [hc]; rfl)
      clear hc
      go_wp2_with fail
      go_meet
      case rel => exact ⟨by rw [HW0.out]; exact Rd.nil _ _ (Nat.zero_le _), by rw [HW1.out]; exact HE11.out, Turned.refl _ _⟩
    | true =>
      have hc := HCB.out.symm
      obtain ⟨m, hm0⟩ : ∃ m : Nat, m = n.toNat := ⟨_, rfl⟩
      have HM : Hid (m ≤ 60 ∧ ∀ i : Nat, (i : Int) < n ↔ i < m) := Lib.hid (by have := HN60.out; exact ⟨by omega, fun i => by omega⟩)
      have HST : Hid (stepsN n = m) := Lib.hid (by have := HN60.out; unfold stepsN; omega)
      have HW0 : Hid (walkR L K at_ n s = walkL L K at_ s m) := Lib.hid (by unfold walkR; rw [hc, if_pos rfl, HST.out])
      have HW1 : Hid (walkE L K at_ n s = (hops L K at_ s m).2) := Lib.hid (by unfold walkE; rw [hc, if_pos rfl, HST.out])
      have HAL : Hid (at_ ∈ L) := Lib.hid (by simpa using hc)
      clear hc hm0 HST
      have hX := more (Below.refl w11.heap.size w11) (.cells #[.int .u32 at_] 24)
      have HX := Lib.hid (Row.lit (E := intE .u32) (T := 24) w11.heap.size w11 #[.int .u32 at_] [at_] 1 w11.heap.size rfl rfl rfl (Nat.le_refl _) (by simp [maxLen]))
      have HXB := Lib.hid hX
      clear hX
      go_upto_region 21 with (at_builtin; refine wpList_append (E := intE .u32) (B := w11.heap.size) (l := []) (m := [at_]) (bytes := 4) rgElem Nat.zero_lt_one rfl (.tmp 104) (.tmp 106) rfl rfl Row.nil rfl HX.out.rd (by simp [maxLen]) (by simp) HXB.out.size ?_; intro v9 w12 hr9 hk9 hg9 _; rw [List.nil_append] at hr9)
      have HR12 := Lib.hid hr9
      have HT12 : Hid (Turned (fun j => j = ee) w11 w12) := Lib.hid (Turned.of_below (HXB.out.trans hk9))
      have HE12 := Lib.hid (HE11.out.keep (HXB.out.trans hk9))
      have HEB : Hid (ee < w11.heap.size) := Lib.hid HE11.out.lt
      clear hr9 hk9 hg9 HX HXB HE11
      go_upto_block 99 with fail
      go_loopw [2, 19, 20] (fun av wv iv wr => ∃ i : Nat, i ≤ m ∧ av = .int .u32 (hops L K at_ s i).1 ∧ iv = .int .i64 i ∧ Row (intE .u32) 24 w11.heap.size wr wv (walkL L K at_ s i) ∧ Blk wr ee 39 #[.int .u64 (hops L K at_ s i).2] ∧ Turned (fun j => j = ee) w11 wr) (fun _ _ iv _ => m - (intOf iv).toNat)
      case atStart => exact ⟨0, Nat.zero_le _, rfl, rfl, HR12.out, HE12.out, HT12.out⟩
      case round =>
        obtain ⟨i, him, rfl, rfl, hrow, hbe, htn⟩ := hrel
        have HRW := Lib.hid hrow
        have HEW := Lib.hid hbe
        have HTW := Lib.hid htn
        obtain ⟨aw, cw, rfl, _, _⟩ := hrow.rd.form
        clear hrow hbe htn HR12 HE12 HT12
        obtain ⟨w13, hw13⟩ : ∃ z, z = wr := ⟨_, rfl⟩
        subst hw13
        by_cases hlt : i < m
        · have hlt' : (i : Int) < n := (HM.out.2 i).2 hlt
          have hlt60 : (i : Int) < 60 := by have := HM.out.1; omega
          have HWS := Lib.hid (walkL_step L K at_ s i)
          have HHS := Lib.hid (hops_succ L K at_ s i)
          have HHM := Lib.hid (hops_mem (K := K) (s := s) HAL.out i)
          have HHB := Lib.hid (hops_bd (L := L) (K := K) (a := at_) HBS.out i)
          have HWL := Lib.hid (walkL_len L K at_ s i)
          obtain ⟨q', hq'⟩ : ∃ q, q = hops L K at_ s (i + 1) := ⟨_, rfl⟩
          rw [← hq'] at HHS HWS
          have HQE := Lib.hid hq'
          obtain ⟨V', hV'⟩ : ∃ q, q = walkL L K at_ s (i + 1) := ⟨_, rfl⟩
          rw [← hV'] at HWS
          have HVE := Lib.hid hV'
          clear hq' hV'
          generalize hops L K at_ s i = q at *
          generalize walkL L K at_ s i = V at *
          obtain ⟨ac, tc⟩ := q
          dsimp only at *
          have hbz := HKC.out w13 HTW.out
          have HRR := Lib.hid (HP7.out.keep hbz).two
          have HVZ := Lib.hid (HV7.out.keep hbz)
          have HCZ := Lib.hid (kc hbz HC7.out)
          have HBC := Lib.hid (HO.out.2.1 _ HHM.out)
          have hkl20 := HK20.out ac
          obtain ⟨uK, hlk, huK⟩ := (HLI.out.keep hbz).lookAll HBC.out
          have HLK := Lib.hid hlk
          have HSM := Lib.hid (pickL_all L K ac)
          obtain ⟨KA, hKA⟩ : ∃ q, q = K ac := ⟨_, rfl⟩
          rw [← hKA] at huK HSM hkl20
          clear hKA
          obtain ⟨aK, gK, oK, cK, rfl, hcK, hmK, haK, hceK⟩ := Mem.Rd.loopI huK
          have hmK' : cK ≤ 9223372036854775807 := hmK
          have HAK := Lib.hid haK
          have HCK := Lib.hid hceK
          clear hbz hlk huK hmK haK hceK
          have HNX := Lib.hid (rrnext_any rr L ac w13 HRR.out)
          generalize (nextR L ac).2 = nb at *
          generalize (nextR L ac).1 = nx at *
          go_upto_region 25 with (go_at_call 14; refine HNX.out.mono ?_; rintro e w14 ⟨rfl, hk⟩)
          have HK14 := Lib.hid hk
          clear hk HNX
          have hX := more (Below.refl w14.heap.size w14) (.cells #[.int .u32 nx] 24)
          have HX15 := Lib.hid (Row.lit (E := intE .u32) (T := 24) w14.heap.size w14 #[.int .u32 nx] [nx] 1 w14.heap.size rfl rfl rfl (Nat.le_refl _) (by simp [maxLen]))
          have HK15 := Lib.hid hX
          clear hX
          go_upto_region 26 with fail
          generalize w14.alloc (.cells #[.int .u32 nx] 24) = w15 at *
          go_upto_block 99 with fail
          go_loopw [23, 24] (fun sv kv wr => ∃ k : Nat, k ≤ KA.length ∧ kv = .int .i64 k ∧ Row (intE .u32) 24 w14.heap.size wr sv (pickL L nx KA k) ∧ Below w14.heap.size w14 wr) (fun _ kv _ => KA.length - (intOf kv).toNat)
          case atStart => exact ⟨0, Nat.zero_le _, rfl, by rw [pickL_zero]; exact HX15.out, HK15.out⟩
          case round =>
            obtain ⟨k, hkl, rfl, hrs, hbs⟩ := hrel
            have HRS := Lib.hid hrs
            have HBS2 := Lib.hid hbs
            obtain ⟨asx, csx, rfl, hsx1, hsx2⟩ := hrs.rd.form
            have hsx2' : csx ≤ 9223372036854775807 := hsx2
            obtain ⟨w16, hw16⟩ : ∃ z, z = wr := ⟨_, rfl⟩
            subst hw16
            have HK16 := Lib.hid (nest HK14.out hbs)
            have hlk0 := HLK.out w16 HK16.out
            clear hrs hbs HX15 HK15
            by_cases hkn : k < KA.length
            · obtain ⟨rfl, hgk⟩ := HAK.out (by omega)
              have hkn' : (k : Int) < (KA.length : Int) := by omega
              have hkc' : (KA.length : Int) ≤ cK := by omega
              obtain ⟨y, hy⟩ : ∃ y, y = KA.getD k 0 := ⟨_, rfl⟩
              have HY := Lib.hid hy
              have e0 : w13.cell? ⟨gK, oK + k, none⟩ = some (.int .u32 y) := by rw [hy]; exact HCK.out k hkn
              have HE0 := Lib.hid e0
              have HTK := Lib.hid (pickL_step L nx KA hkn)
              rw [← hy] at HTK
              have HLL : Hid ((pickL L nx KA k).length ≤ 21) := Lib.hid (by have := pickL_len L nx KA k; omega)
              obtain ⟨S, hS0⟩ : ∃ q, q = pickL L nx KA k := ⟨_, rfl⟩
              rw [← hS0] at HRS HLL HTK ⊢
              have HIN2 := Lib.hid (fun z (hz : Below w13.heap.size w13 z) => inU_any _ L y z (HVZ.out.keep hz))
              obtain ⟨cy, hcy⟩ : ∃ b, b = L.contains y := ⟨_, rfl⟩
              rw [← hcy] at HIN2 HTK
              clear hy e0 hcy hS0
              go_upto_region 29 with fail
              have g0 : w16.drew.cell? ⟨rr, 0, none⟩ = some (.slice a2 L.length c2) := kc HK16.out HCZ.out
              have g1 : w16.drew.cell? ⟨gK, oK + k, none⟩ = some (.int .u32 y) := kc HK16.out HE0.out
              clear hlk0
              refine Run.region_walk (S := fun z => z.cell? ⟨rr, 0, none⟩ = some (.slice a2 L.length c2) ∧ z.cell? ⟨gK, oK + k, none⟩ = some (.int .u32 y) ∧ Below w16.heap.size w16 z)
                lswalks.rows27 lswalks.plan27b (l := ?steps2) (by kernel_rfl) (by kernel_rfl) (by kernel_rfl) (by kernel_rfl) ?written2 ⟨g0, g1, (Below.refl _ _).drew⟩ ?onward2
              case written2 =>
                simp only [lswalks.plan27b, Run.stepsOf, Run.stepOf, Run.guardOf, List.getElem?_toArray, List.getElem?_cons_zero, List.getElem?_cons_succ, Option.map_some, Option.map_none, Option.bind_some, Option.toList_some, List.map_cons, List.map_nil, List.cons_append, List.nil_append, List.append_eq]
                rfl
              repeat ((first
                | (refine Run.takes (v := ?_) ?_ ?_; rotate_left; (· intro w' hS'; (first | (refine exec_look1 (m := .tmp 133) (x := .tmp 134) (r := .slice (some ⟨gK, oK, none⟩) KA.length cK) (u := .map (some gm)) (k := .int .u32 ac) (t := 33) ?_ ?_ ?_ (HLK.out _ (nest HK16.out hS'.2.2)) <;> rfl) | (have h1 := hS'.1; have h2 := hS'.2.1; go_simp; done) | (go_simp; (try with_reducible rfl)))))
                | (refine Run.takesG (v := ?_) ?_ ?_ ?_; rotate_left; (· simp only [List.getElem?_cons_zero, List.getElem?_cons_succ]); (· intro w' hS'; (first | (refine exec_look1 (m := .tmp 133) (x := .tmp 134) (r := .slice (some ⟨gK, oK, none⟩) KA.length cK) (u := .map (some gm)) (k := .int .u32 ac) (t := 33) ?_ ?_ ?_ (HLK.out _ (nest HK16.out hS'.2.2)) <;> rfl) | (have h1 := hS'.1; have h2 := hS'.2.1; go_simp; done) | (go_simp; (try with_reducible rfl)))))
                | (refine Run.skipsT ?_ ?_; (· simp only [List.getElem?_cons_zero, List.getElem?_cons_succ]))
                | (refine Run.skipsF ?_ ?_; (· simp only [List.getElem?_cons_zero, List.getElem?_cons_succ]))
                | (refine Run.skipsU ?_ ?_; (· simp only [List.getElem?_cons_zero, List.getElem?_cons_succ]))
                | (refine Run.passT ?_ ?_; (· simp only [List.getElem?_cons_zero, List.getElem?_cons_succ]))
                | (refine Run.passF ?_ ?_; (· simp only [List.getElem?_cons_zero, List.getElem?_cons_succ]))
                | (refine Run.passU ?_ ?_; (· simp only [List.getElem?_cons_zero, List.getElem?_cons_succ]))
                | (refine Run.runs ?_
                   (first
                   | (refine Run.callF 13 (by kernel_rfl) (fun hS => HIN2.out _ (nest HK16.out hS.2.2)) rfl ?_)
                   | (refine Run.callG 13 (by kernel_rfl) ?_ (fun hS => HIN2.out _ (nest HK16.out hS.2.2)) rfl ?_; (· simp only [List.getElem?_cons_zero, List.getElem?_cons_succ]))
                   | fail)
                   (first
                   | (rintro hS e w' ⟨rfl, rfl⟩; refine ⟨_, rfl, hS, ?_⟩)
                   | (rintro hS e w' ⟨rfl, hb⟩; refine ⟨_, rfl, ⟨kc hb hS.1, kc hb hS.2.1, nest hS.2.2 hb⟩, ?_⟩)
                   | fail))
                | fail); simp only [Act.put, List.setIfInBounds_toArray, List.set_cons_zero, List.set_cons_succ])
              refine Run.ends (fun hS => ?_)
              have HK17 := Lib.hid hS.2.2
              clear hS g0 g1 HIN2
              have HRS17 := Lib.hid (HRS.out.keep HK17.out)
              cases cy with
              | false =>
                have HTE : Hid (pickL L nx KA (k + 1) = S) := Lib.hid (by rw [HTK.out]; simp)
                clear HTK
                go_wp2_with fail
                exact ⟨⟨k + 1, by omega, by go_num, by rw [HTE.out]; exact HRS17.out, nest HBS2.out HK17.out⟩, by simp [intOf]; omega⟩
              | true =>
                have HTE : Hid (pickL L nx KA (k + 1) = S ++ [y]) := Lib.hid (by rw [HTK.out]; simp)
                clear HTK
                obtain ⟨w17, hw17⟩ : ∃ z, z = w' := ⟨_, rfl⟩
                rw [← hw17] at HK17 HRS17 ⊢
                clear hw17
                have hlk1 := HLK.out w17 (nest HK16.out HK17.out)
                have g1 := kc (nest HK16.out HK17.out) HE0.out
                have hX := more (Below.refl w17.heap.size w17) (.cells #[.int .u32 y] 24)
                have HX18 := Lib.hid (Row.lit (E := intE .u32) (T := 24) w17.heap.size w17 #[.int .u32 y] [y] 1 w17.heap.size rfl rfl rfl (Nat.le_refl _) (by simp [maxLen]))
                have HK18 := Lib.hid hX
                have HRS18 := Lib.hid (HRS17.out.keep hX)
                have HKB18 := Lib.hid (nest (nest HBS2.out HK17.out) hX)
                clear hX
                go_upto_if 99 with (at_builtin; go_must (refine wpList_append (E := intE .u32) (B := w14.heap.size) (l := S) (m := [y]) (bytes := 4) rgElem Nat.zero_lt_one rfl (.tmp 140) (.tmp 147) rfl rfl HRS18.out rfl HX18.out.rd (by have := HLL.out; simp [maxLen]; omega) (by have := HLL.out; simp; omega) HKB18.out.size ?_); intro v9 y9 hr9 hk9 hg9 _)
                have hrf := hr9
                rw [← HTE.out] at hrf
                exact ⟨⟨k + 1, by omega, by go_num, hrf, HKB18.out.trans hk9⟩, by simp [intOf]; omega⟩
            · have hkn' : ¬ (k : Int) < (KA.length : Int) := by omega
              have hkk : k = KA.length := by omega
              rw [hkk, HSM.out] at HRS
              rw [hkk, HSM.out]
              clear hkk
              have HSP := Lib.hid (someL_pos L K ac)
              have HQ1 : Hid (q'.1 = (someL L K ac).getD (droll tc (someL L K ac).length).toNat 0) := Lib.hid (by rw [HHS.out]; exact hop_fst L K (ac, tc))
              have HQ2 : Hid (q'.2 = dafter tc (someL L K ac).length) := Lib.hid (by rw [HHS.out]; exact hop_snd L K (ac, tc))
              have HSL : Hid ((someL L K ac).length ≤ 21) := Lib.hid (by have := pickL_len L nx KA KA.length; rw [HSM.out] at this; omega)
              obtain ⟨S, hS0⟩ : ∃ q, q = someL L K ac := ⟨_, rfl⟩
              rw [← hS0] at HRS HSP HQ1 HQ2 HSL ⊢
              clear hS0 HSM HHS
              have HDI := Lib.hid (droll_in tc HSP.out)
              obtain ⟨kk, hkk1, hkk2⟩ : ∃ kk : Nat, kk < S.length ∧ droll tc S.length = (kk : Int) := ⟨(droll tc S.length).toNat, HDI.out.2.2, by have := HDI.out.1; omega⟩
              have HRO := Lib.hid (rdroll_any ee tc HHB.out S.length (by have := HSL.out; omega) w16 (HEW.out.keep HK16.out))
              rw [hkk2] at HRO HQ1
              have HKK := Lib.hid hkk1
              rw [Int.toNat_natCast] at HQ1
              clear hkk2 hkk1 HDI
              go_upto_region 31 with fail
              clear hlk0 hkn' hkn
              go_wp2_with fail
              refine HRO.out.mono ?_
              rintro e w18 ⟨rfl, hbe, hon⟩
              have HE18 := Lib.hid hbe
              have HON := Lib.hid hon
              have hS18 := HRS.out.only hon (fun e => by have := (HRS.out.block ee e).1; have h1 := HK14.out.size; have h2 := HTW.out.size; have := HEB.out; omega)
              obtain ⟨aS, gS, oS, cS, hvS, _, _, haS, hceS⟩ := Mem.Rd.loopI hS18.rd
              injection hvS with hv1 hv2 hv3
              obtain ⟨hv4, _⟩ := haS HSP.out
              rw [hv4] at hv1
              subst hv1
              have f0 := hceS kk HKK.out
              obtain ⟨nw, hnw⟩ : ∃ q, q = S.getD kk 0 := ⟨_, rfl⟩
              rw [← hnw] at f0 HQ1
              have hkl1 : (kk : Int) < (S.length : Int) := by have := HKK.out; omega
              have hkc1 : (S.length : Int) ≤ csx := by omega
              clear hbe hon hceS hv2 hv3 hv4 haS hnw HRO
              have hW18 := (HRW.out.keep HK16.out).only HON.out (fun e => by have := (HRW.out.block ee e).1; have := HEB.out; omega)
              have HW18 := Lib.hid hW18
              have hX := more (Below.refl w18.heap.size w18) (.cells #[.int .u32 nw] 24)
              have HX19 := Lib.hid (Row.lit (E := intE .u32) (T := 24) w18.heap.size w18 #[.int .u32 nw] [nw] 1 w18.heap.size rfl rfl rfl (Nat.le_refl _) (by simp [maxLen]))
              have HW19 := Lib.hid (hW18.keep hX)
              have HT18 : Hid (Turned (fun j => j = ee) w11 w18) := Lib.hid ((HTW.out.trans (Turned.of_below (S := fun j => j = ee) HK16.out) (fun _ _ h => h)).trans (Turned.of_only (S := fun j => j = ee) HON.out rfl) (fun _ _ h => h))
              have HE19 := Lib.hid (HE18.out.keep hX)
              have HT19 : Hid (Turned (fun j => j = ee) w11 (w18.alloc (.cells #[.int .u32 nw] 24))) := Lib.hid (HT18.out.alloc _)
              have HSZ : Hid (w11.heap.size ≤ (w18.alloc (.cells #[.int .u32 nw] 24)).heap.size) := Lib.hid HT19.out.size
              have HVL : Hid (V.length ≤ 61) := Lib.hid (by have := HM.out.1; have := HWL.out; omega)
              clear hX hW18
              go_upto_if 99 with (at_builtin; go_must (refine wpList_append (E := intE .u32) (B := w11.heap.size) (l := V) (m := [nw]) (bytes := 4) rgElem Nat.zero_lt_one rfl (.tmp 156) (.tmp 158) rfl rfl HW19.out rfl HX19.out.rd (by have := HVL.out; simp [maxLen]; omega) (by have := HVL.out; simp; omega) HSZ.out ?_); intro v9 y9 hr9 hk9 hg9 _)
              have hrf := hr9
              rw [← HQ1.out, ← HWS.out] at hrf
              have hef := HE19.out.below hk9 (by have := HT19.out.size; have := HEB.out; omega)
              rw [← HQ2.out] at hef
              have htf := turned_upto HT19.out hk9
              exact ⟨⟨i + 1, by omega, by rw [← HQE.out, HQ1.out], by go_num, by rw [← HVE.out]; exact hrf, by rw [← HQE.out]; exact hef, htf⟩, by simp [intOf]; omega⟩
        · have hlt' : ¬ (i : Int) < n := fun e => hlt ((HM.out.2 i).1 e)
          have hi : i = m := by omega
          subst hi
          go_wp2_with fail
          go_meet
          case rel => exact ⟨by rw [HW0.out]; exact HRW.out.rd, by rw [HW1.out]; exact HEW.out, HTW.out⟩
  case rest =>
  obtain ⟨hwr, hbe, htn⟩ := hcut
  obtain ⟨aw, cw, rfl, _, _⟩ := hwr.form
  have HWR := Lib.hid hwr
  have HXC := Lib.hid ((HX10.out.keep HK11.out).turned htn (fun g hg e => by have := HXO.out g hg; have := HEE.out; omega))
  have HDC : Hid (DAt wc d (walkE L K at_ n s)) := Lib.hid (Blk.turned (HD10.out.keep HK11.out) htn (fun e => by have := HDE.out; omega))
  have HEC := Lib.hid hbe
  have HKC1 : Hid (Below w.heap.size w wc) := Lib.hid ((nest HK10w.out HK11.out).trans (htn.below (nest HK10w.out HK11.out).size (fun j hj => by rw [hj]; exact HEE.out.2.2.1)))
  have HEB := Lib.hid (walkE_bd L K at_ n HBS.out)
  have HDB : Hid (w.heap.size ≤ d ∧ w.heap.size ≤ ee ∧ d ≠ ee) := Lib.hid (by have h1 := HDE.out; have h2 := HEE.out; have h3 := HK7.out.size; omega)
  generalize walkE L K at_ n s = te at *
  generalize walkR L K at_ n s = V at *
  clear hwr hbe htn HX10 HXO HD10 HE10 HK10 HK11 HKC HE11
  go_wp2_with fail
  refine (saawake_any wc).mono ?_
  rintro e z1 ⟨rfl, hk⟩
  have HR1 := Lib.hid (HWR.out.keep hk)
  have HX1 := Lib.hid (HXC.out.keep hk)
  have HD1 := Lib.hid (HDC.out.keep hk)
  have HE1 := Lib.hid (HEC.out.keep hk)
  have HK1 := Lib.hid (nest HKC1.out hk)
  clear hk HWR HXC HDC HEC HKC1
  go_wp2_with fail
  refine (plainU_yes _ _ V z1 HX1.out HR1.out).mono ?_
  rintro e z2 ⟨rfl, hk⟩
  have HD2 := Lib.hid (HD1.out.keep hk)
  have HE2 := Lib.hid (HE1.out.keep hk)
  have HK2 := Lib.hid (nest HK1.out hk)
  clear hk HR1 HX1 HD1 HE1 HK1
  go_wp2_with fail
  refine (dstep_any d te HEB.out z2 HD2.out).mono ?_
  rintro e z3 ⟨rfl, _, ho⟩
  have HE3 := Lib.hid (HE2.out.only ho (fun e => HDB.out.2.2 e.symm))
  have HK3 := Lib.hid (HK2.out.trans (ho.below HDB.out.1 HK2.out.size))
  clear ho HE2 HD2 HK2
  go_wp2_with fail
  refine (rdstep_any ee te HEB.out z3 HE3.out).mono ?_
  rintro e z4 ⟨rfl, _, ho⟩
  have HK4 := Lib.hid (HK3.out.trans (ho.below HDB.out.2.1 HK3.out.size))
  clear ho HE3 HK3
  generalize dmix (dnext te) = ds at *
  go_wp2_with fail
  go_ret
  exact ⟨by simp, HK4.out⟩
end Go.Proofs.Ytgkfioloceemcaa.sampleWalks
