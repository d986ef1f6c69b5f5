/- Walks of package greedy: where to go on; a way. -/
import Derived.Test.YtbhnpidbgckinaaRingC
import Derived.Test.YtbhnpidbgckinaaGoMath
import Derived.Test.YtbhnpidbgckinaaGrMap
import Derived.Test.YtbhnpidbgckinaaWalk
import Derived.Deep.CutBlock
import Derived.Deep.Light
set_option maxRecDepth 4000
namespace Go.Proofs.Ytbhnpidbgckinaa
open Go.RowKit Mem
set_option linter.unusedSimpArgs false
set_option linter.unusedVariables false
attribute [local irreducible] Go.Calls

/-- where the next one owns v no link lies farther on and ahead of v -/
theorem goB_own {L : List Int} (h : okR L) {a v : Int} (bv : 0 ≤ v ∧ v ≤ 4294967295) (ha : a ∈ L) (hne : (ownR L v).1 ≠ a) (he : (ownR L v).1 = (nextR L a).1) (l : List Int) : goB L l a v = (nextR L a).1 := by
  obtain ⟨_, h1, _⟩ := own_behind h bv ha hne
  rw [he] at h1
  unfold goB
  induction l with
  | nil => rfl
  | cons q l ih =>
    rw [List.foldl_cons, show goStep L a v (nextR L a).1 q = (nextR L a).1 by unfold goStep; rw [if_neg]; rintro ⟨_, q1, q2⟩; omega]
    exact ih
theorem goR_same {L : List Int} (h : okR L) {a v : Int} (bv : 0 ≤ v ∧ v ≤ 4294967295) (ha : a ∈ L) (hne : (ownR L v).1 ≠ a) (l : List Int) : goR L l a v = (goB L l a v, true) := by
  rw [goR_is l ha hne]
  split
  · rename_i e
    rw [goB_own h bv ha hne e]
  · rfl
theorem gcount_any (x y : Int) (w : World) : Calls Try.prog 25 #[.int .u32 x, .int .u32 y] w fun e w' => e = .returned (.int .u32 (stp x y)) ∧ w' = w := by
  have HR : Hid (stp x y = Cir.far x y) := Lib.hid (by unfold stp Cir.far; rfl)
  go_enter Try.func25, Try.ntmps25
  go_wp2_with fail
  refine (far_any x y w).mono ?_
  rintro e z ⟨rfl, rfl⟩
  go_wp2_with fail
  go_ret
  exact ⟨by rw [HR.out]; rfl, rfl⟩
set_option maxRecDepth 100000 in
set_option maxHeartbeats 4000000 in
theorem gnext_any (b : Nat) (W R : Nat → Prop) (L l : List Int) (u : Value) (a v : Int) (w : World) (h : RgAt w b W R L) (hu : Rd (intE .u32) w u l) (hl : ∀ x ∈ l, 0 ≤ x ∧ x ≤ 4294967295) (ba : 0 ≤ a ∧ a ≤ 4294967295) (bv : 0 ≤ v ∧ v ≤ 4294967295) :
    Calls Try.prog 11 #[.pointer (some ⟨b, 0, none⟩), u, .int .u32 a, .int .u32 v] w fun e w' => e = .returned (.tuple #[.int .u32 (goR L l a v).1, .bool (goR L l a v).2]) ∧ Below w.heap.size w w' := by
  have HO := Lib.hid h.ok
  have HHS : Hid (∀ z x, Below w.heap.size w z → (0 ≤ x ∧ x ≤ 4294967295) → Calls Try.prog 23 #[.pointer (some ⟨b, 0, none⟩), .int .u32 x] z fun e w' => e = .returned (.bool (L.contains x)) ∧ Below z.heap.size z w') := Lib.hid fun z x hz bx => rghas_any b W R L x z (h.turned (S := fun _ => False) (Turned.of_below hz) (fun _ _ h => h)) bx
  have HNX : Hid (∀ z, Below w.heap.size w z → Calls Try.prog 24 #[.pointer (some ⟨b, 0, none⟩), .int .u32 a] z fun e w' => e = .returned (.tuple #[.int .u32 (nextR L a).1, .bool (nextR L a).2]) ∧ Below z.heap.size z w') := Lib.hid fun z hz => rgnext_any b W R L a z (h.turned (S := fun _ => False) (Turned.of_below hz) (fun _ _ h => h)) ba
  have HOW := Lib.hid (rgowner_any b W R L v w h bv)
  have HBA := Lib.hid ba
  have HBV := Lib.hid bv
  have HBL := Lib.hid hl
  obtain ⟨au, gu, ou, cu, rfl, hcu, hmu, hau, heu⟩ := Mem.Rd.loopI hu
  have hmu' : cu ≤ 9223372036854775807 := hmu
  have HAU := Lib.hid hau
  have HEU := Lib.hid heu
  obtain ⟨RES, hRES⟩ : ∃ r, r = goR L l a v := ⟨_, rfl⟩
  rw [← hRES]
  have HRES := Lib.hid hRES
  obtain ⟨ow, how⟩ : ∃ x, x = (ownR L v).1 := ⟨_, rfl⟩
  have HOV := Lib.hid how
  rw [← how] at HOW
  clear h hu hl ba bv hau heu hmu hRES how
  go_enter Try.func11, Try.ntmps11
  go_upto_region 2 with (go_at_call 22; refine HOW.out.mono ?_; rintro e w1 ⟨rfl, hk⟩)
  have HK := Lib.hid hk
  clear hk HOW
  by_cases hoa : ow = a
  · have HF : Hid (RES = (0, false)) := Lib.hid (by rw [HRES.out]; exact goR_false l (.inr (by rw [← HOV.out]; exact hoa)))
    have hoe : (ow == a) = true := by simpa using hoa
    clear hoa
    go_wp2_with fail
    go_ret2
    exact ⟨by rw [HF.out]; rfl, HK.out⟩
  have hoe : (ow == a) = false := beq_eq_false_iff_ne.2 hoa
  have HOA : Hid ((ownR L v).1 ≠ a) := Lib.hid (by rw [← HOV.out]; exact hoa)
  clear hoa
  obtain ⟨cn, hcn⟩ : ∃ x, x = L.contains a := ⟨_, rfl⟩
  have HCA := Lib.hid (HHS.out w1 a HK.out HBA.out)
  rw [← hcn] at HCA
  have HCN := Lib.hid hcn
  clear hcn
  cases cn with
  | false =>
    have HF : Hid (RES = (0, false)) := Lib.hid (by rw [HRES.out]; exact goR_false l (.inl HCN.out.symm))
    go_wp2_with (go_at_call 23; refine HCA.out.mono ?_; rintro e w2 ⟨rfl, hk2⟩)
    go_ret2
    exact ⟨by rw [HF.out]; rfl, nest HK.out hk2⟩
  | true =>
    have HAL : Hid (a ∈ L) := Lib.hid (by have := HCN.out.symm; simpa using this)
    have HF : Hid (RES = (goB L l a v, true)) := Lib.hid (by rw [HRES.out]; exact goR_same HO.out HBV.out HAL.out HOA.out l)
    go_upto_region 4 with (go_at_call 23; refine HCA.out.mono ?_; rintro e w2 ⟨rfl, hk2⟩)
    have HK2 := Lib.hid (nest HK.out hk2)
    clear hk2 HK hoe HCA
    obtain ⟨nx, hnx⟩ : ∃ x, x = (nextR L a).1 := ⟨_, rfl⟩
    have HNV := Lib.hid hnx
    have HNC := Lib.hid (HNX.out w2 HK2.out)
    rw [← hnx] at HNC
    generalize (nextR L a).2 = nis at HNC
    clear hnx
    go_upto_region 5 with (go_at_call 24; refine HNC.out.mono ?_; rintro e w3 ⟨rfl, hk3⟩)
    have HK3 := Lib.hid (nest HK2.out hk3)
    clear hk3 HNC HK2
    go_upto_block 99 with fail
    go_loopw [12, 40] (fun bv' iv wr => ∃ i : Nat, i ≤ l.length ∧ iv = .int .i64 i ∧ bv' = .int .u32 (goB L (l.take i) a v) ∧ Below w.heap.size w wr) (fun _ iv _ => l.length - (intOf iv).toNat)
    case atStart => exact ⟨0, Nat.zero_le _, rfl, by rw [HNV.out]; rfl, HK3.out⟩
    case round =>
      obtain ⟨i, hi, rfl, rfl, hk⟩ := hrel
      have HKI := Lib.hid hk
      obtain ⟨best, hbest⟩ : ∃ x, x = goB L (l.take i) a v := ⟨_, rfl⟩
      have HBE := Lib.hid hbest
      rw [← hbest]
      clear hbest HK3
      by_cases hlt : i < l.length
      · skip
        as_aux_lemma =>
          obtain ⟨rfl, _⟩ := HAU.out (by omega)
          have e0 := kc hk (HEU.out i hlt)
          have HST := Lib.hid (goB_step L a v hlt)
          rw [← HBE.out] at HST
          have HBQ := Lib.hid (HBL.out (l.getD i 0) (by rw [show l.getD i 0 = l[i] by simp [List.getD, hlt]]; exact List.getElem_mem hlt))
          obtain ⟨q, hq⟩ : ∃ x, x = l.getD i 0 := ⟨_, rfl⟩
          rw [← hq] at e0 HST HBQ
          have HILT := Lib.hid hlt
          have hil : (i : Int) < (l.length : Int) := by omega
          have hcl : (l.length : Int) ≤ cu := by omega
          have HINQ := Lib.hid (HHS.out wr q HKI.out HBQ.out)
          obtain ⟨qc, hqc⟩ : ∃ x, x = L.contains q := ⟨_, rfl⟩
          have HQC := Lib.hid hqc
          rw [← hqc] at HINQ
          clear hq hk hqc hi hlt
          by_cases h1 : stp a best < stp a q
          · by_cases h2 : stp a q < stp a v
            · cases qc with
              | true =>
                have HN : Hid (goB L (l.take (i + 1)) a v = q) := Lib.hid (by rw [HST.out]; unfold goStep; rw [if_pos ⟨HQC.out.symm, h1, h2⟩])
                go_wp2_with (first | (go_at_call 25; refine (gcount_any _ _ _).mono ?_; rintro e z ⟨rfl, rfl⟩) | (go_at_call 23; refine HINQ.out.mono ?_; rintro e w4 ⟨rfl, hk4⟩))
                exact ⟨⟨i + 1, by have := HILT.out; omega, by go_num, by rw [HN.out], nest HKI.out hk4⟩, by have := HILT.out; simp [intOf]; omega⟩
              | false =>
                have HN : Hid (goB L (l.take (i + 1)) a v = best) := Lib.hid (by rw [HST.out]; unfold goStep; rw [if_neg]; intro h; rw [h.1] at HQC; have := HQC.out; cases this)
                go_wp2_with (first | (go_at_call 25; refine (gcount_any _ _ _).mono ?_; rintro e z ⟨rfl, rfl⟩) | (go_at_call 23; refine HINQ.out.mono ?_; rintro e w4 ⟨rfl, hk4⟩))
                exact ⟨⟨i + 1, by have := HILT.out; omega, by go_num, by rw [HN.out], nest HKI.out hk4⟩, by have := HILT.out; simp [intOf]; omega⟩
            · have HN : Hid (goB L (l.take (i + 1)) a v = best) := Lib.hid (by rw [HST.out]; unfold goStep; rw [if_neg (fun h => h2 h.2.2)])
              go_wp2_with (first | (go_at_call 25; refine (gcount_any _ _ _).mono ?_; rintro e z ⟨rfl, rfl⟩) | (go_at_call 23; refine HINQ.out.mono ?_; rintro e w4 ⟨rfl, hk4⟩))
              exact ⟨⟨i + 1, by have := HILT.out; omega, by go_num, by rw [HN.out], HKI.out⟩, by have := HILT.out; simp [intOf]; omega⟩
          · have HN : Hid (goB L (l.take (i + 1)) a v = best) := Lib.hid (by rw [HST.out]; unfold goStep; rw [if_neg (fun h => h1 h.2.1)])
            go_wp2_with (first | (go_at_call 25; refine (gcount_any _ _ _).mono ?_; rintro e z ⟨rfl, rfl⟩) | (go_at_call 23; refine HINQ.out.mono ?_; rintro e w4 ⟨rfl, hk4⟩))
            exact ⟨⟨i + 1, by have := HILT.out; omega, by go_num, by rw [HN.out], HKI.out⟩, by have := HILT.out; simp [intOf]; omega⟩
      · have hil : ¬ (i : Int) < (l.length : Int) := by omega
        have hie : i = l.length := by omega
        subst hie
        rw [List.take_length] at HBE
        go_wp2_with fail
        go_ret2
        exact ⟨by rw [HF.out, ← HBE.out]; rfl, HKI.out⟩
def lenV : Value → Nat
  | .slice _ n _ => n
  | _ => 0
set_option maxRecDepth 100000 in
set_option maxHeartbeats 4000000 in
theorem gway_any (b : Nat) (W R : Nat → Prop) (L : List Int) (K : Int → List Int) (mv : Value) (a v : Int) (w : World) (h : RgAt w b W R L) (hm : LinksIs w mv K) (ba : 0 ≤ a ∧ a ≤ 4294967295) (bv : 0 ≤ v ∧ v ≤ 4294967295) :
    Calls Try.prog 15 #[.pointer (some ⟨b, 0, none⟩), mv, .int .u32 a, .int .u32 v] w fun e w' => ∃ x, e = .returned (.tuple #[x, .bool (L.contains a)]) ∧ Rd (intE .u32) w' x (if L.contains a then wayR L K v L.length a else []) ∧ Below w.heap.size w w' := by
  have HO := Lib.hid h.ok
  have HBV := Lib.hid bv
  have HCA := Lib.hid (rghas_any b W R L a w h ba)
  have HMF : Hid (∃ m, mv = .map m) := Lib.hid (by
    obtain ⟨M, h1, _⟩ := hm
    rcases h1 with ⟨rfl, _⟩ | ⟨g, rfl, _⟩
    · exact ⟨_, rfl⟩
    · exact ⟨_, rfl⟩)
  have HNX : Hid (∀ z x, Below w.heap.size w z → (0 ≤ x ∧ x ≤ 4294967295) → ∃ u, (Instr.lookup 39 mv (.int .u32 x) false).run Try.prog z = .ok u z ∧ Calls Try.prog 11 #[.pointer (some ⟨b, 0, none⟩), u, .int .u32 x, .int .u32 v] z fun e w' => e = .returned (.tuple #[.int .u32 (goR L (K x) x v).1, .bool (goR L (K x) x v).2]) ∧ Below z.heap.size z w') := Lib.hid fun z x hz bx => by
    obtain ⟨u, hr, hu, hlb⟩ := (hm.keep hz).look bx
    exact ⟨u, hr, gnext_any b W R L (K x) u x v z (h.turned (S := fun _ => False) (Turned.of_below hz) (fun _ _ h => h)) hu hlb bx bv⟩
  have HBA := Lib.hid ba
  obtain ⟨m, rfl⟩ := HMF.out
  obtain ⟨cn, hcn⟩ : ∃ x, x = L.contains a := ⟨_, rfl⟩
  rw [← hcn] at HCA ⊢
  have HCN := Lib.hid hcn
  clear h hm ba bv hcn HMF
  go_enter Try.func15, Try.ntmps15
  cases cn with
  | false =>
    go_wp2_with (go_at_call 23; refine HCA.out.mono ?_; rintro e w2 ⟨rfl, hk2⟩)
    go_ret2
    exact ⟨_, rfl, Rd.nil _ _ (Nat.zero_le _), hk2⟩
  | true =>
    rw [if_pos rfl]
    have HAL : Hid (a ∈ L) := Lib.hid (by have := HCN.out.symm; simpa using this)
    obtain ⟨WY, hWY⟩ : ∃ q, q = wayR L K v L.length a := ⟨_, rfl⟩
    rw [← hWY]
    have HF : Hid (0 < WY.length ∧ WY.length ≤ 64 ∧ WY.getD 0 0 = a ∧ (∀ i, i < WY.length → 0 ≤ WY.getD i 0 ∧ WY.getD i 0 ≤ 4294967295) ∧ (∀ i, i + 1 < WY.length → goR L (K (WY.getD i 0)) (WY.getD i 0) v = (WY.getD (i + 1) 0, true)) ∧ (∀ i, i + 1 = WY.length → goR L (K (WY.getD i 0)) (WY.getD i 0) v = (0, false))) := Lib.hid (by
      obtain ⟨r1, r2, r3, r4, r5⟩ := way_facts HO.out HBV.out K L.length a HAL.out
      obtain ⟨e1, e2⟩ := way_end HO.out HBV.out K HAL.out
      obtain ⟨rr, hrr⟩ := way_ne L K v L.length a
      rw [← hWY] at *
      have hmem : ∀ i, i < WY.length → WY.getD i 0 ∈ L := fun i hi => r1 _ (by rw [show WY.getD i 0 = WY[i] by simp [List.getD, hi]]; exact List.getElem_mem hi)
      refine ⟨by rw [hrr]; simp, Nat.le_trans e1 HO.out.2.2, by rw [hrr]; rfl, fun i hi => HO.out.2.1 _ (hmem i hi), r4, fun i hi => ?_⟩
      rw [← hi, Nat.add_sub_cancel] at e2
      exact goR_false _ (.inr e2.symm))
    clear hWY
    go_upto_region 3 with (go_at_call 23; refine HCA.out.mono ?_; rintro e w2 ⟨rfl, hk2⟩)
    have HK2 := Lib.hid hk2
    clear hk2 HCA
    go_upto_region 4 with fail
    have hX : Below w2.heap.size w2 (w2.alloc (.cells #[.int .u32 a] 23)) := more (Below.refl _ _) _
    have HROW0 := Lib.hid (Row.lit (E := intE .u32) (T := 23) w.heap.size w2 #[.int .u32 a] [a] 1 w2.heap.size rfl rfl rfl HK2.out.size (by simp [maxLen]))
    have HK3 := Lib.hid (nest HK2.out hX)
    clear hX
    generalize w2.alloc (.cells #[.int .u32 a] 23) = w3 at *
    obtain ⟨u, hlk, hnx⟩ := HNX.out w3 a HK3.out HBA.out
    obtain ⟨g1, hg1⟩ : ∃ q, q = goR L (K a) a v := ⟨_, rfl⟩
    rw [← hg1] at hnx
    have HG1 := Lib.hid hg1
    clear hg1
    go_upto_block 99 with (go_at_call 11; refine hnx.mono ?_; rintro e w4 ⟨rfl, hk4⟩)
    have HG : Hid (0 < WY.length ∧ WY.length ≤ 64) := Lib.hid ⟨HF.out.1, HF.out.2.1⟩
    have HT1 : Hid (WY.take 1 = [a]) := Lib.hid (by
      have := HF.out.1
      rw [List.take_add_one, List.take_zero, List.getElem?_eq_getElem (by omega), Option.toList_some, show WY[0] = WY.getD 0 0 by simp [List.getD, this], HF.out.2.2.1]
      rfl)
    have HROW1 := Lib.hid (HROW0.out.keep hk4)
    have HK4 := Lib.hid (nest HK3.out hk4)
    clear hk4 hnx hlk HROW0 HK3 HK2
    go_loopw [10, 11, 12] (fun sv pv tv wr => ∃ i : Nat, 1 ≤ i ∧ i ≤ WY.length ∧ pv = .int .u32 (goR L (K (WY.getD (i - 1) 0)) (WY.getD (i - 1) 0) v).1 ∧ tv = .bool (goR L (K (WY.getD (i - 1) 0)) (WY.getD (i - 1) 0) v).2 ∧ Row (intE .u32) 23 w.heap.size wr sv (WY.take i) ∧ Below w.heap.size w wr) (fun sv _ _ _ => WY.length - lenV sv)
    case atStart => exact ⟨1, Nat.le_refl _, HG.out.1, by rw [HG1.out, show WY.getD (1 - 1) 0 = a from HF.out.2.2.1], by rw [HG1.out, show WY.getD (1 - 1) 0 = a from HF.out.2.2.1], by rw [HT1.out]; exact HROW1.out, HK4.out⟩
    case round =>
      obtain ⟨i, hi1, hi, rfl, rfl, hrow, hk⟩ := hrel
      have HKI := Lib.hid hk
      clear hk HROW1 HK4 HT1
      have hlen : (WY.take i).length = i := by rw [List.length_take]; omega
      obtain ⟨asv, cs, rfl, hcs, hms⟩ := hrow.rd.form
      rw [hlen] at hrow hcs ⊢
      have HROW := Lib.hid hrow
      by_cases hlt : i < WY.length
      · skip
        as_aux_lemma =>
          have hgo := HF.out.2.2.2.2.1 (i - 1) (by omega)
          rw [show i - 1 + 1 = i by omega] at hgo
          rw [hgo]
          have HBQ := Lib.hid (HF.out.2.2.2.1 i hlt)
          have HTK : Hid (WY.take (i + 1) = WY.take i ++ [WY.getD i 0]) := Lib.hid (by rw [List.take_add_one, List.getElem?_eq_getElem hlt, Option.toList_some, show WY.getD i 0 = WY[i] by simp [List.getD, hlt]])
          obtain ⟨q, hq⟩ : ∃ x, x = WY.getD i 0 := ⟨_, rfl⟩
          have HQ := Lib.hid hq
          rw [← hq] at HBQ HTK ⊢
          have HI : Hid (i < WY.length ∧ 1 ≤ i) := Lib.hid ⟨hlt, hi1⟩
          have hX : Below wr.heap.size wr (wr.alloc (.cells #[.int .u32 q] 23)) := more (Below.refl _ _) _
          have HX := Lib.hid hX
          have HFR : Hid (Rd (intE .u32) (wr.alloc (.cells #[.int .u32 q] 23)) (.slice (some ⟨wr.heap.size, 0, none⟩) 1 1) [q]) := Lib.hid (Rd.fresh wr q _ _ _ rfl rfl)
          have HLA : Hid (((WY.take i).length + [q].length) ≤ maxLen ∧ ((WY.take i).length + [q].length) * 4 ≤ 140737488355328) := Lib.hid (by have := HG.out; rw [hlen]; exact ⟨by simp [maxLen]; omega, by simp; omega⟩)
          have hms' : cs ≤ 9223372036854775807 := hms
          clear hX hrow hgo hq hlt hi hi1 hlen hms
          have HE : Hid (WY.getD (i + 1 - 1) 0 = q) := Lib.hid (by rw [Nat.add_sub_cancel, HQ.out])
          have HLN : Hid ((WY.take i ++ [q]).length = i + 1) := Lib.hid (by rw [← HTK.out, List.length_take]; have := HI.out; omega)
          go_wp2_with (first | (at_builtin; go_must (refine wpList_append (E := intE .u32) (B := w.heap.size) (l := WY.take i) (m := [q]) (bytes := 4) u32Elem32 Nat.zero_lt_one rfl (.tmp 40) (.tmp 42) rfl rfl (HROW.out.keep HX.out) rfl HFR.out HLA.out.1 HLA.out.2 (nest HKI.out HX.out).size ?_); intro v9 z hr9 hk9 hg9 hw9; clear hg9 hw9; obtain ⟨u2, hlk, hnx⟩ := HNX.out z q ((nest HKI.out HX.out).trans hk9) HBQ.out; obtain ⟨a9, c9, rfl, _, _⟩ := hr9.rd.form; rw [HLN.out] at hr9 ⊢) | (go_at_call 11; refine hnx.mono ?_; rintro e z2 ⟨rfl, hkz⟩))
          go_roundw
          case rel => exact ⟨i + 1, by omega, by have := HI.out; omega, by rw [HE.out], by rw [HE.out], by rw [HTK.out]; exact hr9.keep hkz, nest ((nest HKI.out HX.out).trans hk9) hkz⟩
          case measure =>
            have := HI.out
            simp [lenV]
            omega
      · have hie : i = WY.length := by omega
        have hgo := HF.out.2.2.2.2.2 (i - 1) (by omega)
        rw [hgo]
        have HTK : Hid (WY.take i = WY) := Lib.hid (by rw [hie, List.take_length])
        clear hgo hie hlt hrow hlen
        go_wp2_with fail
        go_ret2
        exact ⟨_, rfl, by rw [← HTK.out]; exact HROW.out.rd, HKI.out⟩
end Go.Proofs.Ytbhnpidbgckinaa
