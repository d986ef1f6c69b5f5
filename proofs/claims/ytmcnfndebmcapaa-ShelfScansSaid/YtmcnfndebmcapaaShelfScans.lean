/- Walk of the law ShelfScans. -/
import Derived.Test.YtmcnfndebmcapaaShAwake
set_option maxRecDepth 4000
namespace Go.Proofs.Ytmcnfndebmcapaa.shelfScans
open Go.RowKit Mem
set_option linter.unusedSimpArgs false
set_option linter.unusedVariables false
attribute [local irreducible] Go.Calls

/-- those behind, then those ahead: of the first j, in round r -/
def wantL (f : Int) (A : List Ent) (r j : Nat) : List Ent := if r = 0 then (A.take j).filter (fun y => decide (y.1 > f)) else if r = 1 then A.filter (fun y => decide (y.1 > f)) ++ (A.take j).filter (fun y => !decide (y.1 > f)) else A.filter (fun y => decide (y.1 > f)) ++ A.filter (fun y => !decide (y.1 > f))
theorem wantL_next (f : Int) (A : List Ent) (r : Nat) (hr : r < 2) : wantL f A r A.length = wantL f A (r + 1) 0 := by
  have : r = 0 ∨ r = 1 := by omega
  rcases this with rfl | rfl <;> simp [wantL]
theorem wantL_step (f : Int) (A : List Ent) (r j : Nat) (hr : r < 2) (hj : j < A.length) : wantL f A r (j + 1) = wantL f A r j ++ (if decide ((A.getD j e0).1 > f) == decide (r = 0) then [A.getD j e0] else []) := by
  have h : r = 0 ∨ r = 1 := by omega
  have hg : A.getD j e0 = A[j] := by simp [List.getD, hj]
  rcases h with rfl | rfl
  · simp only [wantL, if_pos]
    rw [List.take_add_one, List.getElem?_eq_getElem hj, Option.toList_some, List.filter_append, hg]
    cases hd : decide (A[j].1 > f) <;> simp [hd]
  · simp only [wantL, if_neg (show ¬ (1 : Nat) = 0 by decide), if_pos]
    rw [List.take_add_one, List.getElem?_eq_getElem hj, Option.toList_some, List.filter_append, hg, List.append_assoc]
    cases hd : decide (A[j].1 > f) <;> simp [hd]
theorem wantL_len (f : Int) (A : List Ent) (r j : Nat) : (wantL f A r j).length ≤ 2 * A.length := by
  have h1 := List.length_filter_le (fun y : Ent => decide (y.1 > f)) A
  have h2 := List.length_filter_le (fun y : Ent => !decide (y.1 > f)) A
  have h3 := List.length_filter_le (fun y : Ent => decide (y.1 > f)) (A.take j)
  have h4 := List.length_filter_le (fun y : Ent => !decide (y.1 > f)) (A.take j)
  have h5 : (A.take j).length ≤ A.length := by rw [List.length_take]; omega
  unfold wantL
  split
  · omega
  · split
    · rw [List.length_append]; omega
    · rw [List.length_append]; omega

set_option maxRecDepth 100000 in
set_option maxHeartbeats 8000000 in
theorem walk (v : Value) (l : List Ent) (f : Int) (bf : 0 ≤ f ∧ f ≤ 4294967295) (w : World) (h : entsK.rd w [v] l) :
    Calls Try.prog 7 #[v, .int .u32 f] w fun e w' => e = .returned (.bool true) ∧ Below w.heap.size w w' := by
  obtain ⟨hin, hbd⟩ := ents_of_kd h
  have HIN := Lib.hid hin
  have HBD := Lib.hid hbd
  have HBF := Lib.hid bf
  obtain ⟨a, g, off, c, rfl, _⟩ := hin.at
  clear h hin hbd
  go_enter Try.func7, Try.ntmps7
  go_wp2_with fail
  refine (shfew_any _ _ l w HIN.out).mono ?_
  rintro e w2 ⟨rfl, hk⟩
  have HIN2 := Lib.hid (HIN.out.keep hk)
  have HK2 := Lib.hid hk
  clear hk HIN
  obtain ⟨fe, hfe⟩ : ∃ fe, fe = fewE l := ⟨_, rfl⟩
  rw [← hfe]
  cases fe with
  | false =>
    clear hfe
    go_wp2_with fail
    refine (shawake_any w2).mono ?_
    rintro e w3 ⟨rfl, hk⟩
    have HK3 := Lib.hid (nest HK2.out hk)
    clear hk
    go_wp2_with fail
    go_ret
    exact ⟨rfl, HK3.out⟩
  | true =>
    have hff := few_yes.1 hfe.symm
    have HLL : Hid (l.length ≤ 30) := Lib.hid hff.1
    have HOK : Hid (∀ y ∈ l, okE y) := Lib.hid (fun y hy => ⟨HBD.out y hy, by have := hff.2 y hy; omega⟩)
    clear hff hfe
    go_wp2_with fail
    refine (shnew_any w2).mono ?_
    rintro e w3 ⟨b, W, R, rfl, hp, hr, hk⟩
    have HP3 := Lib.hid (shf_new hp hr hk)
    have HIN3 := Lib.hid (HIN2.out.keep hk)
    have HK3 := Lib.hid (nest HK2.out hk)
    have HS3 : Hid (w.heap.size ≤ w2.heap.size) := Lib.hid HK2.out.size
    clear hp hr hk HIN2 HK2
    go_wp2_with fail
    refine (shf_join _ b _ [] l _ w3 HP3.out HIN3.out (fun j hj => by have := HS3.out; omega) HOK.out (by have := HLL.out; omega)).mono ?_
    rintro e w5 ⟨rfl, hp, ht⟩
    have HP5 := Lib.hid hp
    have HK5 := Lib.hid (HK3.out.trans (Turned.left (B := w.heap.size) ht HK3.out.size (fun j hj => by have := HS3.out; omega)))
    clear hp ht HP3 HIN3 HK3
    obtain ⟨J, hJ⟩ : ∃ J, J = (joinL [] l).1 := ⟨_, rfl⟩
    rw [← hJ] at HP5
    have HU : Hid (UniqK J) := Lib.hid HP5.out.uniq
    have HE : Hid (∀ y ∈ J, okE y) := Lib.hid HP5.out.ok
    have HVV : Hid (∀ y ∈ J, okV y) := Lib.hid (fun y hy => (HE.out y hy).1.1)
    have HJL : Hid (J.length ≤ 30) := Lib.hid (by rw [hJ]; have := (joinL_count [] l).1; have := HLL.out; simp at *; omega)
    clear hJ
    go_wp2_with fail
    refine (shf_scan _ b J 4294967295 4294967295 w5 HP5.out (by omega) (by omega)).mono ?_
    rintro e w6 ⟨v6, Q6, rfl, hv6, hp6, hk6⟩
    have HTURN := Lib.hid (scan_turned f HBF.out HU.out HVV.out)
    have HSORT : Hid ((scanL 4294967295 4294967295 J).Pairwise Up) := Lib.hid ((scanL_sorted 4294967295 4294967295 J HU.out HVV.out).imp_of_mem (fun {x y} hx hy h => (up_ahead (HVV.out x ((scanL_whole _ J).mem_iff.1 hx)) (HVV.out y ((scanL_whole _ J).mem_iff.1 hy))).2 h))
    have HAE : Hid (∀ y ∈ scanL 4294967295 4294967295 J, entB y) := Lib.hid (fun y hy => (HE.out y ((scanL_whole _ J).mem_iff.1 hy)).1)
    have HALN : Hid (J.length = (scanL 4294967295 4294967295 J).length) := Lib.hid (scanL_whole 4294967295 J).length_eq.symm
    have HAL : Hid ((scanL 4294967295 4294967295 J).length ≤ 30) := Lib.hid (by rw [← HALN.out]; exact HJL.out)
    obtain ⟨A, hA⟩ : ∃ A, A = scanL 4294967295 4294967295 J := ⟨_, rfl⟩
    rw [← hA] at hv6 HTURN HSORT HAE HALN HAL
    clear hA
    have HP6 := Lib.hid hp6
    have HK6 := Lib.hid (nest HK5.out hk6)
    have HV6 := Lib.hid hv6
    obtain ⟨a6, g6, o6, c6, rfl, hc6, hm6, ha6, he6⟩ := hv6.at
    have hm6' : c6 ≤ 9223372036854775807 := hm6
    have HA6 := Lib.hid ha6
    have HE6 := Lib.hid he6
    have HB0 : Hid (w.heap.size ≤ w6.heap.size) := Lib.hid HK6.out.size
    clear hp6 hk6 HP5 HK5 hv6 ha6 he6 hm6
    go_upto_block 99 with fail
    go_loopw [7, 8] (fun wv rv wr => ∃ (r : Nat) (hs : List (Raw 5)), r ≤ 2 ∧ rv = .int .i64 r ∧ Row (rawE 5) 40 w6.heap.size wr wv hs ∧ PW (fun x y => EntIn Q6 w6 x y) hs (wantL f A r 0) ∧ Below w6.heap.size w6 wr) (fun _ rv _ => 2 - (intOf rv).toNat)
    case atStart => exact ⟨0, [], by omega, rfl, Row.nil, ⟨rfl, fun i x y hx _ => by simp at hx⟩, Below.refl _ _⟩
    case round =>
      obtain ⟨r, hs, hr, rfl, hrow, hpw, hb⟩ := hrel
      obtain ⟨wo, hwo⟩ : ∃ z, z = wr := ⟨_, rfl⟩
      subst hwo
      have HROW := Lib.hid hrow
      have HPW := Lib.hid hpw
      have HKW := Lib.hid hb
      obtain ⟨aw, cw, rfl, hcw, hmw⟩ := hrow.rd.form
      have hmw' : cw ≤ 9223372036854775807 := hmw
      have hwl : hs.length ≤ 60 := by rw [hpw.1]; have := wantL_len f A r 0; have := HAL.out; omega
      clear hrow hpw hb
      by_cases hr2 : r < 2
      · skip
        as_aux_lemma =>
          go_upto_block 99 with fail
          go_loopw [7, 9] (fun wv iv wr => ∃ (j : Nat) (hs : List (Raw 5)), j ≤ A.length ∧ iv = .int .i64 j ∧ Row (rawE 5) 40 w6.heap.size wr wv hs ∧ PW (fun x y => EntIn Q6 w6 x y) hs (wantL f A r j) ∧ Below w6.heap.size w6 wr) (fun _ iv _ => A.length - (intOf iv).toNat)
          case atStart => exact ⟨0, hs, Nat.zero_le _, rfl, HROW.out, HPW.out, HKW.out⟩
          case round =>
            clear hcw hmw hmw' hwl HROW HPW HKW
            obtain ⟨j, hs2, hj, rfl, hrow, hpw, hb⟩ := hrel
            have HROW := Lib.hid hrow
            have HPW := Lib.hid hpw
            have HKW := Lib.hid hb
            obtain ⟨aw2, cw2, rfl, hcw, hmw⟩ := hrow.rd.form
            have hmw' : cw2 ≤ 9223372036854775807 := hmw
            have HWL : Hid (hs2.length ≤ 60) := Lib.hid (by rw [hpw.1]; have := wantL_len f A r j; have := HAL.out; omega)
            by_cases hlt : j < A.length
            · have HSTEP := Lib.hid (wantL_step f A r j hr2 hlt)
              obtain ⟨rfl, hg1, hg2⟩ := HA6.out (by omega)
              obtain ⟨x, t0, t1, t2, t3, t4, trx, trq⟩ := HE6.out j hlt
              obtain ⟨y, hy⟩ : ∃ y, y = A.getD j e0 := ⟨_, rfl⟩
              rw [← hy] at t0 t1 t2 t4 trx trq HSTEP
              obtain ⟨ax, cx, rfl, _, _⟩ := trx.form
              obtain ⟨ya, ⟨yi, yv, yl⟩, yg⟩ := y
              have d0 : wr.cell? ⟨g6, o6 + j * 5, none⟩ = some (.int .u32 ya) := kc hb t0
              have d1 : wr.cell? ⟨g6, o6 + j * 5 + 1, none⟩ = some (.int .u64 yi) := kc hb t1
              have d2 : wr.cell? ⟨g6, o6 + j * 5 + 2, none⟩ = some (.int .u64 yv) := kc hb t2
              have d3 : wr.cell? ⟨g6, o6 + j * 5 + 3, none⟩ = some (.slice ax yl.length cx) := kc hb t3
              have d4 : wr.cell? ⟨g6, o6 + j * 5 + 4, none⟩ = some (.bool yg) := kc hb t4
              have HRAW : Hid (EntIn Q6 w6 (rawEnt (ya, (yi, yv, yl), yg) (.slice ax yl.length cx) rfl) (ya, (yi, yv, yl), yg)) := Lib.hid ⟨.slice ax yl.length cx, rfl, trx, trq⟩
              have hjl : (j : Int) < (A.length : Int) := by omega
              have hcL : (A.length : Int) ≤ c6 := by omega
              clear t0 t1 t2 t3 t4 trx trq hy hg1 hg2 hrow hpw hb
              rcases (show r = 0 ∨ r = 1 by omega) with rfl | rfl
              · by_cases hgt : ya > f
                · skip
                  as_aux_lemma =>
                    have HNX : Hid (wantL f A 0 (j + 1) = wantL f A 0 j ++ [(ya, (yi, yv, yl), yg)]) := Lib.hid (by rw [HSTEP.out, if_pos (by simpa using hgt)])
                    have HX3 := Lib.hid (Row.lit (E := rawE 5) wr.heap.size wr #[.int .u32 ya, .int .u64 yi, .int .u64 yv, .slice ax yl.length cx, .bool yg] [rawEnt (ya, (yi, yv, yl), yg) (.slice ax yl.length cx) rfl] 1 wr.heap.size rfl rfl rfl (Nat.le_refl _) (by simp [maxLen]) : Row (rawE 5) 40 wr.heap.size (wr.alloc (.cells #[.int .u32 ya, .int .u64 yi, .int .u64 yv, .slice ax yl.length cx, .bool yg] 40)) (.slice (some ⟨wr.heap.size, 0, none⟩) 1 1) [rawEnt (ya, (yi, yv, yl), yg) (.slice ax yl.length cx) rfl])
                    have HX4 : Hid (Below wr.heap.size wr (wr.alloc (.cells #[.int .u32 ya, .int .u64 yi, .int .u64 yv, .slice ax yl.length cx, .bool yg] 40))) := Lib.hid (more (Below.refl _ _) _)
                    have HROWX := Lib.hid (HROW.out.keep HX4.out)
                    have HBS : Hid (w6.heap.size ≤ (wr.alloc (.cells #[.int .u32 ya, .int .u64 yi, .int .u64 yv, .slice ax yl.length cx, .bool yg] 40)).heap.size) := Lib.hid (nest HKW.out HX4.out).size
                    go_wp2_with (first
                      | (refine at_build 46 rfl ?_; refine wpList_build_one (size := 5) (bytes := 56) entElem (by decide) (by decide) rfl _ rfl (C := #[.int .u32 ya, .int .u64 yi, .int .u64 yv, .slice ax yl.length cx, .bool yg]) rfl rfl ?_)
                      | (at_builtin; refine wpList_append (E := rawE 5) (B := w6.heap.size) (l := hs2) (m := [rawEnt (ya, (yi, yv, yl), yg) (.slice ax yl.length cx) rfl]) (bytes := 56) entElem (Nat.zero_lt_succ 4) rfl (.tmp 42) (.tmp 47) rfl rfl HROWX.out rfl HX3.out.rd (by have := HWL.out; simp [maxLen]; omega) (by have := HWL.out; simp; omega) HBS.out ?_; intro v9 y9 hr9 hk9 hg9 _))
                    exact ⟨⟨j + 1, by omega, by go_num, hs2 ++ [rawEnt (ya, (yi, yv, yl), yg) (.slice ax yl.length cx) rfl], hr9, by rw [HNX.out]; exact HPW.out.append (PW.one HRAW.out), (nest HKW.out HX4.out).trans hk9⟩, by simp [intOf]; omega⟩
                · skip
                  as_aux_lemma =>
                    have HNX : Hid (wantL f A 0 (j + 1) = wantL f A 0 j) := Lib.hid (by rw [HSTEP.out, if_neg (by simpa using hgt), List.append_nil])
                    go_wp2_with fail
                    exact ⟨⟨j + 1, hs2, by omega, by go_num, HROW.out, by rw [HNX.out]; exact HPW.out, HKW.out⟩, by simp [intOf]; omega⟩
              · by_cases hgt : ya > f
                · skip
                  as_aux_lemma =>
                    have HNX : Hid (wantL f A 1 (j + 1) = wantL f A 1 j) := Lib.hid (by rw [HSTEP.out, if_neg (by simpa using hgt), List.append_nil])
                    go_wp2_with fail
                    exact ⟨⟨j + 1, hs2, by omega, by go_num, HROW.out, by rw [HNX.out]; exact HPW.out, HKW.out⟩, by simp [intOf]; omega⟩
                · skip
                  as_aux_lemma =>
                    have HNX : Hid (wantL f A 1 (j + 1) = wantL f A 1 j ++ [(ya, (yi, yv, yl), yg)]) := Lib.hid (by rw [HSTEP.out, if_pos (by simpa using hgt)])
                    have HX3 := Lib.hid (Row.lit (E := rawE 5) wr.heap.size wr #[.int .u32 ya, .int .u64 yi, .int .u64 yv, .slice ax yl.length cx, .bool yg] [rawEnt (ya, (yi, yv, yl), yg) (.slice ax yl.length cx) rfl] 1 wr.heap.size rfl rfl rfl (Nat.le_refl _) (by simp [maxLen]) : Row (rawE 5) 40 wr.heap.size (wr.alloc (.cells #[.int .u32 ya, .int .u64 yi, .int .u64 yv, .slice ax yl.length cx, .bool yg] 40)) (.slice (some ⟨wr.heap.size, 0, none⟩) 1 1) [rawEnt (ya, (yi, yv, yl), yg) (.slice ax yl.length cx) rfl])
                    have HX4 : Hid (Below wr.heap.size wr (wr.alloc (.cells #[.int .u32 ya, .int .u64 yi, .int .u64 yv, .slice ax yl.length cx, .bool yg] 40))) := Lib.hid (more (Below.refl _ _) _)
                    have HROWX := Lib.hid (HROW.out.keep HX4.out)
                    have HBS : Hid (w6.heap.size ≤ (wr.alloc (.cells #[.int .u32 ya, .int .u64 yi, .int .u64 yv, .slice ax yl.length cx, .bool yg] 40)).heap.size) := Lib.hid (nest HKW.out HX4.out).size
                    go_wp2_with (first
                      | (refine at_build 46 rfl ?_; refine wpList_build_one (size := 5) (bytes := 56) entElem (by decide) (by decide) rfl _ rfl (C := #[.int .u32 ya, .int .u64 yi, .int .u64 yv, .slice ax yl.length cx, .bool yg]) rfl rfl ?_)
                      | (at_builtin; refine wpList_append (E := rawE 5) (B := w6.heap.size) (l := hs2) (m := [rawEnt (ya, (yi, yv, yl), yg) (.slice ax yl.length cx) rfl]) (bytes := 56) entElem (Nat.zero_lt_succ 4) rfl (.tmp 42) (.tmp 47) rfl rfl HROWX.out rfl HX3.out.rd (by have := HWL.out; simp [maxLen]; omega) (by have := HWL.out; simp; omega) HBS.out ?_; intro v9 y9 hr9 hk9 hg9 _))
                    exact ⟨⟨j + 1, by omega, by go_num, hs2 ++ [rawEnt (ya, (yi, yv, yl), yg) (.slice ax yl.length cx) rfl], hr9, by rw [HNX.out]; exact HPW.out.append (PW.one HRAW.out), (nest HKW.out HX4.out).trans hk9⟩, by simp [intOf]; omega⟩
            · have hjl : j = A.length := by omega
              subst hjl
              clear hrow hpw hb
              go_wp2_with fail
              exact ⟨⟨r + 1, hs2, by omega, by go_num, HROW.out, by rw [← wantL_next f A r hr2]; exact HPW.out, HKW.out⟩, by simp [intOf]; omega⟩
      · have hre : r = 2 := by omega
        subst hre
        clear hcw hmw hwl
        have HAV6 : Hid (6 = 6) := Lib.hid rfl
        have HWANT : Hid (wantL f A 2 0 = scanL f f J) := Lib.hid (by rw [HTURN.out]; simp [wantL])
        rw [HWANT.out] at HPW
        have HV7 : Hid (EntsIn (fun _ => True) wo (.slice aw hs.length cw) (scanL f f J)) := Lib.hid ⟨hs, HPW.out.1, HROW.out.rd, fun _ _ _ => trivial, fun i x y hx hy => ((HPW.out.2 i x y hx hy).turned (S := fun _ => False) (Turned.of_below HKW.out) (fun _ _ h => h)).mono (fun _ _ _ => trivial)⟩
        have HVE : Hid (∀ y ∈ scanL f f J, entB y) := Lib.hid (fun y hy => (HE.out y ((scanL_whole _ J).mem_iff.1 hy)).1)
        clear HWANT HPW HROW HAV6
        go_upto_block 99 with fail
        go_loopw [10] (fun iv wr => ∃ j : Nat, 1 ≤ j ∧ iv = .int .i64 j ∧ (j ≤ A.length ∨ j = 1) ∧ Below wo.heap.size wo wr) (fun iv _ => A.length - (intOf iv).toNat)
        case atStart => exact ⟨1, Nat.le_refl _, rfl, .inr rfl, Below.refl _ _⟩
        case round =>
          obtain ⟨j, hj1, rfl, hj, hb⟩ := hrel
          have HKX := Lib.hid hb
          by_cases hlt : j < A.length
          · have HUP : Hid (Up (A.getD (j - 1) e0) (A.getD j e0)) := Lib.hid (by
              rw [show A.getD (j - 1) e0 = A[j - 1]'(by omega) by simp [List.getD, show j - 1 < A.length by omega], show A.getD j e0 = A[j] by simp [List.getD, hlt]]
              exact List.pairwise_iff_getElem.1 HSORT.out (j - 1) j (by omega) hlt (by omega))
            obtain ⟨rfl, hg1, hg2⟩ := HA6.out (by omega)
            obtain ⟨x, t0, t1, _⟩ := HE6.out j hlt
            obtain ⟨k, hk1⟩ : ∃ k, k = j - 1 := ⟨_, rfl⟩
            rw [← hk1] at HUP
            obtain ⟨x', p0, p1, _⟩ := HE6.out k (by omega)
            have hbx := nest HKW.out hb
            obtain ⟨va, hva⟩ : ∃ q, q = (A.getD j e0).1 := ⟨_, rfl⟩
            obtain ⟨ia, hia⟩ : ∃ q, q = (A.getD j e0).2.1.1 := ⟨_, rfl⟩
            obtain ⟨vb, hvb⟩ : ∃ q, q = (A.getD k e0).1 := ⟨_, rfl⟩
            obtain ⟨ib, hib⟩ : ∃ q, q = (A.getD k e0).2.1.1 := ⟨_, rfl⟩
            have hup : vb < va ∨ (vb = va ∧ ib < ia) := by rw [hva, hia, hvb, hib]; exact HUP.out
            rw [← hva] at t0
            rw [← hia] at t1
            rw [← hvb] at p0
            rw [← hib] at p1
            have d0 := kc hbx t0
            have d1 := kc hbx t1
            have q0 := kc hbx p0
            have q1 := kc hbx p1
            have hwk : IntKind.i64.wrap ((j : Int) - 1) = (k : Int) := by rw [IntWalk.i64_in _ (by have := HAL.out; omega)]; omega
            have hjl : (j : Int) < (A.length : Int) := by omega
            have hkl : (k : Int) < (A.length : Int) := by omega
            clear hva hia hvb hib t0 t1 p0 p1 hg1 hg2 HUP hbx hb hk1
            have n1 : ¬ va < vb := by omega
            rcases (show (va = vb ∧ ib < ia) ∨ ¬ va = vb by omega) with ⟨rfl, hi⟩ | hne
            · have n3 : ¬ ia ≤ ib := by omega
              go_upto_region 18 with fail
              refine Run.region_walk (S := fun z => z.cell? ⟨g6, o6 + j * 5, none⟩ = some (.int .u32 va) ∧ z.cell? ⟨g6, o6 + j * 5 + 1, none⟩ = some (.int .u64 ia) ∧ z.cell? ⟨g6, o6 + k * 5, none⟩ = some (.int .u32 va) ∧ z.cell? ⟨g6, o6 + k * 5 + 1, none⟩ = some (.int .u64 ib) ∧ Below wr.heap.size wr z)
                lshscans.rows17 lshscans.plan17 (l := ?steps1) (by kernel_rfl) (by kernel_rfl) (by kernel_rfl) (by kernel_rfl) ?written1 ⟨d0, d1, q0, q1, (Below.refl _ _).drew⟩ ?onward1
              case written1 =>
                simp only [lshscans.plan17, Run.stepsOf, Run.stepOf, Run.guardOf, List.getElem?_toArray, List.getElem?_cons_zero, List.getElem?_cons_succ, Option.map_some, Option.map_none, Option.bind_some, Option.toList_some, List.map_cons, List.map_nil, List.cons_append, List.nil_append, List.append_eq]
                rfl
              repeat ((first
                | (refine Run.takes (v := ?_) ?_ ?_; rotate_left; (· intro w' hS'; go_simp; (try with_reducible rfl)))
                | (refine Run.takesG (v := ?_) ?_ ?_ ?_; rotate_left; (· simp only [List.getElem?_cons_zero, List.getElem?_cons_succ]); (· intro w' hS'; go_simp; (try with_reducible rfl)))
                | (refine Run.skipsT ?_ ?_; (· simp only [List.getElem?_cons_zero, List.getElem?_cons_succ]))
                | (refine Run.skipsF ?_ ?_; (· simp only [List.getElem?_cons_zero, List.getElem?_cons_succ]))
                | (refine Run.skipsU ?_ ?_; (· simp only [List.getElem?_cons_zero, List.getElem?_cons_succ]))
                | (refine Run.passT ?_ ?_; (· simp only [List.getElem?_cons_zero, List.getElem?_cons_succ]))
                | (refine Run.passF ?_ ?_; (· simp only [List.getElem?_cons_zero, List.getElem?_cons_succ]))
                | (refine Run.passU ?_ ?_; (· simp only [List.getElem?_cons_zero, List.getElem?_cons_succ]))
                | fail); simp only [Act.put, List.setIfInBounds_toArray, List.set_cons_zero, List.set_cons_succ])
              refine Run.ends (fun hS => ?_)
              have HKY := Lib.hid hS.2.2.2.2
              clear hS
              go_wp2_with fail
              exact ⟨⟨j + 1, by omega, by go_num, .inl (by omega), nest HKX.out HKY.out⟩, by simp [intOf]; omega⟩
            · have n2 : (va == vb) = false := beq_eq_false_iff_ne.2 hne
              go_upto_region 18 with fail
              refine Run.region_walk (S := fun z => z.cell? ⟨g6, o6 + j * 5, none⟩ = some (.int .u32 va) ∧ z.cell? ⟨g6, o6 + k * 5, none⟩ = some (.int .u32 vb) ∧ Below wr.heap.size wr z)
                lshscans.rows17 lshscans.plan17 (l := ?steps2) (by kernel_rfl) (by kernel_rfl) (by kernel_rfl) (by kernel_rfl) ?written2 ⟨d0, q0, (Below.refl _ _).drew⟩ ?onward2
              case written2 =>
                simp only [lshscans.plan17, Run.stepsOf, Run.stepOf, Run.guardOf, List.getElem?_toArray, List.getElem?_cons_zero, List.getElem?_cons_succ, Option.map_some, Option.map_none, Option.bind_some, Option.toList_some, List.map_cons, List.map_nil, List.cons_append, List.nil_append, List.append_eq]
                rfl
              repeat ((first
                | (refine Run.takes (v := ?_) ?_ ?_; rotate_left; (· intro w' hS'; go_simp; (try with_reducible rfl)))
                | (refine Run.takesG (v := ?_) ?_ ?_ ?_; rotate_left; (· simp only [List.getElem?_cons_zero, List.getElem?_cons_succ]); (· intro w' hS'; go_simp; (try with_reducible rfl)))
                | (refine Run.skipsT ?_ ?_; (· simp only [List.getElem?_cons_zero, List.getElem?_cons_succ]))
                | (refine Run.skipsF ?_ ?_; (· simp only [List.getElem?_cons_zero, List.getElem?_cons_succ]))
                | (refine Run.skipsU ?_ ?_; (· simp only [List.getElem?_cons_zero, List.getElem?_cons_succ]))
                | (refine Run.passT ?_ ?_; (· simp only [List.getElem?_cons_zero, List.getElem?_cons_succ]))
                | (refine Run.passF ?_ ?_; (· simp only [List.getElem?_cons_zero, List.getElem?_cons_succ]))
                | (refine Run.passU ?_ ?_; (· simp only [List.getElem?_cons_zero, List.getElem?_cons_succ]))
                | fail); simp only [Act.put, List.setIfInBounds_toArray, List.set_cons_zero, List.set_cons_succ])
              refine Run.ends (fun hS => ?_)
              have HKY := Lib.hid hS.2.2
              clear hS
              go_wp2_with fail
              exact ⟨⟨j + 1, by omega, by go_num, .inl (by omega), nest HKX.out HKY.out⟩, by simp [intOf]; omega⟩
          · have hjn : ¬ (j : Int) < (A.length : Int) := by omega
            have HPX := Lib.hid (HP6.out.keep (nest HKW.out hb))
            have HVX := Lib.hid (HV7.out.keep hb)
            have HKZ := Lib.hid (nest (nest HK6.out HKW.out) hb)
            have hln : ((J.length : Int) = (A.length : Int)) := by rw [HALN.out]
            clear hb
            go_upto_region 20 with fail
            refine Run.region_seq (S := fun z => Below wr.heap.size wr z)
              [1, 0, 0, 0, 0, 0, 1, 0, 1, 0, 0, 0, 0, 0, 1, 0, 0, 0] (l := ?_) ?_ (Below.refl _ _) ?_
            rotate_left
            (· simp only [Run.seqOf, List.toList_toArray, Run.stepsOf, Run.stepOf, Run.guardOf, List.getElem?_toArray, List.getElem?_cons_zero, List.getElem?_cons_succ, Option.map_some, Option.map_none, Option.bind_some, Option.toList_some, List.map_cons, List.map_nil, List.cons_append, List.nil_append, List.append_eq]
               rfl)
            repeat ((first
              | (refine Run.takes (v := ?_) ?_ ?_; rotate_left; (· intro w' hS'; go_simp; (try with_reducible rfl)))
              | (refine Run.takesG (v := ?_) ?_ ?_ ?_; rotate_left; (· simp only [List.getElem?_cons_zero, List.getElem?_cons_succ]); (· intro w' hS'; go_simp; (try with_reducible rfl)))
              | (refine Run.skipsT ?_ ?_; (· simp only [List.getElem?_cons_zero, List.getElem?_cons_succ]))
              | (refine Run.skipsF ?_ ?_; (· simp only [List.getElem?_cons_zero, List.getElem?_cons_succ]))
              | (refine Run.skipsU ?_ ?_; (· simp only [List.getElem?_cons_zero, List.getElem?_cons_succ]))
              | (refine Run.passT ?_ ?_; (· simp only [List.getElem?_cons_zero, List.getElem?_cons_succ]))
              | (refine Run.passF ?_ ?_; (· simp only [List.getElem?_cons_zero, List.getElem?_cons_succ]))
              | (refine Run.passU ?_ ?_; (· simp only [List.getElem?_cons_zero, List.getElem?_cons_succ]))
              | (refine Run.runs ?_
                 (first
                 | (refine Run.callF 10 (by kernel_rfl) (fun hS => shawake_any _) rfl ?_)
                 | (refine Run.callG 10 (by kernel_rfl) ?_ (fun hS => shawake_any _) rfl ?_; (· simp only [List.getElem?_cons_zero, List.getElem?_cons_succ]))
                 | (refine Run.callF 25 (by kernel_rfl) (fun hS => shf_scan _ b J f f _ (HPX.out.keep hS) HBF.out HBF.out) rfl ?_)
                 | (refine Run.callG 25 (by kernel_rfl) ?_ (fun hS => shf_scan _ b J f f _ (HPX.out.keep hS) HBF.out HBF.out) rfl ?_; (· simp only [List.getElem?_cons_zero, List.getElem?_cons_succ]))
                 | fail)
                 (first
                 | (rintro hS e w' ⟨vq, Qq, rfl, hvq, _, hb⟩; have HVQ := Lib.hid hvq; have HVQB := Lib.hid (nest hS hb); obtain ⟨aq, gq, oq, cq, rfl, _⟩ := hvq.at; refine ⟨_, rfl, nest hS hb, ?_⟩; clear hvq)
                 | (rintro hS e w' ⟨rfl, rfl⟩; refine ⟨_, rfl, hS, ?_⟩)
                 | (rintro hS e w' ⟨rfl, hb⟩; refine ⟨_, rfl, nest hS hb, ?_⟩)
                 | fail))
              | fail); simp only [Act.put, List.setIfInBounds_toArray, List.set_cons_zero, List.set_cons_succ])
            repeat ((first
              | (refine Run.takes (v := ?_) ?_ ?_; rotate_left; (· intro w' hS'; go_simp; (try with_reducible rfl)))
              | (refine Run.takesG (v := ?_) ?_ ?_ ?_; rotate_left; (· simp only [List.getElem?_cons_zero, List.getElem?_cons_succ]); (· intro w' hS'; go_simp; (try with_reducible rfl)))
              | (refine Run.skipsT ?_ ?_; (· simp only [List.getElem?_cons_zero, List.getElem?_cons_succ]))
              | (refine Run.skipsF ?_ ?_; (· simp only [List.getElem?_cons_zero, List.getElem?_cons_succ]))
              | (refine Run.skipsU ?_ ?_; (· simp only [List.getElem?_cons_zero, List.getElem?_cons_succ]))
              | (refine Run.passT ?_ ?_; (· simp only [List.getElem?_cons_zero, List.getElem?_cons_succ]))
              | (refine Run.passF ?_ ?_; (· simp only [List.getElem?_cons_zero, List.getElem?_cons_succ]))
              | (refine Run.passU ?_ ?_; (· simp only [List.getElem?_cons_zero, List.getElem?_cons_succ]))
              | (refine Run.runs ?_
                 (first
                 | (refine Run.callF 12 (by kernel_rfl) (fun hS => entries_yes _ _ (scanL f f J) _ HVQ.out (HVX.out.keep HVQB.out) HVE.out) rfl ?_)
                 | (refine Run.callG 12 (by kernel_rfl) ?_ (fun hS => entries_yes _ _ (scanL f f J) _ HVQ.out (HVX.out.keep HVQB.out) HVE.out) rfl ?_; (· simp only [List.getElem?_cons_zero, List.getElem?_cons_succ]))
                 | (refine Run.callF 20 (by kernel_rfl) (fun hS => shf_len _ b J _ (HPX.out.keep hS)) rfl ?_)
                 | (refine Run.callG 20 (by kernel_rfl) ?_ (fun hS => shf_len _ b J _ (HPX.out.keep hS)) rfl ?_; (· simp only [List.getElem?_cons_zero, List.getElem?_cons_succ]))
                 | fail)
                 (first
                 | (rintro hS e w' ⟨rfl, rfl⟩; refine ⟨_, rfl, hS, ?_⟩)
                 | (rintro hS e w' ⟨rfl, hb⟩; refine ⟨_, rfl, nest hS hb, ?_⟩)
                 | fail))
              | fail); simp only [Act.put, List.setIfInBounds_toArray, List.set_cons_zero, List.set_cons_succ])
            refine Run.ends (fun hS => ?_)
            have HE9 := Lib.hid (nest HKZ.out hS)
            clear hS
            go_wp2_with fail
            go_ret
            exact ⟨rfl, HE9.out⟩
end Go.Proofs.Ytmcnfndebmcapaa.shelfScans
