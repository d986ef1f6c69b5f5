/- The document's answers for package ring: Drop, Heirs. -/
import Derived.Test.YtpgljdngbiicmaaRgRef
import Derived.Test.YtpgljdngbiicmaaRingHeirs
set_option maxRecDepth 4000
namespace Go.Proofs.Ytpgljdngbiicmaa
open Go.RowKit Mem
set_option linter.unusedSimpArgs false
set_option linter.unusedVariables false
attribute [local irreducible] Go.Calls

/-- what a step of the document's ring leaves: block b alone turned -/
def RrStep (w w' : World) (b : Nat) (L : List Int) : Prop := RrAt w' b L ∧ Turned (fun j => j = b) w w' ∧ (w'.cell? ⟨b, 0, none⟩ = w.cell? ⟨b, 0, none⟩ ∨ ∀ v g, w'.cell? ⟨b, 0, none⟩ = some v → v.ownBlock = some g → w.heap.size ≤ g)
theorem RrStep.same {w w' : World} {b : Nat} {L : List Int} (h : RrAt w b L) (k : Below w.heap.size w w') : RrStep w w' b L := by
  refine ⟨h.keep k, Turned.of_below k, .inl ?_⟩
  obtain ⟨v, h1, _⟩ := h
  rw [(h1.keep k).cell 0, h1.cell 0]
theorem RrStep.put {w z : World} {b B : Nat} {L : List Int} {v vv : Value} (hb : b < w.heap.size) (k : Below w.heap.size w z) (hbk : Blk z b 29 #[vv]) (hr : Row (intE .u32) 24 B z v L) (hB : w.heap.size ≤ B) (ho : okR L) : RrStep w (z.setCell ⟨b, 0, none⟩ v) b L := by
  have hon : Only b z (z.setCell ⟨b, 0, none⟩ v) := Only.set _ _ _
  have hg : ∀ q, v.ownBlock = some q → b < q ∧ w.heap.size ≤ q ∧ q < z.heap.size := fun q hq => by have := hr.block q hq; omega
  have h1 : Blk (z.setCell ⟨b, 0, none⟩ v) b 29 #[v] := hbk.set_ 0 v
  refine ⟨⟨v, h1, hr.rd.turned (Turned.of_only (S := fun j => j = b) hon rfl) (fun q hq e => by have := hg q hq; omega), fun q hq => ⟨fun e => by have := hg q hq; omega, Nat.lt_of_lt_of_le (hg q hq).2.2 hon.size⟩, ho⟩,
    (Turned.of_below k).trans (S' := fun j => j = b) (Turned.of_only hon rfl) (fun _ _ h => h), .inr fun u g hu hgu => ?_⟩
  rw [h1.cell 0] at hu
  injection hu with hu
  subst hu
  exact (hg g hgu).2.1
theorem take_filter {L : List Int} {q : Int → Bool} {k : Nat} (hk : k < L.length) : (L.take (k + 1)).filter q = (L.take k).filter q ++ (if q (L.getD k 0) then [L.getD k 0] else []) := by
  rw [List.take_add_one, List.getElem?_eq_getElem hk, Option.toList_some, List.filter_append, show L.getD k 0 = L[k] by simp [List.getD, hk]]
  congr 1
  simp [List.filter]
  split <;> simp_all
theorem drop_len {L : List Int} {p : Int} : (L.filter (fun x => !(x == p))).length = L.length ↔ L.contains p = false := by
  rw [List.length_filter_eq_length_iff, Bool.eq_false_iff]
  constructor
  · intro h hc
    have := h p (by simpa using hc)
    simp at this
  · intro h x hx
    simp
    intro e
    subst e
    exact h (by simpa using hx)
set_option maxRecDepth 100000 in
set_option maxHeartbeats 4000000 in
theorem rrdrop_any (b : Nat) (L : List Int) (p : Int) (w : World) (h : RrAt w b L) :
    Calls Try.prog 13 #[.pointer (some ⟨b, 0, none⟩), .int .u32 p] w fun e w' => e = .returned (.int .i64 (dropR L p).2) ∧ RrStep w w' b (dropR L p).1 := by
  have HO := Lib.hid h.ok
  have HRR := Lib.hid h
  have hbl : b < w.heap.size := h.lt
  obtain ⟨a, g, o, c, d0, hc1, hc2, ha, hcell, _⟩ := h.at
  have hc3 : c ≤ 9223372036854775807 := hc2
  have hl64 : L.length ≤ 64 := h.ok.2.2
  have HA := Lib.hid ha
  have HC := Lib.hid hcell
  have HD := Lib.hid d0
  clear h ha hcell hc2 d0
  go_enter Try.func13, Try.ntmps13
  go_upto_block 99 with fail
  go_loopw [5, 6] (fun sv iv wr => ∃ k : Nat, k ≤ L.length ∧ iv = .int .i64 k ∧ Row (intE .u32) 24 w.heap.size wr sv ((L.take k).filter (fun x => !(x == p))) ∧ Below w.heap.size w wr) (fun _ iv _ => L.length - (intOf iv).toNat)
  case atStart => exact ⟨0, Nat.zero_le _, rfl, Row.nil, Below.refl _ _⟩
  case round =>
    obtain ⟨k, hk, rfl, hrow, hb⟩ := hrel
    have HROW := Lib.hid hrow
    have HK := Lib.hid hb
    have d0 := kc hb HD.out
    obtain ⟨asv, cs, rfl, hcs, hms⟩ := hrow.rd.form
    have hms' : cs ≤ 9223372036854775807 := hms
    have hfl : ((L.take k).filter (fun x => !(x == p))).length ≤ k := Nat.le_trans (List.length_filter_le _ _) (by simp; omega)
    by_cases hlt : k < L.length
    · obtain ⟨rfl, hg⟩ := HA.out (by omega)
      have d1 := kc hb (HC.out k hlt)
      have HST := Lib.hid (take_filter (q := fun x => !(x == p)) hlt)
      obtain ⟨x, hx⟩ : ∃ x, x = L.getD k 0 := ⟨_, rfl⟩
      rw [← hx] at d1 HST
      have hkl : (k : Int) < (L.length : Int) := by omega
      have hcl : (L.length : Int) ≤ c := by omega
      by_cases he : x = p
      · subst he
        have HS : Hid ((L.take (k + 1)).filter (fun y => !(y == x)) = (L.take k).filter (fun y => !(y == x))) := Lib.hid (by rw [HST.out]; simp)
        clear hx hb hrow hms
        go_wp2_with fail
        exact ⟨⟨k + 1, by omega, by go_num, by rw [HS.out]; exact HROW.out, HK.out⟩, by simp [intOf]; omega⟩
      · have hne : (x == p) = false := beq_eq_false_iff_ne.2 he
        have HS : Hid ((L.take (k + 1)).filter (fun y => !(y == p)) = (L.take k).filter (fun y => !(y == p)) ++ [x]) := Lib.hid (by rw [HST.out, hne]; rfl)
        obtain ⟨S, hS⟩ : ∃ S, S = (L.take k).filter (fun y => !(y == p)) := ⟨_, rfl⟩
        rw [← hS] at HROW HS hfl hcs ⊢
        have HX5 : Hid (Below wr.heap.size wr (wr.alloc (.cells #[.int .u32 x] 24))) := Lib.hid (more (Below.refl _ _) _)
        have HSL : Hid (S.length ≤ 64) := Lib.hid (by omega)
        clear hx hb hrow hms hS HST
        go_upto_region 4 with (at_builtin; refine wpList_append (E := intE .u32) (B := w.heap.size) (l := S) (m := [x]) (bytes := 4) rgElem Nat.zero_lt_one rfl (.tmp 25) (.tmp 33) rfl rfl (HROW.out.keep HX5.out) rfl (Rd.fresh _ x _ _ _ rfl (by first | rfl | simp)) (by have := HSL.out; simp [maxLen]; omega) (by have := HSL.out; simp; omega) (nest HK.out HX5.out).size ?_; intro v6 w6 hr6 hk6 hg6 _; rw [← HS.out] at hr6; obtain ⟨a6, c6, rfl, _, _⟩ := hr6.rd.form)
        have HROW6 := Lib.hid hr6
        have HK6 := Lib.hid ((nest HK.out HX5.out).trans hk6)
        clear hr6 hk6 hg6 HROW HK HX5
        go_wp2_with fail
        exact ⟨⟨k + 1, by omega, by go_num, HROW6.out, HK6.out⟩, by simp [intOf]; omega⟩
    · have hkl : k = L.length := by omega
      subst hkl
      rw [List.take_length] at HROW hcs ⊢
      obtain ⟨S, hS⟩ : ∃ S, S = L.filter (fun y => !(y == p)) := ⟨_, rfl⟩
      rw [← hS] at HROW hcs ⊢
      by_cases hin : L.contains p = true
      · have HN : Hid (((S.length : Int) == (L.length : Int)) = false) := Lib.hid (beq_eq_false_iff_ne.2 (fun e => by
          have := (drop_len (L := L) (p := p)).1 (by rw [← hS]; omega)
          rw [this] at hin; cases hin))
        have HDR : Hid (dropR L p = (S, 0)) := Lib.hid (by unfold dropR; rw [if_pos hin, ← hS])
        have hn := HN.out
        have HOS : Hid (okR S) := Lib.hid (by have := drop_ok HO.out p; rw [HDR.out] at this; exact this)
        have HBK := Lib.hid (HRR.out.keep HK.out)
        obtain ⟨vv, hbk⟩ : ∃ vv, Blk wr b 29 #[vv] := by obtain ⟨vv, q, _⟩ := HBK.out; exact ⟨vv, q⟩
        have HBK := Lib.hid hbk
        have hz := hbk.frozen 0
        clear hb hrow hms hin hS HN hfl hbk
        go_wp2_with fail
        go_ret
        exact ⟨by rw [HDR.out]; rfl, by rw [HDR.out]; exact RrStep.put hbl HK.out HBK.out HROW.out (Nat.le_refl _) HOS.out⟩
      · have hin : L.contains p = false := by simpa using hin
        have HN : Hid (((S.length : Int) == (L.length : Int)) = true) := Lib.hid (by
          have := (drop_len (L := L) (p := p)).2 hin
          rw [← hS] at this
          rw [this]; simp)
        have hn := HN.out
        have HDR : Hid (dropR L p = (L, 6)) := Lib.hid (by unfold dropR; rw [hin]; rfl)
        clear hb hrow hms hin hS HN hfl
        go_wp2_with fail
        go_ret
        exact ⟨by rw [HDR.out]; rfl, by rw [HDR.out]; exact RrStep.same HRR.out HK.out⟩
open ringHeirs in
theorem oth_last {L : List Int} (h : okR L) {p : Int} (bp : 0 ≤ p ∧ p ≤ 4294967295) (hp : p ∈ L) : nextR L (atR (othR L p) p (othR L p).length) = (p, true) := by
  have hne : L ≠ [] := fun e => by rw [e] at hp; simp at hp
  have key : ∀ q : Int, 0 ≤ q ∧ q ≤ 4294967295 → (∀ y ∈ L, (p - (q + 1) % 4294967296) % 4294967296 ≤ (y - (q + 1) % 4294967296) % 4294967296) → nextR L q = (p, true) := by
    intro q bq hall
    have h1 := own_is h (v := (q + 1) % 4294967296) (by omega) hp hall
    have h2 := (own_head ((q + 1) % 4294967296) hne).1
    unfold nextR
    rw [← h1, ← h2]
  unfold atR
  by_cases h0 : (othR L p).length = 0
  · rw [if_pos h0]
    refine key p bp fun y hy => ?_
    have : y = p := by
      by_cases e : y = p
      · exact e
      · have := oth_mem.2 ⟨hy, e⟩
        rw [List.eq_nil_of_length_eq_zero h0] at this
        simp at this
    rw [this]
    exact Int.le_refl _
  · rw [if_neg h0]
    have hm : (othR L p).length - 1 < (othR L p).length := by omega
    have hq := oth_mem.1 (List.getElem_mem hm)
    have bq := h.2.1 _ hq.1
    rw [show (othR L p).getD ((othR L p).length - 1) 0 = (othR L p)[(othR L p).length - 1] by simp [List.getD, hm]]
    refine key _ bq fun y hy => ?_
    by_cases e : y = p
    · rw [e]; exact Int.le_refl _
    · obtain ⟨j, hj, hje⟩ := List.getElem_of_mem (oth_mem.2 ⟨hy, e⟩)
      have by' := h.2.1 _ hy
      have hle : (y - p - 1) % 4294967296 ≤ ((othR L p)[(othR L p).length - 1] - p - 1) % 4294967296 := by
        rcases Nat.lt_or_ge j ((othR L p).length - 1) with h1 | h1
        · have := oth_lt h bp hm h1
          rw [hje] at this
          omega
        · have : j = (othR L p).length - 1 := by omega
          subst this
          rw [hje]
          exact Int.le_refl _
      have hqp := hq.2
      generalize (othR L p)[(othR L p).length - 1] = q at *
      omega
open ringHeirs in
set_option maxRecDepth 100000 in
set_option maxHeartbeats 4000000 in
theorem rrheirs_any (b : Nat) (L : List Int) (p n : Int) (w : World) (h : RrAt w b L) (bp : 0 ≤ p ∧ p ≤ 4294967295) (bn : -9223372036854775808 ≤ n ∧ n ≤ 9223372036854775807) :
    Calls Try.prog 26 #[.pointer (some ⟨b, 0, none⟩), .int .u32 p, .int .i64 n] w fun e w' => ∃ v, e = .returned v ∧ Rd (intE .u32) w' v (heirsR L p n) ∧ Below w.heap.size w w' := by
  have HO := Lib.hid h.ok
  have HRR := Lib.hid h
  have HBP := Lib.hid bp
  have hl64 : L.length ≤ 64 := h.ok.2.2
  obtain ⟨a, g, o, c, d0, hc1, hc2, ha, hcell, _⟩ := h.at
  have hc3 : c ≤ 9223372036854775807 := hc2
  have HD := Lib.hid d0
  obtain ⟨T, hT⟩ : ∃ T, T = othR L p := ⟨_, rfl⟩
  have HTE := Lib.hid hT
  have HTL : Hid (T.length = L.length ∨ (T.length + 1 = L.length ∧ p ∈ L)) := Lib.hid (by
    have := oth_len HO.out p
    rw [← hT] at this
    cases hc : L.contains p with
    | true =>
      rw [hc] at this
      have hm : p ∈ L := by simpa using hc
      have hp : 0 < L.length := List.length_pos_of_mem hm
      right
      simp at this
      exact ⟨by omega, hm⟩
    | false => rw [hc] at this; left; simpa using this)
  have HRES : Hid (heirsR L p n = T.take n.toNat) := Lib.hid (by rw [hT]; rfl)
  clear h ha hcell hc2 d0 hT bp
  go_enter Try.func26, Try.ntmps26
  go_upto_block 99 with fail
  go_loopw [7, 8, 9] (fun sv av iv wr => ∃ (i : Nat) (y : Int), i ≤ L.length ∧ iv = .int .i64 i ∧ (i ≤ n.toNat ∨ T.length ≤ n.toNat) ∧ av = .int .u32 y ∧ (i ≤ T.length → y = atR T p i) ∧ Row (intE .u32) 24 w.heap.size wr sv (T.take i) ∧ Below w.heap.size w wr) (fun _ _ iv _ => L.length - (intOf iv).toNat)
  case atStart => exact ⟨0, p, Nat.zero_le _, rfl, .inl (Nat.zero_le _), rfl, fun _ => rfl, Row.nil, Below.refl _ _⟩
  case round =>
    obtain ⟨i, y, hi, rfl, hin, rfl, hy, hrow, hb⟩ := hrel
    have HROW := Lib.hid hrow
    have HK := Lib.hid hb
    have HY := Lib.hid hy
    have d0 := kc hb HD.out
    obtain ⟨asv, cs, rfl, hcs, hms⟩ := hrow.rd.form
    have hms' : cs ≤ 9223372036854775807 := hms
    have HSL : Hid ((T.take i).length = min i T.length) := Lib.hid (List.length_take ..)
    obtain ⟨S, hS⟩ : ∃ S, S = T.take i := ⟨_, rfl⟩
    rw [← hS] at HROW hcs HSL ⊢
    by_cases hgo : i < L.length ∧ (S.length : Int) < n
    · obtain ⟨h1, h2⟩ := hgo
      have him : i ≤ T.length := by rcases HTL.out with q | q <;> omega
      have hsi : S.length = i := by rw [HSL.out]; omega
      have hye : y = atR T p i := HY.out him
      have h1' : (i : Int) < (L.length : Int) := by omega
      have HNX := Lib.hid (rrnext_any b L y wr (HRR.out.keep hb))
      by_cases hlt : i < T.length
      · have HN : Hid (nextR L y = (T.getD i 0, true)) := Lib.hid (by
          have := oth_next HO.out HBP.out (i := i) (by rw [← HTE.out]; exact hlt)
          rw [hye]
          unfold atR
          simp only [← HTE.out] at this
          rw [this, show T.getD i 0 = T[i] by simp [List.getD, hlt]])
        have hnp : T.getD i 0 ≠ p := by
          have hm : T.getD i 0 ∈ T := by rw [show T.getD i 0 = T[i] by simp [List.getD, hlt]]; exact List.getElem_mem hlt
          rw [HTE.out] at hm
          have := (oth_mem.1 hm).2
          rwa [← HTE.out] at this
        have HST : Hid (T.take (i + 1) = S ++ [T.getD i 0]) := Lib.hid (by rw [List.take_add_one, List.getElem?_eq_getElem hlt, Option.toList_some, hS, show T.getD i 0 = T[i] by simp [List.getD, hlt]])
        obtain ⟨S2, hS2⟩ : ∃ S2, S2 = T.take (i + 1) := ⟨_, rfl⟩
        rw [← hS2] at HST
        have HS2 := Lib.hid hS2
        have HYN : Hid (T.getD i 0 = atR T p (i + 1)) := Lib.hid (by unfold atR; rw [if_neg (by omega), Nat.add_sub_cancel])
        obtain ⟨x, hx⟩ : ∃ x, x = T.getD i 0 := ⟨_, rfl⟩
        rw [← hx] at HN hnp HST HYN
        have hne : (x == p) = false := beq_eq_false_iff_ne.2 hnp
        have hS64 : S.length ≤ 64 := by omega
        clear hx hb hrow hms hS hy hye HY hsi hS2
        go_wp2_with fail
        refine HNX.out.mono ?_
        rw [HN.out]
        rintro e w5 ⟨rfl, hk⟩
        have HROW5 := Lib.hid (HROW.out.keep hk)
        have HK5 := Lib.hid (nest HK.out hk)
        have HX5 : Hid (Below w5.heap.size w5 (w5.alloc (.cells #[.int .u32 x] 24))) := Lib.hid (more (Below.refl _ _) _)
        have HS64 := Lib.hid hS64
        clear hk HROW HK HNX d0
        go_upto_region 9 with (at_builtin; refine wpList_append (E := intE .u32) (B := w.heap.size) (l := S) (m := [x]) (bytes := 4) rgElem Nat.zero_lt_one rfl (.tmp 37) (.tmp 39) rfl rfl (HROW5.out.keep HX5.out) rfl (Rd.fresh _ x _ _ _ rfl (by first | rfl | simp)) (by have := HS64.out; simp [maxLen]; omega) (by have := HS64.out; simp; omega) (nest HK5.out HX5.out).size ?_; intro v6 w6 hr6 hk6 hg6 _; rw [← HST.out] at hr6; obtain ⟨a6, c6, rfl, _, _⟩ := hr6.rd.form)
        have HROW6 := Lib.hid hr6
        have HK6 := Lib.hid ((nest HK5.out HX5.out).trans hk6)
        clear hr6 hk6 hg6 HROW5 HK5 HX5
        go_wp2_with fail
        exact ⟨⟨i + 1, x, by omega, by go_num, by have := HSL.out; omega, rfl, fun _ => HYN.out, by rw [← HS2.out]; exact HROW6.out, HK6.out⟩, by simp [intOf]; omega⟩
      · have him2 : i = T.length := by omega
        have hpL : p ∈ L := by rcases HTL.out with q | q; omega; exact q.2
        have HN : Hid (nextR L y = (p, true)) := Lib.hid (by
          rw [hye, him2, HTE.out]
          exact oth_last HO.out HBP.out hpL)
        have HST : Hid (T.take (i + 1) = S) := Lib.hid (by rw [hS, List.take_of_length_le (by omega), List.take_of_length_le (by omega)])
        clear hb hrow hms hS hy hye HY hsi
        go_wp2_with fail
        refine HNX.out.mono ?_
        rw [HN.out]
        rintro e w5 ⟨rfl, hk⟩
        have HROW5 := Lib.hid (HROW.out.keep hk)
        have HK5 := Lib.hid (nest HK.out hk)
        clear hk HROW HK HNX d0
        go_wp2_with fail
        exact ⟨⟨i + 1, p, by omega, by go_num, by have := HSL.out; omega, rfl, fun h => by omega, by rw [HST.out]; exact HROW5.out, HK5.out⟩, by simp [intOf]; omega⟩
    · have HF : Hid (S = heirsR L p n) := Lib.hid (by
        rw [HRES.out, hS]
        have hsl := HSL.out
        rcases HTL.out with q | ⟨q, _⟩
        all_goals
          by_cases h1 : T.length ≤ n.toNat
          · rw [List.take_of_length_le h1]
            by_cases h2 : T.length ≤ i
            · exact List.take_of_length_le h2
            · exfalso; apply hgo; omega
          · have h2 : i ≤ n.toNat := by omega
            have h3 : i = n.toNat := by
              by_cases h4 : i < L.length
              · have : ¬ (S.length : Int) < n := fun h5 => hgo ⟨h4, h5⟩
                omega
              · omega
            rw [h3])
      have hcond : ¬ (i : Int) < (L.length : Int) ∨ ((i : Int) < (L.length : Int) ∧ ¬ (S.length : Int) < n) := by omega
      clear hb hrow hms hS hy hgo
      rcases hcond with q | ⟨q1, q2⟩
      all_goals
        go_wp2_with fail
        go_ret
        exact ⟨_, rfl, by rw [← HF.out]; exact HROW.out.rd, HK.out⟩
end Go.Proofs.Ytpgljdngbiicmaa
