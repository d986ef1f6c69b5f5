/- Walks of package sample: the mean of loads, a walk by chance. -/
import Derived.Test.YtgkfioloceemcaaRingC
import Derived.Test.YtgkfioloceemcaaSaMath
import Derived.Test.YtgkfioloceemcaaDiceOwn
import Derived.Test.YtgkfioloceemcaaGrMap
import Derived.Test.YtgkfioloceemcaaLdRef
import Derived.Deep.CutBlock
import Derived.Deep.Light
set_option maxRecDepth 4000
namespace Go.Proofs.Ytgkfioloceemcaa
open Go.RowKit Mem
set_option linter.unusedSimpArgs false
set_option linter.unusedVariables false
attribute [local irreducible] Go.Calls

theorem said_upto {S : Nat → Prop} {w x y : World} (h : Turned S w x) (k : Below w.heap.size x y) : Turned S w y := ⟨k.os.trans h.os, k.tape.trans h.tape, k.output.trans h.output, Nat.le_trans h.size k.size, fun j hj hs => (k.block j hj).trans (h.block j hj hs)⟩
/-- numbers lie in no dice -/
theorem rd_ne_dice {w : World} {v : Value} {l : List Int} (h : Rd (intE .u32) w v l) (hl : 0 < l.length) {d : Nat} {s : Int} (hd : DAt w d s) : v.ownBlock ≠ some d := by
  obtain ⟨a, c, hv, h1, h2, h3⟩ := h
  obtain ⟨g', off, ha, hc⟩ := h3 hl
  intro e
  rw [hv, ha] at e
  have e : some g' = some d := e
  injection e with e
  subst e
  have hlen : 0 < ((intE .u32).flat l).length := by rw [Enc.flat_len]; exact Nat.mul_pos hl (by decide)
  have hcell := hc 0 _ (List.getElem?_eq_getElem hlen)
  obtain ⟨x, hx⟩ : ∃ x, ((intE .u32).flat l)[0] = .int .u32 x := by
    cases l with
    | nil => exact absurd hl (by simp)
    | cons x l => exact ⟨x, rfl⟩
  rw [hx, Blk.cell (show Blk w g' 62 #[.int .u64 s] from hd)] at hcell
  cases off with
  | zero => simp at hcell
  | succ n => simp at hcell
theorem LinksIs.beside {w w' : World} {mv : Value} {K : Int → List Int} (h : LinksIs w mv K) {d : Nat} {s : Int} (hd : DAt w d s) (t : Turned (fun j => j = d) w w') : LinksIs w' mv K := by
  obtain ⟨M, h1, h2, h3⟩ := h
  refine ⟨M, ?_, fun p hp => ⟨(h2 p hp).1, ?_, (h2 p hp).2.2⟩, h3⟩
  · rcases h1 with h1 | ⟨g, e, hg⟩
    · exact .inl h1
    · exact .inr ⟨g, e, hg.turned t (MapAt.ne_blk hg hd)⟩
  · have hr := (h2 p hp).2.1
    by_cases hl : 0 < p.2.1.length
    · exact hr.turned t (fun g hg e => rd_ne_dice hr hl hd (by rw [hg, e]))
    · obtain ⟨a, c, hv, q1, q2, _⟩ := hr
      exact ⟨a, c, hv, q1, q2, fun h => absurd h hl⟩

set_option maxHeartbeats 1000000 in
theorem sshare_any (s : Int) (n : Nat) (hs : 0 ≤ s ∧ s ≤ 2147483647 * n) (hn : 0 < n ∧ n ≤ 1000000) (w : World) : Calls Try.prog 30 #[.int .u64 s, .int .u64 n] w fun e w' => e = .returned (.int .u64 (256 * s / n)) ∧ Below w.heap.size w w' := by
  have hn0 : ¬ (n : Int) = 0 := by omega
  obtain ⟨q, hq⟩ : ∃ q, q = s / n := ⟨_, rfl⟩
  obtain ⟨r, hr⟩ : ∃ r, r = s % n := ⟨_, rfl⟩
  have hqr : s = n * q + r := by rw [hq, hr]; exact (Int.mul_ediv_add_emod s n).symm
  have hr0 : 0 ≤ r := by rw [hr]; exact Int.emod_nonneg _ hn0
  have hr1 : r < n := by rw [hr]; exact Int.emod_lt_of_pos _ (by omega)
  have hq0 : 0 ≤ q := by rw [hq]; exact Int.ediv_nonneg hs.1 (by omega)
  have hq1 : q ≤ 2147483647 := by
    rw [hq]
    exact Int.le_of_lt_add_one (Int.ediv_lt_of_lt_mul (by omega) (by omega))
  obtain ⟨t, ht⟩ : ∃ t, t = r * 256 / n := ⟨_, rfl⟩
  have ht0 : 0 ≤ t := by rw [ht]; exact Int.ediv_nonneg (by omega) (by omega)
  have ht1 : t < 256 := by rw [ht]; exact Int.ediv_lt_of_lt_mul (by omega) (by omega)
  have HE : Hid (256 * s / n = q * 256 + t) := Lib.hid (by
    rw [hqr, ht, show 256 * ((n : Int) * q + r) = r * 256 + (q * 256) * n by rw [Int.mul_add, Int.mul_comm 256 r, Int.mul_comm (n : Int) q, Int.add_comm, ← Int.mul_assoc, Int.mul_comm 256 q], Int.add_mul_ediv_right _ _ hn0, Int.add_comm])
  have f1 : s.tdiv (n : Int) = q := by rw [Int.tdiv_eq_ediv_of_nonneg hs.1, hq]
  have f2 : s.tmod (n : Int) = r := by rw [Int.tmod_eq_emod_of_nonneg hs.1, hr]
  have f3 : (r * 256).tdiv (n : Int) = t := by rw [Int.tdiv_eq_ediv_of_nonneg (by omega), ht]
  have HF := Lib.hid (And.intro f1 (And.intro f2 f3))
  have g1 : IntKind.u64.wrap q = q := by rw [IntKind.wrap_u64]; omega
  have g2 : IntKind.u64.wrap (q * 256) = q * 256 := by rw [IntKind.wrap_u64]; omega
  have g3 : IntKind.u64.wrap r = r := by rw [IntKind.wrap_u64]; omega
  have g4 : IntKind.u64.wrap (r * 256) = r * 256 := by rw [IntKind.wrap_u64]; omega
  have g5 : IntKind.u64.wrap t = t := by rw [IntKind.wrap_u64]; omega
  have g6 : IntKind.u64.wrap (q * 256 + t) = q * 256 + t := by rw [IntKind.wrap_u64]; omega
  rw [HE.out]
  clear hq hr hqr hr0 hr1 hq0 hq1 ht ht0 ht1 HE hs hn HF
  go_enter Try.func30, Try.ntmps30
  go_wp2_with fail
  go_region
  go_wp2_with fail
  go_ret
  exact ⟨rfl, (Below.refl _ _).drew⟩

set_option maxHeartbeats 1000000 in
theorem smean_any (v : Value) (l : List Ld) (w : World) (h : Rd ldE w v l) (hb : ∀ x ∈ l, okLd x) (hl : l.length ≤ 1000000) : Calls Try.prog 19 #[v] w fun e w' => e = .returned (.int .u64 (meanV l)) ∧ Below w.heap.size w w' := by
  obtain ⟨a, g, off, c, rfl, _, hc2, hga, hcs⟩ := h.loop2
  have hc2' : c ≤ 9223372036854775807 := hc2
  have HC := Lib.hid hcs
  have HG := Lib.hid hga
  have HLL := Lib.hid hl
  clear h hcs hga
  by_cases h0 : l = []
  · subst h0
    go_enter Try.func19, Try.ntmps19
    go_wp2_with fail
    go_ret
    exact ⟨rfl, Below.refl _ _⟩
  have hpos : 0 < l.length := List.length_pos_iff.2 h0
  have hne : ((l.length : Int) == 0) = false := beq_eq_false_iff_ne.2 (by omega)
  have HM := Lib.hid (meanV_some hpos)
  have HSB := Lib.hid (sumP_bd l)
  have HPOS := Lib.hid hpos
  obtain ⟨rfl, _⟩ := HG.out hpos
  obtain ⟨RES, hRES⟩ : ∃ x, x = meanV l := ⟨_, rfl⟩
  rw [← hRES] at HM ⊢
  clear hRES h0 hb
  go_enter Try.func19, Try.ntmps19
  go_upto_block 99 with fail
  go_loopw [3, 11] (fun s i wr => ∃ k : Nat, k ≤ l.length ∧ s = .int .u64 (sumP (l.take k)) ∧ i = .int .i64 k ∧ Below w.heap.size w wr) (fun _ i _ => l.length - (intOf i).toNat)
  case atStart => exact ⟨0, by omega, rfl, rfl, Below.refl _ _⟩
  case round =>
    obtain ⟨k, hk, rfl, rfl, hb⟩ := hrel
    have HB := Lib.hid hb
    by_cases hlt : k < l.length
    · have hkl : (k : Int) < (l.length : Int) := by omega
      have d0 := kc hb (HC.out k hlt).1
      have d1 := kc hb (HC.out k hlt).2
      have HST := Lib.hid (sumP_step hlt)
      have HB2 := Lib.hid (sumP_bd (l.take (k + 1)))
      have HLN : Hid ((l.take (k + 1)).length ≤ 1000000) := Lib.hid (by rw [List.length_take]; omega)
      obtain ⟨e, he⟩ : ∃ e, e = (l.getD k (0, 0)).2 := ⟨_, rfl⟩
      obtain ⟨e1, he1⟩ : ∃ e, e = (l.getD k (0, 0)).1 := ⟨_, rfl⟩
      rw [← he] at d1 HST
      rw [← he1] at d0
      clear he hb he1
      have HPB := Lib.hid (posV_bd e)
      have hmin : min (max e 0) 2147483647 = posV e := by unfold posV; omega
      obtain ⟨m, hmm⟩ : ∃ m, max e 0 = m := ⟨_, rfl⟩
      have hmax2 : (if e < 0 then 0 else e) = m := by rw [← hmm]; omega
      rw [hmm] at hmin
      have hmin2 : (if m < 2147483647 then m else 2147483647) = posV e := by rw [← hmin]; omega
      have hmin3 : (if 2147483647 < m then 2147483647 else m) = posV e := by rw [← hmin]; omega
      obtain ⟨p, hp⟩ : ∃ p, p = posV e := ⟨_, rfl⟩
      rw [← hp] at hmin hmin2 hmin3 HST HPB
      have hpw : IntKind.u64.wrap p = p := by rw [IntKind.wrap_u64]; have := HPB.out; omega
      have hsw : IntKind.u64.wrap (sumP (l.take k) + p) = sumP (l.take (k + 1)) := by rw [IntKind.wrap_u64, HST.out]; have := HB2.out; have := HST.out; have := HLN.out; omega
      clear hp
      go_wp2_with fail
      exact ⟨⟨k + 1, by omega, rfl, by go_num, more HB.out _⟩, by simp [intOf]; omega⟩
    · have hkl : k = l.length := by omega
      subst hkl
      rw [List.take_length]
      have hm2 : IntKind.u64.wrap (l.length : Int) = (l.length : Int) := by rw [IntKind.wrap_u64]; have := HLL.out; omega
      have HS := Lib.hid (fun z => sshare_any (sumP l) l.length HSB.out ⟨HPOS.out, HLL.out⟩ z)
      rw [← HM.out] at HS
      generalize sumP l = s at *
      clear hb
      go_wp2_with (go_at_call 30; refine (HS.out _).mono ?_; rintro e w2 ⟨rfl, hk2⟩)
      go_ret
      exact ⟨rfl, nest HB.out hk2⟩

set_option maxRecDepth 100000 in
set_option maxHeartbeats 4000000 in
theorem sahead_any (b : Nat) (W R : Nat → Prop) (L KA : List Int) (u : Value) (a : Int) (w : World) (h : RgAt w b W R L) (hu : Rd (intE .u32) w u KA) (hl : ∀ x ∈ KA, 0 ≤ x ∧ x ≤ 4294967295) (hK : KA.length ≤ 1000000) (ba : 0 ≤ a ∧ a ≤ 4294967295) :
    Calls Try.prog 24 #[.pointer (some ⟨b, 0, none⟩), u, .int .u32 a] w fun e w' => ∃ v, e = .returned v ∧ Row (intE .u32) 24 w.heap.size w' v (pickL L (nextR L a).1 KA KA.length) ∧ Below w.heap.size w w' := by
  have HHS : Hid (∀ z x, Below w.heap.size w z → (0 ≤ x ∧ x ≤ 4294967295) → Calls Try.prog 23 #[.pointer (some ⟨b, 0, none⟩), .int .u32 x] z fun e w' => e = .returned (.bool (L.contains x)) ∧ Below z.heap.size z w') := Lib.hid fun z x hz bx => rghas_any b W R L x z (h.turned (S := fun _ => False) (Turned.of_below hz) (fun _ _ h => h)) bx
  have HNX := Lib.hid (rgnext_any b W R L a w h ba)
  have HLL := Lib.hid hK
  have HBL := Lib.hid hl
  obtain ⟨au, gu, ou, cu, rfl, hcu, hmu, hau, heu⟩ := Mem.Rd.loopI hu
  have hmu' : cu ≤ 9223372036854775807 := hmu
  have HAU := Lib.hid hau
  have HEU := Lib.hid heu
  obtain ⟨nx, hnx⟩ : ∃ x, x = (nextR L a).1 := ⟨_, rfl⟩
  rw [← hnx] at HNX ⊢
  generalize (nextR L a).2 = nis at HNX
  obtain ⟨RES, hRES⟩ : ∃ x, x = pickL L nx KA KA.length := ⟨_, rfl⟩
  rw [← hRES]
  have HRES := Lib.hid hRES
  clear h hu hl hK hau heu hmu hnx hRES
  go_enter Try.func24, Try.ntmps24
  go_upto_region 2 with (go_at_call 34; refine HNX.out.mono ?_; rintro e w1 ⟨rfl, hk⟩)
  have HK1 := Lib.hid hk
  clear hk HNX
  go_upto_region 3 with fail
  have hX : Below w1.heap.size w1 (w1.alloc (.cells #[.int .u32 nx] 24)) := more (Below.refl _ _) _
  have HROW0 := Lib.hid (Row.lit (E := intE .u32) (T := 24) w.heap.size w1 #[.int .u32 nx] [nx] 1 w1.heap.size rfl rfl rfl HK1.out.size (by simp [maxLen]))
  have HK2 := Lib.hid (nest HK1.out hX)
  clear hX HK1
  generalize w1.alloc (.cells #[.int .u32 nx] 24) = w2 at *
  go_upto_block 99 with fail
  go_loopw [9, 22] (fun sv iv wr => ∃ i : Nat, i ≤ KA.length ∧ iv = .int .i64 i ∧ Row (intE .u32) 24 w.heap.size wr sv (pickL L nx KA i) ∧ Below w.heap.size w wr) (fun _ iv _ => KA.length - (intOf iv).toNat)
  case atStart => exact ⟨0, Nat.zero_le _, rfl, by rw [pickL_zero]; exact HROW0.out, HK2.out⟩
  case round =>
    obtain ⟨i, hi, rfl, hrow, hk⟩ := hrel
    have HKI := Lib.hid hk
    obtain ⟨asv, cs, rfl, hcs, hms⟩ := hrow.rd.form
    have HROW := Lib.hid hrow
    have HLN := Lib.hid (pickL_len L nx KA i)
    clear hrow HROW0 HK2
    by_cases hlt : i < KA.length
    · skip
      as_aux_lemma =>
        obtain ⟨rfl, _⟩ := HAU.out (by omega)
        have e0 := kc hk (HEU.out i hlt)
        have HST := Lib.hid (pickL_step L nx KA hlt)
        have HBQ := Lib.hid (HBL.out (KA.getD i 0) (by rw [show KA.getD i 0 = KA[i] by simp [List.getD, hlt]]; exact List.getElem_mem hlt))
        obtain ⟨q, hq⟩ : ∃ x, x = KA.getD i 0 := ⟨_, rfl⟩
        rw [← hq] at e0 HST HBQ
        have HI := Lib.hid hlt
        have hil : (i : Int) < (KA.length : Int) := by omega
        have hcl : (KA.length : Int) ≤ cu := by omega
        have HINQ := Lib.hid (HHS.out wr q HKI.out HBQ.out)
        obtain ⟨qc, hqc⟩ : ∃ x, x = L.contains q := ⟨_, rfl⟩
        rw [← hqc] at HINQ HST
        obtain ⟨P, hP⟩ : ∃ P, P = pickL L nx KA i := ⟨_, rfl⟩
        rw [← hP] at HROW HLN HST ⊢
        have hms' : cs ≤ 9223372036854775807 := hms
        clear hq hk hqc hi hlt hP hms
        cases qc with
        | true =>
          have HN : Hid (pickL L nx KA (i + 1) = P ++ [q]) := Lib.hid HST.out
          have HLA : Hid ((P.length + [q].length) ≤ maxLen ∧ (P.length + [q].length) * 4 ≤ 140737488355328) := Lib.hid (by have := HLN.out; have := HI.out; have := HLL.out; exact ⟨by simp [maxLen]; omega, by simp; omega⟩)
          go_wp2_with (first | (go_at_call 23; refine HINQ.out.mono ?_; rintro e w4 ⟨rfl, hk4⟩; have hX : Below w4.heap.size w4 (w4.alloc (.cells #[.int .u32 q] 24)) := more (Below.refl _ _) _; have HX := Lib.hid (nest hk4 hX); clear hX; have HFR : Hid (Rd (intE .u32) (w4.alloc (.cells #[.int .u32 q] 24)) (.slice (some ⟨w4.heap.size, 0, none⟩) 1 1) [q]) := Lib.hid (Rd.fresh w4 q _ _ _ rfl rfl)) | (at_builtin; go_must (refine wpList_append (E := intE .u32) (B := w.heap.size) (l := P) (m := [q]) (bytes := 4) u32Elem32 Nat.zero_lt_one rfl (.tmp 29) (.tmp 31) rfl rfl (HROW.out.keep HX.out) rfl HFR.out HLA.out.1 HLA.out.2 (nest HKI.out HX.out).size ?_); intro v9 z hr9 hk9 hg9 hw9; clear hg9 hw9; rw [← HN.out] at hr9))
          exact ⟨⟨i + 1, by have := HI.out; omega, by go_num, hr9, (nest HKI.out HX.out).trans hk9⟩, by have := HI.out; simp [intOf]; omega⟩
        | false =>
          have HN : Hid (pickL L nx KA (i + 1) = P) := Lib.hid (by rw [HST.out]; simp)
          go_wp2_with (go_at_call 23; refine HINQ.out.mono ?_; rintro e w4 ⟨rfl, hk4⟩)
          exact ⟨⟨i + 1, by have := HI.out; omega, by go_num, by rw [HN.out]; exact HROW.out.keep hk4, nest HKI.out hk4⟩, by have := HI.out; simp [intOf]; omega⟩
    · have hil : ¬ (i : Int) < (KA.length : Int) := by omega
      have hie : i = KA.length := by omega
      subst hie
      rw [← HRES.out] at HROW ⊢
      clear hk
      go_wp2_with fail
      go_ret
      exact ⟨_, rfl, HROW.out, HKI.out⟩

set_option maxRecDepth 100000 in
set_option maxHeartbeats 4000000 in
theorem swalk_any (r d : Nat) (W R : Nat → Prop) (L : List Int) (K : Int → List Int) (mv : Value) (a steps s : Int) (w : World) (h : RgAt w r W R L) (hm : LinksIs w mv K) (hK : ∀ o, (K o).length ≤ 1000000) (hd : DAt w d s) (hR : ¬ R d) (bs : 0 ≤ s ∧ s ≤ 18446744073709551615) (ba : 0 ≤ a ∧ a ≤ 4294967295) (bn : -9223372036854775808 ≤ steps ∧ steps ≤ 9223372036854775807) :
    Calls Try.prog 12 #[.pointer (some ⟨r, 0, none⟩), mv, .int .u32 a, .int .i64 steps, .pointer (some ⟨d, 0, none⟩)] w fun e w' => ∃ v, e = .returned v ∧ Rd (intE .u32) w' v (walkR L K a steps s) ∧ (∀ g, v.ownBlock = some g → w.heap.size ≤ g) ∧ DAt w' d (walkE L K a steps s) ∧ Turned (fun j => j = d) w w' := by
  have HO := Lib.hid h.ok
  have HD := Lib.hid hd
  have HDL := Lib.hid hd.lt
  have HCA := Lib.hid (rghas_any r W R L a w h ba)
  have HMF : Hid (∃ m, mv = .map m) := Lib.hid (by
    obtain ⟨M, h1, _⟩ := hm
    rcases h1 with ⟨rfl, _⟩ | ⟨g, rfl, _⟩
    · exact ⟨_, rfl⟩
    · exact ⟨_, rfl⟩)
  have HAH : Hid (∀ z x, Turned (fun j => j = d) w z → (0 ≤ x ∧ x ≤ 4294967295) → ∃ u, (Instr.lookup 33 mv (.int .u32 x) false).run Try.prog z = .ok u z ∧ Calls Try.prog 24 #[.pointer (some ⟨r, 0, none⟩), u, .int .u32 x] z fun e w' => ∃ v, e = .returned v ∧ Row (intE .u32) 24 z.heap.size w' v (someL L K x) ∧ Below z.heap.size z w') := Lib.hid fun z x hz bx => by
    obtain ⟨u, hr, hu, hlb⟩ := (hm.beside hd hz).look bx
    have := sahead_any r W R L (K x) u x z (h.turned hz (fun j hj e => hR (e ▸ hj))) hu hlb (hK x) bx
    rw [pickL_all] at this
    exact ⟨u, hr, this⟩
  obtain ⟨m, rfl⟩ := HMF.out
  obtain ⟨cn, hcn⟩ : ∃ x, x = L.contains a := ⟨_, rfl⟩
  have HBA := Lib.hid ba
  have HBS := Lib.hid bs
  have HKL := Lib.hid hK
  have HWR : Hid (walkR L K a steps s = if cn then walkL L K a s (stepsN steps) else []) := Lib.hid (by rw [hcn]; rfl)
  have HWE : Hid (walkE L K a steps s = if cn then (hops L K a s (stepsN steps)).2 else s) := Lib.hid (by rw [hcn]; rfl)
  rw [← hcn] at HCA
  have HCN := Lib.hid hcn
  obtain ⟨n, hn⟩ : ∃ n, n = stepsN steps := ⟨_, rfl⟩
  obtain ⟨mi, hmi⟩ : ∃ mi, min steps 1000 = mi := ⟨_, rfl⟩
  have hmi2 : (if (1000 : Int) < steps then 1000 else steps) = mi := by rw [← hmi]; omega
  have hmi3 : (if steps < (1000 : Int) then steps else 1000) = mi := by rw [← hmi]; omega
  have HNM : Hid (n = mi.toNat ∧ n ≤ 1000) := Lib.hid (by unfold stepsN at hn; rw [hmi] at hn; omega)
  rw [← hn] at HWR HWE
  rw [HWR.out, HWE.out]
  clear h hm ba bs hK hd hR hcn HMF hn bn HWR HWE
  go_enter Try.func12, Try.ntmps12
  cases cn with
  | false =>
    go_wp2_with (go_at_call 23; refine HCA.out.mono ?_; rintro e w2 ⟨rfl, hk2⟩)
    go_ret
    exact ⟨_, rfl, Rd.nil _ _ (Nat.zero_le _), (fun g hg => by cases hg), HD.out.keep hk2, Turned.of_below hk2⟩
  | true =>
    rw [if_pos rfl, if_pos rfl]
    have HAL : Hid (a ∈ L) := Lib.hid (by have := HCN.out.symm; simpa using this)
    have HHB : Hid (∀ i, (0 ≤ (hops L K a s i).1 ∧ (hops L K a s i).1 ≤ 4294967295)) := Lib.hid fun i => HO.out.2.1 _ (hops_mem HAL.out i)
    obtain ⟨RES, hRES⟩ : ∃ x, x = walkL L K a s n := ⟨_, rfl⟩
    rw [← hRES]
    have HRES := Lib.hid hRES
    obtain ⟨FIN, hFIN⟩ : ∃ x, x = (hops L K a s n).2 := ⟨_, rfl⟩
    rw [← hFIN]
    have HFIN := Lib.hid hFIN
    clear hRES hFIN
    go_upto_region 3 with (go_at_call 23; refine HCA.out.mono ?_; rintro e w2 ⟨rfl, hk2⟩)
    have HK2 := Lib.hid hk2
    clear hk2 HCA
    go_upto_region 4 with fail
    have hX : Below w2.heap.size w2 (w2.alloc (.cells #[.int .u32 a] 24)) := more (Below.refl _ _) _
    have HROW0 := Lib.hid (Row.lit (E := intE .u32) (T := 24) w.heap.size w2 #[.int .u32 a] [a] 1 w2.heap.size rfl rfl rfl HK2.out.size (by simp [maxLen]))
    have HK3 := Lib.hid (nest HK2.out hX)
    clear hX HK2
    generalize w2.alloc (.cells #[.int .u32 a] 24) = w3 at *
    go_upto_block 99 with fail
    go_loopw [2, 11, 21] (fun av sv iv wr => ∃ i : Nat, i ≤ n ∧ iv = .int .i64 i ∧ av = .int .u32 (hops L K a s i).1 ∧ Row (intE .u32) 24 w.heap.size wr sv (walkL L K a s i) ∧ DAt wr d (hops L K a s i).2 ∧ Turned (fun j => j = d) w wr) (fun _ _ iv _ => n - (intOf iv).toNat)
    case atStart => exact ⟨0, Nat.zero_le _, rfl, rfl, by rw [walkL_zero]; exact HROW0.out, HD.out.keep HK3.out, Turned.of_below HK3.out⟩
    case round =>
      obtain ⟨i, hi, rfl, rfl, hrow, hdi, ht⟩ := hrel
      have HTI := Lib.hid ht
      have HDI := Lib.hid hdi
      obtain ⟨asv, cs, rfl, hcs, hms⟩ := hrow.rd.form
      have HROW := Lib.hid hrow
      have HRL : Hid ((walkL L K a s i).length = i + 1) := Lib.hid (walkL_len L K a s i)
      have HXB := Lib.hid (HHB.out i)
      have HSB := Lib.hid (hops_bd (L := L) (K := K) (a := a) HBS.out i)
      have HST := Lib.hid (walkL_step L K a s i)
      have HHS := Lib.hid (hops_succ L K a s i)
      have HI := Lib.hid hi
      clear hrow hdi ht HROW0 HK3
      obtain ⟨hp, hhp⟩ : ∃ q, q = hops L K a s i := ⟨_, rfl⟩
      obtain ⟨x, t⟩ := hp
      rw [← hhp] at HDI HXB HSB HHS ⊢
      dsimp only at HDI HXB HSB ⊢
      obtain ⟨P, hP⟩ : ∃ P, P = walkL L K a s i := ⟨_, rfl⟩
      rw [← hP] at HROW HRL HST hcs ⊢
      have HPI := Lib.hid hP
      have HHP := Lib.hid hhp
      clear hhp hP
      by_cases hlt : i < n
      · skip
        as_aux_lemma =>
          have hil : (i : Int) < mi := by have := HNM.out; omega
          have hms' : cs ≤ 9223372036854775807 := hms
          obtain ⟨u, hlk, hah⟩ := HAH.out wr x HTI.out HXB.out
          have HAHC := Lib.hid hah
          have HLT := Lib.hid hlt
          clear hah hlt hi hms
          go_upto_region 7 with (go_at_call 24; refine HAHC.out.mono ?_; rintro e w4 ⟨v4, rfl, hr4, hk4⟩)
          have HSP := Lib.hid (someL_pos L K x)
          have HSL : Hid ((someL L K x).length ≤ 1000001) := Lib.hid (by
            have := HKL.out x
            rw [← pickL_all]
            exact Nat.le_trans (pickL_len _ _ _ _) (by omega))
          have HHF : Hid (hops L K a s (i + 1) = ((someL L K x).getD (droll t (someL L K x).length).toNat 0, dafter t (someL L K x).length)) := Lib.hid (by rw [HHS.out]; rfl)
          have HDR := Lib.hid (droll_in t HSP.out)
          obtain ⟨S, hS⟩ : ∃ S, S = someL L K x := ⟨_, rfl⟩
          rw [← hS] at hr4 HSP HSL HHF HDR
          obtain ⟨k, hk⟩ : ∃ k : Nat, k = (droll t S.length).toNat := ⟨_, rfl⟩
          have HRO := Lib.hid (fun z (hz : DAt z d t) => ddroll_any d t HSB.out (S.length : Int) (by have := HSL.out; omega) z hz)
          rw [show droll t S.length = (k : Int) by have := HDR.out; omega] at HRO
          rw [← hk] at HHF HDR
          have HKS := Lib.hid HDR.out.2.2
          have HR4 := Lib.hid hr4
          have HB4 := Lib.hid hk4
          have HD4 := Lib.hid (HDI.out.keep hk4)
          obtain ⟨a4, g4, o4, c4, rfl, hc4, hm4, ha4, he4⟩ := Mem.Rd.loopI hr4.rd
          have hc4' : c4 ≤ 9223372036854775807 := hm4
          obtain ⟨rfl, _⟩ := ha4 HSP.out
          have HG4 : Hid (wr.heap.size ≤ g4) := Lib.hid (hr4.block g4 rfl).1
          have HGD : Hid (¬ g4 = d) := Lib.hid (by have := HG4.out; have := HTI.out.size; have := HDL.out; omega)
          have HC4 := Lib.hid (he4 k HKS.out)
          have HSIZ := Lib.hid hk4.size
          obtain ⟨y, hy⟩ : ∃ y, y = S.getD k 0 := ⟨_, rfl⟩
          rw [← hy] at HC4 HHF
          have HROW4 := Lib.hid (HROW.out.keep hk4)
          have HT4 := Lib.hid (HTI.out.trans (Turned.of_below hk4) (S' := fun j => j = d) (fun _ _ h => h))
          have hkn : (k : Int) < (S.length : Int) := by have := HKS.out; omega
          have hsn : (S.length : Int) ≤ c4 := by omega
          have HPL : Hid (i + 1 ≤ 1000) := Lib.hid (by have := HNM.out; have := HLT.out; omega)
          clear hS hk hr4 hk4 hlk HAHC HDR hm4 ha4 he4 hy HKS HROW HDI HTI
          generalize dafter t (S.length : Int) = t' at *
          go_upto_region 8 with (go_at_call 25; refine (HRO.out _ HD4.out).mono ?_; rintro e w5 ⟨rfl, hd5, ho5⟩; have d0 := (Turned.of_only ho5 (S := fun j => j = d) rfl).cell HC4.out HGD.out)
          have HD5 := Lib.hid hd5
          have HT5 : Hid (Turned (fun j => j = d) w w5) := Lib.hid (HT4.out.trans (Turned.of_only ho5 (S := fun j => j = d) rfl) (fun _ _ h => h))
          have HROW5 := Lib.hid (HROW4.out.only ho5 (fun e => by have := (HROW4.out.block d e).1; have := HDL.out; omega))
          clear hd5 ho5 HROW4 HT4 HD4 d0 HC4
          have hX : Below w5.heap.size w5 (w5.alloc (.cells #[.int .u32 y] 24)) := more (Below.refl _ _) _
          have HX := Lib.hid hX
          have HFR : Hid (Rd (intE .u32) (w5.alloc (.cells #[.int .u32 y] 24)) (.slice (some ⟨w5.heap.size, 0, none⟩) 1 1) [y]) := Lib.hid (Rd.fresh w5 y _ _ _ rfl rfl)
          have HLA : Hid ((P.length + [y].length) ≤ maxLen ∧ (P.length + [y].length) * 4 ≤ 140737488355328) := Lib.hid (by have := HRL.out; have := HPL.out; exact ⟨by simp [maxLen]; omega, by simp; omega⟩)
          have HN : Hid (walkL L K a s (i + 1) = P ++ [y]) := Lib.hid (by rw [HST.out, HHF.out])
          clear hX
          go_wp2_with (at_builtin; go_must (refine wpList_append (E := intE .u32) (B := w.heap.size) (l := P) (m := [y]) (bytes := 4) u32Elem32 Nat.zero_lt_one rfl (.tmp 36) (.tmp 38) rfl rfl (HROW5.out.keep HX.out) rfl HFR.out HLA.out.1 HLA.out.2 (Nat.le_trans HT5.out.size HX.out.size) ?_); intro v9 z hr9 hk9 hg9 hw9; clear hg9 hw9; rw [← HN.out] at hr9)
          exact ⟨⟨i + 1, by have := HLT.out; omega, by go_num, by rw [HHF.out], hr9, by rw [HHF.out]; exact Blk.below (HD5.out.keep HX.out) hk9 HDL.out, said_upto (HT5.out.trans (Turned.of_below HX.out) (S' := fun j => j = d) (fun _ _ h => h)) hk9⟩, by have := HLT.out; simp [intOf]; omega⟩
      · have hil : ¬ (i : Int) < mi := by have := HNM.out; omega
        have hie : i = n := by omega
        subst hie
        have HF1 : Hid (t = FIN) := Lib.hid (by rw [HFIN.out, ← HHP.out])
        have HF2 : Hid (P = RES) := Lib.hid (by rw [HPI.out, HRES.out])
        go_wp2_with fail
        go_ret
        refine ⟨_, rfl, by rw [← HF2.out]; exact HROW.out.rd, fun g hg => (HROW.out.block g hg).1, by rw [← HF1.out]; exact HDI.out, HTI.out⟩
end Go.Proofs.Ytgkfioloceemcaa
