/- Walk of the law EstimateEven. -/
import Derived.Test.YthdcgobdcdfefaaEsLaw
set_option maxRecDepth 4000
namespace Go.Proofs.Ythdcgobdcdfefaa.estimateEven
open Go.RowKit Mem Cir
set_option linter.unusedSimpArgs false
set_option linter.unusedVariables false
attribute [local irreducible] Go.Calls

/-- the first k buckets are laid -/
def upD (c : Int) (k : Nat) : List Int := List.replicate k c ++ List.replicate (16 - k) 0
theorem upD_len (c : Int) {k : Nat} (h : k ≤ 16) : (upD c k).length = 16 := by simp [upD]; omega
theorem upD_set (c : Int) {k : Nat} (h : k < 16) : (upD c k).set k c = upD c (k + 1) := by
  unfold upD
  rw [List.set_append_right _ _ (by simp)]
  simp only [List.length_replicate, Nat.sub_self]
  obtain ⟨m, hm⟩ : ∃ m, 16 - k = m + 1 := ⟨16 - k - 1, by omega⟩
  rw [hm, show 16 - (k + 1) = m by omega, List.replicate_succ, List.set_cons_zero, List.replicate_succ' (n := k), List.append_assoc]
  rfl
theorem upD_all (c : Int) : upD c 16 = evenD c := by simp [upD, evenD]
set_option maxRecDepth 100000 in
set_option maxHeartbeats 8000000 in
theorem walk (n : Int) (bn : 0 ≤ n ∧ n ≤ 4294967295) (lo : Int) (blo : 0 ≤ lo ∧ lo ≤ 4294967295) (hi : Int) (bhi : 0 ≤ hi ∧ hi ≤ 4294967295) (w : World) :
    Calls Try.prog 6 #[.int .u32 n, .int .u32 lo, .int .u32 hi] w fun e w' => e = .returned (.bool true) ∧ Below w.heap.size w w' := by
  have hmod : n.tmod 1000 = n % 1000 := Int.tmod_eq_emod_of_nonneg bn.1
  obtain ⟨K, hK⟩ : ∃ K, K = 1 + n % 1000 := ⟨_, rfl⟩
  have hKB : 1 ≤ K ∧ K ≤ 1000 := by omega
  have HKB := Lib.hid hKB
  have HKQ := Lib.hid hK
  obtain ⟨C, hC⟩ : ∃ C, C = 1048576 * K := ⟨_, rfl⟩
  have HCQ : Hid (1048576 * (1 + n % 1000) = C) := Lib.hid (by omega)
  have HEV := Lib.hid (even_part K hKB lo hi blo bhi)
  have HEO : Hid (okD (evenD C)) := Lib.hid (even_ok (by omega))
  have HPA := Lib.hid (fun z => epart_any (evenD C) (2, lo, hi) HEO.out ⟨by simp, blo, bhi⟩ z)
  rw [← hC] at HEV
  have HPL := Lib.hid (part_le HEO.out (r := (2, lo, hi)) ⟨by simp, blo, bhi⟩)
  have HEL : Hid ((evenD C).length = 16) := Lib.hid HEO.out.1
  have HBL := Lib.hid blo
  have HBH := Lib.hid bhi
  dsimp only at HPA
  clear hK hKB hC blo bhi
  go_enter Try.func6, Try.ntmps6
  go_upto_region 2 with fail
  obtain ⟨W, hW⟩ : ∃ W, W = w.alloc (.cells (dcs (upD C 0)).toArray 24) := ⟨_, rfl⟩
  have HK1 : Hid (Below w.heap.size w W) := Lib.hid (hW ▸ more (Below.refl _ _) _)
  have HG1 : Hid (Blk W w.heap.size 24 (dcs (upD C 0)).toArray) := Lib.hid (by rw [hW]; exact Blk.new w _ _)
  have hW' := hW
  simp only [dcs, upD, List.replicate, List.map_cons, List.map_nil, List.nil_append, Nat.sub_zero] at hW'
  rw [← hW']
  obtain ⟨g, hg⟩ : ∃ g, g = w.heap.size := ⟨_, rfl⟩
  have HGE := Lib.hid hg
  rw [← hg] at HG1 ⊢
  clear hW hW' hg
  go_wp2_with fail
  go_loopw [12] (fun kv wr => ∃ k : Nat, k ≤ 16 ∧ kv = .int .i64 k ∧ Blk wr g 24 (dcs (upD C k)).toArray ∧ Below w.heap.size w wr) (fun kv _ => 16 - (intOf kv).toNat)
  case atStart => exact ⟨0, by omega, rfl, HG1.out, HK1.out⟩
  case round =>
    obtain ⟨k, hk, rfl, hgk, hb⟩ := hrel
    have HGK := Lib.hid hgk
    have HB := Lib.hid hb
    obtain ⟨wo, hwo⟩ : ∃ z, z = wr := ⟨_, rfl⟩
    rw [← hwo] at HGK HB ⊢
    clear hgk hb hwo
    by_cases hlt : k < 16
    · have hkl : (k : Int) < 16 := by omega
      have d0 : wo.cell? ⟨g, k, none⟩ = some (.int .u32 ((upD C k).getD k 0)) := by rw [HGK.out.cell]; exact dcs_at _ (by rw [upD_len C hk]; exact hlt)
      have df : wo.frozen? ⟨g, k, none⟩ = false := HGK.out.frozen k
      have HG3 : Hid (Blk (wo.setCell ⟨g, k, none⟩ (.int .u32 (1048576 * (1 + n % 1000)))) g 24 (dcs (upD C (k + 1))).toArray) := Lib.hid (by rw [HCQ.out, ← upD_set C hlt, ← dcs_set]; exact HGK.out.set_ k _)
      have HB3 : Hid (Below w.heap.size w (wo.setCell ⟨g, k, none⟩ (.int .u32 (1048576 * (1 + n % 1000))))) := Lib.hid (HB.out.trans ((Only.set wo k _).below (by rw [HGE.out]; exact Nat.le_refl _) HB.out.size))
      go_wp2_with fail
      exact ⟨⟨k + 1, by omega, by go_num, HG3.out, HB3.out⟩, by simp [intOf]; omega⟩
    · have hkl : k = 16 := by omega
      subst hkl
      have HG3 : Hid (Blk wo g 24 (dcs (evenD C)).toArray) := Lib.hid (by rw [← upD_all]; exact HGK.out)
      go_upto_region 9 with fail
      have hk5 : Below wo.heap.size wo (wo.alloc (.cells #[.int .i64 2, .int .u32 lo, .int .u32 hi] 26)) := more (Below.refl _ _) _
      have HQ5 : Hid (Blk (wo.alloc (.cells #[.int .i64 2, .int .u32 lo, .int .u32 hi] 26)) wo.heap.size 26 #[.int .i64 2, .int .u32 lo, .int .u32 hi]) := Lib.hid (Blk.new _ _ _)
      have HG5 := Lib.hid (HG3.out.keep hk5)
      have HK5 : Hid (Below w.heap.size w (wo.alloc (.cells #[.int .i64 2, .int .u32 lo, .int .u32 hi] 26))) := Lib.hid (HB.out.trans (hk5.mono HB.out.size))
      clear hk5
      generalize wo.alloc (.cells #[.int .i64 2, .int .u32 lo, .int .u32 hi] 26) = w5 at *
      obtain ⟨q, hq⟩ : ∃ q, q = wo.heap.size := ⟨_, rfl⟩
      rw [← hq] at HQ5 ⊢
      clear hq
      generalize partR (evenD C) (2, lo, hi) = p at *
      have HTB : Hid (0 ≤ ((hi - lo) % 4294967296 + 1) / 65536 ∧ ((hi - lo) % 4294967296 + 1) / 65536 ≤ 65536) := Lib.hid (by omega)
      generalize ((hi - lo) % 4294967296 + 1) / 65536 = T at *
      have hpw : IntKind.u64.wrap p = p := by rw [IntKind.wrap_u64]; have := HPL.out; omega
      have htw : IntKind.u64.wrap (T - p) = T - p := by rw [IntKind.wrap_u64]; have := HPL.out; have := HTB.out; have := HEV.out; omega
      have hd1 : decide (p ≤ T) = true := by simpa using HEV.out.1
      have hd2 : decide (T - p ≤ 1) = true := by simpa using HEV.out.2
      have hp1 : p ≤ T := HEV.out.1
      have hp2 : T - p ≤ 1 := HEV.out.2
      have c0 : w5.cell? ⟨q, 0, none⟩ = some (.int .i64 2) := HQ5.out.cell 0
      have c1 : w5.cell? ⟨q, 1, none⟩ = some (.int .u32 lo) := HQ5.out.cell 1
      have c2 : w5.cell? ⟨q, 2, none⟩ = some (.int .u32 hi) := HQ5.out.cell 2
      go_upto_region 10 with (first | (refine at_load 7 rfl ?_; refine wpList_load_row rfl 24 (.tmp 7) rfl g rfl 24 _ (0, 0) _ HG5.out Try.underlying24 rfl (den_info _ HEL.out) ?_) | (go_at_call 12; refine (HPA.out _).mono ?_; rintro e w6 ⟨rfl, hk6⟩))
      have HK6 : Hid (Below w.heap.size w w6) := Lib.hid (HK5.out.trans (hk6.mono HK5.out.size))
      clear hk6 c0 c1 c2
      refine Run.region_seq (S := fun z => Below w6.heap.size w6 z)
        [1, 0, 0, 0, 0, 0, 0, 0, 0, 0, 0, 0, 0] (l := ?_) ?_ (Below.refl _ _) ?_
      rotate_left
      (· simp only [Run.seqOf, List.toList_toArray, Run.stepsOf, Run.stepOf, Run.guardOf, List.getElem?_toArray, List.getElem?_cons_zero, List.getElem?_cons_succ, Option.map_some, Option.map_none, Option.bind_some, Option.toList_some, List.map_cons, List.map_nil, List.cons_append, List.nil_append, List.append_eq]
         rfl)
      repeat ((first
        | (refine Run.takes (v := ?_) ?_ ?_; rotate_left; (· intro w' hS'; go_simp; (try with_reducible rfl)))
        | (refine Run.takesG (v := ?_) ?_ ?_ ?_; rotate_left; (· simp only [List.getElem?_cons_zero, List.getElem?_cons_succ]); (· intro w' hS'; go_simp; (try with_reducible rfl)))
        | (refine Run.skipsT ?_ ?_; (· simp only [List.getElem?_cons_zero, List.getElem?_cons_succ]))
        | (refine Run.skipsF ?_ ?_; (· simp only [List.getElem?_cons_zero, List.getElem?_cons_succ]))
        | (refine Run.skipsU ?_ ?_; (· simp only [List.getElem?_cons_zero, List.getElem?_cons_succ]))
        | (refine Run.passT ?_ ?_; (· simp only [List.getElem?_cons_zero, List.getElem?_cons_succ]))
        | (refine Run.passF ?_ ?_; (· simp only [List.getElem?_cons_zero, List.getElem?_cons_succ]))
        | (refine Run.passU ?_ ?_; (· simp only [List.getElem?_cons_zero, List.getElem?_cons_succ]))
        | (refine Run.runs ?_
           (first
           | (refine Run.callF 7 (by kernel_rfl) (fun hS => eawake_any _) rfl ?_)
           | (refine Run.callG 7 (by kernel_rfl) ?_ (fun hS => eawake_any _) rfl ?_; (· simp only [List.getElem?_cons_zero, List.getElem?_cons_succ]))
           | fail)
           (first
           | (rintro hS e w' ⟨rfl, rfl⟩; refine ⟨_, rfl, hS, ?_⟩)
           | (rintro hS e w' ⟨rfl, hb⟩; refine ⟨_, rfl, nest hS hb, ?_⟩)
           | fail))
        | fail); simp only [Act.put, List.setIfInBounds_toArray, List.set_cons_zero, List.set_cons_succ])
      refine Run.ends (fun hS => ?_)
      have HK7 : Hid (Below w.heap.size w _) := Lib.hid (HK6.out.trans (hS.mono HK6.out.size))
      clear hS
      go_wp2_with fail
      go_ret
      exact ⟨rfl, HK7.out⟩
end Go.Proofs.Ythdcgobdcdfefaa.estimateEven
