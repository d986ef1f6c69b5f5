/- Walk of the law OctetShort. -/
import Derived.Test.YtejmidfkedalgaaOctAwake
namespace Go.Proofs.Ytejmidfkedalgaa.octetShort
open Go.RowKit Mem
set_option linter.unusedSimpArgs false
set_option linter.unusedVariables false
attribute [local irreducible] Go.Calls

theorem full_len (l : List Int) : (txt l ++ be 3 7).length = l.length + 5 := by rw [List.length_append, txt_len, be_len]
theorem cut_short {l : List Int} {k : Nat} (hl : l.length ≤ 65535) (hk : k < l.length + 2) : ∃ p, tx ((txt l ++ be 3 7).take k) 0 0 = (p, 3, []) := by
  have hlen : ((txt l ++ be 3 7).take k).length = k := by rw [List.length_take, full_len]; omega
  by_cases h2 : k < 2
  · refine ⟨0, ?_⟩
    have hg : gt ((txt l ++ be 3 7).take k) 0 0 2 = (0, 3, []) := by
      unfold gt
      rw [sz2]
      exact tk_more (by rw [hlen]; omega)
    unfold tx
    rw [hg]
    rfl
  · refine ⟨2, ?_⟩
    have he : (txt l ++ be 3 7).take k = [] ++ (be (szN 2) l.length ++ (l ++ be 3 7).take (k - 2)) := by
      unfold txt
      rw [sz2, List.append_assoc, List.take_append, be_len, List.take_of_length_le (by rw [be_len]; omega), List.nil_append]
    have hg := gt_here [] ((l ++ be 3 7).take (k - 2)) l.length 2
    rw [← he, sz2] at hg
    unfold tx
    rw [show ([] : List Int).length = 0 from rfl] at hg
    rw [hg]
    simp only [if_true]
    rw [num_be, show (2 : Int) ^ (8 * 2) = 65536 by decide, Int.emod_eq_of_lt (by omega) (by omega), Int.toNat_natCast]
    exact tk_more (by rw [hlen]; omega)
theorem cut_whole {l : List Int} {k : Nat} (hl : l.length ≤ 65535) (hk : ¬ k < l.length + 2) (hk5 : k < l.length + 5) :
    tx ((txt l ++ be 3 7).take k) 0 0 = (l.length + 2, 0, l) ∧ gt ((txt l ++ be 3 7).take k) (l.length + 2) 0 3 = (l.length + 2, 3, []) := by
  have hlen : ((txt l ++ be 3 7).take k).length = k := by rw [List.length_take, full_len]; omega
  have he : (txt l ++ be 3 7).take k = [] ++ (txt l ++ (be 3 7).take (k - (l.length + 2))) := by
    rw [List.take_append, txt_len, List.take_of_length_le (by rw [txt_len]; omega), List.nil_append]
  constructor
  · rw [he]
    have := tx_here [] ((be 3 7).take (k - (l.length + 2))) l hl
    simpa using this
  · exact tk_more (by rw [hlen]; have : szN 3 = 3 := by decide
                      omega)
theorem gt_err (l : List Int) (p : Nat) (n : Int) : gt l p 3 n = (p, 3, []) := by simp [gt, tk]
theorem num_nil : num [] = 0 := rfl
theorem index_of (x : Int) (n : Nat) : ∃ k : Nat, k < n + 5 ∧ (IntKind.u64.wrap x).tmod ((n : Int) + 5) = (k : Int) := by
  have h0 := wrap_u64_nonneg x
  have h1 := Int.tmod_nonneg ((n : Int) + 5) h0
  have h2 := Int.tmod_lt_of_pos (IntKind.u64.wrap x) (show (0 : Int) < (n : Int) + 5 by omega)
  exact ⟨((IntKind.u64.wrap x).tmod ((n : Int) + 5)).toNat, by omega, by omega⟩
set_option maxHeartbeats 1000000 in
theorem walk (v : Value) (l : List Int) (x : Int) (bx : -9223372036854775808 ≤ x ∧ x ≤ 9223372036854775807) (w : World) (hv : Rd (intE .u8) w v l) (hb : ∀ x ∈ l, 0 ≤ x ∧ x ≤ 255) :
    Calls Try.prog 7 #[v, .int .i64 x] w fun e w' => e = .returned (.bool true) ∧ Below w.heap.size w w' := by
  obtain ⟨a0, c0, rfl, hc1, hc2⟩ := hv.form
  have hc2m : c0 ≤ 9223372036854775807 := hc2
  by_cases h300 : l.length > 300
  · have e1 : (l.length : Int) > 300 := by omega
    go_enter Try.func7, Try.ntmps7
    go_wp2_with fail
    refine (oawake_any w).mono ?_
    rintro e w1 ⟨rfl, hk1⟩
    go_wp2_with fail
    go_ret
    exact ⟨rfl, hk1⟩
  have e1 : ¬ (l.length : Int) > 300 := by omega
  have hz : ∀ w, (zeroValue 26).run Try.prog w = .ok (.agg wnew.toArray) w := fun w => run_zero_of (n := 66) wnew_info w
  have hw0 := wr_new w
  have hk0 : Below w.heap.size w (w.alloc (.cells wnew.toArray 26)) := more (Below.refl _ _) _
  have hne : 0 < l.length → (Value.slice a0 l.length c0).ownBlock ≠ some w.heap.size := fun h0 e => absurd (hv.old h0 e) (Nat.lt_irrefl _)
  have hv0 := hv.keep hk0
  have hsz : w.heap.size ≤ (w.alloc (.cells wnew.toArray 26)).heap.size := hk0.size
  have HV := Lib.hid hv0
  have HN := Lib.hid hne
  have HV2' : Hid (∀ h0 : 0 < l.length, ∀ {j : Nat}, (Value.slice a0 l.length c0).ownBlock = some j → j < w.heap.size) := Lib.hid (fun h0 {j} e => hv.old h0 e)
  have HBY : Hid (Byt l) := Lib.hid hb
  have hl3 : l.length ≤ 300 := by omega
  clear hv0 hne hb hv h300
  go_enter Try.func7, Try.ntmps7
  go_wp2_with fail
  clear hz
  generalize w.alloc (.cells wnew.toArray 26) = w0 at *
  refine (otext_any w.heap.size [] l _ w0 hw0 HV.out HN.out (by simp) (by omega)).mono ?_
  rintro e w1 ⟨⟨u, rfl⟩, hw1, ho1⟩
  rw [List.nil_append] at hw1
  have hv1 := HV.out.only0 ho1 HN.out
  have hk1 := hk0.trans (ho1.below (Nat.le_refl _) hsz)
  have HV1 := Lib.hid hv1
  clear hw0 ho1 hk0 hv1 HV
  go_wp2_with fail
  refine (oput_any w.heap.size (txt l) 7 3 (by omega) w1 hw1 (by rw [txt_len]; omega)).mono ?_
  rintro e w2 ⟨⟨u, rfl⟩, hw2, ho2⟩
  rw [show szN 3 = 3 by decide] at hw2
  have hv2 := HV1.out.only0 ho2 HN.out
  have hk2 := hk1.trans (ho2.below (Nat.le_refl _) hk1.size)
  have HV2 := Lib.hid hv2
  clear hw1 ho2 hk1 hv2 HV1
  go_wp2_with fail
  have hfl := full_len l
  have hbyt : Byt (txt l ++ be 3 7) := (txt_byt HBY.out).append (be_byt _ _)
  obtain ⟨F, hF⟩ : ∃ F, F = txt l ++ be 3 7 := ⟨_, rfl⟩
  rw [← hF] at hw2 hfl hbyt
  have HF := Lib.hid hF
  have HBF := Lib.hid hbyt
  clear hF hbyt
  refine (obytes_any w.heap.size F w2 hw2 (by omega)).mono ?_
  rintro e w3 ⟨v3, rfl, hr3, hk3⟩
  obtain ⟨a3, c3, rfl, hc3, hc3m⟩ := hr3.rd.form
  have HV3 := Lib.hid (HV2.out.keep hk3)
  have hk4 := hk2.trans (hk3.mono hk2.size)
  have HR3 := Lib.hid hr3.rd
  clear hw2 hk3 hk2 hr3 HV2
  go_wp2_with fail
  refine (oawake_any w3).mono ?_
  rintro e w4 ⟨rfl, hk5⟩
  have HV4 := Lib.hid (HV3.out.keep hk5)
  have HR4 := Lib.hid (HR3.out.keep hk5)
  have hk6 := hk4.trans (hk5.mono hk4.size)
  clear hk5 hk4 HV3 HR3
  have hR := HR4.out
  rw [hfl] at hR hc3
  have HRF := Lib.hid hR
  clear hR HR4
  have HFL := Lib.hid hfl
  obtain ⟨k, hk5, hk⟩ := index_of x l.length
  have hcut := run_cut_to (P := Try.prog) byteElem a3 (l.length + 5) c3 k (by omega)
  rw [cutA_zero] at hcut
  have hrk := HRF.out.cutA (Nat.zero_le k) (show k ≤ F.length by omega)
  rw [cutA_zero, List.drop_zero, Nat.sub_zero, Nat.sub_zero] at hrk
  have HRK := Lib.hid hrk
  clear hrk hfl
  go_wp2_with fail
  refine (oread_any _ (F.take k) w4 HRK.out (by rw [List.length_take]; omega)).mono ?_
  rintro e w5 ⟨b5, g5, rfl, ho5, hb5, _, hk7⟩
  have HV5 := Lib.hid (HV4.out.keep hk7)
  have hbb : w.heap.size ≤ b5 := by have := hk6.size; omega
  have hk8 := hk6.trans (hk7.mono hk6.size)
  clear HV4 hk7 hk6 hcut hk hb5
  have hbk : Byt (F.take k) := HBF.out.take k
  have hlk : (F.take k).length ≤ 1000000 := by rw [List.length_take]; have := HFL.out; omega
  by_cases hs : k < l.length + 2
  · obtain ⟨p, hp⟩ := cut_short (by omega) hs
    rw [← HF.out] at hp
    have e2 : decide ((k : Int) < (l.length : Int) + 2) = true := decide_eq_true (by omega)
    have HP := Lib.hid hp
    have HBK := Lib.hid hbk
    have HLK := Lib.hid hlk
    clear hp hbk hlk HF HBF HV5 HRK HRF
    generalize F.take k = G at *
    go_wp2_with fail
    refine (otx_any b5 g5 G 0 0 (.inl rfl) w5 ho5 HLK.out HBK.out).mono ?_
    rintro e w6 ⟨x6, rfl, hx6, ho6, hn6⟩
    rw [HP.out] at hx6 ho6
    obtain ⟨a6, c6, rfl, _, _⟩ := hx6.rd.form
    have hk9 := hk8.trans (hn6.below hbb hk8.size)
    clear hx6 hn6 ho5 hk8
    simp only [] at ho6
    go_wp2_with fail
    refine (oerr_any b5 g5 G p 3 w6 ho6).mono ?_
    rintro e w7 ⟨rfl, hk10⟩
    have ho7 := ho6.keep hk10
    have hk11 := hk9.trans (hk10.mono hk9.size)
    clear ho6 hk9 hk10
    go_wp2_with fail
    refine (oget_any b5 g5 G p 1 3 (.inr rfl) w7 ho7 HLK.out HBK.out).mono ?_
    rintro e w8 ⟨rfl, ho8, hn8⟩
    rw [gt_err] at ho8 ⊢
    rw [num_nil]
    have hk12 := hk11.trans (hn8.below hbb hk11.size)
    clear ho7 hn8 hk11
    simp only [] at ho8
    go_wp2_with fail
    refine (oleft_any b5 g5 G p 3 w8 ho8).mono ?_
    rintro e w9 ⟨rfl, hk13⟩
    rw [if_neg (by decide)]
    have hk14 := hk12.trans (hk13.mono hk12.size)
    go_wp2_with fail
    go_ret
    exact ⟨rfl, hk14⟩
  · obtain ⟨hp, hg3⟩ := cut_whole (by omega) hs hk5
    rw [← HF.out] at hp hg3
    have e2 : decide ((k : Int) < (l.length : Int) + 2) = false := decide_eq_false (by omega)
    have HP := Lib.hid hp
    have HG3 := Lib.hid hg3
    have HBK := Lib.hid hbk
    have HLK := Lib.hid hlk
    clear hp hg3 hbk hlk HF HBF HRK HRF
    generalize F.take k = G at *
    go_wp2_with fail
    refine (otx_any b5 g5 G 0 0 (.inl rfl) w5 ho5 HLK.out HBK.out).mono ?_
    rintro e w6 ⟨x6, rfl, hx6, ho6, hn6⟩
    rw [HP.out] at hx6 ho6
    obtain ⟨a6, c6, rfl, _, _⟩ := hx6.rd.form
    have hk9 := hk8.trans (hn6.below hbb hk8.size)
    have hv6 := HV5.out.only0 hn6 (fun h0 e => by have := HV2'.out h0 e; omega)
    clear hn6 ho5 hk8
    simp only [] at ho6 hx6
    have HX6 := Lib.hid hx6.rd
    have HV6 := Lib.hid hv6
    clear hx6 hv6 HV5
    go_wp2_with fail
    refine (bytes_yes _ _ l w6 HX6.out HV6.out).mono ?_
    rintro e w6' ⟨rfl, hk10⟩
    have ho6' := ho6.keep hk10
    have hk10' := hk9.trans (hk10.mono hk9.size)
    clear ho6 hk9 hk10 HX6 HV6
    go_wp2_with fail
    refine (oerr_any b5 g5 G (l.length + 2) 0 w6' ho6').mono ?_
    rintro e w7 ⟨rfl, hk10⟩
    have ho7 := ho6'.keep hk10
    have hk11 := hk10'.trans (hk10.mono hk10'.size)
    clear ho6' hk10' hk10
    go_wp2_with fail
    refine (oget_any b5 g5 G (l.length + 2) 3 0 (.inl rfl) w7 ho7 HLK.out HBK.out).mono ?_
    rintro e w8 ⟨rfl, ho8, hn8⟩
    rw [HG3.out] at ho8 ⊢
    rw [num_nil]
    have hk12 := hk11.trans (hn8.below hbb hk11.size)
    clear ho7 hn8 hk11
    simp only [] at ho8
    go_wp2_with fail
    refine (oerr_any b5 g5 G (l.length + 2) 3 w8 ho8).mono ?_
    rintro e w9 ⟨rfl, hk13⟩
    have hk14 := hk12.trans (hk13.mono hk12.size)
    go_wp2_with fail
    go_ret
    exact ⟨rfl, hk14⟩
end Go.Proofs.Ytejmidfkedalgaa.octetShort
