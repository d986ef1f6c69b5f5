/- Walks of package shelf: Get. -/
import Derived.Test.YtihfkjodjaoocaaShPut2
set_option maxRecDepth 4000
namespace Go.Proofs.Ytihfkjodjaoocaa
open Go.RowKit Mem
set_option linter.unusedSimpArgs false
set_option linter.unusedVariables false
attribute [local irreducible] Go.Calls

theorem getE_yes {L : List Ent} {v i : Int} {q : Ent} (hu : UniqK L) (hq : q ∈ L) (hk : keyP q = (v, i)) : getE L v i = (q, true) := by
  have hp : posE L v i < L.length := posE_lt.2 ⟨q, hq, hk⟩
  obtain ⟨hm, hk2⟩ := posE_key hp
  unfold getE
  rw [if_pos hp, hu.inj hm hq (hk2.trans hk.symm)]
theorem getE_no {L : List Ent} {v i : Int} (hk : ∀ z ∈ L, keyP z ≠ (v, i)) : getE L v i = (e0, false) := by
  have hp : ¬ posE L v i < L.length := fun h => by
    obtain ⟨z, hz, hkz⟩ := posE_lt.1 h
    exact hk z hz hkz
  unfold getE
  rw [if_neg hp]
set_option maxHeartbeats 2000000 in
theorem shget_nil (v i : Int) (w : World) : Calls Try.prog 40 #[.pointer none, .agg #[.int .u32 v, .int .u64 i]] w fun e w' => ∃ x, e = .returned (.tuple #[.agg (ecl e0 x).toArray, .bool false]) ∧ Rd (intE .u32) w' x [] ∧ Below w.heap.size w w' := by
  go_enter Try.func40, Try.ntmps40
  go_wp2_with fail
  refine bodyPost_ret (results_blk_tmp (l := [.int .u32 0, .int .u64 0, .int .u64 0, .slice none 0 0, .bool false]) rfl Try.underlying28 ent_info' rfl rfl (Blk.newAt _ 28 _ (size_alloc _ _).symm)) rfl ?_
  exact ⟨.slice none 0 0, rfl, Rd.nil _ _ (Nat.zero_le _), more (more (Below.refl _ _) _) _⟩
set_option maxHeartbeats 8000000 in
set_option maxRecDepth 100000 in
theorem shgetR_any (b : Nat) (W R : Nat → Prop) (L : List Ent) (v i : Int) (w : World) (h : ShAt w b W R L) (bv : 0 ≤ v ∧ v ≤ 4294967295) (bi : 0 ≤ i ∧ i ≤ 18446744073709551615) :
    Calls Try.prog 40 #[.pointer (some ⟨b, 0, none⟩), .agg #[.int .u32 v, .int .u64 i]] w fun e w' => ∃ x, e = .returned (.tuple #[.agg (ecl (getE L v i).1 x).toArray, .bool (getE L v i).2]) ∧ Row (intE .u32) 22 w.heap.size w' x (getE L v i).1.2.1.2.2 ∧ Below w.heap.size w w' := by
  obtain ⟨_, _, _, _, cs, B, h⟩ := h
  obtain ⟨q, xq, is, hlook, ⟨aq, nq, cq, hxq⟩, hyes, hno⟩ := look_board h v i bv bi
  have hge : getE L v i = (q, is) := by
    cases is with
    | true => exact getE_yes h.uniq (h.mem_board (plc_lt _ _) (hyes rfl).1) (hyes rfl).2
    | false => rw [(hno rfl).1]; exact getE_no (hno rfl).2.2
  have hrd : Rd (intE .u32) w xq q.2.1.2.2 ∧ q.2.1.2.2.length ≤ 35184372087808 := by
    cases is with
    | true =>
      have := (h.ev _ _ (plc_lt _ _) (hyes rfl).1).1
      exact ⟨this.2.1, this.1.2⟩
    | false =>
      rw [(hno rfl).1, (hno rfl).2.1]
      exact ⟨Rd.nil _ _ (Nat.zero_le _), Nat.zero_le _⟩
  have HP := Lib.hid (shplace_any v i)
  obtain ⟨p, hp⟩ : ∃ p, p = plc v i := ⟨_, rfl⟩
  have hp1 : p < 256 := by rw [hp]; exact plc_lt _ _
  rw [← hp] at HP hlook
  have HK := Lib.hid hp1
  have hpi : (p : Int) < 256 := by omega
  have hpn : ¬ ((p : Int) < 0) := by omega
  subst hxq
  obtain ⟨bd, hbd⟩ : ∃ bv, bv = cs.getD p nm := ⟨_, rfl⟩
  have c2 := h.board hp1
  have his := h.bd p hp1
  rw [← hbd] at c2 his
  have HLOOK := Lib.hid hlook
  have HGE := Lib.hid hge
  have HXL := Lib.hid hrd.2
  obtain ⟨qa, ⟨qi, qv, ql⟩, qg⟩ := q
  have hrx : Rd (intE .u32) w (.slice aq nq cq) ql := hrd.1
  obtain ⟨aq', cq', e1, _, _⟩ := hrx.form
  injection e1 with e1 e2 e3
  subst e2
  clear hyes hno hlook hge hrd hp hp1 hbd e1 e3
  unfold kv at HP
  have hk0 : Below w.heap.size w ((w.alloc (.cells #[.int .u32 v, .int .u64 i] 66)).alloc (.cells #[.int .u32 0, .int .u64 0, .int .u64 0, .slice none 0 0, .bool false] 28)) := more (more (Below.refl _ _) _) _
  have HBK : Hid (Blk ((w.alloc (.cells #[.int .u32 v, .int .u64 i] 66)).alloc (.cells #[.int .u32 0, .int .u64 0, .int .u64 0, .slice none 0 0, .bool false] 28)) w.heap.size 66 #[.int .u32 v, .int .u64 i]) := Lib.hid ((Blk.new w _ _).keep (more (Below.refl _ _) _))
  have HBE : Hid (Blk ((w.alloc (.cells #[.int .u32 v, .int .u64 i] 66)).alloc (.cells #[.int .u32 0, .int .u64 0, .int .u64 0, .slice none 0 0, .bool false] 28)) (w.heap.size + 1) 28 #[.int .u32 0, .int .u64 0, .int .u64 0, .slice none 0 0, .bool false]) := Lib.hid (Blk.newAt _ _ _ (size_alloc _ _).symm)
  have HX := Lib.hid (hrx.keep hk0)
  have HIS := Lib.hid (his.keep hk0)
  have C2 := Lib.hid (kc hk0 c2)
  have HK0 := Lib.hid hk0
  clear h hrx his c2 hk0
  go_enter Try.func40, Try.ntmps40
  go_upto_region 1 with fail
  generalize (w.alloc (.cells #[.int .u32 v, .int .u64 i] 66)).alloc (.cells #[.int .u32 0, .int .u64 0, .int .u64 0, .slice none 0 0, .bool false] 28) = w1 at *
  obtain ⟨g3, hg3⟩ : ∃ g, g = w.heap.size := ⟨_, rfl⟩
  have HG3 := Lib.hid hg3
  rw [← hg3] at HBK HBE ⊢
  clear hg3
  go_upto_region 3 with fail
  obtain ⟨N, hN⟩ : ∃ N, N = w1.heap.size := ⟨_, rfl⟩
  have HNN := Lib.hid hN
  clear hN
  have HLK : Hid (∀ z : World, Below N w1 z → (Instr.lookup 71 bd (.agg #[.int .u32 v, .int .u64 i]) true).run Try.prog z = .ok (.tuple #[.agg #[.int .u32 qa, .int .u64 qi, .int .u64 qv, .slice aq ql.length cq, .bool qg], .bool is]) z) := Lib.hid (fun z k => HLOOK.out z bd (HIS.out.keep (by rw [HNN.out] at k; exact k)))
  have HMN : Hid (∀ a z : World, Below N w1 a → Below a.heap.size a z → Below N a z) := Lib.hid (fun a z h k => k.mono (by have := h.size; rw [← HNN.out] at this; exact this))
  have HKS : Hid (∀ a z : World, (a.cell? ⟨b, p, none⟩ = some bd ∧ Blk a g3 66 #[.int .u32 v, .int .u64 i] ∧ Below N w1 a) → Below N a z → (z.cell? ⟨b, p, none⟩ = some bd ∧ Blk z g3 66 #[.int .u32 v, .int .u64 i] ∧ Below N w1 z)) := Lib.hid (fun a z h k =>
    ⟨(k.cell (by have := World.block_lt_of_cell? w1 _ C2.out; rw [← HNN.out] at this; exact this)).trans h.1, h.2.1.below k (by have := HBK.out.lt; rw [← HNN.out] at this; exact this), h.2.2.trans k⟩)
  clear HLOOK HIS
  refine Run.region_walk2 (S := fun z => z.cell? ⟨b, p, none⟩ = some bd ∧ Blk z g3 66 #[.int .u32 v, .int .u64 i] ∧ Below N w1 z) (ls := ?ls1) (gi := ?gi1) (oi := ?oi1) (gj := ?gj1) (oj := ?oj1) (li := ?li1) (lj := ?lj1) oget.rows3 [0, 1, 3, 4, 7] 2 12 10 [(5, 0), (6, 0), (8, 0), (9, 0), (10, 0), (11, 0), (12, 1), (13, 1), (14, 0)] [(2, 1), (5, 0), (6, 0), (8, 0), (9, 0), (10, 0), (11, 0), (13, 1), (14, 0)] (by kernel_rfl) (by kernel_rfl) (by kernel_rfl) (by kernel_rfl) ?w01 ?wi1 ?wj1 ?w11 ?w21 ⟨C2.out, HBK.out, (Below.refl _ _).drew⟩ ?onward1
  case w01 =>
    simp only [Run.lsOf, Run.stepsOf, Run.stepOf, Run.guardOf, List.getElem?_toArray, List.getElem?_cons_zero, List.getElem?_cons_succ, Option.map_some, Option.map_none, Option.bind_some, Option.toList_some, List.map_cons, List.map_nil, List.cons_append, List.nil_append, List.append_eq]
    rfl
  case wi1 =>
    simp only [Run.lsOf, Run.stepsOf, Run.stepOf, Run.guardOf, List.getElem?_toArray, List.getElem?_cons_zero, List.getElem?_cons_succ, Option.map_some, Option.map_none, Option.bind_some, Option.toList_some, List.map_cons, List.map_nil, List.cons_append, List.nil_append, List.append_eq]
    rfl
  case wj1 =>
    simp only [Run.lsOf, Run.stepsOf, Run.stepOf, Run.guardOf, List.getElem?_toArray, List.getElem?_cons_zero, List.getElem?_cons_succ, Option.map_some, Option.map_none, Option.bind_some, Option.toList_some, List.map_cons, List.map_nil, List.cons_append, List.nil_append, List.append_eq]
    rfl
  case w11 =>
    simp only [Run.lsOf, Run.stepsOf, Run.stepOf, Run.guardOf, List.getElem?_toArray, List.getElem?_cons_zero, List.getElem?_cons_succ, Option.map_some, Option.map_none, Option.bind_some, Option.toList_some, List.map_cons, List.map_nil, List.cons_append, List.nil_append, List.append_eq]
    rfl
  case w21 =>
    simp only [Run.lsOf, Run.stepsOf, Run.stepOf, Run.guardOf, List.getElem?_toArray, List.getElem?_cons_zero, List.getElem?_cons_succ, Option.map_some, Option.map_none, Option.bind_some, Option.toList_some, List.map_cons, List.map_nil, List.cons_append, List.nil_append, List.append_eq]
    rfl
  repeat (refine Run.lsTakes (v := ?_) ?_ ?_; rotate_left; (· intro w' hS'; (first | (refine exec_load_blk (n := 2) (x := .tmp 3) (l := [.int .u32 v, .int .u64 i]) ?_ Try.underlying66 key_info ?_ ?_ hS'.2.1 <;> rfl) | (go_simp; (try with_reducible rfl)))); simp only [Act.put, List.setIfInBounds_toArray, List.set_cons_zero, List.set_cons_succ])
  refine Run.lsEnds (Run.two ?_ ?_)
  refine Run.callF 48 (by kernel_rfl) (fun hS => HP.out _) rfl ?_
  rintro hS e z1 ⟨rfl, hk1⟩
  have HS1 := Lib.hid (HKS.out _ _ hS (HMN.out _ _ hS.2.2 hk1))
  refine ⟨_, rfl, HS1.out, ?_⟩
  clear hS hk1
  try simp only [Act.put, List.setIfInBounds_toArray, List.set_cons_zero, List.set_cons_succ]
  repeat ((first
    | (refine Run.takes (v := ?_) ?_ ?_; rotate_left; (· intro w' hS'; (first | (refine exec_look (m := .tmp 18) (x := .tmp 19) (u := bd) (k := .agg #[.int .u32 v, .int .u64 i]) (r := .tuple #[.agg #[.int .u32 qa, .int .u64 qi, .int .u64 qv, .slice aq ql.length cq, .bool qg], .bool is]) ?_ ?_ ?_ (HLK.out w' hS'.2.2) <;> rfl) | (go_simp; (try with_reducible rfl)))))
    | (refine Run.takesG (v := ?_) ?_ ?_ ?_; rotate_left; (· simp only [List.getElem?_cons_zero, List.getElem?_cons_succ]); (· intro w' hS'; (first | (refine exec_look (m := .tmp 18) (x := .tmp 19) (u := bd) (k := .agg #[.int .u32 v, .int .u64 i]) (r := .tuple #[.agg #[.int .u32 qa, .int .u64 qi, .int .u64 qv, .slice aq ql.length cq, .bool qg], .bool is]) ?_ ?_ ?_ (HLK.out w' hS'.2.2) <;> rfl) | (go_simp; (try with_reducible rfl)))))
    | (refine Run.skipsT ?_ ?_; (· simp only [List.getElem?_cons_zero, List.getElem?_cons_succ]))
    | (refine Run.skipsF ?_ ?_; (· simp only [List.getElem?_cons_zero, List.getElem?_cons_succ]))
    | (refine Run.skipsU ?_ ?_; (· simp only [List.getElem?_cons_zero, List.getElem?_cons_succ]))
    | (refine Run.passT ?_ ?_; (· simp only [List.getElem?_cons_zero, List.getElem?_cons_succ]))
    | (refine Run.passF ?_ ?_; (· simp only [List.getElem?_cons_zero, List.getElem?_cons_succ]))
    | (refine Run.passU ?_ ?_; (· simp only [List.getElem?_cons_zero, List.getElem?_cons_succ]))
    | fail); simp only [Act.put, List.setIfInBounds_toArray, List.set_cons_zero, List.set_cons_succ])
  refine Run.runs (Run.one (fun hS K1 hK1 => ?_))
  go_simp
  have hX : Below z1.heap.size z1 (z1.alloc (.cells #[.int .u32 0, .int .u64 0, .int .u64 0, .slice none 0 0, .bool false] 28)) := more (Below.refl _ _) _
  have HB7 : Hid (Blk (z1.alloc (.cells #[.int .u32 0, .int .u64 0, .int .u64 0, .slice none 0 0, .bool false] 28)) z1.heap.size 28 #[.int .u32 0, .int .u64 0, .int .u64 0, .slice none 0 0, .bool false]) := Lib.hid (Blk.new _ _ _)
  have HG7 : Hid (N ≤ z1.heap.size) := Lib.hid (by have := HS1.out.2.2.size; rw [← HNN.out] at this; exact this)
  have HSZ := Lib.hid (HKS.out _ _ hS (HMN.out _ _ hS.2.2 hX))
  refine hK1.out _ _ HSZ.out ?_
  clear hK1 K1 hS hX HS1
  generalize z1.alloc (.cells #[.int .u32 0, .int .u64 0, .int .u64 0, .slice none 0 0, .bool false] 28) = Z at *
  obtain ⟨g7, hg7⟩ : ∃ g, g = z1.heap.size := ⟨_, rfl⟩
  rw [← hg7] at HB7 HG7 ⊢
  clear hg7
  try simp only [Act.put, List.setIfInBounds_toArray, List.set_cons_zero, List.set_cons_succ]
  rotate_left
  refine Run.one (fun hS K1 hK1 => ?_)
  go_simp
  have hX : Below w1.heap.size w1 (w1.alloc (.cells #[.int .u32 0, .int .u64 0, .int .u64 0, .slice none 0 0, .bool false] 28)).drew := (more (Below.refl _ _) _).drew
  have HBA : Hid (Blk (w1.alloc (.cells #[.int .u32 0, .int .u64 0, .int .u64 0, .slice none 0 0, .bool false] 28)).drew w1.heap.size 28 #[.int .u32 0, .int .u64 0, .int .u64 0, .slice none 0 0, .bool false]) := Lib.hid ((Blk.new w1 _ _).keep (Below.refl _ _).drew)
  have HG7 : Hid (N ≤ w1.heap.size) := Lib.hid (by rw [HNN.out]; exact Nat.le_refl _)
  have HSA := Lib.hid (HKS.out w1 _ ⟨hS.1, hS.2.1, by rw [HNN.out]; exact Below.refl _ _⟩ (by rw [HNN.out]; exact hX))
  refine hK1.out _ _ HSA.out ?_
  clear hK1 K1 hS hX
  generalize (w1.alloc (.cells #[.int .u32 0, .int .u64 0, .int .u64 0, .slice none 0 0, .bool false] 28)).drew = z0 at *
  obtain ⟨g7, hg7⟩ : ∃ g, g = w1.heap.size := ⟨_, rfl⟩
  rw [← hg7] at HBA HG7 ⊢
  clear hg7
  try simp only [Act.put, List.setIfInBounds_toArray, List.set_cons_zero, List.set_cons_succ]
  refine Run.runs (Run.callF 48 (by kernel_rfl) (fun hS => HP.out _) rfl ?_)
  rintro hS e Z ⟨rfl, hk1⟩
  have HSZ := Lib.hid (HKS.out _ _ hS (HMN.out _ _ hS.2.2 hk1))
  have HB7 := Lib.hid (HBA.out.keep hk1)
  refine ⟨_, rfl, HSZ.out, ?_⟩
  clear hS hk1 HSA HBA
  try simp only [Act.put, List.setIfInBounds_toArray, List.set_cons_zero, List.set_cons_succ]
  repeat ((first
    | (refine Run.takes (v := ?_) ?_ ?_; rotate_left; (· intro w' hS'; (first | (refine exec_look (m := .tmp 18) (x := .tmp 19) (u := bd) (k := .agg #[.int .u32 v, .int .u64 i]) (r := .tuple #[.agg #[.int .u32 qa, .int .u64 qi, .int .u64 qv, .slice aq ql.length cq, .bool qg], .bool is]) ?_ ?_ ?_ (HLK.out w' hS'.2.2) <;> rfl) | (go_simp; (try with_reducible rfl)))))
    | (refine Run.takesG (v := ?_) ?_ ?_ ?_; rotate_left; (· simp only [List.getElem?_cons_zero, List.getElem?_cons_succ]); (· intro w' hS'; (first | (refine exec_look (m := .tmp 18) (x := .tmp 19) (u := bd) (k := .agg #[.int .u32 v, .int .u64 i]) (r := .tuple #[.agg #[.int .u32 qa, .int .u64 qi, .int .u64 qv, .slice aq ql.length cq, .bool qg], .bool is]) ?_ ?_ ?_ (HLK.out w' hS'.2.2) <;> rfl) | (go_simp; (try with_reducible rfl)))))
    | (refine Run.skipsT ?_ ?_; (· simp only [List.getElem?_cons_zero, List.getElem?_cons_succ]))
    | (refine Run.skipsF ?_ ?_; (· simp only [List.getElem?_cons_zero, List.getElem?_cons_succ]))
    | (refine Run.skipsU ?_ ?_; (· simp only [List.getElem?_cons_zero, List.getElem?_cons_succ]))
    | (refine Run.passT ?_ ?_; (· simp only [List.getElem?_cons_zero, List.getElem?_cons_succ]))
    | (refine Run.passF ?_ ?_; (· simp only [List.getElem?_cons_zero, List.getElem?_cons_succ]))
    | (refine Run.passU ?_ ?_; (· simp only [List.getElem?_cons_zero, List.getElem?_cons_succ]))
    | fail); simp only [Act.put, List.setIfInBounds_toArray, List.set_cons_zero, List.set_cons_succ])
  all_goals
    refine Run.runs (Run.one (fun hS K1 hK1 => ?_))
    refine wp_store_row 28 (.tmp 6) (.tmp 21) rfl g7 #[.int .u32 qa, .int .u64 qi, .int .u64 qv, .slice aq ql.length cq, .bool qg] rfl rfl 28 _ HB7.out ent_info' rfl (by simp [Value.oneCell']) ?_
    have hos : Only g7 Z (Z.setRow g7 #[.int .u32 qa, .int .u64 qi, .int .u64 qv, .slice aq ql.length cq, .bool qg]) := Only.rowS Z _
    have HB72 := Lib.hid (Blk.rowS (t := 28) HB7.out #[.int .u32 qa, .int .u64 qi, .int .u64 qv, .slice aq ql.length cq, .bool qg])
    have hbn : Below N Z (Z.setRow g7 #[.int .u32 qa, .int .u64 qi, .int .u64 qv, .slice aq ql.length cq, .bool qg]) := hos.below HG7.out (Nat.le_trans HG7.out (Nat.le_of_lt HB7.out.lt))
    have HSZ2 := Lib.hid (HKS.out _ _ HSZ.out hbn)
    refine hK1.out _ _ HSZ2.out ?_
    clear hK1 K1 hS hbn hos HSZ HB7
    generalize Z.setRow g7 #[.int .u32 qa, .int .u64 qi, .int .u64 qv, .slice aq ql.length cq, .bool qg] = Z2 at *
    try simp only [Act.put, List.setIfInBounds_toArray, List.set_cons_zero, List.set_cons_succ]
    repeat ((first
      | (refine Run.takes (v := ?_) ?_ ?_; rotate_left; (· intro w' hS'; go_simp; (try with_reducible rfl)))
      | (refine Run.takesG (v := ?_) ?_ ?_ ?_; rotate_left; (· simp only [List.getElem?_cons_zero, List.getElem?_cons_succ]); (· intro w' hS'; go_simp; (try with_reducible rfl)))
      | (refine Run.skipsT ?_ ?_; (· simp only [List.getElem?_cons_zero, List.getElem?_cons_succ]))
      | (refine Run.skipsF ?_ ?_; (· simp only [List.getElem?_cons_zero, List.getElem?_cons_succ]))
      | (refine Run.skipsU ?_ ?_; (· simp only [List.getElem?_cons_zero, List.getElem?_cons_succ]))
      | (refine Run.passT ?_ ?_; (· simp only [List.getElem?_cons_zero, List.getElem?_cons_succ]))
      | (refine Run.passF ?_ ?_; (· simp only [List.getElem?_cons_zero, List.getElem?_cons_succ]))
      | (refine Run.passU ?_ ?_; (· simp only [List.getElem?_cons_zero, List.getElem?_cons_succ]))
      | fail); simp only [Act.put, List.setIfInBounds_toArray, List.set_cons_zero, List.set_cons_succ])
    refine Run.ends (fun _ => ?_)
    have hz : Below w1.heap.size w1 Z2 := by have := HSZ2.out.2.2; rw [HNN.out] at this; exact this
    have HX4 := Lib.hid (HX.out.keep hz)
    have HBE4 := Lib.hid (HBE.out.keep hz)
    have HB4 := Lib.hid (nest HK0.out hz)
    clear hz
    go_upto_if 99 with (first | (refine at_load 6 rfl ?_; refine wpList_load_row rfl 28 (.tmp 6) rfl g7 rfl 28 _ (0, 0) _ HB72.out Try.underlying28 rfl ent_info' ?_) | (go_at_call 50; refine (shown_any (qa, (qi, qv, ql), qg) (.slice aq ql.length cq) _ HX4.out HXL.out).mono ?_; rintro e z5 ⟨xo, rfl, hrow, hk5⟩; have HROW := Lib.hid hrow; obtain ⟨ao, co, rfl, _, _⟩ := hrow.rd.form; have HB5 := Lib.hid (nest HB4.out hk5); have HBE5 := Lib.hid (HBE4.out.keep hk5); have HW5 := Lib.hid HB4.out.size; clear hrow hk5) | (refine at_store 4 rfl ?_; refine wpList_store_row rfl 28 (.tmp 4) (.tmp 24) rfl (g3 + 1) #[.int .u32 qa, .int .u64 qi, .int .u64 qv, .slice ao ql.length co, .bool qg] rfl rfl 28 _ HBE5.out ent_info' rfl (by simp [Value.oneCell']) ?_))
    refine bodyPost_ret (results_blk_tmp (l := [.int .u32 qa, .int .u64 qi, .int .u64 qv, .slice ao ql.length co, .bool qg]) rfl Try.underlying28 ent_info' rfl rfl (Blk.rowS HBE5.out _)) rfl ?_
    rw [HGE.out]
    have hne : (Value.slice ao ql.length co).ownBlock ≠ some (g3 + 1) := HROW.out.ne_blk HBE5.out (by decide)
    exact ⟨.slice ao ql.length co, rfl, (HROW.out.only (Only.rowS z5 _) hne).mono HW5.out, HB5.out.trans ((Only.rowS z5 _).below (by have := HG3.out; omega) HB5.out.size)⟩
end Go.Proofs.Ytihfkjodjaoocaa
