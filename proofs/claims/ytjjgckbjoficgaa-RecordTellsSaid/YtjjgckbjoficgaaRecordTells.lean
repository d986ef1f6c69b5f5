/- Walk of the law RecordTells. -/
import Derived.Test.YtjjgckbjoficgaaRecAwake
import Derived.Test.YtjjgckbjoficgaaOwnU
import Derived.Test.YtjjgckbjoficgaaStructs
import Derived.Test.YtjjgckbjoficgaaPages
namespace Go.Proofs.Ytjjgckbjoficgaa.recordTells
open Go.RowKit Mem
set_option linter.unusedSimpArgs false
set_option linter.unusedVariables false
attribute [local irreducible] Go.Calls

theorem entry_info : (Try.prog.info? 28).map (·.size) = some 5 := by kernel_rfl
theorem record_info : (Try.prog.info? 26).map (·.size) = some 3 := by kernel_rfl
set_option maxHeartbeats 4000000 in
theorem walk (attrs : Int) (ba : -9223372036854775808 ≤ attrs ∧ attrs ≤ 9223372036854775807)
    (x1 i1 v1 : Int) (s1 : Value) (l1 : List Int) (g1 : Bool) (bx1 : 0 ≤ x1 ∧ x1 ≤ 4294967295) (bi1 : 0 ≤ i1 ∧ i1 ≤ 18446744073709551615) (bv1 : 0 ≤ v1 ∧ v1 ≤ 18446744073709551615)
    (x2 i2 v2 : Int) (s2 : Value) (l2 : List Int) (g2 : Bool) (bx2 : 0 ≤ x2 ∧ x2 ≤ 4294967295) (bi2 : 0 ≤ i2 ∧ i2 ≤ 18446744073709551615) (bv2 : 0 ≤ v2 ∧ v2 ≤ 18446744073709551615)
    (cl : Int) (bc : -9223372036854775808 ≤ cl ∧ cl ≤ 9223372036854775807) (nu : Int) (bn : 0 ≤ nu ∧ nu ≤ 4294967295) (w : World)
    (h1 : Rd (intE .u32) w s1 l1) (hb1 : ∀ x ∈ l1, 0 ≤ x ∧ x ≤ 4294967295) (h2 : Rd (intE .u32) w s2 l2) (hb2 : ∀ x ∈ l2, 0 ≤ x ∧ x ≤ 4294967295) :
    Calls Try.prog 3 #[.int .i64 attrs, .agg #[.int .u32 x1, .int .u64 i1, .int .u64 v1, s1, .bool g1], .agg #[.int .u32 x2, .int .u64 i2, .int .u64 v2, s2, .bool g2], .int .i64 cl, .int .u32 nu] w fun e w' => e = .returned (.bool true) ∧ Below w.heap.size w w' := by
  obtain ⟨a1, c1, rfl, hc1, hm1⟩ := h1.form
  obtain ⟨a2, c2, rfl, hc2, hm2⟩ := h2.form
  have hm1' : c1 ≤ 9223372036854775807 := hm1
  have hm2' : c2 ≤ 9223372036854775807 := hm2
  have hX := more (more (Below.refl w.heap.size w) (.cells #[.int .u32 x1, .int .u64 i1, .int .u64 v1, .slice a1 l1.length c1, .bool g1] 28)) (.cells #[.int .u32 x2, .int .u64 i2, .int .u64 v2, .slice a2 l2.length c2, .bool g2] 28)
  by_cases hl1 : l1.length > 50
  · have e1 : (l1.length : Int) > 50 := by omega
    clear h1 h2 hb1 hb2
    go_enter Try.func3, Try.ntmps3
    go_wp2_with fail
    refine (ecawake_any _).mono ?_
    rintro e w1 ⟨rfl, hk1⟩
    go_wp2_with fail
    go_ret
    exact ⟨rfl, nest hX hk1⟩
  have e1 : ¬ (l1.length : Int) > 50 := by omega
  by_cases hl2 : l2.length > 50
  · have e2 : (l2.length : Int) > 50 := by omega
    clear h1 h2 hb1 hb2
    go_enter Try.func3, Try.ntmps3
    go_wp2_with fail
    refine (ecawake_any _).mono ?_
    rintro e w1 ⟨rfl, hk1⟩
    go_wp2_with fail
    go_ret
    exact ⟨rfl, nest hX hk1⟩
  have e2 : ¬ (l2.length : Int) > 50 := by omega
  have A1 := (Blk.new w 28 #[.int .u32 x1, .int .u64 i1, .int .u64 v1, .slice a1 l1.length c1, .bool g1]).keep (more (more (Below.refl _ _) (.cells #[.int .u32 x2, .int .u64 i2, .int .u64 v2, .slice a2 l2.length c2, .bool g2] 28)) (.cells #[.int .u64 i1, .int .u64 v1, .slice a1 l1.length c1] 26))
  have A2 := (Blk.newAt (w.alloc (.cells #[.int .u32 x1, .int .u64 i1, .int .u64 v1, .slice a1 l1.length c1, .bool g1] 28)) 28 #[.int .u32 x2, .int .u64 i2, .int .u64 v2, .slice a2 l2.length c2, .bool g2] (n := w.heap.size + 1) (by rw [size_alloc])).keep (more (Below.refl _ _) (.cells #[.int .u64 i1, .int .u64 v1, .slice a1 l1.length c1] 26))
  have A3 := Blk.newAt ((w.alloc (.cells #[.int .u32 x1, .int .u64 i1, .int .u64 v1, .slice a1 l1.length c1, .bool g1] 28)).alloc (.cells #[.int .u32 x2, .int .u64 i2, .int .u64 v2, .slice a2 l2.length c2, .bool g2] 28)) 26 #[.int .u64 i1, .int .u64 v1, .slice a1 l1.length c1] (n := w.heap.size + 1 + 1) (by rw [size_alloc, size_alloc])
  have hX3 := more hX (.cells #[.int .u64 i1, .int .u64 v1, .slice a1 l1.length c1] 26)
  have R1 := h1.keep hX3
  have R2 := h2.keep hX3
  have hl1' : l1.length ≤ 50 := by omega
  have O1 : 0 < l1.length → ∀ {j : Nat}, (Value.slice a1 l1.length c1).ownBlock = some j → j < w.heap.size := fun h0 {j} e => h1.old h0 e
  have O2 : 0 < l2.length → ∀ {j : Nat}, (Value.slice a2 l2.length c2).ownBlock = some j → j < w.heap.size := fun h0 {j} e => h2.old h0 e
  have HR1 := Lib.hid R1
  have HR2 := Lib.hid R2
  have HA1 := Lib.hid A1
  have HA2 := Lib.hid A2
  have HA3 := Lib.hid A3
  have HO1 : Hid (0 < l1.length → ∀ {j : Nat}, (Value.slice a1 l1.length c1).ownBlock = some j → j < w.heap.size) := Lib.hid O1
  have HO2 : Hid (0 < l2.length → ∀ {j : Nat}, (Value.slice a2 l2.length c2).ownBlock = some j → j < w.heap.size) := Lib.hid O2
  have HX := Lib.hid hX3
  clear R1 R2 A1 A2 A3 h1 h2 hb1 hb2 O1 O2 hX hX3
  go_enter Try.func3, Try.ntmps3
  go_wp2_with fail
  generalize ((w.alloc (.cells #[.int .u32 x1, .int .u64 i1, .int .u64 v1, .slice a1 l1.length c1, .bool g1] 28)).alloc (.cells #[.int .u32 x2, .int .u64 i2, .int .u64 v2, .slice a2 l2.length c2, .bool g2] 28)).alloc (.cells #[.int .u64 i1, .int .u64 v1, .slice a1 l1.length c1] 26) = w3 at *
  refine (ownu_any _ l1 71 w3 HR1.out (by omega)).mono ?_
  rintro e z1 ⟨g, rfl, hr, hk1⟩
  have hgb : w3.heap.size ≤ g ∧ g < z1.heap.size := hr.block g rfl
  have hsz3 : w.heap.size ≤ w3.heap.size := HX.out.size
  have A1 := HA1.out.keep hk1
  have A2 := HA2.out.keep hk1
  have A3 := HA3.out.keep hk1
  have hlt3 : w.heap.size + 1 + 1 < w3.heap.size := HA3.out.lt
  have hs1 : Only (w.heap.size + 1 + 1) z1 (z1.setCell ⟨w.heap.size + 1 + 1, 2, none⟩ (.slice (some ⟨g, 0, none⟩) l1.length (l1.length + 3))) := Only.set _ _ _
  have B1 := A1.only hs1 (by omega)
  have B2 := A2.only hs1 (by omega)
  have B3 := A3.set_ 2 (.slice (some ⟨g, 0, none⟩) l1.length (l1.length + 3))
  have R1 := (HR1.out.keep hk1).only0 hs1 (fun h0 e => by have := HO1.out h0 e; omega)
  have R2 := (HR2.out.keep hk1).only0 hs1 (fun h0 e => by have := HO2.out h0 e; omega)
  have RO := hr.rd.only hs1 (fun e => by have e : some g = some (w.heap.size + 1 + 1) := e; injection e with e; omega)
  have hX4 : Below w.heap.size w _ := (nest HX.out hk1).trans (hs1.below (by omega) (by have := hk1.size; omega))
  have hfz : z1.frozen? ⟨w.heap.size + 1 + 1, 2, none⟩ = false := A3.frozen 2
  have hcz : z1.cell? ⟨w.heap.size + 1 + 1, 2, none⟩ = some (.slice a1 l1.length c1) := A3.cell 2
  have B3' : Blk (z1.setCell ⟨w.heap.size + 1 + 1, 2, none⟩ (.slice (some ⟨g, 0, none⟩) l1.length (l1.length + 3))) (w.heap.size + 1 + 1) 26 #[.int .u64 i1, .int .u64 v1, .slice (some ⟨g, 0, none⟩) l1.length (l1.length + 3)] := B3
  have HB1 := Lib.hid B1
  have HB2 := Lib.hid B2
  have HB3 := Lib.hid B3'
  clear HR1 HR2 HA1 HA2 HA3 HO1 HO2 HX
  have HR1 := Lib.hid R1
  have HR2 := Lib.hid R2
  have HRO := Lib.hid RO
  have HX := Lib.hid hX4
  clear B1 B2 B3 B3' R1 R2 RO hX4 A1 A2 A3 hs1 hr
  go_wp2_with fail
  generalize z1.setCell ⟨w.heap.size + 1 + 1, 2, none⟩ (.slice (some ⟨g, 0, none⟩) l1.length (l1.length + 3)) = z2 at *
  have C1 : z2.cell? ⟨w.heap.size, 1, none⟩ = some (.int .u64 i1) := HB1.out.cell 1
  have C3 : z2.cell? ⟨w.heap.size, 3, none⟩ = some (.slice a1 l1.length c1) := HB1.out.cell 3
  have C2 : z2.cell? ⟨w.heap.size + 1 + 1, 2, none⟩ = some (.slice (some ⟨g, 0, none⟩) l1.length (l1.length + 3)) := HB3.out.cell 2
  refine Run.region_walk (S := fun z => z.cell? ⟨w.heap.size, 1, none⟩ = some (.int .u64 i1) ∧ z.cell? ⟨w.heap.size, 3, none⟩ = some (.slice a1 l1.length c1) ∧ z.cell? ⟨w.heap.size + 1 + 1, 2, none⟩ = some (.slice (some ⟨g, 0, none⟩) l1.length (l1.length + 3)) ∧ Below z2.heap.size z2 z)
    ltells.rows5 ltells.plan5 (l := ?steps1) (by kernel_rfl) (by kernel_rfl) (by kernel_rfl) (by kernel_rfl) ?written1 ⟨C1, C3, C2, (Below.refl _ _).drew⟩ ?onward1
  case written1 =>
    simp only [ltells.plan5, Run.stepsOf, Run.stepOf, Run.guardOf, List.getElem?_toArray, List.getElem?_cons_zero, List.getElem?_cons_succ, Option.map_some, Option.map_none, Option.bind_some, Option.toList_some, List.map_cons, List.map_nil, List.cons_append, List.nil_append]
    rfl
  repeat ((first
    | (refine Run.takes (v := ?_) ?_ ?_; rotate_left; (· intro w' hS'; (first | (refine exec_load_blk (n := 3) (x := .tmp 11) (l := [.int .u64 i1, .int .u64 v1, .slice (some ⟨g, 0, none⟩) l1.length (l1.length + 3)]) ?_ Try.underlying26 record_info ?_ ?_ (HB3.out.keep hS'.2.2.2) <;> rfl) | (refine exec_load_sub (n := 3) (off := 1) (x := .tmp 38) (l := [.int .u64 i1, .int .u64 v1, .slice a1 l1.length c1]) (m := [.int .u32 x1, .int .u64 i1, .int .u64 v1, .slice a1 l1.length c1, .bool g1]) ?_ Try.underlying26 record_info ?_ ?_ (HB1.out.keep hS'.2.2.2) ?_ <;> rfl) | (refine exec_load_sub (n := 3) (off := 1) (x := .tmp 77) (l := [.int .u64 i1, .int .u64 v1, .slice a1 l1.length c1]) (m := [.int .u32 x1, .int .u64 i1, .int .u64 v1, .slice a1 l1.length c1, .bool g1]) ?_ Try.underlying26 record_info ?_ ?_ (HB1.out.keep hS'.2.2.2) ?_ <;> rfl) | (refine exec_load_sub (n := 3) (off := 1) (x := .tmp 74) (l := [.int .u64 i2, .int .u64 v2, .slice a2 l2.length c2]) (m := [.int .u32 x2, .int .u64 i2, .int .u64 v2, .slice a2 l2.length c2, .bool g2]) ?_ Try.underlying26 record_info ?_ ?_ (HB2.out.keep hS'.2.2.2) ?_ <;> rfl) | (refine exec_load_sub (n := 3) (off := 1) (x := .tmp 79) (l := [.int .u64 i2, .int .u64 v2, .slice a2 l2.length c2]) (m := [.int .u32 x2, .int .u64 i2, .int .u64 v2, .slice a2 l2.length c2, .bool g2]) ?_ Try.underlying26 record_info ?_ ?_ (HB2.out.keep hS'.2.2.2) ?_ <;> rfl) | (refine exec_load_blk (n := 5) (x := .tmp 6) (l := [.int .u32 x1, .int .u64 i1, .int .u64 v1, .slice a1 l1.length c1, .bool g1]) ?_ Try.underlying28 entry_info ?_ ?_ (HB1.out.keep hS'.2.2.2) <;> rfl) | (refine exec_load_blk (n := 5) (x := .tmp 7) (l := [.int .u32 x2, .int .u64 i2, .int .u64 v2, .slice a2 l2.length c2, .bool g2]) ?_ Try.underlying28 entry_info ?_ ?_ (HB2.out.keep hS'.2.2.2) <;> rfl) | (go_simp; (try with_reducible rfl)))))
    | (refine Run.takesG (v := ?_) ?_ ?_ ?_; rotate_left; (· simp only [List.getElem?_cons_zero, List.getElem?_cons_succ]); (· intro w' hS'; (first | (refine exec_load_blk (n := 3) (x := .tmp 11) (l := [.int .u64 i1, .int .u64 v1, .slice (some ⟨g, 0, none⟩) l1.length (l1.length + 3)]) ?_ Try.underlying26 record_info ?_ ?_ (HB3.out.keep hS'.2.2.2) <;> rfl) | (refine exec_load_sub (n := 3) (off := 1) (x := .tmp 38) (l := [.int .u64 i1, .int .u64 v1, .slice a1 l1.length c1]) (m := [.int .u32 x1, .int .u64 i1, .int .u64 v1, .slice a1 l1.length c1, .bool g1]) ?_ Try.underlying26 record_info ?_ ?_ (HB1.out.keep hS'.2.2.2) ?_ <;> rfl) | (refine exec_load_sub (n := 3) (off := 1) (x := .tmp 77) (l := [.int .u64 i1, .int .u64 v1, .slice a1 l1.length c1]) (m := [.int .u32 x1, .int .u64 i1, .int .u64 v1, .slice a1 l1.length c1, .bool g1]) ?_ Try.underlying26 record_info ?_ ?_ (HB1.out.keep hS'.2.2.2) ?_ <;> rfl) | (refine exec_load_sub (n := 3) (off := 1) (x := .tmp 74) (l := [.int .u64 i2, .int .u64 v2, .slice a2 l2.length c2]) (m := [.int .u32 x2, .int .u64 i2, .int .u64 v2, .slice a2 l2.length c2, .bool g2]) ?_ Try.underlying26 record_info ?_ ?_ (HB2.out.keep hS'.2.2.2) ?_ <;> rfl) | (refine exec_load_sub (n := 3) (off := 1) (x := .tmp 79) (l := [.int .u64 i2, .int .u64 v2, .slice a2 l2.length c2]) (m := [.int .u32 x2, .int .u64 i2, .int .u64 v2, .slice a2 l2.length c2, .bool g2]) ?_ Try.underlying26 record_info ?_ ?_ (HB2.out.keep hS'.2.2.2) ?_ <;> rfl) | (refine exec_load_blk (n := 5) (x := .tmp 6) (l := [.int .u32 x1, .int .u64 i1, .int .u64 v1, .slice a1 l1.length c1, .bool g1]) ?_ Try.underlying28 entry_info ?_ ?_ (HB1.out.keep hS'.2.2.2) <;> rfl) | (refine exec_load_blk (n := 5) (x := .tmp 7) (l := [.int .u32 x2, .int .u64 i2, .int .u64 v2, .slice a2 l2.length c2, .bool g2]) ?_ Try.underlying28 entry_info ?_ ?_ (HB2.out.keep hS'.2.2.2) <;> rfl) | (go_simp; (try with_reducible rfl)))))
    | (refine Run.skipsT ?_ ?_; (· simp only [List.getElem?_cons_zero, List.getElem?_cons_succ]))
    | (refine Run.skipsF ?_ ?_; (· simp only [List.getElem?_cons_zero, List.getElem?_cons_succ]))
    | (refine Run.skipsU ?_ ?_; (· simp only [List.getElem?_cons_zero, List.getElem?_cons_succ]))
    | (refine Run.passT ?_ ?_; (· simp only [List.getElem?_cons_zero, List.getElem?_cons_succ]))
    | (refine Run.passF ?_ ?_; (· simp only [List.getElem?_cons_zero, List.getElem?_cons_succ]))
    | (refine Run.passU ?_ ?_; (· simp only [List.getElem?_cons_zero, List.getElem?_cons_succ]))
    | (refine Run.runs ?_
       (first
       | (refine Run.callF 7 (by kernel_rfl) (fun hS => ecawake_any _) rfl ?_)
       | (refine Run.callG 7 (by kernel_rfl) ?_ (fun hS => ecawake_any _) rfl ?_; (· simp only [List.getElem?_cons_zero, List.getElem?_cons_succ]))
       | (refine Run.callF 9 (by kernel_rfl) (fun hS => right_any attrs i1 v1 bi1.1 bv1.1 _ _ _ _) rfl ?_)
       | (refine Run.callG 9 (by kernel_rfl) ?_ (fun hS => right_any attrs i1 v1 bi1.1 bv1.1 _ _ _ _) rfl ?_; (· simp only [List.getElem?_cons_zero, List.getElem?_cons_succ]))
       | (refine Run.callF 10 (by kernel_rfl) (fun hS => rright_any attrs i1 v1 bi1.1 bv1.1 _ _ _ _) rfl ?_)
       | (refine Run.callG 10 (by kernel_rfl) ?_ (fun hS => rright_any attrs i1 v1 bi1.1 bv1.1 _ _ _ _) rfl ?_; (· simp only [List.getElem?_cons_zero, List.getElem?_cons_succ]))
       | (refine Run.callF 11 (by kernel_rfl) (fun hS => own_any cl nu bn _) rfl ?_)
       | (refine Run.callG 11 (by kernel_rfl) ?_ (fun hS => own_any cl nu bn _) rfl ?_; (· simp only [List.getElem?_cons_zero, List.getElem?_cons_succ]))
       | (refine Run.callF 12 (by kernel_rfl) (fun hS => rown_any cl nu bn _) rfl ?_)
       | (refine Run.callG 12 (by kernel_rfl) ?_ (fun hS => rown_any cl nu bn _) rfl ?_; (· simp only [List.getElem?_cons_zero, List.getElem?_cons_succ]))
       | (refine Run.callF 13 (by kernel_rfl) (fun hS => client_any i1 bi1.1 _) rfl ?_)
       | (refine Run.callG 13 (by kernel_rfl) ?_ (fun hS => client_any i1 bi1.1 _) rfl ?_; (· simp only [List.getElem?_cons_zero, List.getElem?_cons_succ]))
       | (refine Run.callF 14 (by kernel_rfl) (fun hS => rclient_any i1 bi1.1 _) rfl ?_)
       | (refine Run.callG 14 (by kernel_rfl) ?_ (fun hS => rclient_any i1 bi1.1 _) rfl ?_; (· simp only [List.getElem?_cons_zero, List.getElem?_cons_succ]))
       | (refine Run.callF 15 (by kernel_rfl) (fun hS => newer_any x1 i1 v1 x2 i2 v2 g1 g2 bv1.1 bv2.1 _ _ _ _ _ _ _) rfl ?_)
       | (refine Run.callG 15 (by kernel_rfl) ?_ (fun hS => newer_any x1 i1 v1 x2 i2 v2 g1 g2 bv1.1 bv2.1 _ _ _ _ _ _ _) rfl ?_; (· simp only [List.getElem?_cons_zero, List.getElem?_cons_succ]))
       | (refine Run.callF 16 (by kernel_rfl) (fun hS => rnewer_any x1 i1 v1 x2 i2 v2 g1 g2 bv1.1 bv2.1 _ _ _ _ _ _ _) rfl ?_)
       | (refine Run.callG 16 (by kernel_rfl) ?_ (fun hS => rnewer_any x1 i1 v1 x2 i2 v2 g1 g2 bv1.1 bv2.1 _ _ _ _ _ _ _) rfl ?_; (· simp only [List.getElem?_cons_zero, List.getElem?_cons_succ]))
       | (refine Run.callF 17 (by kernel_rfl) (fun hS => osame_any i1 v1 i2 v2 _ _ l1 l2 _ (own_rd (m := [71, 71, 71]) (HRO.out.keep hS.2.2.2)) (HR2.out.keep hS.2.2.2)) rfl ?_)
       | (refine Run.callG 17 (by kernel_rfl) ?_ (fun hS => osame_any i1 v1 i2 v2 _ _ l1 l2 _ (own_rd (m := [71, 71, 71]) (HRO.out.keep hS.2.2.2)) (HR2.out.keep hS.2.2.2)) rfl ?_; (· simp only [List.getElem?_cons_zero, List.getElem?_cons_succ]))
       | (refine Run.callF 18 (by kernel_rfl) (fun hS => rsame_any i1 v1 i2 v2 _ _ l1 l2 _ (HR1.out.keep hS.2.2.2) (HR2.out.keep hS.2.2.2)) rfl ?_)
       | (refine Run.callG 18 (by kernel_rfl) ?_ (fun hS => rsame_any i1 v1 i2 v2 _ _ l1 l2 _ (HR1.out.keep hS.2.2.2) (HR2.out.keep hS.2.2.2)) rfl ?_; (· simp only [List.getElem?_cons_zero, List.getElem?_cons_succ]))
       | (refine Run.callF 19 (by kernel_rfl) (fun hS => keptu_yes g _ l1 71 _ (HRO.out.keep hS.2.2.2) (HR1.out.keep hS.2.2.2) (by omega)) rfl ?_)
       | (refine Run.callG 19 (by kernel_rfl) ?_ (fun hS => keptu_yes g _ l1 71 _ (HRO.out.keep hS.2.2.2) (HR1.out.keep hS.2.2.2) (by omega)) rfl ?_; (· simp only [List.getElem?_cons_zero, List.getElem?_cons_succ]))
       | fail)
       (first
       | (rintro hS e w' ⟨rfl, rfl⟩; refine ⟨_, rfl, hS, ?_⟩)
       | (rintro hS e w' ⟨rfl, hb⟩; refine ⟨_, rfl, ⟨kc hb hS.1, kc hb hS.2.1, kc hb hS.2.2.1, nest hS.2.2.2 hb⟩, ?_⟩)
       | fail))
    | fail); simp only [Act.put, List.setIfInBounds_toArray, List.set_cons_zero, List.set_cons_succ])
  trace_state
  refine Run.ends (fun hS => ?_)
  have hK := hS.2.2.2
  have HEND := Lib.hid (nest HX.out hK)
  clear hS hK
  go_wp2_with fail
  go_ret
  exact ⟨rfl, HEND.out⟩
end Go.Proofs.Ytjjgckbjoficgaa.recordTells
