/- Walks that the laws of greedy share: awake; where one goes on, of a ring and the document's. -/
import Derived.Test.YtbhnpidbgckinaaGreedyC
import Derived.Test.YtbhnpidbgckinaaRgGo
import Derived.Test.YtbhnpidbgckinaaMade13
set_option maxRecDepth 4000
namespace Go.Proofs.Ytbhnpidbgckinaa
open Go.RowKit Mem
set_option linter.unusedSimpArgs false
set_option linter.unusedVariables false
attribute [local irreducible] Go.Calls

theorem made_ok13 {l : List Int} (hb : ∀ x ∈ l, 0 ≤ x ∧ x ≤ 4294967295) : okR (addsR [] (l.take 60)) := by
  have h := (addsR_facts (l.take 60) (fun x hx => hb x (List.mem_of_mem_take hx)) (l.take 60).length (Nat.le_refl _) (by simp; omega)).1
  rwa [List.take_length] at h
section
variable (B b1 b2 : Nat) (L M : List Int) (w : World) (h : Pr B w b1 b2 L M)
include h
theorem pr_next (l : List Int) (u : Value) (a v : Int) (hu : Rd (intE .u32) w u l) (hl : ∀ x ∈ l, 0 ≤ x ∧ x ≤ 4294967295) (ba : 0 ≤ a ∧ a ≤ 4294967295) (bv : 0 ≤ v ∧ v ≤ 4294967295) : Calls Try.prog 11 #[.pointer (some ⟨b1, 0, none⟩), u, .int .u32 a, .int .u32 v] w fun e w' => e = .returned (.tuple #[.int .u32 (goR L l a v).1, .bool (goR L l a v).2]) ∧ Below w.heap.size w w' := by
  obtain ⟨W, R, h1, _⟩ := h
  exact gnext_any b1 W R L l u a v w h1 hu hl ba bv
theorem pr_way (K : Int → List Int) (mv : Value) (a v : Int) (hm : LinksIs w mv K) (ba : 0 ≤ a ∧ a ≤ 4294967295) (bv : 0 ≤ v ∧ v ≤ 4294967295) : Calls Try.prog 15 #[.pointer (some ⟨b1, 0, none⟩), mv, .int .u32 a, .int .u32 v] w fun e w' => ∃ x, e = .returned (.tuple #[x, .bool (L.contains a)]) ∧ Rd (intE .u32) w' x (if L.contains a then wayR L K v L.length a else []) ∧ Below w.heap.size w w' := by
  obtain ⟨W, R, h1, _⟩ := h
  exact gway_any b1 W R L K mv a v w h1 hm ba bv
theorem pr_go (l : List Int) (u : Value) (a v : Int) (hu : Rd (intE .u32) w u l) (ba : 0 ≤ a ∧ a ≤ 4294967295) (bv : 0 ≤ v ∧ v ≤ 4294967295) : Calls Try.prog 12 #[.pointer (some ⟨b2, 0, none⟩), u, .int .u32 a, .int .u32 v] w fun e w' => e = .returned (.tuple #[.int .u32 (goR M l a v).1, .bool (goR M l a v).2]) ∧ Below w.heap.size w w' :=
  rgo_any b2 M l u a v w h.two hu ba bv
end
set_option maxHeartbeats 4000000 in
theorem grawake_any (w : World) : Calls Try.prog 9 #[] w fun e w' => e = .returned (.bool true) ∧ Below w.heap.size w w' := by
  have hX := more (Below.refl w.heap.size w) (.cells #[.int .u32 10, .int .u32 20, .int .u32 30] 23)
  have HX := Lib.hid hX
  have HR := Lib.hid (Row.lit (E := intE .u32) (T := 23) 0 w #[.int .u32 10, .int .u32 20, .int .u32 30] [10, 20, 30] 3 w.heap.size rfl rfl rfl (Nat.zero_le _) (by simp [maxLen])).rd
  have HMD := Lib.hid (made13_any _ [10, 20, 30] _ HR.out (fun x hx => by simp at hx; omega))
  rw [show addsR [] (([10, 20, 30] : List Int).take 60) = [10, 20, 30] from by decide] at HMD
  clear hX
  go_enter Try.func9, Try.ntmps9
  go_upto_region 2 with (go_at_call 8; refine HMD.out.mono ?_; rintro e w1 ⟨r, rr, rfl, hp, hk⟩)
  have HP := Lib.hid hp
  have HK := Lib.hid (nest HX.out hk)
  clear hp hk HMD
  go_upto_region 3 with (go_at_call 15; refine (pr_way _ r rr _ _ w1 HP.out (fun _ => []) (.map none) 10 25 (LinksIs.nil w1) (by omega) (by omega)).mono ?_; rintro e w2 ⟨x, rfl, hx, hk⟩)
  rw [show (if List.contains [10, 20, 30] (10 : Int) = true then wayR [10, 20, 30] (fun _ => []) 25 ([10, 20, 30] : List Int).length 10 else []) = [10, 20, 30] from by decide] at hx
  have HV := Lib.hid hx
  have HK2 := Lib.hid (nest HK.out hk)
  obtain ⟨ax, cx, rfl, _, _⟩ := hx.form
  clear hx hk HK HP
  have hX2 := more (Below.refl w2.heap.size w2) (.cells #[.int .u32 10, .int .u32 20, .int .u32 30] 23)
  have HR2 := Lib.hid (Row.lit (E := intE .u32) (T := 23) 0 w2 #[.int .u32 10, .int .u32 20, .int .u32 30] [10, 20, 30] 3 w2.heap.size rfl rfl rfl (Nat.zero_le _) (by simp [maxLen])).rd
  have HV2 := Lib.hid (HV.out.keep hX2)
  have HK3 := Lib.hid (nest HK2.out hX2)
  clear hX2
  go_wp2_with (go_at_call 17; refine (plainU_yes _ _ [10, 20, 30] _ HV2.out HR2.out).mono ?_; rintro e w5 ⟨rfl, hk⟩)
  go_ret
  exact ⟨rfl, nest HK3.out hk⟩
end Go.Proofs.Ytbhnpidbgckinaa
