/- Contracts of package record and its reference: Client, Own, Right, Newer. -/
import Derived.Test.YthhelhhlofdehaaMem
import Derived.Lib.EndianBits
set_option maxRecDepth 4000
namespace Go.Proofs.Ythhelhhlofdehaa
open Go.RowKit Mem
set_option linter.unusedSimpArgs false
set_option linter.unusedVariables false
attribute [local irreducible] Go.Calls

/-- whose an id is -/
def clientV (id : Int) : Int := if 16 ≤ id / 4294967296 then -1 else id / 4294967296
theorem clientV_bd (id : Int) (h : 0 ≤ id) : -1 ≤ clientV id ∧ clientV id < 16 := by unfold clientV; split <;> omega
theorem shr32 (id : Int) : id / 2 ^ 32 = id / 4294967296 := rfl
theorem client_any (id : Int) (hid : 0 ≤ id) (w : World) : Calls Try.prog 79 #[.int .u64 id] w fun e w' => e = .returned (.int .i64 (clientV id)) ∧ Below w.heap.size w w' := by
  by_cases h : 16 ≤ id / 4294967296
  · have hc : clientV id = -1 := if_pos h
    rw [hc]
    go_enter Try.func79, Try.ntmps79
    go_wp2_with fail
    go_ret
    exact ⟨rfl, Below.refl _ _⟩
  · have hc : clientV id = id / 4294967296 := if_neg h
    rw [hc]
    go_enter Try.func79, Try.ntmps79
    go_wp2_with fail
    go_ret
    exact ⟨rfl, Below.refl _ _⟩
theorem rclient_any (id : Int) (hid : 0 ≤ id) (w : World) : Calls Try.prog 66 #[.int .u64 id] w fun e w' => e = .returned (.int .i64 (clientV id)) ∧ Below w.heap.size w w' := by
  by_cases h : 16 ≤ id / 4294967296
  · have hc : clientV id = -1 := if_pos h
    rw [hc]
    go_enter Try.func66, Try.ntmps66
    go_wp2_with fail
    go_ret
    exact ⟨rfl, Below.refl _ _⟩
  · have hc : clientV id = id / 4294967296 := if_neg h
    rw [hc]
    go_enter Try.func66, Try.ntmps66
    go_wp2_with fail
    go_ret
    exact ⟨rfl, Below.refl _ _⟩
/-- the id of a client's number -/
def ownV (c n : Int) : Int := if c < 0 ∨ 16 ≤ c then 0 else c * 4294967296 + n
theorem or32 (c n : Int) (hc : 0 ≤ c ∧ c < 16) (hn : 0 ≤ n ∧ n ≤ 4294967295) : bits .or .u64 (c * 4294967296) n = c * 4294967296 + n := by
  have e1 : (2 : Int) ^ 32 = 4294967296 := rfl
  have e2 : (2 : Int) ^ 64 = 18446744073709551616 := rfl
  exact bits_join .u64 64 (by decide) wraps_u64 32 (c * 4294967296) n (by omega) (by rw [e1]; omega) (by omega) hn.1 (by omega) (by omega)
/-- may it be a record of so many attributes, with so many values? -/
def rightV (attrs id ver : Int) (n : Nat) : Bool := decide (1 ≤ attrs) && decide (attrs ≤ 8) && decide ((n : Int) = attrs) && decide (0 ≤ clientV id) && decide (1 ≤ ver)
set_option maxHeartbeats 1000000 in
theorem right_any (attrs id ver : Int) (hid : 0 ≤ id) (hv : 0 ≤ ver) (a : Option Addr) (n c : Nat) (w : World) :
    Calls Try.prog 64 #[.int .i64 attrs, .agg #[.int .u64 id, .int .u64 ver, .slice a n c]] w fun e w' => e = .returned (.bool (rightV attrs id ver n)) ∧ Below w.heap.size w w' := by
  by_cases h1 : attrs < 1
  · have hr : rightV attrs id ver n = false := by simp [rightV]; omega
    rw [hr]
    go_enter Try.func64, Try.ntmps64
    go_wp2_with fail
    go_ret
    exact ⟨rfl, more (Below.refl _ _) _⟩
  by_cases h2 : 8 < attrs
  · have hr : rightV attrs id ver n = false := by simp [rightV]; omega
    rw [hr]
    go_enter Try.func64, Try.ntmps64
    go_wp2_with fail
    go_ret
    exact ⟨rfl, more (Below.refl _ _) _⟩
  by_cases h3 : (n : Int) = attrs
  · subst h3
    by_cases h4 : 0 ≤ clientV id
    · have hr : rightV n id ver n = decide (1 ≤ ver) := by simp [rightV]; omega
      rw [hr]
      go_enter Try.func64, Try.ntmps64
      go_wp2_with (go_at_call 79; refine (client_any id hid _).mono ?_; rintro e w1 ⟨rfl, hk⟩; have hc : w1.cell? ⟨w.heap.size, 1, none⟩ = some (.int .u64 ver) := ((Blk.new w _ _).keep hk).cell 1)
      go_ret
      exact ⟨rfl, nest (more (Below.refl _ _) _) hk⟩
    · have hr : rightV n id ver n = false := by simp [rightV]; omega
      rw [hr]
      go_enter Try.func64, Try.ntmps64
      go_wp2_with (go_at_call 79; refine (client_any id hid _).mono ?_; rintro e w1 ⟨rfl, hk⟩; have hc : w1.cell? ⟨w.heap.size, 1, none⟩ = some (.int .u64 ver) := ((Blk.new w _ _).keep hk).cell 1)
      go_ret
      exact ⟨rfl, nest (more (Below.refl _ _) _) hk⟩
  · have hr : rightV attrs id ver n = false := by simp [rightV]; omega
    rw [hr]
    go_enter Try.func64, Try.ntmps64
    go_wp2_with fail
    go_ret
    exact ⟨rfl, more (Below.refl _ _) _⟩
set_option maxHeartbeats 1000000 in
theorem rright_any (attrs id ver : Int) (hid : 0 ≤ id) (hv : 0 ≤ ver) (a : Option Addr) (n c : Nat) (w : World) :
    Calls Try.prog 46 #[.int .i64 attrs, .agg #[.int .u64 id, .int .u64 ver, .slice a n c]] w fun e w' => e = .returned (.bool (rightV attrs id ver n)) ∧ Below w.heap.size w w' := by
  by_cases h1 : attrs < 1
  · have hr : rightV attrs id ver n = false := by simp [rightV]; omega
    rw [hr]
    go_enter Try.func46, Try.ntmps46
    go_wp2_with fail
    go_ret
    exact ⟨rfl, more (Below.refl _ _) _⟩
  by_cases h2 : 8 < attrs
  · have hr : rightV attrs id ver n = false := by simp [rightV]; omega
    rw [hr]
    go_enter Try.func46, Try.ntmps46
    go_wp2_with fail
    go_ret
    exact ⟨rfl, more (Below.refl _ _) _⟩
  by_cases h3 : (n : Int) = attrs
  · subst h3
    by_cases h4 : 0 ≤ clientV id
    · have hr : rightV n id ver n = decide (1 ≤ ver) := by simp [rightV]; omega
      rw [hr]
      go_enter Try.func46, Try.ntmps46
      go_wp2_with (go_at_call 66; refine (rclient_any id hid _).mono ?_; rintro e w1 ⟨rfl, hk⟩; have hc : w1.cell? ⟨w.heap.size, 1, none⟩ = some (.int .u64 ver) := ((Blk.new w _ _).keep hk).cell 1)
      go_ret
      exact ⟨rfl, nest (more (Below.refl _ _) _) hk⟩
    · have hr : rightV n id ver n = false := by simp [rightV]; omega
      rw [hr]
      go_enter Try.func46, Try.ntmps46
      go_wp2_with (go_at_call 66; refine (rclient_any id hid _).mono ?_; rintro e w1 ⟨rfl, hk⟩; have hc : w1.cell? ⟨w.heap.size, 1, none⟩ = some (.int .u64 ver) := ((Blk.new w _ _).keep hk).cell 1)
      go_ret
      exact ⟨rfl, nest (more (Below.refl _ _) _) hk⟩
  · have hr : rightV attrs id ver n = false := by simp [rightV]; omega
    rw [hr]
    go_enter Try.func46, Try.ntmps46
    go_wp2_with fail
    go_ret
    exact ⟨rfl, more (Below.refl _ _) _⟩
/-- is an entry of that version, gone or not, to stand in another one's place? -/
def newerV (v1 : Int) (g1 : Bool) (v2 : Int) (g2 : Bool) : Bool := if v1 = v2 then g1 && !g2 else decide (v1 > v2)
end Go.Proofs.Ythhelhhlofdehaa
