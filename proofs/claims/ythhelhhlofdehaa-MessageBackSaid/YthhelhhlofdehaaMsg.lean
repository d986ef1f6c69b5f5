/- Messages: what they read as; which ones are right. -/
import Derived.Test.YthhelhhlofdehaaBoxRef
import Derived.Test.YthhelhhlofdehaaBoxOpen
import Derived.Test.YthhelhhlofdehaaRecOpen
import Derived.Test.YthhelhhlofdehaaRecord
import Derived.Test.YthhelhhlofdehaaSameE
import Derived.Test.YthhelhhlofdehaaMem
set_option maxRecDepth 4000
namespace Go.Proofs.Ythhelhhlofdehaa
open Go.RowKit Mem
set_option linter.unusedSimpArgs false
set_option linter.unusedVariables false

/-- a message -/
structure Msg where
  (kind hub point client op target hops owner turn ev eid ever : Int)
  (vals : List Int)
  (gone : Bool)
  (sf st : Int)
  (box : List (Int × Int × Int))
  (recs : List (Int × Int × List Int))
/-- its cells: v, b, r: its slices -/
def mcs (m : Msg) (v b r : Value) : List Value := [.int .i64 m.kind, .int .i64 m.hub, .int .u32 m.point, .int .i64 m.client, .int .i64 m.op, .int .u32 m.target, .int .i64 m.hops, .int .u32 m.owner, .int .i64 m.turn, .int .u32 m.ev, .int .u64 m.eid, .int .u64 m.ever, v, .bool m.gone, .int .u32 m.sf, .int .u32 m.st, b, r]
theorem msg_info : (Try.prog.info? 34).map (·.size) = some 18 := by kernel_rfl
def recsK : Kd (List (Int × Int × List Int)) := kSlice recordK
/-- what its slices read as -/
structure MRd (w : World) (m : Msg) (v b r : Value) : Prop where
  vals : Rd (intE .u32) w v m.vals
  box : Rd rngE w b m.box
  recs : recsK.rd w [r] m.recs
theorem MRd.keep {w w' : World} {m : Msg} {v b r : Value} (h : MRd w m v b r) (k : Below w.heap.size w w') : MRd w' m v b r := ⟨h.vals.keep k, h.box.keep k, recsK.keep h.recs k⟩
def u32B (x : Int) : Prop := 0 ≤ x ∧ x ≤ 4294967295
def u64B (x : Int) : Prop := 0 ≤ x ∧ x ≤ 18446744073709551615
def i64B (x : Int) : Prop := -9223372036854775808 ≤ x ∧ x ≤ 9223372036854775807
/-- the bounds of a record's numbers -/
def recB (x : Int × Int × List Int) : Prop := u64B x.1 ∧ u64B x.2.1 ∧ ∀ y ∈ x.2.2, u32B y
/-- the bounds of its numbers -/
structure MB (m : Msg) : Prop where
  kind : i64B m.kind
  hub : i64B m.hub
  point : u32B m.point
  client : i64B m.client
  op : i64B m.op
  target : u32B m.target
  hops : i64B m.hops
  owner : u32B m.owner
  turn : i64B m.turn
  ev : u32B m.ev
  eid : u64B m.eid
  ever : u64B m.ever
  vals : ∀ x ∈ m.vals, u32B x
  sf : u32B m.sf
  st : u32B m.st
  box : RB m.box
  recs : ∀ x ∈ m.recs, recB x
/-- is it of the first four kinds? -/
def firstM (m : Msg) : Bool := decide (1 ≤ m.kind ∧ m.kind ≤ 4)
/-- its bounds, and the kind that there is -/
def s1M (attrs : Int) (m : Msg) : Bool := decide (1 ≤ attrs ∧ attrs ≤ 8 ∧ 0 ≤ m.hub ∧ m.hub < attrs ∧ 0 ≤ m.client ∧ m.client < 16 ∧ 1 ≤ m.op ∧ m.op ≤ 500 ∧ 0 ≤ m.hops ∧ m.hops ≤ 100 ∧ 1 ≤ m.kind ∧ m.kind ≤ 6)
/-- its entry, and its target -/
def s2M (attrs : Int) (m : Msg) : Bool := if 1 ≤ m.kind ∧ m.kind ≤ 4 then rightV attrs m.eid m.ever m.vals.length && ((m.vals.getD m.hub.toNat 0 == m.ev) && (m.target == m.ev)) else decide (m.ev = 0 ∧ m.gone = false ∧ m.eid = 0 ∧ m.ever = 0 ∧ m.vals = []) && (m.target == 0)
/-- a range whose bounds count, or are 0 -/
def bareR (r : Int × Int × Int) : Bool := (r.1 == 2) || ((r.2.1 == 0) && (r.2.2 == 0))
def s3M (attrs : Int) (m : Msg) : Bool := if m.kind = 5 then rightB attrs m.box && m.box.all bareR else decide (m.box.length = 0)
def rightR (attrs : Int) (r : Int × Int × List Int) : Bool := rightV attrs r.1 r.2.1 r.2.2.length
def s4M (attrs : Int) (m : Msg) : Bool := if m.kind = 6 then decide (m.recs.length ≤ 10000) && m.recs.all (rightR attrs) else decide (m.recs.length = 0)
def s5M (m : Msg) : Bool := decide (m.kind = 5 ∨ m.kind = 6 ∨ (m.sf = 0 ∧ m.st = 0))
def s6M (m : Msg) : Bool := decide ((m.kind = 2 ∨ m.kind = 3 ∨ (m.owner = 0 ∧ m.turn = 0)) ∧ 0 ≤ m.turn ∧ m.turn ≤ 2147483647)
def s7M (m : Msg) : Bool := decide (m.kind = 1 ∨ m.kind = 5 ∨ m.hops = 0)
def s8M (m : Msg) : Bool := decide ((m.kind ≠ 4 ∧ m.kind ≠ 6) ∨ m.point = 0)
/-- is it right? -/
def rightM (attrs : Int) (m : Msg) : Bool := s1M attrs m && (s2M attrs m && (s3M attrs m && (s4M attrs m && (s5M m && (s6M m && (s7M m && s8M m))))))
end Go.Proofs.Ythhelhhlofdehaa
