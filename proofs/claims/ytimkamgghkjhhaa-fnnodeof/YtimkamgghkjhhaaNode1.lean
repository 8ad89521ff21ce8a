/- Nodes, as they lie in memory; the exact laws' eq of them. -/
import Derived.Test.YtimkamgghkjhhaaLanes1
import Derived.Test.YtimkamgghkjhhaaViews1
import Derived.Test.YtimkamgghkjhhaaFlatOut
namespace Go.Proofs.Ytimkamgghkjhhaa
open Go.RowKit
set_option linter.unusedVariables false
set_option linter.unusedSimpArgs false

structure NodeV where
  id : Int
  up : Bool
  inc : Int
  g : Int
  lanes : List LaneV
  kept : List EvV
  outs : List OutV
  led : Int
  ver : Int
  views : List ViewV
  known : List Int
  round : Int
  low : Int

abbrev nodeCells (n : NodeV) (vl vk vo vv vn : Value) : List Value := [.int .i64 n.id, .bool n.up, .int .i64 n.inc, .int .i64 n.g, vl, vk, vo, .int .i64 n.led, .int .i64 n.ver, vv, vn, .int .i64 n.round, .int .i64 n.low]
abbrev nodeAgg (n : NodeV) (vl vk vo vv vn : Value) : Value := .agg #[.int .i64 n.id, .bool n.up, .int .i64 n.inc, .int .i64 n.g, vl, vk, vo, .int .i64 n.led, .int .i64 n.ver, vv, vn, .int .i64 n.round, .int .i64 n.low]

/-- The lists of a node. -/
structure NodeAt (w : World) (n : NodeV) (vl vk vo vv vn : Value) : Prop where
  l : LanesAt w vl n.lanes
  k : RowsAt 7 w vk (n.kept.map evRow)
  o : RowsAt 5 w vo (n.outs.map outRow)
  v : ViewsAt w vv n.views
  n : NumsAt w vn n.known

theorem NodeAt.on {w w' : World} {n : NodeV} {vl vk vo vv vn : Value} (hb : Below w.heap.size w w') (h : NodeAt w n vl vk vo vv vn) : NodeAt w' n vl vk vo vv vn :=
  ⟨h.l.on hb, h.k.on hb, h.o.on hb, h.v.on hb, h.n.on hb⟩

theorem NodeAt.sliced {w : World} {n : NodeV} {vl vk vo vv vn : Value} (h : NodeAt w n vl vk vo vv vn) :
    (∃ a c, vl = .slice a n.lanes.length c) ∧ (∃ a c, vk = .slice a n.kept.length c) ∧ (∃ a c, vo = .slice a n.outs.length c) ∧ (∃ a c, vv = .slice a n.views.length c) ∧ ∃ a c, vn = .slice a n.known.length c := by
  obtain ⟨_, _, e1, _⟩ := h.k
  obtain ⟨_, _, e2, _⟩ := h.o
  obtain ⟨_, _, e3, _⟩ := h.n
  rw [List.length_map] at e1 e2 e3
  exact ⟨h.l.sliced, ⟨_, _, e1⟩, ⟨_, _, e2⟩, h.v.sliced, ⟨_, _, e3⟩⟩

end Go.Proofs.Ytimkamgghkjhhaa
