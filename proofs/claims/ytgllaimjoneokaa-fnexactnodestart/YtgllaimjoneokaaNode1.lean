/- Nodes, as they lie in memory; the exact laws' eq of them. -/
import Derived.Test.YtgllaimjoneokaaLanes1
import Derived.Test.YtgllaimjoneokaaViews1
import Derived.Test.YtgllaimjoneokaaFlatOut
namespace Go.Proofs.Ytgllaimjoneokaa
open Go.RowKit
set_option linter.unusedVariables false
set_option linter.unusedSimpArgs false

structure NodeV where
  id : Int
  up : Bool
  inc : Int
  g : Int
  lanes : List LaneV
  kept : List EvV
  outs : List OutV
  led : Int
  ver : Int
  views : List ViewV
  known : List Int
  round : Int
  low : Int

abbrev nodeCells (n : NodeV) (vl vk vo vv vn : Value) : List Value := [.int .i64 n.id, .bool n.up, .int .i64 n.inc, .int .i64 n.g, vl, vk, vo, .int .i64 n.led, .int .i64 n.ver, vv, vn, .int .i64 n.round, .int .i64 n.low]
abbrev nodeAgg (n : NodeV) (vl vk vo vv vn : Value) : Value := .agg #[.int .i64 n.id, .bool n.up, .int .i64 n.inc, .int .i64 n.g, vl, vk, vo, .int .i64 n.led, .int .i64 n.ver, vv, vn, .int .i64 n.round, .int .i64 n.low]

/-- The lists of a node. -/
structure NodeAt (w : World) (n : NodeV) (vl vk vo vv vn : Value) : Prop where
  l : LanesAt w vl n.lanes
  k : RowsAt 7 w vk (n.kept.map evRow)
  o : RowsAt 5 w vo (n.outs.map outRow)
  v : ViewsAt w vv n.views
  n : NumsAt w vn n.known

theorem NodeAt.on {w w' : World} {n : NodeV} {vl vk vo vv vn : Value} (hb : Below w.heap.size w w') (h : NodeAt w n vl vk vo vv vn) : NodeAt w' n vl vk vo vv vn :=
  ⟨h.l.on hb, h.k.on hb, h.o.on hb, h.v.on hb, h.n.on hb⟩

theorem NodeAt.sliced {w : World} {n : NodeV} {vl vk vo vv vn : Value} (h : NodeAt w n vl vk vo vv vn) :
    (∃ a c, vl = .slice a n.lanes.length c) ∧ (∃ a c, vk = .slice a n.kept.length c) ∧ (∃ a c, vo = .slice a n.outs.length c) ∧ (∃ a c, vv = .slice a n.views.length c) ∧ ∃ a c, vn = .slice a n.known.length c := by
  obtain ⟨_, _, e1, _⟩ := h.k
  obtain ⟨_, _, e2, _⟩ := h.o
  obtain ⟨_, _, e3, _⟩ := h.n
  rw [List.length_map] at e1 e2 e3
  exact ⟨h.l.sliced, ⟨_, _, e1⟩, ⟨_, _, e2⟩, h.v.sliced, ⟨_, _, e3⟩⟩

set_option maxRecDepth 100000 in
set_option maxHeartbeats 2000000 in
theorem eqNode_any (n : NodeV) (vl vk vo vv vn ul uk uo uv un : Value) (w : World) (h1 : NodeAt w n vl vk vo vv vn) (h2 : NodeAt w n ul uk uo uv un) :
    Calls Try.prog 16 #[nodeAgg n vl vk vo vv vn, nodeAgg n ul uk uo uv un] w fun e w' => e = .returned (.bool true) ∧ Below w.heap.size w w' := by
  have H1 := hide h1
  have H2 := hide h2
  obtain ⟨⟨al, acl, e1⟩, ⟨ak, ack, e2⟩, ⟨ao, aco, e3⟩, ⟨av, acv, e4⟩, ⟨an, acn, e5⟩⟩ := h1.sliced
  subst e1 e2 e3 e4 e5
  obtain ⟨⟨bl, bcl, e1⟩, ⟨bk, bck, e2⟩, ⟨bo, bco, e3⟩, ⟨bv, bcv, e4⟩, ⟨bn, bcn, e5⟩⟩ := h2.sliced
  subst e1 e2 e3 e4 e5
  clear h1 h2
  have hqm : ∀ z : Int, (z != z) = false := by intro z; simp
  have hqb : (n.up != n.up) = false := by simp
  have hb0 : Below w.heap.size w ((w.alloc (.cells #[.int .i64 n.id, .bool n.up, .int .i64 n.inc, .int .i64 n.g, .slice al n.lanes.length acl, .slice ak n.kept.length ack, .slice ao n.outs.length aco, .int .i64 n.led, .int .i64 n.ver, .slice av n.views.length acv, .slice an n.known.length acn, .int .i64 n.round, .int .i64 n.low] 31)).alloc (.cells #[.int .i64 n.id, .bool n.up, .int .i64 n.inc, .int .i64 n.g, .slice bl n.lanes.length bcl, .slice bk n.kept.length bck, .slice bo n.outs.length bco, .int .i64 n.led, .int .i64 n.ver, .slice bv n.views.length bcv, .slice bn n.known.length bcn, .int .i64 n.round, .int .i64 n.low] 31)) := ((Below.refl _ _).alloc (Nat.le_refl _) _).alloc (by simp) _
  have cA : CellsAt ((w.alloc (.cells #[.int .i64 n.id, .bool n.up, .int .i64 n.inc, .int .i64 n.g, .slice al n.lanes.length acl, .slice ak n.kept.length ack, .slice ao n.outs.length aco, .int .i64 n.led, .int .i64 n.ver, .slice av n.views.length acv, .slice an n.known.length acn, .int .i64 n.round, .int .i64 n.low] 31)).alloc (.cells #[.int .i64 n.id, .bool n.up, .int .i64 n.inc, .int .i64 n.g, .slice bl n.lanes.length bcl, .slice bk n.kept.length bck, .slice bo n.outs.length bco, .int .i64 n.led, .int .i64 n.ver, .slice bv n.views.length bcv, .slice bn n.known.length bcn, .int .i64 n.round, .int .i64 n.low] 31)) w.heap.size 0 [.int .i64 n.id, .bool n.up, .int .i64 n.inc, .int .i64 n.g, .slice al n.lanes.length acl, .slice ak n.kept.length ack, .slice ao n.outs.length aco, .int .i64 n.led, .int .i64 n.ver, .slice av n.views.length acv, .slice an n.known.length acn, .int .i64 n.round, .int .i64 n.low] := (cellsAt_new w [.int .i64 n.id, .bool n.up, .int .i64 n.inc, .int .i64 n.g, .slice al n.lanes.length acl, .slice ak n.kept.length ack, .slice ao n.outs.length aco, .int .i64 n.led, .int .i64 n.ver, .slice av n.views.length acv, .slice an n.known.length acn, .int .i64 n.round, .int .i64 n.low] 31).on ((Below.refl _ _).alloc (Nat.le_refl _) _)
  have cB : CellsAt ((w.alloc (.cells #[.int .i64 n.id, .bool n.up, .int .i64 n.inc, .int .i64 n.g, .slice al n.lanes.length acl, .slice ak n.kept.length ack, .slice ao n.outs.length aco, .int .i64 n.led, .int .i64 n.ver, .slice av n.views.length acv, .slice an n.known.length acn, .int .i64 n.round, .int .i64 n.low] 31)).alloc (.cells #[.int .i64 n.id, .bool n.up, .int .i64 n.inc, .int .i64 n.g, .slice bl n.lanes.length bcl, .slice bk n.kept.length bck, .slice bo n.outs.length bco, .int .i64 n.led, .int .i64 n.ver, .slice bv n.views.length bcv, .slice bn n.known.length bcn, .int .i64 n.round, .int .i64 n.low] 31)) (w.heap.size + 1) 0 [.int .i64 n.id, .bool n.up, .int .i64 n.inc, .int .i64 n.g, .slice bl n.lanes.length bcl, .slice bk n.kept.length bck, .slice bo n.outs.length bco, .int .i64 n.led, .int .i64 n.ver, .slice bv n.views.length bcv, .slice bn n.known.length bcn, .int .i64 n.round, .int .i64 n.low] := by
    have e := cellsAt_new (w.alloc (.cells #[.int .i64 n.id, .bool n.up, .int .i64 n.inc, .int .i64 n.g, .slice al n.lanes.length acl, .slice ak n.kept.length ack, .slice ao n.outs.length aco, .int .i64 n.led, .int .i64 n.ver, .slice av n.views.length acv, .slice an n.known.length acn, .int .i64 n.round, .int .i64 n.low] 31)) [.int .i64 n.id, .bool n.up, .int .i64 n.inc, .int .i64 n.g, .slice bl n.lanes.length bcl, .slice bk n.kept.length bck, .slice bo n.outs.length bco, .int .i64 n.led, .int .i64 n.ver, .slice bv n.views.length bcv, .slice bn n.known.length bcn, .int .i64 n.round, .int .i64 n.low] 31
    have hs : (w.alloc (.cells #[.int .i64 n.id, .bool n.up, .int .i64 n.inc, .int .i64 n.g, .slice al n.lanes.length acl, .slice ak n.kept.length ack, .slice ao n.outs.length aco, .int .i64 n.led, .int .i64 n.ver, .slice av n.views.length acv, .slice an n.known.length acn, .int .i64 n.round, .int .i64 n.low] 31)).heap.size = w.heap.size + 1 := by simp
    rw [hs] at e
    exact e
  have HB0 := hide hb0
  have HA := hide cA
  have HC := hide cB
  clear hb0 cA cB
  go_enter Try.func16, Try.ntmps16
  go_upto_region 1 with fail
  generalize ((w.alloc (.cells #[.int .i64 n.id, .bool n.up, .int .i64 n.inc, .int .i64 n.g, .slice al n.lanes.length acl, .slice ak n.kept.length ack, .slice ao n.outs.length aco, .int .i64 n.led, .int .i64 n.ver, .slice av n.views.length acv, .slice an n.known.length acn, .int .i64 n.round, .int .i64 n.low] 31)).alloc (.cells #[.int .i64 n.id, .bool n.up, .int .i64 n.inc, .int .i64 n.g, .slice bl n.lanes.length bcl, .slice bk n.kept.length bck, .slice bo n.outs.length bco, .int .i64 n.led, .int .i64 n.ver, .slice bv n.views.length bcv, .slice bn n.known.length bcn, .int .i64 n.round, .int .i64 n.low] 31)) = X at *
  have k0 : X.cell? ⟨w.heap.size, 0, none⟩ = some (.int .i64 n.id) := (unhide HA) 0 (by simp)
  have k1 : X.cell? ⟨w.heap.size, 1, none⟩ = some (.bool n.up) := (unhide HA) 1 (by simp)
  have k2 : X.cell? ⟨w.heap.size, 2, none⟩ = some (.int .i64 n.inc) := (unhide HA) 2 (by simp)
  have k3 : X.cell? ⟨w.heap.size, 3, none⟩ = some (.int .i64 n.g) := (unhide HA) 3 (by simp)
  have k4 : X.cell? ⟨w.heap.size, 4, none⟩ = some (.slice al n.lanes.length acl) := (unhide HA) 4 (by simp)
  have k5 : X.cell? ⟨w.heap.size, 5, none⟩ = some (.slice ak n.kept.length ack) := (unhide HA) 5 (by simp)
  have k6 : X.cell? ⟨w.heap.size, 6, none⟩ = some (.slice ao n.outs.length aco) := (unhide HA) 6 (by simp)
  have k7 : X.cell? ⟨w.heap.size, 7, none⟩ = some (.int .i64 n.led) := (unhide HA) 7 (by simp)
  have k8 : X.cell? ⟨w.heap.size, 8, none⟩ = some (.int .i64 n.ver) := (unhide HA) 8 (by simp)
  have k9 : X.cell? ⟨w.heap.size, 9, none⟩ = some (.slice av n.views.length acv) := (unhide HA) 9 (by simp)
  have k10 : X.cell? ⟨w.heap.size, 10, none⟩ = some (.slice an n.known.length acn) := (unhide HA) 10 (by simp)
  have k11 : X.cell? ⟨w.heap.size, 11, none⟩ = some (.int .i64 n.round) := (unhide HA) 11 (by simp)
  have k12 : X.cell? ⟨w.heap.size, 12, none⟩ = some (.int .i64 n.low) := (unhide HA) 12 (by simp)
  have l0 : X.cell? ⟨w.heap.size + 1, 0, none⟩ = some (.int .i64 n.id) := (unhide HC) 0 (by simp)
  have l1 : X.cell? ⟨w.heap.size + 1, 1, none⟩ = some (.bool n.up) := (unhide HC) 1 (by simp)
  have l2 : X.cell? ⟨w.heap.size + 1, 2, none⟩ = some (.int .i64 n.inc) := (unhide HC) 2 (by simp)
  have l3 : X.cell? ⟨w.heap.size + 1, 3, none⟩ = some (.int .i64 n.g) := (unhide HC) 3 (by simp)
  have l4 : X.cell? ⟨w.heap.size + 1, 4, none⟩ = some (.slice bl n.lanes.length bcl) := (unhide HC) 4 (by simp)
  have l5 : X.cell? ⟨w.heap.size + 1, 5, none⟩ = some (.slice bk n.kept.length bck) := (unhide HC) 5 (by simp)
  have l6 : X.cell? ⟨w.heap.size + 1, 6, none⟩ = some (.slice bo n.outs.length bco) := (unhide HC) 6 (by simp)
  have l7 : X.cell? ⟨w.heap.size + 1, 7, none⟩ = some (.int .i64 n.led) := (unhide HC) 7 (by simp)
  have l8 : X.cell? ⟨w.heap.size + 1, 8, none⟩ = some (.int .i64 n.ver) := (unhide HC) 8 (by simp)
  have l9 : X.cell? ⟨w.heap.size + 1, 9, none⟩ = some (.slice bv n.views.length bcv) := (unhide HC) 9 (by simp)
  have l10 : X.cell? ⟨w.heap.size + 1, 10, none⟩ = some (.slice bn n.known.length bcn) := (unhide HC) 10 (by simp)
  have l11 : X.cell? ⟨w.heap.size + 1, 11, none⟩ = some (.int .i64 n.round) := (unhide HC) 11 (by simp)
  have l12 : X.cell? ⟨w.heap.size + 1, 12, none⟩ = some (.int .i64 n.low) := (unhide HC) 12 (by simp)
  have hB := unhide HB0
  go_wp2_with fail
  refine (eqLaneS_any _ _ n.lanes _ ((unhide H1).l.on hB) ((unhide H2).l.on hB)).mono ?_
  rintro e w1 ⟨rfl, hb1⟩
  replace k5 := cell_on hb1 k5
  replace l5 := cell_on hb1 l5
  replace k6 := cell_on hb1 k6
  replace l6 := cell_on hb1 l6
  replace k7 := cell_on hb1 k7
  replace l7 := cell_on hb1 l7
  replace k8 := cell_on hb1 k8
  replace l8 := cell_on hb1 l8
  replace k9 := cell_on hb1 k9
  replace l9 := cell_on hb1 l9
  replace k10 := cell_on hb1 k10
  replace l10 := cell_on hb1 l10
  replace k11 := cell_on hb1 k11
  replace l11 := cell_on hb1 l11
  replace k12 := cell_on hb1 k12
  replace l12 := cell_on hb1 l12
  replace hB := below_then hB hb1
  clear hb1
  go_wp2_with fail
  refine (eqEventS_any _ _ (n.kept.map evRow) _ ((unhide H1).k.on hB) ((unhide H2).k.on hB)).mono ?_
  rintro e w2 ⟨rfl, hb2⟩
  replace k6 := cell_on hb2 k6
  replace l6 := cell_on hb2 l6
  replace k7 := cell_on hb2 k7
  replace l7 := cell_on hb2 l7
  replace k8 := cell_on hb2 k8
  replace l8 := cell_on hb2 l8
  replace k9 := cell_on hb2 k9
  replace l9 := cell_on hb2 l9
  replace k10 := cell_on hb2 k10
  replace l10 := cell_on hb2 l10
  replace k11 := cell_on hb2 k11
  replace l11 := cell_on hb2 l11
  replace k12 := cell_on hb2 k12
  replace l12 := cell_on hb2 l12
  replace hB := below_then hB hb2
  clear hb2
  go_wp2_with fail
  refine (eqOutS_any _ _ (n.outs.map outRow) _ ((unhide H1).o.on hB) ((unhide H2).o.on hB)).mono ?_
  rintro e w3 ⟨rfl, hb3⟩
  replace k7 := cell_on hb3 k7
  replace l7 := cell_on hb3 l7
  replace k8 := cell_on hb3 k8
  replace l8 := cell_on hb3 l8
  replace k9 := cell_on hb3 k9
  replace l9 := cell_on hb3 l9
  replace k10 := cell_on hb3 k10
  replace l10 := cell_on hb3 l10
  replace k11 := cell_on hb3 k11
  replace l11 := cell_on hb3 l11
  replace k12 := cell_on hb3 k12
  replace l12 := cell_on hb3 l12
  replace hB := below_then hB hb3
  clear hb3
  go_wp2_with fail
  refine (eqViewS_any _ _ n.views _ ((unhide H1).v.on hB) ((unhide H2).v.on hB)).mono ?_
  rintro e w4 ⟨rfl, hb4⟩
  replace k10 := cell_on hb4 k10
  replace l10 := cell_on hb4 l10
  replace k11 := cell_on hb4 k11
  replace l11 := cell_on hb4 l11
  replace k12 := cell_on hb4 k12
  replace l12 := cell_on hb4 l12
  replace hB := below_then hB hb4
  clear hb4
  go_wp2_with fail
  refine (eqIntS_any _ _ n.known _ ((unhide H1).n.on hB) ((unhide H2).n.on hB)).mono ?_
  rintro e w5 ⟨rfl, hb5⟩
  replace k11 := cell_on hb5 k11
  replace l11 := cell_on hb5 l11
  replace k12 := cell_on hb5 k12
  replace l12 := cell_on hb5 l12
  replace hB := below_then hB hb5
  clear hb5
  go_wp2_with fail
  go_ret
  exact ⟨rfl, hB⟩
end Go.Proofs.Ytgllaimjoneokaa
