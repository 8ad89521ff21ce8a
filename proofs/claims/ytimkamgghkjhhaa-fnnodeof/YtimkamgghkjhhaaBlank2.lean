/- spec.l21Copy of nothing; spec.l22Blank: a node of which only what it keeps is known. -/
import Derived.Test.YtimkamgghkjhhaaNodeSt1
import Derived.Test.YtimkamgghkjhhaaAppE
import Derived.Test.YtimkamgghkjhhaaRk
import Derived.Test.YtimkamgghkjhhaaInv
import Derived.Deep.Cut
import Derived.Deep.CutRange
namespace Go.Proofs.Ytimkamgghkjhhaa
open Go.RowKit
set_option linter.unusedVariables false
set_option linter.unusedSimpArgs false

set_option maxRecDepth 100000 in
set_option maxHeartbeats 2000000 in
theorem l21Copy_00 (p : Int) (s : StV) (ea : Option Addr) (el ec : Nat) (w : World) :
    Calls Try.prog 69 #[laneAgg p s (.slice ea el ec), .int .i64 0, .int .i64 0] w fun e w' => e = .returned (laneAgg p s (.slice none 0 0)) ∧ Below w.heap.size w w' := by
  have hb2 : Below w.heap.size w ((w.alloc (.cells #[.int .i64 p, .int .i64 s.x, .int .i64 s.y, .int .i64 s.c, .slice ea el ec] 37)).alloc (.cells #[.int .i64 0, .int .i64 0, .int .i64 0, .int .i64 0, .slice none 0 0] 37)) := ((Below.refl _ _).alloc (Nat.le_refl _) _).alloc (by simp) _
  have RR : Hid (((w.alloc (.cells #[.int .i64 p, .int .i64 s.x, .int .i64 s.y, .int .i64 s.c, .slice ea el ec] 37)).alloc (.cells #[.int .i64 0, .int .i64 0, .int .i64 0, .int .i64 0, .slice none 0 0] 37)).rowIs (w.heap.size + 1) 37 5 (fun i => [.int .i64 0, .int .i64 0, .int .i64 0, .int .i64 0, .slice none 0 0].getD i undef)) := hide (by
    have e := row_new (w.alloc (.cells #[.int .i64 p, .int .i64 s.x, .int .i64 s.y, .int .i64 s.c, .slice ea el ec] 37)) [.int .i64 0, .int .i64 0, .int .i64 0, .int .i64 0, .slice none 0 0] 37
    rw [show (w.alloc (.cells #[.int .i64 p, .int .i64 s.x, .int .i64 s.y, .int .i64 s.c, .slice ea el ec] 37)).heap.size = w.heap.size + 1 by simp] at e
    exact e)
  have RA : Hid (((w.alloc (.cells #[.int .i64 p, .int .i64 s.x, .int .i64 s.y, .int .i64 s.c, .slice ea el ec] 37)).alloc (.cells #[.int .i64 0, .int .i64 0, .int .i64 0, .int .i64 0, .slice none 0 0] 37)).rowIs w.heap.size 37 5 (fun i => [.int .i64 p, .int .i64 s.x, .int .i64 s.y, .int .i64 s.c, .slice ea el ec].getD i undef)) := hide ((row_new w [.int .i64 p, .int .i64 s.x, .int .i64 s.y, .int .i64 s.c, .slice ea el ec] 37).of_block (((Below.refl (w.alloc (.cells #[.int .i64 p, .int .i64 s.x, .int .i64 s.y, .int .i64 s.c, .slice ea el ec] 37)).heap.size _).alloc (Nat.le_refl _) _).block w.heap.size (by simp)))
  have HB2 := hide hb2
  clear hb2
  go_enter Try.func69, Try.ntmps69
  go_upto_region 1 with fail
  change Hid (World.rowIs ((w.alloc (.cells #[.int .i64 p, .int .i64 s.x, .int .i64 s.y, .int .i64 s.c, .slice ea el ec] 37)).alloc (.cells #[.int .i64 0, .int .i64 0, .int .i64 0, .int .i64 0, .slice none 0 0] 37)) _ _ _ _) at RR
  generalize ((w.alloc (.cells #[.int .i64 p, .int .i64 s.x, .int .i64 s.y, .int .i64 s.c, .slice ea el ec] 37)).alloc (.cells #[.int .i64 0, .int .i64 0, .int .i64 0, .int .i64 0, .slice none 0 0] 37)) = WW at *
  have c0 : WW.cell? ⟨w.heap.size, 0, none⟩ = some (.int .i64 p) := (unhide RA).cell (i := 0) (by simp)
  have c1 : WW.cell? ⟨w.heap.size, 1, none⟩ = some (.int .i64 s.x) := (unhide RA).cell (i := 1) (by simp)
  have c2 : WW.cell? ⟨w.heap.size, 2, none⟩ = some (.int .i64 s.y) := (unhide RA).cell (i := 2) (by simp)
  have c3 : WW.cell? ⟨w.heap.size, 3, none⟩ = some (.int .i64 s.c) := (unhide RA).cell (i := 3) (by simp)
  have c4 : WW.cell? ⟨w.heap.size, 4, none⟩ = some (.slice ea el ec) := (unhide RA).cell (i := 4) (by simp)
  go_upto_region 2 with fail
  have hbA : Below WW.heap.size WW (WW.alloc (.cells #[.int .i64 p, .int .i64 s.x, .int .i64 s.y, .int .i64 s.c, .slice none 0 0] 37)) := (Below.refl _ _).alloc (Nat.le_refl _) _
  have RC : Hid ((WW.alloc (.cells #[.int .i64 p, .int .i64 s.x, .int .i64 s.y, .int .i64 s.c, .slice none 0 0] 37)).rowIs WW.heap.size 37 5 (fun i => [.int .i64 p, .int .i64 s.x, .int .i64 s.y, .int .i64 s.c, .slice none 0 0].getD i undef)) := hide (row_new WW [.int .i64 p, .int .i64 s.x, .int .i64 s.y, .int .i64 s.c, .slice none 0 0] 37)
  have RRA := hide ((unhide RR).of_block (hbA.block (w.heap.size + 1) (unhide RR).lt))
  have HB3 := hide (below_then (unhide HB2) hbA)
  clear hbA c0 c1 c2 c3 c4 RA RR HB2
  have HQ3 : Hid (WW.heap.size < (WW.alloc (.cells #[.int .i64 p, .int .i64 s.x, .int .i64 s.y, .int .i64 s.c, .slice none 0 0] 37)).heap.size) := hide (by simp)
  generalize (WW.alloc (.cells #[.int .i64 p, .int .i64 s.x, .int .i64 s.y, .int .i64 s.c, .slice none 0 0] 37)) = W3 at *
  generalize WW.heap.size = q3 at *
  go_wp2_with fail
  go_loop [8] (fun i => i = .int .i64 0) (fun _ => 0)
  case atStart => rfl
  case round =>
    obtain rfl := hrel
    have d0 : W3.cell? ⟨q3, 0, none⟩ = some (.int .i64 p) := (unhide RC).cell (i := 0) (by simp)
    have d1 : W3.cell? ⟨q3, 1, none⟩ = some (.int .i64 s.x) := (unhide RC).cell (i := 1) (by simp)
    have d2 : W3.cell? ⟨q3, 2, none⟩ = some (.int .i64 s.y) := (unhide RC).cell (i := 2) (by simp)
    have d3 : W3.cell? ⟨q3, 3, none⟩ = some (.int .i64 s.c) := (unhide RC).cell (i := 3) (by simp)
    have d4 : W3.cell? ⟨q3, 4, none⟩ = some (.slice none 0 0) := (unhide RC).cell (i := 4) (by simp)
    have x0 : W3.cell? ⟨w.heap.size + 1, 0, none⟩ = some (.int .i64 0) := (unhide RRA).cell (i := 0) (by simp)
    have z0 : W3.frozen? ⟨w.heap.size + 1, 0, none⟩ = false := (unhide RRA).frozen 0
    have x1 : W3.cell? ⟨w.heap.size + 1, 1, none⟩ = some (.int .i64 0) := (unhide RRA).cell (i := 1) (by simp)
    have z1 : W3.frozen? ⟨w.heap.size + 1, 1, none⟩ = false := (unhide RRA).frozen 1
    have x2 : W3.cell? ⟨w.heap.size + 1, 2, none⟩ = some (.int .i64 0) := (unhide RRA).cell (i := 2) (by simp)
    have z2 : W3.frozen? ⟨w.heap.size + 1, 2, none⟩ = false := (unhide RRA).frozen 2
    have x3 : W3.cell? ⟨w.heap.size + 1, 3, none⟩ = some (.int .i64 0) := (unhide RRA).cell (i := 3) (by simp)
    have z3 : W3.frozen? ⟨w.heap.size + 1, 3, none⟩ = false := (unhide RRA).frozen 3
    have x4 : W3.cell? ⟨w.heap.size + 1, 4, none⟩ = some (.slice none 0 0) := (unhide RRA).cell (i := 4) (by simp)
    have z4 : W3.frozen? ⟨w.heap.size + 1, 4, none⟩ = false := (unhide RRA).frozen 4
    go_wp2_with fail
    show bodyPost _ _ _ _ _ (setVals W3 (w.heap.size + 1) 0 [.int .i64 p, .int .i64 s.x, .int .i64 s.y, .int .i64 s.c, .slice none 0 0])
    have hrow := setVals_row [.int .i64 p, .int .i64 s.x, .int .i64 s.y, .int .i64 s.c, .slice none 0 0] 0 W3 _ (unhide RRA)
    have hbl := setVals_below (b := w.heap.size + 1) [.int .i64 p, .int .i64 s.x, .int .i64 s.y, .int .i64 s.c, .slice none 0 0] 0 W3 (unhide HB3) (by omega)
    clear d0 d1 d2 d3 d4 x0 x1 x2 x3 x4 z0 z1 z2 z3 z4
    generalize setVals W3 (w.heap.size + 1) 0 [.int .i64 p, .int .i64 s.x, .int .i64 s.y, .int .i64 s.c, .slice none 0 0] = W9 at *
    have x0 : W9.cell? ⟨w.heap.size + 1, 0, none⟩ = some (.int .i64 p) := hrow.cell (i := 0) (by simp)
    have x1 : W9.cell? ⟨w.heap.size + 1, 1, none⟩ = some (.int .i64 s.x) := hrow.cell (i := 1) (by simp)
    have x2 : W9.cell? ⟨w.heap.size + 1, 2, none⟩ = some (.int .i64 s.y) := hrow.cell (i := 2) (by simp)
    have x3 : W9.cell? ⟨w.heap.size + 1, 3, none⟩ = some (.int .i64 s.c) := hrow.cell (i := 3) (by simp)
    have x4 : W9.cell? ⟨w.heap.size + 1, 4, none⟩ = some (.slice none 0 0) := hrow.cell (i := 4) (by simp)
    exact bodyPost_ret (v := laneAgg p s (.slice none 0 0)) (by simp [results, Try.results69, go_sem, x0, x1, x2, x3, x4]) rfl ⟨rfl, hbl⟩

theorem slice_OuK : Try.prog.underlying 27 = some (.slice 103) := by kernel_rfl
theorem info_OuK : (Try.prog.info? 103).map (fun i => (i.zero, i.size, i.bytes)) = some (some (.agg #[.int .i64 0, .int .i64 0, .int .i64 0, .int .i64 0, .int .i64 0]), 5, 40) := by kernel_rfl
theorem outs_len (l : List OutV) : ∀ r ∈ l.map outRow, r.length = 5 := fun r hr => by
  obtain ⟨y, _, rfl⟩ := List.mem_map.1 hr; rfl

/-- The lists of a node, all in blocks from N on. -/
def NodeNew (N : Nat) (w : World) (n : NodeV) (vl vk vo vv vn : Value) : Prop := ∀ w2 : World, (∀ b, N ≤ b → b < w.heap.size → w2.heap[b]? = w.heap[b]?) → NodeAt w2 n vl vk vo vv vn
theorem NodeNew.at {N : Nat} {w : World} {n : NodeV} {vl vk vo vv vn : Value} (h : NodeNew N w n vl vk vo vv vn) : NodeAt w n vl vk vo vv vn := h w (fun _ _ _ => rfl)

def blankN (n : NodeV) : NodeV := ⟨n.id, n.up, n.inc, n.g, nilLanes (n.lanes.map fun l => (l.proc, l.s)), n.kept, n.outs, n.led, 0, nilViews 3, [0, 0, 0], 0, 41⟩

/-- What the operations of the first struct have made. -/
def blankF (n : NodeV) : Nat → (Nat → Nat) → (Nat → Nat) → (Nat → Value) → World → Prop
  | 8, lo, hi, u, w => u 8 = .slice (some ⟨lo 8, 0, none⟩) 0 0
  | 11, lo, hi, u, w => RowsBl (lo 11) 7 w (u 11) (n.kept.map evRow) ∧ (n.kept.map evRow = [] ∨ lo 11 < hi 11)
  | 12, lo, hi, u, w => u 12 = .slice (some ⟨lo 12, 0, none⟩) 0 0
  | 15, lo, hi, u, w => RowsBl (lo 15) 5 w (u 15) (n.outs.map outRow) ∧ (n.outs.map outRow = [] ∨ lo 15 < hi 15)
  | 18, lo, hi, u, w => u 18 = .agg #[.int .i64 n.id, .bool n.up, .int .i64 n.inc, .int .i64 n.g, .slice none 0 0, u 11, u 15, .int .i64 n.led, .int .i64 0, .slice none 0 0, .slice none 0 0, .int .i64 0, .int .i64 41]
  | 19, lo, hi, u, w => u 19 = .pointer (some ⟨lo 19, 0, none⟩) ∧ lo 19 < hi 19 ∧ w.rowIs (lo 19) 31 13 (fun i => [.int .i64 0, .bool false, .int .i64 0, .int .i64 0, .slice none 0 0, .slice none 0 0, .slice none 0 0, .int .i64 0, .int .i64 0, .slice none 0 0, .slice none 0 0, .int .i64 0, .int .i64 0].getD i undef)
  | _, _, _, _, _ => True

/-- The struct with what is kept, and nothing else as yet. -/
def Blk (B : Nat) (n : NodeV) (q : Nat) (w0 wx : World) : Prop :=
  ∃ vk vo gk go, wx.rowIs q 31 13 (fun i => ([.int .i64 n.id, .bool n.up, .int .i64 n.inc, .int .i64 n.g, .slice none 0 0, vk, vo, .int .i64 n.led, .int .i64 0, .slice none 0 0, .slice none 0 0, .int .i64 0, .int .i64 41] : List Value).getD i undef) ∧ B ≤ q ∧
    RowsBl gk 7 wx vk (n.kept.map evRow) ∧ RowsBl go 5 wx vo (n.outs.map outRow) ∧ (n.kept.map evRow ≠ [] → B ≤ gk ∧ gk ≠ q) ∧ (n.outs.map outRow ≠ [] → B ≤ go ∧ go ≠ q) ∧ Below B w0 wx

set_option maxRecDepth 100000 in
set_option maxHeartbeats 20000000 in
theorem specBlank_any (n : NodeV) (vl vk vo vv vn : Value) (w : World) (h : NodeAt w n vl vk vo vv vn) (hll : n.lanes.length ≤ 1048576) (hlk : n.kept.length ≤ 1048576) (hlo : n.outs.length ≤ 1048576) :
    Calls Try.prog 39 #[nodeAgg n vl vk vo vv vn] w fun e w' => ∃ ul uk uo uv un, e = .returned (nodeAgg (blankN n) ul uk uo uv un) ∧ NodeNew w.heap.size w' (blankN n) ul uk uo uv un ∧ Below w.heap.size w w' := by
  obtain ⟨i7, hi7, hz70, hz71, hz72⟩ := infoT_parts info_EvK
  obtain ⟨i5, hi5, hz50, hz51, hz52⟩ := infoT_parts info_OuK
  obtain ⟨⟨al, acl, e1⟩, ⟨ak, ack, e2⟩, ⟨ao, aco, e3⟩, ⟨av, acv, e4⟩, ⟨an, acn, e5⟩⟩ := h.sliced
  subst e1 e2 e3 e4 e5
  have hx0 : Below w.heap.size w ((w.alloc (.cells #[.int .i64 n.id, .bool n.up, .int .i64 n.inc, .int .i64 n.g, .slice al n.lanes.length acl, .slice ak n.kept.length ack, .slice ao n.outs.length aco, .int .i64 n.led, .int .i64 n.ver, .slice av n.views.length acv, .slice an n.known.length acn, .int .i64 n.round, .int .i64 n.low] 31)).alloc (.cells #[.int .i64 0, .bool false, .int .i64 0, .int .i64 0, .slice none 0 0, .slice none 0 0, .slice none 0 0, .int .i64 0, .int .i64 0, .slice none 0 0, .slice none 0 0, .int .i64 0, .int .i64 0] 31)) := ((Below.refl _ _).alloc (Nat.le_refl _) _).alloc (by simp) _
  have hs1 : (w.alloc (.cells #[.int .i64 n.id, .bool n.up, .int .i64 n.inc, .int .i64 n.g, .slice al n.lanes.length acl, .slice ak n.kept.length ack, .slice ao n.outs.length aco, .int .i64 n.led, .int .i64 n.ver, .slice av n.views.length acv, .slice an n.known.length acn, .int .i64 n.round, .int .i64 n.low] 31)).heap.size = w.heap.size + 1 := by simp
  have HXS : Hid (((w.alloc (.cells #[.int .i64 n.id, .bool n.up, .int .i64 n.inc, .int .i64 n.g, .slice al n.lanes.length acl, .slice ak n.kept.length ack, .slice ao n.outs.length aco, .int .i64 n.led, .int .i64 n.ver, .slice av n.views.length acv, .slice an n.known.length acn, .int .i64 n.round, .int .i64 n.low] 31)).alloc (.cells #[.int .i64 0, .bool false, .int .i64 0, .int .i64 0, .slice none 0 0, .slice none 0 0, .slice none 0 0, .int .i64 0, .int .i64 0, .slice none 0 0, .slice none 0 0, .int .i64 0, .int .i64 0] 31)).heap.size = w.heap.size + 2) := hide (by simp)
  have RP : Hid (((w.alloc (.cells #[.int .i64 n.id, .bool n.up, .int .i64 n.inc, .int .i64 n.g, .slice al n.lanes.length acl, .slice ak n.kept.length ack, .slice ao n.outs.length aco, .int .i64 n.led, .int .i64 n.ver, .slice av n.views.length acv, .slice an n.known.length acn, .int .i64 n.round, .int .i64 n.low] 31)).alloc (.cells #[.int .i64 0, .bool false, .int .i64 0, .int .i64 0, .slice none 0 0, .slice none 0 0, .slice none 0 0, .int .i64 0, .int .i64 0, .slice none 0 0, .slice none 0 0, .int .i64 0, .int .i64 0] 31)).rowIs w.heap.size 31 13 (fun i => [.int .i64 n.id, .bool n.up, .int .i64 n.inc, .int .i64 n.g, .slice al n.lanes.length acl, .slice ak n.kept.length ack, .slice ao n.outs.length aco, .int .i64 n.led, .int .i64 n.ver, .slice av n.views.length acv, .slice an n.known.length acn, .int .i64 n.round, .int .i64 n.low].getD i undef)) := hide ((row_new w [.int .i64 n.id, .bool n.up, .int .i64 n.inc, .int .i64 n.g, .slice al n.lanes.length acl, .slice ak n.kept.length ack, .slice ao n.outs.length aco, .int .i64 n.led, .int .i64 n.ver, .slice av n.views.length acv, .slice an n.known.length acn, .int .i64 n.round, .int .i64 n.low] 31).of_block (((Below.refl (w.alloc (.cells #[.int .i64 n.id, .bool n.up, .int .i64 n.inc, .int .i64 n.g, .slice al n.lanes.length acl, .slice ak n.kept.length ack, .slice ao n.outs.length aco, .int .i64 n.led, .int .i64 n.ver, .slice av n.views.length acv, .slice an n.known.length acn, .int .i64 n.round, .int .i64 n.low] 31)).heap.size _).alloc (Nat.le_refl _) _).block w.heap.size (by simp)))
  have RR : Hid (((w.alloc (.cells #[.int .i64 n.id, .bool n.up, .int .i64 n.inc, .int .i64 n.g, .slice al n.lanes.length acl, .slice ak n.kept.length ack, .slice ao n.outs.length aco, .int .i64 n.led, .int .i64 n.ver, .slice av n.views.length acv, .slice an n.known.length acn, .int .i64 n.round, .int .i64 n.low] 31)).alloc (.cells #[.int .i64 0, .bool false, .int .i64 0, .int .i64 0, .slice none 0 0, .slice none 0 0, .slice none 0 0, .int .i64 0, .int .i64 0, .slice none 0 0, .slice none 0 0, .int .i64 0, .int .i64 0] 31)).rowIs (w.heap.size + 1) 31 13 (fun i => [.int .i64 0, .bool false, .int .i64 0, .int .i64 0, .slice none 0 0, .slice none 0 0, .slice none 0 0, .int .i64 0, .int .i64 0, .slice none 0 0, .slice none 0 0, .int .i64 0, .int .i64 0].getD i undef)) := hide (by
    have e := row_new (w.alloc (.cells #[.int .i64 n.id, .bool n.up, .int .i64 n.inc, .int .i64 n.g, .slice al n.lanes.length acl, .slice ak n.kept.length ack, .slice ao n.outs.length aco, .int .i64 n.led, .int .i64 n.ver, .slice av n.views.length acv, .slice an n.known.length acn, .int .i64 n.round, .int .i64 n.low] 31)) [.int .i64 0, .bool false, .int .i64 0, .int .i64 0, .slice none 0 0, .slice none 0 0, .slice none 0 0, .int .i64 0, .int .i64 0, .slice none 0 0, .slice none 0 0, .int .i64 0, .int .i64 0] 31
    rw [hs1] at e
    exact e)
  have HL := hide (h.l.on hx0)
  have HK := hide (h.k.on hx0)
  have HO := hide (h.o.on hx0)
  have HX0 := hide hx0
  clear hx0 hs1 h
  go_enter Try.func39, Try.ntmps39
  go_upto_region 1 with fail
  change Hid (World.rowIs ((w.alloc (.cells #[.int .i64 n.id, .bool n.up, .int .i64 n.inc, .int .i64 n.g, .slice al n.lanes.length acl, .slice ak n.kept.length ack, .slice ao n.outs.length aco, .int .i64 n.led, .int .i64 n.ver, .slice av n.views.length acv, .slice an n.known.length acn, .int .i64 n.round, .int .i64 n.low] 31)).alloc (.cells #[.int .i64 0, .bool false, .int .i64 0, .int .i64 0, .slice none 0 0, .slice none 0 0, .slice none 0 0, .int .i64 0, .int .i64 0, .slice none 0 0, .slice none 0 0, .int .i64 0, .int .i64 0] 31)) _ _ _ _) at RR
  generalize ((w.alloc (.cells #[.int .i64 n.id, .bool n.up, .int .i64 n.inc, .int .i64 n.g, .slice al n.lanes.length acl, .slice ak n.kept.length ack, .slice ao n.outs.length aco, .int .i64 n.led, .int .i64 n.ver, .slice av n.views.length acv, .slice an n.known.length acn, .int .i64 n.round, .int .i64 n.low] 31)).alloc (.cells #[.int .i64 0, .bool false, .int .i64 0, .int .i64 0, .slice none 0 0, .slice none 0 0, .slice none 0 0, .int .i64 0, .int .i64 0, .slice none 0 0, .slice none 0 0, .int .i64 0, .int .i64 0] 31)) = XX at *
  obtain ⟨X, hX⟩ : ∃ X, X = XX.drew := ⟨_, rfl⟩
  have HXX := hide hX
  have HDR : Hid (Below XX.heap.size XX X) := hide (by rw [hX]; exact (Below.refl _ _).drew)
  replace HXS : Hid (X.heap.size = w.heap.size + 2) := hide (by rw [hX]; exact unhide HXS)
  clear hX
  replace HX0 := hide (below_then (unhide HX0) (unhide HDR))
  replace RR := hide ((unhide RR).of_block ((unhide HDR).block (w.heap.size + 1) (unhide RR).lt))
  replace RP := hide ((unhide RP).of_block ((unhide HDR).block w.heap.size (unhide RP).lt))
  replace HL := hide ((unhide HL).on (unhide HDR))
  replace HK := hide ((unhide HK).on (unhide HDR))
  replace HO := hide ((unhide HO).on (unhide HDR))
  clear HDR
  go_cut [3] from 6 to 24 (fun t wx => ∃ q, t = .pointer (some ⟨q, 0, none⟩) ∧ Hid (Blk X.heap.size n q X wx))
  case first =>
    refine wp_region_last (L := 20) (S := fun w' : World => w'.cell? ⟨w.heap.size, 0, none⟩ = some (.int .i64 n.id) ∧ w'.cell? ⟨w.heap.size, 1, none⟩ = some (.bool n.up) ∧ w'.cell? ⟨w.heap.size, 2, none⟩ = some (.int .i64 n.inc) ∧ w'.cell? ⟨w.heap.size, 3, none⟩ = some (.int .i64 n.g) ∧ w'.cell? ⟨w.heap.size, 5, none⟩ = some (.slice ak n.kept.length ack) ∧ w'.cell? ⟨w.heap.size, 6, none⟩ = some (.slice ao n.outs.length aco) ∧ w'.cell? ⟨w.heap.size, 7, none⟩ = some (.int .i64 n.led)) (by kernel_rfl) ?_
    rw [← unhide HXX]
    clear HXX
    have hHeld : (fun w' : World => w'.cell? ⟨w.heap.size, 0, none⟩ = some (.int .i64 n.id) ∧ w'.cell? ⟨w.heap.size, 1, none⟩ = some (.bool n.up) ∧ w'.cell? ⟨w.heap.size, 2, none⟩ = some (.int .i64 n.inc) ∧ w'.cell? ⟨w.heap.size, 3, none⟩ = some (.int .i64 n.g) ∧ w'.cell? ⟨w.heap.size, 5, none⟩ = some (.slice ak n.kept.length ack) ∧ w'.cell? ⟨w.heap.size, 6, none⟩ = some (.slice ao n.outs.length aco) ∧ w'.cell? ⟨w.heap.size, 7, none⟩ = some (.int .i64 n.led)) X := ⟨(unhide RP).cell (i := 0) (by omega), (unhide RP).cell (i := 1) (by omega), (unhide RP).cell (i := 2) (by omega), (unhide RP).cell (i := 3) (by omega), (unhide RP).cell (i := 5) (by omega), (unhide RP).cell (i := 6) (by omega), (unhide RP).cell (i := 7) (by omega)⟩
    refine wpAnyL_take (i := 0) (v := ?_) (by kernel_rfl) rfl (by kernel_rfl) (by kernel_rfl) (by kernel_rfl) (fun _ _ _ h => h) hHeld (Or.inl ⟨by kernel_rfl, ?_⟩) ?_
    rotate_left
    · (intro w hSw; (try dsimp only at hSw); obtain ⟨s0, s1, s2, s3, s4, s5, s6⟩ := hSw; go_simp; try with_reducible rfl)
    refine wpAnyL_take (i := 1) (v := ?_) (by kernel_rfl) rfl (by kernel_rfl) (by kernel_rfl) (by kernel_rfl) (fun _ _ _ h => h) hHeld (Or.inl ⟨by kernel_rfl, ?_⟩) ?_
    rotate_left
    · (intro w hSw; (try dsimp only at hSw); obtain ⟨s0, s1, s2, s3, s4, s5, s6⟩ := hSw; go_simp; try with_reducible rfl)
    refine wpAnyL_take (i := 2) (v := ?_) (by kernel_rfl) rfl (by kernel_rfl) (by kernel_rfl) (by kernel_rfl) (fun _ _ _ h => h) hHeld (Or.inl ⟨by kernel_rfl, ?_⟩) ?_
    rotate_left
    · (intro w hSw; (try dsimp only at hSw); obtain ⟨s0, s1, s2, s3, s4, s5, s6⟩ := hSw; go_simp; try with_reducible rfl)
    refine wpAnyL_take (i := 3) (v := ?_) (by kernel_rfl) rfl (by kernel_rfl) (by kernel_rfl) (by kernel_rfl) (fun _ _ _ h => h) hHeld (Or.inl ⟨by kernel_rfl, ?_⟩) ?_
    rotate_left
    · (intro w hSw; (try dsimp only at hSw); obtain ⟨s0, s1, s2, s3, s4, s5, s6⟩ := hSw; go_simp; try with_reducible rfl)
    refine wpAnyL_take (i := 4) (v := ?_) (by kernel_rfl) rfl (by kernel_rfl) (by kernel_rfl) (by kernel_rfl) (fun _ _ _ h => h) hHeld (Or.inl ⟨by kernel_rfl, ?_⟩) ?_
    rotate_left
    · (intro w hSw; (try dsimp only at hSw); obtain ⟨s0, s1, s2, s3, s4, s5, s6⟩ := hSw; go_simp; try with_reducible rfl)
    refine wpAnyL_take (i := 5) (v := ?_) (by kernel_rfl) rfl (by kernel_rfl) (by kernel_rfl) (by kernel_rfl) (fun _ _ _ h => h) hHeld (Or.inl ⟨by kernel_rfl, ?_⟩) ?_
    rotate_left
    · (intro w hSw; (try dsimp only at hSw); obtain ⟨s0, s1, s2, s3, s4, s5, s6⟩ := hSw; go_simp; try with_reducible rfl)
    refine wpAnyL_take (i := 6) (v := ?_) (by kernel_rfl) rfl (by kernel_rfl) (by kernel_rfl) (by kernel_rfl) (fun _ _ _ h => h) hHeld (Or.inl ⟨by kernel_rfl, ?_⟩) ?_
    rotate_left
    · (intro w hSw; (try dsimp only at hSw); obtain ⟨s0, s1, s2, s3, s4, s5, s6⟩ := hSw; go_simp; try with_reducible rfl)
    refine wpAnyL_take (i := 7) (v := ?_) (by kernel_rfl) rfl (by kernel_rfl) (by kernel_rfl) (by kernel_rfl) (fun _ _ _ h => h) hHeld (Or.inl ⟨by kernel_rfl, ?_⟩) ?_
    rotate_left
    · (intro w hSw; (try dsimp only at hSw); obtain ⟨s0, s1, s2, s3, s4, s5, s6⟩ := hSw; go_simp; try with_reducible rfl)
    refine wpAnyL_take (i := 9) (v := ?_) (by kernel_rfl) rfl (by kernel_rfl) (by kernel_rfl) (by kernel_rfl) (fun _ _ _ h => h) hHeld (Or.inl ⟨by kernel_rfl, ?_⟩) ?_
    rotate_left
    · (intro w hSw; (try dsimp only at hSw); obtain ⟨s0, s1, s2, s3, s4, s5, s6⟩ := hSw; go_simp; try with_reducible rfl)
    refine wpAnyL_take (i := 10) (v := ?_) (by kernel_rfl) rfl (by kernel_rfl) (by kernel_rfl) (by kernel_rfl) (fun _ _ _ h => h) hHeld (Or.inl ⟨by kernel_rfl, ?_⟩) ?_
    rotate_left
    · (intro w hSw; (try dsimp only at hSw); obtain ⟨s0, s1, s2, s3, s4, s5, s6⟩ := hSw; go_simp; try with_reducible rfl)
    refine wpAnyL_take (i := 13) (v := ?_) (by kernel_rfl) rfl (by kernel_rfl) (by kernel_rfl) (by kernel_rfl) (fun _ _ _ h => h) hHeld (Or.inl ⟨by kernel_rfl, ?_⟩) ?_
    rotate_left
    · (intro w hSw; (try dsimp only at hSw); obtain ⟨s0, s1, s2, s3, s4, s5, s6⟩ := hSw; go_simp; try with_reducible rfl)
    refine wpAnyL_take (i := 14) (v := ?_) (by kernel_rfl) rfl (by kernel_rfl) (by kernel_rfl) (by kernel_rfl) (fun _ _ _ h => h) hHeld (Or.inl ⟨by kernel_rfl, ?_⟩) ?_
    rotate_left
    · (intro w hSw; (try dsimp only at hSw); obtain ⟨s0, s1, s2, s3, s4, s5, s6⟩ := hSw; go_simp; try with_reducible rfl)
    refine wpAnyL_take (i := 16) (v := ?_) (by kernel_rfl) rfl (by kernel_rfl) (by kernel_rfl) (by kernel_rfl) (fun _ _ _ h => h) hHeld (Or.inl ⟨by kernel_rfl, ?_⟩) ?_
    rotate_left
    · (intro w hSw; (try dsimp only at hSw); obtain ⟨s0, s1, s2, s3, s4, s5, s6⟩ := hSw; go_simp; try with_reducible rfl)
    refine wpAnyL_take (i := 17) (v := ?_) (by kernel_rfl) rfl (by kernel_rfl) (by kernel_rfl) (by kernel_rfl) (fun _ _ _ h => h) hHeld (Or.inl ⟨by kernel_rfl, ?_⟩) ?_
    rotate_left
    · (intro w hSw; (try dsimp only at hSw); obtain ⟨s0, s1, s2, s3, s4, s5, s6⟩ := hSw; go_simp; try with_reducible rfl)
    refine wpAnyL_inv (m := 1) [(8, 14), (11, 17), (12, 18), (15, 21), (18, 24), (19, 3)] (Below X.heap.size X) (fun w w' => Below w.heap.size w w') (blankF n) (by kernel_rfl) (fun _ _ h => h.size) ?cong ?st ?step ?fin (Below.refl _ _) hHeld
    case cong =>
      intro p hp lo hi u lo' hi' u' w hq hF
      simp only [List.mem_cons, List.not_mem_nil, or_false] at hp
      rcases hp with rfl | rfl | rfl | rfl | rfl | rfl
      · obtain ⟨e1, e2, e3⟩ := hq 8 (Or.inl rfl)
        simpa only [blankF, e1, e2, e3] using hF
      · obtain ⟨e1, e2, e3⟩ := hq 11 (Or.inl rfl)
        simpa only [blankF, e1, e2, e3] using hF
      · obtain ⟨e1, e2, e3⟩ := hq 12 (Or.inl rfl)
        simpa only [blankF, e1, e2, e3] using hF
      · obtain ⟨e1, e2, e3⟩ := hq 15 (Or.inl rfl)
        simpa only [blankF, e1, e2, e3] using hF
      · obtain ⟨_, _, e1⟩ := hq 18 (Or.inl rfl)
        obtain ⟨_, _, e2⟩ := hq 11 (Or.inr (by kernel_rfl))
        obtain ⟨_, _, e3⟩ := hq 15 (Or.inr (by kernel_rfl))
        simpa only [blankF, e1, e2, e3] using hF
      · obtain ⟨e1, e2, e3⟩ := hq 19 (Or.inl rfl)
        simpa only [blankF, e1, e2, e3] using hF
    case st =>
      intro p hp lo hi u w w' hR hhi hF
      simp only [List.mem_cons, List.not_mem_nil, or_false] at hp
      rcases hp with rfl | rfl | rfl | rfl | rfl | rfl
      · exact hF
      · exact ⟨hF.1.on hR, hF.2⟩
      · exact hF
      · exact ⟨hF.1.on hR, hF.2⟩
      · exact hF
      · exact ⟨hF.1, hF.2.1, hF.2.2.of_block (hR.block _ hF.2.2.lt)⟩
    case step =>
      intro p hp lo hi u w1 hG hS hsz hdep
      simp only [List.mem_cons, List.not_mem_nil, or_false] at hp
      have RPw := (unhide RP).of_block (hG.block w.heap.size (unhide RP).lt)
      rcases hp with rfl | rfl | rfl | rfl | rfl | rfl
      · refine wpOp_step rfl (fun K hK => ?_)
        simp only [setsA, setsT]
        go_simp
        have hb : Below w1.heap.size w1 (w1.alloc (.cells #[] 65)) := (Below.refl _ _).alloc (Nat.le_refl _) _
        have hG2 := below_then hG hb
        have RPv := (unhide RP).of_block (hG2.block w.heap.size (unhide RP).lt)
        refine hK _ _ ⟨.slice (some ⟨w1.heap.size, 0, none⟩) 0 0, by simp [setsA, setsT, Act.put], hG2, ⟨RPv.cell (i := 0) (by omega), RPv.cell (i := 1) (by omega), RPv.cell (i := 2) (by omega), RPv.cell (i := 3) (by omega), RPv.cell (i := 5) (by omega), RPv.cell (i := 6) (by omega), RPv.cell (i := 7) (by omega)⟩, hb, ?_⟩
        simp [blankF, upd, updN]
      · have f1 : u 8 = .slice (some ⟨lo 8, 0, none⟩) 0 0 := (hdep (8, 14) (by simp) (by kernel_rfl)).1
        refine wpOp_step rfl (fun K hK => ?_)
        refine step_append_empty w1 (by rfl) (.tmp 14) (.tmp 16) 26 (by rfl) 65 i7 _ 7 56 slice_EvK hi7 hz70 hz71 hz72 (by omega) (some ⟨lo 8, 0, none⟩) ((setsA_in (i := 8) (by decide) (by simp) (Nat.le_of_ble_eq_true (by kernel_rfl))).trans f1) (n.kept.map evRow) (.slice ak n.kept.length ack) ((setsA_out (by kernel_rfl)).trans (by kernel_rfl)) ((unhide HK).on hG) (evs_len _) (by rw [List.length_map]; omega) ?_
        intro v w2 hv hb hne
        have hG2 := below_then hG hb
        have RPv := (unhide RP).of_block (hG2.block w.heap.size (unhide RP).lt)
        refine hK _ _ ⟨v, rfl, hG2, ⟨RPv.cell (i := 0) (by omega), RPv.cell (i := 1) (by omega), RPv.cell (i := 2) (by omega), RPv.cell (i := 3) (by omega), RPv.cell (i := 5) (by omega), RPv.cell (i := 6) (by omega), RPv.cell (i := 7) (by omega)⟩, hb, ?_⟩
        refine ⟨by simpa [upd, updN] using hv, ?_⟩
        simpa [updN] using hne
      · refine wpOp_step rfl (fun K hK => ?_)
        simp only [setsA, setsT]
        go_simp
        have hb : Below w1.heap.size w1 (w1.alloc (.cells #[] 103)) := (Below.refl _ _).alloc (Nat.le_refl _) _
        have hG2 := below_then hG hb
        have RPv := (unhide RP).of_block (hG2.block w.heap.size (unhide RP).lt)
        refine hK _ _ ⟨.slice (some ⟨w1.heap.size, 0, none⟩) 0 0, by simp [setsA, setsT, Act.put], hG2, ⟨RPv.cell (i := 0) (by omega), RPv.cell (i := 1) (by omega), RPv.cell (i := 2) (by omega), RPv.cell (i := 3) (by omega), RPv.cell (i := 5) (by omega), RPv.cell (i := 6) (by omega), RPv.cell (i := 7) (by omega)⟩, hb, ?_⟩
        simp [blankF, upd, updN]
      · have f1 : u 12 = .slice (some ⟨lo 12, 0, none⟩) 0 0 := (hdep (12, 18) (by simp) (by kernel_rfl)).1
        refine wpOp_step rfl (fun K hK => ?_)
        refine step_append_empty w1 (by rfl) (.tmp 18) (.tmp 20) 27 (by rfl) 103 i5 _ 5 40 slice_OuK hi5 hz50 hz51 hz52 (by omega) (some ⟨lo 12, 0, none⟩) ((setsA_in (i := 12) (by decide) (by simp) (Nat.le_of_ble_eq_true (by kernel_rfl))).trans f1) (n.outs.map outRow) (.slice ao n.outs.length aco) ((setsA_out (by kernel_rfl)).trans (by kernel_rfl)) ((unhide HO).on hG) (outs_len _) (by rw [List.length_map]; omega) ?_
        intro v w2 hv hb hne
        have hG2 := below_then hG hb
        have RPv := (unhide RP).of_block (hG2.block w.heap.size (unhide RP).lt)
        refine hK _ _ ⟨v, rfl, hG2, ⟨RPv.cell (i := 0) (by omega), RPv.cell (i := 1) (by omega), RPv.cell (i := 2) (by omega), RPv.cell (i := 3) (by omega), RPv.cell (i := 5) (by omega), RPv.cell (i := 6) (by omega), RPv.cell (i := 7) (by omega)⟩, hb, ?_⟩
        refine ⟨by simpa [upd, updN] using hv, ?_⟩
        simpa [updN] using hne
      · have f1 := (hdep (11, 17) (by simp) (by kernel_rfl)).1
        have f2 := (hdep (15, 21) (by simp) (by kernel_rfl)).1
        obtain ⟨a1, c1, e1⟩ := rowsLn f1.1.1
        obtain ⟨a2, c2, e2⟩ := rowsLn f2.1.1
        clear f1 f2
        refine wpOp_step rfl (fun K hK => ?_)
        simp only [setsA, setsT]
        go_simp
        refine hK _ _ ⟨.agg #[.int .i64 n.id, .bool n.up, .int .i64 n.inc, .int .i64 n.g, .slice none 0 0, .slice a1 n.kept.length c1, .slice a2 n.outs.length c2, .int .i64 n.led, .int .i64 0, .slice none 0 0, .slice none 0 0, .int .i64 0, .int .i64 41], by simp [setsA, setsT, Act.put, e1, e2], hG, hS, Below.refl _ _, ?_⟩
        simp [blankF, upd, updN, e1, e2]
      · refine wpOp_step rfl (fun K hK => ?_)
        simp only [setsA, setsT]
        go_simp
        have hb : Below w1.heap.size w1 (w1.alloc (.cells #[.int .i64 0, .bool false, .int .i64 0, .int .i64 0, .slice none 0 0, .slice none 0 0, .slice none 0 0, .int .i64 0, .int .i64 0, .slice none 0 0, .slice none 0 0, .int .i64 0, .int .i64 0] 31)) := (Below.refl _ _).alloc (Nat.le_refl _) _
        have hG2 := below_then hG hb
        have RPv := (unhide RP).of_block (hG2.block w.heap.size (unhide RP).lt)
        refine hK _ _ ⟨.pointer (some ⟨w1.heap.size, 0, none⟩), by simp [setsA, setsT, Act.put], hG2, ⟨RPv.cell (i := 0) (by omega), RPv.cell (i := 1) (by omega), RPv.cell (i := 2) (by omega), RPv.cell (i := 3) (by omega), RPv.cell (i := 5) (by omega), RPv.cell (i := 6) (by omega), RPv.cell (i := 7) (by omega)⟩, hb, ?_⟩
        refine ⟨by simp [upd, updN], by simp [updN], ?_⟩
        simpa [updN] using row_new w1 [.int .i64 0, .bool false, .int .i64 0, .int .i64 0, .slice none 0 0, .slice none 0 0, .slice none 0 0, .int .i64 0, .int .i64 0, .slice none 0 0, .slice none 0 0, .int .i64 0, .int .i64 0] 31
    case fin =>
      intro lo hi u w1 hG hS hD
      have f2 := hD.f (11, 17) (by simp)
      have f3 := hD.f (15, 21) (by simp)
      have f5 := hD.f (18, 24) (by simp)
      obtain ⟨f6, f7, f8⟩ := hD.f (19, 3) (by simp)
      obtain ⟨a2, c2, e2⟩ := rowsLn f2.1.1
      obtain ⟨a3, c3, e3⟩ := rowsLn f3.1.1
      simp only [blankF, e2, e3] at f2 f3 f5
      have lB := hD.apart (19, 3) (by simp) (11, 17) (by simp) (by simp)
      have lC := hD.apart (19, 3) (by simp) (15, 21) (by simp) (by simp)
      have lE := hD.ge (19, 3) (by simp)
      have lF := hD.ge (11, 17) (by simp)
      have lG := hD.ge (15, 21) (by simp)
      simp only at lB lC lE lF lG
      generalize lo 19 = q at *
      have y0 : w1.cell? ⟨q, 0, none⟩ = some (.int .i64 0) := f8.cell (i := 0) (by omega)
      have z0 : w1.frozen? ⟨q, 0, none⟩ = false := f8.frozen 0
      have y1 : w1.cell? ⟨q, 1, none⟩ = some (.bool false) := f8.cell (i := 1) (by omega)
      have z1 : w1.frozen? ⟨q, 1, none⟩ = false := f8.frozen 1
      have y2 : w1.cell? ⟨q, 2, none⟩ = some (.int .i64 0) := f8.cell (i := 2) (by omega)
      have z2 : w1.frozen? ⟨q, 2, none⟩ = false := f8.frozen 2
      have y3 : w1.cell? ⟨q, 3, none⟩ = some (.int .i64 0) := f8.cell (i := 3) (by omega)
      have z3 : w1.frozen? ⟨q, 3, none⟩ = false := f8.frozen 3
      have y4 : w1.cell? ⟨q, 4, none⟩ = some (.slice none 0 0) := f8.cell (i := 4) (by omega)
      have z4 : w1.frozen? ⟨q, 4, none⟩ = false := f8.frozen 4
      have y5 : w1.cell? ⟨q, 5, none⟩ = some (.slice none 0 0) := f8.cell (i := 5) (by omega)
      have z5 : w1.frozen? ⟨q, 5, none⟩ = false := f8.frozen 5
      have y6 : w1.cell? ⟨q, 6, none⟩ = some (.slice none 0 0) := f8.cell (i := 6) (by omega)
      have z6 : w1.frozen? ⟨q, 6, none⟩ = false := f8.frozen 6
      have y7 : w1.cell? ⟨q, 7, none⟩ = some (.int .i64 0) := f8.cell (i := 7) (by omega)
      have z7 : w1.frozen? ⟨q, 7, none⟩ = false := f8.frozen 7
      have y8 : w1.cell? ⟨q, 8, none⟩ = some (.int .i64 0) := f8.cell (i := 8) (by omega)
      have z8 : w1.frozen? ⟨q, 8, none⟩ = false := f8.frozen 8
      have y9 : w1.cell? ⟨q, 9, none⟩ = some (.slice none 0 0) := f8.cell (i := 9) (by omega)
      have z9 : w1.frozen? ⟨q, 9, none⟩ = false := f8.frozen 9
      have y10 : w1.cell? ⟨q, 10, none⟩ = some (.slice none 0 0) := f8.cell (i := 10) (by omega)
      have z10 : w1.frozen? ⟨q, 10, none⟩ = false := f8.frozen 10
      have y11 : w1.cell? ⟨q, 11, none⟩ = some (.int .i64 0) := f8.cell (i := 11) (by omega)
      have z11 : w1.frozen? ⟨q, 11, none⟩ = false := f8.frozen 11
      have y12 : w1.cell? ⟨q, 12, none⟩ = some (.int .i64 0) := f8.cell (i := 12) (by omega)
      have z12 : w1.frozen? ⟨q, 12, none⟩ = false := f8.frozen 12
      have hoth := fun b (hb : b ≠ q) => setVals_other (b := q) [.int .i64 n.id, .bool n.up, .int .i64 n.inc, .int .i64 n.g, .slice none 0 0, .slice a2 n.kept.length c2, .slice a3 n.outs.length c3, .int .i64 n.led, .int .i64 0, .slice none 0 0, .slice none 0 0, .int .i64 0, .int .i64 41] 0 w1 b hb
      have HM : Hid (Blk X.heap.size n q X (setVals w1 q 0 [.int .i64 n.id, .bool n.up, .int .i64 n.inc, .int .i64 n.g, .slice none 0 0, .slice a2 n.kept.length c2, .slice a3 n.outs.length c3, .int .i64 n.led, .int .i64 0, .slice none 0 0, .slice none 0 0, .int .i64 0, .int .i64 41])) := hide ⟨_, _, lo 11, lo 15, (setVals_row [.int .i64 n.id, .bool n.up, .int .i64 n.inc, .int .i64 n.g, .slice none 0 0, .slice a2 n.kept.length c2, .slice a3 n.outs.length c3, .int .i64 n.led, .int .i64 0, .slice none 0 0, .slice none 0 0, .int .i64 0, .int .i64 41] 0 w1 _ f8).congr (fun i hi => by
        rw [if_pos ⟨Nat.zero_le _, by simpa using hi⟩]; rfl), lE, f2.1.keep (fun h0 => hoth _ (by
          rcases f2.2 with h1 | h1
          · exact absurd h1 h0
          · omega)), f3.1.keep (fun h0 => hoth _ (by
          rcases f3.2 with h1 | h1
          · exact absurd h1 h0
          · omega)), (fun h0 => by
          rcases f2.2 with h1 | h1
          · exact absurd h1 h0
          · exact ⟨lF, by omega⟩), (fun h0 => by
          rcases f3.2 with h1 | h1
          · exact absurd h1 h0
          · exact ⟨lG, by omega⟩), setVals_below [.int .i64 n.id, .bool n.up, .int .i64 n.inc, .int .i64 n.g, .slice none 0 0, .slice a2 n.kept.length c2, .slice a3 n.outs.length c3, .int .i64 n.led, .int .i64 0, .slice none 0 0, .slice none 0 0, .int .i64 0, .int .i64 41] 0 w1 hG lE⟩
      clear f2 f3 f7 f8 lB lC lE lF lG hD hG hS hoth
      simp only [setsA, setsT, f5, f6]
      refine wpAnyL_end (by kernel_rfl) rfl (fun K hK => ?_)
      go_simp
      refine hK.out _ _ ?_
      clear hK K
      refine wpAnyL_done (by kernel_rfl) ?_ _
      clear y0 z0 y1 z1 y2 z2 y3 z3 y4 z4 y5 z5 y6 z6 y7 z7 y8 z8 y9 z9 y10 z10 y11 z11 y12 z12
      go_step
      go_step
      go_meet
      case rel => exact ⟨_, rfl, HM⟩
  case rest =>
    obtain ⟨q, rfl, HM⟩ := hcut
    obtain ⟨vk2, vo2, gk, go, hrow, hBq, hk2, ho2, hgk, hgo, hb⟩ := unhide HM
    obtain ⟨ka2, kc2, e1⟩ := rowsLn hk2.1
    obtain ⟨oa2, oc2, e2⟩ := rowsLn ho2.1
    subst e1 e2
    obtain ⟨iL, hiL, hzL0, hzL1, hzL2⟩ := infoT_parts info_cpLane
    have hxs := unhide HXS
    have hqlt : q < wc.heap.size := hrow.lt
    have HA4 : Hid (wc.cell? ⟨w.heap.size, 4, none⟩ = some (.slice al n.lanes.length acl)) := hide (((unhide RP).of_block (hb.block w.heap.size (by omega))).cell (i := 4) (by omega))
    have HRRc := hide ((unhide RR).of_block (hb.block (w.heap.size + 1) (by omega)))
    have HLc := hide ((unhide HL).on hb)
    have HKB := hide hk2
    have HOB := hide ho2
    have HGK := hide hgk
    have HGO := hide hgo
    obtain ⟨f0, hf0⟩ : ∃ f0 : Nat → Value, f0 = (fun i => ([.int .i64 n.id, .bool n.up, .int .i64 n.inc, .int .i64 n.g, .slice none 0 0, .slice ka2 n.kept.length kc2, .slice oa2 n.outs.length oc2, .int .i64 n.led, .int .i64 0, .slice none 0 0, .slice none 0 0, .int .i64 0, .int .i64 41] : List Value).getD i undef) := ⟨_, rfl⟩
    have HF0 := hide hf0
    have hrow0 : wc.rowIs q 31 13 (setF f0 4 (.slice none 0 0)) := hrow.congr (fun i hi => by
      rw [hf0]
      by_cases e : i = 4
      · subst e; rfl
      · simp [setF, e])
    have HRK : Hid (RowKeep wc.heap.size X.heap.size q 31 13 (setF f0 4 (.slice none 0 0)) X wc wc) := hide ⟨hrow0, fun _ _ _ => rfl, Nat.le_refl _, hb⟩
    have HBX : Hid (X.heap.size ≤ wc.heap.size) := hide hb.size
    obtain ⟨xs, hxe⟩ : ∃ xs, xs = n.lanes.map fun l => (l.proc, l.s) := ⟨_, rfl⟩
    have hxl : xs.length = n.lanes.length := by rw [hxe, List.length_map]
    have HXE := hide hxe
    have HXL := hide hxl
    have HLL := hide hll
    clear hf0 hrow0 hrow hk2 ho2 hgk hgo hb HM RP RR HK HO HXX HXS hxe hxl hll hlk hlo
    go_wp2_with fail
    go_loopw [4] (fun i wr => ∃ (k : Nat) (va : Option Addr) (vc : Nat), k ≤ n.lanes.length ∧ i = .int .i64 k ∧ Hid (RowKeep wc.heap.size X.heap.size q 31 13 (setF f0 4 (.slice va k vc)) X wc wr) ∧ Hid (wr.ownsRow wc.heap.size 37 5 (.slice va k vc) k (laneFlat (xs.take k)))) (fun i _ => n.lanes.length - (intOf i).toNat)
    case atStart => exact ⟨0, none, 0, Nat.zero_le _, rfl, HRK, hide (World.ownsRow_nil _ _ _ _)⟩
    case round =>
      obtain ⟨k, va, vc, hk, rfl, HV, HOW⟩ := hrel
      have hv := unhide HV
      have hvs := hv.size
      have hbx := unhide HBX
      have hll := unhide HLL
      by_cases hlt : k < n.lanes.length
      · have hkI : (k : Int) < (n.lanes.length : Int) := by omega
        have c4 : wr.cell? ⟨q, 4, none⟩ = some (.slice va k vc) := by
          have e := hv.row.cell (i := 4) (by omega)
          simpa [setF] using e
        have f4 : wr.frozen? ⟨q, 4, none⟩ = false := hv.row.frozen 4
        have a4 : wr.cell? ⟨w.heap.size, 4, none⟩ = some (.slice al n.lanes.length acl) := (World.cell?_of_block (a := ⟨w.heap.size, 4, none⟩) (hv.keep w.heap.size (by omega) (by omega))).trans (unhide HA4)
        have hltx : k < xs.length := by rw [unhide HXL]; exact hlt
        obtain ⟨b, off, ea, el, ec, had, hbX, hcc⟩ : ∃ b off ea el ec, al = some ⟨b, off, none⟩ ∧ b < X.heap.size ∧ CellsAt wr b (off + k * 5) (laneCells xs[k].1 xs[k].2 (.slice ea el ec)) := by
          obtain ⟨ad, cap, hsl, _, _, hc⟩ := unhide HLc
          simp only [Value.slice.injEq] at hsl
          rcases hc with h | ⟨b, off, h1, h2⟩
          · rw [h] at hlt; exact absurd hlt (Nat.not_lt_zero _)
          · obtain ⟨vd, h3, h4⟩ := h2 k hlt
            obtain ⟨ea, ec, hvd, _⟩ := h4
            have exk : xs[k] = (n.lanes[k].proc, n.lanes[k].s) := by
              have := unhide HXE
              subst this
              simp
            rw [hvd] at h3
            obtain ⟨ad2, cap2, hsl2, _, _, hc2⟩ := unhide HL
            simp only [Value.slice.injEq] at hsl2
            have hb3 : b < X.heap.size := by
              rcases hc2 with h | ⟨b', off', h1', h2'⟩
              · rw [h] at hlt; exact absurd hlt (Nat.not_lt_zero _)
              · obtain ⟨vd', h3', _⟩ := h2' k hlt
                have e5 : ad = ad2 := hsl.1.symm.trans hsl2.1
                rw [h1, h1'] at e5
                simp only [Option.some.injEq, Addr.mk.injEq] at e5
                have := World.block_lt_of_cell? _ _ (h3' 0 (by simp))
                have h9 : b' < X.heap.size := this
                omega
            refine ⟨b, off, ea, n.lanes[k].ps.length, ec, hsl.1.trans h1, hb3, fun j hj => ?_⟩
            rw [exk]
            exact (World.cell?_of_block (a := ⟨b, off + k * 5 + j, none⟩) (hv.keep b (by omega) (by omega))).trans (h3 j hj)
        subst had
        obtain ⟨x, hxk⟩ : ∃ x, x = xs[k] := ⟨_, rfl⟩
        rw [← hxk] at hcc
        have HXK := hide hxk
        have l0 : wr.cell? ⟨b, off + k * 5, none⟩ = some (.int .i64 x.1) := hcc 0 (by simp)
        have l1 : wr.cell? ⟨b, off + k * 5 + 1, none⟩ = some (.int .i64 x.2.x) := hcc 1 (by simp)
        have l2 : wr.cell? ⟨b, off + k * 5 + 2, none⟩ = some (.int .i64 x.2.y) := hcc 2 (by simp)
        have l3 : wr.cell? ⟨b, off + k * 5 + 3, none⟩ = some (.int .i64 x.2.c) := hcc 3 (by simp)
        have l4 : wr.cell? ⟨b, off + k * 5 + 4, none⟩ = some (.slice ea el ec) := hcc 4 (by simp)
        have HOWN := hide (unhide HOW)
        clear hcc hxk hv
        go_wp2_with fail
        refine wp_region_last (L := 11) (S := fun w' : World => w'.cell? ⟨q, 4, none⟩ = some (.slice va k vc) ∧ w'.cell? ⟨w.heap.size, 4, none⟩ = some (.slice (some ⟨b, off, none⟩) n.lanes.length acl) ∧ w'.cell? ⟨b, off + k * 5, none⟩ = some (.int .i64 x.1) ∧ w'.cell? ⟨b, off + k * 5 + 1, none⟩ = some (.int .i64 x.2.x) ∧ w'.cell? ⟨b, off + k * 5 + 2, none⟩ = some (.int .i64 x.2.y) ∧ w'.cell? ⟨b, off + k * 5 + 3, none⟩ = some (.int .i64 x.2.c) ∧ w'.cell? ⟨b, off + k * 5 + 4, none⟩ = some (.slice ea el ec)) (by kernel_rfl) ?_
        have hHeld : (fun w' : World => w'.cell? ⟨q, 4, none⟩ = some (.slice va k vc) ∧ w'.cell? ⟨w.heap.size, 4, none⟩ = some (.slice (some ⟨b, off, none⟩) n.lanes.length acl) ∧ w'.cell? ⟨b, off + k * 5, none⟩ = some (.int .i64 x.1) ∧ w'.cell? ⟨b, off + k * 5 + 1, none⟩ = some (.int .i64 x.2.x) ∧ w'.cell? ⟨b, off + k * 5 + 2, none⟩ = some (.int .i64 x.2.y) ∧ w'.cell? ⟨b, off + k * 5 + 3, none⟩ = some (.int .i64 x.2.c) ∧ w'.cell? ⟨b, off + k * 5 + 4, none⟩ = some (.slice ea el ec)) wr.drew := ⟨c4, a4, l0, l1, l2, l3, l4⟩
        refine wpAnyL_take (i := 0) (v := ?_) (by kernel_rfl) rfl (by kernel_rfl) (by kernel_rfl) (by kernel_rfl) (fun _ _ _ h => h) hHeld (Or.inl ⟨by kernel_rfl, ?_⟩) ?_
        rotate_left
        · (intro w hSw; (try dsimp only at hSw); obtain ⟨s0, s1, s2, s3, s4, s5, s6⟩ := hSw; go_simp; try with_reducible rfl)
        refine wpAnyL_take (i := 1) (v := ?_) (by kernel_rfl) rfl (by kernel_rfl) (by kernel_rfl) (by kernel_rfl) (fun _ _ _ h => h) hHeld (Or.inl ⟨by kernel_rfl, ?_⟩) ?_
        rotate_left
        · (intro w hSw; (try dsimp only at hSw); obtain ⟨s0, s1, s2, s3, s4, s5, s6⟩ := hSw; go_simp; try with_reducible rfl)
        refine wpAnyL_take (i := 2) (v := ?_) (by kernel_rfl) rfl (by kernel_rfl) (by kernel_rfl) (by kernel_rfl) (fun _ _ _ h => h) hHeld (Or.inl ⟨by kernel_rfl, ?_⟩) ?_
        rotate_left
        · (intro w hSw; (try dsimp only at hSw); obtain ⟨s0, s1, s2, s3, s4, s5, s6⟩ := hSw; go_simp; try with_reducible rfl)
        refine wpAnyL_take (i := 3) (v := ?_) (by kernel_rfl) rfl (by kernel_rfl) (by kernel_rfl) (by kernel_rfl) (fun _ _ _ h => h) hHeld (Or.inl ⟨by kernel_rfl, ?_⟩) ?_
        rotate_left
        · (intro w hSw; (try dsimp only at hSw); obtain ⟨s0, s1, s2, s3, s4, s5, s6⟩ := hSw; go_simp; try with_reducible rfl)
        refine wpAnyL_take (i := 4) (v := ?_) (by kernel_rfl) rfl (by kernel_rfl) (by kernel_rfl) (by kernel_rfl) (fun _ _ _ h => h) hHeld (Or.inl ⟨by kernel_rfl, ?_⟩) ?_
        rotate_left
        · (intro w hSw; (try dsimp only at hSw); obtain ⟨s0, s1, s2, s3, s4, s5, s6⟩ := hSw; go_simp; try with_reducible rfl)
        refine wpAnyL_take (i := 5) (v := ?_) (by kernel_rfl) rfl (by kernel_rfl) (by kernel_rfl) (by kernel_rfl) (fun _ _ _ h => h) hHeld (Or.inl ⟨by kernel_rfl, ?_⟩) ?_
        rotate_left
        · (intro w hSw; (try dsimp only at hSw); obtain ⟨s0, s1, s2, s3, s4, s5, s6⟩ := hSw; go_simp; try with_reducible rfl)
        refine wpAnyL_take (i := 6) (v := ?_) (by kernel_rfl) rfl (by kernel_rfl) (by kernel_rfl) (by kernel_rfl) (fun _ _ _ h => h) hHeld (Or.inl ⟨by kernel_rfl, ?_⟩) ?_
        rotate_left
        · (intro w hSw; (try dsimp only at hSw); obtain ⟨s0, s1, s2, s3, s4, s5, s6⟩ := hSw; go_simp; try with_reducible rfl)
        refine wpAnyL_one (i := 7) (by kernel_rfl) rfl (fun K hK => ?_)
        go_simp
        refine (l21Copy_00 x.1 x.2 ea el ec _).mono ?_
        rintro e w6 ⟨rfl, hb6⟩
        go_wp2_with fail
        have hb56 : Below wr.heap.size wr w6 := below_then (Below.refl _ _).drew hb6
        refine held_on hK ?_ (fun hHeld => ?_)
        · exact ⟨cell_on hb56 c4, cell_on hb56 a4, cell_on hb56 l0, cell_on hb56 l1, cell_on hb56 l2, cell_on hb56 l3, cell_on hb56 l4⟩
        clear hK K
        refine wpAnyL_one (i := 8) (by kernel_rfl) rfl (fun K hK => ?_)
        go_simp
        have hbA : Below wr.heap.size wr (w6.alloc (.cells #[.int .i64 x.1, .int .i64 x.2.x, .int .i64 x.2.y, .int .i64 x.2.c, .slice none 0 0] 37)) := below_then hb56 ((Below.refl _ _).alloc (Nat.le_refl _) _)
        refine held_on hK ?_ (fun hHeld => ?_)
        · exact ⟨cell_on hbA c4, cell_on hbA a4, cell_on hbA l0, cell_on hbA l1, cell_on hbA l2, cell_on hbA l3, cell_on hbA l4⟩
        clear hK K
        have hownA := ownsOn hbA (unhide HOWN)
        have hs6 : wr.heap.size ≤ w6.heap.size := hb56.size
        refine wpAnyL_one (i := 9) (by kernel_rfl) rfl (fun K hK => ?_)
        refine step_append_lies _ (by rfl) _ _ _ (by rfl) wc.heap.size 37 iL _ 5 56 slice_cpLane hiL hzL0 hzL1 hzL2 (by rfl) (by omega) (.slice va k vc) k (laneFlat (xs.take k)) (by rfl) hownA ⟨w6.heap.size, 0, none⟩ 1 1 [.int .i64 x.1, .int .i64 x.2.x, .int .i64 x.2.y, .int .i64 x.2.c, .slice none 0 0] (by rfl) (by rfl) (World.news_of_block (cs := #[.int .i64 x.1, .int .i64 x.2.x, .int .i64 x.2.y, .int .i64 x.2.c, .slice none 0 0]) (t := 37) (fr := (0, 0)) (heap_alloc_new w6 _)) (by simp [Value.oneCell']) (by omega) (by unfold maxLen; omega) (by omega) (by simp; omega) (w6.heap.size + 1) (by simp) ?_
        intro g2 cap2 w7 hown7 hgrow7 hat7 hlt7
        have hlt9 := (unhide HOWN).lt
        have hs7 := ((unhide HV).grown hqlt hbx hbA hgrow7 (fun g e => (hlt9 g e).1)).set (j := 4) (u := .slice (some ⟨g2, 0, none⟩) (k + 1) cap2) hBq
        have hsf : setF (setF f0 4 (.slice va k vc)) 4 (.slice (some ⟨g2, 0, none⟩) (k + 1) cap2) = setF f0 4 (.slice (some ⟨g2, 0, none⟩) (k + 1) cap2) := by
          funext i; by_cases e : i = 4 <;> simp [setF, e]
        rw [hsf] at hs7
        have hown8 := ownsNew (j := 4) (u := .slice (some ⟨g2, 0, none⟩) (k + 1) cap2) (q := q) hown7 (fun g e => (hown7.lt g e).1) hqlt
        have kc := hgrow7.cell (cell_on hbA c4) (fun e => by have := (hlt9 q e.symm).1; omega)
        have ka := hgrow7.cell (cell_on hbA a4) (fun e => by have := (hlt9 w.heap.size e.symm).1; omega)
        have hbk : b < wc.heap.size := by omega
        have kl0 := hgrow7.cell (cell_on hbA l0) (fun e => by have := (hlt9 b e.symm).1; omega)
        have kl1 := hgrow7.cell (cell_on hbA l1) (fun e => by have := (hlt9 b e.symm).1; omega)
        have kl2 := hgrow7.cell (cell_on hbA l2) (fun e => by have := (hlt9 b e.symm).1; omega)
        have kl3 := hgrow7.cell (cell_on hbA l3) (fun e => by have := (hlt9 b e.symm).1; omega)
        have kl4 := hgrow7.cell (cell_on hbA l4) (fun e => by have := (hlt9 b e.symm).1; omega)
        have kf : w7.frozen? ⟨q, 4, none⟩ = false := by (rw [hgrow7.frozen_far ⟨q, 4, none⟩ (show q < _ by have := hbA.size; omega) (fun e => by have := (hlt9 q e.symm).1; omega), hbA.frozen (p := ⟨q, 4, none⟩) (show q < wr.heap.size by omega)]; exact f4)
        have HV7 := hide hs7
        have HO7 : Hid ((w7.setCell ⟨q, 4, none⟩ (.slice (some ⟨g2, 0, none⟩) (k + 1) cap2)).ownsRow wc.heap.size 37 5 (.slice (some ⟨g2, 0, none⟩) (k + 1) cap2) (k + 1) (laneFlat (xs.take (k + 1)))) := hide (by rw [take_more xs k hltx, laneFlat_snoc, ← unhide HXK]; exact hown8)
        clear hs7 hsf hown8 hown7 hat7 hlt7 hgrow7 hlt9
        refine held_on hK ?_ (fun hHeld => ?_)
        · exact ⟨kc, ka, kl0, kl1, kl2, kl3, kl4⟩
        clear hK K
        refine wpAnyL_one (i := 10) (by kernel_rfl) rfl (fun K hK => ?_)
        go_simp
        refine held_on hK ?_ (fun hHeld => ?_)
        · exact hHeld
        clear hK K
        refine wpAnyL_end (by kernel_rfl) rfl (fun K hK => ?_)
        go_simp
        refine hK.out _ _ ?_
        clear hK K
        refine wpAnyL_done (by kernel_rfl) ?_ _
        go_wp2_with fail
        go_roundw
        case rel => exact ⟨k + 1, _, _, by omega, by go_num, HV7, HO7⟩
        case measure => simp [intOf]; omega
      · obtain rfl : k = n.lanes.length := by omega
        obtain ⟨W2, hW2e⟩ : ∃ W2, W2 = wr := ⟨wr, rfl⟩
        subst hW2e
        obtain ⟨i3, hi3, hz30, hz31, hz32⟩ := infoT_parts info_ViewT
        obtain ⟨i1, hi1, hz10, hz11, hz12⟩ := infoT_parts info_cpInt
        have hrow2 : W2.rowIs q 31 13 (setF (setF (setF f0 4 (.slice va n.lanes.length vc)) 9 (.slice none 0 0)) 10 (.slice none 0 0)) := hv.row.congr (fun i hi => by
          by_cases e9 : i = 9
          · subst e9; simp [setF, unhide HF0]
          · by_cases e10 : i = 10
            · subst e10; simp [setF, unhide HF0]
            · simp [setF, e9, e10])
        have HR2 : Hid (RowKeep W2.heap.size X.heap.size q 31 13 (setF (setF (setF f0 4 (.slice va n.lanes.length vc)) 9 (.slice none 0 0)) 10 (.slice none 0 0)) X W2 W2) := hide ⟨hrow2, fun _ _ _ => rfl, Nat.le_refl _, hv.bel⟩
        have c4 : W2.cell? ⟨w.heap.size, 4, none⟩ = some (.slice al n.lanes.length acl) := (World.cell?_of_block (a := ⟨w.heap.size, 4, none⟩) (hv.keep w.heap.size (by omega) (by omega))).trans (unhide HA4)
        have hq2 : q < W2.heap.size := by omega
        have hbx2 : X.heap.size ≤ W2.heap.size := by omega
        clear hrow2 hv
        obtain ⟨f1, hf1⟩ : ∃ f1, f1 = setF f0 4 (.slice va n.lanes.length vc) := ⟨_, rfl⟩
        rw [← hf1] at HR2
        have HF1 := hide hf1
        clear hf1
        go_wp2_with fail
        clear c4
        go_loopw [5] (fun i wy => ∃ (k : Nat) (a1 a2 : Option Addr) (c1 c2 : Nat), k ≤ 3 ∧ i = .int .i64 k ∧ Hid (RowKeep W2.heap.size X.heap.size q 31 13 (setF (setF f1 9 (.slice a1 k c1)) 10 (.slice a2 k c2)) X W2 wy) ∧ Hid (wy.ownsRow W2.heap.size 106 3 (.slice a1 k c1) k (viewFlat k)) ∧ Hid (wy.ownsRow W2.heap.size 3 1 (.slice a2 k c2) k (List.replicate k (.int .i64 0))) ∧ Hid (Apart (.slice a1 k c1) (.slice a2 k c2))) (fun i _ => 3 - (intOf i).toNat)
        case atStart => exact ⟨0, none, none, 0, 0, Nat.zero_le _, rfl, HR2, hide (World.ownsRow_nil _ _ _ _), hide (World.ownsRow_nil _ _ _ _), hide (fun g e _ => by cases e)⟩
        case round =>
          obtain ⟨k, a1, a2, c1, c2, hk3, rfl, HV2, HO1, HO2, HAP⟩ := hrel
          have hv2 := unhide HV2
          have hvs2 := hv2.size
          by_cases hlt3 : k < 3
          · have hkI : (k : Int) < 3 := by omega
            have c9 : wr.cell? ⟨q, 9, none⟩ = some (.slice a1 k c1) := by
              have e := hv2.row.cell (i := 9) (by omega)
              simpa [setF] using e
            have f9 : wr.frozen? ⟨q, 9, none⟩ = false := hv2.row.frozen 9
            have hbA : Below wr.heap.size wr (wr.alloc (.cells #[.int .i64 0, .int .i64 0, .slice none 0 0] 106)) := (Below.refl _ _).alloc (Nat.le_refl _) _
            have hownA := ownsOn hbA (unhide HO1)
            have HLT := hide (unhide HO1).lt
            have hqw : q < wr.heap.size := by omega
            clear hv2
            go_upto_region 10 with (at_builtin; refine wpList_append_lies _ (by rfl) _ _ _ (by rfl) W2.heap.size 106 i3 _ 3 40 slice_ViewT hi3 hz30 hz31 hz32 (by rfl) (by omega) (.slice a1 k c1) k (viewFlat k) (by rfl) hownA ⟨wr.heap.size, 0, none⟩ 1 1 [.int .i64 0, .int .i64 0, .slice none 0 0] (by rfl) (by rfl) (World.news_of_block (cs := #[.int .i64 0, .int .i64 0, .slice none 0 0]) (t := 106) (fr := (0, 0)) (heap_alloc_new wr _)) (by simp [Value.oneCell']) (by omega) (by unfold maxLen; omega) (by omega) (by simp; omega) (wr.heap.size + 1) (by simp) ?_; intro gg cap w1 hown1 hgrow hat hlt1; have kc := hgrow.cell (cell_on hbA c9) (fun e => by have := (unhide HLT q e.symm).1; omega); have kf : w1.frozen? ⟨q, 9, none⟩ = false := (by rw [hgrow.frozen_far ⟨q, 9, none⟩ (show q < _ by simp; omega) (fun e => by have := (unhide HLT q e.symm).1; omega), hbA.frozen (p := ⟨q, 9, none⟩) hqw]; exact f9))
            have hs1 := ((unhide HV2).grown hq2 hbx2 hbA hgrow (fun g e => (unhide HLT g e).1)).set (j := 9) (u := .slice (some ⟨gg, 0, none⟩) (k + 1) cap) hBq
            have hse : setF (setF (setF f1 9 (.slice a1 k c1)) 10 (.slice a2 k c2)) 9 (.slice (some ⟨gg, 0, none⟩) (k + 1) cap) = setF (setF f1 9 (.slice (some ⟨gg, 0, none⟩) (k + 1) cap)) 10 (.slice a2 k c2) := setF_mid _ (by omega) _ _ _
            rw [hse] at hs1
            obtain ⟨ho2, hap2⟩ := two_lists (gg := gg) (j := 9) (u := .slice (some ⟨gg, 0, none⟩) (k + 1) cap) (m := k + 1) (cap := cap) (unhide HO2) (unhide HAP) hbA hgrow (by rcases hat with h | h <;> simp [h]) hq2
            have ho1 := ownsNew (j := 9) (u := .slice (some ⟨gg, 0, none⟩) (k + 1) cap) (q := q) hown1 (fun g e => (hown1.lt g e).1) hq2
            have HV3 := hide hs1
            have HO3 := hide ho1
            have HO4 := hide ho2
            have HAP2 := hide hap2
            clear hs1 ho1 ho2 hap2 hse hown1 hat hlt1 hgrow kc kf hownA hbA f9 c9 HV2 HO1 HO2 HAP HLT
            generalize w1.setCell ⟨q, 9, none⟩ (.slice (some ⟨gg, 0, none⟩) (k + 1) cap) = W3 at *
            have hv3 := unhide HV3
            have hvs3 := hv3.size
            have c10 : W3.cell? ⟨q, 10, none⟩ = some (.slice a2 k c2) := by
              have e := hv3.row.cell (i := 10) (by omega)
              simpa [setF] using e
            have f10 : W3.frozen? ⟨q, 10, none⟩ = false := hv3.row.frozen 10
            have hbA : Below W3.heap.size W3 (W3.alloc (.cells #[.int .i64 0] 3)) := (Below.refl _ _).alloc (Nat.le_refl _) _
            have hownA := ownsOn hbA (unhide HO4)
            have HLT := hide (unhide HO4).lt
            have hqw3 : q < W3.heap.size := by omega
            clear hv3
            go_wp2_with (at_builtin; refine wpList_append_lies _ (by rfl) _ _ _ (by rfl) W2.heap.size 3 i1 _ 1 8 slice_cpInt hi1 hz10 hz11 hz12 (by rfl) (by omega) (.slice a2 k c2) k (List.replicate k (.int .i64 0)) (by rfl) hownA ⟨W3.heap.size, 0, none⟩ 1 1 [.int .i64 0] (by rfl) (by rfl) (World.news_of_block (cs := #[.int .i64 0]) (t := 3) (fr := (0, 0)) (heap_alloc_new W3 _)) (by simp [Value.oneCell']) (by omega) (by unfold maxLen; omega) (by omega) (by simp; omega) (W3.heap.size + 1) (by simp) ?_; intro g4 cap4 w4 hown4 hgrow4 hat4 hlt4; have kc := hgrow4.cell (cell_on hbA c10) (fun e => by have := (unhide HLT q e.symm).1; omega); have kf : w4.frozen? ⟨q, 10, none⟩ = false := (by rw [hgrow4.frozen_far ⟨q, 10, none⟩ (show q < _ by simp; omega) (fun e => by have := (unhide HLT q e.symm).1; omega), hbA.frozen (p := ⟨q, 10, none⟩) hqw3]; exact f10); have hs4 := hide (((unhide HV3).grown hq2 hbx2 hbA hgrow4 (fun g e => (unhide HLT g e).1)).set (j := 10) (u := .slice (some ⟨g4, 0, none⟩) (k + 1) cap4) hBq); have htl := hide (two_lists (gg := g4) (j := 10) (u := .slice (some ⟨g4, 0, none⟩) (k + 1) cap4) (m := k + 1) (cap := cap4) (unhide HO3) (apart_symm (unhide HAP2)) hbA hgrow4 (by rcases hat4 with h | h <;> simp [h]) hq2); have ho4 := hide (ownsNew (j := 10) (u := .slice (some ⟨g4, 0, none⟩) (k + 1) cap4) (q := q) hown4 (fun g e => (hown4.lt g e).1) hq2); clear hown4 hat4 hlt4 hgrow4)
            go_roundw
            case rel =>
              refine ⟨k + 1, _, _, _, _, by omega, by go_num, hide ?_, hide (unhide htl).1, hide ?_, hide (apart_symm (unhide htl).2)⟩
              · have e := unhide hs4
                have hse : setF (setF (setF f1 9 (.slice (some ⟨gg, 0, none⟩) (k + 1) cap)) 10 (.slice a2 k c2)) 10 (.slice (some ⟨g4, 0, none⟩) (k + 1) cap4) = setF (setF f1 9 (.slice (some ⟨gg, 0, none⟩) (k + 1) cap)) 10 (.slice (some ⟨g4, 0, none⟩) (k + 1) cap4) := setF_same _ _ _ _
                rwa [hse] at e
              · have e := unhide ho4
                rw [List.replicate_succ']
                exact e
            case measure => simp [intOf]; omega
          · obtain rfl : k = 3 := by omega
            have y0 : wr.cell? ⟨q, 0, none⟩ = some (.int .i64 n.id) := by
              have e := hv2.row.cell (i := 0) (by omega)
              simpa [setF, unhide HF1, unhide HF0] using e
            have y1 : wr.cell? ⟨q, 1, none⟩ = some (.bool n.up) := by
              have e := hv2.row.cell (i := 1) (by omega)
              simpa [setF, unhide HF1, unhide HF0] using e
            have y2 : wr.cell? ⟨q, 2, none⟩ = some (.int .i64 n.inc) := by
              have e := hv2.row.cell (i := 2) (by omega)
              simpa [setF, unhide HF1, unhide HF0] using e
            have y3 : wr.cell? ⟨q, 3, none⟩ = some (.int .i64 n.g) := by
              have e := hv2.row.cell (i := 3) (by omega)
              simpa [setF, unhide HF1, unhide HF0] using e
            have y4 : wr.cell? ⟨q, 4, none⟩ = some (.slice va n.lanes.length vc) := by
              have e := hv2.row.cell (i := 4) (by omega)
              simpa [setF, unhide HF1, unhide HF0] using e
            have y5 : wr.cell? ⟨q, 5, none⟩ = some (.slice ka2 n.kept.length kc2) := by
              have e := hv2.row.cell (i := 5) (by omega)
              simpa [setF, unhide HF1, unhide HF0] using e
            have y6 : wr.cell? ⟨q, 6, none⟩ = some (.slice oa2 n.outs.length oc2) := by
              have e := hv2.row.cell (i := 6) (by omega)
              simpa [setF, unhide HF1, unhide HF0] using e
            have y7 : wr.cell? ⟨q, 7, none⟩ = some (.int .i64 n.led) := by
              have e := hv2.row.cell (i := 7) (by omega)
              simpa [setF, unhide HF1, unhide HF0] using e
            have y8 : wr.cell? ⟨q, 8, none⟩ = some (.int .i64 0) := by
              have e := hv2.row.cell (i := 8) (by omega)
              simpa [setF, unhide HF1, unhide HF0] using e
            have y9 : wr.cell? ⟨q, 9, none⟩ = some (.slice a1 3 c1) := by
              have e := hv2.row.cell (i := 9) (by omega)
              simpa [setF, unhide HF1, unhide HF0] using e
            have y10 : wr.cell? ⟨q, 10, none⟩ = some (.slice a2 3 c2) := by
              have e := hv2.row.cell (i := 10) (by omega)
              simpa [setF, unhide HF1, unhide HF0] using e
            have y11 : wr.cell? ⟨q, 11, none⟩ = some (.int .i64 0) := by
              have e := hv2.row.cell (i := 11) (by omega)
              simpa [setF, unhide HF1, unhide HF0] using e
            have y12 : wr.cell? ⟨q, 12, none⟩ = some (.int .i64 41) := by
              have e := hv2.row.cell (i := 12) (by omega)
              simpa [setF, unhide HF1, unhide HF0] using e
            have hrr := ((unhide HRRc).of_block ((unhide HV).keep (w.heap.size + 1) (by omega) (by omega))).of_block (hv2.keep (w.heap.size + 1) (by omega) (by omega))
            have x0 : wr.cell? ⟨w.heap.size + 1, 0, none⟩ = some (.int .i64 0) := hrr.cell (i := 0) (by omega)
            have z0 : wr.frozen? ⟨w.heap.size + 1, 0, none⟩ = false := hrr.frozen 0
            have x1 : wr.cell? ⟨w.heap.size + 1, 1, none⟩ = some (.bool false) := hrr.cell (i := 1) (by omega)
            have z1 : wr.frozen? ⟨w.heap.size + 1, 1, none⟩ = false := hrr.frozen 1
            have x2 : wr.cell? ⟨w.heap.size + 1, 2, none⟩ = some (.int .i64 0) := hrr.cell (i := 2) (by omega)
            have z2 : wr.frozen? ⟨w.heap.size + 1, 2, none⟩ = false := hrr.frozen 2
            have x3 : wr.cell? ⟨w.heap.size + 1, 3, none⟩ = some (.int .i64 0) := hrr.cell (i := 3) (by omega)
            have z3 : wr.frozen? ⟨w.heap.size + 1, 3, none⟩ = false := hrr.frozen 3
            have x4 : wr.cell? ⟨w.heap.size + 1, 4, none⟩ = some (.slice none 0 0) := hrr.cell (i := 4) (by omega)
            have z4 : wr.frozen? ⟨w.heap.size + 1, 4, none⟩ = false := hrr.frozen 4
            have x5 : wr.cell? ⟨w.heap.size + 1, 5, none⟩ = some (.slice none 0 0) := hrr.cell (i := 5) (by omega)
            have z5 : wr.frozen? ⟨w.heap.size + 1, 5, none⟩ = false := hrr.frozen 5
            have x6 : wr.cell? ⟨w.heap.size + 1, 6, none⟩ = some (.slice none 0 0) := hrr.cell (i := 6) (by omega)
            have z6 : wr.frozen? ⟨w.heap.size + 1, 6, none⟩ = false := hrr.frozen 6
            have x7 : wr.cell? ⟨w.heap.size + 1, 7, none⟩ = some (.int .i64 0) := hrr.cell (i := 7) (by omega)
            have z7 : wr.frozen? ⟨w.heap.size + 1, 7, none⟩ = false := hrr.frozen 7
            have x8 : wr.cell? ⟨w.heap.size + 1, 8, none⟩ = some (.int .i64 0) := hrr.cell (i := 8) (by omega)
            have z8 : wr.frozen? ⟨w.heap.size + 1, 8, none⟩ = false := hrr.frozen 8
            have x9 : wr.cell? ⟨w.heap.size + 1, 9, none⟩ = some (.slice none 0 0) := hrr.cell (i := 9) (by omega)
            have z9 : wr.frozen? ⟨w.heap.size + 1, 9, none⟩ = false := hrr.frozen 9
            have x10 : wr.cell? ⟨w.heap.size + 1, 10, none⟩ = some (.slice none 0 0) := hrr.cell (i := 10) (by omega)
            have z10 : wr.frozen? ⟨w.heap.size + 1, 10, none⟩ = false := hrr.frozen 10
            have x11 : wr.cell? ⟨w.heap.size + 1, 11, none⟩ = some (.int .i64 0) := hrr.cell (i := 11) (by omega)
            have z11 : wr.frozen? ⟨w.heap.size + 1, 11, none⟩ = false := hrr.frozen 11
            have x12 : wr.cell? ⟨w.heap.size + 1, 12, none⟩ = some (.int .i64 0) := hrr.cell (i := 12) (by omega)
            have z12 : wr.frozen? ⟨w.heap.size + 1, 12, none⟩ = false := hrr.frozen 12
            have HRR2 := hide hrr
            clear hrr hv2
            go_wp2_with fail
            clear y0 x0 z0 y1 x1 z1 y2 x2 z2 y3 x3 z3 y4 x4 z4 y5 x5 z5 y6 x6 z6 y7 x7 z7 y8 x8 z8 y9 x9 z9 y10 x10 z10 y11 x11 z11 y12 x12 z12
            show bodyPost _ _ _ _ _ (setVals wr (w.heap.size + 1) 0 [.int .i64 n.id, .bool n.up, .int .i64 n.inc, .int .i64 n.g, .slice va n.lanes.length vc, .slice ka2 n.kept.length kc2, .slice oa2 n.outs.length oc2, .int .i64 n.led, .int .i64 0, .slice a1 3 c1, .slice a2 3 c2, .int .i64 0, .int .i64 41])
            have hrow := setVals_row [.int .i64 n.id, .bool n.up, .int .i64 n.inc, .int .i64 n.g, .slice va n.lanes.length vc, .slice ka2 n.kept.length kc2, .slice oa2 n.outs.length oc2, .int .i64 n.led, .int .i64 0, .slice a1 3 c1, .slice a2 3 c2, .int .i64 0, .int .i64 41] 0 wr _ (unhide HRR2)
            have hoth := fun b (hb : b ≠ w.heap.size + 1) => setVals_other (b := w.heap.size + 1) [.int .i64 n.id, .bool n.up, .int .i64 n.inc, .int .i64 n.g, .slice va n.lanes.length vc, .slice ka2 n.kept.length kc2, .slice oa2 n.outs.length oc2, .int .i64 n.led, .int .i64 0, .slice a1 3 c1, .slice a2 3 c2, .int .i64 0, .int .i64 41] 0 wr b hb
            have hbl := setVals_below (b := w.heap.size + 1) (B := w.heap.size) (a := w) [.int .i64 n.id, .bool n.up, .int .i64 n.inc, .int .i64 n.g, .slice va n.lanes.length vc, .slice ka2 n.kept.length kc2, .slice oa2 n.outs.length oc2, .int .i64 n.led, .int .i64 0, .slice a1 3 c1, .slice a2 3 c2, .int .i64 0, .int .i64 41] 0 wr (below_then (unhide HX0) (unhide HV2).bel) (by omega)
            have hszA := setVals_size (b := w.heap.size + 1) [.int .i64 n.id, .bool n.up, .int .i64 n.inc, .int .i64 n.g, .slice va n.lanes.length vc, .slice ka2 n.kept.length kc2, .slice oa2 n.outs.length oc2, .int .i64 n.led, .int .i64 0, .slice a1 3 c1, .slice a2 3 c2, .int .i64 0, .int .i64 41] 0 wr
            generalize setVals wr (w.heap.size + 1) 0 [.int .i64 n.id, .bool n.up, .int .i64 n.inc, .int .i64 n.g, .slice va n.lanes.length vc, .slice ka2 n.kept.length kc2, .slice oa2 n.outs.length oc2, .int .i64 n.led, .int .i64 0, .slice a1 3 c1, .slice a2 3 c2, .int .i64 0, .int .i64 41] = WE at *
            have x0 : WE.cell? ⟨w.heap.size + 1, 0, none⟩ = some (.int .i64 n.id) := hrow.cell (i := 0) (by simp)
            have x1 : WE.cell? ⟨w.heap.size + 1, 1, none⟩ = some (.bool n.up) := hrow.cell (i := 1) (by simp)
            have x2 : WE.cell? ⟨w.heap.size + 1, 2, none⟩ = some (.int .i64 n.inc) := hrow.cell (i := 2) (by simp)
            have x3 : WE.cell? ⟨w.heap.size + 1, 3, none⟩ = some (.int .i64 n.g) := hrow.cell (i := 3) (by simp)
            have x4 : WE.cell? ⟨w.heap.size + 1, 4, none⟩ = some (.slice va n.lanes.length vc) := hrow.cell (i := 4) (by simp)
            have x5 : WE.cell? ⟨w.heap.size + 1, 5, none⟩ = some (.slice ka2 n.kept.length kc2) := hrow.cell (i := 5) (by simp)
            have x6 : WE.cell? ⟨w.heap.size + 1, 6, none⟩ = some (.slice oa2 n.outs.length oc2) := hrow.cell (i := 6) (by simp)
            have x7 : WE.cell? ⟨w.heap.size + 1, 7, none⟩ = some (.int .i64 n.led) := hrow.cell (i := 7) (by simp)
            have x8 : WE.cell? ⟨w.heap.size + 1, 8, none⟩ = some (.int .i64 0) := hrow.cell (i := 8) (by simp)
            have x9 : WE.cell? ⟨w.heap.size + 1, 9, none⟩ = some (.slice a1 3 c1) := hrow.cell (i := 9) (by simp)
            have x10 : WE.cell? ⟨w.heap.size + 1, 10, none⟩ = some (.slice a2 3 c2) := hrow.cell (i := 10) (by simp)
            have x11 : WE.cell? ⟨w.heap.size + 1, 11, none⟩ = some (.int .i64 0) := hrow.cell (i := 11) (by simp)
            have x12 : WE.cell? ⟨w.heap.size + 1, 12, none⟩ = some (.int .i64 41) := hrow.cell (i := 12) (by simp)
            have hk1 : ∀ b, b < wc.heap.size → b ≠ q → b ≠ w.heap.size + 1 → WE.heap[b]? = wc.heap[b]? := fun b h1 h2 h3 => (hoth b h3).trans (((unhide HV2).keep b (by omega) h2).trans ((unhide HV).keep b h1 h2))
            have hnl : n.lanes.length = (blankN n).lanes.length := by simp [blankN, nilLanes]
            have hln := (unhide HOW).lt
            have hl1 := (unhide HO1).lt
            have hl2 := (unhide HO2).lt
            have hLW : WE.ownsRow wc.heap.size 37 5 (.slice va n.lanes.length vc) n.lanes.length (laneFlat (xs.take n.lanes.length)) := ownsKeep (unhide HOW) (fun g e hg => (hoth g (by have := (hln g e).1; omega)).trans ((unhide HV2).keep g hg (by have := (hln g e).1; omega)))
            rw [← unhide HXL, List.take_length] at hLW
            have hVW := ownsKeep (w' := WE) (unhide HO1) (fun g e hg => hoth g (by have := (hl1 g e).1; omega))
            have hNW := ownsKeep (w' := WE) (unhide HO2) (fun g e hg => hoth g (by have := (hl2 g e).1; omega))
            have hKO := (unhide HKB).keep (fun h0 => hk1 gk ((unhide HKB).lt (by omega) h0) (unhide HGK h0).2 (by have := (unhide HGK h0).1; omega))
            have hOO := (unhide HOB).keep (fun h0 => hk1 go ((unhide HOB).lt (by omega) h0) (unhide HGO h0).2 (by have := (unhide HGO h0).1; omega))
            refine bodyPost_ret (v := nodeAgg (blankN n) (.slice va n.lanes.length vc) (.slice ka2 n.kept.length kc2) (.slice oa2 n.outs.length oc2) (.slice a1 3 c1) (.slice a2 3 c2)) (by simp [results, Try.results39, go_sem, blankN, x0, x1, x2, x3, x4, x5, x6, x7, x8, x9, x10, x11, x12]) rfl ⟨_, _, _, _, _, rfl, fun w9 hw9 => ⟨?_, (hKO.keep (fun h0 => hw9 gk (by have := (unhide HGK h0).1; omega) (hKO.lt (by omega) h0))).1, (hOO.keep (fun h0 => hw9 go (by have := (unhide HGO h0).1; omega) (hOO.lt (by omega) h0))).1, ?_, ?_⟩, hbl⟩
            · show LanesAt w9 _ (nilLanes (n.lanes.map fun l => (l.proc, l.s)))
              rw [← unhide HXE, ← unhide HXL]
              exact (lanesOwn_of_owns (ownsKeep hLW (fun g e hg => hw9 g (by have := (hLW.lt g e).1; omega) hg)) (Nat.le_refl _)).at
            · exact (viewsOwn_of_owns (ownsKeep hVW (fun g e hg => hw9 g (by have := (hVW.lt g e).1; omega) hg)) (Nat.le_refl w9.heap.size)).at
            · have hNO : RowsFr W2.heap.size 3 1 w9 (.slice a2 3 c2) (([0, 0, 0] : List Int).map fun z => [z]) := RowsFr.of_owns (rowlenInt [0, 0, 0]) (ownsKeep hNW (fun g e hg => hw9 g (by have := (hNW.lt g e).1; omega) hg))
              exact hNO.at
end Go.Proofs.Ytimkamgghkjhhaa
