/- laws.ltViews, ltKept, ltDone, ltNode at two of the same. -/
import Derived.Test.YtimkamgghkjhhaaLtA
import Derived.Test.YtimkamgghkjhhaaNode1
namespace Go.Proofs.Ytimkamgghkjhhaa.L
open Go.RowKit
set_option linter.unusedVariables false
set_option linter.unusedSimpArgs false

set_option maxRecDepth 100000 in
set_option maxHeartbeats 2000000 in
theorem ltViews_any (v1 v2 : Value) (ls : List ViewV) (w : World) (h1 : ViewsAt w v1 ls) (h2 : ViewsAt w v2 ls) :
    Calls Try.prog 34 #[v1, v2] w fun e w' => e = .returned (.bool true) ∧ Below w.heap.size w w' := by
  obtain ⟨ad1, cap1, rfl, hl1, hm, hc1⟩ := h1
  obtain ⟨ad2, cap2, rfl, hl2, _, hc2⟩ := h2
  unfold maxLen at hm
  have hne0 : ((ls.length : Int) != (ls.length : Int)) = false := by simp
  have hqm : ∀ z : Int, (z != z) = false := by intro z; simp
  have H1 := hide hc1
  have H2 := hide hc2
  clear hc1 hc2
  go_enter Try.func34, Try.ntmps34
  go_wp2_with fail
  go_loopw [5] (fun i wr => ∃ k : Nat, k ≤ ls.length ∧ i = .int .i64 k ∧ Below w.heap.size w wr) (fun i _ => ls.length - (intOf i).toNat)
  case atStart => exact ⟨0, Nat.zero_le _, rfl, Below.refl _ _⟩
  case round =>
    obtain ⟨k, hk, rfl, hb⟩ := hrel
    by_cases hlt : k < ls.length
    · obtain ⟨b1, off1, vd1, had1, hc1, hp1⟩ : ∃ b off vd, ad1 = some ⟨b, off, none⟩ ∧ CellsAt wr b (off + k * 3) (viewCells ls[k].inc ls[k].ver vd) ∧ RowsAt 7 wr vd (ls[k].es.map evRow) := by
        rcases unhide H1 with h | ⟨b, off, h1, h2⟩
        · rw [h] at hlt; exact absurd hlt (Nat.not_lt_zero _)
        · obtain ⟨vd, h3, h4⟩ := h2 k hlt
          exact ⟨b, off, vd, h1, h3.on hb, h4.on hb⟩
      obtain ⟨b2, off2, vd2, had2, hc2, hp2⟩ : ∃ b off vd, ad2 = some ⟨b, off, none⟩ ∧ CellsAt wr b (off + k * 3) (viewCells ls[k].inc ls[k].ver vd) ∧ RowsAt 7 wr vd (ls[k].es.map evRow) := by
        rcases unhide H2 with h | ⟨b, off, h1, h2⟩
        · rw [h] at hlt; exact absurd hlt (Nat.not_lt_zero _)
        · obtain ⟨vd, h3, h4⟩ := h2 k hlt
          exact ⟨b, off, vd, h1, h3.on hb, h4.on hb⟩
      have hkI : (k : Int) < (ls.length : Int) := by omega
      have hk0 : (0 : Int) ≤ (k : Int) := by omega
      subst had1 had2
      generalize ls[k] = p at *
      have q10 : ∀ y : On wr, y.y.cell? ⟨b1, off1 + k * 3, none⟩ = some (.int .i64 p.inc) := fun y => cell_on y.h (hc1 0 (by simp))
      have q11 : ∀ y : On wr, y.y.cell? ⟨b1, off1 + k * 3 + 1, none⟩ = some (.int .i64 p.ver) := fun y => cell_on y.h (hc1 1 (by simp))
      have q12 : ∀ y : On wr, y.y.cell? ⟨b1, off1 + k * 3 + 2, none⟩ = some (vd1) := fun y => cell_on y.h (hc1 2 (by simp))
      have q20 : ∀ y : On wr, y.y.cell? ⟨b2, off2 + k * 3, none⟩ = some (.int .i64 p.inc) := fun y => cell_on y.h (hc2 0 (by simp))
      have q21 : ∀ y : On wr, y.y.cell? ⟨b2, off2 + k * 3 + 1, none⟩ = some (.int .i64 p.ver) := fun y => cell_on y.h (hc2 1 (by simp))
      have q22 : ∀ y : On wr, y.y.cell? ⟨b2, off2 + k * 3 + 2, none⟩ = some (vd2) := fun y => cell_on y.h (hc2 2 (by simp))
      have HP1 := hide hp1
      have HP2 := hide hp2
      clear hc1 hc2 hp1 hp2
      have ke : ∀ y : On wr, Calls Try.prog 66 #[vd1, vd2] y.y fun e w' => e = .returned (.bool true) ∧ Below y.y.heap.size y.y w' := fun y => ltEvents_any _ _ p.es y.y ((unhide HP1).on y.h) ((unhide HP2).on y.h)
      have hne : Nonempty (On wr) := ⟨⟨wr, Below.refl _ _⟩⟩
      go_upto_region 6 with fail
      refine wp_region_on (by kernel_rfl) (by kernel_rfl) ?_
      repeat (first | go_big_quiet_step ((first | (go_at_call 66; exact calls_on (ke _)))) | quiet_step ((first | (go_at_call 66; exact calls_on (ke _)))))
      refine wpQuiet_nil ?_
      intro _ hw'
      obtain ⟨nq, hw''⟩ := hw'
      subst hw''
      go_wp2_with fail
      go_roundw
      case rel => exact ⟨k + 1, by omega, by simp, below_then hb nq.h⟩
      case measure => (simp [intOf]; try omega)
    · have hkI : ¬ (k : Int) < (ls.length : Int) := by omega
      go_wp2_with fail
      go_ret
      exact ⟨rfl, hb⟩

set_option maxRecDepth 100000 in
set_option maxHeartbeats 2000000 in
theorem ltDone_any (n : NodeV) (vl vk vo vv vn ul uk uo uv un : Value) (w : World) (h1 : NodeAt w n vl vk vo vv vn) (h2 : NodeAt w n ul uk uo uv un) :
    Calls Try.prog 33 #[nodeAgg n vl vk vo vv vn, nodeAgg n ul uk uo uv un] w fun e w' => e = .returned (.bool true) ∧ Below w.heap.size w w' := by
  have H1 := hide h1
  have H2 := hide h2
  obtain ⟨⟨al, alc, e1⟩, ⟨ak, akc, e2⟩, ⟨ao, aoc, e3⟩, ⟨av, avc, e4⟩, ⟨an, anc, e5⟩⟩ := h1.sliced
  subst e1 e2 e3 e4 e5
  obtain ⟨⟨bl, blc, e1⟩, ⟨bk, bkc, e2⟩, ⟨bo, boc, e3⟩, ⟨bv, bvc, e4⟩, ⟨bn, bnc, e5⟩⟩ := h2.sliced
  subst e1 e2 e3 e4 e5
  clear h1 h2
  have hqm : ∀ z : Int, (z != z) = false := by intro z; simp
  have hqe : ∀ z : Int, (z == z) = true := by intro z; simp
  have hqb : (n.up == n.up) = true := by simp
  have hb0 : Below w.heap.size w ((w.alloc (.cells #[.int .i64 n.id, .bool n.up, .int .i64 n.inc, .int .i64 n.g, .slice al n.lanes.length alc, .slice ak n.kept.length akc, .slice ao n.outs.length aoc, .int .i64 n.led, .int .i64 n.ver, .slice av n.views.length avc, .slice an n.known.length anc, .int .i64 n.round, .int .i64 n.low] 31)).alloc (.cells #[.int .i64 n.id, .bool n.up, .int .i64 n.inc, .int .i64 n.g, .slice bl n.lanes.length blc, .slice bk n.kept.length bkc, .slice bo n.outs.length boc, .int .i64 n.led, .int .i64 n.ver, .slice bv n.views.length bvc, .slice bn n.known.length bnc, .int .i64 n.round, .int .i64 n.low] 31)) := ((Below.refl _ _).alloc (Nat.le_refl _) _).alloc (by simp) _
  have cA : CellsAt ((w.alloc (.cells #[.int .i64 n.id, .bool n.up, .int .i64 n.inc, .int .i64 n.g, .slice al n.lanes.length alc, .slice ak n.kept.length akc, .slice ao n.outs.length aoc, .int .i64 n.led, .int .i64 n.ver, .slice av n.views.length avc, .slice an n.known.length anc, .int .i64 n.round, .int .i64 n.low] 31)).alloc (.cells #[.int .i64 n.id, .bool n.up, .int .i64 n.inc, .int .i64 n.g, .slice bl n.lanes.length blc, .slice bk n.kept.length bkc, .slice bo n.outs.length boc, .int .i64 n.led, .int .i64 n.ver, .slice bv n.views.length bvc, .slice bn n.known.length bnc, .int .i64 n.round, .int .i64 n.low] 31)) w.heap.size 0 [.int .i64 n.id, .bool n.up, .int .i64 n.inc, .int .i64 n.g, .slice al n.lanes.length alc, .slice ak n.kept.length akc, .slice ao n.outs.length aoc, .int .i64 n.led, .int .i64 n.ver, .slice av n.views.length avc, .slice an n.known.length anc, .int .i64 n.round, .int .i64 n.low] := (cellsAt_new w [.int .i64 n.id, .bool n.up, .int .i64 n.inc, .int .i64 n.g, .slice al n.lanes.length alc, .slice ak n.kept.length akc, .slice ao n.outs.length aoc, .int .i64 n.led, .int .i64 n.ver, .slice av n.views.length avc, .slice an n.known.length anc, .int .i64 n.round, .int .i64 n.low] 31).on ((Below.refl _ _).alloc (Nat.le_refl _) _)
  have cB : CellsAt ((w.alloc (.cells #[.int .i64 n.id, .bool n.up, .int .i64 n.inc, .int .i64 n.g, .slice al n.lanes.length alc, .slice ak n.kept.length akc, .slice ao n.outs.length aoc, .int .i64 n.led, .int .i64 n.ver, .slice av n.views.length avc, .slice an n.known.length anc, .int .i64 n.round, .int .i64 n.low] 31)).alloc (.cells #[.int .i64 n.id, .bool n.up, .int .i64 n.inc, .int .i64 n.g, .slice bl n.lanes.length blc, .slice bk n.kept.length bkc, .slice bo n.outs.length boc, .int .i64 n.led, .int .i64 n.ver, .slice bv n.views.length bvc, .slice bn n.known.length bnc, .int .i64 n.round, .int .i64 n.low] 31)) (w.heap.size + 1) 0 [.int .i64 n.id, .bool n.up, .int .i64 n.inc, .int .i64 n.g, .slice bl n.lanes.length blc, .slice bk n.kept.length bkc, .slice bo n.outs.length boc, .int .i64 n.led, .int .i64 n.ver, .slice bv n.views.length bvc, .slice bn n.known.length bnc, .int .i64 n.round, .int .i64 n.low] := by
    have e := cellsAt_new (w.alloc (.cells #[.int .i64 n.id, .bool n.up, .int .i64 n.inc, .int .i64 n.g, .slice al n.lanes.length alc, .slice ak n.kept.length akc, .slice ao n.outs.length aoc, .int .i64 n.led, .int .i64 n.ver, .slice av n.views.length avc, .slice an n.known.length anc, .int .i64 n.round, .int .i64 n.low] 31)) [.int .i64 n.id, .bool n.up, .int .i64 n.inc, .int .i64 n.g, .slice bl n.lanes.length blc, .slice bk n.kept.length bkc, .slice bo n.outs.length boc, .int .i64 n.led, .int .i64 n.ver, .slice bv n.views.length bvc, .slice bn n.known.length bnc, .int .i64 n.round, .int .i64 n.low] 31
    have hs : (w.alloc (.cells #[.int .i64 n.id, .bool n.up, .int .i64 n.inc, .int .i64 n.g, .slice al n.lanes.length alc, .slice ak n.kept.length akc, .slice ao n.outs.length aoc, .int .i64 n.led, .int .i64 n.ver, .slice av n.views.length avc, .slice an n.known.length anc, .int .i64 n.round, .int .i64 n.low] 31)).heap.size = w.heap.size + 1 := by simp
    rw [hs] at e
    exact e
  have HB0 := hide hb0
  have HA := hide cA
  have HC := hide cB
  clear hb0 cA cB
  go_enter Try.func33, Try.ntmps33
  go_upto_region 1 with fail
  generalize ((w.alloc (.cells #[.int .i64 n.id, .bool n.up, .int .i64 n.inc, .int .i64 n.g, .slice al n.lanes.length alc, .slice ak n.kept.length akc, .slice ao n.outs.length aoc, .int .i64 n.led, .int .i64 n.ver, .slice av n.views.length avc, .slice an n.known.length anc, .int .i64 n.round, .int .i64 n.low] 31)).alloc (.cells #[.int .i64 n.id, .bool n.up, .int .i64 n.inc, .int .i64 n.g, .slice bl n.lanes.length blc, .slice bk n.kept.length bkc, .slice bo n.outs.length boc, .int .i64 n.led, .int .i64 n.ver, .slice bv n.views.length bvc, .slice bn n.known.length bnc, .int .i64 n.round, .int .i64 n.low] 31)) = X at *
  obtain ⟨x1, x2, hx1, _, hm, hcl1⟩ := (unhide H1).l
  obtain ⟨y1, y2, hy1, _, _, hcl2⟩ := (unhide H2).l
  simp only [Value.slice.injEq, true_and] at hx1 hy1
  obtain ⟨rfl, rfl⟩ := hx1
  obtain ⟨rfl, rfl⟩ := hy1
  have HL1 := hide hcl1
  have HL2 := hide hcl2
  unfold maxLen at hm
  clear hcl1 hcl2 H1 H2
  have k4 : X.cell? ⟨w.heap.size, 4, none⟩ = some (.slice al n.lanes.length alc) := (unhide HA) 4 (by simp)
  have l4 : X.cell? ⟨w.heap.size + 1, 4, none⟩ = some (.slice bl n.lanes.length blc) := (unhide HC) 4 (by simp)
  have hne0 : ((n.lanes.length : Int) != (n.lanes.length : Int)) = false := by simp
  go_wp2_with fail
  go_loopw [5] (fun i wr => ∃ k : Nat, k ≤ n.lanes.length ∧ i = .int .i64 k ∧ Below X.heap.size X wr) (fun i _ => n.lanes.length - (intOf i).toNat)
  case atStart => exact ⟨0, Nat.zero_le _, rfl, Below.refl _ _⟩
  case round =>
    obtain ⟨k, hk, rfl, hb⟩ := hrel
    have m4 := cell_on hb k4
    have o4 := cell_on hb l4
    by_cases hlt : k < n.lanes.length
    · obtain ⟨b1, off1, vd1, had1, hc1, hp1⟩ : ∃ b off vd, al = some ⟨b, off, none⟩ ∧ CellsAt wr b (off + k * 5) (laneCells n.lanes[k].proc n.lanes[k].s vd) ∧ PastsAt wr vd n.lanes[k].ps := by
        rcases unhide HL1 with h | ⟨b, off, h1, h2⟩
        · rw [h] at hlt; exact absurd hlt (Nat.not_lt_zero _)
        · obtain ⟨vd, h3, h4⟩ := h2 k hlt
          exact ⟨b, off, vd, h1, h3.on (below_then (unhide HB0) hb), h4.on (below_then (unhide HB0) hb)⟩
      obtain ⟨b2, off2, vd2, had2, hc2, hp2⟩ : ∃ b off vd, bl = some ⟨b, off, none⟩ ∧ CellsAt wr b (off + k * 5) (laneCells n.lanes[k].proc n.lanes[k].s vd) ∧ PastsAt wr vd n.lanes[k].ps := by
        rcases unhide HL2 with h | ⟨b, off, h1, h2⟩
        · rw [h] at hlt; exact absurd hlt (Nat.not_lt_zero _)
        · obtain ⟨vd, h3, h4⟩ := h2 k hlt
          exact ⟨b, off, vd, h1, h3.on (below_then (unhide HB0) hb), h4.on (below_then (unhide HB0) hb)⟩
      have hkI : (k : Int) < (n.lanes.length : Int) := by omega
      have hk0 : (0 : Int) ≤ (k : Int) := by omega
      subst had1 had2
      generalize n.lanes[k] = p at *
      have q10 : ∀ y : On wr, y.y.cell? ⟨b1, off1 + k * 5, none⟩ = some (.int .i64 p.proc) := fun y => cell_on y.h (hc1 0 (by simp))
      have q11 : ∀ y : On wr, y.y.cell? ⟨b1, off1 + k * 5 + 1, none⟩ = some (.int .i64 p.s.x) := fun y => cell_on y.h (hc1 1 (by simp))
      have q12 : ∀ y : On wr, y.y.cell? ⟨b1, off1 + k * 5 + 2, none⟩ = some (.int .i64 p.s.y) := fun y => cell_on y.h (hc1 2 (by simp))
      have q13 : ∀ y : On wr, y.y.cell? ⟨b1, off1 + k * 5 + 3, none⟩ = some (.int .i64 p.s.c) := fun y => cell_on y.h (hc1 3 (by simp))
      have q14 : ∀ y : On wr, y.y.cell? ⟨b1, off1 + k * 5 + 4, none⟩ = some (vd1) := fun y => cell_on y.h (hc1 4 (by simp))
      have q20 : ∀ y : On wr, y.y.cell? ⟨b2, off2 + k * 5, none⟩ = some (.int .i64 p.proc) := fun y => cell_on y.h (hc2 0 (by simp))
      have q21 : ∀ y : On wr, y.y.cell? ⟨b2, off2 + k * 5 + 1, none⟩ = some (.int .i64 p.s.x) := fun y => cell_on y.h (hc2 1 (by simp))
      have q22 : ∀ y : On wr, y.y.cell? ⟨b2, off2 + k * 5 + 2, none⟩ = some (.int .i64 p.s.y) := fun y => cell_on y.h (hc2 2 (by simp))
      have q23 : ∀ y : On wr, y.y.cell? ⟨b2, off2 + k * 5 + 3, none⟩ = some (.int .i64 p.s.c) := fun y => cell_on y.h (hc2 3 (by simp))
      have q24 : ∀ y : On wr, y.y.cell? ⟨b2, off2 + k * 5 + 4, none⟩ = some (vd2) := fun y => cell_on y.h (hc2 4 (by simp))
      have r4 : ∀ y : On wr, y.y.cell? ⟨w.heap.size, 4, none⟩ = some (.slice (some ⟨b1, off1, none⟩) n.lanes.length alc) := fun y => cell_on y.h m4
      have s4 : ∀ y : On wr, y.y.cell? ⟨w.heap.size + 1, 4, none⟩ = some (.slice (some ⟨b2, off2, none⟩) n.lanes.length blc) := fun y => cell_on y.h o4
      have HP1 := hide hp1
      have HP2 := hide hp2
      clear hc1 hc2 hp1 hp2
      have kl : ∀ y : On wr, Calls Try.prog 68 #[laneAgg p.proc p.s vd1, laneAgg p.proc p.s vd2] y.y fun e w' => e = .returned (.bool true) ∧ Below y.y.heap.size y.y w' := fun y => ltLane_any _ _ _ _ p.ps y.y ((unhide HP1).on y.h) ((unhide HP2).on y.h)
      have hne : Nonempty (On wr) := ⟨⟨wr, Below.refl _ _⟩⟩
      go_upto_region 6 with fail
      clear m4 o4
      refine wp_region_on (by kernel_rfl) (by kernel_rfl) ?_
      repeat (first | go_big_quiet_step ((first | (go_at_call 68; exact calls_on (kl _)))) | quiet_step ((first | (go_at_call 68; exact calls_on (kl _)))))
      refine wpQuiet_nil ?_
      intro _ hw'
      obtain ⟨nq, hw''⟩ := hw'
      subst hw''
      go_wp2_with fail
      go_roundw
      case rel => exact ⟨k + 1, by omega, by simp, below_then hb nq.h⟩
      case measure => (simp [intOf]; try omega)
    · have hkI : ¬ (k : Int) < (n.lanes.length : Int) := by omega
      go_wp2_with fail
      go_ret
      exact ⟨rfl, below_then (unhide HB0) hb⟩

set_option maxRecDepth 100000 in
set_option maxHeartbeats 4000000 in
theorem ltKept_any (n : NodeV) (vl vk vo vv vn ul uk uo uv un : Value) (w : World) (h1 : NodeAt w n vl vk vo vv vn) (h2 : NodeAt w n ul uk uo uv un) :
    Calls Try.prog 32 #[nodeAgg n vl vk vo vv vn, nodeAgg n ul uk uo uv un] w fun e w' => e = .returned (.bool true) ∧ Below w.heap.size w w' := by
  have H1 := hide h1
  have H2 := hide h2
  obtain ⟨⟨al, alc, e1⟩, ⟨ak, akc, e2⟩, ⟨ao, aoc, e3⟩, ⟨av, avc, e4⟩, ⟨an, anc, e5⟩⟩ := h1.sliced
  subst e1 e2 e3 e4 e5
  obtain ⟨⟨bl, blc, e1⟩, ⟨bk, bkc, e2⟩, ⟨bo, boc, e3⟩, ⟨bv, bvc, e4⟩, ⟨bn, bnc, e5⟩⟩ := h2.sliced
  subst e1 e2 e3 e4 e5
  clear h1 h2
  have hqm : ∀ z : Int, (z != z) = false := by intro z; simp
  have hqe : ∀ z : Int, (z == z) = true := by intro z; simp
  have hqb : (n.up == n.up) = true := by simp
  have hb0 : Below w.heap.size w ((w.alloc (.cells #[.int .i64 n.id, .bool n.up, .int .i64 n.inc, .int .i64 n.g, .slice al n.lanes.length alc, .slice ak n.kept.length akc, .slice ao n.outs.length aoc, .int .i64 n.led, .int .i64 n.ver, .slice av n.views.length avc, .slice an n.known.length anc, .int .i64 n.round, .int .i64 n.low] 31)).alloc (.cells #[.int .i64 n.id, .bool n.up, .int .i64 n.inc, .int .i64 n.g, .slice bl n.lanes.length blc, .slice bk n.kept.length bkc, .slice bo n.outs.length boc, .int .i64 n.led, .int .i64 n.ver, .slice bv n.views.length bvc, .slice bn n.known.length bnc, .int .i64 n.round, .int .i64 n.low] 31)) := ((Below.refl _ _).alloc (Nat.le_refl _) _).alloc (by simp) _
  have cA : CellsAt ((w.alloc (.cells #[.int .i64 n.id, .bool n.up, .int .i64 n.inc, .int .i64 n.g, .slice al n.lanes.length alc, .slice ak n.kept.length akc, .slice ao n.outs.length aoc, .int .i64 n.led, .int .i64 n.ver, .slice av n.views.length avc, .slice an n.known.length anc, .int .i64 n.round, .int .i64 n.low] 31)).alloc (.cells #[.int .i64 n.id, .bool n.up, .int .i64 n.inc, .int .i64 n.g, .slice bl n.lanes.length blc, .slice bk n.kept.length bkc, .slice bo n.outs.length boc, .int .i64 n.led, .int .i64 n.ver, .slice bv n.views.length bvc, .slice bn n.known.length bnc, .int .i64 n.round, .int .i64 n.low] 31)) w.heap.size 0 [.int .i64 n.id, .bool n.up, .int .i64 n.inc, .int .i64 n.g, .slice al n.lanes.length alc, .slice ak n.kept.length akc, .slice ao n.outs.length aoc, .int .i64 n.led, .int .i64 n.ver, .slice av n.views.length avc, .slice an n.known.length anc, .int .i64 n.round, .int .i64 n.low] := (cellsAt_new w [.int .i64 n.id, .bool n.up, .int .i64 n.inc, .int .i64 n.g, .slice al n.lanes.length alc, .slice ak n.kept.length akc, .slice ao n.outs.length aoc, .int .i64 n.led, .int .i64 n.ver, .slice av n.views.length avc, .slice an n.known.length anc, .int .i64 n.round, .int .i64 n.low] 31).on ((Below.refl _ _).alloc (Nat.le_refl _) _)
  have cB : CellsAt ((w.alloc (.cells #[.int .i64 n.id, .bool n.up, .int .i64 n.inc, .int .i64 n.g, .slice al n.lanes.length alc, .slice ak n.kept.length akc, .slice ao n.outs.length aoc, .int .i64 n.led, .int .i64 n.ver, .slice av n.views.length avc, .slice an n.known.length anc, .int .i64 n.round, .int .i64 n.low] 31)).alloc (.cells #[.int .i64 n.id, .bool n.up, .int .i64 n.inc, .int .i64 n.g, .slice bl n.lanes.length blc, .slice bk n.kept.length bkc, .slice bo n.outs.length boc, .int .i64 n.led, .int .i64 n.ver, .slice bv n.views.length bvc, .slice bn n.known.length bnc, .int .i64 n.round, .int .i64 n.low] 31)) (w.heap.size + 1) 0 [.int .i64 n.id, .bool n.up, .int .i64 n.inc, .int .i64 n.g, .slice bl n.lanes.length blc, .slice bk n.kept.length bkc, .slice bo n.outs.length boc, .int .i64 n.led, .int .i64 n.ver, .slice bv n.views.length bvc, .slice bn n.known.length bnc, .int .i64 n.round, .int .i64 n.low] := by
    have e := cellsAt_new (w.alloc (.cells #[.int .i64 n.id, .bool n.up, .int .i64 n.inc, .int .i64 n.g, .slice al n.lanes.length alc, .slice ak n.kept.length akc, .slice ao n.outs.length aoc, .int .i64 n.led, .int .i64 n.ver, .slice av n.views.length avc, .slice an n.known.length anc, .int .i64 n.round, .int .i64 n.low] 31)) [.int .i64 n.id, .bool n.up, .int .i64 n.inc, .int .i64 n.g, .slice bl n.lanes.length blc, .slice bk n.kept.length bkc, .slice bo n.outs.length boc, .int .i64 n.led, .int .i64 n.ver, .slice bv n.views.length bvc, .slice bn n.known.length bnc, .int .i64 n.round, .int .i64 n.low] 31
    have hs : (w.alloc (.cells #[.int .i64 n.id, .bool n.up, .int .i64 n.inc, .int .i64 n.g, .slice al n.lanes.length alc, .slice ak n.kept.length akc, .slice ao n.outs.length aoc, .int .i64 n.led, .int .i64 n.ver, .slice av n.views.length avc, .slice an n.known.length anc, .int .i64 n.round, .int .i64 n.low] 31)).heap.size = w.heap.size + 1 := by simp
    rw [hs] at e
    exact e
  have HB0 := hide hb0
  have HA := hide cA
  have HC := hide cB
  clear hb0 cA cB
  go_enter Try.func32, Try.ntmps32
  go_upto_region 1 with fail
  generalize ((w.alloc (.cells #[.int .i64 n.id, .bool n.up, .int .i64 n.inc, .int .i64 n.g, .slice al n.lanes.length alc, .slice ak n.kept.length akc, .slice ao n.outs.length aoc, .int .i64 n.led, .int .i64 n.ver, .slice av n.views.length avc, .slice an n.known.length anc, .int .i64 n.round, .int .i64 n.low] 31)).alloc (.cells #[.int .i64 n.id, .bool n.up, .int .i64 n.inc, .int .i64 n.g, .slice bl n.lanes.length blc, .slice bk n.kept.length bkc, .slice bo n.outs.length boc, .int .i64 n.led, .int .i64 n.ver, .slice bv n.views.length bvc, .slice bn n.known.length bnc, .int .i64 n.round, .int .i64 n.low] 31)) = X at *
  have k0 : X.cell? ⟨w.heap.size, 0, none⟩ = some (.int .i64 n.id) := (unhide HA) 0 (by simp)
  have k1 : X.cell? ⟨w.heap.size, 1, none⟩ = some (.bool n.up) := (unhide HA) 1 (by simp)
  have k2 : X.cell? ⟨w.heap.size, 2, none⟩ = some (.int .i64 n.inc) := (unhide HA) 2 (by simp)
  have k3 : X.cell? ⟨w.heap.size, 3, none⟩ = some (.int .i64 n.g) := (unhide HA) 3 (by simp)
  have k4 : X.cell? ⟨w.heap.size, 4, none⟩ = some (.slice al n.lanes.length alc) := (unhide HA) 4 (by simp)
  have k5 : X.cell? ⟨w.heap.size, 5, none⟩ = some (.slice ak n.kept.length akc) := (unhide HA) 5 (by simp)
  have k6 : X.cell? ⟨w.heap.size, 6, none⟩ = some (.slice ao n.outs.length aoc) := (unhide HA) 6 (by simp)
  have k7 : X.cell? ⟨w.heap.size, 7, none⟩ = some (.int .i64 n.led) := (unhide HA) 7 (by simp)
  have k8 : X.cell? ⟨w.heap.size, 8, none⟩ = some (.int .i64 n.ver) := (unhide HA) 8 (by simp)
  have k9 : X.cell? ⟨w.heap.size, 9, none⟩ = some (.slice av n.views.length avc) := (unhide HA) 9 (by simp)
  have k10 : X.cell? ⟨w.heap.size, 10, none⟩ = some (.slice an n.known.length anc) := (unhide HA) 10 (by simp)
  have k11 : X.cell? ⟨w.heap.size, 11, none⟩ = some (.int .i64 n.round) := (unhide HA) 11 (by simp)
  have k12 : X.cell? ⟨w.heap.size, 12, none⟩ = some (.int .i64 n.low) := (unhide HA) 12 (by simp)
  have l0 : X.cell? ⟨w.heap.size + 1, 0, none⟩ = some (.int .i64 n.id) := (unhide HC) 0 (by simp)
  have l1 : X.cell? ⟨w.heap.size + 1, 1, none⟩ = some (.bool n.up) := (unhide HC) 1 (by simp)
  have l2 : X.cell? ⟨w.heap.size + 1, 2, none⟩ = some (.int .i64 n.inc) := (unhide HC) 2 (by simp)
  have l3 : X.cell? ⟨w.heap.size + 1, 3, none⟩ = some (.int .i64 n.g) := (unhide HC) 3 (by simp)
  have l4 : X.cell? ⟨w.heap.size + 1, 4, none⟩ = some (.slice bl n.lanes.length blc) := (unhide HC) 4 (by simp)
  have l5 : X.cell? ⟨w.heap.size + 1, 5, none⟩ = some (.slice bk n.kept.length bkc) := (unhide HC) 5 (by simp)
  have l6 : X.cell? ⟨w.heap.size + 1, 6, none⟩ = some (.slice bo n.outs.length boc) := (unhide HC) 6 (by simp)
  have l7 : X.cell? ⟨w.heap.size + 1, 7, none⟩ = some (.int .i64 n.led) := (unhide HC) 7 (by simp)
  have l8 : X.cell? ⟨w.heap.size + 1, 8, none⟩ = some (.int .i64 n.ver) := (unhide HC) 8 (by simp)
  have l9 : X.cell? ⟨w.heap.size + 1, 9, none⟩ = some (.slice bv n.views.length bvc) := (unhide HC) 9 (by simp)
  have l10 : X.cell? ⟨w.heap.size + 1, 10, none⟩ = some (.slice bn n.known.length bnc) := (unhide HC) 10 (by simp)
  have l11 : X.cell? ⟨w.heap.size + 1, 11, none⟩ = some (.int .i64 n.round) := (unhide HC) 11 (by simp)
  have l12 : X.cell? ⟨w.heap.size + 1, 12, none⟩ = some (.int .i64 n.low) := (unhide HC) 12 (by simp)
  have hB := unhide HB0
  have hne0 : ((n.lanes.length : Int) != (n.lanes.length : Int)) = false := by simp
  go_wp2_with fail
  refine (ltEvents_any _ _ n.kept _ ((unhide H1).k.on hB) ((unhide H2).k.on hB)).mono ?_
  rintro e w1 ⟨rfl, hb1⟩
  replace k4 := cell_on hb1 k4
  replace l4 := cell_on hb1 l4
  replace k6 := cell_on hb1 k6
  replace l6 := cell_on hb1 l6
  replace hB := below_then hB hb1
  clear hb1
  go_wp2_with fail
  refine (ltOuts_any _ _ n.outs _ ((unhide H1).o.on hB) ((unhide H2).o.on hB)).mono ?_
  rintro e w2 ⟨rfl, hb2⟩
  replace k4 := cell_on hb2 k4
  replace l4 := cell_on hb2 l4
  replace hB := below_then hB hb2
  clear hb2
  obtain ⟨x1, x2, hx1, _, hm, hcl1⟩ := (unhide H1).l
  obtain ⟨y1, y2, hy1, _, _, hcl2⟩ := (unhide H2).l
  simp only [Value.slice.injEq, true_and] at hx1 hy1
  obtain ⟨rfl, rfl⟩ := hx1
  obtain ⟨rfl, rfl⟩ := hy1
  have HL1 := hide hcl1
  have HL2 := hide hcl2
  have HB2 := hide hB
  unfold maxLen at hm
  clear hcl1 hcl2 H1 H2 hB k0 k1 k2 k3 k5 k6 k7 k8 k9 k10 k11 k12 l0 l1 l2 l3 l5 l6 l7 l8 l9 l10 l11 l12
  go_wp2_with fail
  go_loopw [5] (fun i wr => ∃ k : Nat, k ≤ n.lanes.length ∧ i = .int .i64 k ∧ Below w2.heap.size w2 wr) (fun i _ => n.lanes.length - (intOf i).toNat)
  case atStart => exact ⟨0, Nat.zero_le _, rfl, Below.refl _ _⟩
  case round =>
    obtain ⟨k, hk, rfl, hb⟩ := hrel
    have m4 := cell_on hb k4
    have o4 := cell_on hb l4
    by_cases hlt : k < n.lanes.length
    · obtain ⟨b1, off1, vd1, had1, hc1, hp1⟩ : ∃ b off vd, al = some ⟨b, off, none⟩ ∧ CellsAt wr b (off + k * 5) (laneCells n.lanes[k].proc n.lanes[k].s vd) ∧ PastsAt wr vd n.lanes[k].ps := by
        rcases unhide HL1 with h | ⟨b, off, h1, h2⟩
        · rw [h] at hlt; exact absurd hlt (Nat.not_lt_zero _)
        · obtain ⟨vd, h3, h4⟩ := h2 k hlt
          exact ⟨b, off, vd, h1, h3.on (below_then (unhide HB2) hb), h4.on (below_then (unhide HB2) hb)⟩
      obtain ⟨b2, off2, vd2, had2, hc2, hp2⟩ : ∃ b off vd, bl = some ⟨b, off, none⟩ ∧ CellsAt wr b (off + k * 5) (laneCells n.lanes[k].proc n.lanes[k].s vd) ∧ PastsAt wr vd n.lanes[k].ps := by
        rcases unhide HL2 with h | ⟨b, off, h1, h2⟩
        · rw [h] at hlt; exact absurd hlt (Nat.not_lt_zero _)
        · obtain ⟨vd, h3, h4⟩ := h2 k hlt
          exact ⟨b, off, vd, h1, h3.on (below_then (unhide HB2) hb), h4.on (below_then (unhide HB2) hb)⟩
      have hkI : (k : Int) < (n.lanes.length : Int) := by omega
      have hk0 : (0 : Int) ≤ (k : Int) := by omega
      subst had1 had2
      generalize n.lanes[k] = p at *
      have q10 : wr.cell? ⟨b1, off1 + k * 5, none⟩ = some (.int .i64 p.proc) := hc1 0 (by simp)
      have q20 : wr.cell? ⟨b2, off2 + k * 5, none⟩ = some (.int .i64 p.proc) := hc2 0 (by simp)
      have q11 : wr.cell? ⟨b1, off1 + k * 5 + 1, none⟩ = some (.int .i64 p.s.x) := hc1 1 (by simp)
      have q21 : wr.cell? ⟨b2, off2 + k * 5 + 1, none⟩ = some (.int .i64 p.s.x) := hc2 1 (by simp)
      have q12 : wr.cell? ⟨b1, off1 + k * 5 + 2, none⟩ = some (.int .i64 p.s.y) := hc1 2 (by simp)
      have q22 : wr.cell? ⟨b2, off2 + k * 5 + 2, none⟩ = some (.int .i64 p.s.y) := hc2 2 (by simp)
      have q13 : wr.cell? ⟨b1, off1 + k * 5 + 3, none⟩ = some (.int .i64 p.s.c) := hc1 3 (by simp)
      have q23 : wr.cell? ⟨b2, off2 + k * 5 + 3, none⟩ = some (.int .i64 p.s.c) := hc2 3 (by simp)
      clear hc1 hc2 hp1 hp2
      obtain ⟨rhst, hrhst⟩ := S.eq_st p.s p.s
      have hrthst : rhst = true := hrhst.iff.2 rfl
      subst hrthst
      have hghst := S.guard_st
      have hst : ∀ w, (binOp .neq 34 (.agg #[.int .i64 p.s.x, .int .i64 p.s.y, .int .i64 p.s.c]) (.agg #[.int .i64 p.s.x, .int .i64 p.s.y, .int .i64 p.s.c])).run Try.prog w = .ok (.bool false) w := fun w => hrhst.neq w
      clear hrhst
      go_upto_region 6 with fail
      go_quiet (fail)
      go_wp2_with fail
      go_roundw
      case rel => exact ⟨k + 1, by omega, by simp, below_then hb (below_drewN (Below.refl _ _) _)⟩
      case measure => (simp [intOf]; try omega)
    · have hkI : ¬ (k : Int) < (n.lanes.length : Int) := by omega
      go_wp2_with fail
      go_ret
      exact ⟨rfl, below_then (unhide HB2) hb⟩

set_option maxRecDepth 100000 in
set_option maxHeartbeats 4000000 in
theorem ltNode_any (n : NodeV) (vl vk vo vv vn ul uk uo uv un : Value) (w : World) (h1 : NodeAt w n vl vk vo vv vn) (h2 : NodeAt w n ul uk uo uv un) :
    Calls Try.prog 11 #[nodeAgg n vl vk vo vv vn, nodeAgg n ul uk uo uv un] w fun e w' => e = .returned (.bool true) ∧ Below w.heap.size w w' := by
  have H1 := hide h1
  have H2 := hide h2
  obtain ⟨⟨al, alc, e1⟩, ⟨ak, akc, e2⟩, ⟨ao, aoc, e3⟩, ⟨av, avc, e4⟩, ⟨an, anc, e5⟩⟩ := h1.sliced
  subst e1 e2 e3 e4 e5
  obtain ⟨⟨bl, blc, e1⟩, ⟨bk, bkc, e2⟩, ⟨bo, boc, e3⟩, ⟨bv, bvc, e4⟩, ⟨bn, bnc, e5⟩⟩ := h2.sliced
  subst e1 e2 e3 e4 e5
  clear h1 h2
  have hqm : ∀ z : Int, (z != z) = false := by intro z; simp
  have hqe : ∀ z : Int, (z == z) = true := by intro z; simp
  have hqb : (n.up == n.up) = true := by simp
  have hb0 : Below w.heap.size w ((w.alloc (.cells #[.int .i64 n.id, .bool n.up, .int .i64 n.inc, .int .i64 n.g, .slice al n.lanes.length alc, .slice ak n.kept.length akc, .slice ao n.outs.length aoc, .int .i64 n.led, .int .i64 n.ver, .slice av n.views.length avc, .slice an n.known.length anc, .int .i64 n.round, .int .i64 n.low] 31)).alloc (.cells #[.int .i64 n.id, .bool n.up, .int .i64 n.inc, .int .i64 n.g, .slice bl n.lanes.length blc, .slice bk n.kept.length bkc, .slice bo n.outs.length boc, .int .i64 n.led, .int .i64 n.ver, .slice bv n.views.length bvc, .slice bn n.known.length bnc, .int .i64 n.round, .int .i64 n.low] 31)) := ((Below.refl _ _).alloc (Nat.le_refl _) _).alloc (by simp) _
  have cA : CellsAt ((w.alloc (.cells #[.int .i64 n.id, .bool n.up, .int .i64 n.inc, .int .i64 n.g, .slice al n.lanes.length alc, .slice ak n.kept.length akc, .slice ao n.outs.length aoc, .int .i64 n.led, .int .i64 n.ver, .slice av n.views.length avc, .slice an n.known.length anc, .int .i64 n.round, .int .i64 n.low] 31)).alloc (.cells #[.int .i64 n.id, .bool n.up, .int .i64 n.inc, .int .i64 n.g, .slice bl n.lanes.length blc, .slice bk n.kept.length bkc, .slice bo n.outs.length boc, .int .i64 n.led, .int .i64 n.ver, .slice bv n.views.length bvc, .slice bn n.known.length bnc, .int .i64 n.round, .int .i64 n.low] 31)) w.heap.size 0 [.int .i64 n.id, .bool n.up, .int .i64 n.inc, .int .i64 n.g, .slice al n.lanes.length alc, .slice ak n.kept.length akc, .slice ao n.outs.length aoc, .int .i64 n.led, .int .i64 n.ver, .slice av n.views.length avc, .slice an n.known.length anc, .int .i64 n.round, .int .i64 n.low] := (cellsAt_new w [.int .i64 n.id, .bool n.up, .int .i64 n.inc, .int .i64 n.g, .slice al n.lanes.length alc, .slice ak n.kept.length akc, .slice ao n.outs.length aoc, .int .i64 n.led, .int .i64 n.ver, .slice av n.views.length avc, .slice an n.known.length anc, .int .i64 n.round, .int .i64 n.low] 31).on ((Below.refl _ _).alloc (Nat.le_refl _) _)
  have cB : CellsAt ((w.alloc (.cells #[.int .i64 n.id, .bool n.up, .int .i64 n.inc, .int .i64 n.g, .slice al n.lanes.length alc, .slice ak n.kept.length akc, .slice ao n.outs.length aoc, .int .i64 n.led, .int .i64 n.ver, .slice av n.views.length avc, .slice an n.known.length anc, .int .i64 n.round, .int .i64 n.low] 31)).alloc (.cells #[.int .i64 n.id, .bool n.up, .int .i64 n.inc, .int .i64 n.g, .slice bl n.lanes.length blc, .slice bk n.kept.length bkc, .slice bo n.outs.length boc, .int .i64 n.led, .int .i64 n.ver, .slice bv n.views.length bvc, .slice bn n.known.length bnc, .int .i64 n.round, .int .i64 n.low] 31)) (w.heap.size + 1) 0 [.int .i64 n.id, .bool n.up, .int .i64 n.inc, .int .i64 n.g, .slice bl n.lanes.length blc, .slice bk n.kept.length bkc, .slice bo n.outs.length boc, .int .i64 n.led, .int .i64 n.ver, .slice bv n.views.length bvc, .slice bn n.known.length bnc, .int .i64 n.round, .int .i64 n.low] := by
    have e := cellsAt_new (w.alloc (.cells #[.int .i64 n.id, .bool n.up, .int .i64 n.inc, .int .i64 n.g, .slice al n.lanes.length alc, .slice ak n.kept.length akc, .slice ao n.outs.length aoc, .int .i64 n.led, .int .i64 n.ver, .slice av n.views.length avc, .slice an n.known.length anc, .int .i64 n.round, .int .i64 n.low] 31)) [.int .i64 n.id, .bool n.up, .int .i64 n.inc, .int .i64 n.g, .slice bl n.lanes.length blc, .slice bk n.kept.length bkc, .slice bo n.outs.length boc, .int .i64 n.led, .int .i64 n.ver, .slice bv n.views.length bvc, .slice bn n.known.length bnc, .int .i64 n.round, .int .i64 n.low] 31
    have hs : (w.alloc (.cells #[.int .i64 n.id, .bool n.up, .int .i64 n.inc, .int .i64 n.g, .slice al n.lanes.length alc, .slice ak n.kept.length akc, .slice ao n.outs.length aoc, .int .i64 n.led, .int .i64 n.ver, .slice av n.views.length avc, .slice an n.known.length anc, .int .i64 n.round, .int .i64 n.low] 31)).heap.size = w.heap.size + 1 := by simp
    rw [hs] at e
    exact e
  have HB0 := hide hb0
  have HA := hide cA
  have HC := hide cB
  clear hb0 cA cB
  go_enter Try.func11, Try.ntmps11
  go_upto_region 1 with fail
  generalize ((w.alloc (.cells #[.int .i64 n.id, .bool n.up, .int .i64 n.inc, .int .i64 n.g, .slice al n.lanes.length alc, .slice ak n.kept.length akc, .slice ao n.outs.length aoc, .int .i64 n.led, .int .i64 n.ver, .slice av n.views.length avc, .slice an n.known.length anc, .int .i64 n.round, .int .i64 n.low] 31)).alloc (.cells #[.int .i64 n.id, .bool n.up, .int .i64 n.inc, .int .i64 n.g, .slice bl n.lanes.length blc, .slice bk n.kept.length bkc, .slice bo n.outs.length boc, .int .i64 n.led, .int .i64 n.ver, .slice bv n.views.length bvc, .slice bn n.known.length bnc, .int .i64 n.round, .int .i64 n.low] 31)) = X at *
  have k0 : X.cell? ⟨w.heap.size, 0, none⟩ = some (.int .i64 n.id) := (unhide HA) 0 (by simp)
  have k1 : X.cell? ⟨w.heap.size, 1, none⟩ = some (.bool n.up) := (unhide HA) 1 (by simp)
  have k2 : X.cell? ⟨w.heap.size, 2, none⟩ = some (.int .i64 n.inc) := (unhide HA) 2 (by simp)
  have k3 : X.cell? ⟨w.heap.size, 3, none⟩ = some (.int .i64 n.g) := (unhide HA) 3 (by simp)
  have k4 : X.cell? ⟨w.heap.size, 4, none⟩ = some (.slice al n.lanes.length alc) := (unhide HA) 4 (by simp)
  have k5 : X.cell? ⟨w.heap.size, 5, none⟩ = some (.slice ak n.kept.length akc) := (unhide HA) 5 (by simp)
  have k6 : X.cell? ⟨w.heap.size, 6, none⟩ = some (.slice ao n.outs.length aoc) := (unhide HA) 6 (by simp)
  have k7 : X.cell? ⟨w.heap.size, 7, none⟩ = some (.int .i64 n.led) := (unhide HA) 7 (by simp)
  have k8 : X.cell? ⟨w.heap.size, 8, none⟩ = some (.int .i64 n.ver) := (unhide HA) 8 (by simp)
  have k9 : X.cell? ⟨w.heap.size, 9, none⟩ = some (.slice av n.views.length avc) := (unhide HA) 9 (by simp)
  have k10 : X.cell? ⟨w.heap.size, 10, none⟩ = some (.slice an n.known.length anc) := (unhide HA) 10 (by simp)
  have k11 : X.cell? ⟨w.heap.size, 11, none⟩ = some (.int .i64 n.round) := (unhide HA) 11 (by simp)
  have k12 : X.cell? ⟨w.heap.size, 12, none⟩ = some (.int .i64 n.low) := (unhide HA) 12 (by simp)
  have l0 : X.cell? ⟨w.heap.size + 1, 0, none⟩ = some (.int .i64 n.id) := (unhide HC) 0 (by simp)
  have l1 : X.cell? ⟨w.heap.size + 1, 1, none⟩ = some (.bool n.up) := (unhide HC) 1 (by simp)
  have l2 : X.cell? ⟨w.heap.size + 1, 2, none⟩ = some (.int .i64 n.inc) := (unhide HC) 2 (by simp)
  have l3 : X.cell? ⟨w.heap.size + 1, 3, none⟩ = some (.int .i64 n.g) := (unhide HC) 3 (by simp)
  have l4 : X.cell? ⟨w.heap.size + 1, 4, none⟩ = some (.slice bl n.lanes.length blc) := (unhide HC) 4 (by simp)
  have l5 : X.cell? ⟨w.heap.size + 1, 5, none⟩ = some (.slice bk n.kept.length bkc) := (unhide HC) 5 (by simp)
  have l6 : X.cell? ⟨w.heap.size + 1, 6, none⟩ = some (.slice bo n.outs.length boc) := (unhide HC) 6 (by simp)
  have l7 : X.cell? ⟨w.heap.size + 1, 7, none⟩ = some (.int .i64 n.led) := (unhide HC) 7 (by simp)
  have l8 : X.cell? ⟨w.heap.size + 1, 8, none⟩ = some (.int .i64 n.ver) := (unhide HC) 8 (by simp)
  have l9 : X.cell? ⟨w.heap.size + 1, 9, none⟩ = some (.slice bv n.views.length bvc) := (unhide HC) 9 (by simp)
  have l10 : X.cell? ⟨w.heap.size + 1, 10, none⟩ = some (.slice bn n.known.length bnc) := (unhide HC) 10 (by simp)
  have l11 : X.cell? ⟨w.heap.size + 1, 11, none⟩ = some (.int .i64 n.round) := (unhide HC) 11 (by simp)
  have l12 : X.cell? ⟨w.heap.size + 1, 12, none⟩ = some (.int .i64 n.low) := (unhide HC) 12 (by simp)
  have hB := unhide HB0
  go_wp2_with fail
  refine (ltKept_any n _ _ _ _ _ _ _ _ _ _ _ ((unhide H1).on hB) ((unhide H2).on hB)).mono ?_
  rintro e w1 ⟨rfl, hb1⟩
  replace k0 := cell_on hb1 k0
  replace l0 := cell_on hb1 l0
  replace k1 := cell_on hb1 k1
  replace l1 := cell_on hb1 l1
  replace k2 := cell_on hb1 k2
  replace l2 := cell_on hb1 l2
  replace k3 := cell_on hb1 k3
  replace l3 := cell_on hb1 l3
  replace k4 := cell_on hb1 k4
  replace l4 := cell_on hb1 l4
  replace k5 := cell_on hb1 k5
  replace l5 := cell_on hb1 l5
  replace k6 := cell_on hb1 k6
  replace l6 := cell_on hb1 l6
  replace k7 := cell_on hb1 k7
  replace l7 := cell_on hb1 l7
  replace k8 := cell_on hb1 k8
  replace l8 := cell_on hb1 l8
  replace k9 := cell_on hb1 k9
  replace l9 := cell_on hb1 l9
  replace k10 := cell_on hb1 k10
  replace l10 := cell_on hb1 l10
  replace k11 := cell_on hb1 k11
  replace l11 := cell_on hb1 l11
  replace k12 := cell_on hb1 k12
  replace l12 := cell_on hb1 l12
  replace hB := below_then hB hb1
  clear hb1
  go_wp2_with fail
  refine (ltDone_any n _ _ _ _ _ _ _ _ _ _ _ ((unhide H1).on hB) ((unhide H2).on hB)).mono ?_
  rintro e w2 ⟨rfl, hb2⟩
  replace k8 := cell_on hb2 k8
  replace l8 := cell_on hb2 l8
  replace k9 := cell_on hb2 k9
  replace l9 := cell_on hb2 l9
  replace k10 := cell_on hb2 k10
  replace l10 := cell_on hb2 l10
  replace k11 := cell_on hb2 k11
  replace l11 := cell_on hb2 l11
  replace k12 := cell_on hb2 k12
  replace l12 := cell_on hb2 l12
  replace hB := below_then hB hb2
  clear hb2
  go_wp2_with fail
  refine (ltViews_any _ _ n.views _ ((unhide H1).v.on hB) ((unhide H2).v.on hB)).mono ?_
  rintro e w3 ⟨rfl, hb3⟩
  replace k10 := cell_on hb3 k10
  replace l10 := cell_on hb3 l10
  replace k11 := cell_on hb3 k11
  replace l11 := cell_on hb3 l11
  replace k12 := cell_on hb3 k12
  replace l12 := cell_on hb3 l12
  replace hB := below_then hB hb3
  clear hb3
  go_wp2_with fail
  refine (ltInts_any _ _ n.known _ ((unhide H1).n.on hB) ((unhide H2).n.on hB)).mono ?_
  rintro e w4 ⟨rfl, hb4⟩
  replace k11 := cell_on hb4 k11
  replace l11 := cell_on hb4 l11
  replace k12 := cell_on hb4 k12
  replace l12 := cell_on hb4 l12
  replace hB := below_then hB hb4
  clear hb4
  go_wp2_with fail
  go_ret
  exact ⟨rfl, hB⟩
end Go.Proofs.Ytimkamgghkjhhaa.L
