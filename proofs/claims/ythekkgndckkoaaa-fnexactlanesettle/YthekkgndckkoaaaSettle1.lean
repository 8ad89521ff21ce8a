/- impl.LaneSettle. -/
import Derived.Test.YthekkgndckkoaaaSettle0
namespace Go.Proofs.Ythekkgndckkoaaa
open Go.RowKit
set_option linter.unusedVariables false
set_option linter.unusedSimpArgs false

set_option maxRecDepth 100000 in
set_option maxHeartbeats 4000000 in
theorem implLaneSettle_any (proc : Int) (s : StV) (vd : Value) (ps : List PastV) (u : Int) (n : Nat) (w : World) (hn : Due ps u n) (hd : PastsAt w vd ps) :
    Calls Try.prog 28 #[laneAgg proc s vd, .int .i64 u] w fun e w' => ∃ v' ve vo zs ys M1 M2, e = .returned (.tuple #[laneAgg (laneSettle proc s ps n).1.1 (laneSettle proc s ps n).1.2.1 v', ve, vo]) ∧ Settled w.heap.size w' v' ve vo (laneSettle proc s ps n).1.2.2 (laneSettle proc s ps n).2.1 (laneSettle proc s ps n).2.2 zs ys M1 M2 ∧ Below w.heap.size w w' := by
  obtain ⟨i7, hi7, hz70, hz71, hz72⟩ := infoT_parts info_cpEvent
  obtain ⟨i5, hi5, hz50, hz51, hz52⟩ := infoT_parts info_cpOut
  have HN := hide hn
  have HD := hide hd
  obtain ⟨a1, c1, e1, _, hm, _⟩ := hd
  subst e1
  unfold maxLen at hm
  have hb0 : Below w.heap.size w ((w.alloc (.cells #[.int .i64 proc, .int .i64 s.x, .int .i64 s.y, .int .i64 s.c, .slice a1 ps.length c1] 32)).alloc (.cells #[.int .i64 0, .int .i64 0, .int .i64 0, .int .i64 0, .slice none 0 0] 32)) := ((Below.refl _ _).alloc (Nat.le_refl _) _).alloc (by simp) _
  have cA : CellsAt ((w.alloc (.cells #[.int .i64 proc, .int .i64 s.x, .int .i64 s.y, .int .i64 s.c, .slice a1 ps.length c1] 32)).alloc (.cells #[.int .i64 0, .int .i64 0, .int .i64 0, .int .i64 0, .slice none 0 0] 32)) w.heap.size 0 (laneCells proc s (.slice a1 ps.length c1)) := (cellsAt_new w (laneCells proc s (.slice a1 ps.length c1)) 32).on ((Below.refl _ _).alloc (Nat.le_refl _) _)
  have rB : ((w.alloc (.cells #[.int .i64 proc, .int .i64 s.x, .int .i64 s.y, .int .i64 s.c, .slice a1 ps.length c1] 32)).alloc (.cells #[.int .i64 0, .int .i64 0, .int .i64 0, .int .i64 0, .slice none 0 0] 32)).rowIs (w.heap.size + 1) 32 5 (fun i => [Value.int .i64 0, .int .i64 0, .int .i64 0, .int .i64 0, .slice none 0 0].getD i undef) := by
    have e := row_new (w.alloc (.cells #[.int .i64 proc, .int .i64 s.x, .int .i64 s.y, .int .i64 s.c, .slice a1 ps.length c1] 32)) [Value.int .i64 0, .int .i64 0, .int .i64 0, .int .i64 0, .slice none 0 0] 32
    have hs : (w.alloc (.cells #[.int .i64 proc, .int .i64 s.x, .int .i64 s.y, .int .i64 s.c, .slice a1 ps.length c1] 32)).heap.size = w.heap.size + 1 := by simp
    rw [hs] at e
    exact e
  have hs0 : ((w.alloc (.cells #[.int .i64 proc, .int .i64 s.x, .int .i64 s.y, .int .i64 s.c, .slice a1 ps.length c1] 32)).alloc (.cells #[.int .i64 0, .int .i64 0, .int .i64 0, .int .i64 0, .slice none 0 0] 32)).heap.size = w.heap.size + 2 := by simp
  have HA := hide cA
  have HB0 := hide hb0
  have HR := hide rB
  have HS0 := hide hs0
  clear hb0 cA rB hn hs0
  go_enter Try.func28, Try.ntmps28
  go_upto_region 1 with fail
  generalize ((w.alloc (.cells #[.int .i64 proc, .int .i64 s.x, .int .i64 s.y, .int .i64 s.c, .slice a1 ps.length c1] 32)).alloc (.cells #[.int .i64 0, .int .i64 0, .int .i64 0, .int .i64 0, .slice none 0 0] 32)) = X at *
  have k0 : X.cell? ⟨w.heap.size, 0, none⟩ = some (.int .i64 proc) := (unhide HA) 0 (by simp)
  have k1 : X.cell? ⟨w.heap.size, 1, none⟩ = some (.int .i64 s.x) := (unhide HA) 1 (by simp)
  have k2 : X.cell? ⟨w.heap.size, 2, none⟩ = some (.int .i64 s.y) := (unhide HA) 2 (by simp)
  have k3 : X.cell? ⟨w.heap.size, 3, none⟩ = some (.int .i64 s.c) := (unhide HA) 3 (by simp)
  have k4 : X.cell? ⟨w.heap.size, 4, none⟩ = some (.slice a1 ps.length c1) := (unhide HA) 4 (by simp)
  go_wp2_with fail
  refine (implLaneOk_any proc s _ ps X ((unhide HD).on (unhide HB0))).mono ?_
  rintro e w2 ⟨rfl, hb1⟩
  have hB1 := below_then (unhide HB0) hb1
  replace k0 := cell_on hb1 k0
  replace k1 := cell_on hb1 k1
  replace k2 := cell_on hb1 k2
  replace k3 := cell_on hb1 k3
  replace k4 := cell_on hb1 k4
  cases hok : laneOk proc s ps
  · have HOK := hide hok
    clear hok
    have hrx := (unhide HR).of_block ((hb1).block (w.heap.size + 1) (unhide HR).lt)
    have y0 : w2.cell? ⟨w.heap.size + 1, 0, none⟩ = some (.int .i64 0) := hrx.cell (i := 0) (by omega)
    have y1 : w2.cell? ⟨w.heap.size + 1, 1, none⟩ = some (.int .i64 0) := hrx.cell (i := 1) (by omega)
    have y2 : w2.cell? ⟨w.heap.size + 1, 2, none⟩ = some (.int .i64 0) := hrx.cell (i := 2) (by omega)
    have y3 : w2.cell? ⟨w.heap.size + 1, 3, none⟩ = some (.int .i64 0) := hrx.cell (i := 3) (by omega)
    have y4 : w2.cell? ⟨w.heap.size + 1, 4, none⟩ = some (.slice none 0 0) := hrx.cell (i := 4) (by omega)
    have z0 := hrx.frozen 0
    have z1 := hrx.frozen 1
    have z2 := hrx.frozen 2
    have z3 := hrx.frozen 3
    have z4 := hrx.frozen 4
    clear hrx
    have hs1 := hb1.size
    have HS1 : Hid (w.heap.size + 2 ≤ w2.heap.size) := hide (by have := unhide HS0; omega)
    clear hs1
    go_wp2_with fail
    have hE : laneSettle proc s ps n = ((0, ⟨0, 0, 0⟩, []), [], []) := by rw [laneSettle, if_neg (by simp [unhide HOK])]
    refine bodyPost_ret (v := .tuple #[laneAgg 0 ⟨0, 0, 0⟩ (.slice none 0 0), .slice none 0 0, .slice none 0 0]) (by simp [results, Try.results28, go_sem, y0, y1, y2, y3, y4]) rfl ⟨.slice none 0 0, .slice none 0 0, .slice none 0 0, [], [], w.heap.size, w.heap.size, ?_, ?_, ?_⟩
    · rw [hE]
    · rw [hE]
      exact ⟨⟨[], Or.inl ⟨rfl, rfl, rfl⟩, by simp [blocksOf, Value.ownBlock]⟩, Or.inl ⟨rfl, rfl⟩, fun g hg => by simp [Value.ownBlock] at hg, Nat.le_refl _, Or.inl ⟨rfl, rfl⟩, by show w.heap.size ≤ (setVals w2 (w.heap.size + 1) 0 [Value.int .i64 0, .int .i64 0, .int .i64 0, .int .i64 0, .slice none 0 0]).heap.size; rw [setVals_size]; have := unhide HS1; omega, List.Pairwise.nil, fun a => Iff.rfl, List.Perm.refl _, List.Pairwise.nil, Nat.le_refl _⟩
    · exact ((((hB1.setCell (by simp) _).setCell (by simp) _).setCell (by simp) _).setCell (by simp) _).setCell (by simp) _
  have HOK := hide hok
  have HLL := hide (lane_lens hok)
  clear hok
  go_wp2_with fail
  refine (linkLane_any proc s _ ps w2 ((unhide HD).on hB1)).mono ?_
  rintro e w3 ⟨g, gs, rfl, hch, hb23⟩
  have HX3 := hide (below_then hb1 hb23)
  have HB23 := hide hb23
  have HCH := hide hch
  have hgl : gs.length = ps.length := by have := hch.len; simpa using this
  have HPW := hide ((unhide HD).on hB1)
  clear k0 k1 k2 k3 k4 hb1 hB1 hch hb23
  go_wp2_with fail
  go_loopw [7, 8, 9] (fun l a8 a9 wr => ∃ (k g2 : Nat) (v8 v9 : Value) (hk : k < (g :: gs).length), l = .pointer (some ⟨g2, 0, none⟩) ∧ a8 = v8 ∧ a9 = v9 ∧ Hid (g2 = (g :: gs)[k]) ∧ Hid (∀ i (h : i < ps.length), i < k → ps[i].ev.time < u) ∧ Hid (wr.ownsRow w3.heap.size 41 7 v8 (allS ps k).length (flatCells ((allS ps k).map evRow))) ∧ Hid (wr.ownsRow w3.heap.size 92 5 v9 (allO ps k).length (flatCells ((allO ps k).map outRow))) ∧ Hid (Apart v8 v9) ∧ Hid (Below w3.heap.size w3 wr)) (fun l _ _ _ => match l with | .pointer (some a) => (g :: gs)[gs.length]'(by simp) - a.block | _ => 0)
  case atStart => exact ⟨0, g, _, _, by simp, rfl, rfl, rfl, hide rfl, hide (fun i _ h => absurd h (Nat.not_lt_zero _)), hide (World.ownsRow_nil w3 _ _ _), hide (World.ownsRow_nil w3 _ _ _), hide (fun g h => by simp [Value.ownBlock] at h), hide (Below.refl _ _)⟩
  case round =>
    obtain ⟨k, g2, v8, v9, hk, rfl, e8, e9, HG, HL, O8, O9, HAP, HB⟩ := hrel
    obtain rfl := e8.symm
    obtain rfl := e9.symm
    have HLK := hide (((unhide HCH).on (unhide HB)).node k hk (by simp at hk ⊢; omega))
    rw [← unhide HG] at HLK
    by_cases hlast : k = gs.length
    · have hnx : wr.cell? ⟨g2, 12, none⟩ = some (.pointer none) := by
        obtain ⟨_, _, _, h1, _⟩ := (unhide HLK).cells
        have e : (g :: gs)[k + 1]? = none := List.getElem?_eq_none (by simp; omega)
        rw [e] at h1
        exact h1
      have HDUE : Hid (Due ps u k) := hide ⟨by omega, unhide HL, fun h => by omega⟩
      clear hlast
      obtain rfl := (unhide HDUE).unique (unhide HN)
      have hkp := (unhide HDUE).hp
      have hps := (unhide HLL).1
      have hX : Below X.heap.size X wr := below_then (unhide HX3) (unhide HB)
      have k0 : wr.cell? ⟨w.heap.size, 0, none⟩ = some (.int .i64 proc) := ((unhide HA).on hX) 0 (by simp)
      have HX := hide hX
      clear hX
      go_wp2_with fail
      have hchd : Chain w2 w2.heap.size wr (g2 :: gs.drop k) ((baseQ s :: ps)[k]'(by simp; omega) :: ps.drop k) := by
        have h1 := ((unhide HCH).on (unhide HB)).drop k
        rw [List.drop_eq_getElem_cons (show k < (g :: gs).length by simp; omega), List.drop_eq_getElem_cons (show k < (baseQ s :: ps).length by simp; omega)] at h1
        rw [unhide HG]
        simpa using h1
      refine (unlinkLane_any w2 w2.heap.size proc g2 (gs.drop k) ((baseQ s :: ps)[k]'(by simp; omega)) (ps.drop k) wr hchd (below_then (unhide HB23) (unhide HB)) (by simp; omega) (fun p hp => by have := (unhide HLL).2 p (List.mem_of_mem_drop hp); omega)).mono ?_
      rintro e w5 ⟨v5, rfl, ho5, hb5⟩
      have hst : ((baseQ s :: ps)[k]'(by simp; omega)).st = stAt s ps k := by
        unfold stAt
        rw [List.getD_eq_getElem?_getD, List.getElem?_eq_getElem (by simp; omega), Option.getD_some]
      rw [hst]
      obtain ⟨t, ht⟩ : ∃ t, t = stAt s ps k := ⟨_, rfl⟩
      rw [← ht]
      have HT := hide ht
      obtain ⟨va, vc, hv5⟩ := ho5.at.sliced
      obtain ⟨dl, hdl⟩ : ∃ dl, dl = (ps.drop k).length := ⟨_, rfl⟩
      rw [← hdl] at hv5
      subst hv5
      have HO5 := hide ho5
      have HB5 := hide hb5
      have HX5 := hide (below_then (unhide HX) hb5)
      have hs5 := hb5.size
      have h8 := (unhide O8)
      have h8r := RowsFr.of_owns (rowlenEvent (allS ps k)) (by rw [List.length_map]; exact h8)
      have h9r := RowsFr.of_owns (rowlenOut (allO ps k)) (by rw [List.length_map]; exact unhide O9)
      have HE8 := hide (h8r.on hb5).at
      have HE9 := hide (h9r.on hb5).at
      have hl8 := (allS_len (unhide HLL).2 k hkp).1
      have hl9 := (allS_len (unhide HLL).2 k hkp).2
      clear hst ht ho5 hb5 hdl h8 h8r h9r k0 hchd
      go_wp2_with fail
      refine (E.implEventSort_any evLess_strict _ (allS ps k) w5 (unhide HE8) (by omega)).mono ?_
      rintro e w6 ⟨ve, zs, rfl, hup, hmem, _, hfe, hb6⟩
      have HFE := hide hfe
      have HB6 := hide hb6
      have HUP := hide hup
      have HMEM := hide hmem
      clear hfe hup hmem
      go_wp2_with fail
      refine (implOutSort_any outLess_strict _ (allO ps k) w6 ((unhide HE9).on hb6) (by omega)).mono ?_
      rintro e w7 ⟨vo, ys, rfl, hperm, hasc, hfo, hb7⟩
      have HFO := hide hfo
      have HX7 := hide (below_then (unhide HX5) (below_then hb6 hb7))
      have HFE7 := hide ((unhide HFE).on hb7)
      have HO7 := hide ((unhide HO5).on (below_then hb6 hb7))
      have hs6 := hb6.size
      have hs7 := hb7.size
      have hsX : X.heap.size ≤ wr.heap.size := (unhide HX).size
      have hs0 := unhide HS0
      have HPERM := hide hperm
      have HASC := hide hasc
      have HBE := hide (fun g (hg : ve.ownBlock = some g) => ((unhide HFE).blk g hg).2)
      clear hperm hasc hfo hb6 hb7
      have hrx := (unhide HR).of_block (((unhide HX7)).block (w.heap.size + 1) (unhide HR).lt)
      have y0 : w7.cell? ⟨w.heap.size + 1, 0, none⟩ = some (.int .i64 0) := hrx.cell (i := 0) (by omega)
      have y1 : w7.cell? ⟨w.heap.size + 1, 1, none⟩ = some (.int .i64 0) := hrx.cell (i := 1) (by omega)
      have y2 : w7.cell? ⟨w.heap.size + 1, 2, none⟩ = some (.int .i64 0) := hrx.cell (i := 2) (by omega)
      have y3 : w7.cell? ⟨w.heap.size + 1, 3, none⟩ = some (.int .i64 0) := hrx.cell (i := 3) (by omega)
      have y4 : w7.cell? ⟨w.heap.size + 1, 4, none⟩ = some (.slice none 0 0) := hrx.cell (i := 4) (by omega)
      have z0 := hrx.frozen 0
      have z1 := hrx.frozen 1
      have z2 := hrx.frozen 2
      have z3 := hrx.frozen 3
      have z4 := hrx.frozen 4
      clear hrx
      clear hs0
      go_wp2_with fail
      have hs0 := unhide HS0
      have hE : laneSettle proc s ps k = ((proc, t, ps.drop k), allS ps k, allO ps k) := by rw [laneSettle, if_pos (unhide HOK), unhide HT]
      refine bodyPost_ret (v := .tuple #[laneAgg proc t (.slice va dl vc), ve, vo]) (by simp [results, Try.results28, go_sem, y0, y1, y2, y3, y4]) rfl ⟨.slice va dl vc, ve, vo, zs, ys, w5.heap.size, w6.heap.size, ?_, ?_, ?_⟩
      · rw [hE]
      · rw [hE]
        have hkeep : ∀ b, b ≠ w.heap.size + 1 → (setVals w7 (w.heap.size + 1) 0 [.int .i64 proc, .int .i64 t.x, .int .i64 t.y, .int .i64 t.c, .slice va dl vc]).heap[b]? = w7.heap[b]? := fun b hb => setVals_other _ _ _ _ hb
        exact ⟨((unhide HO7).keep2 (fun b hb _ _ => hkeep b (by omega))).wide (by omega) (Nat.le_refl _), (unhide HFE7).block (fun b hb _ => hkeep b (by have := ((unhide HFE7).blk b hb).1; omega)), unhide HBE, hs6, (unhide HFO).block (fun b hb _ => hkeep b (by have := ((unhide HFO).blk b hb).1; omega)), by show w6.heap.size ≤ (setVals w7 (w.heap.size + 1) 0 [.int .i64 proc, .int .i64 t.x, .int .i64 t.y, .int .i64 t.c, .slice va dl vc]).heap.size; rw [setVals_size]; exact hs7, unhide HUP, unhide HMEM, unhide HPERM, unhide HASC, by omega⟩
      · exact setVals_below [.int .i64 proc, .int .i64 t.x, .int .i64 t.y, .int .i64 t.c, .slice va dl vc] 0 w7 (below_then (unhide HB0) (unhide HX7)) (Nat.le_succ _)
    have hk1 : k + 1 < (g :: gs).length := by simp at hk ⊢; omega
    have hkp : k < ps.length := by simp at hk1; omega
    obtain ⟨g3, hg3⟩ : ∃ g3, g3 = (g :: gs)[k + 1] := ⟨_, rfl⟩
    have hnx : wr.cell? ⟨g2, 12, none⟩ = some (.pointer (some ⟨g3, 0, none⟩)) := by
      obtain ⟨_, _, _, h1, _⟩ := (unhide HLK).cells
      rw [List.getElem?_eq_getElem hk1, ← hg3] at h1
      exact h1
    have hlk3 := ((unhide HCH).on (unhide HB)).node (k + 1) hk1 (by simp; omega)
    rw [← hg3] at hlk3
    simp only [List.getElem_cons_succ] at hlk3
    have hg3lt : g3 < w3.heap.size := by
      have h1 := (unhide HCH).node (k + 1) hk1 (by simp; omega)
      rw [← hg3] at h1
      exact h1.lt
    obtain ⟨p, hpe⟩ : ∃ p, p = ps[k] := ⟨_, rfl⟩
    rw [← hpe] at hlk3
    obtain ⟨vs, vo0, hcl, -, -, hpa⟩ := hlk3.cells
    have x0 : wr.cell? ⟨g3, 0, none⟩ = some (.int .i64 p.ev.time) := hcl 0 (by simp)
    have HG3 := hide hg3
    have HPE := hide hpe
    by_cases htm : p.ev.time < u
    rotate_left
    · have HDUE : Hid (Due ps u k) := hide ⟨by omega, unhide HL, fun h => by rw [← unhide HPE]; exact htm⟩
      clear hg3 hpe hcl hpa hlk3
      obtain rfl := (unhide HDUE).unique (unhide HN)
      have hkp := (unhide HDUE).hp
      have hps := (unhide HLL).1
      have hX : Below X.heap.size X wr := below_then (unhide HX3) (unhide HB)
      have k0 : wr.cell? ⟨w.heap.size, 0, none⟩ = some (.int .i64 proc) := ((unhide HA).on hX) 0 (by simp)
      have HX := hide hX
      clear hX
      go_wp2_with fail
      have hchd : Chain w2 w2.heap.size wr (g2 :: gs.drop k) ((baseQ s :: ps)[k]'(by simp; omega) :: ps.drop k) := by
        have h1 := ((unhide HCH).on (unhide HB)).drop k
        rw [List.drop_eq_getElem_cons (show k < (g :: gs).length by simp; omega), List.drop_eq_getElem_cons (show k < (baseQ s :: ps).length by simp; omega)] at h1
        rw [unhide HG]
        simpa using h1
      refine (unlinkLane_any w2 w2.heap.size proc g2 (gs.drop k) ((baseQ s :: ps)[k]'(by simp; omega)) (ps.drop k) wr hchd (below_then (unhide HB23) (unhide HB)) (by simp; omega) (fun p hp => by have := (unhide HLL).2 p (List.mem_of_mem_drop hp); omega)).mono ?_
      rintro e w5 ⟨v5, rfl, ho5, hb5⟩
      have hst : ((baseQ s :: ps)[k]'(by simp; omega)).st = stAt s ps k := by
        unfold stAt
        rw [List.getD_eq_getElem?_getD, List.getElem?_eq_getElem (by simp; omega), Option.getD_some]
      rw [hst]
      obtain ⟨t, ht⟩ : ∃ t, t = stAt s ps k := ⟨_, rfl⟩
      rw [← ht]
      have HT := hide ht
      obtain ⟨va, vc, hv5⟩ := ho5.at.sliced
      obtain ⟨dl, hdl⟩ : ∃ dl, dl = (ps.drop k).length := ⟨_, rfl⟩
      rw [← hdl] at hv5
      subst hv5
      have HO5 := hide ho5
      have HB5 := hide hb5
      have HX5 := hide (below_then (unhide HX) hb5)
      have hs5 := hb5.size
      have h8 := (unhide O8)
      have h8r := RowsFr.of_owns (rowlenEvent (allS ps k)) (by rw [List.length_map]; exact h8)
      have h9r := RowsFr.of_owns (rowlenOut (allO ps k)) (by rw [List.length_map]; exact unhide O9)
      have HE8 := hide (h8r.on hb5).at
      have HE9 := hide (h9r.on hb5).at
      have hl8 := (allS_len (unhide HLL).2 k hkp).1
      have hl9 := (allS_len (unhide HLL).2 k hkp).2
      clear hst ht ho5 hb5 hdl h8 h8r h9r k0 hchd
      go_wp2_with fail
      refine (E.implEventSort_any evLess_strict _ (allS ps k) w5 (unhide HE8) (by omega)).mono ?_
      rintro e w6 ⟨ve, zs, rfl, hup, hmem, _, hfe, hb6⟩
      have HFE := hide hfe
      have HB6 := hide hb6
      have HUP := hide hup
      have HMEM := hide hmem
      clear hfe hup hmem
      go_wp2_with fail
      refine (implOutSort_any outLess_strict _ (allO ps k) w6 ((unhide HE9).on hb6) (by omega)).mono ?_
      rintro e w7 ⟨vo, ys, rfl, hperm, hasc, hfo, hb7⟩
      have HFO := hide hfo
      have HX7 := hide (below_then (unhide HX5) (below_then hb6 hb7))
      have HFE7 := hide ((unhide HFE).on hb7)
      have HO7 := hide ((unhide HO5).on (below_then hb6 hb7))
      have hs6 := hb6.size
      have hs7 := hb7.size
      have hsX : X.heap.size ≤ wr.heap.size := (unhide HX).size
      have hs0 := unhide HS0
      have HPERM := hide hperm
      have HASC := hide hasc
      have HBE := hide (fun g (hg : ve.ownBlock = some g) => ((unhide HFE).blk g hg).2)
      clear hperm hasc hfo hb6 hb7
      have hrx := (unhide HR).of_block (((unhide HX7)).block (w.heap.size + 1) (unhide HR).lt)
      have y0 : w7.cell? ⟨w.heap.size + 1, 0, none⟩ = some (.int .i64 0) := hrx.cell (i := 0) (by omega)
      have y1 : w7.cell? ⟨w.heap.size + 1, 1, none⟩ = some (.int .i64 0) := hrx.cell (i := 1) (by omega)
      have y2 : w7.cell? ⟨w.heap.size + 1, 2, none⟩ = some (.int .i64 0) := hrx.cell (i := 2) (by omega)
      have y3 : w7.cell? ⟨w.heap.size + 1, 3, none⟩ = some (.int .i64 0) := hrx.cell (i := 3) (by omega)
      have y4 : w7.cell? ⟨w.heap.size + 1, 4, none⟩ = some (.slice none 0 0) := hrx.cell (i := 4) (by omega)
      have z0 := hrx.frozen 0
      have z1 := hrx.frozen 1
      have z2 := hrx.frozen 2
      have z3 := hrx.frozen 3
      have z4 := hrx.frozen 4
      clear hrx
      clear hs0
      go_wp2_with fail
      have hs0 := unhide HS0
      have hE : laneSettle proc s ps k = ((proc, t, ps.drop k), allS ps k, allO ps k) := by rw [laneSettle, if_pos (unhide HOK), unhide HT]
      refine bodyPost_ret (v := .tuple #[laneAgg proc t (.slice va dl vc), ve, vo]) (by simp [results, Try.results28, go_sem, y0, y1, y2, y3, y4]) rfl ⟨.slice va dl vc, ve, vo, zs, ys, w5.heap.size, w6.heap.size, ?_, ?_, ?_⟩
      · rw [hE]
      · rw [hE]
        have hkeep : ∀ b, b ≠ w.heap.size + 1 → (setVals w7 (w.heap.size + 1) 0 [.int .i64 proc, .int .i64 t.x, .int .i64 t.y, .int .i64 t.c, .slice va dl vc]).heap[b]? = w7.heap[b]? := fun b hb => setVals_other _ _ _ _ hb
        exact ⟨((unhide HO7).keep2 (fun b hb _ _ => hkeep b (by omega))).wide (by omega) (Nat.le_refl _), (unhide HFE7).block (fun b hb _ => hkeep b (by have := ((unhide HFE7).blk b hb).1; omega)), unhide HBE, hs6, (unhide HFO).block (fun b hb _ => hkeep b (by have := ((unhide HFO).blk b hb).1; omega)), by show w6.heap.size ≤ (setVals w7 (w.heap.size + 1) 0 [.int .i64 proc, .int .i64 t.x, .int .i64 t.y, .int .i64 t.c, .slice va dl vc]).heap.size; rw [setVals_size]; exact hs7, unhide HUP, unhide HMEM, unhide HPERM, unhide HASC, by omega⟩
      · exact setVals_below [.int .i64 proc, .int .i64 t.x, .int .i64 t.y, .int .i64 t.c, .slice va dl vc] 0 w7 (below_then (unhide HB0) (unhide HX7)) (Nat.le_succ _)
    have x10 : wr.cell? ⟨g3, 10, none⟩ = some vs := hcl 10 (by simp)
    have HX11 := hide (hcl 11 (by simp))
    have hpw := hpa.on (below_then (unhide HB23) (unhide HB))
    have HPA := hide hpw
    have HPO2 := hide hpa.o
    have hl8 := (allS_len (unhide HLL).2 k (by omega)).1
    have hl9 := (allS_len (unhide HLL).2 k (by omega)).2
    have hps := (unhide HLL).1
    have hp2 := (unhide HLL).2 ps[k] (List.getElem_mem hkp)
    rw [← hpe] at hp2
    have HM8 := hide (allS_more ps k hkp)
    have HM9 := hide (allO_more ps k hkp)
    rw [← hpe] at HM8 HM9
    have HLT : Hid (∀ i (h : i < ps.length), i < k + 1 → ps[i].ev.time < u) := hide (fun i h hi => by
      by_cases e : i = k
      · subst e; rw [← unhide HPE]; exact htm
      · exact (unhide HL) i h (by omega))
    obtain ⟨e1, k1, hv1, _⟩ := hpw.s
    obtain ⟨e2, k2, hv2, _⟩ := hpw.o
    rw [List.length_map] at hv1 hv2
    subst hv1 hv2
    clear hg3 hpe hcl hpa hlk3 hpw
    go_upto_region 9 with (at_builtin; refine wpList_append_rowsAt wr (by rfl) _ _ _ (by rfl) w3.heap.size 41 i7 _ 7 56 slice_cpEvent hi7 hz70 hz71 hz72 (by rfl) (by omega) v8 (allS ps k).length (flatCells ((allS ps k).map evRow)) (by rfl) (unhide O8) (p.sends.map evRow) _ (by rfl) (unhide HPA).s (rowlenEvent p.sends) (by rw [List.length_map]; unfold maxLen; omega) (by rw [List.length_map]; omega) (unhide HB).size ?_; intro v8n wA hownA hgrowA hatA)
    have x11 : wA.cell? ⟨g3, 11, none⟩ = some (.slice e2 p.outs.length k2) := hgrowA.cell (unhide HX11) (fun e => by have := ((unhide O8).lt g3 e.symm).1; omega)
    have hbA : Below w3.heap.size w3 wA := Below.grown (unhide HB) hgrowA (unhide HB).size (fun b hb => ((unhide O8).lt b hb).1)
    have hO9A : wA.ownsRow w3.heap.size 92 5 v9 (allO ps k).length (flatCells ((allO ps k).map outRow)) := (unhide O9).kept hgrowA (by
      cases h : v9.ownBlock with
      | none => exact Or.inl rfl
      | some b => exact Or.inr (fun e => (unhide HAP) b e.symm h))
    have hPAo : RowsAt 5 wA (.slice e2 p.outs.length k2) (p.outs.map outRow) := (unhide HPO2).on (below_then (unhide HB23) hbA)
    have HO8N : Hid (wA.ownsRow w3.heap.size 41 7 v8n (allS ps (k + 1)).length (flatCells ((allS ps (k + 1)).map evRow))) := hide (by
      rw [unhide HM8, List.length_append, List.map_append]
      have e := hownA
      rw [List.length_map] at e
      have hf : flatCells ((allS ps k).map evRow ++ p.sends.map evRow) = flatCells ((allS ps k).map evRow) ++ flatCells (p.sends.map evRow) := by simp [flatCells]
      rw [hf]
      exact e)
    have HAPA : Hid (Apart v8n v9) := hide (fun b h1 h2 => by
      rcases hatA with h | h
      · rw [h] at h1; exact (unhide HAP) b h1 h2
      · rw [h] at h1
        have h3 := ((unhide O9).lt b h2).2
        simp at h1
        omega)
    have HBA := hide hbA
    have HO9A := hide hO9A
    have HPAO := hide hPAo
    clear hownA hgrowA hatA hO9A hPAo x0 x10 hnx
    go_wp2_with (at_builtin; refine wpList_append_rowsAt wA (by rfl) _ _ _ (by rfl) w3.heap.size 92 i5 _ 5 40 slice_cpOut hi5 hz50 hz51 hz52 (by rfl) (by omega) v9 (allO ps k).length (flatCells ((allO ps k).map outRow)) (by rfl) (unhide HO9A) (p.outs.map outRow) _ (by rfl) (unhide HPAO) (rowlenOut p.outs) (by rw [List.length_map]; unfold maxLen; omega) (by rw [List.length_map]; omega) (unhide HBA).size ?_; intro v9n wB hownB hgrowB hatB)
    have hbB : Below w3.heap.size w3 wB := Below.grown (unhide HBA) hgrowB (unhide HBA).size (fun b hb => ((unhide HO9A).lt b hb).1)
    have HO9N : Hid (wB.ownsRow w3.heap.size 92 5 v9n (allO ps (k + 1)).length (flatCells ((allO ps (k + 1)).map outRow))) := hide (by
      rw [unhide HM9, List.length_append, List.map_append]
      have e := hownB
      rw [List.length_map] at e
      have hf : flatCells ((allO ps k).map outRow ++ p.outs.map outRow) = flatCells ((allO ps k).map outRow) ++ flatCells (p.outs.map outRow) := by simp [flatCells]
      rw [hf]
      exact e)
    have HO8B : Hid (wB.ownsRow w3.heap.size 41 7 v8n (allS ps (k + 1)).length (flatCells ((allS ps (k + 1)).map evRow))) := hide ((unhide HO8N).kept hgrowB (by
      cases h : v8n.ownBlock with
      | none => exact Or.inl rfl
      | some b => exact Or.inr (fun e => (unhide HAPA) b h e.symm)))
    have HAPB : Hid (Apart v8n v9n) := hide (fun b h1 h2 => by
      rcases hatB with h | h
      · rw [h] at h2; exact (unhide HAPA) b h1 h2
      · rw [h] at h2
        have h3 := ((unhide HO8N).lt b h1).2
        simp at h2
        omega)
    have HBB := hide hbB
    clear hownB hgrowB hatB hbB hbA x11
    go_wp2_with fail
    go_roundw
    case rel => exact ⟨k + 1, g3, _, _, hk1, rfl, rfl, rfl, HG3, HLT, HO8B, HO9N, HAPB, HBB⟩
    case measure =>
      have a1 := (unhide HCH).asc k (k + 1) hk hk1 (by omega)
      have a2 : (g :: gs)[k + 1] ≤ (g :: gs)[gs.length]'(by simp) := by
        by_cases e : k + 1 = gs.length
        · simp [e]
        · exact Nat.le_of_lt ((unhide HCH).asc (k + 1) gs.length hk1 (by simp) (by simp only [List.length_cons] at hk1; omega))
      have a3 := unhide HG
      have a4 := unhide HG3
      simp only
      omega
end Go.Proofs.Ythekkgndckkoaaa
