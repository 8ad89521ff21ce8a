/- spec.LaneSettle. -/
import Derived.Test.YthekkgndckkoaaaSettle1
import Derived.Test.YthekkgndckkoaaaBndC
namespace Go.Proofs.Ythekkgndckkoaaa
open Go.RowKit
set_option linter.unusedVariables false
set_option linter.unusedSimpArgs false

/-- What the loop holds. -/
structure Gath (w w2 : World) (proc : Int) (s : StV) (ps : List PastV) (vd : Value) (k : Nat) (ve vo : Value) (wr : World) : Prop where
  ev : wr.ownsRow (w.heap.size + 2) 41 7 ve (allS ps k).length (flatCells ((allS ps k).map evRow))
  out : wr.ownsRow (w.heap.size + 2) 92 5 vo (allO ps k).length (flatCells ((allO ps k).map outRow))
  ap : Apart ve vo
  ne : ∀ b, ve.ownBlock = some b → b ≠ w2.heap.size
  no : ∀ b, vo.ownBlock = some b → b ≠ w2.heap.size
  base : wr.rowIs w2.heap.size 29 3 (fun i => (stCells (stAt s ps k)).getD i undef)
  res : wr.rowIs (w.heap.size + 1) 32 5 (fun i => [Value.int .i64 0, .int .i64 0, .int .i64 0, .int .i64 0, .slice none 0 0].getD i undef)
  box : CellsAt wr w.heap.size 0 (laneCells proc s vd)
  below : Below w.heap.size w wr
  size : w2.heap.size < wr.heap.size

theorem stAt_more (s : StV) (ps : List PastV) (k : Nat) (h : k < ps.length) : stAt s ps (k + 1) = ps[k].st := by
  unfold stAt
  rw [List.getD_eq_getElem?_getD, List.getElem?_cons_succ, List.getElem?_eq_getElem h, Option.getD_some]
theorem flatE_app (a b : List EvV) : flatCells ((a ++ b).map evRow) = flatCells (a.map evRow) ++ flatCells (b.map evRow) := by simp [flatCells]
theorem flatO_app (a b : List OutV) : flatCells ((a ++ b).map outRow) = flatCells (a.map outRow) ++ flatCells (b.map outRow) := by simp [flatCells]

set_option maxRecDepth 100000 in
set_option maxHeartbeats 4000000 in
theorem specLaneSettle_any (proc : Int) (s : StV) (vd : Value) (ps : List PastV) (u : Int) (n : Nat) (w : World) (hn : Due ps u n) (hd : PastsAt w vd ps) :
    Calls Try.prog 27 #[laneAgg proc s vd, .int .i64 u] w fun e w' => ∃ v' ve vo zs ys M1 M2, e = .returned (.tuple #[laneAgg (laneSettle proc s ps n).1.1 (laneSettle proc s ps n).1.2.1 v', ve, vo]) ∧ Settled w.heap.size w' v' ve vo (laneSettle proc s ps n).1.2.2 (laneSettle proc s ps n).2.1 (laneSettle proc s ps n).2.2 zs ys M1 M2 ∧ Below w.heap.size w w' := by
  obtain ⟨i7, hi7, hz70, hz71, hz72⟩ := infoT_parts info_cpEvent
  obtain ⟨i5, hi5, hz50, hz51, hz52⟩ := infoT_parts info_cpOut
  have HN := hide hn
  have HD := hide hd
  obtain ⟨a1, c1, e1, _, hm, hcc⟩ := hd
  subst e1
  unfold maxLen at hm
  have HC := hide hcc
  have hb0 : Below w.heap.size w ((((w.alloc (.cells #[.int .i64 proc, .int .i64 s.x, .int .i64 s.y, .int .i64 s.c, .slice a1 ps.length c1] 32)).alloc (.cells #[.int .i64 0, .int .i64 0, .int .i64 0, .int .i64 0, .slice none 0 0] 32)).alloc (.cells #[] 41)).alloc (.cells #[] 92)) := ((((Below.refl _ _).alloc (Nat.le_refl _) _).alloc (by simp) _).alloc (by (simp; try omega)) _).alloc (by (simp; try omega)) _
  have cA : CellsAt ((((w.alloc (.cells #[.int .i64 proc, .int .i64 s.x, .int .i64 s.y, .int .i64 s.c, .slice a1 ps.length c1] 32)).alloc (.cells #[.int .i64 0, .int .i64 0, .int .i64 0, .int .i64 0, .slice none 0 0] 32)).alloc (.cells #[] 41)).alloc (.cells #[] 92)) w.heap.size 0 (laneCells proc s (.slice a1 ps.length c1)) := (cellsAt_new w (laneCells proc s (.slice a1 ps.length c1)) 32).on ((((Below.refl _ _).alloc (Nat.le_refl _) _).alloc (by simp) _).alloc (by (simp; try omega)) _)
  have rB : ((((w.alloc (.cells #[.int .i64 proc, .int .i64 s.x, .int .i64 s.y, .int .i64 s.c, .slice a1 ps.length c1] 32)).alloc (.cells #[.int .i64 0, .int .i64 0, .int .i64 0, .int .i64 0, .slice none 0 0] 32)).alloc (.cells #[] 41)).alloc (.cells #[] 92)).rowIs (w.heap.size + 1) 32 5 (fun i => [Value.int .i64 0, .int .i64 0, .int .i64 0, .int .i64 0, .slice none 0 0].getD i undef) := by
    have e := row_new (w.alloc (.cells #[.int .i64 proc, .int .i64 s.x, .int .i64 s.y, .int .i64 s.c, .slice a1 ps.length c1] 32)) [Value.int .i64 0, .int .i64 0, .int .i64 0, .int .i64 0, .slice none 0 0] 32
    have hs : (w.alloc (.cells #[.int .i64 proc, .int .i64 s.x, .int .i64 s.y, .int .i64 s.c, .slice a1 ps.length c1] 32)).heap.size = w.heap.size + 1 := by simp
    rw [hs] at e
    exact e.of_block ((((Below.refl _ _).alloc (Nat.le_refl _) _).alloc (by simp) _).block (w.heap.size + 1) (by simp))
  have oE : ((((w.alloc (.cells #[.int .i64 proc, .int .i64 s.x, .int .i64 s.y, .int .i64 s.c, .slice a1 ps.length c1] 32)).alloc (.cells #[.int .i64 0, .int .i64 0, .int .i64 0, .int .i64 0, .slice none 0 0] 32)).alloc (.cells #[] 41)).alloc (.cells #[] 92)).ownsRow (w.heap.size + 2) 41 7 (.slice (some ⟨w.heap.size + 2, 0, none⟩) 0 0) 0 [] := by
    have e := (World.ownsRow_made (base := w.heap.size + 2) (e := 41) (size := 7) ((w.alloc (.cells #[.int .i64 proc, .int .i64 s.x, .int .i64 s.y, .int .i64 s.c, .slice a1 ps.length c1] 32)).alloc (.cells #[.int .i64 0, .int .i64 0, .int .i64 0, .int .i64 0, .slice none 0 0] 32)) #[] 0 (by simp) (Nat.zero_le _) rfl).alloc (.cells #[] 92)
    rw [show ((w.alloc (.cells #[.int .i64 proc, .int .i64 s.x, .int .i64 s.y, .int .i64 s.c, .slice a1 ps.length c1] 32)).alloc (.cells #[.int .i64 0, .int .i64 0, .int .i64 0, .int .i64 0, .slice none 0 0] 32)).heap.size = w.heap.size + 2 by simp] at e
    exact e
  have oO : ((((w.alloc (.cells #[.int .i64 proc, .int .i64 s.x, .int .i64 s.y, .int .i64 s.c, .slice a1 ps.length c1] 32)).alloc (.cells #[.int .i64 0, .int .i64 0, .int .i64 0, .int .i64 0, .slice none 0 0] 32)).alloc (.cells #[] 41)).alloc (.cells #[] 92)).ownsRow (w.heap.size + 2) 92 5 (.slice (some ⟨w.heap.size + 3, 0, none⟩) 0 0) 0 [] := by
    have e := World.ownsRow_made (base := w.heap.size + 2) (e := 92) (size := 5) (((w.alloc (.cells #[.int .i64 proc, .int .i64 s.x, .int .i64 s.y, .int .i64 s.c, .slice a1 ps.length c1] 32)).alloc (.cells #[.int .i64 0, .int .i64 0, .int .i64 0, .int .i64 0, .slice none 0 0] 32)).alloc (.cells #[] 41)) #[] 0 (by (simp; try omega)) (Nat.zero_le _) rfl
    rw [show (((w.alloc (.cells #[.int .i64 proc, .int .i64 s.x, .int .i64 s.y, .int .i64 s.c, .slice a1 ps.length c1] 32)).alloc (.cells #[.int .i64 0, .int .i64 0, .int .i64 0, .int .i64 0, .slice none 0 0] 32)).alloc (.cells #[] 41)).heap.size = w.heap.size + 3 by simp] at e
    exact e
  have hs0 : ((((w.alloc (.cells #[.int .i64 proc, .int .i64 s.x, .int .i64 s.y, .int .i64 s.c, .slice a1 ps.length c1] 32)).alloc (.cells #[.int .i64 0, .int .i64 0, .int .i64 0, .int .i64 0, .slice none 0 0] 32)).alloc (.cells #[] 41)).alloc (.cells #[] 92)).heap.size = w.heap.size + 4 := by simp
  have HA := hide cA
  have HB0 := hide hb0
  have HR := hide rB
  have HOE := hide oE
  have HOO := hide oO
  have HS0 := hide hs0
  clear hb0 cA rB oE oO hn hs0 hcc
  go_enter Try.func27, Try.ntmps27
  go_upto_region 3 with fail
  generalize ((((w.alloc (.cells #[.int .i64 proc, .int .i64 s.x, .int .i64 s.y, .int .i64 s.c, .slice a1 ps.length c1] 32)).alloc (.cells #[.int .i64 0, .int .i64 0, .int .i64 0, .int .i64 0, .slice none 0 0] 32)).alloc (.cells #[] 41)).alloc (.cells #[] 92)) = X at *
  have k0 : X.cell? ⟨w.heap.size, 0, none⟩ = some (.int .i64 proc) := (unhide HA) 0 (by simp)
  have k1 : X.cell? ⟨w.heap.size, 1, none⟩ = some (.int .i64 s.x) := (unhide HA) 1 (by simp)
  have k2 : X.cell? ⟨w.heap.size, 2, none⟩ = some (.int .i64 s.y) := (unhide HA) 2 (by simp)
  have k3 : X.cell? ⟨w.heap.size, 3, none⟩ = some (.int .i64 s.c) := (unhide HA) 3 (by simp)
  have k4 : X.cell? ⟨w.heap.size, 4, none⟩ = some (.slice a1 ps.length c1) := (unhide HA) 4 (by simp)
  go_wp2_with fail
  refine (specLaneOk_any proc s _ ps X ((unhide HD).on (unhide HB0))).mono ?_
  rintro e w2 ⟨rfl, hb1⟩
  have hB1 := below_then (unhide HB0) hb1
  replace k0 := cell_on hb1 k0
  replace k1 := cell_on hb1 k1
  replace k2 := cell_on hb1 k2
  replace k3 := cell_on hb1 k3
  replace k4 := cell_on hb1 k4
  have hsz2 : w.heap.size + 4 ≤ w2.heap.size := by have h1 := hb1.size; have h2 := unhide HS0; omega
  cases hok : laneOk proc s ps
  · have HOK := hide hok
    clear hok
    have hrx := (unhide HR).of_block ((hb1).block (w.heap.size + 1) (unhide HR).lt)
    have y0 : w2.cell? ⟨w.heap.size + 1, 0, none⟩ = some (.int .i64 0) := hrx.cell (i := 0) (by omega)
    have y1 : w2.cell? ⟨w.heap.size + 1, 1, none⟩ = some (.int .i64 0) := hrx.cell (i := 1) (by omega)
    have y2 : w2.cell? ⟨w.heap.size + 1, 2, none⟩ = some (.int .i64 0) := hrx.cell (i := 2) (by omega)
    have y3 : w2.cell? ⟨w.heap.size + 1, 3, none⟩ = some (.int .i64 0) := hrx.cell (i := 3) (by omega)
    have y4 : w2.cell? ⟨w.heap.size + 1, 4, none⟩ = some (.slice none 0 0) := hrx.cell (i := 4) (by omega)
    have z0 := hrx.frozen 0
    have z1 := hrx.frozen 1
    have z2 := hrx.frozen 2
    have z3 := hrx.frozen 3
    have z4 := hrx.frozen 4
    clear hrx
    go_wp2_with fail
    have hE : laneSettle proc s ps n = ((0, ⟨0, 0, 0⟩, []), [], []) := by rw [laneSettle, if_neg (by simp [unhide HOK])]
    refine bodyPost_ret (v := .tuple #[laneAgg 0 ⟨0, 0, 0⟩ (.slice none 0 0), .slice (some ⟨w.heap.size + 2, 0, none⟩) 0 0, .slice (some ⟨w.heap.size + 3, 0, none⟩) 0 0]) (by simp [results, Try.results27, go_sem, y0, y1, y2, y3, y4]) rfl ⟨.slice none 0 0, .slice (some ⟨w.heap.size + 2, 0, none⟩) 0 0, .slice (some ⟨w.heap.size + 3, 0, none⟩) 0 0, [], [], w.heap.size + 2, w.heap.size + 3, ?_, ?_, ?_⟩
    · rw [hE]
    · rw [hE]
      have hkeep : ∀ b, b ≠ w.heap.size + 1 → (setVals w2 (w.heap.size + 1) 0 [Value.int .i64 0, .int .i64 0, .int .i64 0, .int .i64 0, .slice none 0 0]).heap[b]? = w2.heap[b]? := fun b hb => setVals_other _ _ _ _ hb
      have h7 : RowsFr (w.heap.size + 2) 41 7 w2 (.slice (some ⟨w.heap.size + 2, 0, none⟩) 0 0) ([].map evRow) := RowsFr.of_owns (rowlenEvent []) (ownsOn hb1 (unhide HOE))
      have h5 : RowsFr (w.heap.size + 2) 92 5 w2 (.slice (some ⟨w.heap.size + 3, 0, none⟩) 0 0) ([].map outRow) := RowsFr.of_owns (rowlenOut []) (ownsOn hb1 (unhide HOO))
      refine ⟨⟨[], Or.inl ⟨rfl, rfl, rfl⟩, by simp [blocksOf, Value.ownBlock]⟩, h7.block (fun b hb _ => hkeep b (by have := (h7.blk b hb).1; omega)), fun g hg => by simp [Value.ownBlock] at hg; omega, Nat.le_succ _, ?_, ?_, List.Pairwise.nil, fun a => Iff.rfl, List.Perm.refl _, List.Pairwise.nil, by omega⟩
      · have h6 : RowsFr (w.heap.size + 3) 92 5 w2 (.slice (some ⟨w.heap.size + 3, 0, none⟩) 0 0) ([].map outRow) := by
          rcases h5 with ⟨h, _⟩ | ⟨g, cap, f, h1, h2, h3⟩
          · cases h
          · have hg : w.heap.size + 3 = g := by
              have e := congrArg Value.ownBlock h1
              simpa [Value.ownBlock] using e
            exact Or.inr ⟨g, cap, f, h1, by omega, h3⟩
        exact h6.block (fun b hb _ => hkeep b (by have := (h6.blk b hb).1; omega))
      · show w.heap.size + 3 ≤ (setVals w2 (w.heap.size + 1) 0 [Value.int .i64 0, .int .i64 0, .int .i64 0, .int .i64 0, .slice none 0 0]).heap.size
        rw [setVals_size]
        omega
    · exact ((((hB1.setCell (by simp) _).setCell (by simp) _).setCell (by simp) _).setCell (by simp) _).setCell (by simp) _
  have HOK := hide hok
  have HLL := hide (lane_lens hok)
  clear hok k0 k4
  have hbY : Below w2.heap.size w2 (w2.alloc (.cells #[.int .i64 s.x, .int .i64 s.y, .int .i64 s.c] 29)) := (Below.refl _ _).alloc (Nat.le_refl _) _
  have hGA : Gath w w2 proc s ps (.slice a1 ps.length c1) 0 (.slice (some ⟨w.heap.size + 2, 0, none⟩) 0 0) (.slice (some ⟨w.heap.size + 3, 0, none⟩) 0 0) (w2.alloc (.cells #[.int .i64 s.x, .int .i64 s.y, .int .i64 s.c] 29)) := by
    have hbX := below_then hb1 hbY
    refine ⟨?_, ?_, fun b h1 h2 => by simp [Value.ownBlock] at h1 h2; omega, fun b h1 => by simp [Value.ownBlock] at h1; omega, fun b h1 => by simp [Value.ownBlock] at h1; omega, row_new w2 (stCells s) 29, (unhide HR).of_block (hbX.block _ (unhide HR).lt), (unhide HA).on hbX, below_then hB1 hbY, by simp⟩
    · simpa [allS, flatCells] using ownsOn hbX (unhide HOE)
    · simpa [allO, flatCells] using ownsOn hbX (unhide HOO)
  have HG0 := hide hGA
  clear hGA hbY hb1 hB1
  go_wp2_with fail
  generalize (w2.alloc (.cells #[.int .i64 s.x, .int .i64 s.y, .int .i64 s.c] 29)) = Y at *
  go_loopw [7, 8, 9] (fun a7 a8 a9 wr => ∃ (k : Nat) (ve vo : Value), k ≤ ps.length ∧ a7 = ve ∧ a8 = vo ∧ a9 = .int .i64 k ∧ Hid (∀ i (h : i < ps.length), i < k → ps[i].ev.time < u) ∧ Hid (Gath w w2 proc s ps (.slice a1 ps.length c1) k ve vo wr)) (fun _ _ a9 _ => ps.length - (intOf a9).toNat)
  case atStart => exact ⟨0, _, _, Nat.zero_le _, rfl, rfl, rfl, hide (fun i _ h => absurd h (Nat.not_lt_zero _)), HG0⟩
  case round =>
    obtain ⟨k, ve, vo, hk, e7, e8, rfl, HL, HGA⟩ := hrel
    obtain rfl := e7.symm
    obtain rfl := e8.symm
    have m4 : wr.cell? ⟨w.heap.size, 4, none⟩ = some (.slice a1 ps.length c1) := (unhide HGA).box 4 (by simp)
    have hk0 : (0 : Int) ≤ (k : Int) := by omega
    by_cases hlt : k < ps.length
    rotate_left
    · have hI : ¬ (k : Int) < (ps.length : Int) := by omega
      have HDUE : Hid (Due ps u k) := hide ⟨hk, unhide HL, fun h => absurd h hlt⟩
      obtain rfl := (unhide HDUE).unique (unhide HN)
      have hkp := (unhide HDUE).hp
      have hps := (unhide HLL).1
      have n0 : wr.cell? ⟨w.heap.size, 0, none⟩ = some (.int .i64 proc) := (unhide HGA).box 0 (by simp)
      have n1 : wr.cell? ⟨w.heap.size, 1, none⟩ = some (.int .i64 s.x) := (unhide HGA).box 1 (by simp)
      have n2 : wr.cell? ⟨w.heap.size, 2, none⟩ = some (.int .i64 s.y) := (unhide HGA).box 2 (by simp)
      have n3 : wr.cell? ⟨w.heap.size, 3, none⟩ = some (.int .i64 s.c) := (unhide HGA).box 3 (by simp)
      have n4 : wr.cell? ⟨w.heap.size, 4, none⟩ = some (.slice a1 ps.length c1) := (unhide HGA).box 4 (by simp)
      go_wp2_with fail
      clear n0 n1 n2 n3 n4
      refine (l21Copy_any proc s _ ps k ps.length wr ((unhide HD).on (unhide HGA).below) hkp (Nat.le_refl _) (by omega) (fun p hp => by have := (unhide HLL).2 p hp; omega)).mono ?_
      rintro e w5 ⟨v5, rfl, ho5, hb5⟩
      rw [List.take_length] at ho5
      obtain ⟨va, vc, hv5⟩ := ho5.at.sliced
      obtain ⟨dl, hdl⟩ : ∃ dl, dl = (ps.drop k).length := ⟨_, rfl⟩
      rw [← hdl] at hv5
      subst hv5
      obtain ⟨t, ht⟩ : ∃ t, t = stAt s ps k := ⟨_, rfl⟩
      have HT := hide ht
      have hs5 := hb5.size
      have hgs := (unhide HGA).size
      have hx : Below w5.heap.size w5 (w5.alloc (.cells #[.int .i64 proc, .int .i64 s.x, .int .i64 s.y, .int .i64 s.c, .slice va dl vc] 32)) := (Below.refl _ _).alloc (Nat.le_refl _) _
      have H56 := hide (below_then hb5 hx)
      have HO6 := hide (ho5.on hx)
      have HR6 := hide (row_new w5 (laneCells proc s (.slice va dl vc)) 32)
      have HS6 : Hid ((w5.alloc (.cells #[.int .i64 proc, .int .i64 s.x, .int .i64 s.y, .int .i64 s.c, .slice va dl vc] 32)).heap.size = w5.heap.size + 1) := hide (by simp)
      clear hdl ht ho5 hb5 hx
      go_upto_region 13 with fail
      generalize (w5.alloc (.cells #[.int .i64 proc, .int .i64 s.x, .int .i64 s.y, .int .i64 s.c, .slice va dl vc] 32)) = W6 at *
      have hbs := (unhide HGA).base.of_block ((unhide H56).block w2.heap.size hgs)
      rw [← unhide HT] at hbs
      have b0 : W6.cell? ⟨w2.heap.size, 0, none⟩ = some (.int .i64 t.x) := hbs.cell (i := 0) (by omega)
      have b1 : W6.cell? ⟨w2.heap.size, 1, none⟩ = some (.int .i64 t.y) := hbs.cell (i := 1) (by omega)
      have b2 : W6.cell? ⟨w2.heap.size, 2, none⟩ = some (.int .i64 t.c) := hbs.cell (i := 2) (by omega)
      have g1 : W6.cell? ⟨w5.heap.size, 1, none⟩ = some (.int .i64 s.x) := (unhide HR6).cell (i := 1) (show 1 < 5 by omega)
      have f1 := (unhide HR6).frozen 1
      have g2 : W6.cell? ⟨w5.heap.size, 2, none⟩ = some (.int .i64 s.y) := (unhide HR6).cell (i := 2) (show 2 < 5 by omega)
      have f2 := (unhide HR6).frozen 2
      have g3 : W6.cell? ⟨w5.heap.size, 3, none⟩ = some (.int .i64 s.c) := (unhide HR6).cell (i := 3) (show 3 < 5 by omega)
      have f3 := (unhide HR6).frozen 3
      have hq5 : w2.heap.size ≠ w5.heap.size := by omega
      have hset : (((W6.setCell ⟨w5.heap.size, 1, none⟩ (.int .i64 t.x)).setCell ⟨w5.heap.size, 2, none⟩ (.int .i64 t.y)).setCell ⟨w5.heap.size, 3, none⟩ (.int .i64 t.c)) = setVals W6 w5.heap.size 1 [.int .i64 t.x, .int .i64 t.y, .int .i64 t.c] := rfl
      have hoth : ∀ b, b ≠ w5.heap.size → (((W6.setCell ⟨w5.heap.size, 1, none⟩ (.int .i64 t.x)).setCell ⟨w5.heap.size, 2, none⟩ (.int .i64 t.y)).setCell ⟨w5.heap.size, 3, none⟩ (.int .i64 t.c)).heap[b]? = W6.heap[b]? := fun b hb => by rw [hset]; exact setVals_other _ _ _ _ hb
      have hr7 : CellsAt (((W6.setCell ⟨w5.heap.size, 1, none⟩ (.int .i64 t.x)).setCell ⟨w5.heap.size, 2, none⟩ (.int .i64 t.y)).setCell ⟨w5.heap.size, 3, none⟩ (.int .i64 t.c)) w5.heap.size 0 [.int .i64 proc, .int .i64 t.x, .int .i64 t.y, .int .i64 t.c, .slice va dl vc] := fun j hj => by
        rw [hset, Nat.zero_add, (setVals_row [.int .i64 t.x, .int .i64 t.y, .int .i64 t.c] 1 W6 _ (unhide HR6)).cell (show j < 5 from hj)]
        match j, hj with
        | 0, _ => rfl
        | 1, _ => rfl
        | 2, _ => rfl
        | 3, _ => rfl
        | 4, _ => rfl
      have hz7 : (((W6.setCell ⟨w5.heap.size, 1, none⟩ (.int .i64 t.x)).setCell ⟨w5.heap.size, 2, none⟩ (.int .i64 t.y)).setCell ⟨w5.heap.size, 3, none⟩ (.int .i64 t.c)).heap.size = W6.heap.size := by rw [hset]; exact setVals_size _ _ _
      have hb7 : Below wr.heap.size wr (((W6.setCell ⟨w5.heap.size, 1, none⟩ (.int .i64 t.x)).setCell ⟨w5.heap.size, 2, none⟩ (.int .i64 t.y)).setCell ⟨w5.heap.size, 3, none⟩ (.int .i64 t.c)) := by rw [hset]; exact setVals_below _ _ _ (unhide H56) hs5
      have HO7 := hide ((unhide HO6).keep2 (w' := (((W6.setCell ⟨w5.heap.size, 1, none⟩ (.int .i64 t.x)).setCell ⟨w5.heap.size, 2, none⟩ (.int .i64 t.y)).setCell ⟨w5.heap.size, 3, none⟩ (.int .i64 t.c))) (fun b _ hb _ => hoth b (by omega)))
      have HR7 := hide hr7
      have HZ7 := hide hz7
      have HB7 := hide hb7
      clear hset hoth hr7 hz7 hb7 hbs
      go_upto_region 14 with fail
      clear b0 b1 b2 g1 g2 g3 f1 f2 f3
      generalize (((W6.setCell ⟨w5.heap.size, 1, none⟩ (.int .i64 t.x)).setCell ⟨w5.heap.size, 2, none⟩ (.int .i64 t.y)).setCell ⟨w5.heap.size, 3, none⟩ (.int .i64 t.c)) = W7 at *
      refine wp_region_last (L := 7) (S := fun w' : World => w'.cell? ⟨w5.heap.size, 0, none⟩ = some (.int .i64 proc) ∧ w'.cell? ⟨w5.heap.size, 1, none⟩ = some (.int .i64 t.x) ∧ w'.cell? ⟨w5.heap.size, 2, none⟩ = some (.int .i64 t.y) ∧ w'.cell? ⟨w5.heap.size, 3, none⟩ = some (.int .i64 t.c) ∧ w'.cell? ⟨w5.heap.size, 4, none⟩ = some (.slice va dl vc)) (by kernel_rfl) ?_
      have hHeld : (fun w' : World => w'.cell? ⟨w5.heap.size, 0, none⟩ = some (.int .i64 proc) ∧ w'.cell? ⟨w5.heap.size, 1, none⟩ = some (.int .i64 t.x) ∧ w'.cell? ⟨w5.heap.size, 2, none⟩ = some (.int .i64 t.y) ∧ w'.cell? ⟨w5.heap.size, 3, none⟩ = some (.int .i64 t.c) ∧ w'.cell? ⟨w5.heap.size, 4, none⟩ = some (.slice va dl vc)) W7.drew := ⟨((unhide HR7).on (Below.refl _ _).drew) 0 (by simp), ((unhide HR7).on (Below.refl _ _).drew) 1 (by simp), ((unhide HR7).on (Below.refl _ _).drew) 2 (by simp), ((unhide HR7).on (Below.refl _ _).drew) 3 (by simp), ((unhide HR7).on (Below.refl _ _).drew) 4 (by simp)⟩
      refine wpAnyL_take (i := 0) (v := ?_) (by kernel_rfl) rfl (by kernel_rfl) (by kernel_rfl) (by kernel_rfl) (fun _ _ _ h => h) hHeld (Or.inl ⟨by kernel_rfl, ?_⟩) ?_
      rotate_left
      · (intro w hSw; (try dsimp only at hSw); obtain ⟨s0, s1, s2, s3, s4⟩ := hSw; go_simp; try with_reducible rfl)
      refine wpAnyL_take (i := 1) (v := ?_) (by kernel_rfl) rfl (by kernel_rfl) (by kernel_rfl) (by kernel_rfl) (fun _ _ _ h => h) hHeld (Or.inl ⟨by kernel_rfl, ?_⟩) ?_
      rotate_left
      · (intro w hSw; (try dsimp only at hSw); obtain ⟨s0, s1, s2, s3, s4⟩ := hSw; go_simp; try with_reducible rfl)
      refine wpAnyL_take (i := 3) (v := ?_) (by kernel_rfl) rfl (by kernel_rfl) (by kernel_rfl) (by kernel_rfl) (fun _ _ _ h => h) hHeld (Or.inl ⟨by kernel_rfl, ?_⟩) ?_
      rotate_left
      · (intro w hSw; (try dsimp only at hSw); obtain ⟨s0, s1, s2, s3, s4⟩ := hSw; go_simp; try with_reducible rfl)
      have hl8 := (allS_len (unhide HLL).2 k hkp).1
      have hl9 := (allS_len (unhide HLL).2 k hkp).2
      have HE8 := hide ((RowsFr.of_owns (rowlenEvent (allS ps k)) (by rw [List.length_map]; exact (unhide HGA).ev)).on (unhide HB7)).at
      have HE9 := hide ((RowsFr.of_owns (rowlenOut (allO ps k)) (by rw [List.length_map]; exact (unhide HGA).out)).on (unhide HB7)).at
      refine wpAnyL_one (i := 2) (by kernel_rfl) rfl (fun K hK => ?_)
      go_simp
      refine (E.specEventSort_any evLess_strict _ (allS ps k) W7.drew ((unhide HE8).on (Below.refl _ _).drew) (by omega)).mono ?_
      rintro e w8 ⟨ue, zs, rfl, hup, hmem, hfe, hb8⟩
      have h78 : Below W7.heap.size W7 w8 := ((Below.refl _ _).drew).trans hb8
      have HFE := hide hfe
      have H78 := hide h78
      have HUP := hide hup
      have HMEM := hide hmem
      clear hfe hup hmem hb8 h78
      (try go_simp)
      refine held_on hK ?_ (fun hHeld => ?_)
      · exact ⟨((unhide HR7).on (unhide H78)) 0 (by simp), ((unhide HR7).on (unhide H78)) 1 (by simp), ((unhide HR7).on (unhide H78)) 2 (by simp), ((unhide HR7).on (unhide H78)) 3 (by simp), ((unhide HR7).on (unhide H78)) 4 (by simp)⟩
      clear hK K
      refine wpAnyL_one (i := 4) (by kernel_rfl) rfl (fun K hK => ?_)
      go_simp
      refine (specOutSort_any outLess_strict _ (allO ps k) w8 ((unhide HE9).on (unhide H78)) (by omega)).mono ?_
      rintro e w9 ⟨uo, ys, rfl, hperm, hasc, hfo, hb9⟩
      have HFO := hide hfo
      have H79 := hide (below_then (unhide H78) hb9)
      have HFE9 := hide ((unhide HFE).on hb9)
      have HO9 := hide ((unhide HO7).on (below_then (unhide H78) hb9))
      have HBE := hide (fun g (hg : ue.ownBlock = some g) => ((unhide HFE).blk g hg).2)
      have HPERM := hide hperm
      have HASC := hide hasc
      have hs8 := (unhide H78).size
      have hs9 := hb9.size
      have hz7 := unhide HZ7
      have hz6 := unhide HS6
      have hr9 := ((unhide HGA).res.of_block ((unhide HB7).block (w.heap.size + 1) (by omega))).of_block ((unhide H79).block (w.heap.size + 1) (by omega))
      have y0 : w9.cell? ⟨w.heap.size + 1, 0, none⟩ = some (.int .i64 0) := hr9.cell (i := 0) (by omega)
      have z0 := hr9.frozen 0
      have y1 : w9.cell? ⟨w.heap.size + 1, 1, none⟩ = some (.int .i64 0) := hr9.cell (i := 1) (by omega)
      have z1 := hr9.frozen 1
      have y2 : w9.cell? ⟨w.heap.size + 1, 2, none⟩ = some (.int .i64 0) := hr9.cell (i := 2) (by omega)
      have z2 := hr9.frozen 2
      have y3 : w9.cell? ⟨w.heap.size + 1, 3, none⟩ = some (.int .i64 0) := hr9.cell (i := 3) (by omega)
      have z3 := hr9.frozen 3
      have y4 : w9.cell? ⟨w.heap.size + 1, 4, none⟩ = some (.slice none 0 0) := hr9.cell (i := 4) (by omega)
      have z4 := hr9.frozen 4
      clear hfo hb9 hperm hasc hr9
      (try go_simp)
      refine held_on hK ?_ (fun hHeld => ?_)
      · exact ⟨((unhide HR7).on (unhide H79)) 0 (by simp), ((unhide HR7).on (unhide H79)) 1 (by simp), ((unhide HR7).on (unhide H79)) 2 (by simp), ((unhide HR7).on (unhide H79)) 3 (by simp), ((unhide HR7).on (unhide H79)) 4 (by simp)⟩
      clear hK K
      have hkeep : ∀ b, b ≠ w.heap.size + 1 → (setVals w9 (w.heap.size + 1) 0 [.int .i64 proc, .int .i64 t.x, .int .i64 t.y, .int .i64 t.c, .slice va dl vc]).heap[b]? = w9.heap[b]? := fun b hb => setVals_other _ _ _ _ hb
      refine wpAnyL_one (i := 5) (by kernel_rfl) rfl (fun K hK => ?_)
      go_simp
      refine held_on hK ?_ (fun hHeld => ?_)
      · exact ⟨(World.cell?_of_block (a := ⟨w5.heap.size, 0, none⟩) (hkeep w5.heap.size (by omega))).trans (((unhide HR7).on (unhide H79)) 0 (by simp)), (World.cell?_of_block (a := ⟨w5.heap.size, 1, none⟩) (hkeep w5.heap.size (by omega))).trans (((unhide HR7).on (unhide H79)) 1 (by simp)), (World.cell?_of_block (a := ⟨w5.heap.size, 2, none⟩) (hkeep w5.heap.size (by omega))).trans (((unhide HR7).on (unhide H79)) 2 (by simp)), (World.cell?_of_block (a := ⟨w5.heap.size, 3, none⟩) (hkeep w5.heap.size (by omega))).trans (((unhide HR7).on (unhide H79)) 3 (by simp)), (World.cell?_of_block (a := ⟨w5.heap.size, 4, none⟩) (hkeep w5.heap.size (by omega))).trans (((unhide HR7).on (unhide H79)) 4 (by simp))⟩
      clear hK K
      refine wpAnyL_one (i := 6) (by kernel_rfl) rfl (fun K hK => ?_)
      go_simp
      refine held_on hK ?_ (fun hHeld => ?_)
      · exact hHeld
      clear hK K
      refine wpAnyL_end (by kernel_rfl) rfl (fun K hK => ?_)
      go_simp
      refine hK.out _ _ ?_
      clear hK K hHeld
      refine wpAnyL_done (by kernel_rfl) ?_ _
      go_wp2_with fail
      have hE : laneSettle proc s ps k = ((proc, t, ps.drop k), allS ps k, allO ps k) := by rw [laneSettle, if_pos (unhide HOK), unhide HT]
      refine bodyPost_ret (v := .tuple #[laneAgg proc t (.slice va dl vc), ue, uo]) (by simp [results, Try.results27, go_sem, y0, y1, y2, y3, y4]) rfl ⟨.slice va dl vc, ue, uo, ?_, ⟨zs, ys, W7.heap.size, w8.heap.size, ?_⟩, ?_⟩
      · rw [hE]
      · rw [hE]
        have h1 := unhide HO9
        have h2 := unhide HFE9
        have h3 := unhide HFO
        have h4 : W7.drew.heap.size = W7.heap.size := by simp
        rw [h4] at h2
        refine ⟨(h1.keep2 (fun b hb _ _ => hkeep b (by omega))).wide (by omega) (by omega), h2.block (fun b hb _ => hkeep b (by have := (h2.blk b hb).1; omega)), unhide HBE, hs8, h3.block (fun b hb _ => hkeep b (by have := (h3.blk b hb).1; omega)), ?_, unhide HUP, unhide HMEM, unhide HPERM, unhide HASC, by omega⟩
        show w8.heap.size ≤ (setVals w9 (w.heap.size + 1) 0 [.int .i64 proc, .int .i64 t.x, .int .i64 t.y, .int .i64 t.c, .slice va dl vc]).heap.size
        rw [setVals_size]
        exact hs9
      · exact setVals_below [.int .i64 proc, .int .i64 t.x, .int .i64 t.y, .int .i64 t.c, .slice va dl vc] 0 w9 (below_then (unhide HGA).below (below_then (unhide HB7) (unhide H79))) (Nat.le_succ _)
    have hI : (k : Int) < (ps.length : Int) := by omega
    obtain ⟨b, off, vs, vo0, had, hcl, hpa⟩ : ∃ b off vs vo, a1 = some ⟨b, off, none⟩ ∧ CellsAt w b (off + k * 12) (pastCells ps[k] vs vo) ∧ PastAt w vs vo ps[k] := by
      rcases unhide HC with h | ⟨b, off, h1, h2⟩
      · rw [h] at hlt; exact absurd hlt (Nat.not_lt_zero _)
      · obtain ⟨vs, vo, h3, h4⟩ := h2 k hlt
        exact ⟨b, off, vs, vo, h1, h3, h4⟩
    subst had
    have HM8 := hide (allS_more ps k hlt)
    have HM9 := hide (allO_more ps k hlt)
    have HST := hide (stAt_more s ps k hlt)
    have hp2 := (unhide HLL).2 ps[k] (List.getElem_mem hlt)
    have HSTOP : Hid (¬ ps[k].ev.time < u → Due ps u k) := hide (fun h => ⟨hk, unhide HL, fun _ => h⟩)
    have HLT : Hid (ps[k].ev.time < u → ∀ i (h : i < ps.length), i < k + 1 → ps[i].ev.time < u) := hide (fun ht i h hi => by
      by_cases e : i = k
      · subst e; exact ht
      · exact (unhide HL) i h (by omega))
    obtain ⟨p, hpe⟩ : ∃ p, p = ps[k] := ⟨_, rfl⟩
    rw [← hpe] at hcl hpa HM8 HM9 HST hp2 HSTOP HLT
    clear hpe
    obtain ⟨e1, k1, hv1, _⟩ := hpa.s
    obtain ⟨e2, k2, hv2, _⟩ := hpa.o
    rw [List.length_map] at hv1 hv2
    subst hv1 hv2
    have hclr := hcl.on (unhide HGA).below
    have x0 : wr.cell? ⟨b, off + k * 12, none⟩ = some (.int .i64 p.ev.time) := hclr 0 (by simp)
    by_cases htm : p.ev.time < u
    rotate_left
    · have HDUE : Hid (Due ps u k) := hide ((unhide HSTOP) htm)
      obtain rfl := (unhide HDUE).unique (unhide HN)
      have hkp := (unhide HDUE).hp
      have hps := (unhide HLL).1
      have n0 : wr.cell? ⟨w.heap.size, 0, none⟩ = some (.int .i64 proc) := (unhide HGA).box 0 (by simp)
      have n1 : wr.cell? ⟨w.heap.size, 1, none⟩ = some (.int .i64 s.x) := (unhide HGA).box 1 (by simp)
      have n2 : wr.cell? ⟨w.heap.size, 2, none⟩ = some (.int .i64 s.y) := (unhide HGA).box 2 (by simp)
      have n3 : wr.cell? ⟨w.heap.size, 3, none⟩ = some (.int .i64 s.c) := (unhide HGA).box 3 (by simp)
      have n4 : wr.cell? ⟨w.heap.size, 4, none⟩ = some (.slice (some ⟨b, off, none⟩) ps.length c1) := (unhide HGA).box 4 (by simp)
      go_wp2_with fail
      clear n0 n1 n2 n3 n4
      refine (l21Copy_any proc s _ ps k ps.length wr ((unhide HD).on (unhide HGA).below) hkp (Nat.le_refl _) (by omega) (fun p hp => by have := (unhide HLL).2 p hp; omega)).mono ?_
      rintro e w5 ⟨v5, rfl, ho5, hb5⟩
      rw [List.take_length] at ho5
      obtain ⟨va, vc, hv5⟩ := ho5.at.sliced
      obtain ⟨dl, hdl⟩ : ∃ dl, dl = (ps.drop k).length := ⟨_, rfl⟩
      rw [← hdl] at hv5
      subst hv5
      obtain ⟨t, ht⟩ : ∃ t, t = stAt s ps k := ⟨_, rfl⟩
      have HT := hide ht
      have hs5 := hb5.size
      have hgs := (unhide HGA).size
      have hx : Below w5.heap.size w5 (w5.alloc (.cells #[.int .i64 proc, .int .i64 s.x, .int .i64 s.y, .int .i64 s.c, .slice va dl vc] 32)) := (Below.refl _ _).alloc (Nat.le_refl _) _
      have H56 := hide (below_then hb5 hx)
      have HO6 := hide (ho5.on hx)
      have HR6 := hide (row_new w5 (laneCells proc s (.slice va dl vc)) 32)
      have HS6 : Hid ((w5.alloc (.cells #[.int .i64 proc, .int .i64 s.x, .int .i64 s.y, .int .i64 s.c, .slice va dl vc] 32)).heap.size = w5.heap.size + 1) := hide (by simp)
      clear hdl ht ho5 hb5 hx
      go_upto_region 13 with fail
      generalize (w5.alloc (.cells #[.int .i64 proc, .int .i64 s.x, .int .i64 s.y, .int .i64 s.c, .slice va dl vc] 32)) = W6 at *
      have hbs := (unhide HGA).base.of_block ((unhide H56).block w2.heap.size hgs)
      rw [← unhide HT] at hbs
      have b0 : W6.cell? ⟨w2.heap.size, 0, none⟩ = some (.int .i64 t.x) := hbs.cell (i := 0) (by omega)
      have b1 : W6.cell? ⟨w2.heap.size, 1, none⟩ = some (.int .i64 t.y) := hbs.cell (i := 1) (by omega)
      have b2 : W6.cell? ⟨w2.heap.size, 2, none⟩ = some (.int .i64 t.c) := hbs.cell (i := 2) (by omega)
      have g1 : W6.cell? ⟨w5.heap.size, 1, none⟩ = some (.int .i64 s.x) := (unhide HR6).cell (i := 1) (show 1 < 5 by omega)
      have f1 := (unhide HR6).frozen 1
      have g2 : W6.cell? ⟨w5.heap.size, 2, none⟩ = some (.int .i64 s.y) := (unhide HR6).cell (i := 2) (show 2 < 5 by omega)
      have f2 := (unhide HR6).frozen 2
      have g3 : W6.cell? ⟨w5.heap.size, 3, none⟩ = some (.int .i64 s.c) := (unhide HR6).cell (i := 3) (show 3 < 5 by omega)
      have f3 := (unhide HR6).frozen 3
      have hq5 : w2.heap.size ≠ w5.heap.size := by omega
      have hset : (((W6.setCell ⟨w5.heap.size, 1, none⟩ (.int .i64 t.x)).setCell ⟨w5.heap.size, 2, none⟩ (.int .i64 t.y)).setCell ⟨w5.heap.size, 3, none⟩ (.int .i64 t.c)) = setVals W6 w5.heap.size 1 [.int .i64 t.x, .int .i64 t.y, .int .i64 t.c] := rfl
      have hoth : ∀ b, b ≠ w5.heap.size → (((W6.setCell ⟨w5.heap.size, 1, none⟩ (.int .i64 t.x)).setCell ⟨w5.heap.size, 2, none⟩ (.int .i64 t.y)).setCell ⟨w5.heap.size, 3, none⟩ (.int .i64 t.c)).heap[b]? = W6.heap[b]? := fun b hb => by rw [hset]; exact setVals_other _ _ _ _ hb
      have hr7 : CellsAt (((W6.setCell ⟨w5.heap.size, 1, none⟩ (.int .i64 t.x)).setCell ⟨w5.heap.size, 2, none⟩ (.int .i64 t.y)).setCell ⟨w5.heap.size, 3, none⟩ (.int .i64 t.c)) w5.heap.size 0 [.int .i64 proc, .int .i64 t.x, .int .i64 t.y, .int .i64 t.c, .slice va dl vc] := fun j hj => by
        rw [hset, Nat.zero_add, (setVals_row [.int .i64 t.x, .int .i64 t.y, .int .i64 t.c] 1 W6 _ (unhide HR6)).cell (show j < 5 from hj)]
        match j, hj with
        | 0, _ => rfl
        | 1, _ => rfl
        | 2, _ => rfl
        | 3, _ => rfl
        | 4, _ => rfl
      have hz7 : (((W6.setCell ⟨w5.heap.size, 1, none⟩ (.int .i64 t.x)).setCell ⟨w5.heap.size, 2, none⟩ (.int .i64 t.y)).setCell ⟨w5.heap.size, 3, none⟩ (.int .i64 t.c)).heap.size = W6.heap.size := by rw [hset]; exact setVals_size _ _ _
      have hb7 : Below wr.heap.size wr (((W6.setCell ⟨w5.heap.size, 1, none⟩ (.int .i64 t.x)).setCell ⟨w5.heap.size, 2, none⟩ (.int .i64 t.y)).setCell ⟨w5.heap.size, 3, none⟩ (.int .i64 t.c)) := by rw [hset]; exact setVals_below _ _ _ (unhide H56) hs5
      have HO7 := hide ((unhide HO6).keep2 (w' := (((W6.setCell ⟨w5.heap.size, 1, none⟩ (.int .i64 t.x)).setCell ⟨w5.heap.size, 2, none⟩ (.int .i64 t.y)).setCell ⟨w5.heap.size, 3, none⟩ (.int .i64 t.c))) (fun b _ hb _ => hoth b (by omega)))
      have HR7 := hide hr7
      have HZ7 := hide hz7
      have HB7 := hide hb7
      clear hset hoth hr7 hz7 hb7 hbs
      go_upto_region 14 with fail
      clear b0 b1 b2 g1 g2 g3 f1 f2 f3
      generalize (((W6.setCell ⟨w5.heap.size, 1, none⟩ (.int .i64 t.x)).setCell ⟨w5.heap.size, 2, none⟩ (.int .i64 t.y)).setCell ⟨w5.heap.size, 3, none⟩ (.int .i64 t.c)) = W7 at *
      refine wp_region_last (L := 7) (S := fun w' : World => w'.cell? ⟨w5.heap.size, 0, none⟩ = some (.int .i64 proc) ∧ w'.cell? ⟨w5.heap.size, 1, none⟩ = some (.int .i64 t.x) ∧ w'.cell? ⟨w5.heap.size, 2, none⟩ = some (.int .i64 t.y) ∧ w'.cell? ⟨w5.heap.size, 3, none⟩ = some (.int .i64 t.c) ∧ w'.cell? ⟨w5.heap.size, 4, none⟩ = some (.slice va dl vc)) (by kernel_rfl) ?_
      have hHeld : (fun w' : World => w'.cell? ⟨w5.heap.size, 0, none⟩ = some (.int .i64 proc) ∧ w'.cell? ⟨w5.heap.size, 1, none⟩ = some (.int .i64 t.x) ∧ w'.cell? ⟨w5.heap.size, 2, none⟩ = some (.int .i64 t.y) ∧ w'.cell? ⟨w5.heap.size, 3, none⟩ = some (.int .i64 t.c) ∧ w'.cell? ⟨w5.heap.size, 4, none⟩ = some (.slice va dl vc)) W7.drew := ⟨((unhide HR7).on (Below.refl _ _).drew) 0 (by simp), ((unhide HR7).on (Below.refl _ _).drew) 1 (by simp), ((unhide HR7).on (Below.refl _ _).drew) 2 (by simp), ((unhide HR7).on (Below.refl _ _).drew) 3 (by simp), ((unhide HR7).on (Below.refl _ _).drew) 4 (by simp)⟩
      refine wpAnyL_take (i := 0) (v := ?_) (by kernel_rfl) rfl (by kernel_rfl) (by kernel_rfl) (by kernel_rfl) (fun _ _ _ h => h) hHeld (Or.inl ⟨by kernel_rfl, ?_⟩) ?_
      rotate_left
      · (intro w hSw; (try dsimp only at hSw); obtain ⟨s0, s1, s2, s3, s4⟩ := hSw; go_simp; try with_reducible rfl)
      refine wpAnyL_take (i := 1) (v := ?_) (by kernel_rfl) rfl (by kernel_rfl) (by kernel_rfl) (by kernel_rfl) (fun _ _ _ h => h) hHeld (Or.inl ⟨by kernel_rfl, ?_⟩) ?_
      rotate_left
      · (intro w hSw; (try dsimp only at hSw); obtain ⟨s0, s1, s2, s3, s4⟩ := hSw; go_simp; try with_reducible rfl)
      refine wpAnyL_take (i := 3) (v := ?_) (by kernel_rfl) rfl (by kernel_rfl) (by kernel_rfl) (by kernel_rfl) (fun _ _ _ h => h) hHeld (Or.inl ⟨by kernel_rfl, ?_⟩) ?_
      rotate_left
      · (intro w hSw; (try dsimp only at hSw); obtain ⟨s0, s1, s2, s3, s4⟩ := hSw; go_simp; try with_reducible rfl)
      have hl8 := (allS_len (unhide HLL).2 k hkp).1
      have hl9 := (allS_len (unhide HLL).2 k hkp).2
      have HE8 := hide ((RowsFr.of_owns (rowlenEvent (allS ps k)) (by rw [List.length_map]; exact (unhide HGA).ev)).on (unhide HB7)).at
      have HE9 := hide ((RowsFr.of_owns (rowlenOut (allO ps k)) (by rw [List.length_map]; exact (unhide HGA).out)).on (unhide HB7)).at
      refine wpAnyL_one (i := 2) (by kernel_rfl) rfl (fun K hK => ?_)
      go_simp
      refine (E.specEventSort_any evLess_strict _ (allS ps k) W7.drew ((unhide HE8).on (Below.refl _ _).drew) (by omega)).mono ?_
      rintro e w8 ⟨ue, zs, rfl, hup, hmem, hfe, hb8⟩
      have h78 : Below W7.heap.size W7 w8 := ((Below.refl _ _).drew).trans hb8
      have HFE := hide hfe
      have H78 := hide h78
      have HUP := hide hup
      have HMEM := hide hmem
      clear hfe hup hmem hb8 h78
      (try go_simp)
      refine held_on hK ?_ (fun hHeld => ?_)
      · exact ⟨((unhide HR7).on (unhide H78)) 0 (by simp), ((unhide HR7).on (unhide H78)) 1 (by simp), ((unhide HR7).on (unhide H78)) 2 (by simp), ((unhide HR7).on (unhide H78)) 3 (by simp), ((unhide HR7).on (unhide H78)) 4 (by simp)⟩
      clear hK K
      refine wpAnyL_one (i := 4) (by kernel_rfl) rfl (fun K hK => ?_)
      go_simp
      refine (specOutSort_any outLess_strict _ (allO ps k) w8 ((unhide HE9).on (unhide H78)) (by omega)).mono ?_
      rintro e w9 ⟨uo, ys, rfl, hperm, hasc, hfo, hb9⟩
      have HFO := hide hfo
      have H79 := hide (below_then (unhide H78) hb9)
      have HFE9 := hide ((unhide HFE).on hb9)
      have HO9 := hide ((unhide HO7).on (below_then (unhide H78) hb9))
      have HBE := hide (fun g (hg : ue.ownBlock = some g) => ((unhide HFE).blk g hg).2)
      have HPERM := hide hperm
      have HASC := hide hasc
      have hs8 := (unhide H78).size
      have hs9 := hb9.size
      have hz7 := unhide HZ7
      have hz6 := unhide HS6
      have hr9 := ((unhide HGA).res.of_block ((unhide HB7).block (w.heap.size + 1) (by omega))).of_block ((unhide H79).block (w.heap.size + 1) (by omega))
      have y0 : w9.cell? ⟨w.heap.size + 1, 0, none⟩ = some (.int .i64 0) := hr9.cell (i := 0) (by omega)
      have z0 := hr9.frozen 0
      have y1 : w9.cell? ⟨w.heap.size + 1, 1, none⟩ = some (.int .i64 0) := hr9.cell (i := 1) (by omega)
      have z1 := hr9.frozen 1
      have y2 : w9.cell? ⟨w.heap.size + 1, 2, none⟩ = some (.int .i64 0) := hr9.cell (i := 2) (by omega)
      have z2 := hr9.frozen 2
      have y3 : w9.cell? ⟨w.heap.size + 1, 3, none⟩ = some (.int .i64 0) := hr9.cell (i := 3) (by omega)
      have z3 := hr9.frozen 3
      have y4 : w9.cell? ⟨w.heap.size + 1, 4, none⟩ = some (.slice none 0 0) := hr9.cell (i := 4) (by omega)
      have z4 := hr9.frozen 4
      clear hfo hb9 hperm hasc hr9
      (try go_simp)
      refine held_on hK ?_ (fun hHeld => ?_)
      · exact ⟨((unhide HR7).on (unhide H79)) 0 (by simp), ((unhide HR7).on (unhide H79)) 1 (by simp), ((unhide HR7).on (unhide H79)) 2 (by simp), ((unhide HR7).on (unhide H79)) 3 (by simp), ((unhide HR7).on (unhide H79)) 4 (by simp)⟩
      clear hK K
      have hkeep : ∀ b, b ≠ w.heap.size + 1 → (setVals w9 (w.heap.size + 1) 0 [.int .i64 proc, .int .i64 t.x, .int .i64 t.y, .int .i64 t.c, .slice va dl vc]).heap[b]? = w9.heap[b]? := fun b hb => setVals_other _ _ _ _ hb
      refine wpAnyL_one (i := 5) (by kernel_rfl) rfl (fun K hK => ?_)
      go_simp
      refine held_on hK ?_ (fun hHeld => ?_)
      · exact ⟨(World.cell?_of_block (a := ⟨w5.heap.size, 0, none⟩) (hkeep w5.heap.size (by omega))).trans (((unhide HR7).on (unhide H79)) 0 (by simp)), (World.cell?_of_block (a := ⟨w5.heap.size, 1, none⟩) (hkeep w5.heap.size (by omega))).trans (((unhide HR7).on (unhide H79)) 1 (by simp)), (World.cell?_of_block (a := ⟨w5.heap.size, 2, none⟩) (hkeep w5.heap.size (by omega))).trans (((unhide HR7).on (unhide H79)) 2 (by simp)), (World.cell?_of_block (a := ⟨w5.heap.size, 3, none⟩) (hkeep w5.heap.size (by omega))).trans (((unhide HR7).on (unhide H79)) 3 (by simp)), (World.cell?_of_block (a := ⟨w5.heap.size, 4, none⟩) (hkeep w5.heap.size (by omega))).trans (((unhide HR7).on (unhide H79)) 4 (by simp))⟩
      clear hK K
      refine wpAnyL_one (i := 6) (by kernel_rfl) rfl (fun K hK => ?_)
      go_simp
      refine held_on hK ?_ (fun hHeld => ?_)
      · exact hHeld
      clear hK K
      refine wpAnyL_end (by kernel_rfl) rfl (fun K hK => ?_)
      go_simp
      refine hK.out _ _ ?_
      clear hK K hHeld
      refine wpAnyL_done (by kernel_rfl) ?_ _
      go_wp2_with fail
      have hE : laneSettle proc s ps k = ((proc, t, ps.drop k), allS ps k, allO ps k) := by rw [laneSettle, if_pos (unhide HOK), unhide HT]
      refine bodyPost_ret (v := .tuple #[laneAgg proc t (.slice va dl vc), ue, uo]) (by simp [results, Try.results27, go_sem, y0, y1, y2, y3, y4]) rfl ⟨.slice va dl vc, ue, uo, ?_, ⟨zs, ys, W7.heap.size, w8.heap.size, ?_⟩, ?_⟩
      · rw [hE]
      · rw [hE]
        have h1 := unhide HO9
        have h2 := unhide HFE9
        have h3 := unhide HFO
        have h4 : W7.drew.heap.size = W7.heap.size := by simp
        rw [h4] at h2
        refine ⟨(h1.keep2 (fun b hb _ _ => hkeep b (by omega))).wide (by omega) (by omega), h2.block (fun b hb _ => hkeep b (by have := (h2.blk b hb).1; omega)), unhide HBE, hs8, h3.block (fun b hb _ => hkeep b (by have := (h3.blk b hb).1; omega)), ?_, unhide HUP, unhide HMEM, unhide HPERM, unhide HASC, by omega⟩
        show w8.heap.size ≤ (setVals w9 (w.heap.size + 1) 0 [.int .i64 proc, .int .i64 t.x, .int .i64 t.y, .int .i64 t.c, .slice va dl vc]).heap.size
        rw [setVals_size]
        exact hs9
      · exact setVals_below [.int .i64 proc, .int .i64 t.x, .int .i64 t.y, .int .i64 t.c, .slice va dl vc] 0 w9 (below_then (unhide HGA).below (below_then (unhide HB7) (unhide H79))) (Nat.le_succ _)
    have x7 : wr.cell? ⟨b, off + k * 12 + 7, none⟩ = some (.int .i64 p.st.x) := hclr 7 (by simp)
    have x8 : wr.cell? ⟨b, off + k * 12 + 8, none⟩ = some (.int .i64 p.st.y) := hclr 8 (by simp)
    have x9 : wr.cell? ⟨b, off + k * 12 + 9, none⟩ = some (.int .i64 p.st.c) := hclr 9 (by simp)
    have q0 := (unhide HGA).base.cell (i := 0) (by omega)
    have q1 := (unhide HGA).base.cell (i := 1) (by omega)
    have q2 := (unhide HGA).base.cell (i := 2) (by omega)
    have f0 := (unhide HGA).base.frozen 0
    have f1 := (unhide HGA).base.frozen 1
    have f2 := (unhide HGA).base.frozen 2
    have hset : (((wr.setCell ⟨w2.heap.size, 0, none⟩ (.int .i64 p.st.x)).setCell ⟨w2.heap.size, 1, none⟩ (.int .i64 p.st.y)).setCell ⟨w2.heap.size, 2, none⟩ (.int .i64 p.st.c)) = setVals wr w2.heap.size 0 (stCells p.st) := rfl
    have hG2 := unhide HGA
    have hoth : ∀ c, c ≠ w2.heap.size → (((wr.setCell ⟨w2.heap.size, 0, none⟩ (.int .i64 p.st.x)).setCell ⟨w2.heap.size, 1, none⟩ (.int .i64 p.st.y)).setCell ⟨w2.heap.size, 2, none⟩ (.int .i64 p.st.c)).heap[c]? = wr.heap[c]? := fun c hc => by rw [hset]; exact setVals_other _ _ _ _ hc
    have HBS : Hid (Below w.heap.size w (((wr.setCell ⟨w2.heap.size, 0, none⟩ (.int .i64 p.st.x)).setCell ⟨w2.heap.size, 1, none⟩ (.int .i64 p.st.y)).setCell ⟨w2.heap.size, 2, none⟩ (.int .i64 p.st.c))) := hide (by rw [hset]; exact setVals_below _ _ _ hG2.below (by omega))
    have HEV : Hid ((((wr.setCell ⟨w2.heap.size, 0, none⟩ (.int .i64 p.st.x)).setCell ⟨w2.heap.size, 1, none⟩ (.int .i64 p.st.y)).setCell ⟨w2.heap.size, 2, none⟩ (.int .i64 p.st.c)).ownsRow (w.heap.size + 2) 41 7 ve (allS ps k).length (flatCells ((allS ps k).map evRow))) := hide (by
      obtain ⟨h1, h2 | ⟨g, cap, cur, h3, h4, h5, h6⟩⟩ := hG2.ev
      · exact ⟨h1, Or.inl h2⟩
      · exact ⟨h1, Or.inr ⟨g, cap, cur, h3, h4, by rw [hoth g (hG2.ne g (by rw [h3]; rfl))]; exact h5, h6⟩⟩)
    have HOU : Hid ((((wr.setCell ⟨w2.heap.size, 0, none⟩ (.int .i64 p.st.x)).setCell ⟨w2.heap.size, 1, none⟩ (.int .i64 p.st.y)).setCell ⟨w2.heap.size, 2, none⟩ (.int .i64 p.st.c)).ownsRow (w.heap.size + 2) 92 5 vo (allO ps k).length (flatCells ((allO ps k).map outRow))) := hide (by
      obtain ⟨h1, h2 | ⟨g, cap, cur, h3, h4, h5, h6⟩⟩ := hG2.out
      · exact ⟨h1, Or.inl h2⟩
      · exact ⟨h1, Or.inr ⟨g, cap, cur, h3, h4, by rw [hoth g (hG2.no g (by rw [h3]; rfl))]; exact h5, h6⟩⟩)
    have HBA : Hid ((((wr.setCell ⟨w2.heap.size, 0, none⟩ (.int .i64 p.st.x)).setCell ⟨w2.heap.size, 1, none⟩ (.int .i64 p.st.y)).setCell ⟨w2.heap.size, 2, none⟩ (.int .i64 p.st.c)).rowIs w2.heap.size 29 3 (fun i => (stCells (stAt s ps (k + 1))).getD i undef)) := hide (by
      rw [hset, unhide HST]
      refine (setVals_row (stCells p.st) 0 wr _ hG2.base).congr (fun i hi => ?_)
      match i, hi with
      | 0, _ => rfl
      | 1, _ => rfl
      | 2, _ => rfl)
    have HRE : Hid ((((wr.setCell ⟨w2.heap.size, 0, none⟩ (.int .i64 p.st.x)).setCell ⟨w2.heap.size, 1, none⟩ (.int .i64 p.st.y)).setCell ⟨w2.heap.size, 2, none⟩ (.int .i64 p.st.c)).rowIs (w.heap.size + 1) 32 5 (fun i => [Value.int .i64 0, .int .i64 0, .int .i64 0, .int .i64 0, .slice none 0 0].getD i undef)) := hide (hG2.res.of_block (hoth (w.heap.size + 1) (by omega)))
    have HBO : Hid (CellsAt (((wr.setCell ⟨w2.heap.size, 0, none⟩ (.int .i64 p.st.x)).setCell ⟨w2.heap.size, 1, none⟩ (.int .i64 p.st.y)).setCell ⟨w2.heap.size, 2, none⟩ (.int .i64 p.st.c)) w.heap.size 0 (laneCells proc s (.slice (some ⟨b, off, none⟩) ps.length c1))) := hide (fun j hj => (World.cell?_of_block (a := ⟨w.heap.size, 0 + j, none⟩) (hoth w.heap.size (by omega))).trans (hG2.box j hj))
    have HSZ : Hid ((((wr.setCell ⟨w2.heap.size, 0, none⟩ (.int .i64 p.st.x)).setCell ⟨w2.heap.size, 1, none⟩ (.int .i64 p.st.y)).setCell ⟨w2.heap.size, 2, none⟩ (.int .i64 p.st.c)).heap.size = wr.heap.size) := hide (by rw [hset]; exact setVals_size _ _ _)
    have HAP := hide hG2.ap
    have HNE := hide hG2.ne
    have HNO := hide hG2.no
    have HGS := hide hG2.size
    have HCL := hide hcl
    have HPA := hide hpa
    clear hset hoth hG2 hclr hcl hpa
    go_upto_region 9 with fail
    clear x0 x7 x8 x9 q0 q1 q2 f0 f1 f2 m4
    generalize (((wr.setCell ⟨w2.heap.size, 0, none⟩ (.int .i64 p.st.x)).setCell ⟨w2.heap.size, 1, none⟩ (.int .i64 p.st.y)).setCell ⟨w2.heap.size, 2, none⟩ (.int .i64 p.st.c)) = wS at *
    have m4 : wS.cell? ⟨w.heap.size, 4, none⟩ = some (.slice (some ⟨b, off, none⟩) ps.length c1) := (unhide HBO) 4 (by simp)
    have x10 : wS.cell? ⟨b, off + k * 12 + 10, none⟩ = some (.slice e1 p.sends.length k1) := ((unhide HCL).on (unhide HBS)) 10 (by simp)
    have hl8 := (allS_len (unhide HLL).2 k (by omega)).1
    have hl9 := (allS_len (unhide HLL).2 k (by omega)).2
    have hps := (unhide HLL).1
    have hsS := unhide HSZ
    have hgs := unhide HGS
    go_upto_region 10 with (at_builtin; refine wpList_append_rowsAt wS (by rfl) _ _ _ (by rfl) (w.heap.size + 2) 41 i7 _ 7 56 slice_cpEvent hi7 hz70 hz71 hz72 (by rfl) (by omega) ve (allS ps k).length (flatCells ((allS ps k).map evRow)) (by rfl) (unhide HEV) (p.sends.map evRow) _ (by rfl) ((unhide HPA).s.on (unhide HBS)) (rowlenEvent p.sends) (by rw [List.length_map]; unfold maxLen; omega) (by rw [List.length_map]; omega) (by omega) ?_; intro ve2 wA hownA hgrowA hatA)
    have hbA : Below w.heap.size w wA := Below.grown (unhide HBS) hgrowA (unhide HBS).size (fun b hb => by have := ((unhide HEV).lt b hb).1; omega)
    have hsA := hgrowA.size
    have hkA : ∀ c, c < w.heap.size + 2 ∨ c = w2.heap.size → wA.heap[c]? = wS.heap[c]? := fun c hc => hgrowA.block c (by omega) (fun e => by
      have h1 := ((unhide HEV).lt c e.symm).1
      have h2 := (unhide HNE) c e.symm
      omega)
    have HEV2 : Hid (wA.ownsRow (w.heap.size + 2) 41 7 ve2 (allS ps (k + 1)).length (flatCells ((allS ps (k + 1)).map evRow))) := hide (by
      rw [unhide HM8, List.length_append, flatE_app]
      have e := hownA
      rwa [List.length_map] at e)
    have HOU2 : Hid (wA.ownsRow (w.heap.size + 2) 92 5 vo (allO ps k).length (flatCells ((allO ps k).map outRow))) := hide ((unhide HOU).kept hgrowA (by
      cases h : vo.ownBlock with
      | none => exact Or.inl rfl
      | some b => exact Or.inr (fun e => (unhide HAP) b e.symm h)))
    have HAP2 : Hid (Apart ve2 vo) := hide (fun b h1 h2 => by
      rcases hatA with h | h
      · rw [h] at h1; exact (unhide HAP) b h1 h2
      · rw [h] at h1
        have h3 := ((unhide HOU).lt b h2).2
        simp at h1
        omega)
    have HNE2 : Hid (∀ b, ve2.ownBlock = some b → b ≠ w2.heap.size) := hide (fun b h1 => by
      rcases hatA with h | h
      · rw [h] at h1; exact (unhide HNE) b h1
      · rw [h] at h1
        simp at h1
        omega)
    have HBA2 := hide ((unhide HBA).of_block (hkA _ (Or.inr rfl)))
    have HRE2 := hide ((unhide HRE).of_block (hkA _ (Or.inl (by omega))))
    have HBO2 : Hid (CellsAt wA w.heap.size 0 (laneCells proc s (.slice (some ⟨b, off, none⟩) ps.length c1))) := hide (fun j hj => (World.cell?_of_block (a := ⟨w.heap.size, 0 + j, none⟩) (hkA w.heap.size (Or.inl (by omega)))).trans ((unhide HBO) j hj))
    have HBAw := hide hbA
    clear hownA hgrowA hatA hkA m4 x10 HEV HOU HAP HNE HBA HRE HBO
    have m4 : wA.cell? ⟨w.heap.size, 4, none⟩ = some (.slice (some ⟨b, off, none⟩) ps.length c1) := (unhide HBO2) 4 (by simp)
    have x11 : wA.cell? ⟨b, off + k * 12 + 11, none⟩ = some (.slice e2 p.outs.length k2) := ((unhide HCL).on (unhide HBAw)) 11 (by simp)
    go_upto_region 11 with (at_builtin; refine wpList_append_rowsAt wA (by rfl) _ _ _ (by rfl) (w.heap.size + 2) 92 i5 _ 5 40 slice_cpOut hi5 hz50 hz51 hz52 (by rfl) (by omega) vo (allO ps k).length (flatCells ((allO ps k).map outRow)) (by rfl) (unhide HOU2) (p.outs.map outRow) _ (by rfl) ((unhide HPA).o.on (unhide HBAw)) (rowlenOut p.outs) (by rw [List.length_map]; unfold maxLen; omega) (by rw [List.length_map]; omega) (by omega) ?_; intro vo2 wB hownB hgrowB hatB)
    have hbB : Below w.heap.size w wB := Below.grown (unhide HBAw) hgrowB (unhide HBAw).size (fun b hb => by have := ((unhide HOU2).lt b hb).1; omega)
    have hsB := hgrowB.size
    have hkB : ∀ c, c < w.heap.size + 2 ∨ c = w2.heap.size → wB.heap[c]? = wA.heap[c]? := fun c hc => hgrowB.block c (by omega) (fun e => by
      have h1 := ((unhide HOU2).lt c e.symm).1
      have h2 := (unhide HNO) c e.symm
      omega)
    have HOU3 : Hid (wB.ownsRow (w.heap.size + 2) 92 5 vo2 (allO ps (k + 1)).length (flatCells ((allO ps (k + 1)).map outRow))) := hide (by
      rw [unhide HM9, List.length_append, flatO_app]
      have e := hownB
      rwa [List.length_map] at e)
    have HEV3 : Hid (wB.ownsRow (w.heap.size + 2) 41 7 ve2 (allS ps (k + 1)).length (flatCells ((allS ps (k + 1)).map evRow))) := hide ((unhide HEV2).kept hgrowB (by
      cases h : ve2.ownBlock with
      | none => exact Or.inl rfl
      | some b => exact Or.inr (fun e => (unhide HAP2) b h e.symm)))
    have HAP3 : Hid (Apart ve2 vo2) := hide (fun b h1 h2 => by
      rcases hatB with h | h
      · rw [h] at h2; exact (unhide HAP2) b h1 h2
      · rw [h] at h2
        have h3 := ((unhide HEV2).lt b h1).2
        simp at h2
        omega)
    have HNO3 : Hid (∀ b, vo2.ownBlock = some b → b ≠ w2.heap.size) := hide (fun b h1 => by
      rcases hatB with h | h
      · rw [h] at h1; exact (unhide HNO) b h1
      · rw [h] at h1
        simp at h1
        omega)
    have HGB : Hid (Gath w w2 proc s ps (.slice (some ⟨b, off, none⟩) ps.length c1) (k + 1) ve2 vo2 wB) := hide ⟨unhide HEV3, unhide HOU3, unhide HAP3, unhide HNE2, unhide HNO3, (unhide HBA2).of_block (hkB _ (Or.inr rfl)), (unhide HRE2).of_block (hkB _ (Or.inl (by omega))), fun j hj => (World.cell?_of_block (a := ⟨w.heap.size, 0 + j, none⟩) (hkB w.heap.size (Or.inl (by omega)))).trans ((unhide HBO2) j hj), hbB, by omega⟩
    clear hownB hgrowB hatB hkB hbB hbA m4 x11
    go_wp2_with fail
    go_roundw
    case rel => exact ⟨k + 1, _, _, by omega, rfl, rfl, by simp, hide ((unhide HLT) htm), HGB⟩
    case measure => (simp [intOf]; try omega)
end Go.Proofs.Ythekkgndckkoaaa
