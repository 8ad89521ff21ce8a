/- spec.LaneCut. -/
import Derived.Test.YtjdaedcpjfcpjaaCut1n
import Derived.Test.YtjdaedcpjfcpjaaCopy4
namespace Go.Proofs.Ytjdaedcpjfcpjaa
open Go.RowKit
set_option linter.unusedVariables false
set_option linter.unusedSimpArgs false

set_option maxRecDepth 100000 in
set_option maxHeartbeats 2000000 in
theorem specLaneCut_any (proc : Int) (s : StV) (vd v : Value) (ps : List PastV) (es : List EvV) (n : Nat) (w : World) (hn : Same ps es n) (hd : PastsAt w vd ps) (h : RowsAt 7 w v (es.map evRow)) (hlen : ps.length ≤ 1048576) (hl : ∀ p ∈ ps, p.sends.length ≤ 1048576 ∧ p.outs.length ≤ 1048576) :
    Calls Try.prog 22 #[laneAgg proc s vd, v] w fun e w' => ∃ v', e = .returned (.tuple #[laneAgg (laneCut proc s ps es n).1.1 (laneCut proc s ps es n).1.2.1 v', .bool (laneCut proc s ps es n).2]) ∧ PastsOwn w.heap.size w'.heap.size w' v' (laneCut proc s ps es n).1.2.2 ∧ Below w.heap.size w w' := by
  have HN := hide hn
  have HD := hide hd
  have HE := hide h
  have HL := hide hl
  obtain ⟨a1, c1, e1, _, hm, _⟩ := hd
  subst e1
  obtain ⟨ad, cap, rfl, hlc2, hm2, _⟩ := rows_ev h
  unfold maxLen at hm hm2
  have hb0 : Below w.heap.size w ((w.alloc (.cells #[.int .i64 proc, .int .i64 s.x, .int .i64 s.y, .int .i64 s.c, .slice a1 ps.length c1] 32)).alloc (.cells #[.int .i64 0, .int .i64 0, .int .i64 0, .int .i64 0, .slice none 0 0] 32)) := ((Below.refl _ _).alloc (Nat.le_refl _) _).alloc (by simp) _
  have cA : CellsAt ((w.alloc (.cells #[.int .i64 proc, .int .i64 s.x, .int .i64 s.y, .int .i64 s.c, .slice a1 ps.length c1] 32)).alloc (.cells #[.int .i64 0, .int .i64 0, .int .i64 0, .int .i64 0, .slice none 0 0] 32)) w.heap.size 0 (laneCells proc s (.slice a1 ps.length c1)) := (cellsAt_new w (laneCells proc s (.slice a1 ps.length c1)) 32).on ((Below.refl _ _).alloc (Nat.le_refl _) _)
  have rB : ((w.alloc (.cells #[.int .i64 proc, .int .i64 s.x, .int .i64 s.y, .int .i64 s.c, .slice a1 ps.length c1] 32)).alloc (.cells #[.int .i64 0, .int .i64 0, .int .i64 0, .int .i64 0, .slice none 0 0] 32)).rowIs (w.heap.size + 1) 32 5 (fun i => [Value.int .i64 0, .int .i64 0, .int .i64 0, .int .i64 0, .slice none 0 0].getD i undef) := by
    have e := row_new (w.alloc (.cells #[.int .i64 proc, .int .i64 s.x, .int .i64 s.y, .int .i64 s.c, .slice a1 ps.length c1] 32)) [Value.int .i64 0, .int .i64 0, .int .i64 0, .int .i64 0, .slice none 0 0] 32
    have hs : (w.alloc (.cells #[.int .i64 proc, .int .i64 s.x, .int .i64 s.y, .int .i64 s.c, .slice a1 ps.length c1] 32)).heap.size = w.heap.size + 1 := by simp
    rw [hs] at e
    exact e
  have hs0 : ((w.alloc (.cells #[.int .i64 proc, .int .i64 s.x, .int .i64 s.y, .int .i64 s.c, .slice a1 ps.length c1] 32)).alloc (.cells #[.int .i64 0, .int .i64 0, .int .i64 0, .int .i64 0, .slice none 0 0] 32)).heap.size = w.heap.size + 2 := by simp
  have HA := hide cA
  have HB0 := hide hb0
  have HR := hide rB
  have HS0 := hide hs0
  clear hb0 cA rB h hn hl hs0
  go_enter Try.func22, Try.ntmps22
  go_upto_region 1 with fail
  generalize ((w.alloc (.cells #[.int .i64 proc, .int .i64 s.x, .int .i64 s.y, .int .i64 s.c, .slice a1 ps.length c1] 32)).alloc (.cells #[.int .i64 0, .int .i64 0, .int .i64 0, .int .i64 0, .slice none 0 0] 32)) = X at *
  have k0 : X.cell? ⟨w.heap.size, 0, none⟩ = some (.int .i64 proc) := (unhide HA) 0 (by simp)
  have k1 : X.cell? ⟨w.heap.size, 1, none⟩ = some (.int .i64 s.x) := (unhide HA) 1 (by simp)
  have k2 : X.cell? ⟨w.heap.size, 2, none⟩ = some (.int .i64 s.y) := (unhide HA) 2 (by simp)
  have k3 : X.cell? ⟨w.heap.size, 3, none⟩ = some (.int .i64 s.c) := (unhide HA) 3 (by simp)
  have k4 : X.cell? ⟨w.heap.size, 4, none⟩ = some (.slice a1 ps.length c1) := (unhide HA) 4 (by simp)
  go_wp2_with fail
  refine (specLaneOk_any proc s _ ps X ((unhide HD).on (unhide HB0))).mono ?_
  rintro e w1 ⟨rfl, hb1⟩
  have hB1 := below_then (unhide HB0) hb1
  replace k0 := cell_on hb1 k0
  replace k1 := cell_on hb1 k1
  replace k2 := cell_on hb1 k2
  replace k3 := cell_on hb1 k3
  replace k4 := cell_on hb1 k4
  cases hok : laneOk proc s ps
  · have HOK := hide hok
    clear hok
    have hrx := (unhide HR).of_block ((hb1).block (w.heap.size + 1) (unhide HR).lt)
    have y0 : w1.cell? ⟨w.heap.size + 1, 0, none⟩ = some (.int .i64 0) := hrx.cell (i := 0) (by omega)
    have y1 : w1.cell? ⟨w.heap.size + 1, 1, none⟩ = some (.int .i64 0) := hrx.cell (i := 1) (by omega)
    have y2 : w1.cell? ⟨w.heap.size + 1, 2, none⟩ = some (.int .i64 0) := hrx.cell (i := 2) (by omega)
    have y3 : w1.cell? ⟨w.heap.size + 1, 3, none⟩ = some (.int .i64 0) := hrx.cell (i := 3) (by omega)
    have y4 : w1.cell? ⟨w.heap.size + 1, 4, none⟩ = some (.slice none 0 0) := hrx.cell (i := 4) (by omega)
    have z0 := hrx.frozen 0
    have z1 := hrx.frozen 1
    have z2 := hrx.frozen 2
    have z3 := hrx.frozen 3
    have z4 := hrx.frozen 4
    clear hrx
    go_wp2_with fail
    refine bodyPost_ret (v := .tuple #[laneAgg 0 ⟨0, 0, 0⟩ (.slice none 0 0), .bool false]) (by simp [results, Try.results22, go_sem, y0, y1, y2, y3, y4]) rfl ⟨.slice none 0 0, ?_, ?_, ?_⟩
    · rw [laneCut, if_neg (by simp [unhide HOK])]
    · rw [laneCut, if_neg (by simp [unhide HOK])]
      exact ⟨[], Or.inl ⟨rfl, rfl, rfl⟩, by simp [blocksOf, Value.ownBlock]⟩
    · exact ((((hB1.setCell (by simp) _).setCell (by simp) _).setCell (by simp) _).setCell (by simp) _).setCell (by simp) _
  have HOK := hide hok
  clear hok
  go_wp2_with fail
  refine (l21Came_any proc s _ _ es w1 ((unhide HE).on hB1)).mono ?_
  rintro e w2 ⟨rfl, hb2⟩
  have hB2 := below_then hB1 hb2
  have hb12 := below_then hb1 hb2
  replace k0 := cell_on hb2 k0
  replace k1 := cell_on hb2 k1
  replace k2 := cell_on hb2 k2
  replace k3 := cell_on hb2 k3
  replace k4 := cell_on hb2 k4
  cases hce : cameOk proc es
  · have HCO := hide hce
    clear hce
    have hrx := (unhide HR).of_block ((hb12).block (w.heap.size + 1) (unhide HR).lt)
    have y0 : w2.cell? ⟨w.heap.size + 1, 0, none⟩ = some (.int .i64 0) := hrx.cell (i := 0) (by omega)
    have y1 : w2.cell? ⟨w.heap.size + 1, 1, none⟩ = some (.int .i64 0) := hrx.cell (i := 1) (by omega)
    have y2 : w2.cell? ⟨w.heap.size + 1, 2, none⟩ = some (.int .i64 0) := hrx.cell (i := 2) (by omega)
    have y3 : w2.cell? ⟨w.heap.size + 1, 3, none⟩ = some (.int .i64 0) := hrx.cell (i := 3) (by omega)
    have y4 : w2.cell? ⟨w.heap.size + 1, 4, none⟩ = some (.slice none 0 0) := hrx.cell (i := 4) (by omega)
    have z0 := hrx.frozen 0
    have z1 := hrx.frozen 1
    have z2 := hrx.frozen 2
    have z3 := hrx.frozen 3
    have z4 := hrx.frozen 4
    clear hrx
    go_wp2_with fail
    refine bodyPost_ret (v := .tuple #[laneAgg 0 ⟨0, 0, 0⟩ (.slice none 0 0), .bool false]) (by simp [results, Try.results22, go_sem, y0, y1, y2, y3, y4]) rfl ⟨.slice none 0 0, ?_, ?_, ?_⟩
    · rw [laneCut, if_neg (by simp [unhide HCO])]
    · rw [laneCut, if_neg (by simp [unhide HCO])]
      exact ⟨[], Or.inl ⟨rfl, rfl, rfl⟩, by simp [blocksOf, Value.ownBlock]⟩
    · exact ((((hB2.setCell (by simp) _).setCell (by simp) _).setCell (by simp) _).setCell (by simp) _).setCell (by simp) _
  have HCO := hide hce
  clear hce
  go_wp2_with fail
  refine (l21Same_any proc s _ _ ps es w2 ((unhide HD).on hB2) ((unhide HE).on hB2)).mono ?_
  rintro e w4 ⟨n', rfl, hs, hb3⟩
  obtain rfl := hs.unique (unhide HN)
  have HX4 := hide (below_then hb12 hb3)
  have hn1 := hs.hp
  obtain ⟨u, hu⟩ : ∃ u, u = decide (n' < ps.length) := ⟨_, rfl⟩
  have hu2 : decide ((n' : Int) < (ps.length : Int)) = u := by rw [hu]; simp
  have HU := hide hu
  clear hs hu k0 k1 k2 k3 k4 hb1 hb2 hb3 hB1 hB2 hb12
  go_upto_region 4 with fail
  refine wp_region_last (L := 9) (S := fun w' : World => w'.cell? ⟨w.heap.size, 0, none⟩ = some (.int .i64 proc) ∧ w'.cell? ⟨w.heap.size, 1, none⟩ = some (.int .i64 s.x) ∧ w'.cell? ⟨w.heap.size, 2, none⟩ = some (.int .i64 s.y) ∧ w'.cell? ⟨w.heap.size, 3, none⟩ = some (.int .i64 s.c) ∧ w'.cell? ⟨w.heap.size, 4, none⟩ = some (.slice a1 ps.length c1)) (by kernel_rfl) ?_
  have hHeld : (fun w' : World => w'.cell? ⟨w.heap.size, 0, none⟩ = some (.int .i64 proc) ∧ w'.cell? ⟨w.heap.size, 1, none⟩ = some (.int .i64 s.x) ∧ w'.cell? ⟨w.heap.size, 2, none⟩ = some (.int .i64 s.y) ∧ w'.cell? ⟨w.heap.size, 3, none⟩ = some (.int .i64 s.c) ∧ w'.cell? ⟨w.heap.size, 4, none⟩ = some (.slice a1 ps.length c1)) w4.drew := ⟨((unhide HA).on (unhide HX4).drew) 0 (by simp), ((unhide HA).on (unhide HX4).drew) 1 (by simp), ((unhide HA).on (unhide HX4).drew) 2 (by simp), ((unhide HA).on (unhide HX4).drew) 3 (by simp), ((unhide HA).on (unhide HX4).drew) 4 (by simp)⟩
  refine wpAnyL_take (i := 0) (v := ?_) (by kernel_rfl) rfl (by kernel_rfl) (by kernel_rfl) (by kernel_rfl) (fun _ _ _ h => h) hHeld (Or.inl ⟨by kernel_rfl, ?_⟩) ?_
  rotate_left
  · (intro w hSw; (try dsimp only at hSw); obtain ⟨s0, s1, s2, s3, s4⟩ := hSw; go_simp; try with_reducible rfl)
  refine wpAnyL_take (i := 1) (v := ?_) (by kernel_rfl) rfl (by kernel_rfl) (by kernel_rfl) (by kernel_rfl) (fun _ _ _ h => h) hHeld (Or.inl ⟨by kernel_rfl, ?_⟩) ?_
  rotate_left
  · (intro w hSw; (try dsimp only at hSw); obtain ⟨s0, s1, s2, s3, s4⟩ := hSw; go_simp; try with_reducible rfl)
  refine wpAnyL_take (i := 3) (v := ?_) (by kernel_rfl) rfl (by kernel_rfl) (by kernel_rfl) (by kernel_rfl) (fun _ _ _ h => h) hHeld (Or.inl ⟨by kernel_rfl, ?_⟩) ?_
  rotate_left
  · (intro w hSw; (try dsimp only at hSw); obtain ⟨s0, s1, s2, s3, s4⟩ := hSw; go_simp; try with_reducible rfl)
  refine wpAnyL_take (i := 4) (v := ?_) (by kernel_rfl) rfl (by kernel_rfl) (by kernel_rfl) (by kernel_rfl) (fun _ _ _ h => h) hHeld (Or.inl ⟨by kernel_rfl, ?_⟩) ?_
  rotate_left
  · (intro w hSw; (try dsimp only at hSw); obtain ⟨s0, s1, s2, s3, s4⟩ := hSw; go_simp; try with_reducible rfl)
  refine wpAnyL_take (i := 5) (v := ?_) (by kernel_rfl) rfl (by kernel_rfl) (by kernel_rfl) (by kernel_rfl) (fun _ _ _ h => h) hHeld (Or.inl ⟨by kernel_rfl, ?_⟩) ?_
  rotate_left
  · (intro w hSw; (try dsimp only at hSw); obtain ⟨s0, s1, s2, s3, s4⟩ := hSw; go_simp; try with_reducible rfl)
  refine wpAnyL_take (i := 6) (v := ?_) (by kernel_rfl) rfl (by kernel_rfl) (by kernel_rfl) (by kernel_rfl) (fun _ _ _ h => h) hHeld (Or.inl ⟨by kernel_rfl, ?_⟩) ?_
  rotate_left
  · (intro w hSw; (try dsimp only at hSw); obtain ⟨s0, s1, s2, s3, s4⟩ := hSw; go_simp; try with_reducible rfl)
  refine wpAnyL_take (i := 7) (v := ?_) (by kernel_rfl) rfl (by kernel_rfl) (by kernel_rfl) (by kernel_rfl) (fun _ _ _ h => h) hHeld (Or.inl ⟨by kernel_rfl, ?_⟩) ?_
  rotate_left
  · (intro w hSw; (try dsimp only at hSw); obtain ⟨s0, s1, s2, s3, s4⟩ := hSw; go_simp; try with_reducible rfl)
  refine wpAnyL_one (i := 2) (by kernel_rfl) rfl (fun K hK => ?_)
  go_simp
  refine (l21Copy_any proc s _ ps 0 n' w4.drew ((unhide HD).on (below_then (unhide HB0) (unhide HX4)).drew) (Nat.zero_le _) hn1 hlen (unhide HL)).mono ?_
  rintro e w5 ⟨v5, rfl, ho5, hb5⟩
  rw [List.drop_zero] at ho5
  have hb45 : Below w4.heap.size w4 w5 := ((Below.refl _ _).drew).trans hb5
  obtain ⟨va, vc, hv5⟩ := ho5.at.sliced
  rw [show (ps.take n').length = n' by simp; omega] at hv5
  subst hv5
  have HO5 := hide ho5
  have HX5 := hide (below_then (unhide HX4) hb45)
  have h45s : w4.heap.size ≤ w5.heap.size := hb45.size
  clear ho5 hb5 hb45
  (try go_simp)
  refine held_on hK ?_ (fun hHeld => ?_)
  · exact ⟨((unhide HA).on (unhide HX5)) 0 (by simp), ((unhide HA).on (unhide HX5)) 1 (by simp), ((unhide HA).on (unhide HX5)) 2 (by simp), ((unhide HA).on (unhide HX5)) 3 (by simp), ((unhide HA).on (unhide HX5)) 4 (by simp)⟩
  clear hK K
  have hrx := (unhide HR).of_block (((unhide HX5)).block (w.heap.size + 1) (unhide HR).lt)
  have y0 : w5.cell? ⟨w.heap.size + 1, 0, none⟩ = some (.int .i64 0) := hrx.cell (i := 0) (by omega)
  have y1 : w5.cell? ⟨w.heap.size + 1, 1, none⟩ = some (.int .i64 0) := hrx.cell (i := 1) (by omega)
  have y2 : w5.cell? ⟨w.heap.size + 1, 2, none⟩ = some (.int .i64 0) := hrx.cell (i := 2) (by omega)
  have y3 : w5.cell? ⟨w.heap.size + 1, 3, none⟩ = some (.int .i64 0) := hrx.cell (i := 3) (by omega)
  have y4 : w5.cell? ⟨w.heap.size + 1, 4, none⟩ = some (.slice none 0 0) := hrx.cell (i := 4) (by omega)
  have z0 := hrx.frozen 0
  have z1 := hrx.frozen 1
  have z2 := hrx.frozen 2
  have z3 := hrx.frozen 3
  have z4 := hrx.frozen 4
  clear hrx
  refine wpAnyL_one (i := 8) (by kernel_rfl) rfl (fun K hK => ?_)
  go_simp
  have hbs : ∀ c, c ≠ w.heap.size + 1 → (setVals w5 (w.heap.size + 1) 0 [.int .i64 proc, .int .i64 s.x, .int .i64 s.y, .int .i64 s.c, .slice va n' vc]).heap[c]? = w5.heap[c]? := fun c hc => setVals_other _ _ _ _ hc
  refine held_on hK ?_ (fun hHeld => ?_)
  · exact ⟨(World.cell?_of_block (a := ⟨w.heap.size, 0, none⟩) (hbs w.heap.size (by omega))).trans (((unhide HA).on (unhide HX5)) 0 (by simp)), (World.cell?_of_block (a := ⟨w.heap.size, 1, none⟩) (hbs w.heap.size (by omega))).trans (((unhide HA).on (unhide HX5)) 1 (by simp)), (World.cell?_of_block (a := ⟨w.heap.size, 2, none⟩) (hbs w.heap.size (by omega))).trans (((unhide HA).on (unhide HX5)) 2 (by simp)), (World.cell?_of_block (a := ⟨w.heap.size, 3, none⟩) (hbs w.heap.size (by omega))).trans (((unhide HA).on (unhide HX5)) 3 (by simp)), (World.cell?_of_block (a := ⟨w.heap.size, 4, none⟩) (hbs w.heap.size (by omega))).trans (((unhide HA).on (unhide HX5)) 4 (by simp))⟩
  clear hK K
  refine wpAnyL_end (by kernel_rfl) rfl (fun K hK => ?_)
  go_simp
  refine hK.out _ _ ?_
  clear hK K hHeld
  refine wpAnyL_done (by kernel_rfl) ?_ _
  go_wp2_with fail
  have hcutE : laneCut proc s ps es n' = ((proc, s, ps.take n'), u) := by rw [laneCut, if_pos ⟨unhide HOK, unhide HCO⟩, unhide HU]
  refine bodyPost_ret (v := .tuple #[laneAgg proc s (.slice va n' vc), .bool u]) (by simp [results, Try.results22, go_sem, y0, y1, y2, y3, y4, unhide HU]) rfl ⟨.slice va n' vc, ?_, ?_, ?_⟩
  · rw [hcutE]
  · rw [hcutE]
    have h1 : PastsOwn w.heap.size w5.heap.size (setVals w5 (w.heap.size + 1) 0 [.int .i64 proc, .int .i64 s.x, .int .i64 s.y, .int .i64 s.c, .slice va n' vc]) (.slice va n' vc) (ps.take n') := ((unhide HO5).keep (fun b hb _ => hbs b (by have h1 := (unhide HX4).size; have h2 := unhide HS0; simp at hb; omega))).wide (by have h1 := (unhide HX4).size; have h2 := unhide HS0; simp; omega) (Nat.le_refl _)
    rw [← setVals_size [.int .i64 proc, .int .i64 s.x, .int .i64 s.y, .int .i64 s.c, .slice va n' vc] 0 w5 (b := w.heap.size + 1)] at h1
    exact h1
  · exact setVals_below [.int .i64 proc, .int .i64 s.x, .int .i64 s.y, .int .i64 s.c, .slice va n' vc] 0 w5 (below_then (unhide HB0) (unhide HX5)) (Nat.le_succ _)
end Go.Proofs.Ytjdaedcpjfcpjaa
