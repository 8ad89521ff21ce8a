/- impl.copyView. -/
import Derived.Test.YtimkamgghkjhhaaViews1
import Derived.Test.YtimkamgghkjhhaaCopy1
import Derived.Test.YtimkamgghkjhhaaHeld
import Derived.Test.YtimkamgghkjhhaaOwn2
import Derived.Deep.Cut
namespace Go.Proofs.Ytimkamgghkjhhaa
open Go.RowKit
set_option linter.unusedVariables false
set_option linter.unusedSimpArgs false

set_option maxRecDepth 100000 in
set_option maxHeartbeats 2000000 in
theorem copyView_any (i r : Int) (v : Value) (es : List EvV) (w : World) (h : RowsAt 7 w v (es.map evRow)) (hl : es.length ≤ 1048576) :
    Calls Try.prog 65 #[viewAgg i r v] w fun e w' => ∃ v', e = .returned (viewAgg i r v') ∧ RowsFr w.heap.size 65 7 w' v' (es.map evRow) ∧ Below w.heap.size w w' := by
  have H := hide h
  obtain ⟨a1, c1, e1, _⟩ := h
  rw [List.length_map] at e1
  subst e1
  have hb0 : Below w.heap.size w ((w.alloc (.cells #[.int .i64 i, .int .i64 r, .slice a1 es.length c1] 106)).alloc (.cells #[.int .i64 0, .int .i64 0, .slice none 0 0] 106)) := ((Below.refl _ _).alloc (Nat.le_refl _) _).alloc (by simp) _
  have cA : CellsAt ((w.alloc (.cells #[.int .i64 i, .int .i64 r, .slice a1 es.length c1] 106)).alloc (.cells #[.int .i64 0, .int .i64 0, .slice none 0 0] 106)) w.heap.size 0 [.int .i64 i, .int .i64 r, .slice a1 es.length c1] := (cellsAt_new w [.int .i64 i, .int .i64 r, .slice a1 es.length c1] 106).on ((Below.refl _ _).alloc (Nat.le_refl _) _)
  have rB : ((w.alloc (.cells #[.int .i64 i, .int .i64 r, .slice a1 es.length c1] 106)).alloc (.cells #[.int .i64 0, .int .i64 0, .slice none 0 0] 106)).rowIs (w.heap.size + 1) 106 3 (fun i => [Value.int .i64 0, .int .i64 0, .slice none 0 0].getD i undef) := by
    have e := row_new (w.alloc (.cells #[.int .i64 i, .int .i64 r, .slice a1 es.length c1] 106)) [.int .i64 0, .int .i64 0, .slice none 0 0] 106
    have hs : (w.alloc (.cells #[.int .i64 i, .int .i64 r, .slice a1 es.length c1] 106)).heap.size = w.heap.size + 1 := by simp
    rw [hs] at e
    exact e
  have hs0 : ((w.alloc (.cells #[.int .i64 i, .int .i64 r, .slice a1 es.length c1] 106)).alloc (.cells #[.int .i64 0, .int .i64 0, .slice none 0 0] 106)).heap.size = w.heap.size + 2 := by simp
  have HB0 := hide hb0
  have HA := hide cA
  have HR := hide rB
  have HS0 := hide hs0
  clear hb0 cA rB hs0
  go_enter Try.func65, Try.ntmps65
  go_upto_region 1 with fail
  generalize ((w.alloc (.cells #[.int .i64 i, .int .i64 r, .slice a1 es.length c1] 106)).alloc (.cells #[.int .i64 0, .int .i64 0, .slice none 0 0] 106)) = X at *
  refine wp_region_last (L := 8) (S := fun w' : World => w'.cell? ⟨w.heap.size, 0, none⟩ = some (.int .i64 i) ∧ w'.cell? ⟨w.heap.size, 1, none⟩ = some (.int .i64 r) ∧ w'.cell? ⟨w.heap.size, 2, none⟩ = some (.slice a1 es.length c1)) (by kernel_rfl) ?_
  have hHeld : (fun w' : World => w'.cell? ⟨w.heap.size, 0, none⟩ = some (.int .i64 i) ∧ w'.cell? ⟨w.heap.size, 1, none⟩ = some (.int .i64 r) ∧ w'.cell? ⟨w.heap.size, 2, none⟩ = some (.slice a1 es.length c1)) X.drew := ⟨((unhide HA).on (Below.refl _ _).drew) 0 (by simp), ((unhide HA).on (Below.refl _ _).drew) 1 (by simp), ((unhide HA).on (Below.refl _ _).drew) 2 (by simp)⟩
  refine wpAnyL_take (i := 0) (v := ?_) (by kernel_rfl) rfl (by kernel_rfl) (by kernel_rfl) (by kernel_rfl) (fun _ _ _ h => h) hHeld (Or.inl ⟨by kernel_rfl, ?_⟩) ?_
  rotate_left
  · (intro w hSw; (try dsimp only at hSw); obtain ⟨s0, s1, s2⟩ := hSw; go_simp; try with_reducible rfl)
  refine wpAnyL_take (i := 1) (v := ?_) (by kernel_rfl) rfl (by kernel_rfl) (by kernel_rfl) (by kernel_rfl) (fun _ _ _ h => h) hHeld (Or.inl ⟨by kernel_rfl, ?_⟩) ?_
  rotate_left
  · (intro w hSw; (try dsimp only at hSw); obtain ⟨s0, s1, s2⟩ := hSw; go_simp; try with_reducible rfl)
  refine wpAnyL_take (i := 2) (v := ?_) (by kernel_rfl) rfl (by kernel_rfl) (by kernel_rfl) (by kernel_rfl) (fun _ _ _ h => h) hHeld (Or.inl ⟨by kernel_rfl, ?_⟩) ?_
  rotate_left
  · (intro w hSw; (try dsimp only at hSw); obtain ⟨s0, s1, s2⟩ := hSw; go_simp; try with_reducible rfl)
  refine wpAnyL_take (i := 3) (v := ?_) (by kernel_rfl) rfl (by kernel_rfl) (by kernel_rfl) (by kernel_rfl) (fun _ _ _ h => h) hHeld (Or.inl ⟨by kernel_rfl, ?_⟩) ?_
  rotate_left
  · (intro w hSw; (try dsimp only at hSw); obtain ⟨s0, s1, s2⟩ := hSw; go_simp; try with_reducible rfl)
  refine wpAnyL_take (i := 4) (v := ?_) (by kernel_rfl) rfl (by kernel_rfl) (by kernel_rfl) (by kernel_rfl) (fun _ _ _ h => h) hHeld (Or.inl ⟨by kernel_rfl, ?_⟩) ?_
  rotate_left
  · (intro w hSw; (try dsimp only at hSw); obtain ⟨s0, s1, s2⟩ := hSw; go_simp; try with_reducible rfl)
  refine wpAnyL_take (i := 5) (v := ?_) (by kernel_rfl) rfl (by kernel_rfl) (by kernel_rfl) (by kernel_rfl) (fun _ _ _ h => h) hHeld (Or.inl ⟨by kernel_rfl, ?_⟩) ?_
  rotate_left
  · (intro w hSw; (try dsimp only at hSw); obtain ⟨s0, s1, s2⟩ := hSw; go_simp; try with_reducible rfl)
  refine wpAnyL_one (i := 6) (by kernel_rfl) rfl (fun K hK => ?_)
  go_simp
  refine (copyListEvent_any _ es X.drew ((unhide H).on (unhide HB0).drew) hl).mono ?_
  rintro e w1 ⟨us, rfl, hu1, hb1⟩
  obtain ⟨ua, uc, hus⟩ := RowsFr_sliced hu1
  rw [List.length_map] at hus
  subst hus
  have hX1 : Below X.heap.size X w1 := ((Below.refl _ _).drew).trans hb1
  have HU1 := hide hu1
  have HX1 := hide hX1
  clear hu1 hb1 hX1
  (try go_simp)
  refine held_on hK ?_ (fun hHeld => ?_)
  · exact ⟨((unhide HA).on (unhide HX1)) 0 (by simp), ((unhide HA).on (unhide HX1)) 1 (by simp), ((unhide HA).on (unhide HX1)) 2 (by simp)⟩
  clear hK K
  refine wpAnyL_one (i := 7) (by kernel_rfl) rfl (fun K hK => ?_)
  go_simp
  refine held_on hK ?_ (fun hHeld => ?_)
  · exact hHeld
  clear hK K
  have hrx := (unhide HR).of_block ((unhide HX1).block (w.heap.size + 1) (unhide HR).lt)
  have y0 : w1.cell? ⟨w.heap.size + 1, 0, none⟩ = some (.int .i64 0) := hrx.cell (i := 0) (by omega)
  have z0 := hrx.frozen 0
  have y1 : w1.cell? ⟨w.heap.size + 1, 1, none⟩ = some (.int .i64 0) := hrx.cell (i := 1) (by omega)
  have z1 := hrx.frozen 1
  have y2 : w1.cell? ⟨w.heap.size + 1, 2, none⟩ = some (.slice none 0 0) := hrx.cell (i := 2) (by omega)
  have z2 := hrx.frozen 2
  clear hrx
  refine wpAnyL_end (by kernel_rfl) rfl (fun K hK => ?_)
  go_simp
  refine hK.out _ _ ?_
  clear hK K
  refine wpAnyL_done (by kernel_rfl) ?_ _
  go_wp2_with fail
  have hss := unhide HS0
  refine bodyPost_ret (v := viewAgg i r (.slice ua es.length uc)) (by simp [results, Try.results65, go_sem, y0, y1, y2]) rfl ?_
  refine ⟨_, rfl, ?_, setVals_below (viewCells i r (.slice ua es.length uc)) 0 w1 (below_then (unhide HB0) (unhide HX1)) (by omega)⟩
  exact (((unhide HU1).less (show w.heap.size + 2 ≤ X.drew.heap.size by simp; omega)).setV (r := w.heap.size + 1) (o := 0) (by omega) (viewCells i r (.slice ua es.length uc))).less (by omega)
end Go.Proofs.Ytimkamgghkjhhaa
