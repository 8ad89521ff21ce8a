/- impl.copyPast. -/
import Derived.Test.YtjdaedcpjfcpjaaCopy1
import Derived.Test.YtjdaedcpjfcpjaaHeld
import Derived.Test.YtjdaedcpjfcpjaaOwn2
import Derived.Deep.Cut
namespace Go.Proofs.Ytjdaedcpjfcpjaa
open Go.RowKit
set_option linter.unusedVariables false
set_option linter.unusedSimpArgs false

set_option maxRecDepth 100000 in
set_option maxHeartbeats 2000000 in
theorem copyPast_any (p : PastV) (vs vo : Value) (w : World) (h : PastAt w vs vo p) (hl1 : p.sends.length ≤ 1048576) (hl2 : p.outs.length ≤ 1048576) :
    Calls Try.prog 85 #[pastAgg p vs vo] w fun e w' => ∃ us uo, e = .returned (pastAgg p us uo) ∧ PastFr (w.heap.size + 1) w' us uo p ∧ Apart us uo ∧ Below w.heap.size w w' := by
  have H := hide h
  obtain ⟨a1, c1, e1, _⟩ := h.s
  obtain ⟨a2, c2, e2, _⟩ := h.o
  rw [List.length_map] at e1 e2
  subst e1 e2
  clear h
  have hb0 : Below w.heap.size w ((w.alloc (.cells #[.int .i64 p.ev.time, .int .i64 p.ev.to, .int .i64 p.ev.src, .int .i64 p.ev.count, .int .i64 p.ev.n, .int .i64 p.ev.kind, .int .i64 p.ev.arg, .int .i64 p.st.x, .int .i64 p.st.y, .int .i64 p.st.c, .slice a1 p.sends.length c1, .slice a2 p.outs.length c2] 65)).alloc (.cells #[.int .i64 0, .int .i64 0, .int .i64 0, .int .i64 0, .int .i64 0, .int .i64 0, .int .i64 0, .int .i64 0, .int .i64 0, .int .i64 0, .slice none 0 0, .slice none 0 0] 65)) := ((Below.refl _ _).alloc (Nat.le_refl _) _).alloc (by simp) _
  have cA : CellsAt ((w.alloc (.cells #[.int .i64 p.ev.time, .int .i64 p.ev.to, .int .i64 p.ev.src, .int .i64 p.ev.count, .int .i64 p.ev.n, .int .i64 p.ev.kind, .int .i64 p.ev.arg, .int .i64 p.st.x, .int .i64 p.st.y, .int .i64 p.st.c, .slice a1 p.sends.length c1, .slice a2 p.outs.length c2] 65)).alloc (.cells #[.int .i64 0, .int .i64 0, .int .i64 0, .int .i64 0, .int .i64 0, .int .i64 0, .int .i64 0, .int .i64 0, .int .i64 0, .int .i64 0, .slice none 0 0, .slice none 0 0] 65)) w.heap.size 0 (pastCells p (.slice a1 p.sends.length c1) (.slice a2 p.outs.length c2)) := (cellsAt_new w (pastCells p (.slice a1 p.sends.length c1) (.slice a2 p.outs.length c2)) 65).on ((Below.refl _ _).alloc (Nat.le_refl _) _)
  have rB : ((w.alloc (.cells #[.int .i64 p.ev.time, .int .i64 p.ev.to, .int .i64 p.ev.src, .int .i64 p.ev.count, .int .i64 p.ev.n, .int .i64 p.ev.kind, .int .i64 p.ev.arg, .int .i64 p.st.x, .int .i64 p.st.y, .int .i64 p.st.c, .slice a1 p.sends.length c1, .slice a2 p.outs.length c2] 65)).alloc (.cells #[.int .i64 0, .int .i64 0, .int .i64 0, .int .i64 0, .int .i64 0, .int .i64 0, .int .i64 0, .int .i64 0, .int .i64 0, .int .i64 0, .slice none 0 0, .slice none 0 0] 65)).rowIs (w.heap.size + 1) 65 12 (fun i => [Value.int .i64 0, .int .i64 0, .int .i64 0, .int .i64 0, .int .i64 0, .int .i64 0, .int .i64 0, .int .i64 0, .int .i64 0, .int .i64 0, .slice none 0 0, .slice none 0 0].getD i undef) := by
    have e := row_new (w.alloc (.cells #[.int .i64 p.ev.time, .int .i64 p.ev.to, .int .i64 p.ev.src, .int .i64 p.ev.count, .int .i64 p.ev.n, .int .i64 p.ev.kind, .int .i64 p.ev.arg, .int .i64 p.st.x, .int .i64 p.st.y, .int .i64 p.st.c, .slice a1 p.sends.length c1, .slice a2 p.outs.length c2] 65)) [.int .i64 0, .int .i64 0, .int .i64 0, .int .i64 0, .int .i64 0, .int .i64 0, .int .i64 0, .int .i64 0, .int .i64 0, .int .i64 0, .slice none 0 0, .slice none 0 0] 65
    have hs : (w.alloc (.cells #[.int .i64 p.ev.time, .int .i64 p.ev.to, .int .i64 p.ev.src, .int .i64 p.ev.count, .int .i64 p.ev.n, .int .i64 p.ev.kind, .int .i64 p.ev.arg, .int .i64 p.st.x, .int .i64 p.st.y, .int .i64 p.st.c, .slice a1 p.sends.length c1, .slice a2 p.outs.length c2] 65)).heap.size = w.heap.size + 1 := by simp
    rw [hs] at e
    exact e
  have hs0 : ((w.alloc (.cells #[.int .i64 p.ev.time, .int .i64 p.ev.to, .int .i64 p.ev.src, .int .i64 p.ev.count, .int .i64 p.ev.n, .int .i64 p.ev.kind, .int .i64 p.ev.arg, .int .i64 p.st.x, .int .i64 p.st.y, .int .i64 p.st.c, .slice a1 p.sends.length c1, .slice a2 p.outs.length c2] 65)).alloc (.cells #[.int .i64 0, .int .i64 0, .int .i64 0, .int .i64 0, .int .i64 0, .int .i64 0, .int .i64 0, .int .i64 0, .int .i64 0, .int .i64 0, .slice none 0 0, .slice none 0 0] 65)).heap.size = w.heap.size + 2 := by simp
  have HB0 := hide hb0
  have HA := hide cA
  have HR := hide rB
  have HS0 := hide hs0
  clear hb0 cA rB hs0
  go_enter Try.func85, Try.ntmps85
  go_upto_region 1 with fail
  generalize ((w.alloc (.cells #[.int .i64 p.ev.time, .int .i64 p.ev.to, .int .i64 p.ev.src, .int .i64 p.ev.count, .int .i64 p.ev.n, .int .i64 p.ev.kind, .int .i64 p.ev.arg, .int .i64 p.st.x, .int .i64 p.st.y, .int .i64 p.st.c, .slice a1 p.sends.length c1, .slice a2 p.outs.length c2] 65)).alloc (.cells #[.int .i64 0, .int .i64 0, .int .i64 0, .int .i64 0, .int .i64 0, .int .i64 0, .int .i64 0, .int .i64 0, .int .i64 0, .int .i64 0, .slice none 0 0, .slice none 0 0] 65)) = X at *
  refine wp_region_last (L := 11) (S := fun w' : World => w'.cell? ⟨w.heap.size, 0, none⟩ = some (.int .i64 p.ev.time) ∧ w'.cell? ⟨w.heap.size, 1, none⟩ = some (.int .i64 p.ev.to) ∧ w'.cell? ⟨w.heap.size, 2, none⟩ = some (.int .i64 p.ev.src) ∧ w'.cell? ⟨w.heap.size, 3, none⟩ = some (.int .i64 p.ev.count) ∧ w'.cell? ⟨w.heap.size, 4, none⟩ = some (.int .i64 p.ev.n) ∧ w'.cell? ⟨w.heap.size, 5, none⟩ = some (.int .i64 p.ev.kind) ∧ w'.cell? ⟨w.heap.size, 6, none⟩ = some (.int .i64 p.ev.arg) ∧ w'.cell? ⟨w.heap.size, 7, none⟩ = some (.int .i64 p.st.x) ∧ w'.cell? ⟨w.heap.size, 8, none⟩ = some (.int .i64 p.st.y) ∧ w'.cell? ⟨w.heap.size, 9, none⟩ = some (.int .i64 p.st.c) ∧ w'.cell? ⟨w.heap.size, 10, none⟩ = some (.slice a1 p.sends.length c1) ∧ w'.cell? ⟨w.heap.size, 11, none⟩ = some (.slice a2 p.outs.length c2)) (by kernel_rfl) ?_
  have hHeld : (fun w' : World => w'.cell? ⟨w.heap.size, 0, none⟩ = some (.int .i64 p.ev.time) ∧ w'.cell? ⟨w.heap.size, 1, none⟩ = some (.int .i64 p.ev.to) ∧ w'.cell? ⟨w.heap.size, 2, none⟩ = some (.int .i64 p.ev.src) ∧ w'.cell? ⟨w.heap.size, 3, none⟩ = some (.int .i64 p.ev.count) ∧ w'.cell? ⟨w.heap.size, 4, none⟩ = some (.int .i64 p.ev.n) ∧ w'.cell? ⟨w.heap.size, 5, none⟩ = some (.int .i64 p.ev.kind) ∧ w'.cell? ⟨w.heap.size, 6, none⟩ = some (.int .i64 p.ev.arg) ∧ w'.cell? ⟨w.heap.size, 7, none⟩ = some (.int .i64 p.st.x) ∧ w'.cell? ⟨w.heap.size, 8, none⟩ = some (.int .i64 p.st.y) ∧ w'.cell? ⟨w.heap.size, 9, none⟩ = some (.int .i64 p.st.c) ∧ w'.cell? ⟨w.heap.size, 10, none⟩ = some (.slice a1 p.sends.length c1) ∧ w'.cell? ⟨w.heap.size, 11, none⟩ = some (.slice a2 p.outs.length c2)) X.drew := ⟨((unhide HA).on (Below.refl _ _).drew) 0 (by simp), ((unhide HA).on (Below.refl _ _).drew) 1 (by simp), ((unhide HA).on (Below.refl _ _).drew) 2 (by simp), ((unhide HA).on (Below.refl _ _).drew) 3 (by simp), ((unhide HA).on (Below.refl _ _).drew) 4 (by simp), ((unhide HA).on (Below.refl _ _).drew) 5 (by simp), ((unhide HA).on (Below.refl _ _).drew) 6 (by simp), ((unhide HA).on (Below.refl _ _).drew) 7 (by simp), ((unhide HA).on (Below.refl _ _).drew) 8 (by simp), ((unhide HA).on (Below.refl _ _).drew) 9 (by simp), ((unhide HA).on (Below.refl _ _).drew) 10 (by simp), ((unhide HA).on (Below.refl _ _).drew) 11 (by simp)⟩
  refine wpAnyL_take (i := 0) (v := ?_) (by kernel_rfl) rfl (by kernel_rfl) (by kernel_rfl) (by kernel_rfl) (fun _ _ _ h => h) hHeld (Or.inl ⟨by kernel_rfl, ?_⟩) ?_
  rotate_left
  · (intro w hSw; (try dsimp only at hSw); obtain ⟨s0, s1, s2, s3, s4, s5, s6, s7, s8, s9, s10, s11⟩ := hSw; go_simp; try with_reducible rfl)
  refine wpAnyL_take (i := 1) (v := ?_) (by kernel_rfl) rfl (by kernel_rfl) (by kernel_rfl) (by kernel_rfl) (fun _ _ _ h => h) hHeld (Or.inl ⟨by kernel_rfl, ?_⟩) ?_
  rotate_left
  · (intro w hSw; (try dsimp only at hSw); obtain ⟨s0, s1, s2, s3, s4, s5, s6, s7, s8, s9, s10, s11⟩ := hSw; go_simp; try with_reducible rfl)
  refine wpAnyL_take (i := 2) (v := ?_) (by kernel_rfl) rfl (by kernel_rfl) (by kernel_rfl) (by kernel_rfl) (fun _ _ _ h => h) hHeld (Or.inl ⟨by kernel_rfl, ?_⟩) ?_
  rotate_left
  · (intro w hSw; (try dsimp only at hSw); obtain ⟨s0, s1, s2, s3, s4, s5, s6, s7, s8, s9, s10, s11⟩ := hSw; go_simp; try with_reducible rfl)
  refine wpAnyL_take (i := 3) (v := ?_) (by kernel_rfl) rfl (by kernel_rfl) (by kernel_rfl) (by kernel_rfl) (fun _ _ _ h => h) hHeld (Or.inl ⟨by kernel_rfl, ?_⟩) ?_
  rotate_left
  · (intro w hSw; (try dsimp only at hSw); obtain ⟨s0, s1, s2, s3, s4, s5, s6, s7, s8, s9, s10, s11⟩ := hSw; go_simp; try with_reducible rfl)
  refine wpAnyL_take (i := 4) (v := ?_) (by kernel_rfl) rfl (by kernel_rfl) (by kernel_rfl) (by kernel_rfl) (fun _ _ _ h => h) hHeld (Or.inl ⟨by kernel_rfl, ?_⟩) ?_
  rotate_left
  · (intro w hSw; (try dsimp only at hSw); obtain ⟨s0, s1, s2, s3, s4, s5, s6, s7, s8, s9, s10, s11⟩ := hSw; go_simp; try with_reducible rfl)
  refine wpAnyL_take (i := 5) (v := ?_) (by kernel_rfl) rfl (by kernel_rfl) (by kernel_rfl) (by kernel_rfl) (fun _ _ _ h => h) hHeld (Or.inl ⟨by kernel_rfl, ?_⟩) ?_
  rotate_left
  · (intro w hSw; (try dsimp only at hSw); obtain ⟨s0, s1, s2, s3, s4, s5, s6, s7, s8, s9, s10, s11⟩ := hSw; go_simp; try with_reducible rfl)
  refine wpAnyL_take (i := 7) (v := ?_) (by kernel_rfl) rfl (by kernel_rfl) (by kernel_rfl) (by kernel_rfl) (fun _ _ _ h => h) hHeld (Or.inl ⟨by kernel_rfl, ?_⟩) ?_
  rotate_left
  · (intro w hSw; (try dsimp only at hSw); obtain ⟨s0, s1, s2, s3, s4, s5, s6, s7, s8, s9, s10, s11⟩ := hSw; go_simp; try with_reducible rfl)
  refine wpAnyL_take (i := 8) (v := ?_) (by kernel_rfl) rfl (by kernel_rfl) (by kernel_rfl) (by kernel_rfl) (fun _ _ _ h => h) hHeld (Or.inl ⟨by kernel_rfl, ?_⟩) ?_
  rotate_left
  · (intro w hSw; (try dsimp only at hSw); obtain ⟨s0, s1, s2, s3, s4, s5, s6, s7, s8, s9, s10, s11⟩ := hSw; go_simp; try with_reducible rfl)
  refine wpAnyL_one (i := 6) (by kernel_rfl) rfl (fun K hK => ?_)
  go_simp
  refine (copyListEvent_any _ p.sends X.drew ((unhide H).s.on (unhide HB0).drew) hl1).mono ?_
  rintro e w1 ⟨us, rfl, hu1, hb1⟩
  obtain ⟨ua, uc, hus⟩ := RowsFr_sliced hu1
  rw [List.length_map] at hus
  subst hus
  have hX1 : Below X.heap.size X w1 := ((Below.refl _ _).drew).trans hb1
  have HU1 := hide hu1
  have HX1 := hide hX1
  clear hu1 hb1 hX1
  (try go_simp)
  refine held_on hK ?_ (fun hHeld => ?_)
  · exact ⟨((unhide HA).on (unhide HX1)) 0 (by simp), ((unhide HA).on (unhide HX1)) 1 (by simp), ((unhide HA).on (unhide HX1)) 2 (by simp), ((unhide HA).on (unhide HX1)) 3 (by simp), ((unhide HA).on (unhide HX1)) 4 (by simp), ((unhide HA).on (unhide HX1)) 5 (by simp), ((unhide HA).on (unhide HX1)) 6 (by simp), ((unhide HA).on (unhide HX1)) 7 (by simp), ((unhide HA).on (unhide HX1)) 8 (by simp), ((unhide HA).on (unhide HX1)) 9 (by simp), ((unhide HA).on (unhide HX1)) 10 (by simp), ((unhide HA).on (unhide HX1)) 11 (by simp)⟩
  clear hK K
  refine wpAnyL_one (i := 9) (by kernel_rfl) rfl (fun K hK => ?_)
  go_simp
  refine (copyListOut_any _ p.outs w1 ((unhide H).o.on (below_then (unhide HB0) (unhide HX1))) hl2).mono ?_
  rintro e w2 ⟨uo, rfl, hu2, hb2⟩
  obtain ⟨oa, oc, huo⟩ := RowsFr_sliced hu2
  rw [List.length_map] at huo
  subst huo
  have HU2 := hide hu2
  have HU12 := hide ((unhide HU1).on hb2)
  have HX2 := hide (below_then (unhide HX1) hb2)
  have HAP : Hid (Apart (.slice ua p.sends.length uc) (.slice oa p.outs.length oc)) := hide (fun g h1 h2 => by have := ((unhide HU1).blk g h1).2; have := ((unhide HU2).blk g h2).1; omega)
  have hsz1 : X.heap.size ≤ w1.heap.size := (unhide HX1).size
  clear hu2 hb2
  (try go_simp)
  refine held_on hK ?_ (fun hHeld => ?_)
  · exact ⟨((unhide HA).on (unhide HX2)) 0 (by simp), ((unhide HA).on (unhide HX2)) 1 (by simp), ((unhide HA).on (unhide HX2)) 2 (by simp), ((unhide HA).on (unhide HX2)) 3 (by simp), ((unhide HA).on (unhide HX2)) 4 (by simp), ((unhide HA).on (unhide HX2)) 5 (by simp), ((unhide HA).on (unhide HX2)) 6 (by simp), ((unhide HA).on (unhide HX2)) 7 (by simp), ((unhide HA).on (unhide HX2)) 8 (by simp), ((unhide HA).on (unhide HX2)) 9 (by simp), ((unhide HA).on (unhide HX2)) 10 (by simp), ((unhide HA).on (unhide HX2)) 11 (by simp)⟩
  clear hK K
  refine wpAnyL_one (i := 10) (by kernel_rfl) rfl (fun K hK => ?_)
  go_simp
  refine held_on hK ?_ (fun hHeld => ?_)
  · exact hHeld
  clear hK K
  have hrx := (unhide HR).of_block ((unhide HX2).block (w.heap.size + 1) (unhide HR).lt)
  have y0 : w2.cell? ⟨w.heap.size + 1, 0, none⟩ = some (.int .i64 0) := hrx.cell (i := 0) (by omega)
  have z0 := hrx.frozen 0
  have y1 : w2.cell? ⟨w.heap.size + 1, 1, none⟩ = some (.int .i64 0) := hrx.cell (i := 1) (by omega)
  have z1 := hrx.frozen 1
  have y2 : w2.cell? ⟨w.heap.size + 1, 2, none⟩ = some (.int .i64 0) := hrx.cell (i := 2) (by omega)
  have z2 := hrx.frozen 2
  have y3 : w2.cell? ⟨w.heap.size + 1, 3, none⟩ = some (.int .i64 0) := hrx.cell (i := 3) (by omega)
  have z3 := hrx.frozen 3
  have y4 : w2.cell? ⟨w.heap.size + 1, 4, none⟩ = some (.int .i64 0) := hrx.cell (i := 4) (by omega)
  have z4 := hrx.frozen 4
  have y5 : w2.cell? ⟨w.heap.size + 1, 5, none⟩ = some (.int .i64 0) := hrx.cell (i := 5) (by omega)
  have z5 := hrx.frozen 5
  have y6 : w2.cell? ⟨w.heap.size + 1, 6, none⟩ = some (.int .i64 0) := hrx.cell (i := 6) (by omega)
  have z6 := hrx.frozen 6
  have y7 : w2.cell? ⟨w.heap.size + 1, 7, none⟩ = some (.int .i64 0) := hrx.cell (i := 7) (by omega)
  have z7 := hrx.frozen 7
  have y8 : w2.cell? ⟨w.heap.size + 1, 8, none⟩ = some (.int .i64 0) := hrx.cell (i := 8) (by omega)
  have z8 := hrx.frozen 8
  have y9 : w2.cell? ⟨w.heap.size + 1, 9, none⟩ = some (.int .i64 0) := hrx.cell (i := 9) (by omega)
  have z9 := hrx.frozen 9
  have y10 : w2.cell? ⟨w.heap.size + 1, 10, none⟩ = some (.slice none 0 0) := hrx.cell (i := 10) (by omega)
  have z10 := hrx.frozen 10
  have y11 : w2.cell? ⟨w.heap.size + 1, 11, none⟩ = some (.slice none 0 0) := hrx.cell (i := 11) (by omega)
  have z11 := hrx.frozen 11
  clear hrx
  refine wpAnyL_end (by kernel_rfl) rfl (fun K hK => ?_)
  go_simp
  refine hK.out _ _ ?_
  clear hK K
  refine wpAnyL_done (by kernel_rfl) ?_ _
  go_wp2_with fail
  have hss := unhide HS0
  refine bodyPost_ret (v := pastAgg p (.slice ua p.sends.length uc) (.slice oa p.outs.length oc)) (by simp [results, Try.results85, go_sem, y0, y1, y2, y3, y4, y5, y6, y7, y8, y9, y10, y11]) rfl ⟨_, _, rfl, ⟨?_, ?_⟩, unhide HAP, ?_⟩
  · exact (((unhide HU12).less (show w.heap.size + 2 ≤ X.drew.heap.size by simp; omega)).setV (r := w.heap.size + 1) (o := 0) (by omega) (pastCells p (.slice ua p.sends.length uc) (.slice oa p.outs.length oc))).less (by omega)
  · exact (((unhide HU2).less (show w.heap.size + 2 ≤ w1.heap.size by omega)).setV (r := w.heap.size + 1) (o := 0) (by omega) (pastCells p (.slice ua p.sends.length uc) (.slice oa p.outs.length oc))).less (by omega)
  · exact setVals_below (pastCells p (.slice ua p.sends.length uc) (.slice oa p.outs.length oc)) 0 w2 (below_then (unhide HB0) (unhide HX2)) (by omega)
end Go.Proofs.Ytjdaedcpjfcpjaa
