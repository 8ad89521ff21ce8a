/- spec.SlotDo. -/
import Derived.Test.YtocgfngcgekciaaSC3
import Derived.Deep.CutRange
namespace Go.Proofs.Ytocgfngcgekciaa
open Go.RowKit
set_option linter.unusedVariables false
set_option linter.unusedSimpArgs false


section
variable {P : Program} {ops : Array Oper} {Q : Exit → Act → World → Prop} {md : Region.Mode} {S : World → Prop} {L : Nat}
/-- Two operations may come up, neither the last. -/
theorem wpAnyL_two {i j : Nat} {o o2 : Oper} {fuel : Nat} {listed : Array Bool} {a : Act} {w : World} (hr : Region.ready md ops listed = [i, j]) (ho : ops[i]? = some o) (ho2 : ops[j]? = some o2)
    (h : ∀ K' : Act → World → Prop, Shut (∀ a w, S w → wpAnyL P md ops Q S L fuel (listed.setIfInBounds i true) a w → K' a w) → if Region.wanted o (yielded ops a.tmps) = true then Oper.wp P o a w K' Q else K' (a.put o.dst undef) w)
    (h2 : ∀ K' : Act → World → Prop, Shut (∀ a w, S w → wpAnyL P md ops Q S L fuel (listed.setIfInBounds j true) a w → K' a w) → if Region.wanted o2 (yielded ops a.tmps) = true then Oper.wp P o2 a w K' Q else K' (a.put o2.dst undef) w) :
    wpAnyL P md ops Q S L (fuel + 1) listed a w := by
  refine ⟨fun h0 => ?_, fun k hk => ?_⟩
  · rw [hr] at h0; cases h0
  · rw [hr] at hk
    rcases List.mem_cons.1 hk with rfl | hk
    · exact wpOp_step ho (fun K' hK => h K' (fun a w hS hW => hK a w ⟨fun _ => hS, hW⟩))
    · obtain rfl : k = j := by simpa using hk
      exact wpOp_step ho2 (fun K' hK => h2 K' (fun a w hS hW => hK a w ⟨fun _ => hS, hW⟩))
end

theorem bareAt (w : World) : GridAt w (.slice none 0 0) [] := ⟨none, 0, rfl, Nat.le_refl _, Nat.zero_le _, Or.inl rfl⟩
def SlotDoneS (d : DiskV) (w : World) (e : Ending) (w' : World) : Prop := ∃ va vb, e = .returned (diskAgg d va vb) ∧ DiskAt w' d va vb ∧ Below w.heap.size w w'

set_option maxRecDepth 100000 in
set_option maxHeartbeats 8000000 in
theorem specSlotDo_any (d : DiskV) (va vb : Value) (v : Value) (es : List StepV) (most : Int) (w : World) (h : DiskAt w d va vb) (hs : StepsAt w v es) (hlen : es.length ≤ 1048576) (hdat : ∀ e ∈ es, e.data.length ≤ 1048576) :
    Calls Try.prog 39 #[diskAgg d va vb, v, .int .i64 most] w (SlotDoneS (slotDoD d es most) w) := by
  obtain ⟨a1, c1, rfl⟩ := h.a.sliced
  obtain ⟨a2, c2, rfl⟩ := h.b.sliced
  obtain ⟨ae, ce, rfl⟩ := hs.sliced
  have hb0 : Below w.heap.size w ((w.alloc (.cells #[.int .i64 d.a.num, .int .i64 d.a.cnt, .slice a1 d.a.rows.length c1, .int .i64 d.b.num, .int .i64 d.b.cnt, .slice a2 d.b.rows.length c2] 27)).alloc (.cells #[.int .i64 0, .int .i64 0, .slice none 0 0, .int .i64 0, .int .i64 0, .slice none 0 0] 27)) := ((Below.refl _ _).alloc (Nat.le_refl _) _).alloc (by simp) _
  have K := hide (show CellsAt ((w.alloc (.cells #[.int .i64 d.a.num, .int .i64 d.a.cnt, .slice a1 d.a.rows.length c1, .int .i64 d.b.num, .int .i64 d.b.cnt, .slice a2 d.b.rows.length c2] 27)).alloc (.cells #[.int .i64 0, .int .i64 0, .slice none 0 0, .int .i64 0, .int .i64 0, .slice none 0 0] 27)) w.heap.size 0 (diskCells d (.slice a1 d.a.rows.length c1) (.slice a2 d.b.rows.length c2)) from (cellsAt_new w (diskCells d (.slice a1 d.a.rows.length c1) (.slice a2 d.b.rows.length c2)) 27).on ((Below.refl _ _).alloc (Nat.le_refl _) _))
  have R : Hid (((w.alloc (.cells #[.int .i64 d.a.num, .int .i64 d.a.cnt, .slice a1 d.a.rows.length c1, .int .i64 d.b.num, .int .i64 d.b.cnt, .slice a2 d.b.rows.length c2] 27)).alloc (.cells #[.int .i64 0, .int .i64 0, .slice none 0 0, .int .i64 0, .int .i64 0, .slice none 0 0] 27)).rowIs (w.heap.size + 1) 27 6 (fun i => [Value.int .i64 0, .int .i64 0, .slice none 0 0, .int .i64 0, .int .i64 0, .slice none 0 0].getD i undef)) := hide (by
    have e := row_new (w.alloc (.cells #[.int .i64 d.a.num, .int .i64 d.a.cnt, .slice a1 d.a.rows.length c1, .int .i64 d.b.num, .int .i64 d.b.cnt, .slice a2 d.b.rows.length c2] 27)) [.int .i64 0, .int .i64 0, .slice none 0 0, .int .i64 0, .int .i64 0, .slice none 0 0] 27
    have hs : (w.alloc (.cells #[.int .i64 d.a.num, .int .i64 d.a.cnt, .slice a1 d.a.rows.length c1, .int .i64 d.b.num, .int .i64 d.b.cnt, .slice a2 d.b.rows.length c2] 27)).heap.size = w.heap.size + 1 := by simp
    rw [hs] at e
    exact e)
  have HSZ : Hid (((w.alloc (.cells #[.int .i64 d.a.num, .int .i64 d.a.cnt, .slice a1 d.a.rows.length c1, .int .i64 d.b.num, .int .i64 d.b.cnt, .slice a2 d.b.rows.length c2] 27)).alloc (.cells #[.int .i64 0, .int .i64 0, .slice none 0 0, .int .i64 0, .int .i64 0, .slice none 0 0] 27)).heap.size = w.heap.size + 2) := hide (by simp)
  have H := hide (h.on hb0)
  have HS := hide (hs.on hb0)
  have HB := hide hb0
  have HLE := hide hlen
  have HDT := hide hdat
  clear h hb0 hs hlen hdat
  go_enter Try.func39, Try.ntmps39
  go_upto_region 1 with fail
  generalize ((w.alloc (.cells #[.int .i64 d.a.num, .int .i64 d.a.cnt, .slice a1 d.a.rows.length c1, .int .i64 d.b.num, .int .i64 d.b.cnt, .slice a2 d.b.rows.length c2] 27)).alloc (.cells #[.int .i64 0, .int .i64 0, .slice none 0 0, .int .i64 0, .int .i64 0, .slice none 0 0] 27)) = W at *
  have m0 : W.cell? ⟨w.heap.size, 0, none⟩ = some (.int .i64 d.a.num) := (unhide K) 0 (by simp)
  have m1 : W.cell? ⟨w.heap.size, 1, none⟩ = some (.int .i64 d.a.cnt) := (unhide K) 1 (by simp)
  have m2 : W.cell? ⟨w.heap.size, 2, none⟩ = some (.slice a1 d.a.rows.length c1) := (unhide K) 2 (by simp)
  have m3 : W.cell? ⟨w.heap.size, 3, none⟩ = some (.int .i64 d.b.num) := (unhide K) 3 (by simp)
  have m4 : W.cell? ⟨w.heap.size, 4, none⟩ = some (.int .i64 d.b.cnt) := (unhide K) 4 (by simp)
  have m5 : W.cell? ⟨w.heap.size, 5, none⟩ = some (.slice a2 d.b.rows.length c2) := (unhide K) 5 (by simp)
  go_wp2_with fail
  clear m0 m1 m2 m3 m4 m5
  refine (specSlotOk_any d _ _ W (unhide H)).mono ?_
  rintro e w1 ⟨rfl, hb1⟩
  have HB1 := hide (below_then (unhide HB) hb1)
  have K1 := hide ((unhide K).on hb1)
  have H1 := hide ((unhide H).on hb1)
  have HS1 := hide ((unhide HS).on hb1)
  have R1 := hide ((unhide R).of_block (hb1.block (w.heap.size + 1) (unhide R).lt))
  have HSZ1 : Hid (w.heap.size + 2 ≤ w1.heap.size) := hide (by have := unhide HSZ; have := hb1.size; omega)
  clear hb1 K H HS R HSZ HB
  cases hok : diskOk d
  · have hrr := unhide R1
    have e0 : w1.cell? ⟨w.heap.size + 1, 0, none⟩ = some (.int .i64 0) := hrr.cell (i := 0) (by omega)
    have z0 := hrr.frozen 0
    have e1 : w1.cell? ⟨w.heap.size + 1, 1, none⟩ = some (.int .i64 0) := hrr.cell (i := 1) (by omega)
    have z1 := hrr.frozen 1
    have e2 : w1.cell? ⟨w.heap.size + 1, 2, none⟩ = some (.slice none 0 0) := hrr.cell (i := 2) (by omega)
    have z2 := hrr.frozen 2
    have e3 : w1.cell? ⟨w.heap.size + 1, 3, none⟩ = some (.int .i64 0) := hrr.cell (i := 3) (by omega)
    have z3 := hrr.frozen 3
    have e4 : w1.cell? ⟨w.heap.size + 1, 4, none⟩ = some (.int .i64 0) := hrr.cell (i := 4) (by omega)
    have z4 := hrr.frozen 4
    have e5 : w1.cell? ⟨w.heap.size + 1, 5, none⟩ = some (.slice none 0 0) := hrr.cell (i := 5) (by omega)
    have z5 := hrr.frozen 5
    have hrow := setVals_row [.int .i64 0, .int .i64 0, .slice none 0 0, .int .i64 0, .int .i64 0, .slice none 0 0] 0 w1 _ hrr
    have y0 := hrow.cell (i := 0) (by simp)
    have y1 := hrow.cell (i := 1) (by simp)
    have y2 := hrow.cell (i := 2) (by simp)
    have y3 := hrow.cell (i := 3) (by simp)
    have y4 := hrow.cell (i := 4) (by simp)
    have y5 := hrow.cell (i := 5) (by simp)
    simp at y0 y1 y2 y3 y4 y5
    have HFIN : Hid (SlotDoneS (slotDoD d es most) w (.returned (diskAgg bareDisk (.slice none 0 0) (.slice none 0 0))) (setVals w1 (w.heap.size + 1) 0 [.int .i64 0, .int .i64 0, .slice none 0 0, .int .i64 0, .int .i64 0, .slice none 0 0])) := hide (by
      have e : slotDoD d es most = bareDisk := by simp [slotDoD, hok]
      rw [e]
      exact ⟨_, _, rfl, ⟨bareAt _, bareAt _⟩, setVals_below (b := w.heap.size + 1) _ 0 w1 (unhide HB1) (by omega)⟩)
    have Y0 := hide y0
    have Y1 := hide y1
    have Y2 := hide y2
    have Y3 := hide y3
    have Y4 := hide y4
    have Y5 := hide y5
    clear y0 y1 y2 y3 y4 y5 hrow hrr
    go_wp2_with fail
    show bodyPost _ _ _ _ _ (setVals w1 (w.heap.size + 1) 0 [.int .i64 0, .int .i64 0, .slice none 0 0, .int .i64 0, .int .i64 0, .slice none 0 0])
    clear e0 e1 e2 e3 e4 e5 z0 z1 z2 z3 z4 z5
    generalize setVals w1 (w.heap.size + 1) 0 [.int .i64 0, .int .i64 0, .slice none 0 0, .int .i64 0, .int .i64 0, .slice none 0 0] = W9 at *
    have y0 := unhide Y0
    have y1 := unhide Y1
    have y2 := unhide Y2
    have y3 := unhide Y3
    have y4 := unhide Y4
    have y5 := unhide Y5
    exact bodyPost_ret (v := diskAgg bareDisk (.slice none 0 0) (.slice none 0 0)) (by simp [results, Try.results39, go_sem, bareDisk, y0, y1, y2, y3, y4, y5]) rfl (unhide HFIN)
  have HOK := hide hok
  have HFA := hide (diskOk_rows hok).1
  have HFB := hide (diskOk_rows hok).2
  clear hok
  have HA : Hid (∀ w2, Below w1.heap.size w1 w2 → w2.cell? ⟨w.heap.size, 0, none⟩ = some (.int .i64 d.a.num) ∧ w2.cell? ⟨w.heap.size, 1, none⟩ = some (.int .i64 d.a.cnt) ∧ w2.cell? ⟨w.heap.size, 2, none⟩ = some (.slice a1 d.a.rows.length c1) ∧ w2.cell? ⟨w.heap.size, 3, none⟩ = some (.int .i64 d.b.num) ∧ w2.cell? ⟨w.heap.size, 4, none⟩ = some (.int .i64 d.b.cnt) ∧ w2.cell? ⟨w.heap.size, 5, none⟩ = some (.slice a2 d.b.rows.length c2)) := hide (fun w2 h2 => ⟨((unhide K1).on h2) 0 (by simp), ((unhide K1).on h2) 1 (by simp), ((unhide K1).on h2) 2 (by simp), ((unhide K1).on h2) 3 (by simp), ((unhide K1).on h2) 4 (by simp), ((unhide K1).on h2) 5 (by simp)⟩)
  have HAT := H1
  go_upto_region 3 with fail
  go_cut [7] from 14 to 20 (fun t wx => ∃ oq, t = .pointer (some ⟨oq, 0, none⟩) ∧ Hid (XD w1.heap.size d oq wx) ∧ Hid (Below w1.heap.size w1 wx))
  case first =>
    refine wp_region_last (L := 8) (S := fun w' : World => w'.cell? ⟨w.heap.size, 0, none⟩ = some (.int .i64 d.a.num) ∧ w'.cell? ⟨w.heap.size, 1, none⟩ = some (.int .i64 d.a.cnt) ∧ w'.cell? ⟨w.heap.size, 2, none⟩ = some (.slice a1 d.a.rows.length c1) ∧ w'.cell? ⟨w.heap.size, 3, none⟩ = some (.int .i64 d.b.num) ∧ w'.cell? ⟨w.heap.size, 4, none⟩ = some (.int .i64 d.b.cnt) ∧ w'.cell? ⟨w.heap.size, 5, none⟩ = some (.slice a2 d.b.rows.length c2)) (by kernel_rfl) ?_
    have hHeld : (fun w' : World => w'.cell? ⟨w.heap.size, 0, none⟩ = some (.int .i64 d.a.num) ∧ w'.cell? ⟨w.heap.size, 1, none⟩ = some (.int .i64 d.a.cnt) ∧ w'.cell? ⟨w.heap.size, 2, none⟩ = some (.slice a1 d.a.rows.length c1) ∧ w'.cell? ⟨w.heap.size, 3, none⟩ = some (.int .i64 d.b.num) ∧ w'.cell? ⟨w.heap.size, 4, none⟩ = some (.int .i64 d.b.cnt) ∧ w'.cell? ⟨w.heap.size, 5, none⟩ = some (.slice a2 d.b.rows.length c2)) w1.drew := (unhide HA) _ (Below.refl _ _).drew
    refine wpAnyL_take (i := 0) (v := ?_) (by kernel_rfl) rfl (by kernel_rfl) (by kernel_rfl) (by kernel_rfl) (fun _ _ _ h => h) hHeld (Or.inl ⟨by kernel_rfl, ?_⟩) ?_
    rotate_left
    · (intro w hSw; (try dsimp only at hSw); obtain ⟨s0, s1, s2, s3, s4, s5⟩ := hSw; go_simp; try with_reducible rfl)
    refine wpAnyL_take (i := 1) (v := ?_) (by kernel_rfl) rfl (by kernel_rfl) (by kernel_rfl) (by kernel_rfl) (fun _ _ _ h => h) hHeld (Or.inl ⟨by kernel_rfl, ?_⟩) ?_
    rotate_left
    · (intro w hSw; (try dsimp only at hSw); obtain ⟨s0, s1, s2, s3, s4, s5⟩ := hSw; go_simp; try with_reducible rfl)
    refine wpAnyL_take (i := 3) (v := ?_) (by kernel_rfl) rfl (by kernel_rfl) (by kernel_rfl) (by kernel_rfl) (fun _ _ _ h => h) hHeld (Or.inl ⟨by kernel_rfl, ?_⟩) ?_
    rotate_left
    · (intro w hSw; (try dsimp only at hSw); obtain ⟨s0, s1, s2, s3, s4, s5⟩ := hSw; go_simp; try with_reducible rfl)
    refine wpAnyL_take (i := 4) (v := ?_) (by kernel_rfl) rfl (by kernel_rfl) (by kernel_rfl) (by kernel_rfl) (fun _ _ _ h => h) hHeld (Or.inl ⟨by kernel_rfl, ?_⟩) ?_
    rotate_left
    · (intro w hSw; (try dsimp only at hSw); obtain ⟨s0, s1, s2, s3, s4, s5⟩ := hSw; go_simp; try with_reducible rfl)
    have hX0 : Below w1.heap.size w1 w1.drew := (Below.refl _ _).drew
    have hdr : w1.drew.heap.size = w1.heap.size := rfl
    refine wpAnyL_two (i := 2) (j := 7) (by kernel_rfl) rfl rfl (fun K hK => ?_) (fun K hK => ?_)
    · skip
      go_simp
      refine (l31Copy_any d.a _ _ ((unhide HAT).a.on hX0) (unhide HFA)).mono ?_
      rintro e wA ⟨ga, ca, fa, rfl, hga, hbA⟩
      have hXA : Below w1.heap.size w1 wA := below_then hX0 hbA
      have hzA := hbA.size
      (try simp only [World.size_alloc] at hzA)
      (try go_simp)
      refine held_on hK ?_ (fun hHeld => ?_)
      · exact (unhide HA) _ hXA
      clear hK K
      refine wpAnyL_two (i := 5) (j := 7) (by kernel_rfl) rfl rfl (fun K hK => ?_) (fun K hK => ?_)
      · skip
        go_simp
        refine (l31Copy_any d.b _ _ ((unhide HAT).b.on hXA) (unhide HFB)).mono ?_
        rintro e wB ⟨gb, cb, fb, rfl, hgb, hbB⟩
        have hXB : Below w1.heap.size w1 wB := below_then hXA hbB
        have hzB := hbB.size
        (try simp only [World.size_alloc] at hzB)
        (try go_simp)
        refine held_on hK ?_ (fun hHeld => ?_)
        · exact (unhide HA) _ hXB
        clear hK K
        refine wpAnyL_take (i := 6) (v := ?_) (by kernel_rfl) rfl (by kernel_rfl) (by kernel_rfl) (by kernel_rfl) (fun _ _ _ h => h) hHeld (Or.inl ⟨by kernel_rfl, ?_⟩) ?_
        rotate_left
        · (intro w hSw; (try dsimp only at hSw); obtain ⟨s0, s1, s2, s3, s4, s5⟩ := hSw; go_simp; try with_reducible rfl)
        refine wpAnyL_one (i := 7) (by kernel_rfl) rfl (fun K hK => ?_)
        go_simp
        have hAC : Below w1.heap.size w1 (wB.alloc (.cells #[.int .i64 0, .int .i64 0, .slice none 0 0, .int .i64 0, .int .i64 0, .slice none 0 0] 27)) := below_then (hXB) ((Below.refl _ _).alloc (Nat.le_refl _) _)
        have hRX : Hid ((wB.alloc (.cells #[.int .i64 0, .int .i64 0, .slice none 0 0, .int .i64 0, .int .i64 0, .slice none 0 0] 27)).rowIs wB.heap.size 27 6 (fun i => [Value.int .i64 0, .int .i64 0, .slice none 0 0, .int .i64 0, .int .i64 0, .slice none 0 0].getD i undef)) := hide (row_new wB [.int .i64 0, .int .i64 0, .slice none 0 0, .int .i64 0, .int .i64 0, .slice none 0 0] 27)
        have hsX : (wB.alloc (.cells #[.int .i64 0, .int .i64 0, .slice none 0 0, .int .i64 0, .int .i64 0, .slice none 0 0] 27)).heap.size = wB.heap.size + 1 := by simp
        have hbX : Below wB.heap.size wB (wB.alloc (.cells #[.int .i64 0, .int .i64 0, .slice none 0 0, .int .i64 0, .int .i64 0, .slice none 0 0] 27)) := (Below.refl _ _).alloc (Nat.le_refl _) _
        refine held_on hK ?_ (fun hHeld => ?_)
        · exact (unhide HA) _ hAC
        clear hK K
        have hrow9 : (wB.alloc (.cells #[.int .i64 0, .int .i64 0, .slice none 0 0, .int .i64 0, .int .i64 0, .slice none 0 0] 27)).rowIs wB.heap.size 27 6 (fun i => [Value.int .i64 0, .int .i64 0, .slice none 0 0, .int .i64 0, .int .i64 0, .slice none 0 0].getD i undef) := unhide hRX
        have hga9 : SGrid _ _ (wB.alloc (.cells #[.int .i64 0, .int .i64 0, .slice none 0 0, .int .i64 0, .int .i64 0, .slice none 0 0] 27)) ga ca fa d.a.rows := (hga.keep (fun b _ hl => hbB.block b hl)).keep (fun b _ hl => hbX.block b (by omega))
        have hgb9 : SGrid _ _ (wB.alloc (.cells #[.int .i64 0, .int .i64 0, .slice none 0 0, .int .i64 0, .int .i64 0, .slice none 0 0] 27)) gb cb fb d.b.rows := hgb.keep (fun b _ hl => hbX.block b hl)
        have hb9 : Below w1.heap.size w1 (wB.alloc (.cells #[.int .i64 0, .int .i64 0, .slice none 0 0, .int .i64 0, .int .i64 0, .slice none 0 0] 27)) := hAC
        generalize hq9 : wB.heap.size = oq9 at *
        generalize hX9 : (wB.alloc (.cells #[.int .i64 0, .int .i64 0, .slice none 0 0, .int .i64 0, .int .i64 0, .slice none 0 0] 27)) = X9 at *
        have y0 : X9.cell? ⟨oq9, 0, none⟩ = some (.int .i64 0) := hrow9.cell (i := 0) (by omega)
        have v0 := hrow9.frozen 0
        have y1 : X9.cell? ⟨oq9, 1, none⟩ = some (.int .i64 0) := hrow9.cell (i := 1) (by omega)
        have v1 := hrow9.frozen 1
        have y2 : X9.cell? ⟨oq9, 2, none⟩ = some (.slice none 0 0) := hrow9.cell (i := 2) (by omega)
        have v2 := hrow9.frozen 2
        have y3 : X9.cell? ⟨oq9, 3, none⟩ = some (.int .i64 0) := hrow9.cell (i := 3) (by omega)
        have v3 := hrow9.frozen 3
        have y4 : X9.cell? ⟨oq9, 4, none⟩ = some (.int .i64 0) := hrow9.cell (i := 4) (by omega)
        have v4 := hrow9.frozen 4
        have y5 : X9.cell? ⟨oq9, 5, none⟩ = some (.slice none 0 0) := hrow9.cell (i := 5) (by omega)
        have v5 := hrow9.frozen 5
        have HXD := hide (xd_of (B := w1.heap.size) hrow9 hga9 hgb9 (by omega) (by omega) (by omega) (by omega) (by omega) (by omega))
        have HBD := hide (setVals_below (b := oq9) (diskCells d (gridV ga ca d.a.rows) (gridV gb cb d.b.rows)) 0 X9 hb9 (by omega))
        refine wpAnyL_end (by kernel_rfl) rfl (fun K hK => ?_)
        go_simp
        refine hK.out _ _ ?_
        clear hK K
        refine wpAnyL_done (by kernel_rfl) ?_ _
        go_step
        go_step
        go_meet
        case rel => exact ⟨oq9, rfl, HXD, HBD⟩
      · skip
        go_simp
        have hAC : Below w1.heap.size w1 (wA.alloc (.cells #[.int .i64 0, .int .i64 0, .slice none 0 0, .int .i64 0, .int .i64 0, .slice none 0 0] 27)) := below_then (hXA) ((Below.refl _ _).alloc (Nat.le_refl _) _)
        have hRX : Hid ((wA.alloc (.cells #[.int .i64 0, .int .i64 0, .slice none 0 0, .int .i64 0, .int .i64 0, .slice none 0 0] 27)).rowIs wA.heap.size 27 6 (fun i => [Value.int .i64 0, .int .i64 0, .slice none 0 0, .int .i64 0, .int .i64 0, .slice none 0 0].getD i undef)) := hide (row_new wA [.int .i64 0, .int .i64 0, .slice none 0 0, .int .i64 0, .int .i64 0, .slice none 0 0] 27)
        have hsX : (wA.alloc (.cells #[.int .i64 0, .int .i64 0, .slice none 0 0, .int .i64 0, .int .i64 0, .slice none 0 0] 27)).heap.size = wA.heap.size + 1 := by simp
        have hbX : Below wA.heap.size wA (wA.alloc (.cells #[.int .i64 0, .int .i64 0, .slice none 0 0, .int .i64 0, .int .i64 0, .slice none 0 0] 27)) := (Below.refl _ _).alloc (Nat.le_refl _) _
        refine held_on hK ?_ (fun hHeld => ?_)
        · exact (unhide HA) _ hAC
        clear hK K
        refine wpAnyL_one (i := 5) (by kernel_rfl) rfl (fun K hK => ?_)
        go_simp
        refine (l31Copy_any d.b _ _ ((unhide HAT).b.on hAC) (unhide HFB)).mono ?_
        rintro e wB ⟨gb, cb, fb, rfl, hgb, hbB⟩
        have hXB : Below w1.heap.size w1 wB := below_then hAC hbB
        have hzB := hbB.size
        (try simp only [World.size_alloc] at hzB)
        (try go_simp)
        refine held_on hK ?_ (fun hHeld => ?_)
        · exact (unhide HA) _ hXB
        clear hK K
        refine wpAnyL_take (i := 6) (v := ?_) (by kernel_rfl) rfl (by kernel_rfl) (by kernel_rfl) (by kernel_rfl) (fun _ _ _ h => h) hHeld (Or.inl ⟨by kernel_rfl, ?_⟩) ?_
        rotate_left
        · (intro w hSw; (try dsimp only at hSw); obtain ⟨s0, s1, s2, s3, s4, s5⟩ := hSw; go_simp; try with_reducible rfl)
        have hrow9 : wB.rowIs wA.heap.size 27 6 (fun i => [Value.int .i64 0, .int .i64 0, .slice none 0 0, .int .i64 0, .int .i64 0, .slice none 0 0].getD i undef) := (unhide hRX).of_block (hbB.block wA.heap.size (by omega))
        have hga9 : SGrid _ _ wB ga ca fa d.a.rows := (hga.keep (fun b _ hl => hbX.block b hl)).keep (fun b _ hl => hbB.block b (by omega))
        have hgb9 : SGrid _ _ wB gb cb fb d.b.rows := hgb
        have hb9 : Below w1.heap.size w1 wB := hXB
        generalize hq9 : wA.heap.size = oq9 at *
        generalize hX9 : wB = X9 at *
        have y0 : X9.cell? ⟨oq9, 0, none⟩ = some (.int .i64 0) := hrow9.cell (i := 0) (by omega)
        have v0 := hrow9.frozen 0
        have y1 : X9.cell? ⟨oq9, 1, none⟩ = some (.int .i64 0) := hrow9.cell (i := 1) (by omega)
        have v1 := hrow9.frozen 1
        have y2 : X9.cell? ⟨oq9, 2, none⟩ = some (.slice none 0 0) := hrow9.cell (i := 2) (by omega)
        have v2 := hrow9.frozen 2
        have y3 : X9.cell? ⟨oq9, 3, none⟩ = some (.int .i64 0) := hrow9.cell (i := 3) (by omega)
        have v3 := hrow9.frozen 3
        have y4 : X9.cell? ⟨oq9, 4, none⟩ = some (.int .i64 0) := hrow9.cell (i := 4) (by omega)
        have v4 := hrow9.frozen 4
        have y5 : X9.cell? ⟨oq9, 5, none⟩ = some (.slice none 0 0) := hrow9.cell (i := 5) (by omega)
        have v5 := hrow9.frozen 5
        have HXD := hide (xd_of (B := w1.heap.size) hrow9 hga9 hgb9 (by omega) (by omega) (by omega) (by omega) (by omega) (by omega))
        have HBD := hide (setVals_below (b := oq9) (diskCells d (gridV ga ca d.a.rows) (gridV gb cb d.b.rows)) 0 X9 hb9 (by omega))
        refine wpAnyL_end (by kernel_rfl) rfl (fun K hK => ?_)
        go_simp
        refine hK.out _ _ ?_
        clear hK K
        refine wpAnyL_done (by kernel_rfl) ?_ _
        go_step
        go_step
        go_meet
        case rel => exact ⟨oq9, rfl, HXD, HBD⟩
    · skip
      go_simp
      have hAC : Below w1.heap.size w1 (w1.alloc (.cells #[.int .i64 0, .int .i64 0, .slice none 0 0, .int .i64 0, .int .i64 0, .slice none 0 0] 27)).drew := (below_then (Below.refl _ _) ((Below.refl _ _).alloc (Nat.le_refl _) _)).drew
      have hRX : Hid ((w1.alloc (.cells #[.int .i64 0, .int .i64 0, .slice none 0 0, .int .i64 0, .int .i64 0, .slice none 0 0] 27)).drew.rowIs w1.heap.size 27 6 (fun i => [Value.int .i64 0, .int .i64 0, .slice none 0 0, .int .i64 0, .int .i64 0, .slice none 0 0].getD i undef)) := hide (row_new w1 [.int .i64 0, .int .i64 0, .slice none 0 0, .int .i64 0, .int .i64 0, .slice none 0 0] 27)
      have hsX : (w1.alloc (.cells #[.int .i64 0, .int .i64 0, .slice none 0 0, .int .i64 0, .int .i64 0, .slice none 0 0] 27)).drew.heap.size = w1.heap.size + 1 := by simp
      have hbX : Below w1.heap.size w1 (w1.alloc (.cells #[.int .i64 0, .int .i64 0, .slice none 0 0, .int .i64 0, .int .i64 0, .slice none 0 0] 27)).drew := ((Below.refl _ _).alloc (Nat.le_refl _) _).drew
      refine held_on hK ?_ (fun hHeld => ?_)
      · exact (unhide HA) _ hAC
      clear hK K
      refine wpAnyL_one (i := 2) (by kernel_rfl) rfl (fun K hK => ?_)
      go_simp
      refine (l31Copy_any d.a _ _ ((unhide HAT).a.on hAC) (unhide HFA)).mono ?_
      rintro e wA ⟨ga, ca, fa, rfl, hga, hbA⟩
      have hXA : Below w1.heap.size w1 wA := below_then hAC hbA
      have hzA := hbA.size
      (try simp only [World.size_alloc] at hzA)
      (try go_simp)
      refine held_on hK ?_ (fun hHeld => ?_)
      · exact (unhide HA) _ hXA
      clear hK K
      refine wpAnyL_one (i := 5) (by kernel_rfl) rfl (fun K hK => ?_)
      go_simp
      refine (l31Copy_any d.b _ _ ((unhide HAT).b.on hXA) (unhide HFB)).mono ?_
      rintro e wB ⟨gb, cb, fb, rfl, hgb, hbB⟩
      have hXB : Below w1.heap.size w1 wB := below_then hXA hbB
      have hzB := hbB.size
      (try simp only [World.size_alloc] at hzB)
      (try go_simp)
      refine held_on hK ?_ (fun hHeld => ?_)
      · exact (unhide HA) _ hXB
      clear hK K
      refine wpAnyL_take (i := 6) (v := ?_) (by kernel_rfl) rfl (by kernel_rfl) (by kernel_rfl) (by kernel_rfl) (fun _ _ _ h => h) hHeld (Or.inl ⟨by kernel_rfl, ?_⟩) ?_
      rotate_left
      · (intro w hSw; (try dsimp only at hSw); obtain ⟨s0, s1, s2, s3, s4, s5⟩ := hSw; go_simp; try with_reducible rfl)
      have hrow9 : wB.rowIs w1.heap.size 27 6 (fun i => [Value.int .i64 0, .int .i64 0, .slice none 0 0, .int .i64 0, .int .i64 0, .slice none 0 0].getD i undef) := ((unhide hRX).of_block (hbA.block w1.heap.size (by omega))).of_block (hbB.block w1.heap.size (by omega))
      have hga9 : SGrid _ _ wB ga ca fa d.a.rows := hga.keep (fun b _ hl => hbB.block b hl)
      have hgb9 : SGrid _ _ wB gb cb fb d.b.rows := hgb
      have hb9 : Below w1.heap.size w1 wB := hXB
      generalize hX9 : wB = X9 at *
      have y0 : X9.cell? ⟨w1.heap.size, 0, none⟩ = some (.int .i64 0) := hrow9.cell (i := 0) (by omega)
      have v0 := hrow9.frozen 0
      have y1 : X9.cell? ⟨w1.heap.size, 1, none⟩ = some (.int .i64 0) := hrow9.cell (i := 1) (by omega)
      have v1 := hrow9.frozen 1
      have y2 : X9.cell? ⟨w1.heap.size, 2, none⟩ = some (.slice none 0 0) := hrow9.cell (i := 2) (by omega)
      have v2 := hrow9.frozen 2
      have y3 : X9.cell? ⟨w1.heap.size, 3, none⟩ = some (.int .i64 0) := hrow9.cell (i := 3) (by omega)
      have v3 := hrow9.frozen 3
      have y4 : X9.cell? ⟨w1.heap.size, 4, none⟩ = some (.int .i64 0) := hrow9.cell (i := 4) (by omega)
      have v4 := hrow9.frozen 4
      have y5 : X9.cell? ⟨w1.heap.size, 5, none⟩ = some (.slice none 0 0) := hrow9.cell (i := 5) (by omega)
      have v5 := hrow9.frozen 5
      have HXD := hide (xd_of (B := w1.heap.size) hrow9 hga9 hgb9 (by omega) (by omega) (by omega) (by omega) (by omega) (by omega))
      have HBD := hide (setVals_below (b := w1.heap.size) (diskCells d (gridV ga ca d.a.rows) (gridV gb cb d.b.rows)) 0 X9 hb9 (by omega))
      refine wpAnyL_end (by kernel_rfl) rfl (fun K hK => ?_)
      go_simp
      refine hK.out _ _ ?_
      clear hK K
      refine wpAnyL_done (by kernel_rfl) ?_ _
      go_step
      go_step
      go_meet
      case rel => exact ⟨w1.heap.size, rfl, HXD, HBD⟩
  case rest =>
    obtain ⟨oq, rfl, HXD0, HBC0⟩ := hcut
    obtain ⟨n, hn⟩ : ∃ n, n = mostOf es.length most := ⟨_, rfl⟩
    have hnl : n ≤ es.length := by rw [hn]; unfold mostOf; omega
    have hnm : ∀ k : Nat, k < n → (k : Int) < most := fun k hk => by rw [hn] at hk; unfold mostOf at hk; omega
    have hnx : n < es.length → most ≤ (n : Int) := fun hk => by rw [hn] at hk ⊢; unfold mostOf at hk ⊢; omega
    have HNE := hide hn
    have HNL := hide hnl
    have HNM := hide hnm
    have HNX := hide hnx
    clear hn hnl hnm hnx H1 K1 HA HAT HFA HFB
    go_wp2_with fail
    go_loopw [8] (fun i wy => ∃ k : Nat, k ≤ n ∧ i = .int .i64 k ∧ Hid (XD w1.heap.size (stepsDo d (es.take k)) oq wy) ∧ Hid (Below w1.heap.size w1 wy)) (fun i _ => n - (intOf i).toNat)
    case atStart => exact ⟨0, Nat.zero_le _, rfl, HXD0, HBC0⟩
    case round =>
      obtain ⟨k, hk, rfl, HXD, HBW⟩ := hrel
      have hk0 : (0 : Int) ≤ (k : Int) := by omega
      have hkk : (k : Int) + 1 ≤ 1048577 := by have := unhide HLE; have := unhide HNL; omega
      by_cases hlt : k < n
      · have hke : k < es.length := by have := unhide HNL; omega
        have hkI : (k : Int) < (es.length : Int) := by omega
        have hkM : (k : Int) < most := (unhide HNM) k hlt
        obtain ⟨b, off, vd, had, hc, hp⟩ := ((unhide HS1).on (unhide HBW)).row hke
        subst had
        obtain ⟨ea, ec, rfl⟩ := hp.sliced
        have hbw1 : b < w1.heap.size := by
          obtain ⟨b', off', vd', had', hc', hp'⟩ := (unhide HS1).row hke
          simp only [Option.some.injEq, Addr.mk.injEq, and_true] at had'
          obtain ⟨rfl, rfl⟩ := had'
          exact heap_lt_of_cell (hc' 0 (by simp))
        have hokk := stepsDo_ok (es.take k) d (unhide HOK)
        have HSN : Hid (stepsDo d (es.take (k + 1)) = stepDo (stepsDo d (es.take k)) es[k]) := hide (stepsDo_snoc es d k hke)
        have HFA := hide (diskOk_rows hokk).1
        have HFB := hide (diskOk_rows hokk).2
        have HDL := hide ((unhide HDT) es[k] (List.getElem_mem hke))
        clear hokk
        generalize stepsDo d (es.take k) = dk at *
        generalize es[k] = z at *
        obtain ⟨sec, sct, num, cnt, data⟩ := z
        dsimp only at *
        obtain ⟨xa, xca, xfa, xb, xcb, xfb, hxd⟩ := unhide HXD
        have HXDk := hide hxd
        have HAT : Hid (DiskAt wr dk (.slice (some ⟨xa, 0, none⟩) dk.a.rows.length xca) (.slice (some ⟨xb, 0, none⟩) dk.b.rows.length xcb)) := hide hxd.at
        have HA : Hid (∀ w2, Below wr.heap.size wr w2 → w2.cell? ⟨oq, 0, none⟩ = some (.int .i64 dk.a.num) ∧ w2.cell? ⟨oq, 1, none⟩ = some (.int .i64 dk.a.cnt) ∧ w2.cell? ⟨oq, 2, none⟩ = some (.slice (some ⟨xa, 0, none⟩) dk.a.rows.length xca) ∧ w2.cell? ⟨oq, 3, none⟩ = some (.int .i64 dk.b.num) ∧ w2.cell? ⟨oq, 4, none⟩ = some (.int .i64 dk.b.cnt) ∧ w2.cell? ⟨oq, 5, none⟩ = some (.slice (some ⟨xb, 0, none⟩) dk.b.rows.length xcb)) := hide (fun w2 h2 => ⟨cell_on h2 (hxd.cells 0 (by simp)), cell_on h2 (hxd.cells 1 (by simp)), cell_on h2 (hxd.cells 2 (by simp)), cell_on h2 (hxd.cells 3 (by simp)), cell_on h2 (hxd.cells 4 (by simp)), cell_on h2 (hxd.cells 5 (by simp))⟩)
        have HC := hide hc
        have HP := hide hp
        have HBW1 := hide hbw1
        have hoq : oq < wr.heap.size := hxd.row.lt
        have hoq1 : w1.heap.size ≤ oq := hxd.lo
        clear hxd hc hp hbw1
        go_upto_region 7 with fail
        go_cut [9] from 32 to 38 (fun t wx => ∃ xq, t = .pointer (some ⟨xq, 0, none⟩) ∧ Hid (XD wr.heap.size dk xq wx) ∧ Hid (Below wr.heap.size wr wx))
        case first =>
          refine wp_region_last (L := 8) (S := fun w' : World => w'.cell? ⟨oq, 0, none⟩ = some (.int .i64 dk.a.num) ∧ w'.cell? ⟨oq, 1, none⟩ = some (.int .i64 dk.a.cnt) ∧ w'.cell? ⟨oq, 2, none⟩ = some (.slice (some ⟨xa, 0, none⟩) dk.a.rows.length xca) ∧ w'.cell? ⟨oq, 3, none⟩ = some (.int .i64 dk.b.num) ∧ w'.cell? ⟨oq, 4, none⟩ = some (.int .i64 dk.b.cnt) ∧ w'.cell? ⟨oq, 5, none⟩ = some (.slice (some ⟨xb, 0, none⟩) dk.b.rows.length xcb)) (by kernel_rfl) ?_
          have hHeld : (fun w' : World => w'.cell? ⟨oq, 0, none⟩ = some (.int .i64 dk.a.num) ∧ w'.cell? ⟨oq, 1, none⟩ = some (.int .i64 dk.a.cnt) ∧ w'.cell? ⟨oq, 2, none⟩ = some (.slice (some ⟨xa, 0, none⟩) dk.a.rows.length xca) ∧ w'.cell? ⟨oq, 3, none⟩ = some (.int .i64 dk.b.num) ∧ w'.cell? ⟨oq, 4, none⟩ = some (.int .i64 dk.b.cnt) ∧ w'.cell? ⟨oq, 5, none⟩ = some (.slice (some ⟨xb, 0, none⟩) dk.b.rows.length xcb)) wr.drew := (unhide HA) _ (Below.refl _ _).drew
          refine wpAnyL_take (i := 0) (v := ?_) (by kernel_rfl) rfl (by kernel_rfl) (by kernel_rfl) (by kernel_rfl) (fun _ _ _ h => h) hHeld (Or.inl ⟨by kernel_rfl, ?_⟩) ?_
          rotate_left
          · (intro w hSw; (try dsimp only at hSw); obtain ⟨s0, s1, s2, s3, s4, s5⟩ := hSw; go_simp; try with_reducible rfl)
          refine wpAnyL_take (i := 1) (v := ?_) (by kernel_rfl) rfl (by kernel_rfl) (by kernel_rfl) (by kernel_rfl) (fun _ _ _ h => h) hHeld (Or.inl ⟨by kernel_rfl, ?_⟩) ?_
          rotate_left
          · (intro w hSw; (try dsimp only at hSw); obtain ⟨s0, s1, s2, s3, s4, s5⟩ := hSw; go_simp; try with_reducible rfl)
          refine wpAnyL_take (i := 3) (v := ?_) (by kernel_rfl) rfl (by kernel_rfl) (by kernel_rfl) (by kernel_rfl) (fun _ _ _ h => h) hHeld (Or.inl ⟨by kernel_rfl, ?_⟩) ?_
          rotate_left
          · (intro w hSw; (try dsimp only at hSw); obtain ⟨s0, s1, s2, s3, s4, s5⟩ := hSw; go_simp; try with_reducible rfl)
          refine wpAnyL_take (i := 4) (v := ?_) (by kernel_rfl) rfl (by kernel_rfl) (by kernel_rfl) (by kernel_rfl) (fun _ _ _ h => h) hHeld (Or.inl ⟨by kernel_rfl, ?_⟩) ?_
          rotate_left
          · (intro w hSw; (try dsimp only at hSw); obtain ⟨s0, s1, s2, s3, s4, s5⟩ := hSw; go_simp; try with_reducible rfl)
          have hX0 : Below wr.heap.size wr wr.drew := (Below.refl _ _).drew
          have hdr : wr.drew.heap.size = wr.heap.size := rfl
          refine wpAnyL_two (i := 2) (j := 7) (by kernel_rfl) rfl rfl (fun K hK => ?_) (fun K hK => ?_)
          · skip
            go_simp
            refine (l31Copy_any dk.a _ _ ((unhide HAT).a.on hX0) (unhide HFA)).mono ?_
            rintro e wA ⟨ga, ca, fa, rfl, hga, hbA⟩
            have hXA : Below wr.heap.size wr wA := below_then hX0 hbA
            have hzA := hbA.size
            (try simp only [World.size_alloc] at hzA)
            (try go_simp)
            refine held_on hK ?_ (fun hHeld => ?_)
            · exact (unhide HA) _ hXA
            clear hK K
            refine wpAnyL_two (i := 5) (j := 7) (by kernel_rfl) rfl rfl (fun K hK => ?_) (fun K hK => ?_)
            · skip
              go_simp
              refine (l31Copy_any dk.b _ _ ((unhide HAT).b.on hXA) (unhide HFB)).mono ?_
              rintro e wB ⟨gb, cb, fb, rfl, hgb, hbB⟩
              have hXB : Below wr.heap.size wr wB := below_then hXA hbB
              have hzB := hbB.size
              (try simp only [World.size_alloc] at hzB)
              (try go_simp)
              refine held_on hK ?_ (fun hHeld => ?_)
              · exact (unhide HA) _ hXB
              clear hK K
              refine wpAnyL_take (i := 6) (v := ?_) (by kernel_rfl) rfl (by kernel_rfl) (by kernel_rfl) (by kernel_rfl) (fun _ _ _ h => h) hHeld (Or.inl ⟨by kernel_rfl, ?_⟩) ?_
              rotate_left
              · (intro w hSw; (try dsimp only at hSw); obtain ⟨s0, s1, s2, s3, s4, s5⟩ := hSw; go_simp; try with_reducible rfl)
              refine wpAnyL_one (i := 7) (by kernel_rfl) rfl (fun K hK => ?_)
              go_simp
              have hAC : Below wr.heap.size wr (wB.alloc (.cells #[.int .i64 0, .int .i64 0, .slice none 0 0, .int .i64 0, .int .i64 0, .slice none 0 0] 27)) := below_then (hXB) ((Below.refl _ _).alloc (Nat.le_refl _) _)
              have hRX : Hid ((wB.alloc (.cells #[.int .i64 0, .int .i64 0, .slice none 0 0, .int .i64 0, .int .i64 0, .slice none 0 0] 27)).rowIs wB.heap.size 27 6 (fun i => [Value.int .i64 0, .int .i64 0, .slice none 0 0, .int .i64 0, .int .i64 0, .slice none 0 0].getD i undef)) := hide (row_new wB [.int .i64 0, .int .i64 0, .slice none 0 0, .int .i64 0, .int .i64 0, .slice none 0 0] 27)
              have hsX : (wB.alloc (.cells #[.int .i64 0, .int .i64 0, .slice none 0 0, .int .i64 0, .int .i64 0, .slice none 0 0] 27)).heap.size = wB.heap.size + 1 := by simp
              have hbX : Below wB.heap.size wB (wB.alloc (.cells #[.int .i64 0, .int .i64 0, .slice none 0 0, .int .i64 0, .int .i64 0, .slice none 0 0] 27)) := (Below.refl _ _).alloc (Nat.le_refl _) _
              refine held_on hK ?_ (fun hHeld => ?_)
              · exact (unhide HA) _ hAC
              clear hK K
              have hrow9 : (wB.alloc (.cells #[.int .i64 0, .int .i64 0, .slice none 0 0, .int .i64 0, .int .i64 0, .slice none 0 0] 27)).rowIs wB.heap.size 27 6 (fun i => [Value.int .i64 0, .int .i64 0, .slice none 0 0, .int .i64 0, .int .i64 0, .slice none 0 0].getD i undef) := unhide hRX
              have hga9 : SGrid _ _ (wB.alloc (.cells #[.int .i64 0, .int .i64 0, .slice none 0 0, .int .i64 0, .int .i64 0, .slice none 0 0] 27)) ga ca fa dk.a.rows := (hga.keep (fun b _ hl => hbB.block b hl)).keep (fun b _ hl => hbX.block b (by omega))
              have hgb9 : SGrid _ _ (wB.alloc (.cells #[.int .i64 0, .int .i64 0, .slice none 0 0, .int .i64 0, .int .i64 0, .slice none 0 0] 27)) gb cb fb dk.b.rows := hgb.keep (fun b _ hl => hbX.block b hl)
              have hb9 : Below wr.heap.size wr (wB.alloc (.cells #[.int .i64 0, .int .i64 0, .slice none 0 0, .int .i64 0, .int .i64 0, .slice none 0 0] 27)) := hAC
              generalize hq9 : wB.heap.size = oq9 at *
              generalize hX9 : (wB.alloc (.cells #[.int .i64 0, .int .i64 0, .slice none 0 0, .int .i64 0, .int .i64 0, .slice none 0 0] 27)) = X9 at *
              have y0 : X9.cell? ⟨oq9, 0, none⟩ = some (.int .i64 0) := hrow9.cell (i := 0) (by omega)
              have v0 := hrow9.frozen 0
              have y1 : X9.cell? ⟨oq9, 1, none⟩ = some (.int .i64 0) := hrow9.cell (i := 1) (by omega)
              have v1 := hrow9.frozen 1
              have y2 : X9.cell? ⟨oq9, 2, none⟩ = some (.slice none 0 0) := hrow9.cell (i := 2) (by omega)
              have v2 := hrow9.frozen 2
              have y3 : X9.cell? ⟨oq9, 3, none⟩ = some (.int .i64 0) := hrow9.cell (i := 3) (by omega)
              have v3 := hrow9.frozen 3
              have y4 : X9.cell? ⟨oq9, 4, none⟩ = some (.int .i64 0) := hrow9.cell (i := 4) (by omega)
              have v4 := hrow9.frozen 4
              have y5 : X9.cell? ⟨oq9, 5, none⟩ = some (.slice none 0 0) := hrow9.cell (i := 5) (by omega)
              have v5 := hrow9.frozen 5
              have HXD := hide (xd_of (B := wr.heap.size) hrow9 hga9 hgb9 (by omega) (by omega) (by omega) (by omega) (by omega) (by omega))
              have HBD := hide (setVals_below (b := oq9) (diskCells dk (gridV ga ca dk.a.rows) (gridV gb cb dk.b.rows)) 0 X9 hb9 (by omega))
              refine wpAnyL_end (by kernel_rfl) rfl (fun K hK => ?_)
              go_simp
              refine hK.out _ _ ?_
              clear hK K
              refine wpAnyL_done (by kernel_rfl) ?_ _
              go_step
              go_step
              go_meet
              case rel => exact ⟨oq9, rfl, HXD, HBD⟩
            · skip
              go_simp
              have hAC : Below wr.heap.size wr (wA.alloc (.cells #[.int .i64 0, .int .i64 0, .slice none 0 0, .int .i64 0, .int .i64 0, .slice none 0 0] 27)) := below_then (hXA) ((Below.refl _ _).alloc (Nat.le_refl _) _)
              have hRX : Hid ((wA.alloc (.cells #[.int .i64 0, .int .i64 0, .slice none 0 0, .int .i64 0, .int .i64 0, .slice none 0 0] 27)).rowIs wA.heap.size 27 6 (fun i => [Value.int .i64 0, .int .i64 0, .slice none 0 0, .int .i64 0, .int .i64 0, .slice none 0 0].getD i undef)) := hide (row_new wA [.int .i64 0, .int .i64 0, .slice none 0 0, .int .i64 0, .int .i64 0, .slice none 0 0] 27)
              have hsX : (wA.alloc (.cells #[.int .i64 0, .int .i64 0, .slice none 0 0, .int .i64 0, .int .i64 0, .slice none 0 0] 27)).heap.size = wA.heap.size + 1 := by simp
              have hbX : Below wA.heap.size wA (wA.alloc (.cells #[.int .i64 0, .int .i64 0, .slice none 0 0, .int .i64 0, .int .i64 0, .slice none 0 0] 27)) := (Below.refl _ _).alloc (Nat.le_refl _) _
              refine held_on hK ?_ (fun hHeld => ?_)
              · exact (unhide HA) _ hAC
              clear hK K
              refine wpAnyL_one (i := 5) (by kernel_rfl) rfl (fun K hK => ?_)
              go_simp
              refine (l31Copy_any dk.b _ _ ((unhide HAT).b.on hAC) (unhide HFB)).mono ?_
              rintro e wB ⟨gb, cb, fb, rfl, hgb, hbB⟩
              have hXB : Below wr.heap.size wr wB := below_then hAC hbB
              have hzB := hbB.size
              (try simp only [World.size_alloc] at hzB)
              (try go_simp)
              refine held_on hK ?_ (fun hHeld => ?_)
              · exact (unhide HA) _ hXB
              clear hK K
              refine wpAnyL_take (i := 6) (v := ?_) (by kernel_rfl) rfl (by kernel_rfl) (by kernel_rfl) (by kernel_rfl) (fun _ _ _ h => h) hHeld (Or.inl ⟨by kernel_rfl, ?_⟩) ?_
              rotate_left
              · (intro w hSw; (try dsimp only at hSw); obtain ⟨s0, s1, s2, s3, s4, s5⟩ := hSw; go_simp; try with_reducible rfl)
              have hrow9 : wB.rowIs wA.heap.size 27 6 (fun i => [Value.int .i64 0, .int .i64 0, .slice none 0 0, .int .i64 0, .int .i64 0, .slice none 0 0].getD i undef) := (unhide hRX).of_block (hbB.block wA.heap.size (by omega))
              have hga9 : SGrid _ _ wB ga ca fa dk.a.rows := (hga.keep (fun b _ hl => hbX.block b hl)).keep (fun b _ hl => hbB.block b (by omega))
              have hgb9 : SGrid _ _ wB gb cb fb dk.b.rows := hgb
              have hb9 : Below wr.heap.size wr wB := hXB
              generalize hq9 : wA.heap.size = oq9 at *
              generalize hX9 : wB = X9 at *
              have y0 : X9.cell? ⟨oq9, 0, none⟩ = some (.int .i64 0) := hrow9.cell (i := 0) (by omega)
              have v0 := hrow9.frozen 0
              have y1 : X9.cell? ⟨oq9, 1, none⟩ = some (.int .i64 0) := hrow9.cell (i := 1) (by omega)
              have v1 := hrow9.frozen 1
              have y2 : X9.cell? ⟨oq9, 2, none⟩ = some (.slice none 0 0) := hrow9.cell (i := 2) (by omega)
              have v2 := hrow9.frozen 2
              have y3 : X9.cell? ⟨oq9, 3, none⟩ = some (.int .i64 0) := hrow9.cell (i := 3) (by omega)
              have v3 := hrow9.frozen 3
              have y4 : X9.cell? ⟨oq9, 4, none⟩ = some (.int .i64 0) := hrow9.cell (i := 4) (by omega)
              have v4 := hrow9.frozen 4
              have y5 : X9.cell? ⟨oq9, 5, none⟩ = some (.slice none 0 0) := hrow9.cell (i := 5) (by omega)
              have v5 := hrow9.frozen 5
              have HXD := hide (xd_of (B := wr.heap.size) hrow9 hga9 hgb9 (by omega) (by omega) (by omega) (by omega) (by omega) (by omega))
              have HBD := hide (setVals_below (b := oq9) (diskCells dk (gridV ga ca dk.a.rows) (gridV gb cb dk.b.rows)) 0 X9 hb9 (by omega))
              refine wpAnyL_end (by kernel_rfl) rfl (fun K hK => ?_)
              go_simp
              refine hK.out _ _ ?_
              clear hK K
              refine wpAnyL_done (by kernel_rfl) ?_ _
              go_step
              go_step
              go_meet
              case rel => exact ⟨oq9, rfl, HXD, HBD⟩
          · skip
            go_simp
            have hAC : Below wr.heap.size wr (wr.alloc (.cells #[.int .i64 0, .int .i64 0, .slice none 0 0, .int .i64 0, .int .i64 0, .slice none 0 0] 27)).drew := (below_then (Below.refl _ _) ((Below.refl _ _).alloc (Nat.le_refl _) _)).drew
            have hRX : Hid ((wr.alloc (.cells #[.int .i64 0, .int .i64 0, .slice none 0 0, .int .i64 0, .int .i64 0, .slice none 0 0] 27)).drew.rowIs wr.heap.size 27 6 (fun i => [Value.int .i64 0, .int .i64 0, .slice none 0 0, .int .i64 0, .int .i64 0, .slice none 0 0].getD i undef)) := hide (row_new wr [.int .i64 0, .int .i64 0, .slice none 0 0, .int .i64 0, .int .i64 0, .slice none 0 0] 27)
            have hsX : (wr.alloc (.cells #[.int .i64 0, .int .i64 0, .slice none 0 0, .int .i64 0, .int .i64 0, .slice none 0 0] 27)).drew.heap.size = wr.heap.size + 1 := by simp
            have hbX : Below wr.heap.size wr (wr.alloc (.cells #[.int .i64 0, .int .i64 0, .slice none 0 0, .int .i64 0, .int .i64 0, .slice none 0 0] 27)).drew := ((Below.refl _ _).alloc (Nat.le_refl _) _).drew
            refine held_on hK ?_ (fun hHeld => ?_)
            · exact (unhide HA) _ hAC
            clear hK K
            refine wpAnyL_one (i := 2) (by kernel_rfl) rfl (fun K hK => ?_)
            go_simp
            refine (l31Copy_any dk.a _ _ ((unhide HAT).a.on hAC) (unhide HFA)).mono ?_
            rintro e wA ⟨ga, ca, fa, rfl, hga, hbA⟩
            have hXA : Below wr.heap.size wr wA := below_then hAC hbA
            have hzA := hbA.size
            (try simp only [World.size_alloc] at hzA)
            (try go_simp)
            refine held_on hK ?_ (fun hHeld => ?_)
            · exact (unhide HA) _ hXA
            clear hK K
            refine wpAnyL_one (i := 5) (by kernel_rfl) rfl (fun K hK => ?_)
            go_simp
            refine (l31Copy_any dk.b _ _ ((unhide HAT).b.on hXA) (unhide HFB)).mono ?_
            rintro e wB ⟨gb, cb, fb, rfl, hgb, hbB⟩
            have hXB : Below wr.heap.size wr wB := below_then hXA hbB
            have hzB := hbB.size
            (try simp only [World.size_alloc] at hzB)
            (try go_simp)
            refine held_on hK ?_ (fun hHeld => ?_)
            · exact (unhide HA) _ hXB
            clear hK K
            refine wpAnyL_take (i := 6) (v := ?_) (by kernel_rfl) rfl (by kernel_rfl) (by kernel_rfl) (by kernel_rfl) (fun _ _ _ h => h) hHeld (Or.inl ⟨by kernel_rfl, ?_⟩) ?_
            rotate_left
            · (intro w hSw; (try dsimp only at hSw); obtain ⟨s0, s1, s2, s3, s4, s5⟩ := hSw; go_simp; try with_reducible rfl)
            have hrow9 : wB.rowIs wr.heap.size 27 6 (fun i => [Value.int .i64 0, .int .i64 0, .slice none 0 0, .int .i64 0, .int .i64 0, .slice none 0 0].getD i undef) := ((unhide hRX).of_block (hbA.block wr.heap.size (by omega))).of_block (hbB.block wr.heap.size (by omega))
            have hga9 : SGrid _ _ wB ga ca fa dk.a.rows := hga.keep (fun b _ hl => hbB.block b hl)
            have hgb9 : SGrid _ _ wB gb cb fb dk.b.rows := hgb
            have hb9 : Below wr.heap.size wr wB := hXB
            generalize hX9 : wB = X9 at *
            have y0 : X9.cell? ⟨wr.heap.size, 0, none⟩ = some (.int .i64 0) := hrow9.cell (i := 0) (by omega)
            have v0 := hrow9.frozen 0
            have y1 : X9.cell? ⟨wr.heap.size, 1, none⟩ = some (.int .i64 0) := hrow9.cell (i := 1) (by omega)
            have v1 := hrow9.frozen 1
            have y2 : X9.cell? ⟨wr.heap.size, 2, none⟩ = some (.slice none 0 0) := hrow9.cell (i := 2) (by omega)
            have v2 := hrow9.frozen 2
            have y3 : X9.cell? ⟨wr.heap.size, 3, none⟩ = some (.int .i64 0) := hrow9.cell (i := 3) (by omega)
            have v3 := hrow9.frozen 3
            have y4 : X9.cell? ⟨wr.heap.size, 4, none⟩ = some (.int .i64 0) := hrow9.cell (i := 4) (by omega)
            have v4 := hrow9.frozen 4
            have y5 : X9.cell? ⟨wr.heap.size, 5, none⟩ = some (.slice none 0 0) := hrow9.cell (i := 5) (by omega)
            have v5 := hrow9.frozen 5
            have HXD := hide (xd_of (B := wr.heap.size) hrow9 hga9 hgb9 (by omega) (by omega) (by omega) (by omega) (by omega) (by omega))
            have HBD := hide (setVals_below (b := wr.heap.size) (diskCells dk (gridV ga ca dk.a.rows) (gridV gb cb dk.b.rows)) 0 X9 hb9 (by omega))
            refine wpAnyL_end (by kernel_rfl) rfl (fun K hK => ?_)
            go_simp
            refine hK.out _ _ ?_
            clear hK K
            refine wpAnyL_done (by kernel_rfl) ?_ _
            go_step
            go_step
            go_meet
            case rel => exact ⟨wr.heap.size, rfl, HXD, HBD⟩
        case rest =>
          obtain ⟨xq, rfl, HXQ, HBR⟩ := hcut
          obtain ⟨ga, ca, fa, gb, cb, fb, hx⟩ := unhide HXQ
          have HX := hide hx
          have hbr := unhide HBR
          have hrs := hbr.size
          have hbw := (unhide HBW).size
          have q0 : wc.cell? ⟨b, off + k * 5, none⟩ = some (.bool sec) := cell_on hbr ((unhide HC) 0 (by simp))
          have q1 : wc.cell? ⟨b, off + k * 5 + 1, none⟩ = some (.int .i64 sct) := cell_on hbr ((unhide HC) 1 (by simp))
          have q2 : wc.cell? ⟨b, off + k * 5 + 2, none⟩ = some (.int .i64 num) := cell_on hbr ((unhide HC) 2 (by simp))
          have q3 : wc.cell? ⟨b, off + k * 5 + 3, none⟩ = some (.int .i64 cnt) := cell_on hbr ((unhide HC) 3 (by simp))
          have q4 : wc.cell? ⟨b, off + k * 5 + 4, none⟩ = some (.slice ea data.length ec) := cell_on hbr ((unhide HC) 4 (by simp))
          have HPC := hide ((unhide HP).on hbr)
          clear hx hbr
          cases sec
          · have HT : Hid (∀ w2 : World, (∀ blk : Nat, blk = xq ∨ blk = b → w2.heap[blk]? = wc.heap[blk]?) → w2.cell? ⟨xq, 0, none⟩ = some (.int .i64 dk.a.num) ∧ w2.cell? ⟨xq, 1, none⟩ = some (.int .i64 dk.a.cnt) ∧ w2.cell? ⟨xq, 2, none⟩ = some (.slice (some ⟨ga, 0, none⟩) dk.a.rows.length ca) ∧ w2.cell? ⟨b, off + k * 5, none⟩ = some (.bool false) ∧ w2.cell? ⟨b, off + k * 5 + 1, none⟩ = some (.int .i64 sct) ∧ w2.cell? ⟨b, off + k * 5 + 2, none⟩ = some (.int .i64 num) ∧ w2.cell? ⟨b, off + k * 5 + 3, none⟩ = some (.int .i64 cnt) ∧ w2.cell? ⟨b, off + k * 5 + 4, none⟩ = some (.slice ea data.length ec)) := hide (fun w2 h2 => ⟨(cell_block (h2 xq (Or.inl rfl))).trans ((unhide HX).cells 0 (by simp)), (cell_block (h2 xq (Or.inl rfl))).trans ((unhide HX).cells 1 (by simp)), (cell_block (h2 xq (Or.inl rfl))).trans ((unhide HX).cells 2 (by simp)), (cell_block (h2 b (Or.inr rfl))).trans q0, (cell_block (h2 b (Or.inr rfl))).trans q1, (cell_block (h2 b (Or.inr rfl))).trans q2, (cell_block (h2 b (Or.inr rfl))).trans q3, (cell_block (h2 b (Or.inr rfl))).trans q4⟩)
            obtain ⟨s2, hs2⟩ : ∃ s2, s2 = stepS dk.a ⟨false, sct, num, cnt, data⟩ := ⟨_, rfl⟩
            have hcon := l31Step_any (fun b => wr.heap.size ≤ b ∧ b ≠ xq ∧ b ≠ gb) dk.a ga ca fa false sct num cnt data ea ec wc.drew ((unhide HX).a.on (Below.refl _ _).drew) (unhide HFA).2.1 ((unhide HPC).on (Below.refl _ _).drew) (unhide HDL)
            rw [← hs2] at hcon
            have HS2 := hide hs2
            have HCON := hide hcon
            clear hs2 hcon
            go_upto_region 10 with fail
            refine wp_region_last (L := 8) (S := fun w' : World => w'.cell? ⟨xq, 0, none⟩ = some (.int .i64 dk.a.num) ∧ w'.cell? ⟨xq, 1, none⟩ = some (.int .i64 dk.a.cnt) ∧ w'.cell? ⟨xq, 2, none⟩ = some (.slice (some ⟨ga, 0, none⟩) dk.a.rows.length ca) ∧ w'.cell? ⟨b, off + k * 5, none⟩ = some (.bool false) ∧ w'.cell? ⟨b, off + k * 5 + 1, none⟩ = some (.int .i64 sct) ∧ w'.cell? ⟨b, off + k * 5 + 2, none⟩ = some (.int .i64 num) ∧ w'.cell? ⟨b, off + k * 5 + 3, none⟩ = some (.int .i64 cnt) ∧ w'.cell? ⟨b, off + k * 5 + 4, none⟩ = some (.slice ea data.length ec)) (by kernel_rfl) ?_
            have hHeld : (fun w' : World => w'.cell? ⟨xq, 0, none⟩ = some (.int .i64 dk.a.num) ∧ w'.cell? ⟨xq, 1, none⟩ = some (.int .i64 dk.a.cnt) ∧ w'.cell? ⟨xq, 2, none⟩ = some (.slice (some ⟨ga, 0, none⟩) dk.a.rows.length ca) ∧ w'.cell? ⟨b, off + k * 5, none⟩ = some (.bool false) ∧ w'.cell? ⟨b, off + k * 5 + 1, none⟩ = some (.int .i64 sct) ∧ w'.cell? ⟨b, off + k * 5 + 2, none⟩ = some (.int .i64 num) ∧ w'.cell? ⟨b, off + k * 5 + 3, none⟩ = some (.int .i64 cnt) ∧ w'.cell? ⟨b, off + k * 5 + 4, none⟩ = some (.slice ea data.length ec)) wc.drew := (unhide HT) _ (fun _ _ => rfl)
            refine wpAnyL_take (i := 0) (v := ?_) (by kernel_rfl) rfl (by kernel_rfl) (by kernel_rfl) (by kernel_rfl) (fun _ _ _ h => h) hHeld (Or.inl ⟨by kernel_rfl, ?_⟩) ?_
            rotate_left
            · (intro w hSw; (try dsimp only at hSw); obtain ⟨s0, s1, s2x, s3, s4, s5, s6, s7⟩ := hSw; go_simp; try with_reducible rfl)
            refine wpAnyL_take (i := 1) (v := ?_) (by kernel_rfl) rfl (by kernel_rfl) (by kernel_rfl) (by kernel_rfl) (fun _ _ _ h => h) hHeld (Or.inl ⟨by kernel_rfl, ?_⟩) ?_
            rotate_left
            · (intro w hSw; (try dsimp only at hSw); obtain ⟨s0, s1, s2x, s3, s4, s5, s6, s7⟩ := hSw; go_simp; try with_reducible rfl)
            refine wpAnyL_take (i := 2) (v := ?_) (by kernel_rfl) rfl (by kernel_rfl) (by kernel_rfl) (by kernel_rfl) (fun _ _ _ h => h) hHeld (Or.inl ⟨by kernel_rfl, ?_⟩) ?_
            rotate_left
            · (intro w hSw; (try dsimp only at hSw); obtain ⟨s0, s1, s2x, s3, s4, s5, s6, s7⟩ := hSw; go_simp; try with_reducible rfl)
            refine wpAnyL_take (i := 3) (v := ?_) (by kernel_rfl) rfl (by kernel_rfl) (by kernel_rfl) (by kernel_rfl) (fun _ _ _ h => h) hHeld (Or.inl ⟨by kernel_rfl, ?_⟩) ?_
            rotate_left
            · (intro w hSw; (try dsimp only at hSw); obtain ⟨s0, s1, s2x, s3, s4, s5, s6, s7⟩ := hSw; go_simp; try with_reducible rfl)
            refine wpAnyL_take (i := 4) (v := ?_) (by kernel_rfl) rfl (by kernel_rfl) (by kernel_rfl) (by kernel_rfl) (fun _ _ _ h => h) hHeld (Or.inl ⟨by kernel_rfl, ?_⟩) ?_
            rotate_left
            · (intro w hSw; (try dsimp only at hSw); obtain ⟨s0, s1, s2x, s3, s4, s5, s6, s7⟩ := hSw; go_simp; try with_reducible rfl)
            refine wpAnyL_take (i := 5) (v := ?_) (by kernel_rfl) rfl (by kernel_rfl) (by kernel_rfl) (by kernel_rfl) (fun _ _ _ h => h) hHeld (Or.inl ⟨by kernel_rfl, ?_⟩) ?_
            rotate_left
            · (intro w hSw; (try dsimp only at hSw); obtain ⟨s0, s1, s2x, s3, s4, s5, s6, s7⟩ := hSw; go_simp; try with_reducible rfl)
            refine wpAnyL_one (i := 6) (by kernel_rfl) rfl (fun K hK => ?_)
            go_simp
            refine (unhide HCON).mono ?_
            rintro e w5 hst
            have HST : Hid (Stepped (fun b => wr.heap.size ≤ b ∧ b ≠ xq ∧ b ≠ gb) s2 ga ca wc (.returned (slotAgg s2 (gridV ga ca s2.rows))) w5) := hide (by obtain ⟨rfl, k1, k2, k3, k4⟩ := hst; exact ⟨rfl, k1, k2, k3, fun B w0 hb h1 h2 => k4 B w0 hb.drew h1 h2⟩)
            obtain ⟨rfl, -, -⟩ := hst
            obtain ⟨-, -, hoth, hsz, hbel⟩ := unhide HST
            have hxq : xq < wc.heap.size := (unhide HX).row.lt
            have hgx : wr.heap.size ≤ ga := (unhide HX).a.own.1
            have hxg : xq ≠ ga := fun e => (unhide HX).a.own.2.1 e.symm
            have hbb : b < wr.heap.size := by have := unhide HBW1; omega
            have hkeep : ∀ blk, blk = xq ∨ blk = b → w5.heap[blk]? = wc.heap[blk]? := fun blk h => by
              rcases h with rfl | rfl
              · exact hoth _ hxq hxg
              · exact hoth _ (by omega) (by omega)
            (try go_simp)
            refine held_on hK ?_ (fun hHeld => ?_)
            · exact (unhide HT) _ hkeep
            clear hK K
            have hrow5 := (unhide HX).row.of_block (hkeep xq (Or.inl rfl))
            have i0 : w5.cell? ⟨xq, 0, none⟩ = some (.int .i64 dk.a.num) := hrow5.cell (i := 0) (by omega)
            have i1 : w5.cell? ⟨xq, 1, none⟩ = some (.int .i64 dk.a.cnt) := hrow5.cell (i := 1) (by omega)
            have i2 : w5.cell? ⟨xq, 2, none⟩ = some (.slice (some ⟨ga, 0, none⟩) dk.a.rows.length ca) := hrow5.cell (i := 2) (by omega)
            have f0 := hrow5.frozen 0
            have f1 := hrow5.frozen 1
            have f2 := hrow5.frozen 2
            obtain ⟨f9, hx6⟩ := (unhide HX).setA (unhide HST)
            have HX6 := hide hx6
            have HB6 := hide (setVals_below (b := xq) [.int .i64 s2.num, .int .i64 s2.cnt, gridV ga ca s2.rows] 0 w5 (hbel _ _ (unhide HBR) hgx hrs) (by have := (unhide HX).lo; omega))
            clear hrow5 hx6 hoth hsz hbel hkeep
            refine wpAnyL_one (i := 7) (by kernel_rfl) rfl (fun K hK => ?_)
            go_simp
            refine held_on hK ?_ (fun hHeld => ?_)
            · exact hHeld
            clear hK K
            refine wpAnyL_end (by kernel_rfl) rfl (fun K hK => ?_)
            go_simp
            refine hK.out _ _ ?_
            clear hK K
            refine wpAnyL_done (by kernel_rfl) ?_ _
            go_upto_region 11 with fail
            change Code.wp _ _ _ _ (setVals w5 xq 0 [.int .i64 s2.num, .int .i64 s2.cnt, gridV ga ca s2.rows])
            clear i0 i1 i2 f0 f1 f2 q0 q1 q2 q3 q4
            generalize setVals w5 xq 0 [.int .i64 s2.num, .int .i64 s2.cnt, gridV ga ca s2.rows] = W6 at *
            have m0 : W6.cell? ⟨xq, 0, none⟩ = some (.int .i64 s2.num) := (unhide HX6).cells 0 (by simp)
            have m1 : W6.cell? ⟨xq, 1, none⟩ = some (.int .i64 s2.cnt) := (unhide HX6).cells 1 (by simp)
            have m2 : W6.cell? ⟨xq, 2, none⟩ = some (.slice (some ⟨ga, 0, none⟩) s2.rows.length ca) := (unhide HX6).cells 2 (by simp)
            have m3 : W6.cell? ⟨xq, 3, none⟩ = some (.int .i64 dk.b.num) := (unhide HX6).cells 3 (by simp)
            have m4 : W6.cell? ⟨xq, 4, none⟩ = some (.int .i64 dk.b.cnt) := (unhide HX6).cells 4 (by simp)
            have m5 : W6.cell? ⟨xq, 5, none⟩ = some (.slice (some ⟨gb, 0, none⟩) dk.b.rows.length cb) := (unhide HX6).cells 5 (by simp)
            go_wp2_with fail
            clear m0 m1 m2 m3 m4 m5
            refine (specSlotOk_any ⟨s2, dk.b⟩ _ _ W6 (unhide HX6).at).mono ?_
            rintro e w7 ⟨rfl, hb7⟩
            have HX7 := hide ((unhide HX6).keep (fun b _ hl => hb7.block b hl))
            have HB7 := hide (below_then (unhide HB6) hb7)
            have HSD : Hid (stepD dk ⟨false, sct, num, cnt, data⟩ = ⟨s2, dk.b⟩) := hide (by rw [unhide HS2]; rfl)
            clear hb7
            cases hok2 : diskOk ⟨s2, dk.b⟩
            · have HEQ : Hid (stepsDo d (es.take (k + 1)) = dk) := hide (by rw [unhide HSN]; unfold stepDo; rw [unhide HSD, hok2]; rfl)
              go_wp2_with fail
              go_roundw
              case rel => exact ⟨k + 1, by omega, by go_num, by rw [unhide HEQ]; exact hide ((unhide HXD).keep (unhide HB7)), hide ((unhide HBW).trans ((unhide HB7).mono hbw))⟩
              case measure => (simp [intOf]; try omega)
            · have HEQ : Hid (stepsDo d (es.take (k + 1)) = ⟨s2, dk.b⟩) := hide (by rw [unhide HSN]; unfold stepDo; rw [unhide HSD, hok2]; rfl)
              have hro := (unhide HXDk).row.of_block ((unhide HB7).block oq hoq)
              have m0 : w7.cell? ⟨xq, 0, none⟩ = some (.int .i64 s2.num) := (unhide HX7).cells 0 (by simp)
              have m1 : w7.cell? ⟨xq, 1, none⟩ = some (.int .i64 s2.cnt) := (unhide HX7).cells 1 (by simp)
              have m2 : w7.cell? ⟨xq, 2, none⟩ = some (.slice (some ⟨ga, 0, none⟩) s2.rows.length ca) := (unhide HX7).cells 2 (by simp)
              have m3 : w7.cell? ⟨xq, 3, none⟩ = some (.int .i64 dk.b.num) := (unhide HX7).cells 3 (by simp)
              have m4 : w7.cell? ⟨xq, 4, none⟩ = some (.int .i64 dk.b.cnt) := (unhide HX7).cells 4 (by simp)
              have m5 : w7.cell? ⟨xq, 5, none⟩ = some (.slice (some ⟨gb, 0, none⟩) dk.b.rows.length cb) := (unhide HX7).cells 5 (by simp)
              have e0 : w7.cell? ⟨oq, 0, none⟩ = some (.int .i64 dk.a.num) := hro.cell (i := 0) (by omega)
              have z0 := hro.frozen 0
              have e1 : w7.cell? ⟨oq, 1, none⟩ = some (.int .i64 dk.a.cnt) := hro.cell (i := 1) (by omega)
              have z1 := hro.frozen 1
              have e2 : w7.cell? ⟨oq, 2, none⟩ = some (.slice (some ⟨xa, 0, none⟩) dk.a.rows.length xca) := hro.cell (i := 2) (by omega)
              have z2 := hro.frozen 2
              have e3 : w7.cell? ⟨oq, 3, none⟩ = some (.int .i64 dk.b.num) := hro.cell (i := 3) (by omega)
              have z3 := hro.frozen 3
              have e4 : w7.cell? ⟨oq, 4, none⟩ = some (.int .i64 dk.b.cnt) := hro.cell (i := 4) (by omega)
              have z4 := hro.frozen 4
              have e5 : w7.cell? ⟨oq, 5, none⟩ = some (.slice (some ⟨xb, 0, none⟩) dk.b.rows.length xcb) := hro.cell (i := 5) (by omega)
              have z5 := hro.frozen 5
              have HM := hide ((unhide HX7).move (B := w1.heap.size) hro hbw hoq hoq1)
              have HBM := hide (setVals_below (b := oq) (diskCells ⟨s2, dk.b⟩ (gridV ga ca (DiskV.a ⟨s2, dk.b⟩).rows) (gridV gb cb (DiskV.b ⟨s2, dk.b⟩).rows)) 0 w7 ((unhide HBW).trans ((unhide HB7).mono hbw)) hoq1)
              clear hro
              go_wp2_with fail
              go_roundw
              case rel => exact ⟨k + 1, by omega, by go_num, by rw [unhide HEQ]; exact HM, HBM⟩
              case measure => (simp [intOf]; try omega)
          · have HT : Hid (∀ w2 : World, (∀ blk : Nat, blk = xq ∨ blk = b → w2.heap[blk]? = wc.heap[blk]?) → w2.cell? ⟨xq, 3, none⟩ = some (.int .i64 dk.b.num) ∧ w2.cell? ⟨xq, 4, none⟩ = some (.int .i64 dk.b.cnt) ∧ w2.cell? ⟨xq, 5, none⟩ = some (.slice (some ⟨gb, 0, none⟩) dk.b.rows.length cb) ∧ w2.cell? ⟨b, off + k * 5, none⟩ = some (.bool true) ∧ w2.cell? ⟨b, off + k * 5 + 1, none⟩ = some (.int .i64 sct) ∧ w2.cell? ⟨b, off + k * 5 + 2, none⟩ = some (.int .i64 num) ∧ w2.cell? ⟨b, off + k * 5 + 3, none⟩ = some (.int .i64 cnt) ∧ w2.cell? ⟨b, off + k * 5 + 4, none⟩ = some (.slice ea data.length ec)) := hide (fun w2 h2 => ⟨(cell_block (h2 xq (Or.inl rfl))).trans ((unhide HX).cells 3 (by simp)), (cell_block (h2 xq (Or.inl rfl))).trans ((unhide HX).cells 4 (by simp)), (cell_block (h2 xq (Or.inl rfl))).trans ((unhide HX).cells 5 (by simp)), (cell_block (h2 b (Or.inr rfl))).trans q0, (cell_block (h2 b (Or.inr rfl))).trans q1, (cell_block (h2 b (Or.inr rfl))).trans q2, (cell_block (h2 b (Or.inr rfl))).trans q3, (cell_block (h2 b (Or.inr rfl))).trans q4⟩)
            obtain ⟨s2, hs2⟩ : ∃ s2, s2 = stepS dk.b ⟨true, sct, num, cnt, data⟩ := ⟨_, rfl⟩
            have hcon := l31Step_any (fun b => wr.heap.size ≤ b ∧ b ≠ xq ∧ b ≠ ga) dk.b gb cb fb true sct num cnt data ea ec wc.drew ((unhide HX).b.on (Below.refl _ _).drew) (unhide HFB).2.1 ((unhide HPC).on (Below.refl _ _).drew) (unhide HDL)
            rw [← hs2] at hcon
            have HS2 := hide hs2
            have HCON := hide hcon
            clear hs2 hcon
            go_upto_region 9 with fail
            refine wp_region_last (L := 8) (S := fun w' : World => w'.cell? ⟨xq, 3, none⟩ = some (.int .i64 dk.b.num) ∧ w'.cell? ⟨xq, 4, none⟩ = some (.int .i64 dk.b.cnt) ∧ w'.cell? ⟨xq, 5, none⟩ = some (.slice (some ⟨gb, 0, none⟩) dk.b.rows.length cb) ∧ w'.cell? ⟨b, off + k * 5, none⟩ = some (.bool true) ∧ w'.cell? ⟨b, off + k * 5 + 1, none⟩ = some (.int .i64 sct) ∧ w'.cell? ⟨b, off + k * 5 + 2, none⟩ = some (.int .i64 num) ∧ w'.cell? ⟨b, off + k * 5 + 3, none⟩ = some (.int .i64 cnt) ∧ w'.cell? ⟨b, off + k * 5 + 4, none⟩ = some (.slice ea data.length ec)) (by kernel_rfl) ?_
            have hHeld : (fun w' : World => w'.cell? ⟨xq, 3, none⟩ = some (.int .i64 dk.b.num) ∧ w'.cell? ⟨xq, 4, none⟩ = some (.int .i64 dk.b.cnt) ∧ w'.cell? ⟨xq, 5, none⟩ = some (.slice (some ⟨gb, 0, none⟩) dk.b.rows.length cb) ∧ w'.cell? ⟨b, off + k * 5, none⟩ = some (.bool true) ∧ w'.cell? ⟨b, off + k * 5 + 1, none⟩ = some (.int .i64 sct) ∧ w'.cell? ⟨b, off + k * 5 + 2, none⟩ = some (.int .i64 num) ∧ w'.cell? ⟨b, off + k * 5 + 3, none⟩ = some (.int .i64 cnt) ∧ w'.cell? ⟨b, off + k * 5 + 4, none⟩ = some (.slice ea data.length ec)) wc.drew := (unhide HT) _ (fun _ _ => rfl)
            refine wpAnyL_take (i := 0) (v := ?_) (by kernel_rfl) rfl (by kernel_rfl) (by kernel_rfl) (by kernel_rfl) (fun _ _ _ h => h) hHeld (Or.inl ⟨by kernel_rfl, ?_⟩) ?_
            rotate_left
            · (intro w hSw; (try dsimp only at hSw); obtain ⟨s0, s1, s2x, s3, s4, s5, s6, s7⟩ := hSw; go_simp; try with_reducible rfl)
            refine wpAnyL_take (i := 1) (v := ?_) (by kernel_rfl) rfl (by kernel_rfl) (by kernel_rfl) (by kernel_rfl) (fun _ _ _ h => h) hHeld (Or.inl ⟨by kernel_rfl, ?_⟩) ?_
            rotate_left
            · (intro w hSw; (try dsimp only at hSw); obtain ⟨s0, s1, s2x, s3, s4, s5, s6, s7⟩ := hSw; go_simp; try with_reducible rfl)
            refine wpAnyL_take (i := 2) (v := ?_) (by kernel_rfl) rfl (by kernel_rfl) (by kernel_rfl) (by kernel_rfl) (fun _ _ _ h => h) hHeld (Or.inl ⟨by kernel_rfl, ?_⟩) ?_
            rotate_left
            · (intro w hSw; (try dsimp only at hSw); obtain ⟨s0, s1, s2x, s3, s4, s5, s6, s7⟩ := hSw; go_simp; try with_reducible rfl)
            refine wpAnyL_take (i := 3) (v := ?_) (by kernel_rfl) rfl (by kernel_rfl) (by kernel_rfl) (by kernel_rfl) (fun _ _ _ h => h) hHeld (Or.inl ⟨by kernel_rfl, ?_⟩) ?_
            rotate_left
            · (intro w hSw; (try dsimp only at hSw); obtain ⟨s0, s1, s2x, s3, s4, s5, s6, s7⟩ := hSw; go_simp; try with_reducible rfl)
            refine wpAnyL_take (i := 4) (v := ?_) (by kernel_rfl) rfl (by kernel_rfl) (by kernel_rfl) (by kernel_rfl) (fun _ _ _ h => h) hHeld (Or.inl ⟨by kernel_rfl, ?_⟩) ?_
            rotate_left
            · (intro w hSw; (try dsimp only at hSw); obtain ⟨s0, s1, s2x, s3, s4, s5, s6, s7⟩ := hSw; go_simp; try with_reducible rfl)
            refine wpAnyL_take (i := 5) (v := ?_) (by kernel_rfl) rfl (by kernel_rfl) (by kernel_rfl) (by kernel_rfl) (fun _ _ _ h => h) hHeld (Or.inl ⟨by kernel_rfl, ?_⟩) ?_
            rotate_left
            · (intro w hSw; (try dsimp only at hSw); obtain ⟨s0, s1, s2x, s3, s4, s5, s6, s7⟩ := hSw; go_simp; try with_reducible rfl)
            refine wpAnyL_one (i := 6) (by kernel_rfl) rfl (fun K hK => ?_)
            go_simp
            refine (unhide HCON).mono ?_
            rintro e w5 hst
            have HST : Hid (Stepped (fun b => wr.heap.size ≤ b ∧ b ≠ xq ∧ b ≠ ga) s2 gb cb wc (.returned (slotAgg s2 (gridV gb cb s2.rows))) w5) := hide (by obtain ⟨rfl, k1, k2, k3, k4⟩ := hst; exact ⟨rfl, k1, k2, k3, fun B w0 hb h1 h2 => k4 B w0 hb.drew h1 h2⟩)
            obtain ⟨rfl, -, -⟩ := hst
            obtain ⟨-, -, hoth, hsz, hbel⟩ := unhide HST
            have hxq : xq < wc.heap.size := (unhide HX).row.lt
            have hgx : wr.heap.size ≤ gb := (unhide HX).b.own.1
            have hxg : xq ≠ gb := fun e => (unhide HX).b.own.2.1 e.symm
            have hbb : b < wr.heap.size := by have := unhide HBW1; omega
            have hkeep : ∀ blk, blk = xq ∨ blk = b → w5.heap[blk]? = wc.heap[blk]? := fun blk h => by
              rcases h with rfl | rfl
              · exact hoth _ hxq hxg
              · exact hoth _ (by omega) (by omega)
            (try go_simp)
            refine held_on hK ?_ (fun hHeld => ?_)
            · exact (unhide HT) _ hkeep
            clear hK K
            have hrow5 := (unhide HX).row.of_block (hkeep xq (Or.inl rfl))
            have i0 : w5.cell? ⟨xq, 3, none⟩ = some (.int .i64 dk.b.num) := hrow5.cell (i := 3) (by omega)
            have i1 : w5.cell? ⟨xq, 4, none⟩ = some (.int .i64 dk.b.cnt) := hrow5.cell (i := 4) (by omega)
            have i2 : w5.cell? ⟨xq, 5, none⟩ = some (.slice (some ⟨gb, 0, none⟩) dk.b.rows.length cb) := hrow5.cell (i := 5) (by omega)
            have f0 := hrow5.frozen 3
            have f1 := hrow5.frozen 4
            have f2 := hrow5.frozen 5
            obtain ⟨f9, hx6⟩ := (unhide HX).setB (unhide HST)
            have HX6 := hide hx6
            have HB6 := hide (setVals_below (b := xq) [.int .i64 s2.num, .int .i64 s2.cnt, gridV gb cb s2.rows] 3 w5 (hbel _ _ (unhide HBR) hgx hrs) (by have := (unhide HX).lo; omega))
            clear hrow5 hx6 hoth hsz hbel hkeep
            refine wpAnyL_one (i := 7) (by kernel_rfl) rfl (fun K hK => ?_)
            go_simp
            refine held_on hK ?_ (fun hHeld => ?_)
            · exact hHeld
            clear hK K
            refine wpAnyL_end (by kernel_rfl) rfl (fun K hK => ?_)
            go_simp
            refine hK.out _ _ ?_
            clear hK K
            refine wpAnyL_done (by kernel_rfl) ?_ _
            go_upto_region 11 with fail
            change Code.wp _ _ _ _ (setVals w5 xq 3 [.int .i64 s2.num, .int .i64 s2.cnt, gridV gb cb s2.rows])
            clear i0 i1 i2 f0 f1 f2 q0 q1 q2 q3 q4
            generalize setVals w5 xq 3 [.int .i64 s2.num, .int .i64 s2.cnt, gridV gb cb s2.rows] = W6 at *
            have m0 : W6.cell? ⟨xq, 0, none⟩ = some (.int .i64 dk.a.num) := (unhide HX6).cells 0 (by simp)
            have m1 : W6.cell? ⟨xq, 1, none⟩ = some (.int .i64 dk.a.cnt) := (unhide HX6).cells 1 (by simp)
            have m2 : W6.cell? ⟨xq, 2, none⟩ = some (.slice (some ⟨ga, 0, none⟩) dk.a.rows.length ca) := (unhide HX6).cells 2 (by simp)
            have m3 : W6.cell? ⟨xq, 3, none⟩ = some (.int .i64 s2.num) := (unhide HX6).cells 3 (by simp)
            have m4 : W6.cell? ⟨xq, 4, none⟩ = some (.int .i64 s2.cnt) := (unhide HX6).cells 4 (by simp)
            have m5 : W6.cell? ⟨xq, 5, none⟩ = some (.slice (some ⟨gb, 0, none⟩) s2.rows.length cb) := (unhide HX6).cells 5 (by simp)
            go_wp2_with fail
            clear m0 m1 m2 m3 m4 m5
            refine (specSlotOk_any ⟨dk.a, s2⟩ _ _ W6 (unhide HX6).at).mono ?_
            rintro e w7 ⟨rfl, hb7⟩
            have HX7 := hide ((unhide HX6).keep (fun b _ hl => hb7.block b hl))
            have HB7 := hide (below_then (unhide HB6) hb7)
            have HSD : Hid (stepD dk ⟨true, sct, num, cnt, data⟩ = ⟨dk.a, s2⟩) := hide (by rw [unhide HS2]; rfl)
            clear hb7
            cases hok2 : diskOk ⟨dk.a, s2⟩
            · have HEQ : Hid (stepsDo d (es.take (k + 1)) = dk) := hide (by rw [unhide HSN]; unfold stepDo; rw [unhide HSD, hok2]; rfl)
              go_wp2_with fail
              go_roundw
              case rel => exact ⟨k + 1, by omega, by go_num, by rw [unhide HEQ]; exact hide ((unhide HXD).keep (unhide HB7)), hide ((unhide HBW).trans ((unhide HB7).mono hbw))⟩
              case measure => (simp [intOf]; try omega)
            · have HEQ : Hid (stepsDo d (es.take (k + 1)) = ⟨dk.a, s2⟩) := hide (by rw [unhide HSN]; unfold stepDo; rw [unhide HSD, hok2]; rfl)
              have hro := (unhide HXDk).row.of_block ((unhide HB7).block oq hoq)
              have m0 : w7.cell? ⟨xq, 0, none⟩ = some (.int .i64 dk.a.num) := (unhide HX7).cells 0 (by simp)
              have m1 : w7.cell? ⟨xq, 1, none⟩ = some (.int .i64 dk.a.cnt) := (unhide HX7).cells 1 (by simp)
              have m2 : w7.cell? ⟨xq, 2, none⟩ = some (.slice (some ⟨ga, 0, none⟩) dk.a.rows.length ca) := (unhide HX7).cells 2 (by simp)
              have m3 : w7.cell? ⟨xq, 3, none⟩ = some (.int .i64 s2.num) := (unhide HX7).cells 3 (by simp)
              have m4 : w7.cell? ⟨xq, 4, none⟩ = some (.int .i64 s2.cnt) := (unhide HX7).cells 4 (by simp)
              have m5 : w7.cell? ⟨xq, 5, none⟩ = some (.slice (some ⟨gb, 0, none⟩) s2.rows.length cb) := (unhide HX7).cells 5 (by simp)
              have e0 : w7.cell? ⟨oq, 0, none⟩ = some (.int .i64 dk.a.num) := hro.cell (i := 0) (by omega)
              have z0 := hro.frozen 0
              have e1 : w7.cell? ⟨oq, 1, none⟩ = some (.int .i64 dk.a.cnt) := hro.cell (i := 1) (by omega)
              have z1 := hro.frozen 1
              have e2 : w7.cell? ⟨oq, 2, none⟩ = some (.slice (some ⟨xa, 0, none⟩) dk.a.rows.length xca) := hro.cell (i := 2) (by omega)
              have z2 := hro.frozen 2
              have e3 : w7.cell? ⟨oq, 3, none⟩ = some (.int .i64 dk.b.num) := hro.cell (i := 3) (by omega)
              have z3 := hro.frozen 3
              have e4 : w7.cell? ⟨oq, 4, none⟩ = some (.int .i64 dk.b.cnt) := hro.cell (i := 4) (by omega)
              have z4 := hro.frozen 4
              have e5 : w7.cell? ⟨oq, 5, none⟩ = some (.slice (some ⟨xb, 0, none⟩) dk.b.rows.length xcb) := hro.cell (i := 5) (by omega)
              have z5 := hro.frozen 5
              have HM := hide ((unhide HX7).move (B := w1.heap.size) hro hbw hoq hoq1)
              have HBM := hide (setVals_below (b := oq) (diskCells ⟨dk.a, s2⟩ (gridV ga ca (DiskV.a ⟨dk.a, s2⟩).rows) (gridV gb cb (DiskV.b ⟨dk.a, s2⟩).rows)) 0 w7 ((unhide HBW).trans ((unhide HB7).mono hbw)) hoq1)
              clear hro
              go_wp2_with fail
              go_roundw
              case rel => exact ⟨k + 1, by omega, by go_num, by rw [unhide HEQ]; exact HM, HBM⟩
              case measure => (simp [intOf]; try omega)
      · have hkn : k = n := by omega
        by_cases hlx : k < es.length
        · have hkI : (k : Int) < (es.length : Int) := by omega
          have hkM : ¬ ((k : Int) < most) := by have := (unhide HNX) (by omega); omega
          clear hlt
          obtain ⟨dn, hdn⟩ : ∃ x, x = stepsDo d (es.take k) := ⟨_, rfl⟩
          rw [← hdn] at HXD
          obtain ⟨xa, xca, xfa, xb, xcb, xfb, hxd⟩ := unhide HXD
          have hrr := (unhide R1).of_block ((unhide HBW).block (w.heap.size + 1) (unhide R1).lt)
          have hszz := unhide HSZ1
          have g0 : wr.cell? ⟨oq, 0, none⟩ = some (.int .i64 dn.a.num) := hxd.cells 0 (by simp)
          have g1 : wr.cell? ⟨oq, 1, none⟩ = some (.int .i64 dn.a.cnt) := hxd.cells 1 (by simp)
          have g2 : wr.cell? ⟨oq, 2, none⟩ = some (.slice (some ⟨xa, 0, none⟩) dn.a.rows.length xca) := hxd.cells 2 (by simp)
          have g3 : wr.cell? ⟨oq, 3, none⟩ = some (.int .i64 dn.b.num) := hxd.cells 3 (by simp)
          have g4 : wr.cell? ⟨oq, 4, none⟩ = some (.int .i64 dn.b.cnt) := hxd.cells 4 (by simp)
          have g5 : wr.cell? ⟨oq, 5, none⟩ = some (.slice (some ⟨xb, 0, none⟩) dn.b.rows.length xcb) := hxd.cells 5 (by simp)
          have HFIN : Hid (SlotDoneS (slotDoD d es most) w (.returned (diskAgg dn (gridV xa xca dn.a.rows) (gridV xb xcb dn.b.rows))) (setVals wr (w.heap.size + 1) 0 [.int .i64 dn.a.num, .int .i64 dn.a.cnt, .slice (some ⟨xa, 0, none⟩) dn.a.rows.length xca, .int .i64 dn.b.num, .int .i64 dn.b.cnt, .slice (some ⟨xb, 0, none⟩) dn.b.rows.length xcb])) := hide (by
            rw [show slotDoD d es most = dn by rw [hdn, hkn, unhide HNE]; simp only [slotDoD, unhide HOK, if_true]]
            have ho : ∀ b, b ≠ w.heap.size + 1 → (setVals wr (w.heap.size + 1) 0 [.int .i64 dn.a.num, .int .i64 dn.a.cnt, .slice (some ⟨xa, 0, none⟩) dn.a.rows.length xca, .int .i64 dn.b.num, .int .i64 dn.b.cnt, .slice (some ⟨xb, 0, none⟩) dn.b.rows.length xcb]).heap[b]? = wr.heap[b]? := fun b hb => setVals_other _ _ _ b hb
            exact ⟨_, _, rfl, ⟨(hxd.a.keep (fun b hb _ => ho b (by have := hb.1; omega))).at, (hxd.b.keep (fun b hb _ => ho b (by have := hb.1; omega))).at⟩, setVals_below _ 0 wr (below_then (unhide HB1) (unhide HBW)) (by omega)⟩)
          clear hxd hdn HXD hkn
          have e0 : wr.cell? ⟨w.heap.size + 1, 0, none⟩ = some (.int .i64 0) := hrr.cell (i := 0) (by omega)
          have z0 := hrr.frozen 0
          have e1 : wr.cell? ⟨w.heap.size + 1, 1, none⟩ = some (.int .i64 0) := hrr.cell (i := 1) (by omega)
          have z1 := hrr.frozen 1
          have e2 : wr.cell? ⟨w.heap.size + 1, 2, none⟩ = some (.slice none 0 0) := hrr.cell (i := 2) (by omega)
          have z2 := hrr.frozen 2
          have e3 : wr.cell? ⟨w.heap.size + 1, 3, none⟩ = some (.int .i64 0) := hrr.cell (i := 3) (by omega)
          have z3 := hrr.frozen 3
          have e4 : wr.cell? ⟨w.heap.size + 1, 4, none⟩ = some (.int .i64 0) := hrr.cell (i := 4) (by omega)
          have z4 := hrr.frozen 4
          have e5 : wr.cell? ⟨w.heap.size + 1, 5, none⟩ = some (.slice none 0 0) := hrr.cell (i := 5) (by omega)
          have z5 := hrr.frozen 5
          have hrow := setVals_row [.int .i64 dn.a.num, .int .i64 dn.a.cnt, .slice (some ⟨xa, 0, none⟩) dn.a.rows.length xca, .int .i64 dn.b.num, .int .i64 dn.b.cnt, .slice (some ⟨xb, 0, none⟩) dn.b.rows.length xcb] 0 wr _ hrr
          have y0 := hrow.cell (i := 0) (by simp)
          have y1 := hrow.cell (i := 1) (by simp)
          have y2 := hrow.cell (i := 2) (by simp)
          have y3 := hrow.cell (i := 3) (by simp)
          have y4 := hrow.cell (i := 4) (by simp)
          have y5 := hrow.cell (i := 5) (by simp)
          simp at y0 y1 y2 y3 y4 y5
          have Y0 := hide y0
          have Y1 := hide y1
          have Y2 := hide y2
          have Y3 := hide y3
          have Y4 := hide y4
          have Y5 := hide y5
          clear y0 y1 y2 y3 y4 y5 hrow hrr
          go_wp2_with fail
          show bodyPost _ _ _ _ _ (setVals wr (w.heap.size + 1) 0 [.int .i64 dn.a.num, .int .i64 dn.a.cnt, .slice (some ⟨xa, 0, none⟩) dn.a.rows.length xca, .int .i64 dn.b.num, .int .i64 dn.b.cnt, .slice (some ⟨xb, 0, none⟩) dn.b.rows.length xcb])
          clear e0 e1 e2 e3 e4 e5 z0 z1 z2 z3 z4 z5
          generalize setVals wr (w.heap.size + 1) 0 [.int .i64 dn.a.num, .int .i64 dn.a.cnt, .slice (some ⟨xa, 0, none⟩) dn.a.rows.length xca, .int .i64 dn.b.num, .int .i64 dn.b.cnt, .slice (some ⟨xb, 0, none⟩) dn.b.rows.length xcb] = W9 at *
          have y0 := unhide Y0
          have y1 := unhide Y1
          have y2 := unhide Y2
          have y3 := unhide Y3
          have y4 := unhide Y4
          have y5 := unhide Y5
          exact bodyPost_ret (v := diskAgg dn (gridV xa xca dn.a.rows) (gridV xb xcb dn.b.rows)) (by simp [results, Try.results39, go_sem, y0, y1, y2, y3, y4, y5]) rfl (unhide HFIN)
        · have hkI : ¬ ((k : Int) < (es.length : Int)) := by omega
          clear hlt hlx
          obtain ⟨dn, hdn⟩ : ∃ x, x = stepsDo d (es.take k) := ⟨_, rfl⟩
          rw [← hdn] at HXD
          obtain ⟨xa, xca, xfa, xb, xcb, xfb, hxd⟩ := unhide HXD
          have hrr := (unhide R1).of_block ((unhide HBW).block (w.heap.size + 1) (unhide R1).lt)
          have hszz := unhide HSZ1
          have g0 : wr.cell? ⟨oq, 0, none⟩ = some (.int .i64 dn.a.num) := hxd.cells 0 (by simp)
          have g1 : wr.cell? ⟨oq, 1, none⟩ = some (.int .i64 dn.a.cnt) := hxd.cells 1 (by simp)
          have g2 : wr.cell? ⟨oq, 2, none⟩ = some (.slice (some ⟨xa, 0, none⟩) dn.a.rows.length xca) := hxd.cells 2 (by simp)
          have g3 : wr.cell? ⟨oq, 3, none⟩ = some (.int .i64 dn.b.num) := hxd.cells 3 (by simp)
          have g4 : wr.cell? ⟨oq, 4, none⟩ = some (.int .i64 dn.b.cnt) := hxd.cells 4 (by simp)
          have g5 : wr.cell? ⟨oq, 5, none⟩ = some (.slice (some ⟨xb, 0, none⟩) dn.b.rows.length xcb) := hxd.cells 5 (by simp)
          have HFIN : Hid (SlotDoneS (slotDoD d es most) w (.returned (diskAgg dn (gridV xa xca dn.a.rows) (gridV xb xcb dn.b.rows))) (setVals wr (w.heap.size + 1) 0 [.int .i64 dn.a.num, .int .i64 dn.a.cnt, .slice (some ⟨xa, 0, none⟩) dn.a.rows.length xca, .int .i64 dn.b.num, .int .i64 dn.b.cnt, .slice (some ⟨xb, 0, none⟩) dn.b.rows.length xcb])) := hide (by
            rw [show slotDoD d es most = dn by rw [hdn, hkn, unhide HNE]; simp only [slotDoD, unhide HOK, if_true]]
            have ho : ∀ b, b ≠ w.heap.size + 1 → (setVals wr (w.heap.size + 1) 0 [.int .i64 dn.a.num, .int .i64 dn.a.cnt, .slice (some ⟨xa, 0, none⟩) dn.a.rows.length xca, .int .i64 dn.b.num, .int .i64 dn.b.cnt, .slice (some ⟨xb, 0, none⟩) dn.b.rows.length xcb]).heap[b]? = wr.heap[b]? := fun b hb => setVals_other _ _ _ b hb
            exact ⟨_, _, rfl, ⟨(hxd.a.keep (fun b hb _ => ho b (by have := hb.1; omega))).at, (hxd.b.keep (fun b hb _ => ho b (by have := hb.1; omega))).at⟩, setVals_below _ 0 wr (below_then (unhide HB1) (unhide HBW)) (by omega)⟩)
          clear hxd hdn HXD hkn
          have e0 : wr.cell? ⟨w.heap.size + 1, 0, none⟩ = some (.int .i64 0) := hrr.cell (i := 0) (by omega)
          have z0 := hrr.frozen 0
          have e1 : wr.cell? ⟨w.heap.size + 1, 1, none⟩ = some (.int .i64 0) := hrr.cell (i := 1) (by omega)
          have z1 := hrr.frozen 1
          have e2 : wr.cell? ⟨w.heap.size + 1, 2, none⟩ = some (.slice none 0 0) := hrr.cell (i := 2) (by omega)
          have z2 := hrr.frozen 2
          have e3 : wr.cell? ⟨w.heap.size + 1, 3, none⟩ = some (.int .i64 0) := hrr.cell (i := 3) (by omega)
          have z3 := hrr.frozen 3
          have e4 : wr.cell? ⟨w.heap.size + 1, 4, none⟩ = some (.int .i64 0) := hrr.cell (i := 4) (by omega)
          have z4 := hrr.frozen 4
          have e5 : wr.cell? ⟨w.heap.size + 1, 5, none⟩ = some (.slice none 0 0) := hrr.cell (i := 5) (by omega)
          have z5 := hrr.frozen 5
          have hrow := setVals_row [.int .i64 dn.a.num, .int .i64 dn.a.cnt, .slice (some ⟨xa, 0, none⟩) dn.a.rows.length xca, .int .i64 dn.b.num, .int .i64 dn.b.cnt, .slice (some ⟨xb, 0, none⟩) dn.b.rows.length xcb] 0 wr _ hrr
          have y0 := hrow.cell (i := 0) (by simp)
          have y1 := hrow.cell (i := 1) (by simp)
          have y2 := hrow.cell (i := 2) (by simp)
          have y3 := hrow.cell (i := 3) (by simp)
          have y4 := hrow.cell (i := 4) (by simp)
          have y5 := hrow.cell (i := 5) (by simp)
          simp at y0 y1 y2 y3 y4 y5
          have Y0 := hide y0
          have Y1 := hide y1
          have Y2 := hide y2
          have Y3 := hide y3
          have Y4 := hide y4
          have Y5 := hide y5
          clear y0 y1 y2 y3 y4 y5 hrow hrr
          go_wp2_with fail
          show bodyPost _ _ _ _ _ (setVals wr (w.heap.size + 1) 0 [.int .i64 dn.a.num, .int .i64 dn.a.cnt, .slice (some ⟨xa, 0, none⟩) dn.a.rows.length xca, .int .i64 dn.b.num, .int .i64 dn.b.cnt, .slice (some ⟨xb, 0, none⟩) dn.b.rows.length xcb])
          clear e0 e1 e2 e3 e4 e5 z0 z1 z2 z3 z4 z5
          generalize setVals wr (w.heap.size + 1) 0 [.int .i64 dn.a.num, .int .i64 dn.a.cnt, .slice (some ⟨xa, 0, none⟩) dn.a.rows.length xca, .int .i64 dn.b.num, .int .i64 dn.b.cnt, .slice (some ⟨xb, 0, none⟩) dn.b.rows.length xcb] = W9 at *
          have y0 := unhide Y0
          have y1 := unhide Y1
          have y2 := unhide Y2
          have y3 := unhide Y3
          have y4 := unhide Y4
          have y5 := unhide Y5
          exact bodyPost_ret (v := diskAgg dn (gridV xa xca dn.a.rows) (gridV xb xcb dn.b.rows)) (by simp [results, Try.results39, go_sem, y0, y1, y2, y3, y4, y5]) rfl (unhide HFIN)
end Go.Proofs.Ytocgfngcgekciaa
