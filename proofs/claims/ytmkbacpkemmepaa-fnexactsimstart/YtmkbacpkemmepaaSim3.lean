/- SimStart of impl. -/
import Derived.Test.YtmkbacpkemmepaaSim2
namespace Go.Proofs.Ytmkbacpkemmepaa
open Go.RowKit
set_option linter.unusedVariables false
set_option linter.unusedSimpArgs false

set_option maxRecDepth 100000 in
set_option maxHeartbeats 1000000 in
theorem implSimStart_any (w : World) :
    Calls Try.prog 23 #[] w fun e w' => ∃ vs vq, e = .returned (.agg #[vs, vq, .slice none 0 0]) ∧ SimFr w.heap.size w' vs vq (.slice none 0 0) ((zeros 4).map stRow) ((firsts 4).map evRow) [] ∧ Below w.heap.size w w' := by
  obtain ⟨i7, hi7, hz70, hz71, hz72⟩ := info_parts infoT_Event
  have hmk : ∀ w : World, (Instr.makeSlice 42 (.int .i64 4) (.int .i64 4)).run Try.prog w = .ok (.slice (some ⟨w.heap.size, 0, none⟩) 4 4) (w.alloc (.cells (madeCells #[.int .i64 0, .int .i64 0, .int .i64 0] 12) 77)) := fun w => run_make_n (P := Try.prog) 42 77 _ 3 24 slice_StateT infoT_State 4 (by omega) (by omega) w
  have hb0 : Below w.heap.size w (((w.alloc (.cells #[.slice none 0 0, .slice none 0 0, .slice none 0 0] 45)).alloc (.cells (madeCells #[.int .i64 0, .int .i64 0, .int .i64 0] 12) 77)).alloc (.cells #[.slice (some ⟨w.heap.size + 1, 0, none⟩) 4 4, .slice none 0 0, .slice none 0 0] 45)) := (((Below.refl _ _).alloc (Nat.le_refl _) _).alloc (by simp) _).alloc (by simp; omega) _
  have hmade : (w.alloc (.cells #[.slice none 0 0, .slice none 0 0, .slice none 0 0] 45)).heap.size = w.heap.size + 1 := by simp
  have hown : (((w.alloc (.cells #[.slice none 0 0, .slice none 0 0, .slice none 0 0] 45)).alloc (.cells (madeCells #[.int .i64 0, .int .i64 0, .int .i64 0] 12) 77)).alloc (.cells #[.slice (some ⟨w.heap.size + 1, 0, none⟩) 4 4, .slice none 0 0, .slice none 0 0] 45)).ownsRow (w.heap.size + 1) 77 3 (.slice (some ⟨w.heap.size + 1, 0, none⟩) 4 4) (zeros 4).length (stsCells (zeros 4)) := by
    refine ⟨rfl, Or.inr ⟨w.heap.size + 1, 4, madeCells #[.int .i64 0, .int .i64 0, .int .i64 0] 12, rfl, Nat.le_refl _, ?_, Nat.le_refl _, by simp [maxLen], by simp [madeCells], by kernel_rfl⟩⟩
    have h := heap_alloc_new (w.alloc (.cells #[.slice none 0 0, .slice none 0 0, .slice none 0 0] 45)) (.cells (madeCells #[.int .i64 0, .int .i64 0, .int .i64 0] 12) 77)
    rw [hmade] at h
    exact (((Below.refl _ _).alloc (Nat.le_refl _) _).block (w.heap.size + 1) (by simp)).trans h
  have hm0 : SimMem (w.heap.size + 1) (w.heap.size + 2) (((w.alloc (.cells #[.slice none 0 0, .slice none 0 0, .slice none 0 0] 45)).alloc (.cells (madeCells #[.int .i64 0, .int .i64 0, .int .i64 0] 12) 77)).alloc (.cells #[.slice (some ⟨w.heap.size + 1, 0, none⟩) 4 4, .slice none 0 0, .slice none 0 0] 45)) (.slice (some ⟨w.heap.size + 1, 0, none⟩) 4 4) (.slice none 0 0) (zeros 4) (firsts 0) :=
    ⟨by simp [go_sem], by simp [go_sem], by simp [go_sem], fun i => by simp [go_sem], hown, World.ownsRow_nil _ _ _ _, ne_turn (Or.inl rfl), by simp [Value.ownBlock], by simp [Value.ownBlock], by omega⟩
  have r0 : ∀ i, i < 3 → (((w.alloc (.cells #[.slice none 0 0, .slice none 0 0, .slice none 0 0] 45)).alloc (.cells (madeCells #[.int .i64 0, .int .i64 0, .int .i64 0] 12) 77)).alloc (.cells #[.slice (some ⟨w.heap.size + 1, 0, none⟩) 4 4, .slice none 0 0, .slice none 0 0] 45)).cell? ⟨w.heap.size, i, none⟩ = some (.slice none 0 0) := fun i hi => by
    match i, hi with
    | 0, _ => simp [go_sem]
    | 1, _ => simp [go_sem]
    | 2, _ => simp [go_sem]
  have rf : ∀ i, (((w.alloc (.cells #[.slice none 0 0, .slice none 0 0, .slice none 0 0] 45)).alloc (.cells (madeCells #[.int .i64 0, .int .i64 0, .int .i64 0] 12) 77)).alloc (.cells #[.slice (some ⟨w.heap.size + 1, 0, none⟩) 4 4, .slice none 0 0, .slice none 0 0] 45)).frozen? ⟨w.heap.size, i, none⟩ = false := fun i => by simp [go_sem]
  have HM0 := hide hm0
  have HB0 := hide hb0
  have R0 := hide r0
  have RF := hide rf
  clear hm0 hb0 r0 rf hmade hown
  go_enter Try.func23, Try.ntmps23
  go_wp2_with fail
  clear hmk
  generalize (((w.alloc (.cells #[.slice none 0 0, .slice none 0 0, .slice none 0 0] 45)).alloc (.cells (madeCells #[.int .i64 0, .int .i64 0, .int .i64 0] 12) 77)).alloc (.cells #[.slice (some ⟨w.heap.size + 1, 0, none⟩) 4 4, .slice none 0 0, .slice none 0 0] 45)) = W1 at *
  go_loopw [5] (fun i wr => ∃ (k : Nat) (vs vq : Value), k ≤ 4 ∧ i = .int .i64 k ∧ Hid (SimMem (w.heap.size + 1) (w.heap.size + 2) wr vs vq (zeros 4) (firsts k)) ∧ Hid (Below (w.heap.size + 1) W1 wr)) (fun i _ => 4 - (intOf i).toNat)
  case atStart => exact ⟨0, _, _, Nat.zero_le _, rfl, hide (unhide HM0), hide (Below.refl _ _)⟩
  case round =>
    obtain ⟨k, vs, vq, hk, rfl, HM, HB⟩ := hrel
    by_cases hlt : k < 4
    · have hkI : (k : Int) < 4 := by omega
      have hk0 : (0 : Int) ≤ (k : Int) := by omega
      have hm := unhide HM
      obtain ⟨qa, qc, hvq⟩ : ∃ a c, vq = .slice a k c := by
        obtain ⟨_, ⟨h, hn⟩ | ⟨g, cap, _, h, _⟩⟩ := hm.oq
        · rw [firsts_len] at hn; exact ⟨none, 0, by rw [h, hn]⟩
        · rw [firsts_len] at h; exact ⟨_, _, h⟩
      subst hvq
      clear hm
      have HM5 := HM
      have HB5 := HB
      have hm := unhide HM5
      have c1 := hm.c1
      have hq : w.heap.size + 2 < wr.heap.size := World.block_lt_of_cell? wr ⟨w.heap.size + 2, 0, none⟩ hm.c0
      have hnq := hm.nq
      have hoq := hm.oq
      rw [firsts_len] at hoq
      have HOQ := hide hoq
      have hfz := hm.fz 1
      clear hm hoq
      go_upto_region 5 with fail
      refine wp_region_last (L := 7) (S := fun w' : World => w'.cell? ⟨w.heap.size + 2, 1, none⟩ = some (.slice qa k qc)) (by kernel_rfl) ?_
      have hHeld : (fun w' : World => w'.cell? ⟨w.heap.size + 2, 1, none⟩ = some (.slice qa k qc)) (World.drew wr) := c1
      refine wpAnyL_take (i := 0) (v := ?_) (by kernel_rfl) rfl (by kernel_rfl) (by kernel_rfl) (by kernel_rfl) (fun _ _ _ h => h) hHeld (Or.inl ⟨by kernel_rfl, ?_⟩) ?_
      rotate_left
      · (intro w hSw; (try dsimp only at hSw); go_simp; try with_reducible rfl)
      refine wpAnyL_take (i := 1) (v := ?_) (by kernel_rfl) rfl (by kernel_rfl) (by kernel_rfl) (by kernel_rfl) (fun _ _ _ h => h) hHeld (Or.inl ⟨by kernel_rfl, ?_⟩) ?_
      rotate_left
      · (intro w hSw; (try dsimp only at hSw); go_simp; try with_reducible rfl)
      refine wpAnyL_take (i := 2) (v := ?_) (by kernel_rfl) rfl (by kernel_rfl) (by kernel_rfl) (by kernel_rfl) (fun _ _ _ h => h) hHeld (Or.inl ⟨by kernel_rfl, ?_⟩) ?_
      rotate_left
      · (intro w hSw; (try dsimp only at hSw); go_simp; try with_reducible rfl)
      refine wpAnyL_one (i := 3) (by kernel_rfl) rfl (fun K hK => ?_)
      go_simp
      refine (implAppFirst_in (k : Int) hk0 (by omega) _).mono ?_
      rintro e w6 ⟨rfl, hb6⟩
      go_wp2_with fail
      refine held_on hK ?_ (fun hHeld => ?_)
      · exact cell_on hb6 hHeld
      clear hK K
      have hb56 : Below wr.heap.size wr w6 := below_then (Below.refl _ _).drew hb6
      refine wpAnyL_one (i := 4) (by kernel_rfl) rfl (fun K hK => ?_)
      go_simp
      have hbA : Below wr.heap.size wr (w6.alloc (.cells (firstVals k) 24)) := below_then hb56 ((Below.refl _ _).alloc (Nat.le_refl _) _)
      refine held_on hK ?_ (fun hHeld => ?_)
      · exact cell_on hbA c1
      clear hK K
      have hownA : (w6.alloc (.cells (firstVals k) 24)).ownsRow (w.heap.size + 1) 24 7 (.slice qa k qc) k (evsCells (firsts k)) := ownsRow_on hbA (unhide HOQ)
      have hs6 : wr.heap.size ≤ w6.heap.size := hb56.size
      refine wpAnyL_one (i := 5) (by kernel_rfl) rfl (fun K hK => ?_)
      refine step_append_lies _ (by rfl) _ _ _ (by rfl) (w.heap.size + 1) 24 i7 _ 7 56 slice_EventT hi7 hz70 hz71 hz72 (by rfl) (by omega) (.slice qa k qc) k (evsCells (firsts k)) (by rfl) hownA ⟨w6.heap.size, 0, none⟩ 1 1 [.int .i64 0, .int .i64 k, .int .i64 (-1), .int .i64 0, .int .i64 k, .int .i64 0, .int .i64 k] (by rfl) (by rfl) (World.news_of_block (cs := firstVals k) (t := 24) (fr := (0, 0)) (heap_alloc_new w6 _)) (by simp [Value.oneCell']) (by omega) (by unfold maxLen; omega) (by omega) (by simp; omega) (w6.heap.size + 1) (by simp) ?_
      intro g2 cap2 w7 hown7 hgrow7 hat7 hlt7
      have hs7 := sim_queue (x := firstEv k) (unhide HM5) hbA hgrow7 (by rw [firsts_len]; exact hown7) (by rcases hat7 with h | h <;> simp [h])
      rw [firsts_len, ← firsts_more] at hs7
      have kc := hgrow7.cell (cell_on hbA c1) (fun e => hnq e.symm)
      have kf : w7.frozen? ⟨w.heap.size + 2, 1, none⟩ = false := by (rw [hgrow7.frozen_far ⟨w.heap.size + 2, 1, none⟩ (show w.heap.size + 2 < _ by simp; omega) (fun e => hnq e.symm), hbA.frozen (p := ⟨w.heap.size + 2, 1, none⟩) hq]; exact hfz)
      have HM7 := hide hs7.1
      have HB7 := hide ((unhide HB5).trans hs7.2)
      clear hs7 hown7 hat7 hlt7 hgrow7
      refine held_on hK ?_ (fun hHeld => ?_)
      · exact kc
      clear hK K
      refine wpAnyL_one (i := 6) (by kernel_rfl) rfl (fun K hK => ?_)
      go_simp
      refine held_on hK ?_ (fun hHeld => ?_)
      · exact hHeld
      clear hK K
      refine wpAnyL_end (by kernel_rfl) rfl (fun K hK => ?_)
      go_simp
      refine hK.out _ _ ?_
      clear hK K
      refine wpAnyL_done (by kernel_rfl) ?_ _
      go_wp2_with fail
      go_roundw
      case rel => exact ⟨k + 1, _, _, by omega, by go_num, HM7, HB7⟩
      case measure => simp [intOf]; omega
    · have hke : k = 4 := by omega
      subst hke
      have hm := unhide HM
      obtain ⟨sa, sc, hvs⟩ : ∃ a c, vs = .slice a 4 c := by
        obtain ⟨_, ⟨h, hn⟩ | ⟨g, cap, _, h, _⟩⟩ := hm.os
        · rw [zeros_len] at hn; omega
        · rw [zeros_len] at h; exact ⟨_, _, h⟩
      obtain ⟨qa, qc, hvq⟩ : ∃ a c, vq = .slice a 4 c := by
        obtain ⟨_, ⟨h, hn⟩ | ⟨g, cap, _, h, _⟩⟩ := hm.oq
        · rw [firsts_len] at hn; omega
        · rw [firsts_len] at h; exact ⟨_, _, h⟩
      subst hvs hvq
      obtain ⟨c0, c1, c2, _, _, _, _, _, _, _⟩ := hm
      have g0 := ((unhide HB).cell (p := ⟨w.heap.size, 0, none⟩) (show w.heap.size < w.heap.size + 1 by omega)).trans ((unhide R0) 0 (by omega))
      have g1 := ((unhide HB).cell (p := ⟨w.heap.size, 1, none⟩) (show w.heap.size < w.heap.size + 1 by omega)).trans ((unhide R0) 1 (by omega))
      have g2 := ((unhide HB).cell (p := ⟨w.heap.size, 2, none⟩) (show w.heap.size < w.heap.size + 1 by omega)).trans ((unhide R0) 2 (by omega))
      have gf : ∀ i, wr.frozen? ⟨w.heap.size, i, none⟩ = false := fun i => ((unhide HB).frozen (p := ⟨w.heap.size, i, none⟩) (show w.heap.size < w.heap.size + 1 by omega)).trans ((unhide RF) i)
      have HEND := hide (fun a b c => sim_ends (r := w.heap.size) (N := w.heap.size) (unhide HM) (by omega) (by omega) a b c)
      have HBF := hide ((unhide HB0).trans ((unhide HB).mono (show w.heap.size ≤ w.heap.size + 1 by omega)))
      have hsz : ¬ w.heap.size = w.heap.size + 2 := by omega
      have hsz2 : ¬ w.heap.size + 2 = w.heap.size := by omega
      go_wp2_with fail
      refine bodyPost_ret (v := .agg #[.slice sa 4 sc, .slice qa 4 qc, .slice none 0 0]) (by simp [results, Try.results23, go_sem, g0, g1, g2]) rfl ⟨_, _, rfl, (unhide HEND) _ _ _, ?_⟩
      exact (((unhide HBF).setCell (show w.heap.size ≤ w.heap.size from Nat.le_refl _) _).setCell (show w.heap.size ≤ w.heap.size from Nat.le_refl _) _).setCell (show w.heap.size ≤ w.heap.size from Nat.le_refl _) _
end Go.Proofs.Ytmkbacpkemmepaa
