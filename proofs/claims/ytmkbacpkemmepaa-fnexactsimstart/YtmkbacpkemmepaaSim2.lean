/- SimStart of spec and of impl. -/
import Derived.Test.YtmkbacpkemmepaaSim1
import Derived.Deep.Cut
namespace Go.Proofs.Ytmkbacpkemmepaa
open Go.RowKit
set_option linter.unusedVariables false
set_option linter.unusedSimpArgs false

def firstEv (p : Int) : EvV := ⟨0, p, -1, 0, p, 0, p⟩
abbrev firstVals (p : Int) : Array Value := #[.int .i64 0, .int .i64 p, .int .i64 (-1), .int .i64 0, .int .i64 p, .int .i64 0, .int .i64 p]
def firsts (k : Nat) : List EvV := (List.range k).map fun i : Nat => firstEv i
def zeros (k : Nat) : List StV := List.replicate k ⟨0, 0, 0⟩

theorem firsts_more (k : Nat) : firsts (k + 1) = firsts k ++ [firstEv k] := by simp [firsts, List.range_succ]
theorem zeros_more (k : Nat) : zeros (k + 1) = zeros k ++ [⟨0, 0, 0⟩] := by simp [zeros, List.replicate_succ']
theorem firsts_len (k : Nat) : (firsts k).length = k := by simp [firsts]
theorem zeros_len (k : Nat) : (zeros k).length = k := by simp [zeros]

def stRow (s : StV) : List Int := [s.x, s.y, s.c]

theorem evs_flat (l : List EvV) : evsCells l = flatCells (l.map evRow) := by
  unfold evsCells flatCells
  induction l with
  | nil => rfl
  | cons a t ih => simp only [List.flatMap_cons, List.map_cons, ih]; rfl

theorem sts_flat (l : List StV) : stsCells l = flatCells (l.map stRow) := by
  unfold stsCells flatCells
  induction l with
  | nil => rfl
  | cons a t ih => simp only [List.flatMap_cons, List.map_cons, ih]; rfl

theorem rows_evs {w : World} {N : Nat} {v : Value} {l : List EvV} (h : w.ownsRow N 24 7 v l.length (evsCells l)) : RowsFr N 24 7 w v (l.map evRow) :=
  RowsFr.of_owns (fun r hr => by
    obtain ⟨e, _, rfl⟩ := List.mem_map.1 hr
    rfl) (by rw [List.length_map, ← evs_flat]; exact h)

theorem rows_sts {w : World} {N : Nat} {v : Value} {l : List StV} (h : w.ownsRow N 77 3 v l.length (stsCells l)) : RowsFr N 77 3 w v (l.map stRow) :=
  RowsFr.of_owns (fun r hr => by
    obtain ⟨e, _, rfl⟩ := List.mem_map.1 hr
    rfl) (by rw [List.length_map, ← sts_flat]; exact h)

/-- The machine is stored into the result's place. -/
theorem sim_ends {B q r N : Nat} {W : World} {vs vq : Value} {ss : List StV} {qs : List EvV} (hR : SimMem B q W vs vq ss qs) (hr : r < B) (hN : N ≤ B) (a b c : Value) :
    SimFr N (((W.setCell ⟨r, 0, none⟩ a).setCell ⟨r, 1, none⟩ b).setCell ⟨r, 2, none⟩ c) vs vq (.slice none 0 0) (ss.map stRow) (qs.map evRow) [] := by
  have h1 : vs.ownBlock ≠ some r := fun e => by have := (hR.os.lt r e).1; omega
  have h2 : vq.ownBlock ≠ some r := fun e => by have := (hR.oq.lt r e).1; omega
  exact ⟨(rows_sts (ownsRow_setCell_other (ownsRow_setCell_other (ownsRow_setCell_other hR.os h1 _) h1 _) h1 _)).less hN, (rows_evs (ownsRow_setCell_other (ownsRow_setCell_other (ownsRow_setCell_other hR.oq h2 _) h2 _) h2 _)).less hN, Or.inl ⟨rfl, rfl⟩, hR.ne, ne_turn (Or.inl rfl), ne_turn (Or.inl rfl)⟩

theorem specAppFirst_in (p : Int) (h1 : 0 ≤ p) (h2 : p ≤ 3) (w : World) :
    Calls Try.prog 40 #[.int .i64 p] w fun e w' => e = .returned (.agg (firstVals p)) ∧ Below w.heap.size w w' := by
  go_enter Try.func40, Try.ntmps40
  go_wp2_with (first | (go_at_call 63; go_in) | (go_at_call 68; go_in))
  exact bodyPost_ret (v := .agg (firstVals p)) (by simp [results, Try.results40, go_sem]) rfl ⟨rfl, (Below.refl _ _).alloc (Nat.le_refl _) _⟩

theorem implAppFirst_in (p : Int) (h1 : 0 ≤ p) (h2 : p ≤ 3) (w : World) :
    Calls Try.prog 41 #[.int .i64 p] w fun e w' => e = .returned (.agg (firstVals p)) ∧ Below w.heap.size w w' := by
  go_enter Try.func41, Try.ntmps41
  go_wp2_with (first | (go_at_call 64; go_in) | (go_at_call 74; go_in))
  exact bodyPost_ret (v := .agg (firstVals p)) (by simp [results, Try.results41, go_sem]) rfl ⟨rfl, (Below.refl _ _).alloc (Nat.le_refl _) _⟩

set_option maxRecDepth 100000 in
set_option maxHeartbeats 1000000 in
theorem specSimStart_any (w : World) :
    Calls Try.prog 22 #[] w fun e w' => ∃ vs vq, e = .returned (.agg #[vs, vq, .slice none 0 0]) ∧ SimFr w.heap.size w' vs vq (.slice none 0 0) ((zeros 4).map stRow) ((firsts 4).map evRow) [] ∧ Below w.heap.size w w' := by
  obtain ⟨i3, hi3, hz30, hz31, hz32⟩ := info_parts infoT_State
  obtain ⟨i7, hi7, hz70, hz71, hz72⟩ := info_parts infoT_Event
  go_enter Try.func22, Try.ntmps22
  go_wp2_with fail
  have hb0 : Below w.heap.size w ((w.alloc (.cells #[.slice none 0 0, .slice none 0 0, .slice none 0 0] 45)).alloc (.cells #[.slice none 0 0, .slice none 0 0, .slice none 0 0] 45)) := ((Below.refl _ _).alloc (Nat.le_refl _) _).alloc (by simp) _
  have hm0 : SimMem (w.heap.size + 1) (w.heap.size + 1) ((w.alloc (.cells #[.slice none 0 0, .slice none 0 0, .slice none 0 0] 45)).alloc (.cells #[.slice none 0 0, .slice none 0 0, .slice none 0 0] 45)) (.slice none 0 0) (.slice none 0 0) (zeros 0) (firsts 0) :=
    ⟨by simp [go_sem], by simp [go_sem], by simp [go_sem], fun i => by simp [go_sem], World.ownsRow_nil _ _ _ _, World.ownsRow_nil _ _ _ _, Or.inl rfl, by simp [Value.ownBlock], by simp [Value.ownBlock], Nat.le_refl _⟩
  have r0 : ∀ i, i < 3 → ((w.alloc (.cells #[.slice none 0 0, .slice none 0 0, .slice none 0 0] 45)).alloc (.cells #[.slice none 0 0, .slice none 0 0, .slice none 0 0] 45)).cell? ⟨w.heap.size, i, none⟩ = some (.slice none 0 0) := fun i hi => by
    match i, hi with
    | 0, _ => simp [go_sem]
    | 1, _ => simp [go_sem]
    | 2, _ => simp [go_sem]
  have rf : ∀ i, ((w.alloc (.cells #[.slice none 0 0, .slice none 0 0, .slice none 0 0] 45)).alloc (.cells #[.slice none 0 0, .slice none 0 0, .slice none 0 0] 45)).frozen? ⟨w.heap.size, i, none⟩ = false := fun i => by simp [go_sem]
  have HM0 := hide hm0
  have HB0 := hide hb0
  have R0 := hide r0
  have RF := hide rf
  clear hm0 hb0 r0 rf
  generalize ((w.alloc (.cells #[.slice none 0 0, .slice none 0 0, .slice none 0 0] 45)).alloc (.cells #[.slice none 0 0, .slice none 0 0, .slice none 0 0] 45)) = W1 at *
  go_loopw [2] (fun i wr => ∃ (k : Nat) (vs vq : Value), k ≤ 4 ∧ i = .int .i64 k ∧ Hid (SimMem (w.heap.size + 1) (w.heap.size + 1) wr vs vq (zeros k) (firsts k)) ∧ Hid (Below (w.heap.size + 1) W1 wr)) (fun i _ => 4 - (intOf i).toNat)
  case atStart => exact ⟨0, _, _, Nat.zero_le _, rfl, hide (unhide HM0), hide (Below.refl _ _)⟩
  case round =>
    obtain ⟨k, vs, vq, hk, rfl, HM, HB⟩ := hrel
    by_cases hlt : k < 4
    · have hkI : (k : Int) < 4 := by omega
      have hk0 : (0 : Int) ≤ (k : Int) := by omega
      have hm := unhide HM
      obtain ⟨sa, sc, hvs⟩ : ∃ a c, vs = .slice a k c := by
        obtain ⟨_, ⟨h, hn⟩ | ⟨g, cap, _, h, _⟩⟩ := hm.os
        · rw [zeros_len] at hn; exact ⟨none, 0, by rw [h, hn]⟩
        · rw [zeros_len] at h; exact ⟨_, _, h⟩
      obtain ⟨qa, qc, hvq⟩ : ∃ a c, vq = .slice a k c := by
        obtain ⟨_, ⟨h, hn⟩ | ⟨g, cap, _, h, _⟩⟩ := hm.oq
        · rw [firsts_len] at hn; exact ⟨none, 0, by rw [h, hn]⟩
        · rw [firsts_len] at h; exact ⟨_, _, h⟩
      subst hvs hvq
      have c0 := hm.c0
      have hown := hm.os
      rw [zeros_len] at hown
      have HOWN := hide hown
      have hq : w.heap.size + 1 < wr.heap.size := World.block_lt_of_cell? wr ⟨w.heap.size + 1, 0, none⟩ c0
      clear hm hown
      have hfz := (unhide HM).fz 0
      have hownA : (wr.alloc (.cells #[.int .i64 0, .int .i64 0, .int .i64 0] 77)).ownsRow (w.heap.size + 1) 77 3 (.slice sa k sc) k (stsCells (zeros k)) := (unhide HOWN).alloc _
      have hbA : Below wr.heap.size wr (wr.alloc (.cells #[.int .i64 0, .int .i64 0, .int .i64 0] 77)) := (Below.refl _ _).alloc (Nat.le_refl _) _
      have hns := (unhide HM).ns
      go_wp2_with (at_builtin; refine wpList_append_lies _ (by rfl) _ _ _ (by rfl) (w.heap.size + 1) 77 i3 _ 3 24 slice_StateT hi3 hz30 hz31 hz32 (by rfl) (by omega) (.slice sa k sc) k (stsCells (zeros k)) (by rfl) hownA ⟨wr.heap.size, 0, none⟩ 1 1 [.int .i64 0, .int .i64 0, .int .i64 0] (by rfl) (by rfl) (World.news_of_block (cs := #[.int .i64 0, .int .i64 0, .int .i64 0]) (t := 77) (fr := (0, 0)) (heap_alloc_new wr _)) (by simp [Value.oneCell']) (by omega) (by unfold maxLen; omega) (by omega) (by simp; omega) (wr.heap.size + 1) (by simp) ?_; intro gg cap w1 hown1 hgrow hat hlt1; have kc := hgrow.cell (cell_on hbA c0) (fun e => hns e.symm); have kf : w1.frozen? ⟨w.heap.size + 1, 0, none⟩ = false := by (rw [hgrow.frozen_far ⟨w.heap.size + 1, 0, none⟩ (show w.heap.size + 1 < _ by simp; omega) (fun e => hns e.symm), hbA.frozen (p := ⟨w.heap.size + 1, 0, none⟩) hq]; exact hfz))
      have hz4 := zeros_len k
      have hs := sim_states (x := ⟨0, 0, 0⟩) (unhide HM) hbA hgrow (by rw [hz4]; exact hown1) (by rcases hat with h | h <;> simp [h])
      rw [hz4, ← zeros_more] at hs
      have HM5 := hide hs.1
      have HB5 := hide ((unhide HB).trans hs.2)
      clear hs hown1 hat hlt1 hgrow kc kf hownA hbA hns hfz c0 HM HOWN HB hq hz4
      generalize w1.setCell ⟨w.heap.size + 1, 0, none⟩ (.slice (some ⟨gg, 0, none⟩) (k + 1) cap) = W5 at *
      have hm := unhide HM5
      have c1 := hm.c1
      have hq : w.heap.size + 1 < W5.heap.size := World.block_lt_of_cell? W5 ⟨w.heap.size + 1, 0, none⟩ hm.c0
      have hnq := hm.nq
      have hoq := hm.oq
      rw [firsts_len] at hoq
      have HOQ := hide hoq
      have hfz := hm.fz 1
      clear hm hoq
      refine wp_region_last (L := 7) (S := fun w' : World => w'.cell? ⟨w.heap.size + 1, 1, none⟩ = some (.slice qa k qc)) (by kernel_rfl) ?_
      have hHeld : (fun w' : World => w'.cell? ⟨w.heap.size + 1, 1, none⟩ = some (.slice qa k qc)) (World.drew W5) := c1
      refine wpAnyL_take (i := 0) (v := ?_) (by kernel_rfl) rfl (by kernel_rfl) (by kernel_rfl) (by kernel_rfl) (fun _ _ _ h => h) hHeld (Or.inl ⟨by kernel_rfl, ?_⟩) ?_
      rotate_left
      · (intro w hSw; (try dsimp only at hSw); go_simp; try with_reducible rfl)
      refine wpAnyL_take (i := 1) (v := ?_) (by kernel_rfl) rfl (by kernel_rfl) (by kernel_rfl) (by kernel_rfl) (fun _ _ _ h => h) hHeld (Or.inl ⟨by kernel_rfl, ?_⟩) ?_
      rotate_left
      · (intro w hSw; (try dsimp only at hSw); go_simp; try with_reducible rfl)
      refine wpAnyL_take (i := 2) (v := ?_) (by kernel_rfl) rfl (by kernel_rfl) (by kernel_rfl) (by kernel_rfl) (fun _ _ _ h => h) hHeld (Or.inl ⟨by kernel_rfl, ?_⟩) ?_
      rotate_left
      · (intro w hSw; (try dsimp only at hSw); go_simp; try with_reducible rfl)
      refine wpAnyL_one (i := 3) (by kernel_rfl) rfl (fun K hK => ?_)
      go_simp
      refine (specAppFirst_in (k : Int) hk0 (by omega) _).mono ?_
      rintro e w6 ⟨rfl, hb6⟩
      go_wp2_with fail
      refine held_on hK ?_ (fun hHeld => ?_)
      · exact cell_on hb6 hHeld
      clear hK K
      have hb56 : Below W5.heap.size W5 w6 := below_then (Below.refl _ _).drew hb6
      refine wpAnyL_one (i := 4) (by kernel_rfl) rfl (fun K hK => ?_)
      go_simp
      have hbA : Below W5.heap.size W5 (w6.alloc (.cells (firstVals k) 24)) := below_then hb56 ((Below.refl _ _).alloc (Nat.le_refl _) _)
      refine held_on hK ?_ (fun hHeld => ?_)
      · exact cell_on hbA c1
      clear hK K
      have hownA : (w6.alloc (.cells (firstVals k) 24)).ownsRow (w.heap.size + 1) 24 7 (.slice qa k qc) k (evsCells (firsts k)) := ownsRow_on hbA (unhide HOQ)
      have hs6 : W5.heap.size ≤ w6.heap.size := hb56.size
      refine wpAnyL_one (i := 5) (by kernel_rfl) rfl (fun K hK => ?_)
      refine step_append_lies _ (by rfl) _ _ _ (by rfl) (w.heap.size + 1) 24 i7 _ 7 56 slice_EventT hi7 hz70 hz71 hz72 (by rfl) (by omega) (.slice qa k qc) k (evsCells (firsts k)) (by rfl) hownA ⟨w6.heap.size, 0, none⟩ 1 1 [.int .i64 0, .int .i64 k, .int .i64 (-1), .int .i64 0, .int .i64 k, .int .i64 0, .int .i64 k] (by rfl) (by rfl) (World.news_of_block (cs := firstVals k) (t := 24) (fr := (0, 0)) (heap_alloc_new w6 _)) (by simp [Value.oneCell']) (by omega) (by unfold maxLen; omega) (by omega) (by simp; omega) (w6.heap.size + 1) (by simp) ?_
      intro g2 cap2 w7 hown7 hgrow7 hat7 hlt7
      have hs7 := sim_queue (x := firstEv k) (unhide HM5) hbA hgrow7 (by rw [firsts_len]; exact hown7) (by rcases hat7 with h | h <;> simp [h])
      rw [firsts_len, ← firsts_more] at hs7
      have kc := hgrow7.cell (cell_on hbA c1) (fun e => hnq e.symm)
      have kf : w7.frozen? ⟨w.heap.size + 1, 1, none⟩ = false := by (rw [hgrow7.frozen_far ⟨w.heap.size + 1, 1, none⟩ (show w.heap.size + 1 < _ by simp; omega) (fun e => hnq e.symm), hbA.frozen (p := ⟨w.heap.size + 1, 1, none⟩) hq]; exact hfz)
      have HM7 := hide hs7.1
      have HB7 := hide ((unhide HB5).trans hs7.2)
      clear hs7 hown7 hat7 hlt7 hgrow7
      refine held_on hK ?_ (fun hHeld => ?_)
      · exact kc
      clear hK K
      refine wpAnyL_one (i := 6) (by kernel_rfl) rfl (fun K hK => ?_)
      go_simp
      refine held_on hK ?_ (fun hHeld => ?_)
      · exact hHeld
      clear hK K
      refine wpAnyL_end (by kernel_rfl) rfl (fun K hK => ?_)
      go_simp
      refine hK.out _ _ ?_
      clear hK K
      refine wpAnyL_done (by kernel_rfl) ?_ _
      go_wp2_with fail
      go_roundw
      case rel => exact ⟨k + 1, _, _, by omega, by go_num, HM7, HB7⟩
      case measure => simp [intOf]; omega
    · have hke : k = 4 := by omega
      subst hke
      have hm := unhide HM
      obtain ⟨sa, sc, hvs⟩ : ∃ a c, vs = .slice a 4 c := by
        obtain ⟨_, ⟨h, hn⟩ | ⟨g, cap, _, h, _⟩⟩ := hm.os
        · rw [zeros_len] at hn; omega
        · rw [zeros_len] at h; exact ⟨_, _, h⟩
      obtain ⟨qa, qc, hvq⟩ : ∃ a c, vq = .slice a 4 c := by
        obtain ⟨_, ⟨h, hn⟩ | ⟨g, cap, _, h, _⟩⟩ := hm.oq
        · rw [firsts_len] at hn; omega
        · rw [firsts_len] at h; exact ⟨_, _, h⟩
      subst hvs hvq
      obtain ⟨c0, c1, c2, _, _, _, _, _, _, _⟩ := hm
      have g0 := ((unhide HB).cell (p := ⟨w.heap.size, 0, none⟩) (show w.heap.size < w.heap.size + 1 by omega)).trans ((unhide R0) 0 (by omega))
      have g1 := ((unhide HB).cell (p := ⟨w.heap.size, 1, none⟩) (show w.heap.size < w.heap.size + 1 by omega)).trans ((unhide R0) 1 (by omega))
      have g2 := ((unhide HB).cell (p := ⟨w.heap.size, 2, none⟩) (show w.heap.size < w.heap.size + 1 by omega)).trans ((unhide R0) 2 (by omega))
      have gf : ∀ i, wr.frozen? ⟨w.heap.size, i, none⟩ = false := fun i => ((unhide HB).frozen (p := ⟨w.heap.size, i, none⟩) (show w.heap.size < w.heap.size + 1 by omega)).trans ((unhide RF) i)
      have HEND := hide (fun a b c => sim_ends (r := w.heap.size) (N := w.heap.size) (unhide HM) (by omega) (by omega) a b c)
      have HBF := hide ((unhide HB0).trans ((unhide HB).mono (show w.heap.size ≤ w.heap.size + 1 by omega)))
      have hsz : ¬ w.heap.size = w.heap.size + 1 := by omega
      have hsz2 : ¬ w.heap.size + 1 = w.heap.size := by omega
      go_wp2_with fail
      refine bodyPost_ret (v := .agg #[.slice sa 4 sc, .slice qa 4 qc, .slice none 0 0]) (by simp [results, Try.results22, go_sem, g0, g1, g2]) rfl ⟨_, _, rfl, (unhide HEND) _ _ _, ?_⟩
      exact (((unhide HBF).setCell (show w.heap.size ≤ w.heap.size from Nat.le_refl _) _).setCell (show w.heap.size ≤ w.heap.size from Nat.le_refl _) _).setCell (show w.heap.size ≤ w.heap.size from Nat.le_refl _) _
end Go.Proofs.Ytmkbacpkemmepaa
