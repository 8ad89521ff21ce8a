/- SimOk of impl and of spec. -/
import Derived.Test.YtmkbacpkemmepaaHold4
import Derived.Test.YtmkbacpkemmepaaSimH
namespace Go.Proofs.Ytmkbacpkemmepaa
open Go.RowKit
set_option linter.unusedVariables false
set_option linter.unusedSimpArgs false

def simOk (ss : List StV) (qs : List EvV) (os : List OutV) : Bool := decide (ss.length = 4) && ss.all stOk && inOrder evOk evLess qs 100 && inOrder outOk outLess os 96

theorem len_eq (n : Nat) : ((n : Int) == 4) = decide (n = 4) := by
  by_cases h : n = 4
  · subst h; rfl
  · rw [decide_eq_false h]; simp; omega

set_option maxRecDepth 100000 in
set_option maxHeartbeats 1000000 in
theorem implSimOk_any (vs vq vo : Value) (ss : List StV) (qs : List EvV) (os : List OutV) (w : World) (h : SimAt w vs vq vo (ss.map stR) (qs.map evRow) (os.map outRow)) :
    Calls Try.prog 30 #[.agg #[vs, vq, vo]] w fun e w' => e = .returned (.bool (simOk ss qs os)) ∧ Below w.heap.size w w' := by
  obtain ⟨a1, c1, hv1⟩ := rows_slice h.s
  obtain ⟨a2, c2, hv2⟩ := rows_slice h.q
  obtain ⟨a3, c3, hv3⟩ := rows_slice h.o
  rw [List.length_map] at hv1 hv2 hv3
  subst hv1 hv2 hv3
  have hb : Below w.heap.size w (w.alloc (.cells #[.slice a1 ss.length c1, .slice a2 qs.length c2, .slice a3 os.length c3] 45)) := (Below.refl _ _).alloc (Nat.le_refl _) _
  have H := hide (h.on hb)
  clear h
  have x1 : (w.alloc (.cells #[.slice a1 ss.length c1, .slice a2 qs.length c2, .slice a3 os.length c3] 45)).cell? ⟨w.heap.size, 1, none⟩ = some (.slice a2 qs.length c2) := by simp [go_sem]
  have x2 : (w.alloc (.cells #[.slice a1 ss.length c1, .slice a2 qs.length c2, .slice a3 os.length c3] 45)).cell? ⟨w.heap.size, 2, none⟩ = some (.slice a3 os.length c3) := by simp [go_sem]
  have x0 : (w.alloc (.cells #[.slice a1 ss.length c1, .slice a2 qs.length c2, .slice a3 os.length c3] 45)).cell? ⟨w.heap.size, 0, none⟩ = some (.slice a1 ss.length c1) := by simp [go_sem]
  unfold simOk
  by_cases h4 : ss.length = 4
  · have e4 : ((ss.length : Int) == 4) = true := by rw [len_eq, decide_eq_true h4]
    rw [decide_eq_true h4]
    have H4 := hide h4
    clear h4
    go_enter Try.func30, Try.ntmps30
    go_wp2_with fail
    generalize (w.alloc (.cells #[.slice a1 ss.length c1, .slice a2 qs.length c2, .slice a3 os.length c3] 45)) = W at *
    refine (allHoldState_any _ ss _ (unhide H).s).mono ?_
    rintro e w1 ⟨rfl, hb1⟩
    have y1 := cell_on hb1 x1
    have y2 := cell_on hb1 x2
    clear x0 x1 x2
    cases hA : ss.all stOk
    · go_wp2_with fail
      go_ret
      exact ⟨ret_bool (by simp [hA]), below_then hb hb1⟩
    · go_wp2_with fail
      clear y1
      refine (eventsInOrder_any _ qs 100 _ ((unhide H).q.on hb1)).mono ?_
      rintro e w2 ⟨rfl, hb2⟩
      have z2 := cell_on hb2 y2
      clear y2
      cases hQ : inOrder evOk evLess qs 100
      · go_wp2_with fail
        go_ret
        exact ⟨ret_bool (by simp [hQ]), below_then hb (below_then hb1 hb2)⟩
      · go_wp2_with fail
        clear z2
        refine (outsInOrder_any _ os 96 _ ((unhide H).o.on (below_then hb1 hb2))).mono ?_
        rintro e w3 ⟨rfl, hb3⟩
        go_wp2_with fail
        go_ret
        exact ⟨ret_bool (by simp [hA, hQ]), below_then hb (below_then (below_then hb1 hb2) hb3)⟩
  · have e4 : ((ss.length : Int) == 4) = false := by rw [len_eq, decide_eq_false h4]
    rw [decide_eq_false h4]
    have H4 := hide h4
    clear h4
    go_enter Try.func30, Try.ntmps30
    go_wp2_with fail
    go_ret
    exact ⟨rfl, hb⟩

theorem l2Most_any (w : World) : Calls Try.prog 51 #[] w fun e w' => e = .returned (.int .i64 100) ∧ w' = w := by
  go_enter Try.func51, Try.ntmps51
  go_wp2
  go_ret
  exact ⟨rfl, rfl⟩

theorem neq_of (n : Nat) : ((n : Int) != 4) = !decide (n = 4) := by
  rw [bne, len_eq]

set_option maxRecDepth 100000 in
set_option maxHeartbeats 2000000 in
theorem specSimOk_any (vs vq vo : Value) (ss : List StV) (qs : List EvV) (os : List OutV) (w : World) (h : SimAt w vs vq vo (ss.map stR) (qs.map evRow) (os.map outRow)) :
    Calls Try.prog 28 #[.agg #[vs, vq, vo]] w fun e w' => e = .returned (.bool (simOk ss qs os)) ∧ Below w.heap.size w w' := by
  obtain ⟨a1, c1, hv1⟩ := rows_slice h.s
  obtain ⟨a2, c2, hv2⟩ := rows_slice h.q
  obtain ⟨a3, c3, hv3⟩ := rows_slice h.o
  rw [List.length_map] at hv1 hv2 hv3
  subst hv1 hv2 hv3
  have hb : Below w.heap.size w (w.alloc (.cells #[.slice a1 ss.length c1, .slice a2 qs.length c2, .slice a3 os.length c3] 45)) := (Below.refl _ _).alloc (Nat.le_refl _) _
  have H := hide (h.on hb)
  clear h
  have x0 : ∀ y : On (w.alloc (.cells #[.slice a1 ss.length c1, .slice a2 qs.length c2, .slice a3 os.length c3] 45)), y.y.cell? ⟨w.heap.size, 0, none⟩ = some (.slice a1 ss.length c1) := fun y => cell_on y.h (by simp [go_sem])
  have x1 : ∀ y : On (w.alloc (.cells #[.slice a1 ss.length c1, .slice a2 qs.length c2, .slice a3 os.length c3] 45)), y.y.cell? ⟨w.heap.size, 1, none⟩ = some (.slice a2 qs.length c2) := fun y => cell_on y.h (by simp [go_sem])
  have x2 : ∀ y : On (w.alloc (.cells #[.slice a1 ss.length c1, .slice a2 qs.length c2, .slice a3 os.length c3] 45)), y.y.cell? ⟨w.heap.size, 2, none⟩ = some (.slice a3 os.length c3) := fun y => cell_on y.h (by simp [go_sem])
  obtain ⟨R, hR⟩ : ∃ R, R = simOk ss qs os := ⟨_, rfl⟩
  rw [← hR]
  have HR := hide hR
  clear hR
  by_cases h4 : ss.length = 4
  · have e4 : ((ss.length : Int) != 4) = false := by rw [neq_of, decide_eq_true h4]; rfl
    cases hQ : inOrder evOk evLess qs 100
    · have HNO : Hid (R = false) := hide ((unhide HR).trans (by simp [simOk, hQ]))
      have H4 := hide h4
      clear h4
      have kq : ∀ y : On (w.alloc (.cells #[.slice a1 ss.length c1, .slice a2 qs.length c2, .slice a3 os.length c3] 45)), Calls Try.prog 50 #[.slice a2 qs.length c2, .int .i64 100] y.y fun r w' => r = .returned (.bool false) ∧ Below y.y.heap.size y.y w' := fun y => by have := l2Events_any _ qs 100 y.y ((unhide H).q.on y.h); rwa [hQ] at this
      go_enter Try.func28, Try.ntmps28
      go_upto_region 1 with fail
      generalize (w.alloc (.cells #[.slice a1 ss.length c1, .slice a2 qs.length c2, .slice a3 os.length c3] 45)) = W at *
      have hne : Nonempty (On W) := ⟨⟨W, Below.refl _ _⟩⟩
      refine wp_region_on (by kernel_rfl) (by kernel_rfl) ?_
      repeat (first | go_big_quiet_step ((first | (go_at_call 51; exact calls_on_same (l2Most_any _)) | (go_at_call 50; exact calls_on (kq _)))) | quiet_step ((first | (go_at_call 51; exact calls_on_same (l2Most_any _)) | (go_at_call 50; exact calls_on (kq _)))))
      refine wpQuiet_nil ?_
      intro _ hw'
      obtain ⟨nq, hw''⟩ := hw'
      subst hw''
      go_wp2_with fail
      go_ret
      exact ⟨ret_bool (unhide HNO).symm, below_then hb nq.h⟩
    · have kq : ∀ y : On (w.alloc (.cells #[.slice a1 ss.length c1, .slice a2 qs.length c2, .slice a3 os.length c3] 45)), Calls Try.prog 50 #[.slice a2 qs.length c2, .int .i64 100] y.y fun r w' => r = .returned (.bool true) ∧ Below y.y.heap.size y.y w' := fun y => by have := l2Events_any _ qs 100 y.y ((unhide H).q.on y.h); rwa [hQ] at this
      cases hO : inOrder outOk outLess os 96
      · have HNO : Hid (R = false) := hide ((unhide HR).trans (by simp [simOk, hO]))
        have H4 := hide h4
        clear h4
        have ko : ∀ y : On (w.alloc (.cells #[.slice a1 ss.length c1, .slice a2 qs.length c2, .slice a3 os.length c3] 45)), Calls Try.prog 52 #[.slice a3 os.length c3, .int .i64 96] y.y fun r w' => r = .returned (.bool false) ∧ Below y.y.heap.size y.y w' := fun y => by have := l2Outs_any _ os 96 y.y ((unhide H).o.on y.h); rwa [hO] at this
        go_enter Try.func28, Try.ntmps28
        go_upto_region 1 with fail
        generalize (w.alloc (.cells #[.slice a1 ss.length c1, .slice a2 qs.length c2, .slice a3 os.length c3] 45)) = W at *
        have hne : Nonempty (On W) := ⟨⟨W, Below.refl _ _⟩⟩
        refine wp_region_on (by kernel_rfl) (by kernel_rfl) ?_
        repeat (first | go_big_quiet_step ((first | (go_at_call 51; exact calls_on_same (l2Most_any _)) | (go_at_call 50; exact calls_on (kq _)) | (go_at_call 52; exact calls_on (ko _)))) | quiet_step ((first | (go_at_call 51; exact calls_on_same (l2Most_any _)) | (go_at_call 50; exact calls_on (kq _)) | (go_at_call 52; exact calls_on (ko _)))))
        refine wpQuiet_nil ?_
        intro _ hw'
        obtain ⟨nq, hw''⟩ := hw'
        subst hw''
        go_wp2_with fail
        go_ret
        exact ⟨ret_bool (unhide HNO).symm, below_then hb nq.h⟩
      · have HALL := hide (fun (b : Bool) (hb : ss.all stOk = b) => (unhide HR).trans (show simOk ss qs os = b by simp [simOk, h4, hQ, hO, hb]))
        have H4 := hide h4
        clear h4
        have ko : ∀ y : On (w.alloc (.cells #[.slice a1 ss.length c1, .slice a2 qs.length c2, .slice a3 os.length c3] 45)), Calls Try.prog 52 #[.slice a3 os.length c3, .int .i64 96] y.y fun r w' => r = .returned (.bool true) ∧ Below y.y.heap.size y.y w' := fun y => by have := l2Outs_any _ os 96 y.y ((unhide H).o.on y.h); rwa [hO] at this
        go_enter Try.func28, Try.ntmps28
        go_upto_region 1 with fail
        generalize (w.alloc (.cells #[.slice a1 ss.length c1, .slice a2 qs.length c2, .slice a3 os.length c3] 45)) = W at *
        have hne : Nonempty (On W) := ⟨⟨W, Below.refl _ _⟩⟩
        refine wp_region_on (by kernel_rfl) (by kernel_rfl) ?_
        repeat (first | go_big_quiet_step ((first | (go_at_call 51; exact calls_on_same (l2Most_any _)) | (go_at_call 50; exact calls_on (kq _)) | (go_at_call 52; exact calls_on (ko _)))) | quiet_step ((first | (go_at_call 51; exact calls_on_same (l2Most_any _)) | (go_at_call 50; exact calls_on (kq _)) | (go_at_call 52; exact calls_on (ko _)))))
        refine wpQuiet_nil ?_
        intro _ hw'
        obtain ⟨nq, hw''⟩ := hw'
        subst hw''
        clear kq ko
        obtain ⟨ad, cap, hv, hlc, hm, hc⟩ := (unhide H).s
        rw [List.length_map] at hv hlc hm
        obtain ⟨rfl, rfl⟩ : a1 = ad ∧ c1 = cap := by simp at hv; exact hv
        unfold maxLen at hm
        have HC := hide hc
        clear hc hv
        go_wp2_with fail
        go_loopw [3] (fun i wr => ∃ k : Nat, k ≤ ss.length ∧ i = .int .i64 k ∧ Hid ((ss.take k).all stOk = true) ∧ Below W.heap.size W wr) (fun i _ => ss.length - (intOf i).toNat)
        case atStart => exact ⟨0, Nat.zero_le _, rfl, hide (by simp), nq.h⟩
        case round =>
          obtain ⟨k, hk, rfl, HA, hbr⟩ := hrel
          have x0r := x0 ⟨wr, hbr⟩
          dsimp only at x0r
          by_cases hlt : k < ss.length
          · obtain ⟨b, off, had, hcc⟩ : ∃ b off, a1 = some ⟨b, off, none⟩ ∧ ∀ j, j < 3 → W.cell? ⟨b, off + k * 3 + j, none⟩ = some (.int .i64 ((stR ss[k]).getD j 0)) := by
              rcases unhide HC with h | ⟨b, off, h1, h2⟩
              · rw [List.map_eq_nil_iff] at h; rw [h] at hlt; exact absurd hlt (Nat.not_lt_zero _)
              · refine ⟨b, off, h1, fun j hj => ?_⟩
                have := h2 k (by rw [List.length_map]; exact hlt) j hj
                rwa [List.getElem_map] at this
            subst had
            have hkI : (k : Int) < (ss.length : Int) := by omega
            have d0 := cell_on hbr (hcc 0 (by omega))
            have d1 := cell_on hbr (hcc 1 (by omega))
            have d2 := cell_on hbr (hcc 2 (by omega))
            clear hcc
            have HY := hide (fun h => all_take_more stOk ss k hlt (unhide HA) h)
            have HN2 := hide (fun h => all_false_at stOk ss k hlt h)
            obtain ⟨X, hX⟩ : ∃ X, X = ss[k] := ⟨_, rfl⟩
            rw [← hX] at d0 d1 d2 HY HN2
            clear hX
            obtain ⟨s0, s1, s2⟩ := X
            simp only [stR, Nat.add_zero] at d0 d1 d2
            have f0 : wr.cell? ⟨b, off + k * 3, none⟩ = some (.int .i64 s0) := d0
            have f1 : wr.cell? ⟨b, off + k * 3 + 1, none⟩ = some (.int .i64 s1) := d1
            have f2 : wr.cell? ⟨b, off + k * 3 + 2, none⟩ = some (.int .i64 s2) := d2
            clear d0 d1 d2
            cases hok : stOk ⟨s0, s1, s2⟩
            · go_wp2_with (go_at_call 53; refine (l1StateOk_any ⟨s0, s1, s2⟩ _).mono ?_; rw [hok]; rintro e w' ⟨rfl, hb2⟩)
              go_ret
              exact ⟨ret_bool ((unhide HALL) false ((unhide HN2) hok)).symm, below_then hb (below_then hbr hb2)⟩
            · go_wp2_with (go_at_call 53; refine (l1StateOk_any ⟨s0, s1, s2⟩ _).mono ?_; rw [hok]; rintro e w' ⟨rfl, hb2⟩)
              go_roundw
              case rel => exact ⟨k + 1, by omega, by go_num, hide ((unhide HY) hok), below_then hbr hb2⟩
              case measure => simp [intOf]; omega
          · have HF := hide ((unhide HALL) true (by have := unhide HA; rw [List.take_of_length_le (by omega)] at this; exact this))
            have hkn : ¬ (k : Int) < (ss.length : Int) := by omega
            go_wp2_with fail
            go_ret
            exact ⟨ret_bool (unhide HF).symm, below_then hb hbr⟩
  · have e4 : ((ss.length : Int) != 4) = true := by rw [neq_of, decide_eq_false h4]; rfl
    have HNO : Hid (R = false) := hide ((unhide HR).trans (by simp [simOk, h4]))
    have H4 := hide h4
    clear h4
    go_enter Try.func28, Try.ntmps28
    go_upto_region 1 with fail
    generalize (w.alloc (.cells #[.slice a1 ss.length c1, .slice a2 qs.length c2, .slice a3 os.length c3] 45)) = W at *
    have hne : Nonempty (On W) := ⟨⟨W, Below.refl _ _⟩⟩
    refine wp_region_on (by kernel_rfl) (by kernel_rfl) ?_
    repeat (first | go_big_quiet_step (fail) | quiet_step (fail))
    refine wpQuiet_nil ?_
    intro _ hw'
    obtain ⟨nq, hw''⟩ := hw'
    subst hw''
    go_wp2_with fail
    go_ret
    exact ⟨ret_bool (unhide HNO).symm, below_then hb nq.h⟩
end Go.Proofs.Ytmkbacpkemmepaa
