/- spec.LaneOk. -/
import Derived.Test.YtjdaedcpjfcpjaaLane2
namespace Go.Proofs.Ytjdaedcpjfcpjaa
open Go.RowKit
set_option linter.unusedVariables false
set_option linter.unusedSimpArgs false

theorem l2Most_one (w : World) : Calls Try.prog 36 #[] w fun e w' => e = .returned (.int .i64 100) ∧ w' = w := by
  go_enter Try.func36, Try.ntmps36
  go_wp2
  go_ret
  exact ⟨rfl, rfl⟩

set_option maxRecDepth 100000 in
set_option maxHeartbeats 2000000 in
theorem specLaneOk_any (proc : Int) (s : StV) (v : Value) (ps : List PastV) (w : World) (h : PastsAt w v ps) :
    Calls Try.prog 9 #[laneAgg proc s v] w fun e w' => e = .returned (.bool (laneOk proc s ps)) ∧ Below w.heap.size w w' := by
  obtain ⟨a1, c1, rfl, hlc, hm, hcc⟩ := h
  unfold maxLen at hm
  have HC := hide hcc
  clear hcc
  have hb0 : Below w.heap.size w (w.alloc (.cells #[.int .i64 proc, .int .i64 s.x, .int .i64 s.y, .int .i64 s.c, .slice a1 ps.length c1] 32)) := (Below.refl _ _).alloc (Nat.le_refl _) _
  have cA : CellsAt (w.alloc (.cells #[.int .i64 proc, .int .i64 s.x, .int .i64 s.y, .int .i64 s.c, .slice a1 ps.length c1] 32)) w.heap.size 0 (laneCells proc s (.slice a1 ps.length c1)) := fun j hj => by
    match j, hj with
    | 0, _ => simp [go_sem]
    | 1, _ => simp [go_sem]
    | 2, _ => simp [go_sem]
    | 3, _ => simp [go_sem]
    | 4, _ => simp [go_sem]
  have HA := hide cA
  have HB0 := hide hb0
  clear hb0 cA
  obtain ⟨R, hR⟩ : ∃ R, R = laneOk proc s ps := ⟨_, rfl⟩
  rw [← hR]
  have HR := hide hR
  clear hR
  go_enter Try.func9, Try.ntmps9
  go_upto_region 1 with fail
  generalize (w.alloc (.cells #[.int .i64 proc, .int .i64 s.x, .int .i64 s.y, .int .i64 s.c, .slice a1 ps.length c1] 32)) = W at *
  have f0 : ∀ y : On W, y.y.cell? ⟨w.heap.size, 0, none⟩ = some (.int .i64 proc) := fun y => cell_on y.h ((unhide HA) 0 (by simp))
  have f1 : ∀ y : On W, y.y.cell? ⟨w.heap.size, 1, none⟩ = some (.int .i64 s.x) := fun y => cell_on y.h ((unhide HA) 1 (by simp))
  have f2 : ∀ y : On W, y.y.cell? ⟨w.heap.size, 2, none⟩ = some (.int .i64 s.y) := fun y => cell_on y.h ((unhide HA) 2 (by simp))
  have f3 : ∀ y : On W, y.y.cell? ⟨w.heap.size, 3, none⟩ = some (.int .i64 s.c) := fun y => cell_on y.h ((unhide HA) 3 (by simp))
  have f4 : ∀ y : On W, y.y.cell? ⟨w.heap.size, 4, none⟩ = some (.slice a1 ps.length c1) := fun y => cell_on y.h ((unhide HA) 4 (by simp))
  have hne : Nonempty (On W) := ⟨⟨W, Below.refl _ _⟩⟩
  have kp0 := fun w => l1Proc_any proc w
  have ks0 := fun w => l1StateOk_any s w
  cases h0 : inR 0 3 proc
  · have kp : ∀ w : World, Calls Try.prog 34 #[.int .i64 proc] w fun e w' => e = .returned (.bool false) ∧ w' = w := fun w => by have := kp0 w; rwa [h0] at this
    have ks := ks0
    clear kp0 ks0
    refine wp_region_on (by kernel_rfl) (by kernel_rfl) ?_
    repeat (first | go_big_quiet_step ((first | (go_at_call 34; exact calls_on_same (kp _)) | (go_at_call 35; exact calls_on (ks _)) | (go_at_call 36; exact calls_on_same (l2Most_one _)))) | quiet_step ((first | (go_at_call 34; exact calls_on_same (kp _)) | (go_at_call 35; exact calls_on (ks _)) | (go_at_call 36; exact calls_on_same (l2Most_one _)))))
    refine wpQuiet_nil ?_
    intro _ hw'
    obtain ⟨nq, hw''⟩ := hw'
    subst hw''
    go_wp2_with fail
    go_ret
    exact ⟨ret_bool (by rw [unhide HR]; simp [laneOk, h0]), below_then (unhide HB0) nq.h⟩
  have kp : ∀ w : World, Calls Try.prog 34 #[.int .i64 proc] w fun e w' => e = .returned (.bool true) ∧ w' = w := fun w => by have := kp0 w; rwa [h0] at this
  cases h1 : stOk s
  · have ks : ∀ w : World, Calls Try.prog 35 #[stAgg s] w fun e w' => e = .returned (.bool false) ∧ Below w.heap.size w w' := fun w => by have := ks0 w; rwa [h1] at this
    clear kp0 ks0
    refine wp_region_on (by kernel_rfl) (by kernel_rfl) ?_
    repeat (first | go_big_quiet_step ((first | (go_at_call 34; exact calls_on_same (kp _)) | (go_at_call 35; exact calls_on (ks _)) | (go_at_call 36; exact calls_on_same (l2Most_one _)))) | quiet_step ((first | (go_at_call 34; exact calls_on_same (kp _)) | (go_at_call 35; exact calls_on (ks _)) | (go_at_call 36; exact calls_on_same (l2Most_one _)))))
    refine wpQuiet_nil ?_
    intro _ hw'
    obtain ⟨nq, hw''⟩ := hw'
    subst hw''
    go_wp2_with fail
    go_ret
    exact ⟨ret_bool (by rw [unhide HR]; simp [laneOk, h1]), below_then (unhide HB0) nq.h⟩
  have ks : ∀ w : World, Calls Try.prog 35 #[stAgg s] w fun e w' => e = .returned (.bool true) ∧ Below w.heap.size w w' := fun w => by have := ks0 w; rwa [h1] at this
  clear kp0 ks0
  by_cases h2 : (ps.length : Int) ≤ 100
  rotate_left
  · have h3 : (100 : Int) < (ps.length : Int) := by omega
    have h4 : decide ((ps.length : Int) ≤ 100) = false := decide_eq_false h2
    have h5 : decide ((100 : Int) < (ps.length : Int)) = true := decide_eq_true h3
    refine wp_region_on (by kernel_rfl) (by kernel_rfl) ?_
    repeat (first | go_big_quiet_step ((first | (go_at_call 34; exact calls_on_same (kp _)) | (go_at_call 35; exact calls_on (ks _)) | (go_at_call 36; exact calls_on_same (l2Most_one _)))) | quiet_step ((first | (go_at_call 34; exact calls_on_same (kp _)) | (go_at_call 35; exact calls_on (ks _)) | (go_at_call 36; exact calls_on_same (l2Most_one _)))))
    refine wpQuiet_nil ?_
    intro _ hw'
    obtain ⟨nq, hw''⟩ := hw'
    subst hw''
    go_wp2_with fail
    go_ret
    exact ⟨ret_bool (by rw [unhide HR]; simp only [laneOk, h4, Bool.false_and, Bool.and_false]), below_then (unhide HB0) nq.h⟩
  have h3 : ¬ (100 : Int) < (ps.length : Int) := by omega
  have h4 : decide ((ps.length : Int) ≤ 100) = true := decide_eq_true h2
  have h5 : decide ((100 : Int) < (ps.length : Int)) = false := decide_eq_false h3
  refine wp_region_on (by kernel_rfl) (by kernel_rfl) ?_
  repeat (first | go_big_quiet_step ((first | (go_at_call 34; exact calls_on_same (kp _)) | (go_at_call 35; exact calls_on (ks _)) | (go_at_call 36; exact calls_on_same (l2Most_one _)))) | quiet_step ((first | (go_at_call 34; exact calls_on_same (kp _)) | (go_at_call 35; exact calls_on (ks _)) | (go_at_call 36; exact calls_on_same (l2Most_one _)))))
  refine wpQuiet_nil ?_
  intro _ hw'
  obtain ⟨nq, hw''⟩ := hw'
  subst hw''
  clear f0 f1 f2 f3 f4 kp ks
  have HW := hide (below_then (unhide HB0) nq.h)
  have HA0 : Hid (nq.y.cell? ⟨w.heap.size, 0, none⟩ = some (.int .i64 proc)) := hide (cell_on nq.h ((unhide HA) 0 (by simp)))
  have HA4 : Hid (nq.y.cell? ⟨w.heap.size, 4, none⟩ = some (.slice a1 ps.length c1)) := hide (cell_on nq.h ((unhide HA) 4 (by simp)))
  have HR5 : Hid (R = (ps.all (oneOk proc) && ascB pLess ps)) := hide (by rw [unhide HR]; simp only [laneOk, h0, h1, h4, Bool.true_and])
  generalize nq.y = W1 at *
  clear HR h0 h1 h4 h5
  go_wp2_with fail
  go_loopw [3] (fun i wr => ∃ k : Nat, k ≤ ps.length ∧ i = .int .i64 k ∧ Hid (∀ j (hj : j < ps.length), j < k → oneOk proc ps[j] = true ∧ (∀ i (e : j = i + 1), pLess (ps[i]'(by omega)) ps[j] = true)) ∧ Hid (Below W1.heap.size W1 wr)) (fun i _ => ps.length - (intOf i).toNat)
  case atStart => exact ⟨0, Nat.zero_le _, rfl, hide (fun j _ h => by omega), hide (Below.refl _ _)⟩
  case round =>
    obtain ⟨k, hk, rfl, HL, HB⟩ := hrel
    have g4 := cell_on (unhide HB) (unhide HA4)
    by_cases hlt : k < ps.length
    · have hBw := below_then (unhide HW) (unhide HB)
      obtain ⟨b, off, had, hall⟩ : ∃ b off, a1 = some ⟨b, off, none⟩ ∧ ∀ i (h : i < ps.length), ∃ vs vo, CellsAt wr b (off + i * 12) (pastCells ps[i] vs vo) ∧ PastAt wr vs vo ps[i] := by
        rcases unhide HC with h | ⟨b, off, h1, h2⟩
        · rw [h] at hlt; exact absurd hlt (Nat.not_lt_zero _)
        · refine ⟨b, off, h1, fun i hi => ?_⟩
          obtain ⟨vs, vo, h3, h4⟩ := h2 i hi
          exact ⟨vs, vo, h3.on hBw, h4.on hBw⟩
      subst had
      obtain ⟨vs, vo, hc, hp⟩ := hall k hlt
      have hkI : (k : Int) < (ps.length : Int) := by omega
      have hk0 : (0 : Int) ≤ (k : Int) := by omega
      have HNF : Hid (oneOk proc ps[k] = false → R = false) := hide (fun h => by rw [unhide HR5, all_false_at (oneOk proc) ps k hlt h]; rfl)
      have HYF : Hid (oneOk proc ps[k] = true → (∀ i (e : k = i + 1), pLess (ps[i]'(by omega)) ps[k] = true) → ∀ j (hj : j < ps.length), j < k + 1 → oneOk proc ps[j] = true ∧ (∀ i (e : j = i + 1), pLess (ps[i]'(by omega)) ps[j] = true)) := hide (fun h1 h2 j hj hjk => by
        by_cases e : j = k
        · subst e; exact ⟨h1, h2⟩
        · exact (unhide HL) j hj (by omega))
      have HNL : Hid (∀ i (e : k = i + 1), pLess (ps[i]'(by omega)) ps[k] = false → R = false) := hide (fun i e h => by subst e; rw [unhide HR5, ascB_no hlt h]; simp)
      have HP := hide hp
      obtain ⟨p, hpe⟩ : ∃ p, p = ps[k] := ⟨_, rfl⟩
      rw [← hpe] at hc HP HNF HYF HNL
      have HPE := hide hpe
      clear hpe hp
      have hne2 : Nonempty (On wr) := ⟨⟨wr, Below.refl _ _⟩⟩
      have kok0 : ∀ y : On wr, Calls Try.prog 37 #[pastAgg p vs vo, .int .i64 proc] y.y fun r w' => r = .returned (.bool (oneOk proc p)) ∧ Below y.y.heap.size y.y w' := fun y => l21PastOk_any p vs vo proc y.y ((unhide HP).on y.h)
      have q0 : ∀ y : On wr, y.y.cell? ⟨w.heap.size, 0, none⟩ = some (.int .i64 proc) := fun y => cell_on y.h (cell_on (unhide HB) (unhide HA0))
      have q4 : ∀ y : On wr, y.y.cell? ⟨w.heap.size, 4, none⟩ = some (.slice (some ⟨b, off, none⟩) ps.length c1) := fun y => cell_on y.h (cell_on (unhide HB) (unhide HA4))
      have e0 : ∀ y : On wr, y.y.cell? ⟨b, off + k * 12, none⟩ = some (.int .i64 p.ev.time) := fun y => cell_on y.h (hc 0 (by simp))
      have e1 : ∀ y : On wr, y.y.cell? ⟨b, off + k * 12 + 1, none⟩ = some (.int .i64 p.ev.to) := fun y => cell_on y.h (hc 1 (by simp))
      have e2 : ∀ y : On wr, y.y.cell? ⟨b, off + k * 12 + 2, none⟩ = some (.int .i64 p.ev.src) := fun y => cell_on y.h (hc 2 (by simp))
      have e3 : ∀ y : On wr, y.y.cell? ⟨b, off + k * 12 + 3, none⟩ = some (.int .i64 p.ev.count) := fun y => cell_on y.h (hc 3 (by simp))
      have e4 : ∀ y : On wr, y.y.cell? ⟨b, off + k * 12 + 4, none⟩ = some (.int .i64 p.ev.n) := fun y => cell_on y.h (hc 4 (by simp))
      have e5 : ∀ y : On wr, y.y.cell? ⟨b, off + k * 12 + 5, none⟩ = some (.int .i64 p.ev.kind) := fun y => cell_on y.h (hc 5 (by simp))
      have e6 : ∀ y : On wr, y.y.cell? ⟨b, off + k * 12 + 6, none⟩ = some (.int .i64 p.ev.arg) := fun y => cell_on y.h (hc 6 (by simp))
      have e7 : ∀ y : On wr, y.y.cell? ⟨b, off + k * 12 + 7, none⟩ = some (.int .i64 p.st.x) := fun y => cell_on y.h (hc 7 (by simp))
      have e8 : ∀ y : On wr, y.y.cell? ⟨b, off + k * 12 + 8, none⟩ = some (.int .i64 p.st.y) := fun y => cell_on y.h (hc 8 (by simp))
      have e9 : ∀ y : On wr, y.y.cell? ⟨b, off + k * 12 + 9, none⟩ = some (.int .i64 p.st.c) := fun y => cell_on y.h (hc 9 (by simp))
      have e10 : ∀ y : On wr, y.y.cell? ⟨b, off + k * 12 + 10, none⟩ = some (vs) := fun y => cell_on y.h (hc 10 (by simp))
      have e11 : ∀ y : On wr, y.y.cell? ⟨b, off + k * 12 + 11, none⟩ = some (vo) := fun y => cell_on y.h (hc 11 (by simp))
      clear hc
      cases hok : oneOk proc p
      · have kok : ∀ y : On wr, Calls Try.prog 37 #[pastAgg p vs vo, .int .i64 proc] y.y fun r w' => r = .returned (.bool false) ∧ Below y.y.heap.size y.y w' := fun y => by have := kok0 y; rwa [hok] at this
        have kl := fun w : World => specEventLess_any p.ev p.ev w
        clear kok0
        go_upto_region 6 with fail
        refine wp_region_on (by kernel_rfl) (by kernel_rfl) ?_
        repeat (first | go_big_quiet_step ((first | (go_at_call 37; exact calls_on (kok _)) | (go_at_call 38; exact calls_on (kl _)))) | quiet_step ((first | (go_at_call 37; exact calls_on (kok _)) | (go_at_call 38; exact calls_on (kl _)))))
        refine wpQuiet_nil ?_
        intro _ hw'
        obtain ⟨nq, hw''⟩ := hw'
        subst hw''
        go_wp2_with fail
        go_ret
        exact ⟨ret_bool ((unhide HNF) hok).symm, below_then hBw nq.h⟩
      · have kok : ∀ y : On wr, Calls Try.prog 37 #[pastAgg p vs vo, .int .i64 proc] y.y fun r w' => r = .returned (.bool true) ∧ Below y.y.heap.size y.y w' := fun y => by have := kok0 y; rwa [hok] at this
        clear kok0
        by_cases hkz : k = 0
        · have kl := fun w : World => specEventLess_any p.ev p.ev w
          have HKZ := hide hkz
          have hz1 : decide ((0 : Int) < (k : Int)) = false := decide_eq_false (by omega)
          have hz2 : ((0 : Int) < (k : Int)) = False := eq_false (by omega)
          have hz3 : (0 < k) = False := eq_false (by omega)
          clear hkz
          go_upto_region 6 with fail
          refine wp_region_on (by kernel_rfl) (by kernel_rfl) ?_
          repeat (first | go_big_quiet_step ((first | (go_at_call 37; exact calls_on (kok _)) | (go_at_call 38; exact calls_on (kl _)))) | quiet_step ((first | (go_at_call 37; exact calls_on (kok _)) | (go_at_call 38; exact calls_on (kl _)))))
          refine wpQuiet_nil ?_
          intro _ hw'
          obtain ⟨nq, hw''⟩ := hw'
          subst hw''
          go_wp2_with fail
          go_roundw
          case rel => exact ⟨k + 1, by omega, by simp, hide ((unhide HYF) hok (fun i e => by have := unhide HKZ; omega)), hide (below_then (unhide HB) nq.h)⟩
          case measure => (simp [intOf]; try omega)
        · obtain ⟨i, hi⟩ : ∃ i, k = i + 1 := ⟨k - 1, by omega⟩
          have hil : i < ps.length := by omega
          obtain ⟨us, uo, hc2, _⟩ := hall i hil
          have HNL2 := hide ((unhide HNL) i hi)
          have HYL : Hid (pLess (ps[i]'hil) p = true → ∀ i' (e : k = i' + 1), pLess (ps[i']'(Nat.lt_of_lt_of_le (Nat.lt_of_lt_of_eq (Nat.lt_succ_self i') e.symm) hk)) p = true) := hide (fun h i' e => by
            obtain rfl : i' = i := by omega
            exact h)
          obtain ⟨q, hqe⟩ : ∃ q, q = ps[i]'hil := ⟨_, rfl⟩
          rw [← hqe] at hc2 HNL2 HYL
          clear hqe
          have d0 : ∀ y : On wr, y.y.cell? ⟨b, off + i * 12, none⟩ = some (.int .i64 q.ev.time) := fun y => cell_on y.h (hc2 0 (by simp))
          have d1 : ∀ y : On wr, y.y.cell? ⟨b, off + i * 12 + 1, none⟩ = some (.int .i64 q.ev.to) := fun y => cell_on y.h (hc2 1 (by simp))
          have d2 : ∀ y : On wr, y.y.cell? ⟨b, off + i * 12 + 2, none⟩ = some (.int .i64 q.ev.src) := fun y => cell_on y.h (hc2 2 (by simp))
          have d3 : ∀ y : On wr, y.y.cell? ⟨b, off + i * 12 + 3, none⟩ = some (.int .i64 q.ev.count) := fun y => cell_on y.h (hc2 3 (by simp))
          have d4 : ∀ y : On wr, y.y.cell? ⟨b, off + i * 12 + 4, none⟩ = some (.int .i64 q.ev.n) := fun y => cell_on y.h (hc2 4 (by simp))
          have d5 : ∀ y : On wr, y.y.cell? ⟨b, off + i * 12 + 5, none⟩ = some (.int .i64 q.ev.kind) := fun y => cell_on y.h (hc2 5 (by simp))
          have d6 : ∀ y : On wr, y.y.cell? ⟨b, off + i * 12 + 6, none⟩ = some (.int .i64 q.ev.arg) := fun y => cell_on y.h (hc2 6 (by simp))
          have hpI : (k : Int) - 1 = (i : Int) := by omega
          have hpl : (i : Int) < (ps.length : Int) := by omega
          have hi0 : (0 : Int) ≤ (i : Int) := by omega
          have hw1 : IntKind.i64.wrap ((k : Int) - 1) = (i : Int) := by rw [IntKind.wrap_i64]; omega
          have hz1 : decide ((0 : Int) < (k : Int)) = true := decide_eq_true (by omega)
          have hz2 : (0 : Int) < (k : Int) := by omega
          have hz3 : 0 < k := by omega
          have HKI := hide hi
          clear hi hkz hc2 hall
          have kl0 := fun w : World => specEventLess_any q.ev p.ev w
          cases hless : evLess q.ev p.ev
          · have kl : ∀ w : World, Calls Try.prog 38 #[evAgg q.ev, evAgg p.ev] w fun r w' => r = .returned (.bool false) ∧ Below w.heap.size w w' := fun w => by have := kl0 w; rwa [hless] at this
            clear kl0
            go_upto_region 6 with fail
            refine wp_region_on (by kernel_rfl) (by kernel_rfl) ?_
            repeat (first | go_big_quiet_step ((first | (go_at_call 37; exact calls_on (kok _)) | (go_at_call 38; exact calls_on (kl _)))) | quiet_step ((first | (go_at_call 37; exact calls_on (kok _)) | (go_at_call 38; exact calls_on (kl _)))))
            refine wpQuiet_nil ?_
            intro _ hw'
            obtain ⟨nq, hw''⟩ := hw'
            subst hw''
            go_wp2_with fail
            go_ret
            exact ⟨ret_bool ((unhide HNL2) hless).symm, below_then hBw nq.h⟩
          · have kl : ∀ w : World, Calls Try.prog 38 #[evAgg q.ev, evAgg p.ev] w fun r w' => r = .returned (.bool true) ∧ Below w.heap.size w w' := fun w => by have := kl0 w; rwa [hless] at this
            clear kl0
            go_upto_region 6 with fail
            refine wp_region_on (by kernel_rfl) (by kernel_rfl) ?_
            repeat (first | go_big_quiet_step ((first | (go_at_call 37; exact calls_on (kok _)) | (go_at_call 38; exact calls_on (kl _)))) | quiet_step ((first | (go_at_call 37; exact calls_on (kok _)) | (go_at_call 38; exact calls_on (kl _)))))
            refine wpQuiet_nil ?_
            intro _ hw'
            obtain ⟨nq, hw''⟩ := hw'
            subst hw''
            go_wp2_with fail
            go_roundw
            case rel => exact ⟨k + 1, by omega, by simp, hide ((unhide HYF) hok ((unhide HYL) hless)), hide (below_then (unhide HB) nq.h)⟩
            case measure => (simp [intOf]; try omega)
    · have hke : k = ps.length := by omega
      have hkI : ¬ (k : Int) < (ps.length : Int) := by omega
      go_wp2_with fail
      go_ret
      refine ⟨ret_bool ?_, below_then (unhide HW) (unhide HB)⟩
      rw [unhide HR5]
      have e1 : ps.all (oneOk proc) = true := List.all_eq_true.2 (fun x hx => by
        obtain ⟨j, hj, rfl⟩ := List.getElem_of_mem hx
        exact ((unhide HL) j hj (by omega)).1)
      have e2 : ascB pLess ps = true := ascB_upto (fun j hj => ((unhide HL) (j + 1) hj (by omega)).2 j rfl)
      rw [e1, e2]; rfl
end Go.Proofs.Ytjdaedcpjfcpjaa
