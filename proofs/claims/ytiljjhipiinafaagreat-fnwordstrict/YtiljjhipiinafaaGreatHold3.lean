/- Lists in order: spec's l2Events and l2Outs. -/
import Derived.Test.YtiljjhipiinafaaGreatHold2
import Derived.Test.YtiljjhipiinafaaGreatLess4
namespace Go.Proofs.YtiljjhipiinafaaGreat
open Go.RowKit
set_option linter.unusedVariables false
set_option linter.unusedSimpArgs false

theorem inOrder_yes {α : Type} {ok : α → Bool} {less : α → α → Bool} {l : List α} {most : Int} (hl : (l.length : Int) ≤ most) (h : ∀ j (hj : j < l.length), ok l[j] = true ∧ (∀ p (e : j = p + 1), less (l[p]'(by omega)) l[j] = true)) : inOrder ok less l most = true := by
  unfold inOrder
  rw [decide_eq_true hl, Bool.true_and, Bool.and_eq_true]
  refine ⟨List.all_eq_true.2 (fun x hx => ?_), ascB_upto (fun j hj => (h (j + 1) hj).2 j rfl)⟩
  obtain ⟨i, hi, rfl⟩ := List.getElem_of_mem hx
  exact (h i hi).1

theorem inOrder_form {α : Type} {ok : α → Bool} {less : α → α → Bool} {l : List α} {most : Int} {k : Nat} (hk : k < l.length) (h : ok l[k] = false) : inOrder ok less l most = false := by
  unfold inOrder
  rw [all_false_at ok l k hk h]
  simp

theorem inOrder_asc {α : Type} {ok : α → Bool} {less : α → α → Bool} {l : List α} {most : Int} {p : Nat} (hk : p + 1 < l.length) (h : less (l[p]'(by omega)) l[p + 1] = false) : inOrder ok less l most = false := by
  unfold inOrder
  rw [ascB_no hk h]
  simp

theorem inOrder_len {α : Type} {ok : α → Bool} {less : α → α → Bool} {l : List α} {most : Int} (hl : most < (l.length : Int)) : inOrder ok less l most = false := by
  unfold inOrder
  rw [decide_eq_false (by omega)]
  simp

set_option maxRecDepth 100000 in
set_option maxHeartbeats 2000000 in
theorem l2Events_any (v : Value) (l : List EvV) (most : Int) (w : World) (h : RowsAt 7 w v (l.map evRow)) :
    Calls Tryz.prog 72 #[v, .int .i64 most] w fun e w' => e = .returned (.bool (inOrder evOk evLess l most)) ∧ Below w.heap.size w w' := by
  obtain ⟨ad, cap, hv, hlc, hm, hc⟩ := h
  rw [List.length_map] at hv hlc hm
  subst hv
  unfold maxLen at hm
  have HC := hide hc
  clear hc
  by_cases hmost : most < (l.length : Int)
  · rw [inOrder_len hmost]
    go_enter Tryz.func72, Tryz.ntmps72
    go_wp2_with fail
    go_ret
    exact ⟨rfl, Below.refl _ _⟩
  have hmo : (l.length : Int) ≤ most := by omega
  obtain ⟨R, hR⟩ : ∃ R, R = inOrder evOk evLess l most := ⟨_, rfl⟩
  rw [← hR]
  have HR := hide hR
  clear hR
  go_enter Tryz.func72, Tryz.ntmps72
  go_wp2_with fail
  go_loopw [5] (fun i wr => ∃ k : Nat, k ≤ l.length ∧ i = .int .i64 k ∧ Hid (∀ j (hj : j < l.length), j < k → evOk l[j] = true ∧ (∀ p (e : j = p + 1), evLess (l[p]'(by omega)) l[j] = true)) ∧ Below w.heap.size w wr) (fun i _ => l.length - (intOf i).toNat)
  case atStart => exact ⟨0, Nat.zero_le _, rfl, hide (fun j _ h => by omega), Below.refl _ _⟩
  case round =>
    obtain ⟨k, hk, rfl, HA, hb⟩ := hrel
    by_cases hlt : k < l.length
    · obtain ⟨b, off, had, hcc⟩ : ∃ b off, ad = some ⟨b, off, none⟩ ∧ ∀ k (hk : k < l.length) j, j < 7 → w.cell? ⟨b, off + k * 7 + j, none⟩ = some (.int .i64 ((evRow l[k]).getD j 0)) := by
        rcases unhide HC with h | ⟨b, off, h1, h2⟩
        · rw [List.map_eq_nil_iff] at h; rw [h] at hlt; exact absurd hlt (Nat.not_lt_zero _)
        · refine ⟨b, off, h1, fun k hk j hj => ?_⟩
          have := h2 k (by rw [List.length_map]; exact hk) j hj
          rwa [List.getElem_map] at this
      subst had
      have hc2 := hcc k hlt
      have HNF := hide (fun h => (unhide HR).trans (inOrder_form (less := evLess) (most := most) hlt h))
      have HYF : Hid (evOk l[k] = true → (∀ p (e : k = p + 1), evLess (l[p]'(by omega)) l[k] = true) → ∀ j (hj : j < l.length), j < k + 1 → evOk l[j] = true ∧ (∀ p (e : j = p + 1), evLess (l[p]'(by omega)) l[j] = true)) := hide (fun h1 h2 j hj hjk => by
        by_cases e : j = k
        · subst e; exact ⟨h1, h2⟩
        · exact (unhide HA) j hj (by omega))
      obtain ⟨Y, hY⟩ : ∃ Y, Y = l[k] := ⟨_, rfl⟩
      rw [← hY] at hc2 HNF HYF
      have HYK := hide hY
      clear hY
      obtain ⟨y0, y1, y2, y3, y4, y5, y6⟩ := Y
      simp only [evRow] at hc2
      have hkI : (k : Int) < (l.length : Int) := by omega
      have hkn : (0 : Int) ≤ (k : Int) := by omega
      have q20 : ∀ y : On wr, y.y.cell? ⟨b, off + k * 7, none⟩ = some (.int .i64 y0) := fun y => cell_on y.h (cell_on hb (by have := hc2 0 (by omega); simpa using this))
      have q21 : ∀ y : On wr, y.y.cell? ⟨b, off + k * 7 + 1, none⟩ = some (.int .i64 y1) := fun y => cell_on y.h (cell_on hb (by have := hc2 1 (by omega); simpa using this))
      have q22 : ∀ y : On wr, y.y.cell? ⟨b, off + k * 7 + 2, none⟩ = some (.int .i64 y2) := fun y => cell_on y.h (cell_on hb (by have := hc2 2 (by omega); simpa using this))
      have q23 : ∀ y : On wr, y.y.cell? ⟨b, off + k * 7 + 3, none⟩ = some (.int .i64 y3) := fun y => cell_on y.h (cell_on hb (by have := hc2 3 (by omega); simpa using this))
      have q24 : ∀ y : On wr, y.y.cell? ⟨b, off + k * 7 + 4, none⟩ = some (.int .i64 y4) := fun y => cell_on y.h (cell_on hb (by have := hc2 4 (by omega); simpa using this))
      have q25 : ∀ y : On wr, y.y.cell? ⟨b, off + k * 7 + 5, none⟩ = some (.int .i64 y5) := fun y => cell_on y.h (cell_on hb (by have := hc2 5 (by omega); simpa using this))
      have q26 : ∀ y : On wr, y.y.cell? ⟨b, off + k * 7 + 6, none⟩ = some (.int .i64 y6) := fun y => cell_on y.h (cell_on hb (by have := hc2 6 (by omega); simpa using this))
      cases hok : evOk ⟨y0, y1, y2, y3, y4, y5, y6⟩
      · have kok : ∀ w : World, Calls Tryz.prog 87 #[evAgg ⟨y0, y1, y2, y3, y4, y5, y6⟩] w fun r w' => r = .returned (.bool false) ∧ Below w.heap.size w w' := fun w => by have := l1EventOk_any ⟨y0, y1, y2, y3, y4, y5, y6⟩ w; rwa [hok] at this
        clear hc2 hcc
        go_wp2_with fail
        have hne : Nonempty (On wr) := ⟨⟨wr, Below.refl _ _⟩⟩
        refine wp_region_on (by kernel_rfl) (by kernel_rfl) ?_
        repeat (first | go_big_quiet_step ((first | (go_at_call 87; exact calls_on (kok _)))) | quiet_step ((first | (go_at_call 87; exact calls_on (kok _)))))
        refine wpQuiet_nil ?_
        intro _ hw'
        obtain ⟨nq, hw''⟩ := hw'
        subst hw''
        go_wp2_with fail
        go_ret
        exact ⟨ret_bool ((unhide HNF) hok).symm, below_then hb nq.h⟩
      · have kok : ∀ w : World, Calls Tryz.prog 87 #[evAgg ⟨y0, y1, y2, y3, y4, y5, y6⟩] w fun r w' => r = .returned (.bool true) ∧ Below w.heap.size w w' := fun w => by have := l1EventOk_any ⟨y0, y1, y2, y3, y4, y5, y6⟩ w; rwa [hok] at this
        rcases Nat.eq_zero_or_pos k with hk0 | hkp
        · subst hk0
          clear hc2 hcc
          simp only [Nat.zero_mul, Nat.add_zero] at q20 q21 q22 q23 q24 q25 q26
          go_wp2_with fail
          have hne : Nonempty (On wr) := ⟨⟨wr, Below.refl _ _⟩⟩
          refine wp_region_on (by kernel_rfl) (by kernel_rfl) ?_
          repeat (first | go_big_quiet_step ((first | (go_at_call 87; exact calls_on (kok _)))) | quiet_step ((first | (go_at_call 87; exact calls_on (kok _)))))
          refine wpQuiet_nil ?_
          intro _ hw'
          obtain ⟨nq, hw''⟩ := hw'
          subst hw''
          go_wp2_with fail
          go_roundw
          case rel => exact ⟨1, by omega, by go_num, hide ((unhide HYF) hok (fun p e => absurd e (by omega))), below_then hb nq.h⟩
          case measure => simp [intOf]; omega
        · obtain ⟨p, rfl⟩ : ∃ p, k = p + 1 := ⟨k - 1, by omega⟩
          have hp' : p < l.length := by omega
          have hc1 := hcc p hp'
          have HNA : Hid (evLess (l[p]'hp') ⟨y0, y1, y2, y3, y4, y5, y6⟩ = false → R = false) := hide (fun h => (unhide HR).trans (by rw [unhide HYK] at h; exact inOrder_asc hlt h))
          have HYA : Hid (evLess (l[p]'hp') ⟨y0, y1, y2, y3, y4, y5, y6⟩ = true → ∀ p' (e : p + 1 = p' + 1), evLess (l[p']'(by omega)) ⟨y0, y1, y2, y3, y4, y5, y6⟩ = true) := hide (fun h p' e => by
            obtain rfl : p' = p := by omega
            exact h)
          obtain ⟨X, hX⟩ : ∃ X, X = l[p]'hp' := ⟨_, rfl⟩
          rw [← hX] at hc1 HNA HYA
          clear hX
          obtain ⟨x0, x1, x2, x3, x4, x5, x6⟩ := X
          simp only [evRow] at hc1
          have hm7 : (0 : Int) < (p : Int) + 1 := by omega
          have hpl : (p : Int) < (l.length : Int) := by omega
          have hpk : (p : Int) + 1 < (l.length : Int) := by omega
          clear hkp
          have q10 : ∀ y : On wr, y.y.cell? ⟨b, off + p * 7, none⟩ = some (.int .i64 x0) := fun y => cell_on y.h (cell_on hb (by have := hc1 0 (by omega); simpa using this))
          have q11 : ∀ y : On wr, y.y.cell? ⟨b, off + p * 7 + 1, none⟩ = some (.int .i64 x1) := fun y => cell_on y.h (cell_on hb (by have := hc1 1 (by omega); simpa using this))
          have q12 : ∀ y : On wr, y.y.cell? ⟨b, off + p * 7 + 2, none⟩ = some (.int .i64 x2) := fun y => cell_on y.h (cell_on hb (by have := hc1 2 (by omega); simpa using this))
          have q13 : ∀ y : On wr, y.y.cell? ⟨b, off + p * 7 + 3, none⟩ = some (.int .i64 x3) := fun y => cell_on y.h (cell_on hb (by have := hc1 3 (by omega); simpa using this))
          have q14 : ∀ y : On wr, y.y.cell? ⟨b, off + p * 7 + 4, none⟩ = some (.int .i64 x4) := fun y => cell_on y.h (cell_on hb (by have := hc1 4 (by omega); simpa using this))
          have q15 : ∀ y : On wr, y.y.cell? ⟨b, off + p * 7 + 5, none⟩ = some (.int .i64 x5) := fun y => cell_on y.h (cell_on hb (by have := hc1 5 (by omega); simpa using this))
          have q16 : ∀ y : On wr, y.y.cell? ⟨b, off + p * 7 + 6, none⟩ = some (.int .i64 x6) := fun y => cell_on y.h (cell_on hb (by have := hc1 6 (by omega); simpa using this))
          clear hc1 hc2 hcc
          cases hle : evLess ⟨x0, x1, x2, x3, x4, x5, x6⟩ ⟨y0, y1, y2, y3, y4, y5, y6⟩
          · have kle : ∀ w : World, Calls Tryz.prog 75 #[evAgg ⟨x0, x1, x2, x3, x4, x5, x6⟩, evAgg ⟨y0, y1, y2, y3, y4, y5, y6⟩] w fun r w' => r = .returned (.bool false) ∧ Below w.heap.size w w' := fun w => by have := specEventLess_any ⟨x0, x1, x2, x3, x4, x5, x6⟩ ⟨y0, y1, y2, y3, y4, y5, y6⟩ w; rwa [hle] at this
            go_wp2_with fail
            have hne : Nonempty (On wr) := ⟨⟨wr, Below.refl _ _⟩⟩
            refine wp_region_on (by kernel_rfl) (by kernel_rfl) ?_
            repeat (first | go_big_quiet_step ((first | (go_at_call 87; exact calls_on (kok _)) | (go_at_call 75; exact calls_on (kle _)))) | quiet_step ((first | (go_at_call 87; exact calls_on (kok _)) | (go_at_call 75; exact calls_on (kle _)))))
            refine wpQuiet_nil ?_
            intro _ hw'
            obtain ⟨nq, hw''⟩ := hw'
            subst hw''
            go_wp2_with fail
            go_ret
            exact ⟨ret_bool ((unhide HNA) hle).symm, below_then hb nq.h⟩
          · have kle : ∀ w : World, Calls Tryz.prog 75 #[evAgg ⟨x0, x1, x2, x3, x4, x5, x6⟩, evAgg ⟨y0, y1, y2, y3, y4, y5, y6⟩] w fun r w' => r = .returned (.bool true) ∧ Below w.heap.size w w' := fun w => by have := specEventLess_any ⟨x0, x1, x2, x3, x4, x5, x6⟩ ⟨y0, y1, y2, y3, y4, y5, y6⟩ w; rwa [hle] at this
            go_wp2_with fail
            have hne : Nonempty (On wr) := ⟨⟨wr, Below.refl _ _⟩⟩
            refine wp_region_on (by kernel_rfl) (by kernel_rfl) ?_
            repeat (first | go_big_quiet_step ((first | (go_at_call 87; exact calls_on (kok _)) | (go_at_call 75; exact calls_on (kle _)))) | quiet_step ((first | (go_at_call 87; exact calls_on (kok _)) | (go_at_call 75; exact calls_on (kle _)))))
            refine wpQuiet_nil ?_
            intro _ hw'
            obtain ⟨nq, hw''⟩ := hw'
            subst hw''
            go_wp2_with fail
            go_roundw
            case rel => exact ⟨p + 1 + 1, by omega, by go_num, hide ((unhide HYF) hok ((unhide HYA) hle)), below_then hb nq.h⟩
            case measure => simp [intOf]; omega
    · have hke : k = l.length := by omega
      have HFIN := hide ((unhide HR).trans (inOrder_yes hmo (fun j hj => (unhide HA) j hj (by omega))))
      clear hke
      have hkn : ¬ (k : Int) < (l.length : Int) := by omega
      go_wp2_with fail
      go_ret
      exact ⟨ret_bool (unhide HFIN).symm, hb⟩

end Go.Proofs.YtiljjhipiinafaaGreat
