/- Lists in order: impl's ascending, eventsInOrder, outsInOrder. -/
import Derived.Test.YtiljjhipiinafaaGreatHold1
namespace Go.Proofs.YtiljjhipiinafaaGreat
open Go.RowKit
set_option linter.unusedVariables false
set_option linter.unusedSimpArgs false

theorem ascB_upto {α : Type} {less : α → α → Bool} {l : List α} (h : ∀ j (hj : j + 1 < l.length), less (l[j]'(by omega)) l[j + 1] = true) : ascB less l = true := (ascB_iff less l).2 h

def inOrder {α : Type} (ok : α → Bool) (less : α → α → Bool) (l : List α) (most : Int) : Bool := decide ((l.length : Int) ≤ most) && l.all ok && ascB less l

set_option maxRecDepth 100000 in
set_option maxHeartbeats 1000000 in
theorem ascendingEvent_any (v : Value) (l : List EvV) (w : World) (h : RowsAt 7 w v (l.map evRow)) :
    Calls Tryz.prog 62 #[v, .func (.func 63) #[] #[]] w fun e w' => e = .returned (.bool (ascB evLess l)) ∧ Below w.heap.size w w' := by
  obtain ⟨ad, cap, hv, hlc, hm, hc⟩ := h
  rw [List.length_map] at hv hlc hm
  subst hv
  unfold maxLen at hm
  have HC := hide hc
  clear hc
  go_enter Tryz.func62, Tryz.ntmps62
  go_wp2_with fail
  go_loopw [5] (fun i wr => ∃ m : Nat, 1 ≤ m ∧ (m ≤ l.length ∨ m = 1) ∧ i = .int .i64 m ∧ Hid (∀ j (hj : j + 1 < l.length), j + 1 < m → evLess (l[j]'(by omega)) l[j + 1] = true) ∧ Below w.heap.size w wr) (fun i _ => l.length - (intOf i).toNat)
  case atStart => exact ⟨1, by omega, Or.inr rfl, rfl, hide (fun j _ h => by omega), Below.refl _ _⟩
  case round =>
    obtain ⟨m, hm1, hm2, rfl, HA, hb⟩ := hrel
    by_cases hlt : m < l.length
    · obtain ⟨p, hp⟩ : ∃ p, m = p + 1 := ⟨m - 1, by omega⟩
      obtain ⟨b, off, had, hcc⟩ : ∃ b off, ad = some ⟨b, off, none⟩ ∧ ∀ k (hk : k < l.length) j, j < 7 → w.cell? ⟨b, off + k * 7 + j, none⟩ = some (.int .i64 ((evRow l[k]).getD j 0)) := by
        rcases unhide HC with h | ⟨b, off, h1, h2⟩
        · rw [List.map_eq_nil_iff] at h; rw [h] at hlt; exact absurd hlt (Nat.not_lt_zero _)
        · refine ⟨b, off, h1, fun k hk j hj => ?_⟩
          have := h2 k (by rw [List.length_map]; exact hk) j hj
          rwa [List.getElem_map] at this
      subst had
      have hc1 := hcc p (by omega)
      have hc2 := hcc m hlt
      have HY : Hid (evLess (l[p]'(by omega)) l[m] = true → ∀ j (hj : j + 1 < l.length), j + 1 < m + 1 → evLess (l[j]'(by omega)) l[j + 1] = true) := hide (fun h j hj hjm => by
        by_cases e : j = p
        · subst e; subst hp; exact h
        · exact (unhide HA) j hj (by omega))
      have HNO : Hid (evLess (l[p]'(by omega)) l[m] = false → ascB evLess l = false) := hide (fun h => by subst hp; exact ascB_no hlt h)
      clear hcc
      obtain ⟨X, hX⟩ : ∃ X, X = l[p]'(by omega) := ⟨_, rfl⟩
      obtain ⟨Y, hY⟩ : ∃ Y, Y = l[m] := ⟨_, rfl⟩
      rw [← hX] at hc1 HY HNO
      rw [← hY] at hc2 HY HNO
      clear hX hY
      obtain ⟨x0, x1, x2, x3, x4, x5, x6⟩ := X
      obtain ⟨y0, y1, y2, y3, y4, y5, y6⟩ := Y
      simp only [evRow] at hc1 hc2
      have hpI : (m : Int) - 1 = (p : Int) := by omega
      have hpl : (p : Int) < (l.length : Int) := by omega
      have hml : (m : Int) < (l.length : Int) := by omega
      clear hp
      have q10 : ∀ y : On wr, y.y.cell? ⟨b, off + p * 7, none⟩ = some (.int .i64 x0) := fun y => cell_on y.h (cell_on hb (by have := hc1 0 (by omega); simpa using this))
      have q20 : ∀ y : On wr, y.y.cell? ⟨b, off + m * 7, none⟩ = some (.int .i64 y0) := fun y => cell_on y.h (cell_on hb (by have := hc2 0 (by omega); simpa using this))
      have q11 : ∀ y : On wr, y.y.cell? ⟨b, off + p * 7 + 1, none⟩ = some (.int .i64 x1) := fun y => cell_on y.h (cell_on hb (by have := hc1 1 (by omega); simpa using this))
      have q21 : ∀ y : On wr, y.y.cell? ⟨b, off + m * 7 + 1, none⟩ = some (.int .i64 y1) := fun y => cell_on y.h (cell_on hb (by have := hc2 1 (by omega); simpa using this))
      have q12 : ∀ y : On wr, y.y.cell? ⟨b, off + p * 7 + 2, none⟩ = some (.int .i64 x2) := fun y => cell_on y.h (cell_on hb (by have := hc1 2 (by omega); simpa using this))
      have q22 : ∀ y : On wr, y.y.cell? ⟨b, off + m * 7 + 2, none⟩ = some (.int .i64 y2) := fun y => cell_on y.h (cell_on hb (by have := hc2 2 (by omega); simpa using this))
      have q13 : ∀ y : On wr, y.y.cell? ⟨b, off + p * 7 + 3, none⟩ = some (.int .i64 x3) := fun y => cell_on y.h (cell_on hb (by have := hc1 3 (by omega); simpa using this))
      have q23 : ∀ y : On wr, y.y.cell? ⟨b, off + m * 7 + 3, none⟩ = some (.int .i64 y3) := fun y => cell_on y.h (cell_on hb (by have := hc2 3 (by omega); simpa using this))
      have q14 : ∀ y : On wr, y.y.cell? ⟨b, off + p * 7 + 4, none⟩ = some (.int .i64 x4) := fun y => cell_on y.h (cell_on hb (by have := hc1 4 (by omega); simpa using this))
      have q24 : ∀ y : On wr, y.y.cell? ⟨b, off + m * 7 + 4, none⟩ = some (.int .i64 y4) := fun y => cell_on y.h (cell_on hb (by have := hc2 4 (by omega); simpa using this))
      have q15 : ∀ y : On wr, y.y.cell? ⟨b, off + p * 7 + 5, none⟩ = some (.int .i64 x5) := fun y => cell_on y.h (cell_on hb (by have := hc1 5 (by omega); simpa using this))
      have q25 : ∀ y : On wr, y.y.cell? ⟨b, off + m * 7 + 5, none⟩ = some (.int .i64 y5) := fun y => cell_on y.h (cell_on hb (by have := hc2 5 (by omega); simpa using this))
      have q16 : ∀ y : On wr, y.y.cell? ⟨b, off + p * 7 + 6, none⟩ = some (.int .i64 x6) := fun y => cell_on y.h (cell_on hb (by have := hc1 6 (by omega); simpa using this))
      have q26 : ∀ y : On wr, y.y.cell? ⟨b, off + m * 7 + 6, none⟩ = some (.int .i64 y6) := fun y => cell_on y.h (cell_on hb (by have := hc2 6 (by omega); simpa using this))
      clear hc1 hc2
      cases hok : evLess ⟨x0, x1, x2, x3, x4, x5, x6⟩ ⟨y0, y1, y2, y3, y4, y5, y6⟩
      · go_wp2_with fail
        have hne : Nonempty (On wr) := ⟨⟨wr, Below.refl _ _⟩⟩
        refine wp_region_on (by kernel_rfl) (by kernel_rfl) ?_
        repeat (first | go_big_quiet_step ((go_at_call 63; exact calls_on (implEventLess_any ⟨x0, x1, x2, x3, x4, x5, x6⟩ ⟨y0, y1, y2, y3, y4, y5, y6⟩ _))) | quiet_step ((go_at_call 63; exact calls_on (implEventLess_any ⟨x0, x1, x2, x3, x4, x5, x6⟩ ⟨y0, y1, y2, y3, y4, y5, y6⟩ _))))
        refine wpQuiet_nil ?_
        intro _ hw'
        obtain ⟨nq, hw''⟩ := hw'
        subst hw''
        go_wp2_with fail
        go_ret
        exact ⟨ret_bool ((unhide HNO) hok).symm, below_then hb nq.h⟩
      · go_wp2_with fail
        have hne : Nonempty (On wr) := ⟨⟨wr, Below.refl _ _⟩⟩
        refine wp_region_on (by kernel_rfl) (by kernel_rfl) ?_
        repeat (first | go_big_quiet_step ((go_at_call 63; exact calls_on (implEventLess_any ⟨x0, x1, x2, x3, x4, x5, x6⟩ ⟨y0, y1, y2, y3, y4, y5, y6⟩ _))) | quiet_step ((go_at_call 63; exact calls_on (implEventLess_any ⟨x0, x1, x2, x3, x4, x5, x6⟩ ⟨y0, y1, y2, y3, y4, y5, y6⟩ _))))
        refine wpQuiet_nil ?_
        intro _ hw'
        obtain ⟨nq, hw''⟩ := hw'
        subst hw''
        go_wp2_with fail
        go_roundw
        case rel => exact ⟨m + 1, by omega, Or.inl (by omega), by go_num, hide ((unhide HY) hok), below_then hb nq.h⟩
        case measure => simp [intOf]; omega
    · have hml : ¬ (m : Int) < (l.length : Int) := by omega
      go_wp2_with fail
      go_ret
      exact ⟨ret_bool (ascB_upto (fun j hj => (unhide HA) j hj (by omega))).symm, hb⟩

set_option maxHeartbeats 1000000 in
theorem eventsInOrder_any (v : Value) (l : List EvV) (most : Int) (w : World) (h : RowsAt 7 w v (l.map evRow)) :
    Calls Tryz.prog 32 #[v, .int .i64 most] w fun e w' => e = .returned (.bool (inOrder evOk evLess l most)) ∧ Below w.heap.size w w' := by
  obtain ⟨a, c, hv⟩ : ∃ a c, v = .slice a l.length c := by obtain ⟨a, c, h, _⟩ := h; rw [List.length_map] at h; exact ⟨a, c, h⟩
  subst hv
  have hm : (l.length : Int) ≤ 9223372036854775807 := by obtain ⟨_, _, _, _, hm, _⟩ := h; unfold maxLen at hm; rw [List.length_map] at hm; omega
  have H := hide h
  clear h
  unfold inOrder
  by_cases h1 : (l.length : Int) ≤ most
  · rw [decide_eq_true h1]
    cases h2 : l.all evOk
    · go_enter Tryz.func32, Tryz.ntmps32
      go_wp2_with (go_at_call 60; refine (allHoldEvent_any _ l _ (unhide H)).mono ?_; rw [h2]; rintro e w1 ⟨rfl, hb1⟩)
      go_ret
      exact ⟨rfl, hb1⟩
    · go_enter Tryz.func32, Tryz.ntmps32
      go_wp2_with fail
      refine (allHoldEvent_any _ l _ (unhide H)).mono ?_
      rw [h2]
      rintro e w1 ⟨rfl, hb1⟩
      go_wp2_with fail
      refine (ascendingEvent_any _ l _ ((unhide H).on hb1)).mono ?_
      rintro e w2 ⟨rfl, hb2⟩
      go_wp2_with fail
      go_ret
      exact ⟨rfl, below_then hb1 hb2⟩
  · rw [decide_eq_false h1]
    go_enter Tryz.func32, Tryz.ntmps32
    go_wp2_with fail
    go_ret
    exact ⟨rfl, Below.refl _ _⟩

set_option maxRecDepth 100000 in
set_option maxHeartbeats 1000000 in
theorem ascendingOut_any (v : Value) (l : List OutV) (w : World) (h : RowsAt 5 w v (l.map outRow)) :
    Calls Tryz.prog 66 #[v, .func (.func 67) #[] #[]] w fun e w' => e = .returned (.bool (ascB outLess l)) ∧ Below w.heap.size w w' := by
  obtain ⟨ad, cap, hv, hlc, hm, hc⟩ := h
  rw [List.length_map] at hv hlc hm
  subst hv
  unfold maxLen at hm
  have HC := hide hc
  clear hc
  go_enter Tryz.func66, Tryz.ntmps66
  go_wp2_with fail
  go_loopw [5] (fun i wr => ∃ m : Nat, 1 ≤ m ∧ (m ≤ l.length ∨ m = 1) ∧ i = .int .i64 m ∧ Hid (∀ j (hj : j + 1 < l.length), j + 1 < m → outLess (l[j]'(by omega)) l[j + 1] = true) ∧ Below w.heap.size w wr) (fun i _ => l.length - (intOf i).toNat)
  case atStart => exact ⟨1, by omega, Or.inr rfl, rfl, hide (fun j _ h => by omega), Below.refl _ _⟩
  case round =>
    obtain ⟨m, hm1, hm2, rfl, HA, hb⟩ := hrel
    by_cases hlt : m < l.length
    · obtain ⟨p, hp⟩ : ∃ p, m = p + 1 := ⟨m - 1, by omega⟩
      obtain ⟨b, off, had, hcc⟩ : ∃ b off, ad = some ⟨b, off, none⟩ ∧ ∀ k (hk : k < l.length) j, j < 5 → w.cell? ⟨b, off + k * 5 + j, none⟩ = some (.int .i64 ((outRow l[k]).getD j 0)) := by
        rcases unhide HC with h | ⟨b, off, h1, h2⟩
        · rw [List.map_eq_nil_iff] at h; rw [h] at hlt; exact absurd hlt (Nat.not_lt_zero _)
        · refine ⟨b, off, h1, fun k hk j hj => ?_⟩
          have := h2 k (by rw [List.length_map]; exact hk) j hj
          rwa [List.getElem_map] at this
      subst had
      have hc1 := hcc p (by omega)
      have hc2 := hcc m hlt
      have HY : Hid (outLess (l[p]'(by omega)) l[m] = true → ∀ j (hj : j + 1 < l.length), j + 1 < m + 1 → outLess (l[j]'(by omega)) l[j + 1] = true) := hide (fun h j hj hjm => by
        by_cases e : j = p
        · subst e; subst hp; exact h
        · exact (unhide HA) j hj (by omega))
      have HNO : Hid (outLess (l[p]'(by omega)) l[m] = false → ascB outLess l = false) := hide (fun h => by subst hp; exact ascB_no hlt h)
      clear hcc
      obtain ⟨X, hX⟩ : ∃ X, X = l[p]'(by omega) := ⟨_, rfl⟩
      obtain ⟨Y, hY⟩ : ∃ Y, Y = l[m] := ⟨_, rfl⟩
      rw [← hX] at hc1 HY HNO
      rw [← hY] at hc2 HY HNO
      clear hX hY
      obtain ⟨x0, x1, x2, x3, x4⟩ := X
      obtain ⟨y0, y1, y2, y3, y4⟩ := Y
      simp only [outRow] at hc1 hc2
      have hpI : (m : Int) - 1 = (p : Int) := by omega
      have hpl : (p : Int) < (l.length : Int) := by omega
      have hml : (m : Int) < (l.length : Int) := by omega
      clear hp
      have q10 : ∀ y : On wr, y.y.cell? ⟨b, off + p * 5, none⟩ = some (.int .i64 x0) := fun y => cell_on y.h (cell_on hb (by have := hc1 0 (by omega); simpa using this))
      have q20 : ∀ y : On wr, y.y.cell? ⟨b, off + m * 5, none⟩ = some (.int .i64 y0) := fun y => cell_on y.h (cell_on hb (by have := hc2 0 (by omega); simpa using this))
      have q11 : ∀ y : On wr, y.y.cell? ⟨b, off + p * 5 + 1, none⟩ = some (.int .i64 x1) := fun y => cell_on y.h (cell_on hb (by have := hc1 1 (by omega); simpa using this))
      have q21 : ∀ y : On wr, y.y.cell? ⟨b, off + m * 5 + 1, none⟩ = some (.int .i64 y1) := fun y => cell_on y.h (cell_on hb (by have := hc2 1 (by omega); simpa using this))
      have q12 : ∀ y : On wr, y.y.cell? ⟨b, off + p * 5 + 2, none⟩ = some (.int .i64 x2) := fun y => cell_on y.h (cell_on hb (by have := hc1 2 (by omega); simpa using this))
      have q22 : ∀ y : On wr, y.y.cell? ⟨b, off + m * 5 + 2, none⟩ = some (.int .i64 y2) := fun y => cell_on y.h (cell_on hb (by have := hc2 2 (by omega); simpa using this))
      have q13 : ∀ y : On wr, y.y.cell? ⟨b, off + p * 5 + 3, none⟩ = some (.int .i64 x3) := fun y => cell_on y.h (cell_on hb (by have := hc1 3 (by omega); simpa using this))
      have q23 : ∀ y : On wr, y.y.cell? ⟨b, off + m * 5 + 3, none⟩ = some (.int .i64 y3) := fun y => cell_on y.h (cell_on hb (by have := hc2 3 (by omega); simpa using this))
      have q14 : ∀ y : On wr, y.y.cell? ⟨b, off + p * 5 + 4, none⟩ = some (.int .i64 x4) := fun y => cell_on y.h (cell_on hb (by have := hc1 4 (by omega); simpa using this))
      have q24 : ∀ y : On wr, y.y.cell? ⟨b, off + m * 5 + 4, none⟩ = some (.int .i64 y4) := fun y => cell_on y.h (cell_on hb (by have := hc2 4 (by omega); simpa using this))
      clear hc1 hc2
      cases hok : outLess ⟨x0, x1, x2, x3, x4⟩ ⟨y0, y1, y2, y3, y4⟩
      · go_wp2_with fail
        have hne : Nonempty (On wr) := ⟨⟨wr, Below.refl _ _⟩⟩
        refine wp_region_on (by kernel_rfl) (by kernel_rfl) ?_
        repeat (first | go_big_quiet_step ((go_at_call 67; exact calls_on (implOutLess_any ⟨x0, x1, x2, x3, x4⟩ ⟨y0, y1, y2, y3, y4⟩ _))) | quiet_step ((go_at_call 67; exact calls_on (implOutLess_any ⟨x0, x1, x2, x3, x4⟩ ⟨y0, y1, y2, y3, y4⟩ _))))
        refine wpQuiet_nil ?_
        intro _ hw'
        obtain ⟨nq, hw''⟩ := hw'
        subst hw''
        go_wp2_with fail
        go_ret
        exact ⟨ret_bool ((unhide HNO) hok).symm, below_then hb nq.h⟩
      · go_wp2_with fail
        have hne : Nonempty (On wr) := ⟨⟨wr, Below.refl _ _⟩⟩
        refine wp_region_on (by kernel_rfl) (by kernel_rfl) ?_
        repeat (first | go_big_quiet_step ((go_at_call 67; exact calls_on (implOutLess_any ⟨x0, x1, x2, x3, x4⟩ ⟨y0, y1, y2, y3, y4⟩ _))) | quiet_step ((go_at_call 67; exact calls_on (implOutLess_any ⟨x0, x1, x2, x3, x4⟩ ⟨y0, y1, y2, y3, y4⟩ _))))
        refine wpQuiet_nil ?_
        intro _ hw'
        obtain ⟨nq, hw''⟩ := hw'
        subst hw''
        go_wp2_with fail
        go_roundw
        case rel => exact ⟨m + 1, by omega, Or.inl (by omega), by go_num, hide ((unhide HY) hok), below_then hb nq.h⟩
        case measure => simp [intOf]; omega
    · have hml : ¬ (m : Int) < (l.length : Int) := by omega
      go_wp2_with fail
      go_ret
      exact ⟨ret_bool (ascB_upto (fun j hj => (unhide HA) j hj (by omega))).symm, hb⟩

set_option maxHeartbeats 1000000 in
theorem outsInOrder_any (v : Value) (l : List OutV) (most : Int) (w : World) (h : RowsAt 5 w v (l.map outRow)) :
    Calls Tryz.prog 33 #[v, .int .i64 most] w fun e w' => e = .returned (.bool (inOrder outOk outLess l most)) ∧ Below w.heap.size w w' := by
  obtain ⟨a, c, hv⟩ : ∃ a c, v = .slice a l.length c := by obtain ⟨a, c, h, _⟩ := h; rw [List.length_map] at h; exact ⟨a, c, h⟩
  subst hv
  have hm : (l.length : Int) ≤ 9223372036854775807 := by obtain ⟨_, _, _, _, hm, _⟩ := h; unfold maxLen at hm; rw [List.length_map] at hm; omega
  have H := hide h
  clear h
  unfold inOrder
  by_cases h1 : (l.length : Int) ≤ most
  · rw [decide_eq_true h1]
    cases h2 : l.all outOk
    · go_enter Tryz.func33, Tryz.ntmps33
      go_wp2_with (go_at_call 64; refine (allHoldOut_any _ l _ (unhide H)).mono ?_; rw [h2]; rintro e w1 ⟨rfl, hb1⟩)
      go_ret
      exact ⟨rfl, hb1⟩
    · go_enter Tryz.func33, Tryz.ntmps33
      go_wp2_with fail
      refine (allHoldOut_any _ l _ (unhide H)).mono ?_
      rw [h2]
      rintro e w1 ⟨rfl, hb1⟩
      go_wp2_with fail
      refine (ascendingOut_any _ l _ ((unhide H).on hb1)).mono ?_
      rintro e w2 ⟨rfl, hb2⟩
      go_wp2_with fail
      go_ret
      exact ⟨rfl, below_then hb1 hb2⟩
  · rw [decide_eq_false h1]
    go_enter Tryz.func33, Tryz.ntmps33
    go_wp2_with fail
    go_ret
    exact ⟨rfl, Below.refl _ _⟩

end Go.Proofs.YtiljjhipiinafaaGreat
