/- Lists of states, events and things let out: impl's allHold and ascending. -/
import Derived.Test.YtiljjhipiinafaaGreatForm
import Derived.Test.YtiljjhipiinafaaGreatFlat
import Derived.Test.YtiljjhipiinafaaGreatLess3
import Derived.Test.YtiljjhipiinafaaGreatLess5
namespace Go.Proofs.YtiljjhipiinafaaGreat
open Go.RowKit
set_option linter.unusedVariables false
set_option linter.unusedSimpArgs false

def stR (s : StV) : List Int := [s.x, s.y, s.c]

/-- Each is ahead of the next. -/
def ascB {α : Type} (less : α → α → Bool) : List α → Bool
  | [] => true
  | [_] => true
  | a :: b :: t => less a b && ascB less (b :: t)

theorem ascB_iff {α : Type} (less : α → α → Bool) : ∀ (l : List α), ascB less l = true ↔ ∀ j (h : j + 1 < l.length), less (l[j]'(by omega)) l[j + 1] = true
  | [] => by simp [ascB]
  | [a] => by simp [ascB]
  | a :: b :: t => by
    have ih := ascB_iff less (b :: t)
    simp only [ascB, Bool.and_eq_true, ih]
    constructor
    · rintro ⟨h1, h2⟩ j hj
      cases j with
      | zero => exact h1
      | succ j => exact h2 j (by simpa using hj)
    · intro h
      exact ⟨h 0 (by simp), fun j hj => h (j + 1) (by simpa using hj)⟩

theorem ascB_no {α : Type} {less : α → α → Bool} {l : List α} {j : Nat} (hj : j + 1 < l.length) (h : less (l[j]'(by omega)) l[j + 1] = false) : ascB less l = false := by
  cases hl : ascB less l
  · rfl
  · have := (ascB_iff less l).1 hl j hj
    rw [h] at this; cases this

set_option maxRecDepth 100000 in
set_option maxHeartbeats 1000000 in
theorem allHoldEvent_any (v : Value) (xs : List EvV) (w : World) (h : RowsAt 7 w v (xs.map evRow)) :
    Calls Tryz.prog 60 #[v, .func (.func 61) #[] #[]] w fun e w' => e = .returned (.bool (xs.all evOk)) ∧ Below w.heap.size w w' := by
  obtain ⟨ad, cap, hv, hlc, hm, hc⟩ := h
  rw [List.length_map] at hv hlc hm
  subst hv
  unfold maxLen at hm
  have HC := hide hc
  clear hc
  go_enter Tryz.func60, Tryz.ntmps60
  go_wp2_with fail
  go_loopw [9] (fun i wr => ∃ k : Nat, k ≤ xs.length ∧ i = .int .i64 k ∧ Hid ((xs.take k).all evOk = true) ∧ Below w.heap.size w wr) (fun i _ => xs.length - (intOf i).toNat)
  case atStart => exact ⟨0, Nat.zero_le _, rfl, hide (by simp), Below.refl _ _⟩
  case round =>
    obtain ⟨k, hk, rfl, HA, hb⟩ := hrel
    by_cases hlt : k < xs.length
    · obtain ⟨b, off, had, hcc⟩ : ∃ b off, ad = some ⟨b, off, none⟩ ∧ ∀ j, j < 7 → w.cell? ⟨b, off + k * 7 + j, none⟩ = some (.int .i64 ((evRow xs[k]).getD j 0)) := by
        rcases unhide HC with h | ⟨b, off, h1, h2⟩
        · rw [List.map_eq_nil_iff] at h; rw [h] at hlt; exact absurd hlt (Nat.not_lt_zero _)
        · refine ⟨b, off, h1, fun j hj => ?_⟩
          have := h2 k (by rw [List.length_map]; exact hlt) j hj
          rwa [List.getElem_map] at this
      subst had
      have hkI : (k : Int) < (xs.length : Int) := by omega
      have c0 := cell_on hb (hcc 0 (by omega))
      have c1 := cell_on hb (hcc 1 (by omega))
      have c2 := cell_on hb (hcc 2 (by omega))
      have c3 := cell_on hb (hcc 3 (by omega))
      have c4 := cell_on hb (hcc 4 (by omega))
      have c5 := cell_on hb (hcc 5 (by omega))
      have c6 := cell_on hb (hcc 6 (by omega))
      simp only [Nat.add_zero] at c0
      clear hcc
      have HY := hide (fun h => all_take_more evOk xs k hlt (unhide HA) h)
      have HNO := hide (fun h => all_false_at evOk xs k hlt h)
      obtain ⟨x, hx⟩ : ∃ x, x = xs[k] := ⟨_, rfl⟩
      rw [← hx] at c0 c1 c2 c3 c4 c5 c6 HY HNO
      clear hx
      obtain ⟨x0, x1, x2, x3, x4, x5, x6⟩ := x
      have q : ∀ z, (evRow ⟨x0, x1, x2, x3, x4, x5, x6⟩).getD z 0 = [x0, x1, x2, x3, x4, x5, x6].getD z 0 := fun _ => rfl
      have c0 : wr.cell? ⟨b, off + k * 7, none⟩ = some (.int .i64 x0) := c0
      have c1 : wr.cell? ⟨b, off + k * 7 + 1, none⟩ = some (.int .i64 x1) := c1
      have c2 : wr.cell? ⟨b, off + k * 7 + 2, none⟩ = some (.int .i64 x2) := c2
      have c3 : wr.cell? ⟨b, off + k * 7 + 3, none⟩ = some (.int .i64 x3) := c3
      have c4 : wr.cell? ⟨b, off + k * 7 + 4, none⟩ = some (.int .i64 x4) := c4
      have c5 : wr.cell? ⟨b, off + k * 7 + 5, none⟩ = some (.int .i64 x5) := c5
      have c6 : wr.cell? ⟨b, off + k * 7 + 6, none⟩ = some (.int .i64 x6) := c6
      clear q
      cases hok : evOk ⟨x0, x1, x2, x3, x4, x5, x6⟩
      · go_wp2_with (go_at_call 61; refine (eventInForm_any ⟨x0, x1, x2, x3, x4, x5, x6⟩ _).mono ?_; rw [hok]; rintro e w' ⟨rfl, hb2⟩)
        go_ret
        exact ⟨ret_bool ((unhide HNO) hok).symm, below_then (hb.alloc hb.size _) hb2⟩
      · go_wp2_with (go_at_call 61; refine (eventInForm_any ⟨x0, x1, x2, x3, x4, x5, x6⟩ _).mono ?_; rw [hok]; rintro e w' ⟨rfl, hb2⟩)
        go_roundw
        case rel => exact ⟨k + 1, by omega, by go_num, hide ((unhide HY) hok), below_then (hb.alloc hb.size _) hb2⟩
        case measure => simp [intOf]; omega
    · have hke : k = xs.length := by omega
      subst hke
      go_wp2_with fail
      go_ret
      exact ⟨ret_bool (by have := unhide HA; rw [List.take_length] at this; exact this.symm), hb⟩

set_option maxRecDepth 100000 in
set_option maxHeartbeats 1000000 in
theorem allHoldOut_any (v : Value) (xs : List OutV) (w : World) (h : RowsAt 5 w v (xs.map outRow)) :
    Calls Tryz.prog 64 #[v, .func (.func 65) #[] #[]] w fun e w' => e = .returned (.bool (xs.all outOk)) ∧ Below w.heap.size w w' := by
  obtain ⟨ad, cap, hv, hlc, hm, hc⟩ := h
  rw [List.length_map] at hv hlc hm
  subst hv
  unfold maxLen at hm
  have HC := hide hc
  clear hc
  go_enter Tryz.func64, Tryz.ntmps64
  go_wp2_with fail
  go_loopw [9] (fun i wr => ∃ k : Nat, k ≤ xs.length ∧ i = .int .i64 k ∧ Hid ((xs.take k).all outOk = true) ∧ Below w.heap.size w wr) (fun i _ => xs.length - (intOf i).toNat)
  case atStart => exact ⟨0, Nat.zero_le _, rfl, hide (by simp), Below.refl _ _⟩
  case round =>
    obtain ⟨k, hk, rfl, HA, hb⟩ := hrel
    by_cases hlt : k < xs.length
    · obtain ⟨b, off, had, hcc⟩ : ∃ b off, ad = some ⟨b, off, none⟩ ∧ ∀ j, j < 5 → w.cell? ⟨b, off + k * 5 + j, none⟩ = some (.int .i64 ((outRow xs[k]).getD j 0)) := by
        rcases unhide HC with h | ⟨b, off, h1, h2⟩
        · rw [List.map_eq_nil_iff] at h; rw [h] at hlt; exact absurd hlt (Nat.not_lt_zero _)
        · refine ⟨b, off, h1, fun j hj => ?_⟩
          have := h2 k (by rw [List.length_map]; exact hlt) j hj
          rwa [List.getElem_map] at this
      subst had
      have hkI : (k : Int) < (xs.length : Int) := by omega
      have c0 := cell_on hb (hcc 0 (by omega))
      have c1 := cell_on hb (hcc 1 (by omega))
      have c2 := cell_on hb (hcc 2 (by omega))
      have c3 := cell_on hb (hcc 3 (by omega))
      have c4 := cell_on hb (hcc 4 (by omega))
      simp only [Nat.add_zero] at c0
      clear hcc
      have HY := hide (fun h => all_take_more outOk xs k hlt (unhide HA) h)
      have HNO := hide (fun h => all_false_at outOk xs k hlt h)
      obtain ⟨x, hx⟩ : ∃ x, x = xs[k] := ⟨_, rfl⟩
      rw [← hx] at c0 c1 c2 c3 c4 HY HNO
      clear hx
      obtain ⟨x0, x1, x2, x3, x4⟩ := x
      have q : ∀ z, (outRow ⟨x0, x1, x2, x3, x4⟩).getD z 0 = [x0, x1, x2, x3, x4].getD z 0 := fun _ => rfl
      have c0 : wr.cell? ⟨b, off + k * 5, none⟩ = some (.int .i64 x0) := c0
      have c1 : wr.cell? ⟨b, off + k * 5 + 1, none⟩ = some (.int .i64 x1) := c1
      have c2 : wr.cell? ⟨b, off + k * 5 + 2, none⟩ = some (.int .i64 x2) := c2
      have c3 : wr.cell? ⟨b, off + k * 5 + 3, none⟩ = some (.int .i64 x3) := c3
      have c4 : wr.cell? ⟨b, off + k * 5 + 4, none⟩ = some (.int .i64 x4) := c4
      clear q
      cases hok : outOk ⟨x0, x1, x2, x3, x4⟩
      · go_wp2_with (go_at_call 65; refine (outInForm_any ⟨x0, x1, x2, x3, x4⟩ _).mono ?_; rw [hok]; rintro e w' ⟨rfl, hb2⟩)
        go_ret
        exact ⟨ret_bool ((unhide HNO) hok).symm, below_then (hb.alloc hb.size _) hb2⟩
      · go_wp2_with (go_at_call 65; refine (outInForm_any ⟨x0, x1, x2, x3, x4⟩ _).mono ?_; rw [hok]; rintro e w' ⟨rfl, hb2⟩)
        go_roundw
        case rel => exact ⟨k + 1, by omega, by go_num, hide ((unhide HY) hok), below_then (hb.alloc hb.size _) hb2⟩
        case measure => simp [intOf]; omega
    · have hke : k = xs.length := by omega
      subst hke
      go_wp2_with fail
      go_ret
      exact ⟨ret_bool (by have := unhide HA; rw [List.take_length] at this; exact this.symm), hb⟩

end Go.Proofs.YtiljjhipiinafaaGreat
