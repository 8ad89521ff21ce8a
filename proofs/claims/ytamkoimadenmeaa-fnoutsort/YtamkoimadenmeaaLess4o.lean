/- OutLess of spec. -/
import Derived.Test.YtamkoimadenmeaaLess2o
import Derived.Deep.AppendLies
import Derived.Deep.OwnRows
import Derived.Deep.CutRange
namespace Go.Proofs.Ytamkoimadenmeaa
open Go.RowKit
set_option linter.unusedVariables false
attribute [local go_sem ↓] Go.wp_at_zero Go.wp_at_succ

set_option maxRecDepth 100000 in
set_option maxHeartbeats 1000000 in
theorem specOutLess_any (a b : OutV) (w : World) :
    Calls Try.prog 7 #[outAgg a, outAgg b] w fun e w' => e = .returned (.bool (outLess a b)) ∧ Below w.heap.size w w' := by
  obtain ⟨a0, a1, a2, a3, a4⟩ := a
  obtain ⟨b0, b1, b2, b3, b4⟩ := b
  simp only [outLess, outRow, lexL]
  by_cases h0 : a0 = b0
  · subst h0
    rw [if_pos rfl]
    have g0 : (a0 != a0) = false := by simp
    by_cases h1 : a1 = b1
    · subst h1
      rw [if_pos rfl]
      have g1 : (a1 != a1) = false := by simp
      by_cases h2 : a2 = b2
      · subst h2
        rw [if_pos rfl]
        have g2 : (a2 != a2) = false := by simp
        by_cases h3 : a3 = b3
        · subst h3
          rw [if_pos rfl]
          have g3 : (a3 != a3) = false := by simp
          have hl : (if a4 = b4 then false else decide (a4 < b4)) = decide (a4 < b4) := by split <;> simp_all
          rw [hl]
          go_enter Try.func7, Try.ntmps7
          go_wp2
          go_ret
          exact ⟨rfl, ((Below.refl _ _).alloc (Nat.le_refl _) _).alloc (by simp) _⟩
        · rw [if_neg h3]
          have g3 : (a3 != b3) = true := by simp [h3]
          go_enter Try.func7, Try.ntmps7
          go_wp2
          go_ret
          exact ⟨rfl, ((Below.refl _ _).alloc (Nat.le_refl _) _).alloc (by simp) _⟩
      · rw [if_neg h2]
        have g2 : (a2 != b2) = true := by simp [h2]
        go_enter Try.func7, Try.ntmps7
        go_wp2
        go_ret
        exact ⟨rfl, ((Below.refl _ _).alloc (Nat.le_refl _) _).alloc (by simp) _⟩
    · rw [if_neg h1]
      have g1 : (a1 != b1) = true := by simp [h1]
      go_enter Try.func7, Try.ntmps7
      go_wp2
      go_ret
      exact ⟨rfl, ((Below.refl _ _).alloc (Nat.le_refl _) _).alloc (by simp) _⟩
  · rw [if_neg h0]
    have g0 : (a0 != b0) = true := by simp [h0]
    go_enter Try.func7, Try.ntmps7
    go_wp2
    go_ret
    exact ⟨rfl, ((Below.refl _ _).alloc (Nat.le_refl _) _).alloc (by simp) _⟩

end Go.Proofs.Ytamkoimadenmeaa
