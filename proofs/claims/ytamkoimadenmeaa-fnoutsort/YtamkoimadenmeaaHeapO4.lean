/- impl's heap of things let out: what firstOf finds. -/
import Derived.Test.YtamkoimadenmeaaHeapO3
namespace Go.Proofs.Ytamkoimadenmeaa
open Go.RowKit
set_option linter.unusedVariables false
set_option linter.unusedSimpArgs false

theorem better_own (S : Strict outLess) {xs : List OutV} {a o : Nat} (ha : a < xs.length) : LeO outLess xs[better xs a o]? xs[a]? := by
  by_cases h : o < xs.length
  · rw [better_in h ha]
    cases hl : outLess xs[o] xs[a]
    · exact LeO.refl S _
    · rw [if_pos rfl]
      intro x y hx hy
      rw [List.getElem?_eq_getElem h] at hx
      rw [List.getElem?_eq_getElem ha] at hy
      cases hx; cases hy
      exact S.asym hl
  · rw [better_out h]; exact LeO.refl S _

theorem better_other (S : Strict outLess) {xs : List OutV} {a o : Nat} (ha : a < xs.length) : LeO outLess xs[better xs a o]? xs[o]? := by
  by_cases h : o < xs.length
  · rw [better_in h ha]
    cases hl : outLess xs[o] xs[a]
    · rw [if_neg (by simp)]
      intro x y hx hy
      rw [List.getElem?_eq_getElem h] at hy
      rw [List.getElem?_eq_getElem ha] at hx
      cases hx; cases hy
      exact hl
    · rw [if_pos rfl]; exact LeO.refl S _
  · rw [List.getElem?_eq_none (l := xs) (i := o) (by omega)]; exact leO_none _

theorem better_one {xs : List OutV} {a o : Nat} (ha : a < xs.length) : better xs a o = a ∨ better xs a o = o ∧ o < xs.length := by
  by_cases h : o < xs.length
  · rw [better_in h ha]; split
    · exact Or.inr ⟨rfl, h⟩
    · exact Or.inl rfl
  · exact Or.inl (better_out h)

theorem best_first (S : Strict outLess) {xs : List OutV} {p : Nat} (hp : p < xs.length) : FirstAt outLess xs p (bestTo xs p 2) := by
  have h1 : better xs p (2 * p + 1 + 0) < xs.length := better_lt hp
  have hn : xs[better xs p (2 * p + 1 + 0)]? ≠ none := by rw [List.getElem?_eq_getElem h1]; simp
  have e : bestTo xs p 2 = better xs (better xs p (2 * p + 1 + 0)) (2 * p + 1 + 1) := rfl
  rw [e]
  refine ⟨?_, LeO.trans S hn (better_own S h1) (better_own S hp), fun c hc hcp => ?_⟩
  · rcases better_one (o := 2 * p + 1 + 1) h1 with h | ⟨h, h2⟩
    · rw [h]
      rcases better_one (o := 2 * p + 1 + 0) hp with h | ⟨h, h2⟩
      · exact Or.inl h
      · rw [h]; exact Or.inr ⟨Or.inl (by omega), h2⟩
    · rw [h]; exact Or.inr ⟨Or.inr (by omega), h2⟩
  · rcases (show c = 2 * p + 1 + 0 ∨ c = 2 * p + 1 + 1 by omega) with rfl | rfl
    · exact LeO.trans S hn (better_own S h1) (better_other S hp)
    · exact better_other S h1
end Go.Proofs.Ytamkoimadenmeaa
