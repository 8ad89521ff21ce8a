/- The walk of laws.FnOutOrder: it answers true. -/
import Derived.Test.YtamkoimadenmeaaDrawOl
import Derived.Test.YtamkoimadenmeaaLess5o
import Derived.Test.YtamkoimadenmeaaLess4o
import Derived.Deep.Cut
namespace Go.Proofs.Ytamkoimadenmeaa
open Go.RowKit
set_option linter.unusedVariables false
set_option linter.unusedSimpArgs false

set_option maxRecDepth 100000 in
set_option maxHeartbeats 3000000 in
theorem lawOutOrder_walk (v1 : Value) (z1 : List Int) (w : World) (h1 : BytesAt w v1 z1) :
    Calls Try.prog 3 #[v1] w fun e w' => e = .returned (.bool true) ∧ Below w.heap.size w w' := by
  obtain ⟨ad1, cap1, hv1, hm1⟩ : ∃ ad cap, v1 = .slice ad z1.length cap ∧ z1.length ≤ maxLen := by obtain ⟨a, c, h, h2, h3, _⟩ := h1; exact ⟨a, c, h, Nat.le_trans h2 h3⟩
  subst hv1
  unfold maxLen at hm1
  have H1 := hide h1
  clear h1
  rcases Int.lt_or_le 1048576 (z1.length : Int) with hl1 | hl1
  · go_enter Try.func3, Try.ntmps3
    go_wp2
    go_ret
    exact ⟨rfl, Below.refl _ _⟩
  go_enter Try.func3, Try.ntmps3
  go_wp2_with fail
  refine (DrawOutLess_any _ z1 _ (unhide H1)).mono ?_
  rintro e w1 ⟨⟨a0, a1, a2, a3, a4⟩, ⟨b0, b1, b2, b3, b4⟩, rfl, hb1⟩
  have hbW : Below w1.heap.size w1 ((w1.alloc (.cells #[.int .i64 a0, .int .i64 a1, .int .i64 a2, .int .i64 a3, .int .i64 a4] 24)).alloc (.cells #[.int .i64 b0, .int .i64 b1, .int .i64 b2, .int .i64 b3, .int .i64 b4] 24)) := ((Below.refl _ _).alloc (Nat.le_refl _) _).alloc (by simp) _
  have EA : Hid (OuRow ((w1.alloc (.cells #[.int .i64 a0, .int .i64 a1, .int .i64 a2, .int .i64 a3, .int .i64 a4] 24)).alloc (.cells #[.int .i64 b0, .int .i64 b1, .int .i64 b2, .int .i64 b3, .int .i64 b4] 24)) w1.heap.size ⟨a0, a1, a2, a3, a4⟩) := hide (by refine ⟨?_, ?_, ?_, ?_, ?_, fun i => ?_⟩ <;> simp [go_sem])
  have EB : Hid (OuRow ((w1.alloc (.cells #[.int .i64 a0, .int .i64 a1, .int .i64 a2, .int .i64 a3, .int .i64 a4] 24)).alloc (.cells #[.int .i64 b0, .int .i64 b1, .int .i64 b2, .int .i64 b3, .int .i64 b4] 24)) (w1.heap.size + 1) ⟨b0, b1, b2, b3, b4⟩) := hide (by refine ⟨?_, ?_, ?_, ?_, ?_, fun i => ?_⟩ <;> simp [go_sem])
  have HB := hide (below_then hb1 hbW)
  clear hb1 hbW
  obtain ⟨X, hx⟩ : ∃ X, outLess ⟨a0, a1, a2, a3, a4⟩ ⟨b0, b1, b2, b3, b4⟩ = X := ⟨_, rfl⟩
  obtain ⟨Y, hy⟩ : ∃ Y, outLess ⟨b0, b1, b2, b3, b4⟩ ⟨a0, a1, a2, a3, a4⟩ = Y := ⟨_, rfl⟩
  have hXY : X = true → Y = false := fun h => by rw [← hy]; exact outLess_strict.asym (hx.trans h)
  have hTOT : X = false → Y = false → ⟨a0, a1, a2, a3, a4⟩ = (⟨b0, b1, b2, b3, b4⟩ : OutV) := fun h k => outLess_strict.tot _ _ (hx.trans h) (hy.trans k)
  have HX := hide hx
  have HY := hide hy
  clear hx hy
  have hnX : (X != X) = false := by simp
  have hnY : (Y != Y) = false := by simp
  go_upto_region 4 with fail
  generalize ((w1.alloc (.cells #[.int .i64 a0, .int .i64 a1, .int .i64 a2, .int .i64 a3, .int .i64 a4] 24)).alloc (.cells #[.int .i64 b0, .int .i64 b1, .int .i64 b2, .int .i64 b3, .int .i64 b4] 24)) = W2 at *
  generalize w1.heap.size = r7 at *
  obtain ⟨lA0, lA1, lA2, lA3, lA4, _⟩ := unhide EA
  dsimp only at lA0 lA1 lA2 lA3 lA4
  obtain ⟨lB0, lB1, lB2, lB3, lB4, _⟩ := unhide EB
  dsimp only at lB0 lB1 lB2 lB3 lB4
  go_wp2_with fail
  clear lA0 lA1 lA2 lA3 lA4 lB0 lB1 lB2 lB3 lB4
  refine (implOutLess_any ⟨a0, a1, a2, a3, a4⟩ ⟨b0, b1, b2, b3, b4⟩ _).mono ?_
  rintro e y1 ⟨rfl, hb⟩
  replace EA := hide ((unhide EA).on hb)
  replace EB := hide ((unhide EB).on hb)
  replace HB := hide (below_then (unhide HB) hb)
  clear hb
  rw [unhide HX]
  obtain ⟨lA0, lA1, lA2, lA3, lA4, _⟩ := unhide EA
  dsimp only at lA0 lA1 lA2 lA3 lA4
  obtain ⟨lB0, lB1, lB2, lB3, lB4, _⟩ := unhide EB
  dsimp only at lB0 lB1 lB2 lB3 lB4
  go_wp2_with fail
  clear lA0 lA1 lA2 lA3 lA4 lB0 lB1 lB2 lB3 lB4
  refine (implOutLess_any ⟨b0, b1, b2, b3, b4⟩ ⟨a0, a1, a2, a3, a4⟩ _).mono ?_
  rintro e y2 ⟨rfl, hb⟩
  replace EA := hide ((unhide EA).on hb)
  replace EB := hide ((unhide EB).on hb)
  replace HB := hide (below_then (unhide HB) hb)
  clear hb
  rw [unhide HY]
  obtain ⟨lA0, lA1, lA2, lA3, lA4, _⟩ := unhide EA
  dsimp only at lA0 lA1 lA2 lA3 lA4
  obtain ⟨lB0, lB1, lB2, lB3, lB4, _⟩ := unhide EB
  dsimp only at lB0 lB1 lB2 lB3 lB4
  go_wp2_with fail
  clear lA0 lA1 lA2 lA3 lA4 lB0 lB1 lB2 lB3 lB4
  refine (specOutLess_any ⟨a0, a1, a2, a3, a4⟩ ⟨b0, b1, b2, b3, b4⟩ _).mono ?_
  rintro e y3 ⟨rfl, hb⟩
  replace EA := hide ((unhide EA).on hb)
  replace EB := hide ((unhide EB).on hb)
  replace HB := hide (below_then (unhide HB) hb)
  clear hb
  rw [unhide HX]
  obtain ⟨lA0, lA1, lA2, lA3, lA4, _⟩ := unhide EA
  dsimp only at lA0 lA1 lA2 lA3 lA4
  obtain ⟨lB0, lB1, lB2, lB3, lB4, _⟩ := unhide EB
  dsimp only at lB0 lB1 lB2 lB3 lB4
  go_wp2_with fail
  clear lA0 lA1 lA2 lA3 lA4 lB0 lB1 lB2 lB3 lB4
  refine (specOutLess_any ⟨b0, b1, b2, b3, b4⟩ ⟨a0, a1, a2, a3, a4⟩ _).mono ?_
  rintro e y4 ⟨rfl, hb⟩
  replace EA := hide ((unhide EA).on hb)
  replace EB := hide ((unhide EB).on hb)
  replace HB := hide (below_then (unhide HB) hb)
  clear hb
  rw [unhide HY]
  cases X
  · cases Y
    · have hab := hTOT rfl rfl
      simp only [OutV.mk.injEq] at hab
      obtain ⟨rfl, rfl, rfl, rfl, rfl⟩ := hab
      obtain ⟨lA0, lA1, lA2, lA3, lA4, _⟩ := unhide EA
      dsimp only at lA0 lA1 lA2 lA3 lA4
      obtain ⟨lB0, lB1, lB2, lB3, lB4, _⟩ := unhide EB
      dsimp only at lB0 lB1 lB2 lB3 lB4
      go_wp2_with fail
      go_ret
      exact ⟨rfl, unhide HB⟩
    · obtain ⟨lA0, lA1, lA2, lA3, lA4, _⟩ := unhide EA
      dsimp only at lA0 lA1 lA2 lA3 lA4
      obtain ⟨lB0, lB1, lB2, lB3, lB4, _⟩ := unhide EB
      dsimp only at lB0 lB1 lB2 lB3 lB4
      go_wp2_with fail
      go_ret
      exact ⟨rfl, unhide HB⟩
  · obtain rfl : Y = false := hXY rfl
    obtain ⟨lA0, lA1, lA2, lA3, lA4, _⟩ := unhide EA
    dsimp only at lA0 lA1 lA2 lA3 lA4
    obtain ⟨lB0, lB1, lB2, lB3, lB4, _⟩ := unhide EB
    dsimp only at lB0 lB1 lB2 lB3 lB4
    go_wp2_with fail
    go_ret
    exact ⟨rfl, unhide HB⟩
end Go.Proofs.Ytamkoimadenmeaa
