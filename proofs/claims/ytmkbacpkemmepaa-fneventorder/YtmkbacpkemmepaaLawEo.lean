/- The walk of laws.FnEventOrder: it answers true. -/
import Derived.Test.YtmkbacpkemmepaaDrawEl
import Derived.Test.YtmkbacpkemmepaaLess3
import Derived.Deep.Cut
namespace Go.Proofs.Ytmkbacpkemmepaa
open Go.RowKit
set_option linter.unusedVariables false
set_option linter.unusedSimpArgs false

set_option maxRecDepth 100000 in
set_option maxHeartbeats 3000000 in
theorem lawEventOrder_walk (v1 v2 : Value) (z1 z2 : List Int) (w : World) (h1 : BytesAt w v1 z1) (h2 : BytesAt w v2 z2) :
    Calls Try.prog 3 #[v1, v2] w fun e w' => e = .returned (.bool true) ∧ Below w.heap.size w w' := by
  obtain ⟨ad1, cap1, hv1, hm1⟩ : ∃ ad cap, v1 = .slice ad z1.length cap ∧ z1.length ≤ maxLen := by obtain ⟨a, c, h, h2, h3, _⟩ := h1; exact ⟨a, c, h, Nat.le_trans h2 h3⟩
  obtain ⟨ad2, cap2, hv2, hm2⟩ : ∃ ad cap, v2 = .slice ad z2.length cap ∧ z2.length ≤ maxLen := by obtain ⟨a, c, h, h2, h3, _⟩ := h2; exact ⟨a, c, h, Nat.le_trans h2 h3⟩
  subst hv1 hv2
  unfold maxLen at hm1 hm2
  have H1 := hide h1
  have H2 := hide h2
  clear h1 h2
  rcases Int.lt_or_le 1048576 (z1.length : Int) with hl1 | hl1
  · go_enter Try.func3, Try.ntmps3
    go_wp2
    go_ret
    exact ⟨rfl, Below.refl _ _⟩
  rcases Int.lt_or_le 1048576 (z2.length : Int) with hl2 | hl2
  · go_enter Try.func3, Try.ntmps3
    go_wp2
    go_ret
    exact ⟨rfl, Below.refl _ _⟩
  go_enter Try.func3, Try.ntmps3
  go_wp2_with fail
  refine (DrawEventLess_any _ z1 _ (unhide H1)).mono ?_
  rintro e w1 ⟨⟨a0, a1, a2, a3, a4, a5, a6⟩, ⟨b0, b1, b2, b3, b4, b5, b6⟩, rfl, hb1⟩
  have hbW : Below w1.heap.size w1 ((w1.alloc (.cells #[.int .i64 a0, .int .i64 a1, .int .i64 a2, .int .i64 a3, .int .i64 a4, .int .i64 a5, .int .i64 a6] 24)).alloc (.cells #[.int .i64 b0, .int .i64 b1, .int .i64 b2, .int .i64 b3, .int .i64 b4, .int .i64 b5, .int .i64 b6] 24)) := ((Below.refl _ _).alloc (Nat.le_refl _) _).alloc (by simp) _
  have EA : Hid (EvRow ((w1.alloc (.cells #[.int .i64 a0, .int .i64 a1, .int .i64 a2, .int .i64 a3, .int .i64 a4, .int .i64 a5, .int .i64 a6] 24)).alloc (.cells #[.int .i64 b0, .int .i64 b1, .int .i64 b2, .int .i64 b3, .int .i64 b4, .int .i64 b5, .int .i64 b6] 24)) w1.heap.size ⟨a0, a1, a2, a3, a4, a5, a6⟩) := hide (by refine ⟨?_, ?_, ?_, ?_, ?_, ?_, ?_, fun i => ?_⟩ <;> simp [go_sem])
  have EB : Hid (EvRow ((w1.alloc (.cells #[.int .i64 a0, .int .i64 a1, .int .i64 a2, .int .i64 a3, .int .i64 a4, .int .i64 a5, .int .i64 a6] 24)).alloc (.cells #[.int .i64 b0, .int .i64 b1, .int .i64 b2, .int .i64 b3, .int .i64 b4, .int .i64 b5, .int .i64 b6] 24)) (w1.heap.size + 1) ⟨b0, b1, b2, b3, b4, b5, b6⟩) := hide (by refine ⟨?_, ?_, ?_, ?_, ?_, ?_, ?_, fun i => ?_⟩ <;> simp [go_sem])
  have HB := hide (below_then hb1 hbW)
  clear hb1 hbW
  go_wp2_with fail
  generalize ((w1.alloc (.cells #[.int .i64 a0, .int .i64 a1, .int .i64 a2, .int .i64 a3, .int .i64 a4, .int .i64 a5, .int .i64 a6] 24)).alloc (.cells #[.int .i64 b0, .int .i64 b1, .int .i64 b2, .int .i64 b3, .int .i64 b4, .int .i64 b5, .int .i64 b6] 24)) = W1 at *
  generalize w1.heap.size = r5 at *
  refine (DrawEventLess_any _ z2 _ ((unhide H2).on (unhide HB))).mono ?_
  rintro e w2 ⟨⟨c0, c1, c2, c3, c4, c5, c6⟩, ⟨d0, d1, d2, d3, d4, d5, d6⟩, rfl, hb2⟩
  have hbW : Below w2.heap.size w2 ((w2.alloc (.cells #[.int .i64 c0, .int .i64 c1, .int .i64 c2, .int .i64 c3, .int .i64 c4, .int .i64 c5, .int .i64 c6] 24)).alloc (.cells #[.int .i64 d0, .int .i64 d1, .int .i64 d2, .int .i64 d3, .int .i64 d4, .int .i64 d5, .int .i64 d6] 24)) := ((Below.refl _ _).alloc (Nat.le_refl _) _).alloc (by simp) _
  have EA2 := hide ((unhide EA).on (below_then hb2 hbW))
  have EB2 := hide ((unhide EB).on (below_then hb2 hbW))
  have EC : Hid (EvRow ((w2.alloc (.cells #[.int .i64 c0, .int .i64 c1, .int .i64 c2, .int .i64 c3, .int .i64 c4, .int .i64 c5, .int .i64 c6] 24)).alloc (.cells #[.int .i64 d0, .int .i64 d1, .int .i64 d2, .int .i64 d3, .int .i64 d4, .int .i64 d5, .int .i64 d6] 24)) w2.heap.size ⟨c0, c1, c2, c3, c4, c5, c6⟩) := hide (by refine ⟨?_, ?_, ?_, ?_, ?_, ?_, ?_, fun i => ?_⟩ <;> simp [go_sem])
  have HB2 := hide (below_then (unhide HB) (below_then hb2 hbW))
  clear EA EB HB hb2 hbW
  have EA := EA2
  have EB := EB2
  have HB := HB2
  clear EA2 EB2 HB2
  have hirr : evLess ⟨a0, a1, a2, a3, a4, a5, a6⟩ ⟨a0, a1, a2, a3, a4, a5, a6⟩ = false := evLess_strict.irr _
  obtain ⟨X, hx⟩ : ∃ X, evLess ⟨a0, a1, a2, a3, a4, a5, a6⟩ ⟨b0, b1, b2, b3, b4, b5, b6⟩ = X := ⟨_, rfl⟩
  obtain ⟨Y, hy⟩ : ∃ Y, evLess ⟨b0, b1, b2, b3, b4, b5, b6⟩ ⟨a0, a1, a2, a3, a4, a5, a6⟩ = Y := ⟨_, rfl⟩
  obtain ⟨Z, hz⟩ : ∃ Z, evLess ⟨b0, b1, b2, b3, b4, b5, b6⟩ ⟨c0, c1, c2, c3, c4, c5, c6⟩ = Z := ⟨_, rfl⟩
  obtain ⟨U, hu⟩ : ∃ U, evLess ⟨a0, a1, a2, a3, a4, a5, a6⟩ ⟨c0, c1, c2, c3, c4, c5, c6⟩ = U := ⟨_, rfl⟩
  have hXY : X = true → Y = false := fun h => by rw [← hy]; exact evLess_strict.asym (hx.trans h)
  have hTR : X = true → Z = true → U = true := fun h k => hu.symm.trans (evLess_strict.trans _ _ _ (hx.trans h) (hz.trans k))
  have hTOT : X = false → Y = false → ⟨a0, a1, a2, a3, a4, a5, a6⟩ = (⟨b0, b1, b2, b3, b4, b5, b6⟩ : EvV) := fun h k => evLess_strict.tot _ _ (hx.trans h) (hy.trans k)
  have HX := hide hx
  have HY := hide hy
  have HZ := hide hz
  have HU := hide hu
  have HI := hide hirr
  clear hx hy hz hu hirr
  have hnX : (X != X) = false := by simp
  have hnY : (Y != Y) = false := by simp
  go_upto_region 5 with fail
  generalize ((w2.alloc (.cells #[.int .i64 c0, .int .i64 c1, .int .i64 c2, .int .i64 c3, .int .i64 c4, .int .i64 c5, .int .i64 c6] 24)).alloc (.cells #[.int .i64 d0, .int .i64 d1, .int .i64 d2, .int .i64 d3, .int .i64 d4, .int .i64 d5, .int .i64 d6] 24)) = W2 at *
  generalize w2.heap.size = r7 at *
  obtain ⟨lA0, lA1, lA2, lA3, lA4, lA5, lA6, _⟩ := unhide EA
  dsimp only at lA0 lA1 lA2 lA3 lA4 lA5 lA6
  obtain ⟨lB0, lB1, lB2, lB3, lB4, lB5, lB6, _⟩ := unhide EB
  dsimp only at lB0 lB1 lB2 lB3 lB4 lB5 lB6
  go_wp2_with fail
  clear lA0 lA1 lA2 lA3 lA4 lA5 lA6 lB0 lB1 lB2 lB3 lB4 lB5 lB6
  refine (implEventLess_any ⟨a0, a1, a2, a3, a4, a5, a6⟩ ⟨b0, b1, b2, b3, b4, b5, b6⟩ _).mono ?_
  rintro e y1 ⟨rfl, hb⟩
  have EA2 := hide ((unhide EA).on hb)
  clear EA
  have EA := EA2
  clear EA2
  have EB2 := hide ((unhide EB).on hb)
  clear EB
  have EB := EB2
  clear EB2
  have EC2 := hide ((unhide EC).on hb)
  clear EC
  have EC := EC2
  clear EC2
  have HB2 := hide (below_then (unhide HB) hb)
  clear HB hb
  have HB := HB2
  clear HB2
  rw [unhide HX]
  obtain ⟨lA0, lA1, lA2, lA3, lA4, lA5, lA6, _⟩ := unhide EA
  dsimp only at lA0 lA1 lA2 lA3 lA4 lA5 lA6
  obtain ⟨lB0, lB1, lB2, lB3, lB4, lB5, lB6, _⟩ := unhide EB
  dsimp only at lB0 lB1 lB2 lB3 lB4 lB5 lB6
  go_wp2_with fail
  clear lA0 lA1 lA2 lA3 lA4 lA5 lA6 lB0 lB1 lB2 lB3 lB4 lB5 lB6
  refine (implEventLess_any ⟨b0, b1, b2, b3, b4, b5, b6⟩ ⟨a0, a1, a2, a3, a4, a5, a6⟩ _).mono ?_
  rintro e y2 ⟨rfl, hb⟩
  have EA2 := hide ((unhide EA).on hb)
  clear EA
  have EA := EA2
  clear EA2
  have EB2 := hide ((unhide EB).on hb)
  clear EB
  have EB := EB2
  clear EB2
  have EC2 := hide ((unhide EC).on hb)
  clear EC
  have EC := EC2
  clear EC2
  have HB2 := hide (below_then (unhide HB) hb)
  clear HB hb
  have HB := HB2
  clear HB2
  rw [unhide HY]
  obtain ⟨lA0, lA1, lA2, lA3, lA4, lA5, lA6, _⟩ := unhide EA
  dsimp only at lA0 lA1 lA2 lA3 lA4 lA5 lA6
  obtain ⟨lB0, lB1, lB2, lB3, lB4, lB5, lB6, _⟩ := unhide EB
  dsimp only at lB0 lB1 lB2 lB3 lB4 lB5 lB6
  go_wp2_with fail
  clear lA0 lA1 lA2 lA3 lA4 lA5 lA6 lB0 lB1 lB2 lB3 lB4 lB5 lB6
  refine (specEventLess_any ⟨a0, a1, a2, a3, a4, a5, a6⟩ ⟨b0, b1, b2, b3, b4, b5, b6⟩ _).mono ?_
  rintro e y3 ⟨rfl, hb⟩
  have EA2 := hide ((unhide EA).on hb)
  clear EA
  have EA := EA2
  clear EA2
  have EB2 := hide ((unhide EB).on hb)
  clear EB
  have EB := EB2
  clear EB2
  have EC2 := hide ((unhide EC).on hb)
  clear EC
  have EC := EC2
  clear EC2
  have HB2 := hide (below_then (unhide HB) hb)
  clear HB hb
  have HB := HB2
  clear HB2
  rw [unhide HX]
  obtain ⟨lA0, lA1, lA2, lA3, lA4, lA5, lA6, _⟩ := unhide EA
  dsimp only at lA0 lA1 lA2 lA3 lA4 lA5 lA6
  obtain ⟨lB0, lB1, lB2, lB3, lB4, lB5, lB6, _⟩ := unhide EB
  dsimp only at lB0 lB1 lB2 lB3 lB4 lB5 lB6
  go_wp2_with fail
  clear lA0 lA1 lA2 lA3 lA4 lA5 lA6 lB0 lB1 lB2 lB3 lB4 lB5 lB6
  refine (specEventLess_any ⟨b0, b1, b2, b3, b4, b5, b6⟩ ⟨a0, a1, a2, a3, a4, a5, a6⟩ _).mono ?_
  rintro e y4 ⟨rfl, hb⟩
  have EA2 := hide ((unhide EA).on hb)
  clear EA
  have EA := EA2
  clear EA2
  have EB2 := hide ((unhide EB).on hb)
  clear EB
  have EB := EB2
  clear EB2
  have EC2 := hide ((unhide EC).on hb)
  clear EC
  have EC := EC2
  clear EC2
  have HB2 := hide (below_then (unhide HB) hb)
  clear HB hb
  have HB := HB2
  clear HB2
  rw [unhide HY]
  obtain ⟨lA0, lA1, lA2, lA3, lA4, lA5, lA6, _⟩ := unhide EA
  dsimp only at lA0 lA1 lA2 lA3 lA4 lA5 lA6
  go_wp2_with fail
  clear lA0 lA1 lA2 lA3 lA4 lA5 lA6
  refine (implEventLess_any ⟨a0, a1, a2, a3, a4, a5, a6⟩ ⟨a0, a1, a2, a3, a4, a5, a6⟩ _).mono ?_
  rintro e y5 ⟨rfl, hb⟩
  have EA2 := hide ((unhide EA).on hb)
  clear EA
  have EA := EA2
  clear EA2
  have EB2 := hide ((unhide EB).on hb)
  clear EB
  have EB := EB2
  clear EB2
  have EC2 := hide ((unhide EC).on hb)
  clear EC
  have EC := EC2
  clear EC2
  have HB2 := hide (below_then (unhide HB) hb)
  clear HB hb
  have HB := HB2
  clear HB2
  rw [unhide HI]
  obtain ⟨lB0, lB1, lB2, lB3, lB4, lB5, lB6, _⟩ := unhide EB
  dsimp only at lB0 lB1 lB2 lB3 lB4 lB5 lB6
  obtain ⟨lC0, lC1, lC2, lC3, lC4, lC5, lC6, _⟩ := unhide EC
  dsimp only at lC0 lC1 lC2 lC3 lC4 lC5 lC6
  go_wp2_with fail
  clear lB0 lB1 lB2 lB3 lB4 lB5 lB6 lC0 lC1 lC2 lC3 lC4 lC5 lC6
  refine (implEventLess_any ⟨b0, b1, b2, b3, b4, b5, b6⟩ ⟨c0, c1, c2, c3, c4, c5, c6⟩ _).mono ?_
  rintro e y6 ⟨rfl, hb⟩
  have EA2 := hide ((unhide EA).on hb)
  clear EA
  have EA := EA2
  clear EA2
  have EB2 := hide ((unhide EB).on hb)
  clear EB
  have EB := EB2
  clear EB2
  have EC2 := hide ((unhide EC).on hb)
  clear EC
  have EC := EC2
  clear EC2
  have HB2 := hide (below_then (unhide HB) hb)
  clear HB hb
  have HB := HB2
  clear HB2
  rw [unhide HZ]
  cases X
  · cases Y
    · have hab := hTOT rfl rfl
      simp only [EvV.mk.injEq] at hab
      obtain ⟨rfl, rfl, rfl, rfl, rfl, rfl, rfl⟩ := hab
      cases Z
      · obtain ⟨lA0, lA1, lA2, lA3, lA4, lA5, lA6, _⟩ := unhide EA
        dsimp only at lA0 lA1 lA2 lA3 lA4 lA5 lA6
        obtain ⟨lB0, lB1, lB2, lB3, lB4, lB5, lB6, _⟩ := unhide EB
        dsimp only at lB0 lB1 lB2 lB3 lB4 lB5 lB6
        go_wp2_with fail
        go_ret
        exact ⟨rfl, unhide HB⟩
      · obtain ⟨lA0, lA1, lA2, lA3, lA4, lA5, lA6, _⟩ := unhide EA
        dsimp only at lA0 lA1 lA2 lA3 lA4 lA5 lA6
        obtain ⟨lB0, lB1, lB2, lB3, lB4, lB5, lB6, _⟩ := unhide EB
        dsimp only at lB0 lB1 lB2 lB3 lB4 lB5 lB6
        go_wp2_with fail
        go_ret
        exact ⟨rfl, unhide HB⟩
    · cases Z
      · obtain ⟨lA0, lA1, lA2, lA3, lA4, lA5, lA6, _⟩ := unhide EA
        dsimp only at lA0 lA1 lA2 lA3 lA4 lA5 lA6
        obtain ⟨lB0, lB1, lB2, lB3, lB4, lB5, lB6, _⟩ := unhide EB
        dsimp only at lB0 lB1 lB2 lB3 lB4 lB5 lB6
        go_wp2_with fail
        go_ret
        exact ⟨rfl, unhide HB⟩
      · obtain ⟨lA0, lA1, lA2, lA3, lA4, lA5, lA6, _⟩ := unhide EA
        dsimp only at lA0 lA1 lA2 lA3 lA4 lA5 lA6
        obtain ⟨lB0, lB1, lB2, lB3, lB4, lB5, lB6, _⟩ := unhide EB
        dsimp only at lB0 lB1 lB2 lB3 lB4 lB5 lB6
        go_wp2_with fail
        go_ret
        exact ⟨rfl, unhide HB⟩
  · obtain rfl : Y = false := hXY rfl
    cases Z
    · obtain ⟨lA0, lA1, lA2, lA3, lA4, lA5, lA6, _⟩ := unhide EA
      dsimp only at lA0 lA1 lA2 lA3 lA4 lA5 lA6
      obtain ⟨lB0, lB1, lB2, lB3, lB4, lB5, lB6, _⟩ := unhide EB
      dsimp only at lB0 lB1 lB2 lB3 lB4 lB5 lB6
      go_wp2_with fail
      go_ret
      exact ⟨rfl, unhide HB⟩
    · obtain rfl : U = true := hTR rfl rfl
      obtain ⟨lA0, lA1, lA2, lA3, lA4, lA5, lA6, _⟩ := unhide EA
      dsimp only at lA0 lA1 lA2 lA3 lA4 lA5 lA6
      obtain ⟨lC0, lC1, lC2, lC3, lC4, lC5, lC6, _⟩ := unhide EC
      dsimp only at lC0 lC1 lC2 lC3 lC4 lC5 lC6
      go_wp2_with fail
      clear lA0 lA1 lA2 lA3 lA4 lA5 lA6 lC0 lC1 lC2 lC3 lC4 lC5 lC6
      refine (implEventLess_any ⟨a0, a1, a2, a3, a4, a5, a6⟩ ⟨c0, c1, c2, c3, c4, c5, c6⟩ _).mono ?_
      rintro e y7 ⟨rfl, hb⟩
      have EA2 := hide ((unhide EA).on hb)
      clear EA
      have EA := EA2
      clear EA2
      have EB2 := hide ((unhide EB).on hb)
      clear EB
      have EB := EB2
      clear EB2
      have EC2 := hide ((unhide EC).on hb)
      clear EC
      have EC := EC2
      clear EC2
      have HB2 := hide (below_then (unhide HB) hb)
      clear HB hb
      have HB := HB2
      clear HB2
      rw [unhide HU]
      obtain ⟨lA0, lA1, lA2, lA3, lA4, lA5, lA6, _⟩ := unhide EA
      dsimp only at lA0 lA1 lA2 lA3 lA4 lA5 lA6
      obtain ⟨lB0, lB1, lB2, lB3, lB4, lB5, lB6, _⟩ := unhide EB
      dsimp only at lB0 lB1 lB2 lB3 lB4 lB5 lB6
      go_wp2_with fail
      go_ret
      exact ⟨rfl, unhide HB⟩
end Go.Proofs.Ytmkbacpkemmepaa
