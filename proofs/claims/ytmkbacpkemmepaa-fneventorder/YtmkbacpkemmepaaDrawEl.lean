/- spec.DrawEventLess: two events that are drawn. -/
import Derived.Test.YtmkbacpkemmepaaDrawEv
import Derived.Deep.CutRange
import Derived.Deep.RegionHeld3
namespace Go.Proofs.Ytmkbacpkemmepaa
open Go.RowKit
set_option linter.unusedVariables false
set_option linter.unusedSimpArgs false

theorem put7_row {w : World} {r : Nat} {e0 : EvV} (h : EvRow w r e0) (e : EvV) : EvRow (put7 w r e) r e := by
  obtain ⟨c0, c1, c2, c3, c4, c5, c6, fz⟩ := h
  unfold put7
  refine ⟨?_, ?_, ?_, ?_, ?_, ?_, ?_, fun i => ?_⟩ <;> simp [go_sem, c0, c1, c2, c3, c4, c5, c6, fz]

theorem put7_other {w : World} {r b : Nat} {e e0 : EvV} (hb : b ≠ r) (h : EvRow w b e0) : EvRow (put7 w r e) b e0 := by
  obtain ⟨c0, c1, c2, c3, c4, c5, c6, fz⟩ := h
  have hb1 : ¬ b = r := hb
  unfold put7
  refine ⟨?_, ?_, ?_, ?_, ?_, ?_, ?_, fun i => ?_⟩ <;> simp [go_sem, c0, c1, c2, c3, c4, c5, c6, fz, hb1]

theorem put7_below {w w' : World} {r B : Nat} (h : Below B w w') (hB : B ≤ r) (e : EvV) : Below B w (put7 w' r e) :=
  ((((((h.setCell (show B ≤ r from hB) _).setCell (show B ≤ r from hB) _).setCell (show B ≤ r from hB) _).setCell (show B ≤ r from hB) _).setCell (show B ≤ r from hB) _).setCell (show B ≤ r from hB) _).setCell (show B ≤ r from hB) _

theorem set_other {w : World} {r b o : Nat} {e0 : EvV} (hb : b ≠ r) (v : Value) (h : EvRow w b e0) : EvRow (w.setCell ⟨r, o, none⟩ v) b e0 := by
  obtain ⟨c0, c1, c2, c3, c4, c5, c6, fz⟩ := h
  have hb1 : ¬ b = r := hb
  refine ⟨?_, ?_, ?_, ?_, ?_, ?_, ?_, fun i => ?_⟩ <;> simp [go_sem, c0, c1, c2, c3, c4, c5, c6, fz, hb1]

theorem set_row0 {w : World} {r : Nat} {e : EvV} (h : EvRow w r e) (x : Int) : EvRow (w.setCell ⟨r, 0, none⟩ (.int .i64 x)) r ⟨x, e.to, e.src, e.count, e.n, e.kind, e.arg⟩ := by
  obtain ⟨c0, c1, c2, c3, c4, c5, c6, fz⟩ := h
  refine ⟨?_, ?_, ?_, ?_, ?_, ?_, ?_, fun i => ?_⟩ <;> simp [go_sem, c0, c1, c2, c3, c4, c5, c6, fz]

theorem set_row1 {w : World} {r : Nat} {e : EvV} (h : EvRow w r e) (x : Int) : EvRow (w.setCell ⟨r, 1, none⟩ (.int .i64 x)) r ⟨e.time, x, e.src, e.count, e.n, e.kind, e.arg⟩ := by
  obtain ⟨c0, c1, c2, c3, c4, c5, c6, fz⟩ := h
  refine ⟨?_, ?_, ?_, ?_, ?_, ?_, ?_, fun i => ?_⟩ <;> simp [go_sem, c0, c1, c2, c3, c4, c5, c6, fz]

theorem set_row2 {w : World} {r : Nat} {e : EvV} (h : EvRow w r e) (x : Int) : EvRow (w.setCell ⟨r, 2, none⟩ (.int .i64 x)) r ⟨e.time, e.to, x, e.count, e.n, e.kind, e.arg⟩ := by
  obtain ⟨c0, c1, c2, c3, c4, c5, c6, fz⟩ := h
  refine ⟨?_, ?_, ?_, ?_, ?_, ?_, ?_, fun i => ?_⟩ <;> simp [go_sem, c0, c1, c2, c3, c4, c5, c6, fz]

theorem set_row3 {w : World} {r : Nat} {e : EvV} (h : EvRow w r e) (x : Int) : EvRow (w.setCell ⟨r, 3, none⟩ (.int .i64 x)) r ⟨e.time, e.to, e.src, x, e.n, e.kind, e.arg⟩ := by
  obtain ⟨c0, c1, c2, c3, c4, c5, c6, fz⟩ := h
  refine ⟨?_, ?_, ?_, ?_, ?_, ?_, ?_, fun i => ?_⟩ <;> simp [go_sem, c0, c1, c2, c3, c4, c5, c6, fz]

theorem set_row4 {w : World} {r : Nat} {e : EvV} (h : EvRow w r e) (x : Int) : EvRow (w.setCell ⟨r, 4, none⟩ (.int .i64 x)) r ⟨e.time, e.to, e.src, e.count, x, e.kind, e.arg⟩ := by
  obtain ⟨c0, c1, c2, c3, c4, c5, c6, fz⟩ := h
  refine ⟨?_, ?_, ?_, ?_, ?_, ?_, ?_, fun i => ?_⟩ <;> simp [go_sem, c0, c1, c2, c3, c4, c5, c6, fz]

theorem set_row5 {w : World} {r : Nat} {e : EvV} (h : EvRow w r e) (x : Int) : EvRow (w.setCell ⟨r, 5, none⟩ (.int .i64 x)) r ⟨e.time, e.to, e.src, e.count, e.n, x, e.arg⟩ := by
  obtain ⟨c0, c1, c2, c3, c4, c5, c6, fz⟩ := h
  refine ⟨?_, ?_, ?_, ?_, ?_, ?_, ?_, fun i => ?_⟩ <;> simp [go_sem, c0, c1, c2, c3, c4, c5, c6, fz]

theorem set_row6 {w : World} {r : Nat} {e : EvV} (h : EvRow w r e) (x : Int) : EvRow (w.setCell ⟨r, 6, none⟩ (.int .i64 x)) r ⟨e.time, e.to, e.src, e.count, e.n, e.kind, x⟩ := by
  obtain ⟨c0, c1, c2, c3, c4, c5, c6, fz⟩ := h
  refine ⟨?_, ?_, ?_, ?_, ?_, ?_, ?_, fun i => ?_⟩ <;> simp [go_sem, c0, c1, c2, c3, c4, c5, c6, fz]

set_option maxRecDepth 100000 in
set_option maxHeartbeats 3000000 in
theorem DrawEventLess_any (v : Value) (zs : List Int) (w : World) (h : BytesAt w v zs) :
    Calls Try.prog 9 #[v] w fun e w' => ∃ x y : EvV, e = .returned (.tuple #[evAgg x, evAgg y]) ∧ Below w.heap.size w w' := by
  obtain ⟨ad, cap, hv⟩ : ∃ ad cap, v = .slice ad zs.length cap := by obtain ⟨a, c, h, _⟩ := h; exact ⟨a, c, h⟩
  subst hv
  have hb2 : Below w.heap.size w ((w.alloc (.cells #[.int .i64 0, .int .i64 0, .int .i64 0, .int .i64 0, .int .i64 0, .int .i64 0, .int .i64 0] 24)).alloc (.cells #[.int .i64 0, .int .i64 0, .int .i64 0, .int .i64 0, .int .i64 0, .int .i64 0, .int .i64 0] 24)) := ((Below.refl _ _).alloc (Nat.le_refl _) _).alloc (by simp) _
  have z2 : EvRow ((w.alloc (.cells #[.int .i64 0, .int .i64 0, .int .i64 0, .int .i64 0, .int .i64 0, .int .i64 0, .int .i64 0] 24)).alloc (.cells #[.int .i64 0, .int .i64 0, .int .i64 0, .int .i64 0, .int .i64 0, .int .i64 0, .int .i64 0] 24)) w.heap.size ⟨0, 0, 0, 0, 0, 0, 0⟩ := by
    refine ⟨?_, ?_, ?_, ?_, ?_, ?_, ?_, fun i => ?_⟩ <;> simp [go_sem]
  have z3 : EvRow ((w.alloc (.cells #[.int .i64 0, .int .i64 0, .int .i64 0, .int .i64 0, .int .i64 0, .int .i64 0, .int .i64 0] 24)).alloc (.cells #[.int .i64 0, .int .i64 0, .int .i64 0, .int .i64 0, .int .i64 0, .int .i64 0, .int .i64 0] 24)) (w.heap.size + 1) ⟨0, 0, 0, 0, 0, 0, 0⟩ := by
    refine ⟨?_, ?_, ?_, ?_, ?_, ?_, ?_, fun i => ?_⟩ <;> simp [go_sem]
  have hs2 : ((w.alloc (.cells #[.int .i64 0, .int .i64 0, .int .i64 0, .int .i64 0, .int .i64 0, .int .i64 0, .int .i64 0] 24)).alloc (.cells #[.int .i64 0, .int .i64 0, .int .i64 0, .int .i64 0, .int .i64 0, .int .i64 0, .int .i64 0] 24)).heap.size = w.heap.size + 2 := by simp
  have HB := hide (h.on hb2)
  have Z2 := hide z2
  have Z3 := hide z3
  have HB2 := hide hb2
  have HS2 := hide hs2
  clear h z2 z3 hb2 hs2
  go_enter Try.func9, Try.ntmps9
  go_wp2_with fail
  generalize (w.alloc (.cells #[.int .i64 0, .int .i64 0, .int .i64 0, .int .i64 0, .int .i64 0, .int .i64 0, .int .i64 0] 24)).alloc (.cells #[.int .i64 0, .int .i64 0, .int .i64 0, .int .i64 0, .int .i64 0, .int .i64 0, .int .i64 0] 24) = W2 at *
  refine (l6Open_any _ zs _ (unhide HB)).mono ?_
  rintro e w3 ⟨v', zs', rfl, hrd, hb3⟩
  have HR3 := hide hrd
  have Z23 := hide ((unhide Z2).on hb3)
  have Z33 := hide ((unhide Z3).on hb3)
  have HBW3 := hide (below_then (unhide HB2) hb3)
  obtain ⟨q, hq⟩ : ∃ q, q = W2.heap.size := ⟨_, rfl⟩
  have hqw : w.heap.size + 2 ≤ q := by rw [hq, unhide HS2]; exact Nat.le_refl _
  rw [← hq] at HR3 ⊢
  have hq3 : q < w3.heap.size := World.block_lt_of_cell? w3 ⟨q, 0, none⟩ (unhide HR3).rd.c0
  clear hrd hb3 hq HB Z2 Z3 HB2 HS2
  go_wp2_with fail
  refine (l72Event_any W2 w3 q v' zs' 0 (unhide HR3) (by omega)).mono ?_
  rintro e w4 ⟨⟨a0, a1, a2, a3, a4, a5, a6⟩, p4, rfl, hp4, ht0, ht1, hr4, ho4⟩
  dsimp only at ht0 ht1
  have HR4 := hide (hr4.alloc (.cells #[.int .i64 a0, .int .i64 a1, .int .i64 a2, .int .i64 a3, .int .i64 a4, .int .i64 a5, .int .i64 a6] 24))
  have hb5 : Below w4.heap.size w4 (w4.alloc (.cells #[.int .i64 a0, .int .i64 a1, .int .i64 a2, .int .i64 a3, .int .i64 a4, .int .i64 a5, .int .i64 a6] 24)) := (Below.refl _ _).alloc (Nat.le_refl _) _
  have Z24 := hide (((unhide Z23).only ho4 (by omega)).on hb5)
  have Z34 := hide (((unhide Z33).only ho4 (by omega)).on hb5)
  have HBW4 := hide (below_then ((unhide HBW3).trans (ho4.below.mono (by omega))) hb5)
  have E5 : Hid (EvRow (w4.alloc (.cells #[.int .i64 a0, .int .i64 a1, .int .i64 a2, .int .i64 a3, .int .i64 a4, .int .i64 a5, .int .i64 a6] 24)) w4.heap.size ⟨a0, a1, a2, a3, a4, a5, a6⟩) := hide (by refine ⟨?_, ?_, ?_, ?_, ?_, ?_, ?_, fun i => ?_⟩ <;> simp [go_sem])
  have hr5 : q < w4.heap.size := Nat.lt_of_lt_of_le hq3 ho4.size
  have hs5 : w4.heap.size < (w4.alloc (.cells #[.int .i64 a0, .int .i64 a1, .int .i64 a2, .int .i64 a3, .int .i64 a4, .int .i64 a5, .int .i64 a6] 24)).heap.size := by simp
  clear hr4 ho4 hb5 HR3 Z23 Z33 HBW3 hq3
  go_wp2_with fail
  generalize (w4.alloc (.cells #[.int .i64 a0, .int .i64 a1, .int .i64 a2, .int .i64 a3, .int .i64 a4, .int .i64 a5, .int .i64 a6] 24)) = W5 at *
  generalize w4.heap.size = r5 at *
  refine (l72Event_any W2 W5 q v' zs' p4 (unhide HR4) (by omega)).mono ?_
  rintro e w6 ⟨⟨b0, b1, b2, b3, b4, b5, b6⟩, p6, rfl, hp6, hu0, hu1, hr6, ho6⟩
  dsimp only at hu0 hu1
  have HR6 := hide (hr6.alloc (.cells #[.int .i64 b0, .int .i64 b1, .int .i64 b2, .int .i64 b3, .int .i64 b4, .int .i64 b5, .int .i64 b6] 24))
  have hb7 : Below w6.heap.size w6 (w6.alloc (.cells #[.int .i64 b0, .int .i64 b1, .int .i64 b2, .int .i64 b3, .int .i64 b4, .int .i64 b5, .int .i64 b6] 24)) := (Below.refl _ _).alloc (Nat.le_refl _) _
  have Z26 := hide (((unhide Z24).only ho6 (by omega)).on hb7)
  have Z36 := hide (((unhide Z34).only ho6 (by omega)).on hb7)
  have E56 := hide (((unhide E5).only ho6 (by omega)).on hb7)
  have HBW6 := hide (below_then ((unhide HBW4).trans (ho6.below.mono (by omega))) hb7)
  have E6 : Hid (EvRow (w6.alloc (.cells #[.int .i64 b0, .int .i64 b1, .int .i64 b2, .int .i64 b3, .int .i64 b4, .int .i64 b5, .int .i64 b6] 24)) w6.heap.size ⟨b0, b1, b2, b3, b4, b5, b6⟩) := hide (by refine ⟨?_, ?_, ?_, ?_, ?_, ?_, ?_, fun i => ?_⟩ <;> simp [go_sem])
  have hr6' : r5 < w6.heap.size := Nat.lt_of_lt_of_le hs5 ho6.size
  clear hr6 ho6 hb7 HR4 Z24 Z34 HBW4 E5 hs5
  go_wp2_with fail
  generalize (w6.alloc (.cells #[.int .i64 b0, .int .i64 b1, .int .i64 b2, .int .i64 b3, .int .i64 b4, .int .i64 b5, .int .i64 b6] 24)) = W7 at *
  generalize w6.heap.size = r6 at *
  refine (pick_any W2 W7 q v' zs' p6 3 (unhide HR6) (by omega) (by omega) (by omega)).mono ?_
  rintro e w8 ⟨x8, rfl, hx80, hx81, hr8, ho8⟩
  have HR8 := hide hr8
  have Z28 := hide ((unhide Z26).only ho8 (by omega))
  have Z38 := hide ((unhide Z36).only ho8 (by omega))
  have E58 := hide ((unhide E56).only ho8 (by omega))
  have E68 := hide ((unhide E6).only ho8 (by omega))
  have HBW8 := hide ((unhide HBW6).trans (ho8.below.mono (by omega)))
  clear hr8 ho8 HR6 Z26 Z36 E56 E6 HBW6
  have hd56 : ¬ r5 = r6 := by omega
  have hd65 : ¬ r6 = r5 := by omega
  have hdr6q : r6 ≠ q := by omega
  go_upto_if 15 with fail
  go_cut [6] from 7 to 54 (fun t wx => t = .pointer (some ⟨r6, 0, none⟩) ∧ ∃ c0 c1 c2 c3 c4 c5 c6 : Int, EvRow wx r5 ⟨a0, a1, a2, a3, a4, a5, a6⟩ ∧ EvRow wx r6 ⟨c0, c1, c2, c3, c4, c5, c6⟩ ∧ EvRow wx w.heap.size ⟨0, 0, 0, 0, 0, 0, 0⟩ ∧ EvRow wx (w.heap.size + 1) ⟨0, 0, 0, 0, 0, 0, 0⟩ ∧ Below w.heap.size w wx)
  case first =>
    by_cases hx : 0 < x8
    · obtain ⟨g0, g1, g2, g3, g4, g5, g6, gf⟩ := unhide E58
      obtain ⟨k0, k1, k2, k3, k4, k5, k6, kf⟩ := unhide E68
      dsimp only at g0 g1 g2 g3 g4 g5 g6 k0 k1 k2 k3 k4 k5 k6
      go_wp2_with fail
      change Calls _ _ _ (put7 w8 r6 ⟨a0, a1, a2, a3, a4, a5, a6⟩) _
      have HRP := hide ((unhide HR8).put7 (r := r6) (by omega) ⟨a0, a1, a2, a3, a4, a5, a6⟩)
      have Z2P := hide (put7_other (r := r6) (e := ⟨a0, a1, a2, a3, a4, a5, a6⟩) (by omega) (unhide Z28))
      have Z3P := hide (put7_other (r := r6) (e := ⟨a0, a1, a2, a3, a4, a5, a6⟩) (by omega) (unhide Z38))
      have E5P := hide (put7_other (r := r6) (e := ⟨a0, a1, a2, a3, a4, a5, a6⟩) (by omega) (unhide E58))
      have E6P := hide (put7_row (unhide E68) ⟨a0, a1, a2, a3, a4, a5, a6⟩)
      have HBP := hide (put7_below (r := r6) (unhide HBW8) (by omega) ⟨a0, a1, a2, a3, a4, a5, a6⟩)
      clear g0 g1 g2 g3 g4 g5 g6 gf k0 k1 k2 k3 k4 k5 k6 kf HR8 Z28 Z38 E58 E68 HBW8
      generalize put7 w8 r6 ⟨a0, a1, a2, a3, a4, a5, a6⟩ = P at *
      refine (pick_any W2 P q v' zs' _ 8 (unhide HRP) (by omega) (by omega) (by omega)).mono ?_
      rintro e w9 ⟨x9, rfl, hx90, hx91, hr9, ho9⟩
      have HR9 := hide hr9
      have Z29 := hide ((unhide Z2P).only ho9 (by omega))
      have Z39 := hide ((unhide Z3P).only ho9 (by omega))
      have E59 := hide ((unhide E5P).only ho9 (by omega))
      have E69 := hide ((unhide E6P).only ho9 (by omega))
      have HB9 := hide ((unhide HBP).trans (ho9.below.mono (by omega)))
      clear hr9 ho9 HRP Z2P Z3P E5P E6P HBP
      rcases (show x9 = 0 ∨ x9 = 1 ∨ x9 = 2 ∨ x9 = 3 ∨ x9 = 4 ∨ x9 = 5 ∨ x9 = 6 ∨ x9 = 7 by omega) with rfl | rfl | rfl | rfl | rfl | rfl | rfl | rfl
      · go_wp2_with fail
        refine (pick_any W2 w9 q v' zs' _ 4 (unhide HR9) (by omega) (by omega) (by omega)).mono ?_
        rintro e w10 ⟨x10, rfl, hx100, hx101, hr10, ho10⟩
        have Z210 := hide ((unhide Z29).only ho10 (by omega))
        have Z310 := hide ((unhide Z39).only ho10 (by omega))
        have E510 := hide ((unhide E59).only ho10 (by omega))
        have E610 := hide ((unhide E69).only ho10 (by omega))
        have HB10 := hide ((unhide HB9).trans (ho10.below.mono (by omega)))
        clear hr10 ho10
        have kk := (unhide E610).c1
        have kf := (unhide E610).fz
        dsimp only at kk
        go_wp2_with fail
        go_meet
        case rel => exact ⟨rfl, a0, x10, a2, a3, a4, a5, a6, set_other (by omega) _ (unhide E510), set_row1 (unhide E610) x10, set_other (by omega) _ (unhide Z210), set_other (by omega) _ (unhide Z310), (unhide HB10).setCell (show w.heap.size ≤ r6 by omega) _⟩
      · go_wp2_with fail
        refine (pick_any W2 w9 q v' zs' _ 4 (unhide HR9) (by omega) (by omega) (by omega)).mono ?_
        rintro e w10 ⟨x10, rfl, hx100, hx101, hr10, ho10⟩
        have Z210 := hide ((unhide Z29).only ho10 (by omega))
        have Z310 := hide ((unhide Z39).only ho10 (by omega))
        have E510 := hide ((unhide E59).only ho10 (by omega))
        have E610 := hide ((unhide E69).only ho10 (by omega))
        have HB10 := hide ((unhide HB9).trans (ho10.below.mono (by omega)))
        clear hr10 ho10
        have kk := (unhide E610).c2
        have kf := (unhide E610).fz
        dsimp only at kk
        go_wp2_with fail
        go_meet
        case rel => exact ⟨rfl, a0, a1, x10, a3, a4, a5, a6, set_other (by omega) _ (unhide E510), set_row2 (unhide E610) x10, set_other (by omega) _ (unhide Z210), set_other (by omega) _ (unhide Z310), (unhide HB10).setCell (show w.heap.size ≤ r6 by omega) _⟩
      · go_wp2_with fail
        refine (pick_any W2 w9 q v' zs' _ 9 (unhide HR9) (by omega) (by omega) (by omega)).mono ?_
        rintro e w10 ⟨x10, rfl, hx100, hx101, hr10, ho10⟩
        have Z210 := hide ((unhide Z29).only ho10 (by omega))
        have Z310 := hide ((unhide Z39).only ho10 (by omega))
        have E510 := hide ((unhide E59).only ho10 (by omega))
        have E610 := hide ((unhide E69).only ho10 (by omega))
        have HB10 := hide ((unhide HB9).trans (ho10.below.mono (by omega)))
        clear hr10 ho10
        have kk := (unhide E610).c3
        have kf := (unhide E610).fz
        dsimp only at kk
        go_wp2_with fail
        go_meet
        case rel => exact ⟨rfl, a0, a1, a2, x10, a4, a5, a6, set_other (by omega) _ (unhide E510), set_row3 (unhide E610) x10, set_other (by omega) _ (unhide Z210), set_other (by omega) _ (unhide Z310), (unhide HB10).setCell (show w.heap.size ≤ r6 by omega) _⟩
      · go_wp2_with fail
        refine (pick_any W2 w9 q v' zs' _ 3 (unhide HR9) (by omega) (by omega) (by omega)).mono ?_
        rintro e w10 ⟨x10, rfl, hx100, hx101, hr10, ho10⟩
        have Z210 := hide ((unhide Z29).only ho10 (by omega))
        have Z310 := hide ((unhide Z39).only ho10 (by omega))
        have E510 := hide ((unhide E59).only ho10 (by omega))
        have E610 := hide ((unhide E69).only ho10 (by omega))
        have HB10 := hide ((unhide HB9).trans (ho10.below.mono (by omega)))
        clear hr10 ho10
        have kk := (unhide E610).c4
        have kf := (unhide E610).fz
        dsimp only at kk
        go_wp2_with fail
        go_meet
        case rel => exact ⟨rfl, a0, a1, a2, a3, x10, a5, a6, set_other (by omega) _ (unhide E510), set_row4 (unhide E610) x10, set_other (by omega) _ (unhide Z210), set_other (by omega) _ (unhide Z310), (unhide HB10).setCell (show w.heap.size ≤ r6 by omega) _⟩
      · go_wp2_with fail
        refine (pick_any W2 w9 q v' zs' _ 3 (unhide HR9) (by omega) (by omega) (by omega)).mono ?_
        rintro e w10 ⟨x10, rfl, hx100, hx101, hr10, ho10⟩
        have Z210 := hide ((unhide Z29).only ho10 (by omega))
        have Z310 := hide ((unhide Z39).only ho10 (by omega))
        have E510 := hide ((unhide E59).only ho10 (by omega))
        have E610 := hide ((unhide E69).only ho10 (by omega))
        have HB10 := hide ((unhide HB9).trans (ho10.below.mono (by omega)))
        clear hr10 ho10
        have kk := (unhide E610).c5
        have kf := (unhide E610).fz
        dsimp only at kk
        go_wp2_with fail
        go_meet
        case rel => exact ⟨rfl, a0, a1, a2, a3, a4, x10, a6, set_other (by omega) _ (unhide E510), set_row5 (unhide E610) x10, set_other (by omega) _ (unhide Z210), set_other (by omega) _ (unhide Z310), (unhide HB10).setCell (show w.heap.size ≤ r6 by omega) _⟩
      · go_wp2_with fail
        refine (pick_any W2 w9 q v' zs' _ 9 (unhide HR9) (by omega) (by omega) (by omega)).mono ?_
        rintro e w10 ⟨x10, rfl, hx100, hx101, hr10, ho10⟩
        have Z210 := hide ((unhide Z29).only ho10 (by omega))
        have Z310 := hide ((unhide Z39).only ho10 (by omega))
        have E510 := hide ((unhide E59).only ho10 (by omega))
        have E610 := hide ((unhide E69).only ho10 (by omega))
        have HB10 := hide ((unhide HB9).trans (ho10.below.mono (by omega)))
        clear hr10 ho10
        have kk := (unhide E610).c6
        have kf := (unhide E610).fz
        dsimp only at kk
        go_wp2_with fail
        go_meet
        case rel => exact ⟨rfl, a0, a1, a2, a3, a4, a5, x10, set_other (by omega) _ (unhide E510), set_row6 (unhide E610) x10, set_other (by omega) _ (unhide Z210), set_other (by omega) _ (unhide Z310), (unhide HB10).setCell (show w.heap.size ≤ r6 by omega) _⟩
      · have kk := (unhide E69).c0
        have kf := (unhide E69).fz
        dsimp only at kk
        go_wp2_with fail
        go_meet
        case rel => exact ⟨rfl, a0 + 1, a1, a2, a3, a4, a5, a6, set_other (by omega) _ (unhide E59), set_row0 (unhide E69) (a0 + 1), set_other (by omega) _ (unhide Z29), set_other (by omega) _ (unhide Z39), (unhide HB9).setCell (show w.heap.size ≤ r6 by omega) _⟩
      · go_wp2_with fail
        go_meet
        case rel => exact ⟨rfl, a0, a1, a2, a3, a4, a5, a6, unhide E59, unhide E69, unhide Z29, unhide Z39, unhide HB9⟩
    · go_wp2_with fail
      go_meet
      case rel => exact ⟨rfl, b0, b1, b2, b3, b4, b5, b6, unhide E58, unhide E68, unhide Z28, unhide Z38, unhide HBW8⟩
  case rest =>
    obtain ⟨rfl, c0, c1, c2, c3, c4, c5, c6, h5, h6, h2, h3, hbw⟩ := hcut
    have HEND := hide (fun (e1 e2 : EvV) => put7_below (r := w.heap.size + 1) (put7_below (r := w.heap.size) hbw (Nat.le_refl _) e1) (by omega) e2)
    obtain ⟨g0, g1, g2, g3, g4, g5, g6, gf⟩ := h5
    obtain ⟨k0, k1, k2, k3, k4, k5, k6, kf⟩ := h6
    obtain ⟨m0, m1, m2, m3, m4, m5, m6, mf⟩ := h2
    obtain ⟨n0, n1, n2, n3, n4, n5, n6, nf⟩ := h3
    dsimp only at g0 g1 g2 g3 g4 g5 g6 k0 k1 k2 k3 k4 k5 k6 m0 m1 m2 m3 m4 m5 m6 n0 n1 n2 n3 n4 n5 n6
    have d1 : ¬ r5 = w.heap.size := by omega
    have d2 : ¬ r5 = w.heap.size + 1 := by omega
    have d3 : ¬ r6 = w.heap.size := by omega
    have d4 : ¬ r6 = w.heap.size + 1 := by omega
    clear hbw
    go_wp2_with fail
    go_region_held3 (fun w' => w'.cell? ⟨r5, 0, none⟩ = some (.int .i64 a0) ∧ w'.cell? ⟨r5, 1, none⟩ = some (.int .i64 a1) ∧ w'.cell? ⟨r5, 2, none⟩ = some (.int .i64 a2) ∧ w'.cell? ⟨r5, 3, none⟩ = some (.int .i64 a3) ∧ w'.cell? ⟨r5, 4, none⟩ = some (.int .i64 a4) ∧ w'.cell? ⟨r5, 5, none⟩ = some (.int .i64 a5) ∧ w'.cell? ⟨r5, 6, none⟩ = some (.int .i64 a6) ∧ w'.cell? ⟨r6, 0, none⟩ = some (.int .i64 c0) ∧ w'.cell? ⟨r6, 1, none⟩ = some (.int .i64 c1) ∧ w'.cell? ⟨r6, 2, none⟩ = some (.int .i64 c2) ∧ w'.cell? ⟨r6, 3, none⟩ = some (.int .i64 c3) ∧ w'.cell? ⟨r6, 4, none⟩ = some (.int .i64 c4) ∧ w'.cell? ⟨r6, 5, none⟩ = some (.int .i64 c5) ∧ w'.cell? ⟨r6, 6, none⟩ = some (.int .i64 c6))
      (simp [*, go_sem])
      (fail)
    go_wp2_with fail
    refine bodyPost_ret (v := .tuple #[evAgg ⟨a0, a1, a2, a3, a4, a5, a6⟩, evAgg ⟨c0, c1, c2, c3, c4, c5, c6⟩]) ?_ rfl ⟨⟨a0, a1, a2, a3, a4, a5, a6⟩, ⟨c0, c1, c2, c3, c4, c5, c6⟩, rfl, ((unhide HEND) ⟨a0, a1, a2, a3, a4, a5, a6⟩ ⟨c0, c1, c2, c3, c4, c5, c6⟩).drew⟩
    simp [results, Try.results9, go_sem, m0, m1, m2, m3, m4, m5, m6, n0, n1, n2, n3, n4, n5, n6]
end Go.Proofs.Ytmkbacpkemmepaa
