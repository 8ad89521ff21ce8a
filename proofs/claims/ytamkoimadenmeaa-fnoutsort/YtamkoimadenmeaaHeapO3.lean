/- impl's heap of things let out: firstOf. -/
import Derived.Test.YtamkoimadenmeaaHeapO2
import Derived.BigQuiet
namespace Go.Proofs.Ytamkoimadenmeaa
open Go.RowKit
set_option linter.unusedVariables false
set_option linter.unusedSimpArgs false

/-- The place a, or the place o where what is there comes ahead. -/
def better (xs : List OutV) (a o : Nat) : Nat :=
  match xs[o]?, xs[a]? with
  | some x, some y => if outLess x y then o else a
  | _, _ => a

def bestTo (xs : List OutV) (p : Nat) : Nat → Nat
  | 0 => p
  | k + 1 => better xs (bestTo xs p k) (2 * p + 1 + k)

theorem better_out {xs : List OutV} {a o : Nat} (h : ¬ o < xs.length) : better xs a o = a := by
  unfold better; rw [List.getElem?_eq_none (by omega)]
theorem better_in {xs : List OutV} {a o : Nat} (h : o < xs.length) (ha : a < xs.length) : better xs a o = if outLess xs[o] xs[a] then o else a := by
  unfold better; rw [List.getElem?_eq_getElem h, List.getElem?_eq_getElem ha]
theorem better_lt {xs : List OutV} {a o : Nat} (ha : a < xs.length) : better xs a o < xs.length := by
  by_cases h : o < xs.length
  · rw [better_in h ha]; split <;> assumption
  · rw [better_out h]; exact ha
theorem bestTo_lt {xs : List OutV} {p : Nat} (hp : p < xs.length) : ∀ k, bestTo xs p k < xs.length
  | 0 => hp
  | k + 1 => better_lt (bestTo_lt hp k)

set_option maxRecDepth 100000 in
set_option maxHeartbeats 1000000 in
theorem firstOfOut_any (N t q p r : Nat) (v : Value) (xs : List OutV) (w : World) (h : HeapM N t q v w xs) (hp : p < xs.length) (hx : xs.length ≤ 1000000000)
    (r0 : w.cell? ⟨r, 0, none⟩ = some (.int .i64 ((2 * p + 1 : Nat) : Int))) (r1 : w.cell? ⟨r, 1, none⟩ = some (.int .i64 ((2 * p + 2 : Nat) : Int))) :
    Calls Try.prog 26 #[.pointer (some ⟨q, 0, none⟩), .int .i64 p, .slice (some ⟨r, 0, none⟩) 2 2] w fun e w' => e = .returned (.int .i64 (bestTo xs p 2 : Nat)) ∧ Below w.heap.size w w' := by
  have HH := hide h
  clear h
  have hr : ∀ k, k < 2 → w.cell? ⟨r, k, none⟩ = some (.int .i64 ((2 * p + 1 + k : Nat) : Int)) := fun k hk => match k, hk with
    | 0, _ => r0
    | 1, _ => r1
  have HC := hide hr
  clear hr r0 r1
  go_enter Try.func26, Try.ntmps26
  go_wp2_with fail
  go_loopw [1, 11] (fun a i wr => ∃ (k m : Nat), k ≤ 2 ∧ i = .int .i64 k ∧ a = .int .i64 m ∧ Hid (m = bestTo xs p k) ∧ Hid (Below w.heap.size w wr)) (fun _ i _ => 2 - (intOf i).toNat)
  case atStart => exact ⟨0, p, by omega, rfl, rfl, hide rfl, hide (Below.refl _ _)⟩
  case round =>
    obtain ⟨k, m, hk, rfl, rfl, HM, HB⟩ := hrel
    by_cases hlt : k < 2
    · have hkI : (k : Int) < 2 := by omega
      have hk0 : (0 : Int) ≤ (k : Int) := by omega
      have g0 := cell_on (unhide HB) ((unhide HC) k hlt)
      have hmlt : m < xs.length := by rw [unhide HM]; exact bestTo_lt hp k
      have hHM := (unhide HH).on (unhide HB)
      obtain ⟨g, cap, rfl, hl, hmx, hcs⟩ := hHM.at (by omega)
      unfold maxLen at hmx
      have h0 := hHM.c0
      have h1 := hHM.c1
      clear hHM
      generalize hO : 2 * p + 1 + k = o at *
      have hA := hcs m hmlt
      have hi0 : (0 : Int) ≤ (m : Int) := by omega
      have hiI : (m : Int) < (xs.length : Int) := by omega
      by_cases ho : o < xs.length
      · have hd : decide ((o : Int) < (xs.length : Int)) = true := decide_eq_true (by omega)
        have hoI : (o : Int) < (xs.length : Int) := by omega
        have ho0 : (0 : Int) ≤ (o : Int) := by omega
        have hB := hcs o ho
        clear hcs
        have HL : Hid (bestTo xs p (k + 1) = if outLess xs[o] xs[m] then o else m) := hide (by
          show better xs (bestTo xs p k) (2 * p + 1 + k) = _
          rw [hO, ← unhide HM]; exact better_in ho hmlt)
        generalize xs[m] = xa at *
        generalize xs[o] = xb at *
        go_upto_region 4 with fail
        go_region_held3 (fun w' => w'.cell? ⟨q, 0, none⟩ = some (.slice (some ⟨g, 0, none⟩) xs.length cap) ∧ w'.cell? ⟨q, 1, none⟩ = some (.func (.func 6) #[] #[]) ∧
    w'.cell? ⟨g, m * 5, none⟩ = some (.int .i64 xa.time) ∧ w'.cell? ⟨g, m * 5 + 1, none⟩ = some (.int .i64 xa.proc) ∧ w'.cell? ⟨g, m * 5 + 2, none⟩ = some (.int .i64 xa.count) ∧ w'.cell? ⟨g, m * 5 + 3, none⟩ = some (.int .i64 xa.n) ∧ w'.cell? ⟨g, m * 5 + 4, none⟩ = some (.int .i64 xa.value) ∧
    w'.cell? ⟨g, o * 5, none⟩ = some (.int .i64 xb.time) ∧ w'.cell? ⟨g, o * 5 + 1, none⟩ = some (.int .i64 xb.proc) ∧ w'.cell? ⟨g, o * 5 + 2, none⟩ = some (.int .i64 xb.count) ∧ w'.cell? ⟨g, o * 5 + 3, none⟩ = some (.int .i64 xb.n) ∧ w'.cell? ⟨g, o * 5 + 4, none⟩ = some (.int .i64 xb.value) ∧ Below wr.heap.size wr w')
          ((go_split_ands; refine sRise_of h0 h1 hA hB ?_; first | exact (Below.refl _ _).drew | exact below_then (by assumption) hbe))
          (first
            | (go_at_call 6; refine (implOutLess_any xb xa _).mono ?_; rintro e we ⟨rfl, hbe⟩; have hBe := below_then (a := wr) (by go_split_ands; assumption) hbe))
        cases hless : outLess xb xa
        · go_wp2_with fail
          go_roundw
          case rel => exact ⟨k + 1, m, by omega, by simp, rfl, hide (by rw [unhide HL, hless]; rfl), hide (below_then (unhide HB) hBe)⟩
          case measure => simp [intOf]; omega
        · go_wp2_with fail
          go_roundw
          case rel => exact ⟨k + 1, o, by omega, by simp, rfl, hide (by rw [unhide HL, hless]; rfl), hide (below_then (unhide HB) hBe)⟩
          case measure => simp [intOf]; omega
      · have hd : decide ((o : Int) < (xs.length : Int)) = false := decide_eq_false (by omega)
        have hdN : decide (o < xs.length) = false := decide_eq_false ho
        have hge : xs.length ≤ o := by omega
        have HL : Hid (bestTo xs p (k + 1) = m) := hide (by
          show better xs (bestTo xs p k) (2 * p + 1 + k) = _
          rw [hO, ← unhide HM]; exact better_out ho)
        clear hcs
        go_upto_region 4 with fail
        go_quiet (fail)
        go_wp2_with fail
        go_roundw
        case rel => exact ⟨k + 1, m, by omega, by simp, rfl, hide (unhide HL).symm, hide (below_then (unhide HB) (below_drewN (Below.refl _ _) _))⟩
        case measure => simp [intOf]; omega
    · obtain rfl : k = 2 := by omega
      go_wp2_with fail
      go_ret
      exact ⟨by rw [unhide HM]; rfl, unhide HB⟩
end Go.Proofs.Ytamkoimadenmeaa
