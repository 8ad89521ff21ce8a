/- impl's heap of things let out: sink. -/
import Derived.Test.YtamkoimadenmeaaHeapO4
namespace Go.Proofs.Ytamkoimadenmeaa
open Go.RowKit
set_option linter.unusedVariables false
set_option linter.unusedSimpArgs false

set_option maxRecDepth 100000 in
set_option maxHeartbeats 1000000 in
theorem sinkOut_any (S : Strict outLess) (N t q p : Nat) (v : Value) (os : List OutV) (w : World) (h : HeapM N t q v w os) (hp : p < os.length) (hx : os.length ≤ 1000000000) (hR : SinkAt outLess os p) :
    Calls Try.prog 24 #[.pointer (some ⟨q, 0, none⟩), .int .i64 p] w fun e w' => e = .returned (.tuple #[]) ∧ ∃ os', os'.Perm os ∧ Heap outLess os' ∧ HeapM N t q v w' os' ∧ Grow v w w' := by
  have HH := hide h
  have HR := hide hR
  clear h hR
  go_enter Try.func24, Try.ntmps24
  go_wp2_with fail
  go_loopw [1] (fun i wr => ∃ (m : Nat) (xs : List OutV), i = .int .i64 m ∧ m < xs.length ∧ xs.length = os.length ∧ Hid (xs.Perm os) ∧ Hid (SinkAt outLess xs m) ∧ Hid (HeapM N t q v wr xs) ∧ Hid (Grow v w wr)) (fun i _ => os.length - (intOf i).toNat)
  case atStart => exact ⟨p, os, rfl, hp, rfl, hide (List.Perm.refl _), HR, HH, hide (Grow.refl _ _)⟩
  case round =>
    obtain ⟨m, xs, rfl, hlt, hlen, HP, HSA, HM, HG⟩ := hrel
    have hm9 : (m : Int) < 1000000000 := by omega
    have hm0 : (0 : Int) ≤ (m : Int) := by omega
    go_wp2_with fail
    have hbA : Below wr.heap.size wr (wr.alloc (.cells #[.int .i64 (2 * (m : Int) + 1), .int .i64 (2 * (m : Int) + 2)] 3)) := (Below.refl _ _).alloc (Nat.le_refl _) _
    refine (firstOfOut_any N t q m wr.heap.size v xs _ ((unhide HM).on hbA) hlt (by omega) (by simp [go_sem]) (by simp [go_sem])).mono ?_
    rintro e w2 ⟨rfl, hb2⟩
    have hB2 := below_then hbA hb2
    have HB2 := hide hB2
    have HF := hide (best_first S hlt)
    have HFL : Hid (bestTo xs m 2 < xs.length) := hide (bestTo_lt hlt 2)
    clear hbA hb2 hB2
    generalize bestTo xs m 2 = f at *
    by_cases hfm : f = m
    · subst hfm
      have hqm : ((f : Int) == (f : Int)) = true := by simp
      go_wp2_with fail
      (try simp only [Exit.inBlock, Exit.then])
      refine bodyPost_ret (results_none rfl _ _ _) rfl ?_
      exact ⟨rfl, xs, unhide HP, (unhide HSA).stays (unhide HF), (unhide HM).on (unhide HB2), (unhide HG).trans (Grow.ofBelow (unhide HB2))⟩
    · have hqm : ((f : Int) == (m : Int)) = false := by simp; omega
      have hfl := unhide HFL
      have hmf : m < f := by rcases (unhide HF).one with h | ⟨h | h, _⟩ <;> omega
      have HXA : Hid (xs[m]? = some xs[m]) := hide (List.getElem?_eq_getElem hlt)
      have HXB : Hid (xs[f]? = some xs[f]) := hide (List.getElem?_eq_getElem hfl)
      generalize xs[m] = xa at *
      generalize xs[f] = xb at *
      go_wp2_with fail
      refine (swapOut_heap N t q m f _ xs xa xb _ ((unhide HM).on (unhide HB2)) (unhide HXA) (unhide HXB) (by omega)).mono ?_
      rintro e w9 ⟨rfl, hm9, hg9⟩
      go_wp2_with fail
      go_roundw
      case rel => exact ⟨f, swapL xs m f xa xb, rfl, by rw [swapL_length]; exact hfl, by rw [swapL_length]; exact hlen, hide ((swapL_perm (unhide HXA) (unhide HXB)).trans (unhide HP)), hide ((unhide HSA).step S (unhide HF) hfm (unhide HXA) (unhide HXB)), hide hm9, hide (((unhide HG).trans (Grow.ofBelow (unhide HB2))).trans hg9)⟩
      case measure => simp [intOf]; omega
end Go.Proofs.Ytamkoimadenmeaa
