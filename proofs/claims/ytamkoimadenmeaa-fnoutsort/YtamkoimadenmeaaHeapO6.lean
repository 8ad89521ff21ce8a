/- impl's heap of things let out: sink at an empty list. -/
import Derived.Test.YtamkoimadenmeaaHeapO5
namespace Go.Proofs.Ytamkoimadenmeaa
open Go.RowKit
set_option linter.unusedVariables false
set_option linter.unusedSimpArgs false

set_option maxRecDepth 100000 in
set_option maxHeartbeats 1000000 in
theorem firstOfOut_nil (q r : Nat) (ad : Option Addr) (cap : Nat) (w : World) (h0 : w.cell? ⟨q, 0, none⟩ = some (.slice ad 0 cap))
    (r0 : w.cell? ⟨r, 0, none⟩ = some (.int .i64 1)) (r1 : w.cell? ⟨r, 1, none⟩ = some (.int .i64 2)) :
    Calls Try.prog 26 #[.pointer (some ⟨q, 0, none⟩), .int .i64 0, .slice (some ⟨r, 0, none⟩) 2 2] w fun e w' => e = .returned (.int .i64 0) ∧ Below w.heap.size w w' := by
  have hr : ∀ k, k < 2 → w.cell? ⟨r, k, none⟩ = some (.int .i64 ((1 + k : Nat) : Int)) := fun k hk => match k, hk with
    | 0, _ => r0
    | 1, _ => r1
  have HC := hide hr
  have H0 := hide h0
  clear hr r0 r1 h0
  go_enter Try.func26, Try.ntmps26
  go_wp2_with fail
  go_loopw [1, 11] (fun a i wr => ∃ k : Nat, k ≤ 2 ∧ a = .int .i64 0 ∧ i = .int .i64 k ∧ Hid (Below w.heap.size w wr)) (fun _ i _ => 2 - (intOf i).toNat)
  case atStart => exact ⟨0, by omega, rfl, rfl, hide (Below.refl _ _)⟩
  case round =>
    obtain ⟨k, hk, rfl, rfl, HB⟩ := hrel
    by_cases hlt : k < 2
    · have hkI : (k : Int) < 2 := by omega
      have hk0 : (0 : Int) ≤ (k : Int) := by omega
      have g0 := cell_on (unhide HB) ((unhide HC) k hlt)
      have h0 := cell_on (unhide HB) (unhide H0)
      generalize 1 + k = o at *
      have hd : decide ((o : Int) < 0) = false := decide_eq_false (by omega)
      have hge : (0 : Int) ≤ (o : Int) := by omega
      go_upto_region 4 with fail
      go_quiet (fail)
      go_wp2_with fail
      go_roundw
      case rel => exact ⟨k + 1, by omega, rfl, by simp, hide (below_then (unhide HB) (below_drewN (Below.refl _ _) _))⟩
      case measure => simp [intOf]; omega
    · obtain rfl : k = 2 := by omega
      go_wp2_with fail
      go_ret
      exact ⟨rfl, unhide HB⟩

set_option maxRecDepth 100000 in
set_option maxHeartbeats 1000000 in
theorem sinkOut_nil (q : Nat) (ad : Option Addr) (cap : Nat) (w : World) (h0 : w.cell? ⟨q, 0, none⟩ = some (.slice ad 0 cap)) :
    Calls Try.prog 24 #[.pointer (some ⟨q, 0, none⟩), .int .i64 0] w fun e w' => e = .returned (.tuple #[]) ∧ Below w.heap.size w w' := by
  have H0 := hide h0
  clear h0
  go_enter Try.func24, Try.ntmps24
  go_wp2_with fail
  go_loopw [1] (fun i wr => i = .int .i64 0 ∧ wr = w) (fun _ _ => 0)
  case atStart => exact ⟨rfl, rfl⟩
  case round =>
    obtain ⟨rfl, rfl⟩ := hrel
    go_wp2_with fail
    have hbA : Below wr.heap.size wr (wr.alloc (.cells #[.int .i64 1, .int .i64 2] 3)) := (Below.refl _ _).alloc (Nat.le_refl _) _
    refine (firstOfOut_nil q wr.heap.size ad cap _ (cell_on hbA (unhide H0)) (by simp [go_sem]) (by simp [go_sem])).mono ?_
    rintro e w2 ⟨rfl, hb2⟩
    have HB2 := hide (below_then hbA hb2)
    go_wp2_with fail
    (try simp only [Exit.inBlock, Exit.then])
    refine bodyPost_ret (results_none rfl _ _ _) rfl ?_
    exact ⟨rfl, unhide HB2⟩
end Go.Proofs.Ytamkoimadenmeaa
