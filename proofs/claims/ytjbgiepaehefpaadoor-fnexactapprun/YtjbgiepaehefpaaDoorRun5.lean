/- What is known, and an event, in form: contracts of spec's l1StateOk and l1EventOk. -/
import Derived.Test.YtjbgiepaehefpaaDoorRun4
namespace Go.Proofs.YtjbgiepaehefpaaDoor
open Go.RowKit
set_option linter.unusedVariables false

def stOk (s : StV) : Bool := inR 0 999 s.x && inR 0 999 s.y && inR 0 12 s.c
def evOk (e : EvV) : Bool := inR 0 40 e.time && inR 0 3 e.to && inR (-1) 3 e.src && inR 0 12 e.count && inR 0 3 e.n && inR 0 3 e.kind && inR 0 999 e.arg
theorem stOk_in {s : StV} (h : stOk s = true) : stIn s := by
  simp only [stOk, inR, Bool.and_eq_true, decide_eq_true_eq] at h
  unfold stIn; omega
theorem evOk_in {e : EvV} (h : evOk e = true) : 0 ≤ e.time ∧ e.time ≤ 40 ∧ 0 ≤ e.arg ∧ e.arg ≤ 999 := by
  simp only [evOk, inR, Bool.and_eq_true, decide_eq_true_eq] at h
  omega

set_option maxRecDepth 100000 in
set_option maxHeartbeats 1600000 in
theorem l1StateOk_any (s : StV) (w : World) :
    Calls Tryd.prog 57 #[stAgg s] w fun r w' => r = .returned (.bool (stOk s)) ∧ Below w.heap.size w w' := by
  obtain ⟨x, y, c⟩ := s
  have e : stOk ⟨x, y, c⟩ = (inR 0 999 x && inR 0 999 y && inR 0 12 c) := rfl
  rw [e]
  cases h0 : inR 0 999 x
  · go_enter Tryd.func57, Tryd.ntmps57
    go_wp2_with (first | (go_at_call 77; refine (l1Num_any _ _).mono ?_; rintro e w' ⟨rfl, rfl⟩) | (go_at_call 78; refine (l1Proc_any _ _).mono ?_; rintro e w' ⟨rfl, rfl⟩) | (go_at_call 46; refine (l6In_any _ _ _ _).mono ?_; rintro e w' ⟨rfl, rfl⟩))
    go_ret
    exact ⟨ret_bool rfl, (Below.refl _ _).alloc (Nat.le_refl _) _⟩
  · cases h1 : inR 0 999 y
    · go_enter Tryd.func57, Tryd.ntmps57
      go_wp2_with (first | (go_at_call 77; refine (l1Num_any _ _).mono ?_; rintro e w' ⟨rfl, rfl⟩) | (go_at_call 78; refine (l1Proc_any _ _).mono ?_; rintro e w' ⟨rfl, rfl⟩) | (go_at_call 46; refine (l6In_any _ _ _ _).mono ?_; rintro e w' ⟨rfl, rfl⟩))
      go_ret
      exact ⟨ret_bool rfl, (Below.refl _ _).alloc (Nat.le_refl _) _⟩
    · cases h2 : inR 0 12 c
      · go_enter Tryd.func57, Tryd.ntmps57
        go_wp2_with (first | (go_at_call 77; refine (l1Num_any _ _).mono ?_; rintro e w' ⟨rfl, rfl⟩) | (go_at_call 78; refine (l1Proc_any _ _).mono ?_; rintro e w' ⟨rfl, rfl⟩) | (go_at_call 46; refine (l6In_any _ _ _ _).mono ?_; rintro e w' ⟨rfl, rfl⟩))
        go_ret
        exact ⟨ret_bool rfl, (Below.refl _ _).alloc (Nat.le_refl _) _⟩
      · go_enter Tryd.func57, Tryd.ntmps57
        go_wp2_with (first | (go_at_call 77; refine (l1Num_any _ _).mono ?_; rintro e w' ⟨rfl, rfl⟩) | (go_at_call 78; refine (l1Proc_any _ _).mono ?_; rintro e w' ⟨rfl, rfl⟩) | (go_at_call 46; refine (l6In_any _ _ _ _).mono ?_; rintro e w' ⟨rfl, rfl⟩))
        go_ret
        exact ⟨ret_bool rfl, (Below.refl _ _).alloc (Nat.le_refl _) _⟩

set_option maxRecDepth 100000 in
set_option maxHeartbeats 1600000 in
theorem l1EventOk_any (e : EvV) (w : World) :
    Calls Tryd.prog 58 #[evAgg e] w fun r w' => r = .returned (.bool (evOk e)) ∧ Below w.heap.size w w' := by
  obtain ⟨time, to, src, count, n, kind, arg⟩ := e
  have e : evOk ⟨time, to, src, count, n, kind, arg⟩ = (inR 0 40 time && inR 0 3 to && inR (-1) 3 src && inR 0 12 count && inR 0 3 n && inR 0 3 kind && inR 0 999 arg) := rfl
  rw [e]
  cases h0 : inR 0 40 time
  · go_enter Tryd.func58, Tryd.ntmps58
    go_wp2_with (first | (go_at_call 77; refine (l1Num_any _ _).mono ?_; rintro e w' ⟨rfl, rfl⟩) | (go_at_call 78; refine (l1Proc_any _ _).mono ?_; rintro e w' ⟨rfl, rfl⟩) | (go_at_call 46; refine (l6In_any _ _ _ _).mono ?_; rintro e w' ⟨rfl, rfl⟩))
    go_ret
    exact ⟨ret_bool rfl, (Below.refl _ _).alloc (Nat.le_refl _) _⟩
  · cases h1 : inR 0 3 to
    · go_enter Tryd.func58, Tryd.ntmps58
      go_wp2_with (first | (go_at_call 77; refine (l1Num_any _ _).mono ?_; rintro e w' ⟨rfl, rfl⟩) | (go_at_call 78; refine (l1Proc_any _ _).mono ?_; rintro e w' ⟨rfl, rfl⟩) | (go_at_call 46; refine (l6In_any _ _ _ _).mono ?_; rintro e w' ⟨rfl, rfl⟩))
      go_ret
      exact ⟨ret_bool rfl, (Below.refl _ _).alloc (Nat.le_refl _) _⟩
    · cases h2 : inR (-1) 3 src
      · go_enter Tryd.func58, Tryd.ntmps58
        go_wp2_with (first | (go_at_call 77; refine (l1Num_any _ _).mono ?_; rintro e w' ⟨rfl, rfl⟩) | (go_at_call 78; refine (l1Proc_any _ _).mono ?_; rintro e w' ⟨rfl, rfl⟩) | (go_at_call 46; refine (l6In_any _ _ _ _).mono ?_; rintro e w' ⟨rfl, rfl⟩))
        go_ret
        exact ⟨ret_bool rfl, (Below.refl _ _).alloc (Nat.le_refl _) _⟩
      · cases h3 : inR 0 12 count
        · go_enter Tryd.func58, Tryd.ntmps58
          go_wp2_with (first | (go_at_call 77; refine (l1Num_any _ _).mono ?_; rintro e w' ⟨rfl, rfl⟩) | (go_at_call 78; refine (l1Proc_any _ _).mono ?_; rintro e w' ⟨rfl, rfl⟩) | (go_at_call 46; refine (l6In_any _ _ _ _).mono ?_; rintro e w' ⟨rfl, rfl⟩))
          go_ret
          exact ⟨ret_bool rfl, (Below.refl _ _).alloc (Nat.le_refl _) _⟩
        · cases h4 : inR 0 3 n
          · go_enter Tryd.func58, Tryd.ntmps58
            go_wp2_with (first | (go_at_call 77; refine (l1Num_any _ _).mono ?_; rintro e w' ⟨rfl, rfl⟩) | (go_at_call 78; refine (l1Proc_any _ _).mono ?_; rintro e w' ⟨rfl, rfl⟩) | (go_at_call 46; refine (l6In_any _ _ _ _).mono ?_; rintro e w' ⟨rfl, rfl⟩))
            go_ret
            exact ⟨ret_bool rfl, (Below.refl _ _).alloc (Nat.le_refl _) _⟩
          · cases h5 : inR 0 3 kind
            · go_enter Tryd.func58, Tryd.ntmps58
              go_wp2_with (first | (go_at_call 77; refine (l1Num_any _ _).mono ?_; rintro e w' ⟨rfl, rfl⟩) | (go_at_call 78; refine (l1Proc_any _ _).mono ?_; rintro e w' ⟨rfl, rfl⟩) | (go_at_call 46; refine (l6In_any _ _ _ _).mono ?_; rintro e w' ⟨rfl, rfl⟩))
              go_ret
              exact ⟨ret_bool rfl, (Below.refl _ _).alloc (Nat.le_refl _) _⟩
            · cases h6 : inR 0 999 arg
              · go_enter Tryd.func58, Tryd.ntmps58
                go_wp2_with (first | (go_at_call 77; refine (l1Num_any _ _).mono ?_; rintro e w' ⟨rfl, rfl⟩) | (go_at_call 78; refine (l1Proc_any _ _).mono ?_; rintro e w' ⟨rfl, rfl⟩) | (go_at_call 46; refine (l6In_any _ _ _ _).mono ?_; rintro e w' ⟨rfl, rfl⟩))
                go_ret
                exact ⟨ret_bool rfl, (Below.refl _ _).alloc (Nat.le_refl _) _⟩
              · go_enter Tryd.func58, Tryd.ntmps58
                go_wp2_with (first | (go_at_call 77; refine (l1Num_any _ _).mono ?_; rintro e w' ⟨rfl, rfl⟩) | (go_at_call 78; refine (l1Proc_any _ _).mono ?_; rintro e w' ⟨rfl, rfl⟩) | (go_at_call 46; refine (l6In_any _ _ _ _).mono ?_; rintro e w' ⟨rfl, rfl⟩))
                go_ret
                exact ⟨ret_bool rfl, (Below.refl _ _).alloc (Nat.le_refl _) _⟩
end Go.Proofs.YtjbgiepaehefpaaDoor
