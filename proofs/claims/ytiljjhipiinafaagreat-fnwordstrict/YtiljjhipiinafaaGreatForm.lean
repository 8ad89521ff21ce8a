/- Tests of form: a state, an event, a thing let out, of spec and of impl. -/
import Derived.Test.YtiljjhipiinafaaGreatRows
import Derived.Test.YtiljjhipiinafaaGreatEv
import Derived.WalkLawsBesides
namespace Go.Proofs.YtiljjhipiinafaaGreat
open Go.RowKit
set_option linter.unusedVariables false
set_option linter.unusedSimpArgs false

theorem within_any (n lo hi : Int) (w : World) :
    Calls Tryz.prog 27 #[.int .i64 n, .int .i64 lo, .int .i64 hi] w fun e w' => e = .returned (.bool (inR lo hi n)) ∧ w' = w := by
  by_cases h1 : lo ≤ n
  · by_cases h2 : n ≤ hi
    · go_enter Tryz.func27, Tryz.ntmps27
      go_wp2
      go_ret
      exact ⟨ret_bool (by simp [inR, h1, h2]), rfl⟩
    · have h3 : hi < n := by omega
      go_enter Tryz.func27, Tryz.ntmps27
      go_wp2
      go_ret
      exact ⟨ret_bool (by simp [inR]; omega), rfl⟩
  · go_enter Tryz.func27, Tryz.ntmps27
    go_wp2
    go_ret
    exact ⟨ret_bool (by simp [inR]; omega), rfl⟩

theorem l6In_any (n lo hi : Int) (w : World) :
    Calls Tryz.prog 70 #[.int .i64 n, .int .i64 lo, .int .i64 hi] w fun e w' => e = .returned (.bool (inR lo hi n)) ∧ w' = w := by
  by_cases h1 : lo ≤ n
  · by_cases h2 : n ≤ hi
    · go_enter Tryz.func70, Tryz.ntmps70
      go_wp2
      go_ret
      exact ⟨ret_bool (by simp [inR, h1, h2]), rfl⟩
    · go_enter Tryz.func70, Tryz.ntmps70
      go_wp2
      go_ret
      exact ⟨ret_bool (by simp [inR]; omega), rfl⟩
  · go_enter Tryz.func70, Tryz.ntmps70
    go_wp2
    go_ret
    exact ⟨ret_bool (by simp [inR]; omega), rfl⟩

theorem isKind_any (n : Int) (w : World) :
    Calls Tryz.prog 84 #[.int .i64 n] w fun e w' => e = .returned (.bool (inR 0 3 n)) ∧ w' = w := by
  go_enter Tryz.func84, Tryz.ntmps84
  go_wp2_with (go_at_call 27; refine (within_any _ _ _ _).mono ?_; rintro e w' ⟨rfl, rfl⟩)
  go_ret
  exact ⟨rfl, rfl⟩

theorem isProc_any (n : Int) (w : World) :
    Calls Tryz.prog 83 #[.int .i64 n] w fun e w' => e = .returned (.bool (inR 0 3 n)) ∧ w' = w := by
  go_enter Tryz.func83, Tryz.ntmps83
  go_wp2_with (go_at_call 27; refine (within_any _ _ _ _).mono ?_; rintro e w' ⟨rfl, rfl⟩)
  go_ret
  exact ⟨rfl, rfl⟩

theorem isNum_any (n : Int) (w : World) :
    Calls Tryz.prog 85 #[.int .i64 n] w fun e w' => e = .returned (.bool (inR 0 999 n)) ∧ w' = w := by
  go_enter Tryz.func85, Tryz.ntmps85
  go_wp2_with (go_at_call 27; refine (within_any _ _ _ _).mono ?_; rintro e w' ⟨rfl, rfl⟩)
  go_ret
  exact ⟨rfl, rfl⟩

theorem l1Num_any (n : Int) (w : World) :
    Calls Tryz.prog 89 #[.int .i64 n] w fun e w' => e = .returned (.bool (inR 0 999 n)) ∧ w' = w := by
  go_enter Tryz.func89, Tryz.ntmps89
  go_wp2_with (go_at_call 70; refine (l6In_any _ _ _ _).mono ?_; rintro e w' ⟨rfl, rfl⟩)
  go_ret
  exact ⟨rfl, rfl⟩
theorem l1Proc_any (n : Int) (w : World) :
    Calls Tryz.prog 88 #[.int .i64 n] w fun e w' => e = .returned (.bool (inR 0 3 n)) ∧ w' = w := by
  go_enter Tryz.func88, Tryz.ntmps88
  go_wp2_with (go_at_call 70; refine (l6In_any _ _ _ _).mono ?_; rintro e w' ⟨rfl, rfl⟩)
  go_ret
  exact ⟨rfl, rfl⟩

def stOk (s : StV) : Bool := inR 0 999 s.x && inR 0 999 s.y && inR 0 12 s.c
def evOk (e : EvV) : Bool := inR 0 40 e.time && inR 0 3 e.to && inR (-1) 3 e.src && inR 0 12 e.count && inR 0 3 e.n && inR 0 3 e.kind && inR 0 999 e.arg
set_option maxRecDepth 100000 in
set_option maxHeartbeats 1600000 in
theorem l1EventOk_any (e : EvV) (w : World) :
    Calls Tryz.prog 87 #[evAgg e] w fun r w' => r = .returned (.bool (evOk e)) ∧ Below w.heap.size w w' := by
  obtain ⟨time, to, src, count, n, kind, arg⟩ := e
  have e : evOk ⟨time, to, src, count, n, kind, arg⟩ = (inR 0 40 time && inR 0 3 to && inR (-1) 3 src && inR 0 12 count && inR 0 3 n && inR 0 3 kind && inR 0 999 arg) := rfl
  rw [e]
  cases h0 : inR 0 40 time
  · go_enter Tryz.func87, Tryz.ntmps87
    go_wp2_with (first | (go_at_call 89; refine (l1Num_any _ _).mono ?_; rintro e w' ⟨rfl, rfl⟩) | (go_at_call 88; refine (l1Proc_any _ _).mono ?_; rintro e w' ⟨rfl, rfl⟩) | (go_at_call 70; refine (l6In_any _ _ _ _).mono ?_; rintro e w' ⟨rfl, rfl⟩))
    go_ret
    exact ⟨ret_bool rfl, (Below.refl _ _).alloc (Nat.le_refl _) _⟩
  · cases h1 : inR 0 3 to
    · go_enter Tryz.func87, Tryz.ntmps87
      go_wp2_with (first | (go_at_call 89; refine (l1Num_any _ _).mono ?_; rintro e w' ⟨rfl, rfl⟩) | (go_at_call 88; refine (l1Proc_any _ _).mono ?_; rintro e w' ⟨rfl, rfl⟩) | (go_at_call 70; refine (l6In_any _ _ _ _).mono ?_; rintro e w' ⟨rfl, rfl⟩))
      go_ret
      exact ⟨ret_bool rfl, (Below.refl _ _).alloc (Nat.le_refl _) _⟩
    · cases h2 : inR (-1) 3 src
      · go_enter Tryz.func87, Tryz.ntmps87
        go_wp2_with (first | (go_at_call 89; refine (l1Num_any _ _).mono ?_; rintro e w' ⟨rfl, rfl⟩) | (go_at_call 88; refine (l1Proc_any _ _).mono ?_; rintro e w' ⟨rfl, rfl⟩) | (go_at_call 70; refine (l6In_any _ _ _ _).mono ?_; rintro e w' ⟨rfl, rfl⟩))
        go_ret
        exact ⟨ret_bool rfl, (Below.refl _ _).alloc (Nat.le_refl _) _⟩
      · cases h3 : inR 0 12 count
        · go_enter Tryz.func87, Tryz.ntmps87
          go_wp2_with (first | (go_at_call 89; refine (l1Num_any _ _).mono ?_; rintro e w' ⟨rfl, rfl⟩) | (go_at_call 88; refine (l1Proc_any _ _).mono ?_; rintro e w' ⟨rfl, rfl⟩) | (go_at_call 70; refine (l6In_any _ _ _ _).mono ?_; rintro e w' ⟨rfl, rfl⟩))
          go_ret
          exact ⟨ret_bool rfl, (Below.refl _ _).alloc (Nat.le_refl _) _⟩
        · cases h4 : inR 0 3 n
          · go_enter Tryz.func87, Tryz.ntmps87
            go_wp2_with (first | (go_at_call 89; refine (l1Num_any _ _).mono ?_; rintro e w' ⟨rfl, rfl⟩) | (go_at_call 88; refine (l1Proc_any _ _).mono ?_; rintro e w' ⟨rfl, rfl⟩) | (go_at_call 70; refine (l6In_any _ _ _ _).mono ?_; rintro e w' ⟨rfl, rfl⟩))
            go_ret
            exact ⟨ret_bool rfl, (Below.refl _ _).alloc (Nat.le_refl _) _⟩
          · cases h5 : inR 0 3 kind
            · go_enter Tryz.func87, Tryz.ntmps87
              go_wp2_with (first | (go_at_call 89; refine (l1Num_any _ _).mono ?_; rintro e w' ⟨rfl, rfl⟩) | (go_at_call 88; refine (l1Proc_any _ _).mono ?_; rintro e w' ⟨rfl, rfl⟩) | (go_at_call 70; refine (l6In_any _ _ _ _).mono ?_; rintro e w' ⟨rfl, rfl⟩))
              go_ret
              exact ⟨ret_bool rfl, (Below.refl _ _).alloc (Nat.le_refl _) _⟩
            · cases h6 : inR 0 999 arg
              · go_enter Tryz.func87, Tryz.ntmps87
                go_wp2_with (first | (go_at_call 89; refine (l1Num_any _ _).mono ?_; rintro e w' ⟨rfl, rfl⟩) | (go_at_call 88; refine (l1Proc_any _ _).mono ?_; rintro e w' ⟨rfl, rfl⟩) | (go_at_call 70; refine (l6In_any _ _ _ _).mono ?_; rintro e w' ⟨rfl, rfl⟩))
                go_ret
                exact ⟨ret_bool rfl, (Below.refl _ _).alloc (Nat.le_refl _) _⟩
              · go_enter Tryz.func87, Tryz.ntmps87
                go_wp2_with (first | (go_at_call 89; refine (l1Num_any _ _).mono ?_; rintro e w' ⟨rfl, rfl⟩) | (go_at_call 88; refine (l1Proc_any _ _).mono ?_; rintro e w' ⟨rfl, rfl⟩) | (go_at_call 70; refine (l6In_any _ _ _ _).mono ?_; rintro e w' ⟨rfl, rfl⟩))
                go_ret
                exact ⟨ret_bool rfl, (Below.refl _ _).alloc (Nat.le_refl _) _⟩
set_option maxRecDepth 100000 in
set_option maxHeartbeats 1600000 in
theorem eventInForm_any (e : EvV) (w : World) :
    Calls Tryz.prog 61 #[evAgg e] w fun r w' => r = .returned (.bool (evOk e)) ∧ Below w.heap.size w w' := by
  obtain ⟨time, to, src, count, n, kind, arg⟩ := e
  have e : evOk ⟨time, to, src, count, n, kind, arg⟩ = (inR 0 40 time && inR 0 3 to && inR (-1) 3 src && inR 0 12 count && inR 0 3 n && inR 0 3 kind && inR 0 999 arg) := rfl
  rw [e]
  cases g10 : inR 0 40 time
  · go_enter Tryz.func61, Tryz.ntmps61
    go_wp2_with (first | (go_at_call 85; refine (isNum_any _ _).mono ?_; rintro e w' ⟨rfl, rfl⟩) | (go_at_call 83; refine (isProc_any _ _).mono ?_; rintro e w' ⟨rfl, rfl⟩) | (go_at_call 84; refine (isKind_any _ _).mono ?_; rintro e w' ⟨rfl, rfl⟩) | (go_at_call 27; refine (within_any _ _ _ _).mono ?_; rintro e w' ⟨rfl, rfl⟩))
    go_ret
    exact ⟨ret_bool rfl, (Below.refl _ _).alloc (Nat.le_refl _) _⟩
  · cases g21 : inR 0 3 to
    · go_enter Tryz.func61, Tryz.ntmps61
      go_wp2_with (first | (go_at_call 85; refine (isNum_any _ _).mono ?_; rintro e w' ⟨rfl, rfl⟩) | (go_at_call 83; refine (isProc_any _ _).mono ?_; rintro e w' ⟨rfl, rfl⟩) | (go_at_call 84; refine (isKind_any _ _).mono ?_; rintro e w' ⟨rfl, rfl⟩) | (go_at_call 27; refine (within_any _ _ _ _).mono ?_; rintro e w' ⟨rfl, rfl⟩))
      go_ret
      exact ⟨ret_bool rfl, (Below.refl _ _).alloc (Nat.le_refl _) _⟩
    · cases hp : inR 0 3 src
      · by_cases hm : src = -1
        · subst hm
          have hsrc : inR (-1) 3 (-1) = true := rfl
          rw [hsrc]
          cases g50 : inR 0 12 count
          · go_enter Tryz.func61, Tryz.ntmps61
            go_wp2_with (first | (go_at_call 85; refine (isNum_any _ _).mono ?_; rintro e w' ⟨rfl, rfl⟩) | (go_at_call 83; refine (isProc_any _ _).mono ?_; rintro e w' ⟨rfl, rfl⟩) | (go_at_call 84; refine (isKind_any _ _).mono ?_; rintro e w' ⟨rfl, rfl⟩) | (go_at_call 27; refine (within_any _ _ _ _).mono ?_; rintro e w' ⟨rfl, rfl⟩))
            go_ret
            exact ⟨ret_bool rfl, (Below.refl _ _).alloc (Nat.le_refl _) _⟩
          · cases g61 : inR 0 3 n
            · go_enter Tryz.func61, Tryz.ntmps61
              go_wp2_with (first | (go_at_call 85; refine (isNum_any _ _).mono ?_; rintro e w' ⟨rfl, rfl⟩) | (go_at_call 83; refine (isProc_any _ _).mono ?_; rintro e w' ⟨rfl, rfl⟩) | (go_at_call 84; refine (isKind_any _ _).mono ?_; rintro e w' ⟨rfl, rfl⟩) | (go_at_call 27; refine (within_any _ _ _ _).mono ?_; rintro e w' ⟨rfl, rfl⟩))
              go_ret
              exact ⟨ret_bool rfl, (Below.refl _ _).alloc (Nat.le_refl _) _⟩
            · cases g72 : inR 0 3 kind
              · go_enter Tryz.func61, Tryz.ntmps61
                go_wp2_with (first | (go_at_call 85; refine (isNum_any _ _).mono ?_; rintro e w' ⟨rfl, rfl⟩) | (go_at_call 83; refine (isProc_any _ _).mono ?_; rintro e w' ⟨rfl, rfl⟩) | (go_at_call 84; refine (isKind_any _ _).mono ?_; rintro e w' ⟨rfl, rfl⟩) | (go_at_call 27; refine (within_any _ _ _ _).mono ?_; rintro e w' ⟨rfl, rfl⟩))
                go_ret
                exact ⟨ret_bool rfl, (Below.refl _ _).alloc (Nat.le_refl _) _⟩
              · cases g83 : inR 0 999 arg
                · go_enter Tryz.func61, Tryz.ntmps61
                  go_wp2_with (first | (go_at_call 85; refine (isNum_any _ _).mono ?_; rintro e w' ⟨rfl, rfl⟩) | (go_at_call 83; refine (isProc_any _ _).mono ?_; rintro e w' ⟨rfl, rfl⟩) | (go_at_call 84; refine (isKind_any _ _).mono ?_; rintro e w' ⟨rfl, rfl⟩) | (go_at_call 27; refine (within_any _ _ _ _).mono ?_; rintro e w' ⟨rfl, rfl⟩))
                  go_ret
                  exact ⟨ret_bool rfl, (Below.refl _ _).alloc (Nat.le_refl _) _⟩
                · go_enter Tryz.func61, Tryz.ntmps61
                  go_wp2_with (first | (go_at_call 85; refine (isNum_any _ _).mono ?_; rintro e w' ⟨rfl, rfl⟩) | (go_at_call 83; refine (isProc_any _ _).mono ?_; rintro e w' ⟨rfl, rfl⟩) | (go_at_call 84; refine (isKind_any _ _).mono ?_; rintro e w' ⟨rfl, rfl⟩) | (go_at_call 27; refine (within_any _ _ _ _).mono ?_; rintro e w' ⟨rfl, rfl⟩))
                  go_ret
                  exact ⟨ret_bool rfl, (Below.refl _ _).alloc (Nat.le_refl _) _⟩
        · have hm' : (src == -1) = false := by simp [hm]
          have hsrc : inR (-1) 3 src = false := by simp [inR] at hp ⊢; omega
          rw [hsrc]
          go_enter Tryz.func61, Tryz.ntmps61
          go_wp2_with (first | (go_at_call 85; refine (isNum_any _ _).mono ?_; rintro e w' ⟨rfl, rfl⟩) | (go_at_call 83; refine (isProc_any _ _).mono ?_; rintro e w' ⟨rfl, rfl⟩) | (go_at_call 84; refine (isKind_any _ _).mono ?_; rintro e w' ⟨rfl, rfl⟩) | (go_at_call 27; refine (within_any _ _ _ _).mono ?_; rintro e w' ⟨rfl, rfl⟩))
          go_ret
          exact ⟨ret_bool rfl, (Below.refl _ _).alloc (Nat.le_refl _) _⟩
      · have hsrc : inR (-1) 3 src = true := by simp [inR] at hp ⊢; omega
        rw [hsrc]
        cases g40 : inR 0 12 count
        · go_enter Tryz.func61, Tryz.ntmps61
          go_wp2_with (first | (go_at_call 85; refine (isNum_any _ _).mono ?_; rintro e w' ⟨rfl, rfl⟩) | (go_at_call 83; refine (isProc_any _ _).mono ?_; rintro e w' ⟨rfl, rfl⟩) | (go_at_call 84; refine (isKind_any _ _).mono ?_; rintro e w' ⟨rfl, rfl⟩) | (go_at_call 27; refine (within_any _ _ _ _).mono ?_; rintro e w' ⟨rfl, rfl⟩))
          go_ret
          exact ⟨ret_bool rfl, (Below.refl _ _).alloc (Nat.le_refl _) _⟩
        · cases g51 : inR 0 3 n
          · go_enter Tryz.func61, Tryz.ntmps61
            go_wp2_with (first | (go_at_call 85; refine (isNum_any _ _).mono ?_; rintro e w' ⟨rfl, rfl⟩) | (go_at_call 83; refine (isProc_any _ _).mono ?_; rintro e w' ⟨rfl, rfl⟩) | (go_at_call 84; refine (isKind_any _ _).mono ?_; rintro e w' ⟨rfl, rfl⟩) | (go_at_call 27; refine (within_any _ _ _ _).mono ?_; rintro e w' ⟨rfl, rfl⟩))
            go_ret
            exact ⟨ret_bool rfl, (Below.refl _ _).alloc (Nat.le_refl _) _⟩
          · cases g62 : inR 0 3 kind
            · go_enter Tryz.func61, Tryz.ntmps61
              go_wp2_with (first | (go_at_call 85; refine (isNum_any _ _).mono ?_; rintro e w' ⟨rfl, rfl⟩) | (go_at_call 83; refine (isProc_any _ _).mono ?_; rintro e w' ⟨rfl, rfl⟩) | (go_at_call 84; refine (isKind_any _ _).mono ?_; rintro e w' ⟨rfl, rfl⟩) | (go_at_call 27; refine (within_any _ _ _ _).mono ?_; rintro e w' ⟨rfl, rfl⟩))
              go_ret
              exact ⟨ret_bool rfl, (Below.refl _ _).alloc (Nat.le_refl _) _⟩
            · cases g73 : inR 0 999 arg
              · go_enter Tryz.func61, Tryz.ntmps61
                go_wp2_with (first | (go_at_call 85; refine (isNum_any _ _).mono ?_; rintro e w' ⟨rfl, rfl⟩) | (go_at_call 83; refine (isProc_any _ _).mono ?_; rintro e w' ⟨rfl, rfl⟩) | (go_at_call 84; refine (isKind_any _ _).mono ?_; rintro e w' ⟨rfl, rfl⟩) | (go_at_call 27; refine (within_any _ _ _ _).mono ?_; rintro e w' ⟨rfl, rfl⟩))
                go_ret
                exact ⟨ret_bool rfl, (Below.refl _ _).alloc (Nat.le_refl _) _⟩
              · go_enter Tryz.func61, Tryz.ntmps61
                go_wp2_with (first | (go_at_call 85; refine (isNum_any _ _).mono ?_; rintro e w' ⟨rfl, rfl⟩) | (go_at_call 83; refine (isProc_any _ _).mono ?_; rintro e w' ⟨rfl, rfl⟩) | (go_at_call 84; refine (isKind_any _ _).mono ?_; rintro e w' ⟨rfl, rfl⟩) | (go_at_call 27; refine (within_any _ _ _ _).mono ?_; rintro e w' ⟨rfl, rfl⟩))
                go_ret
                exact ⟨ret_bool rfl, (Below.refl _ _).alloc (Nat.le_refl _) _⟩

def outOk (o : OutV) : Bool := inR 0 40 o.time && inR 0 3 o.proc && inR 0 11 o.count && inR 0 1 o.n && inR 0 999 o.value

set_option maxRecDepth 100000 in
set_option maxHeartbeats 1600000 in
theorem outInForm_any (o : OutV) (w : World) :
    Calls Tryz.prog 65 #[outAgg o] w fun r w' => r = .returned (.bool (outOk o)) ∧ Below w.heap.size w w' := by
  obtain ⟨time, proc, count, n, value⟩ := o
  have e : outOk ⟨time, proc, count, n, value⟩ = (inR 0 40 time && inR 0 3 proc && inR 0 11 count && inR 0 1 n && inR 0 999 value) := rfl
  rw [e]
  cases h0 : inR 0 40 time
  · go_enter Tryz.func65, Tryz.ntmps65
    go_wp2_with (first | (go_at_call 85; refine (isNum_any _ _).mono ?_; rintro e w' ⟨rfl, rfl⟩) | (go_at_call 83; refine (isProc_any _ _).mono ?_; rintro e w' ⟨rfl, rfl⟩) | (go_at_call 27; refine (within_any _ _ _ _).mono ?_; rintro e w' ⟨rfl, rfl⟩))
    go_ret
    exact ⟨ret_bool rfl, (Below.refl _ _).alloc (Nat.le_refl _) _⟩
  · cases h1 : inR 0 3 proc
    · go_enter Tryz.func65, Tryz.ntmps65
      go_wp2_with (first | (go_at_call 85; refine (isNum_any _ _).mono ?_; rintro e w' ⟨rfl, rfl⟩) | (go_at_call 83; refine (isProc_any _ _).mono ?_; rintro e w' ⟨rfl, rfl⟩) | (go_at_call 27; refine (within_any _ _ _ _).mono ?_; rintro e w' ⟨rfl, rfl⟩))
      go_ret
      exact ⟨ret_bool rfl, (Below.refl _ _).alloc (Nat.le_refl _) _⟩
    · cases h2 : inR 0 11 count
      · go_enter Tryz.func65, Tryz.ntmps65
        go_wp2_with (first | (go_at_call 85; refine (isNum_any _ _).mono ?_; rintro e w' ⟨rfl, rfl⟩) | (go_at_call 83; refine (isProc_any _ _).mono ?_; rintro e w' ⟨rfl, rfl⟩) | (go_at_call 27; refine (within_any _ _ _ _).mono ?_; rintro e w' ⟨rfl, rfl⟩))
        go_ret
        exact ⟨ret_bool rfl, (Below.refl _ _).alloc (Nat.le_refl _) _⟩
      · cases h3 : inR 0 1 n
        · go_enter Tryz.func65, Tryz.ntmps65
          go_wp2_with (first | (go_at_call 85; refine (isNum_any _ _).mono ?_; rintro e w' ⟨rfl, rfl⟩) | (go_at_call 83; refine (isProc_any _ _).mono ?_; rintro e w' ⟨rfl, rfl⟩) | (go_at_call 27; refine (within_any _ _ _ _).mono ?_; rintro e w' ⟨rfl, rfl⟩))
          go_ret
          exact ⟨ret_bool rfl, (Below.refl _ _).alloc (Nat.le_refl _) _⟩
        · cases h4 : inR 0 999 value
          · go_enter Tryz.func65, Tryz.ntmps65
            go_wp2_with (first | (go_at_call 85; refine (isNum_any _ _).mono ?_; rintro e w' ⟨rfl, rfl⟩) | (go_at_call 83; refine (isProc_any _ _).mono ?_; rintro e w' ⟨rfl, rfl⟩) | (go_at_call 27; refine (within_any _ _ _ _).mono ?_; rintro e w' ⟨rfl, rfl⟩))
            go_ret
            exact ⟨ret_bool rfl, (Below.refl _ _).alloc (Nat.le_refl _) _⟩
          · go_enter Tryz.func65, Tryz.ntmps65
            go_wp2_with (first | (go_at_call 85; refine (isNum_any _ _).mono ?_; rintro e w' ⟨rfl, rfl⟩) | (go_at_call 83; refine (isProc_any _ _).mono ?_; rintro e w' ⟨rfl, rfl⟩) | (go_at_call 27; refine (within_any _ _ _ _).mono ?_; rintro e w' ⟨rfl, rfl⟩))
            go_ret
            exact ⟨ret_bool rfl, (Below.refl _ _).alloc (Nat.le_refl _) _⟩
end Go.Proofs.YtiljjhipiinafaaGreat
