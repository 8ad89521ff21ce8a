/- Contracts of spec.l1OpOk and spec.l1RuleOk. -/
import Derived.Test.YtjbgiepaehefpaaDoorOk1
namespace Go.Proofs.YtjbgiepaehefpaaDoor
open Go.RowKit
set_option linter.unusedVariables false

theorem l1Reg_any (n : Int) (w : World) :
    Calls Tryd.prog 93 #[.int .i64 n] w fun e w' => e = .returned (.bool (inR 0 1 n)) ∧ w' = w := by
  go_enter Tryd.func93, Tryd.ntmps93
  go_wp2_with (go_at_call 46; refine (l6In_any _ _ _ _).mono ?_; rintro e w' ⟨rfl, rfl⟩)
  go_ret
  exact ⟨rfl, rfl⟩
theorem l1Num_any (n : Int) (w : World) :
    Calls Tryd.prog 77 #[.int .i64 n] w fun e w' => e = .returned (.bool (inR 0 999 n)) ∧ w' = w := by
  go_enter Tryd.func77, Tryd.ntmps77
  go_wp2_with (go_at_call 46; refine (l6In_any _ _ _ _).mono ?_; rintro e w' ⟨rfl, rfl⟩)
  go_ret
  exact ⟨rfl, rfl⟩
theorem l1Proc_any (n : Int) (w : World) :
    Calls Tryd.prog 78 #[.int .i64 n] w fun e w' => e = .returned (.bool (inR 0 3 n)) ∧ w' = w := by
  go_enter Tryd.func78, Tryd.ntmps78
  go_wp2_with (go_at_call 46; refine (l6In_any _ _ _ _).mono ?_; rintro e w' ⟨rfl, rfl⟩)
  go_ret
  exact ⟨rfl, rfl⟩

theorem opOkB_1 (a b c e : Int) : opOk ⟨1, a, b, c, e⟩ = (inR 0 1 a && inR 0 999 b && (c == 0) && (e == 0)) := rfl
theorem l1OpOk_1 (a b c e : Int) (w : World) :
    Calls Tryd.prog 68 #[.agg #[.int .i64 1, .int .i64 a, .int .i64 b, .int .i64 c, .int .i64 e]] w fun r w' => r = .returned (.bool (opOk ⟨1, a, b, c, e⟩)) ∧ Below w.heap.size w w' := by
  rw [opOkB_1]
  cases h0 : inR 0 1 a
  · go_enter Tryd.func68, Tryd.ntmps68
    go_wp2_with (first | (go_at_call 93; refine (l1Reg_any _ _).mono ?_; rintro e w' ⟨rfl, rfl⟩) | (go_at_call 77; refine (l1Num_any _ _).mono ?_; rintro e w' ⟨rfl, rfl⟩) | (go_at_call 78; refine (l1Proc_any _ _).mono ?_; rintro e w' ⟨rfl, rfl⟩) | (go_at_call 46; refine (l6In_any _ _ _ _).mono ?_; rintro e w' ⟨rfl, rfl⟩))
    go_ret
    exact ⟨ret_bool rfl, (Below.refl _ _).alloc (Nat.le_refl _) _⟩
  · cases h1 : inR 0 999 b
    · go_enter Tryd.func68, Tryd.ntmps68
      go_wp2_with (first | (go_at_call 93; refine (l1Reg_any _ _).mono ?_; rintro e w' ⟨rfl, rfl⟩) | (go_at_call 77; refine (l1Num_any _ _).mono ?_; rintro e w' ⟨rfl, rfl⟩) | (go_at_call 78; refine (l1Proc_any _ _).mono ?_; rintro e w' ⟨rfl, rfl⟩) | (go_at_call 46; refine (l6In_any _ _ _ _).mono ?_; rintro e w' ⟨rfl, rfl⟩))
      go_ret
      exact ⟨ret_bool rfl, (Below.refl _ _).alloc (Nat.le_refl _) _⟩
    · cases h2 : (c == 0)
      · go_enter Tryd.func68, Tryd.ntmps68
        go_wp2_with (first | (go_at_call 93; refine (l1Reg_any _ _).mono ?_; rintro e w' ⟨rfl, rfl⟩) | (go_at_call 77; refine (l1Num_any _ _).mono ?_; rintro e w' ⟨rfl, rfl⟩) | (go_at_call 78; refine (l1Proc_any _ _).mono ?_; rintro e w' ⟨rfl, rfl⟩) | (go_at_call 46; refine (l6In_any _ _ _ _).mono ?_; rintro e w' ⟨rfl, rfl⟩))
        go_ret
        exact ⟨ret_bool rfl, (Below.refl _ _).alloc (Nat.le_refl _) _⟩
      · cases h3 : (e == 0)
        · go_enter Tryd.func68, Tryd.ntmps68
          go_wp2_with (first | (go_at_call 93; refine (l1Reg_any _ _).mono ?_; rintro e w' ⟨rfl, rfl⟩) | (go_at_call 77; refine (l1Num_any _ _).mono ?_; rintro e w' ⟨rfl, rfl⟩) | (go_at_call 78; refine (l1Proc_any _ _).mono ?_; rintro e w' ⟨rfl, rfl⟩) | (go_at_call 46; refine (l6In_any _ _ _ _).mono ?_; rintro e w' ⟨rfl, rfl⟩))
          go_ret
          exact ⟨ret_bool rfl, (Below.refl _ _).alloc (Nat.le_refl _) _⟩
        · go_enter Tryd.func68, Tryd.ntmps68
          go_wp2_with (first | (go_at_call 93; refine (l1Reg_any _ _).mono ?_; rintro e w' ⟨rfl, rfl⟩) | (go_at_call 77; refine (l1Num_any _ _).mono ?_; rintro e w' ⟨rfl, rfl⟩) | (go_at_call 78; refine (l1Proc_any _ _).mono ?_; rintro e w' ⟨rfl, rfl⟩) | (go_at_call 46; refine (l6In_any _ _ _ _).mono ?_; rintro e w' ⟨rfl, rfl⟩))
          go_ret
          exact ⟨ret_bool rfl, (Below.refl _ _).alloc (Nat.le_refl _) _⟩

theorem opOkB_2 (a b c e : Int) : opOk ⟨2, a, b, c, e⟩ = (inR 0 1 a && inR 0 1 b && (c == 0) && (e == 0)) := rfl
theorem l1OpOk_2 (a b c e : Int) (w : World) :
    Calls Tryd.prog 68 #[.agg #[.int .i64 2, .int .i64 a, .int .i64 b, .int .i64 c, .int .i64 e]] w fun r w' => r = .returned (.bool (opOk ⟨2, a, b, c, e⟩)) ∧ Below w.heap.size w w' := by
  rw [opOkB_2]
  cases h0 : inR 0 1 a
  · go_enter Tryd.func68, Tryd.ntmps68
    go_wp2_with (first | (go_at_call 93; refine (l1Reg_any _ _).mono ?_; rintro e w' ⟨rfl, rfl⟩) | (go_at_call 77; refine (l1Num_any _ _).mono ?_; rintro e w' ⟨rfl, rfl⟩) | (go_at_call 78; refine (l1Proc_any _ _).mono ?_; rintro e w' ⟨rfl, rfl⟩) | (go_at_call 46; refine (l6In_any _ _ _ _).mono ?_; rintro e w' ⟨rfl, rfl⟩))
    go_ret
    exact ⟨ret_bool rfl, (Below.refl _ _).alloc (Nat.le_refl _) _⟩
  · cases h1 : inR 0 1 b
    · go_enter Tryd.func68, Tryd.ntmps68
      go_wp2_with (first | (go_at_call 93; refine (l1Reg_any _ _).mono ?_; rintro e w' ⟨rfl, rfl⟩) | (go_at_call 77; refine (l1Num_any _ _).mono ?_; rintro e w' ⟨rfl, rfl⟩) | (go_at_call 78; refine (l1Proc_any _ _).mono ?_; rintro e w' ⟨rfl, rfl⟩) | (go_at_call 46; refine (l6In_any _ _ _ _).mono ?_; rintro e w' ⟨rfl, rfl⟩))
      go_ret
      exact ⟨ret_bool rfl, (Below.refl _ _).alloc (Nat.le_refl _) _⟩
    · cases h2 : (c == 0)
      · go_enter Tryd.func68, Tryd.ntmps68
        go_wp2_with (first | (go_at_call 93; refine (l1Reg_any _ _).mono ?_; rintro e w' ⟨rfl, rfl⟩) | (go_at_call 77; refine (l1Num_any _ _).mono ?_; rintro e w' ⟨rfl, rfl⟩) | (go_at_call 78; refine (l1Proc_any _ _).mono ?_; rintro e w' ⟨rfl, rfl⟩) | (go_at_call 46; refine (l6In_any _ _ _ _).mono ?_; rintro e w' ⟨rfl, rfl⟩))
        go_ret
        exact ⟨ret_bool rfl, (Below.refl _ _).alloc (Nat.le_refl _) _⟩
      · cases h3 : (e == 0)
        · go_enter Tryd.func68, Tryd.ntmps68
          go_wp2_with (first | (go_at_call 93; refine (l1Reg_any _ _).mono ?_; rintro e w' ⟨rfl, rfl⟩) | (go_at_call 77; refine (l1Num_any _ _).mono ?_; rintro e w' ⟨rfl, rfl⟩) | (go_at_call 78; refine (l1Proc_any _ _).mono ?_; rintro e w' ⟨rfl, rfl⟩) | (go_at_call 46; refine (l6In_any _ _ _ _).mono ?_; rintro e w' ⟨rfl, rfl⟩))
          go_ret
          exact ⟨ret_bool rfl, (Below.refl _ _).alloc (Nat.le_refl _) _⟩
        · go_enter Tryd.func68, Tryd.ntmps68
          go_wp2_with (first | (go_at_call 93; refine (l1Reg_any _ _).mono ?_; rintro e w' ⟨rfl, rfl⟩) | (go_at_call 77; refine (l1Num_any _ _).mono ?_; rintro e w' ⟨rfl, rfl⟩) | (go_at_call 78; refine (l1Proc_any _ _).mono ?_; rintro e w' ⟨rfl, rfl⟩) | (go_at_call 46; refine (l6In_any _ _ _ _).mono ?_; rintro e w' ⟨rfl, rfl⟩))
          go_ret
          exact ⟨ret_bool rfl, (Below.refl _ _).alloc (Nat.le_refl _) _⟩

theorem opOkB_3 (a b c e : Int) : opOk ⟨3, a, b, c, e⟩ = (inR 0 1 a && inR 0 999 b && (c == 0) && (e == 0)) := rfl
theorem l1OpOk_3 (a b c e : Int) (w : World) :
    Calls Tryd.prog 68 #[.agg #[.int .i64 3, .int .i64 a, .int .i64 b, .int .i64 c, .int .i64 e]] w fun r w' => r = .returned (.bool (opOk ⟨3, a, b, c, e⟩)) ∧ Below w.heap.size w w' := by
  rw [opOkB_3]
  cases h0 : inR 0 1 a
  · go_enter Tryd.func68, Tryd.ntmps68
    go_wp2_with (first | (go_at_call 93; refine (l1Reg_any _ _).mono ?_; rintro e w' ⟨rfl, rfl⟩) | (go_at_call 77; refine (l1Num_any _ _).mono ?_; rintro e w' ⟨rfl, rfl⟩) | (go_at_call 78; refine (l1Proc_any _ _).mono ?_; rintro e w' ⟨rfl, rfl⟩) | (go_at_call 46; refine (l6In_any _ _ _ _).mono ?_; rintro e w' ⟨rfl, rfl⟩))
    go_ret
    exact ⟨ret_bool rfl, (Below.refl _ _).alloc (Nat.le_refl _) _⟩
  · cases h1 : inR 0 999 b
    · go_enter Tryd.func68, Tryd.ntmps68
      go_wp2_with (first | (go_at_call 93; refine (l1Reg_any _ _).mono ?_; rintro e w' ⟨rfl, rfl⟩) | (go_at_call 77; refine (l1Num_any _ _).mono ?_; rintro e w' ⟨rfl, rfl⟩) | (go_at_call 78; refine (l1Proc_any _ _).mono ?_; rintro e w' ⟨rfl, rfl⟩) | (go_at_call 46; refine (l6In_any _ _ _ _).mono ?_; rintro e w' ⟨rfl, rfl⟩))
      go_ret
      exact ⟨ret_bool rfl, (Below.refl _ _).alloc (Nat.le_refl _) _⟩
    · cases h2 : (c == 0)
      · go_enter Tryd.func68, Tryd.ntmps68
        go_wp2_with (first | (go_at_call 93; refine (l1Reg_any _ _).mono ?_; rintro e w' ⟨rfl, rfl⟩) | (go_at_call 77; refine (l1Num_any _ _).mono ?_; rintro e w' ⟨rfl, rfl⟩) | (go_at_call 78; refine (l1Proc_any _ _).mono ?_; rintro e w' ⟨rfl, rfl⟩) | (go_at_call 46; refine (l6In_any _ _ _ _).mono ?_; rintro e w' ⟨rfl, rfl⟩))
        go_ret
        exact ⟨ret_bool rfl, (Below.refl _ _).alloc (Nat.le_refl _) _⟩
      · cases h3 : (e == 0)
        · go_enter Tryd.func68, Tryd.ntmps68
          go_wp2_with (first | (go_at_call 93; refine (l1Reg_any _ _).mono ?_; rintro e w' ⟨rfl, rfl⟩) | (go_at_call 77; refine (l1Num_any _ _).mono ?_; rintro e w' ⟨rfl, rfl⟩) | (go_at_call 78; refine (l1Proc_any _ _).mono ?_; rintro e w' ⟨rfl, rfl⟩) | (go_at_call 46; refine (l6In_any _ _ _ _).mono ?_; rintro e w' ⟨rfl, rfl⟩))
          go_ret
          exact ⟨ret_bool rfl, (Below.refl _ _).alloc (Nat.le_refl _) _⟩
        · go_enter Tryd.func68, Tryd.ntmps68
          go_wp2_with (first | (go_at_call 93; refine (l1Reg_any _ _).mono ?_; rintro e w' ⟨rfl, rfl⟩) | (go_at_call 77; refine (l1Num_any _ _).mono ?_; rintro e w' ⟨rfl, rfl⟩) | (go_at_call 78; refine (l1Proc_any _ _).mono ?_; rintro e w' ⟨rfl, rfl⟩) | (go_at_call 46; refine (l6In_any _ _ _ _).mono ?_; rintro e w' ⟨rfl, rfl⟩))
          go_ret
          exact ⟨ret_bool rfl, (Below.refl _ _).alloc (Nat.le_refl _) _⟩

theorem opOkB_4 (a b c e : Int) : opOk ⟨4, a, b, c, e⟩ = (inR 0 1 a && (b == 0) && (c == 0) && (e == 0)) := rfl
theorem l1OpOk_4 (a b c e : Int) (w : World) :
    Calls Tryd.prog 68 #[.agg #[.int .i64 4, .int .i64 a, .int .i64 b, .int .i64 c, .int .i64 e]] w fun r w' => r = .returned (.bool (opOk ⟨4, a, b, c, e⟩)) ∧ Below w.heap.size w w' := by
  rw [opOkB_4]
  cases h0 : inR 0 1 a
  · go_enter Tryd.func68, Tryd.ntmps68
    go_wp2_with (first | (go_at_call 93; refine (l1Reg_any _ _).mono ?_; rintro e w' ⟨rfl, rfl⟩) | (go_at_call 77; refine (l1Num_any _ _).mono ?_; rintro e w' ⟨rfl, rfl⟩) | (go_at_call 78; refine (l1Proc_any _ _).mono ?_; rintro e w' ⟨rfl, rfl⟩) | (go_at_call 46; refine (l6In_any _ _ _ _).mono ?_; rintro e w' ⟨rfl, rfl⟩))
    go_ret
    exact ⟨ret_bool rfl, (Below.refl _ _).alloc (Nat.le_refl _) _⟩
  · cases h1 : (b == 0)
    · go_enter Tryd.func68, Tryd.ntmps68
      go_wp2_with (first | (go_at_call 93; refine (l1Reg_any _ _).mono ?_; rintro e w' ⟨rfl, rfl⟩) | (go_at_call 77; refine (l1Num_any _ _).mono ?_; rintro e w' ⟨rfl, rfl⟩) | (go_at_call 78; refine (l1Proc_any _ _).mono ?_; rintro e w' ⟨rfl, rfl⟩) | (go_at_call 46; refine (l6In_any _ _ _ _).mono ?_; rintro e w' ⟨rfl, rfl⟩))
      go_ret
      exact ⟨ret_bool rfl, (Below.refl _ _).alloc (Nat.le_refl _) _⟩
    · cases h2 : (c == 0)
      · go_enter Tryd.func68, Tryd.ntmps68
        go_wp2_with (first | (go_at_call 93; refine (l1Reg_any _ _).mono ?_; rintro e w' ⟨rfl, rfl⟩) | (go_at_call 77; refine (l1Num_any _ _).mono ?_; rintro e w' ⟨rfl, rfl⟩) | (go_at_call 78; refine (l1Proc_any _ _).mono ?_; rintro e w' ⟨rfl, rfl⟩) | (go_at_call 46; refine (l6In_any _ _ _ _).mono ?_; rintro e w' ⟨rfl, rfl⟩))
        go_ret
        exact ⟨ret_bool rfl, (Below.refl _ _).alloc (Nat.le_refl _) _⟩
      · cases h3 : (e == 0)
        · go_enter Tryd.func68, Tryd.ntmps68
          go_wp2_with (first | (go_at_call 93; refine (l1Reg_any _ _).mono ?_; rintro e w' ⟨rfl, rfl⟩) | (go_at_call 77; refine (l1Num_any _ _).mono ?_; rintro e w' ⟨rfl, rfl⟩) | (go_at_call 78; refine (l1Proc_any _ _).mono ?_; rintro e w' ⟨rfl, rfl⟩) | (go_at_call 46; refine (l6In_any _ _ _ _).mono ?_; rintro e w' ⟨rfl, rfl⟩))
          go_ret
          exact ⟨ret_bool rfl, (Below.refl _ _).alloc (Nat.le_refl _) _⟩
        · go_enter Tryd.func68, Tryd.ntmps68
          go_wp2_with (first | (go_at_call 93; refine (l1Reg_any _ _).mono ?_; rintro e w' ⟨rfl, rfl⟩) | (go_at_call 77; refine (l1Num_any _ _).mono ?_; rintro e w' ⟨rfl, rfl⟩) | (go_at_call 78; refine (l1Proc_any _ _).mono ?_; rintro e w' ⟨rfl, rfl⟩) | (go_at_call 46; refine (l6In_any _ _ _ _).mono ?_; rintro e w' ⟨rfl, rfl⟩))
          go_ret
          exact ⟨ret_bool rfl, (Below.refl _ _).alloc (Nat.le_refl _) _⟩

theorem opOkB_5 (a b c e : Int) : opOk ⟨5, a, b, c, e⟩ = (inR 0 1 a && inR 0 999 b && inR 1 8 c && (e == 0)) := rfl
theorem l1OpOk_5 (a b c e : Int) (w : World) :
    Calls Tryd.prog 68 #[.agg #[.int .i64 5, .int .i64 a, .int .i64 b, .int .i64 c, .int .i64 e]] w fun r w' => r = .returned (.bool (opOk ⟨5, a, b, c, e⟩)) ∧ Below w.heap.size w w' := by
  rw [opOkB_5]
  cases h0 : inR 0 1 a
  · go_enter Tryd.func68, Tryd.ntmps68
    go_wp2_with (first | (go_at_call 93; refine (l1Reg_any _ _).mono ?_; rintro e w' ⟨rfl, rfl⟩) | (go_at_call 77; refine (l1Num_any _ _).mono ?_; rintro e w' ⟨rfl, rfl⟩) | (go_at_call 78; refine (l1Proc_any _ _).mono ?_; rintro e w' ⟨rfl, rfl⟩) | (go_at_call 46; refine (l6In_any _ _ _ _).mono ?_; rintro e w' ⟨rfl, rfl⟩))
    go_ret
    exact ⟨ret_bool rfl, (Below.refl _ _).alloc (Nat.le_refl _) _⟩
  · cases h1 : inR 0 999 b
    · go_enter Tryd.func68, Tryd.ntmps68
      go_wp2_with (first | (go_at_call 93; refine (l1Reg_any _ _).mono ?_; rintro e w' ⟨rfl, rfl⟩) | (go_at_call 77; refine (l1Num_any _ _).mono ?_; rintro e w' ⟨rfl, rfl⟩) | (go_at_call 78; refine (l1Proc_any _ _).mono ?_; rintro e w' ⟨rfl, rfl⟩) | (go_at_call 46; refine (l6In_any _ _ _ _).mono ?_; rintro e w' ⟨rfl, rfl⟩))
      go_ret
      exact ⟨ret_bool rfl, (Below.refl _ _).alloc (Nat.le_refl _) _⟩
    · cases h2 : inR 1 8 c
      · go_enter Tryd.func68, Tryd.ntmps68
        go_wp2_with (first | (go_at_call 93; refine (l1Reg_any _ _).mono ?_; rintro e w' ⟨rfl, rfl⟩) | (go_at_call 77; refine (l1Num_any _ _).mono ?_; rintro e w' ⟨rfl, rfl⟩) | (go_at_call 78; refine (l1Proc_any _ _).mono ?_; rintro e w' ⟨rfl, rfl⟩) | (go_at_call 46; refine (l6In_any _ _ _ _).mono ?_; rintro e w' ⟨rfl, rfl⟩))
        go_ret
        exact ⟨ret_bool rfl, (Below.refl _ _).alloc (Nat.le_refl _) _⟩
      · cases h3 : (e == 0)
        · go_enter Tryd.func68, Tryd.ntmps68
          go_wp2_with (first | (go_at_call 93; refine (l1Reg_any _ _).mono ?_; rintro e w' ⟨rfl, rfl⟩) | (go_at_call 77; refine (l1Num_any _ _).mono ?_; rintro e w' ⟨rfl, rfl⟩) | (go_at_call 78; refine (l1Proc_any _ _).mono ?_; rintro e w' ⟨rfl, rfl⟩) | (go_at_call 46; refine (l6In_any _ _ _ _).mono ?_; rintro e w' ⟨rfl, rfl⟩))
          go_ret
          exact ⟨ret_bool rfl, (Below.refl _ _).alloc (Nat.le_refl _) _⟩
        · go_enter Tryd.func68, Tryd.ntmps68
          go_wp2_with (first | (go_at_call 93; refine (l1Reg_any _ _).mono ?_; rintro e w' ⟨rfl, rfl⟩) | (go_at_call 77; refine (l1Num_any _ _).mono ?_; rintro e w' ⟨rfl, rfl⟩) | (go_at_call 78; refine (l1Proc_any _ _).mono ?_; rintro e w' ⟨rfl, rfl⟩) | (go_at_call 46; refine (l6In_any _ _ _ _).mono ?_; rintro e w' ⟨rfl, rfl⟩))
          go_ret
          exact ⟨ret_bool rfl, (Below.refl _ _).alloc (Nat.le_refl _) _⟩

theorem opOkB_6 (a b c e : Int) : opOk ⟨6, a, b, c, e⟩ = (inR 0 3 a && inR 0 3 b && inR 1 40 c && inR 0 1 e) := rfl
theorem l1OpOk_6 (a b c e : Int) (w : World) :
    Calls Tryd.prog 68 #[.agg #[.int .i64 6, .int .i64 a, .int .i64 b, .int .i64 c, .int .i64 e]] w fun r w' => r = .returned (.bool (opOk ⟨6, a, b, c, e⟩)) ∧ Below w.heap.size w w' := by
  rw [opOkB_6]
  cases h0 : inR 0 3 a
  · go_enter Tryd.func68, Tryd.ntmps68
    go_wp2_with (first | (go_at_call 93; refine (l1Reg_any _ _).mono ?_; rintro e w' ⟨rfl, rfl⟩) | (go_at_call 77; refine (l1Num_any _ _).mono ?_; rintro e w' ⟨rfl, rfl⟩) | (go_at_call 78; refine (l1Proc_any _ _).mono ?_; rintro e w' ⟨rfl, rfl⟩) | (go_at_call 46; refine (l6In_any _ _ _ _).mono ?_; rintro e w' ⟨rfl, rfl⟩))
    go_ret
    exact ⟨ret_bool rfl, (Below.refl _ _).alloc (Nat.le_refl _) _⟩
  · cases h1 : inR 0 3 b
    · go_enter Tryd.func68, Tryd.ntmps68
      go_wp2_with (first | (go_at_call 93; refine (l1Reg_any _ _).mono ?_; rintro e w' ⟨rfl, rfl⟩) | (go_at_call 77; refine (l1Num_any _ _).mono ?_; rintro e w' ⟨rfl, rfl⟩) | (go_at_call 78; refine (l1Proc_any _ _).mono ?_; rintro e w' ⟨rfl, rfl⟩) | (go_at_call 46; refine (l6In_any _ _ _ _).mono ?_; rintro e w' ⟨rfl, rfl⟩))
      go_ret
      exact ⟨ret_bool rfl, (Below.refl _ _).alloc (Nat.le_refl _) _⟩
    · cases h2 : inR 1 40 c
      · go_enter Tryd.func68, Tryd.ntmps68
        go_wp2_with (first | (go_at_call 93; refine (l1Reg_any _ _).mono ?_; rintro e w' ⟨rfl, rfl⟩) | (go_at_call 77; refine (l1Num_any _ _).mono ?_; rintro e w' ⟨rfl, rfl⟩) | (go_at_call 78; refine (l1Proc_any _ _).mono ?_; rintro e w' ⟨rfl, rfl⟩) | (go_at_call 46; refine (l6In_any _ _ _ _).mono ?_; rintro e w' ⟨rfl, rfl⟩))
        go_ret
        exact ⟨ret_bool rfl, (Below.refl _ _).alloc (Nat.le_refl _) _⟩
      · cases h3 : inR 0 1 e
        · go_enter Tryd.func68, Tryd.ntmps68
          go_wp2_with (first | (go_at_call 93; refine (l1Reg_any _ _).mono ?_; rintro e w' ⟨rfl, rfl⟩) | (go_at_call 77; refine (l1Num_any _ _).mono ?_; rintro e w' ⟨rfl, rfl⟩) | (go_at_call 78; refine (l1Proc_any _ _).mono ?_; rintro e w' ⟨rfl, rfl⟩) | (go_at_call 46; refine (l6In_any _ _ _ _).mono ?_; rintro e w' ⟨rfl, rfl⟩))
          go_ret
          exact ⟨ret_bool rfl, (Below.refl _ _).alloc (Nat.le_refl _) _⟩
        · go_enter Tryd.func68, Tryd.ntmps68
          go_wp2_with (first | (go_at_call 93; refine (l1Reg_any _ _).mono ?_; rintro e w' ⟨rfl, rfl⟩) | (go_at_call 77; refine (l1Num_any _ _).mono ?_; rintro e w' ⟨rfl, rfl⟩) | (go_at_call 78; refine (l1Proc_any _ _).mono ?_; rintro e w' ⟨rfl, rfl⟩) | (go_at_call 46; refine (l6In_any _ _ _ _).mono ?_; rintro e w' ⟨rfl, rfl⟩))
          go_ret
          exact ⟨ret_bool rfl, (Below.refl _ _).alloc (Nat.le_refl _) _⟩

theorem opOkB_7 (a b c e : Int) : opOk ⟨7, a, b, c, e⟩ = (inR 0 1 a && (b == 0) && (c == 0) && (e == 0)) := rfl
theorem l1OpOk_7 (a b c e : Int) (w : World) :
    Calls Tryd.prog 68 #[.agg #[.int .i64 7, .int .i64 a, .int .i64 b, .int .i64 c, .int .i64 e]] w fun r w' => r = .returned (.bool (opOk ⟨7, a, b, c, e⟩)) ∧ Below w.heap.size w w' := by
  rw [opOkB_7]
  cases h0 : inR 0 1 a
  · go_enter Tryd.func68, Tryd.ntmps68
    go_wp2_with (first | (go_at_call 93; refine (l1Reg_any _ _).mono ?_; rintro e w' ⟨rfl, rfl⟩) | (go_at_call 77; refine (l1Num_any _ _).mono ?_; rintro e w' ⟨rfl, rfl⟩) | (go_at_call 78; refine (l1Proc_any _ _).mono ?_; rintro e w' ⟨rfl, rfl⟩) | (go_at_call 46; refine (l6In_any _ _ _ _).mono ?_; rintro e w' ⟨rfl, rfl⟩))
    go_ret
    exact ⟨ret_bool rfl, (Below.refl _ _).alloc (Nat.le_refl _) _⟩
  · cases h1 : (b == 0)
    · go_enter Tryd.func68, Tryd.ntmps68
      go_wp2_with (first | (go_at_call 93; refine (l1Reg_any _ _).mono ?_; rintro e w' ⟨rfl, rfl⟩) | (go_at_call 77; refine (l1Num_any _ _).mono ?_; rintro e w' ⟨rfl, rfl⟩) | (go_at_call 78; refine (l1Proc_any _ _).mono ?_; rintro e w' ⟨rfl, rfl⟩) | (go_at_call 46; refine (l6In_any _ _ _ _).mono ?_; rintro e w' ⟨rfl, rfl⟩))
      go_ret
      exact ⟨ret_bool rfl, (Below.refl _ _).alloc (Nat.le_refl _) _⟩
    · cases h2 : (c == 0)
      · go_enter Tryd.func68, Tryd.ntmps68
        go_wp2_with (first | (go_at_call 93; refine (l1Reg_any _ _).mono ?_; rintro e w' ⟨rfl, rfl⟩) | (go_at_call 77; refine (l1Num_any _ _).mono ?_; rintro e w' ⟨rfl, rfl⟩) | (go_at_call 78; refine (l1Proc_any _ _).mono ?_; rintro e w' ⟨rfl, rfl⟩) | (go_at_call 46; refine (l6In_any _ _ _ _).mono ?_; rintro e w' ⟨rfl, rfl⟩))
        go_ret
        exact ⟨ret_bool rfl, (Below.refl _ _).alloc (Nat.le_refl _) _⟩
      · cases h3 : (e == 0)
        · go_enter Tryd.func68, Tryd.ntmps68
          go_wp2_with (first | (go_at_call 93; refine (l1Reg_any _ _).mono ?_; rintro e w' ⟨rfl, rfl⟩) | (go_at_call 77; refine (l1Num_any _ _).mono ?_; rintro e w' ⟨rfl, rfl⟩) | (go_at_call 78; refine (l1Proc_any _ _).mono ?_; rintro e w' ⟨rfl, rfl⟩) | (go_at_call 46; refine (l6In_any _ _ _ _).mono ?_; rintro e w' ⟨rfl, rfl⟩))
          go_ret
          exact ⟨ret_bool rfl, (Below.refl _ _).alloc (Nat.le_refl _) _⟩
        · go_enter Tryd.func68, Tryd.ntmps68
          go_wp2_with (first | (go_at_call 93; refine (l1Reg_any _ _).mono ?_; rintro e w' ⟨rfl, rfl⟩) | (go_at_call 77; refine (l1Num_any _ _).mono ?_; rintro e w' ⟨rfl, rfl⟩) | (go_at_call 78; refine (l1Proc_any _ _).mono ?_; rintro e w' ⟨rfl, rfl⟩) | (go_at_call 46; refine (l6In_any _ _ _ _).mono ?_; rintro e w' ⟨rfl, rfl⟩))
          go_ret
          exact ⟨ret_bool rfl, (Below.refl _ _).alloc (Nat.le_refl _) _⟩

end Go.Proofs.YtjbgiepaehefpaaDoor
