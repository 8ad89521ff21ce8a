/- Proved: laws.FnExactAppFirst answers true at every int, and its argument reads as before (impl.AppFirst answers as spec.AppFirst, field by field). Conditions: none. -/
import Derived.Test.YtjbgiepaehefpaaRows
import Derived.WalkKit
import Derived.ProofKit
import Derived.OpenShut
import Derived.WalkLawsBesides
namespace Go.Proofs.Ytjbgiepaehefpaa.fnExactAppFirst
open Go.ChangeShapes Go.WideShapes Go.ChangeAt Go.RowKit
set_option linter.unusedVariables false

theorem own : ownKnob Try.prog.godebug = none := by kernel_rfl
abbrev firstVals (a0 : Int) : Array Value := #[.int .i64 0, .int .i64 a0, .int .i64 (-1), .int .i64 0, .int .i64 a0, .int .i64 0, .int .i64 a0]
abbrev zeroVals : Array Value := #[.int .i64 0, .int .i64 0, .int .i64 0, .int .i64 0, .int .i64 0, .int .i64 0, .int .i64 0]
theorem first6_in (a0 : Int) (h1 : 0 ≤ a0) (h2 : a0 ≤ 3) (w : World) :
    Calls Try.prog 6 #[.int .i64 a0] w fun e w' => e = .returned (.agg (firstVals a0)) ∧ w' = w.alloc (.cells (firstVals a0) 25) := by
  go_enter Try.func6, Try.ntmps6
  go_wp2
  exact bodyPost_ret (v := .agg (firstVals a0)) (by simp [results, Try.results6, go_sem]) rfl ⟨rfl, rfl⟩
theorem first6_lo (a0 : Int) (h1 : a0 < 0) (w : World) :
    Calls Try.prog 6 #[.int .i64 a0] w fun e w' => e = .returned (.agg zeroVals) ∧ w' = w.alloc (.cells zeroVals 25) := by
  have h3 : ¬ 0 ≤ a0 := by omega
  clear h1
  go_enter Try.func6, Try.ntmps6
  go_wp2
  exact bodyPost_ret (v := .agg zeroVals) (by simp [results, Try.results6, go_sem]) rfl ⟨rfl, rfl⟩
theorem first6_hi (a0 : Int) (h1 : 0 ≤ a0) (h2 : 3 < a0) (w : World) :
    Calls Try.prog 6 #[.int .i64 a0] w fun e w' => e = .returned (.agg zeroVals) ∧ w' = w.alloc (.cells zeroVals 25) := by
  have h3 : ¬ a0 ≤ 3 := by omega
  clear h2
  go_enter Try.func6, Try.ntmps6
  go_wp2
  exact bodyPost_ret (v := .agg zeroVals) (by simp [results, Try.results6, go_sem]) rfl ⟨rfl, rfl⟩
theorem first7_in (a0 : Int) (h1 : 0 ≤ a0) (h2 : a0 ≤ 3) (w : World) :
    Calls Try.prog 7 #[.int .i64 a0] w fun e w' => e = .returned (.agg (firstVals a0)) ∧ w' = w.alloc (.cells (firstVals a0) 25) := by
  go_enter Try.func7, Try.ntmps7
  go_wp2
  exact bodyPost_ret (v := .agg (firstVals a0)) (by simp [results, Try.results7, go_sem]) rfl ⟨rfl, rfl⟩
theorem first7_lo (a0 : Int) (h1 : a0 < 0) (w : World) :
    Calls Try.prog 7 #[.int .i64 a0] w fun e w' => e = .returned (.agg zeroVals) ∧ w' = w.alloc (.cells zeroVals 25) := by
  have h3 : ¬ 0 ≤ a0 := by omega
  clear h1
  go_enter Try.func7, Try.ntmps7
  go_wp2
  exact bodyPost_ret (v := .agg zeroVals) (by simp [results, Try.results7, go_sem]) rfl ⟨rfl, rfl⟩
theorem first7_hi (a0 : Int) (h1 : 0 ≤ a0) (h2 : 3 < a0) (w : World) :
    Calls Try.prog 7 #[.int .i64 a0] w fun e w' => e = .returned (.agg zeroVals) ∧ w' = w.alloc (.cells zeroVals 25) := by
  have h3 : ¬ a0 ≤ 3 := by omega
  clear h2
  go_enter Try.func7, Try.ntmps7
  go_wp2
  exact bodyPost_ret (v := .agg zeroVals) (by simp [results, Try.results7, go_sem]) rfl ⟨rfl, rfl⟩
set_option maxHeartbeats 400000 in
theorem walk (a0 : Int) (w0 : (Lit.int .i64 a0).wf = true) (w : World) :
    Calls Try.prog 4 #[.int .i64 a0] w fun e w' => e = .returned (.bool true) ∧ Grown w w' := by
  rcases Int.lt_or_le a0 0 with h1 | h1
  · go_enter Try.func4, Try.ntmps4
    go_wp2_with (first | (go_at_call 6; refine (first6_lo _ h1 _).mono ?_; rintro e w' ⟨rfl, rfl⟩) | (go_at_call 7; refine (first7_lo _ h1 _).mono ?_; rintro e w' ⟨rfl, rfl⟩) | (go_at_call 8; go_in))
    go_ret
    exact ⟨rfl, by repeat (first | exact Grown.refl _ | apply Grown.drew | apply Grown.alloc)⟩
  · rcases Int.lt_or_le 3 a0 with h2 | h2
    · go_enter Try.func4, Try.ntmps4
      go_wp2_with (first | (go_at_call 6; refine (first6_hi _ h1 h2 _).mono ?_; rintro e w' ⟨rfl, rfl⟩) | (go_at_call 7; refine (first7_hi _ h1 h2 _).mono ?_; rintro e w' ⟨rfl, rfl⟩) | (go_at_call 8; go_in))
      go_ret
      exact ⟨rfl, by repeat (first | exact Grown.refl _ | apply Grown.drew | apply Grown.alloc)⟩
    · go_enter Try.func4, Try.ntmps4
      go_wp2_with (first | (go_at_call 6; refine (first6_in _ h1 h2 _).mono ?_; rintro e w' ⟨rfl, rfl⟩) | (go_at_call 7; refine (first7_in _ h1 h2 _).mono ?_; rintro e w' ⟨rfl, rfl⟩) | (go_at_call 8; go_in))
      go_ret
      exact ⟨rfl, by repeat (first | exact Grown.refl _ | apply Grown.drew | apply Grown.alloc)⟩

set_option maxRecDepth 100000 in
theorem lifted (os : Os) (started : os.Started) (H : Type) (enc : TypeId × Value → H) :
    ReturnsInHanded {} Try.checked os 4 .any (Rows.fnExactAppFirstSpec.pre6 enc Try.prog Try.f4 Rows.fnExactAppFirstRow.domain false) (Rows.fnExactAppFirstSpec.post enc Try.prog Try.f4 false true false false) := by
  refine returnsInHanded_of_change (C := Try.checked) own started (by kernel_rfl) Try.func4
    (ChangeSpec.witness6 (enc := enc) (C := Try.checked) false ⟨#[], #[.int .i64 0], []⟩ 8 (by kernel_rfl) (by kernel_rfl) (by kernel_rfl) (by kernel_rfl)) ?_
  intro W base args ds gs before hval0 hW hcnd _
  have hval : ∀ (j : Nat) t v, Try.f4.params[j]? = some t → args[j]? = some v → Value.okWide Try.prog W .any base t v := hval0
  have hW' := hW
  obtain ⟨p, q, hA0, hV, rfl, hfz, hnd⟩ := hW
  have hA : DataW.TrodAll enc Try.prog W 0 (fun _ => true) true Try.f4.params.toList args.toList ds p := hA0
  rw [Try.params4] at hA hval
  obtain ⟨v0, vs0, d0, ds0, p0, q0, hargs, rfl, rfl, h0, r0⟩ := trodAll_cons hA
  obtain ⟨rfl, rfl, rfl⟩ := trodAll_nil r0
  obtain rfl : args = #[v0] := by cases args; simp_all
  obtain ⟨rfl, rfl⟩ := trodVars_none hV
  obtain ⟨a0, rfl, rfl, rfl, w0⟩ := open_int Try.underlying3 (hval 0 3 v0 rfl rfl) h0
  clear hA0 hval0
  simp only [List.append_nil] at hW'
  refine (walk a0 w0 W).mono fun e W' ⟨he, hg⟩ => ?_
  subst he
  exact ⟨_, rfl, post_of_same (pa := []) (pv := []) hW' (fun _ _ _ => (trodAll_cons_mk (shut_bool Try.underlying4 _) trodAll_mk0)) (fun sp _ => (trodAll_cons_mk (shut_int Try.underlying3 w0) trodAll_mk0)) (fun _ _ => rfl) rfl
    (hg.frame _) hg.2.1 (ok_one (by kernel_rfl) rfl (okWide_bool_mk Try.underlying4 _))⟩

theorem over : Rows.fnExactAppFirstRow.holds Try.pinned (OpenSpec.ofChange Rows.fnExactAppFirstSpec) :=
  OpenClaim.holds_of_wide 4 Try.f4 rfl rfl rfl rfl rfl rfl rfl ⟨rfl, rfl, rfl, rfl, rfl⟩ rfl rfl rfl rfl rfl (by kernel_rfl) Try.func4 (by kernel_rfl)
    (of_decide_eq_true (by kernel_rfl)) (by unfold Func.isWrapper; first | (rw [if_pos (by decide +kernel)]; kernel_rfl) | (rw [if_neg (by decide +kernel)]; exact ⟨rfl, rfl⟩))
    (fun os started H enc _ => lifted os started H enc)

theorem proved : Rows.FnExactAppFirstSaid := over
end Go.Proofs.Ytjbgiepaehefpaa.fnExactAppFirst
namespace Go.Proofs.Ytjbgiepaehefpaa
theorem fnExactAppFirst_holds : Rows.FnExactAppFirstSaid := fnExactAppFirst.proved
end Go.Proofs.Ytjbgiepaehefpaa
