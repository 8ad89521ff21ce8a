/- spec.HubOk. -/
import Derived.Test.YtimkamgghkjhhaaHub3
namespace Go.Proofs.Ytimkamgghkjhhaa
open Go.RowKit
set_option linter.unusedVariables false
set_option linter.unusedSimpArgs false

set_option maxRecDepth 100000 in
set_option maxHeartbeats 4000000 in
theorem specHubOk_any (n : HubV) (v1 v2 v3 : Value) (w : World) (h : HubAt w n v1 v2 v3) :
    Calls Try.prog 17 #[hubAgg n v1 v2 v3] w fun e w' => e = .returned (.bool (hubOk n)) ∧ Below w.heap.size w w' := by
  obtain ⟨⟨a0, ac0, e1⟩, ⟨a1, ac1, e2⟩, ⟨a2, ac2, e3⟩⟩ := h.sliced
  subst e1 e2 e3
  have hb0 : Below w.heap.size w (w.alloc (.cells #[.int .i64 n.rd, .slice a0 n.ones.length ac0, .slice a1 n.twos.length ac1, .slice a2 n.outs.length ac2] 51)) := (Below.refl _ _).alloc (Nat.le_refl _) _
  have HA := hide (cellsAt_new w [.int .i64 n.rd, .slice a0 n.ones.length ac0, .slice a1 n.twos.length ac1, .slice a2 n.outs.length ac2] 51)
  have H := hide (h.on hb0)
  have HB0 := hide hb0
  clear hb0 h
  obtain ⟨R, hR⟩ : ∃ R, R = hubOk n := ⟨_, rfl⟩
  have HR := hide hR
  rw [← hR]
  clear hR
  go_enter Try.func17, Try.ntmps17
  go_upto_region 1 with fail
  change Hid (CellsAt (w.alloc (.cells #[.int .i64 n.rd, .slice a0 n.ones.length ac0, .slice a1 n.twos.length ac1, .slice a2 n.outs.length ac2] 51)) _ _ _) at HA
  generalize (w.alloc (.cells #[.int .i64 n.rd, .slice a0 n.ones.length ac0, .slice a1 n.twos.length ac1, .slice a2 n.outs.length ac2] 51)) = X at *
  have f0 : ∀ y : On X, y.y.cell? ⟨w.heap.size, 0, none⟩ = some (.int .i64 n.rd) := fun y => cell_on y.h ((unhide HA) 0 (by simp))
  have f1 : ∀ y : On X, y.y.cell? ⟨w.heap.size, 1, none⟩ = some (.slice a0 n.ones.length ac0) := fun y => cell_on y.h ((unhide HA) 1 (by simp))
  have f2 : ∀ y : On X, y.y.cell? ⟨w.heap.size, 2, none⟩ = some (.slice a1 n.twos.length ac1) := fun y => cell_on y.h ((unhide HA) 2 (by simp))
  have f3 : ∀ y : On X, y.y.cell? ⟨w.heap.size, 3, none⟩ = some (.slice a2 n.outs.length ac2) := fun y => cell_on y.h ((unhide HA) 3 (by simp))
  have hne : Nonempty (On X) := ⟨⟨X, Below.refl _ _⟩⟩
  have q1 : ∀ y : On X, Calls Try.prog 53 #[.slice a0 n.ones.length ac0, .int .i64 3] y.y fun r w' => r = .returned (.bool (keptOk 3 n.ones)) ∧ Below y.y.heap.size y.y w' := fun y => l24Kept_any 3 _ n.ones y.y ((unhide H).a.on y.h)
  have q2 : ∀ y : On X, Calls Try.prog 53 #[.slice a1 n.twos.length ac1, .int .i64 5] y.y fun r w' => r = .returned (.bool (keptOk 5 n.twos)) ∧ Below y.y.heap.size y.y w' := fun y => l24Kept_any 5 _ n.twos y.y ((unhide H).b.on y.h)
  have q3 : ∀ y : On X, Calls Try.prog 53 #[.slice a2 n.outs.length ac2, .int .i64 7] y.y fun r w' => r = .returned (.bool (keptOk 7 n.outs)) ∧ Below y.y.heap.size y.y w' := fun y => l24Kept_any 7 _ n.outs y.y ((unhide H).c.on y.h)
  cases h0 : inR 0 9999 n.rd
  · refine wp_region_on (by kernel_rfl) (by kernel_rfl) ?_
    repeat (first | go_big_quiet_step ((first | (go_at_call 41; exact calls_on_same (l22Max_any _)) | (go_at_call 36; exact calls_on_same (calls_as (l6In_any n.rd 0 9999 _) h0.symm)) | (go_at_call 53; first | with_reducible exact calls_on (q1 _) | with_reducible exact calls_on (q2 _) | with_reducible exact calls_on (q3 _)))) | quiet_step ((first | (go_at_call 41; exact calls_on_same (l22Max_any _)) | (go_at_call 36; exact calls_on_same (calls_as (l6In_any n.rd 0 9999 _) h0.symm)) | (go_at_call 53; first | with_reducible exact calls_on (q1 _) | with_reducible exact calls_on (q2 _) | with_reducible exact calls_on (q3 _)))))
    refine wpQuiet_nil ?_
    intro _ hw'
    obtain ⟨nq, hw''⟩ := hw'
    subst hw''
    go_wp2_with fail
    go_ret
    exact ⟨ret_bool ((unhide HR).trans (by simp [hubOk, h0])).symm, below_then (unhide HB0) nq.h⟩
  cases h1 : keptOk 3 n.ones
  · simp only [h1] at q1
    refine wp_region_on (by kernel_rfl) (by kernel_rfl) ?_
    repeat (first | go_big_quiet_step ((first | (go_at_call 41; exact calls_on_same (l22Max_any _)) | (go_at_call 36; exact calls_on_same (calls_as (l6In_any n.rd 0 9999 _) h0.symm)) | (go_at_call 53; first | with_reducible exact calls_on (q1 _) | with_reducible exact calls_on (q2 _) | with_reducible exact calls_on (q3 _)))) | quiet_step ((first | (go_at_call 41; exact calls_on_same (l22Max_any _)) | (go_at_call 36; exact calls_on_same (calls_as (l6In_any n.rd 0 9999 _) h0.symm)) | (go_at_call 53; first | with_reducible exact calls_on (q1 _) | with_reducible exact calls_on (q2 _) | with_reducible exact calls_on (q3 _)))))
    refine wpQuiet_nil ?_
    intro _ hw'
    obtain ⟨nq, hw''⟩ := hw'
    subst hw''
    go_wp2_with fail
    go_ret
    exact ⟨ret_bool ((unhide HR).trans (by simp [hubOk, h0, h1])).symm, below_then (unhide HB0) nq.h⟩
  simp only [h1] at q1
  cases h2 : keptOk 5 n.twos
  · simp only [h2] at q2
    refine wp_region_on (by kernel_rfl) (by kernel_rfl) ?_
    repeat (first | go_big_quiet_step ((first | (go_at_call 41; exact calls_on_same (l22Max_any _)) | (go_at_call 36; exact calls_on_same (calls_as (l6In_any n.rd 0 9999 _) h0.symm)) | (go_at_call 53; first | with_reducible exact calls_on (q1 _) | with_reducible exact calls_on (q2 _) | with_reducible exact calls_on (q3 _)))) | quiet_step ((first | (go_at_call 41; exact calls_on_same (l22Max_any _)) | (go_at_call 36; exact calls_on_same (calls_as (l6In_any n.rd 0 9999 _) h0.symm)) | (go_at_call 53; first | with_reducible exact calls_on (q1 _) | with_reducible exact calls_on (q2 _) | with_reducible exact calls_on (q3 _)))))
    refine wpQuiet_nil ?_
    intro _ hw'
    obtain ⟨nq, hw''⟩ := hw'
    subst hw''
    go_wp2_with fail
    go_ret
    exact ⟨ret_bool ((unhide HR).trans (by simp [hubOk, h0, h1, h2])).symm, below_then (unhide HB0) nq.h⟩
  simp only [h2] at q2
  cases h3 : keptOk 7 n.outs
  · simp only [h3] at q3
    refine wp_region_on (by kernel_rfl) (by kernel_rfl) ?_
    repeat (first | go_big_quiet_step ((first | (go_at_call 41; exact calls_on_same (l22Max_any _)) | (go_at_call 36; exact calls_on_same (calls_as (l6In_any n.rd 0 9999 _) h0.symm)) | (go_at_call 53; first | with_reducible exact calls_on (q1 _) | with_reducible exact calls_on (q2 _) | with_reducible exact calls_on (q3 _)))) | quiet_step ((first | (go_at_call 41; exact calls_on_same (l22Max_any _)) | (go_at_call 36; exact calls_on_same (calls_as (l6In_any n.rd 0 9999 _) h0.symm)) | (go_at_call 53; first | with_reducible exact calls_on (q1 _) | with_reducible exact calls_on (q2 _) | with_reducible exact calls_on (q3 _)))))
    refine wpQuiet_nil ?_
    intro _ hw'
    obtain ⟨nq, hw''⟩ := hw'
    subst hw''
    go_wp2_with fail
    go_ret
    exact ⟨ret_bool ((unhide HR).trans (by simp [hubOk, h0, h1, h2, h3])).symm, below_then (unhide HB0) nq.h⟩
  simp only [h3] at q3
  refine wp_region_on (by kernel_rfl) (by kernel_rfl) ?_
  repeat (first | go_big_quiet_step ((first | (go_at_call 41; exact calls_on_same (l22Max_any _)) | (go_at_call 36; exact calls_on_same (calls_as (l6In_any n.rd 0 9999 _) h0.symm)) | (go_at_call 53; first | with_reducible exact calls_on (q1 _) | with_reducible exact calls_on (q2 _) | with_reducible exact calls_on (q3 _)))) | quiet_step ((first | (go_at_call 41; exact calls_on_same (l22Max_any _)) | (go_at_call 36; exact calls_on_same (calls_as (l6In_any n.rd 0 9999 _) h0.symm)) | (go_at_call 53; first | with_reducible exact calls_on (q1 _) | with_reducible exact calls_on (q2 _) | with_reducible exact calls_on (q3 _)))))
  refine wpQuiet_nil ?_
  intro _ hw'
  obtain ⟨nq, hw''⟩ := hw'
  subst hw''
  go_wp2_with fail
  go_ret
  exact ⟨ret_bool ((unhide HR).trans (by simp [hubOk, h0, h1, h2, h3])).symm, below_then (unhide HB0) nq.h⟩
end Go.Proofs.Ytimkamgghkjhhaa
