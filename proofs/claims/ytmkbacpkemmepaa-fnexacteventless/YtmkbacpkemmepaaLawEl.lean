/- The walk of laws.FnExactEventLess: it answers true. -/
import Derived.Test.YtmkbacpkemmepaaFlatEvent
import Derived.Test.YtmkbacpkemmepaaLess3
import Derived.Deep.Cut
namespace Go.Proofs.Ytmkbacpkemmepaa
open Go.RowKit
set_option linter.unusedVariables false

set_option maxRecDepth 100000 in
set_option maxHeartbeats 2000000 in
theorem lawEventLess_walk (a0 a1 a2 a3 a4 a5 a6 b0 b1 b2 b3 b4 b5 b6 : Int) (w : World) :
    Calls Try.prog 5 #[.agg #[.int .i64 a0, .int .i64 a1, .int .i64 a2, .int .i64 a3, .int .i64 a4, .int .i64 a5, .int .i64 a6], .agg #[.int .i64 b0, .int .i64 b1, .int .i64 b2, .int .i64 b3, .int .i64 b4, .int .i64 b5, .int .i64 b6]] w fun e w' => e = .returned (.bool true) ∧ Below w.heap.size w w' := by
  have hbW : Below w.heap.size w ((w.alloc (.cells #[.int .i64 a0, .int .i64 a1, .int .i64 a2, .int .i64 a3, .int .i64 a4, .int .i64 a5, .int .i64 a6] 34)).alloc (.cells #[.int .i64 b0, .int .i64 b1, .int .i64 b2, .int .i64 b3, .int .i64 b4, .int .i64 b5, .int .i64 b6] 34)) := ((Below.refl _ _).alloc (Nat.le_refl _) _).alloc (by simp) _
  have c10 : ((w.alloc (.cells #[.int .i64 a0, .int .i64 a1, .int .i64 a2, .int .i64 a3, .int .i64 a4, .int .i64 a5, .int .i64 a6] 34)).alloc (.cells #[.int .i64 b0, .int .i64 b1, .int .i64 b2, .int .i64 b3, .int .i64 b4, .int .i64 b5, .int .i64 b6] 34)).cell? ⟨w.heap.size, 0, none⟩ = some (.int .i64 a0) := by simp [go_sem]
  have c11 : ((w.alloc (.cells #[.int .i64 a0, .int .i64 a1, .int .i64 a2, .int .i64 a3, .int .i64 a4, .int .i64 a5, .int .i64 a6] 34)).alloc (.cells #[.int .i64 b0, .int .i64 b1, .int .i64 b2, .int .i64 b3, .int .i64 b4, .int .i64 b5, .int .i64 b6] 34)).cell? ⟨w.heap.size, 1, none⟩ = some (.int .i64 a1) := by simp [go_sem]
  have c12 : ((w.alloc (.cells #[.int .i64 a0, .int .i64 a1, .int .i64 a2, .int .i64 a3, .int .i64 a4, .int .i64 a5, .int .i64 a6] 34)).alloc (.cells #[.int .i64 b0, .int .i64 b1, .int .i64 b2, .int .i64 b3, .int .i64 b4, .int .i64 b5, .int .i64 b6] 34)).cell? ⟨w.heap.size, 2, none⟩ = some (.int .i64 a2) := by simp [go_sem]
  have c13 : ((w.alloc (.cells #[.int .i64 a0, .int .i64 a1, .int .i64 a2, .int .i64 a3, .int .i64 a4, .int .i64 a5, .int .i64 a6] 34)).alloc (.cells #[.int .i64 b0, .int .i64 b1, .int .i64 b2, .int .i64 b3, .int .i64 b4, .int .i64 b5, .int .i64 b6] 34)).cell? ⟨w.heap.size, 3, none⟩ = some (.int .i64 a3) := by simp [go_sem]
  have c14 : ((w.alloc (.cells #[.int .i64 a0, .int .i64 a1, .int .i64 a2, .int .i64 a3, .int .i64 a4, .int .i64 a5, .int .i64 a6] 34)).alloc (.cells #[.int .i64 b0, .int .i64 b1, .int .i64 b2, .int .i64 b3, .int .i64 b4, .int .i64 b5, .int .i64 b6] 34)).cell? ⟨w.heap.size, 4, none⟩ = some (.int .i64 a4) := by simp [go_sem]
  have c15 : ((w.alloc (.cells #[.int .i64 a0, .int .i64 a1, .int .i64 a2, .int .i64 a3, .int .i64 a4, .int .i64 a5, .int .i64 a6] 34)).alloc (.cells #[.int .i64 b0, .int .i64 b1, .int .i64 b2, .int .i64 b3, .int .i64 b4, .int .i64 b5, .int .i64 b6] 34)).cell? ⟨w.heap.size, 5, none⟩ = some (.int .i64 a5) := by simp [go_sem]
  have c16 : ((w.alloc (.cells #[.int .i64 a0, .int .i64 a1, .int .i64 a2, .int .i64 a3, .int .i64 a4, .int .i64 a5, .int .i64 a6] 34)).alloc (.cells #[.int .i64 b0, .int .i64 b1, .int .i64 b2, .int .i64 b3, .int .i64 b4, .int .i64 b5, .int .i64 b6] 34)).cell? ⟨w.heap.size, 6, none⟩ = some (.int .i64 a6) := by simp [go_sem]
  have c20 : ((w.alloc (.cells #[.int .i64 a0, .int .i64 a1, .int .i64 a2, .int .i64 a3, .int .i64 a4, .int .i64 a5, .int .i64 a6] 34)).alloc (.cells #[.int .i64 b0, .int .i64 b1, .int .i64 b2, .int .i64 b3, .int .i64 b4, .int .i64 b5, .int .i64 b6] 34)).cell? ⟨w.heap.size + 1, 0, none⟩ = some (.int .i64 b0) := by simp [go_sem]
  have c21 : ((w.alloc (.cells #[.int .i64 a0, .int .i64 a1, .int .i64 a2, .int .i64 a3, .int .i64 a4, .int .i64 a5, .int .i64 a6] 34)).alloc (.cells #[.int .i64 b0, .int .i64 b1, .int .i64 b2, .int .i64 b3, .int .i64 b4, .int .i64 b5, .int .i64 b6] 34)).cell? ⟨w.heap.size + 1, 1, none⟩ = some (.int .i64 b1) := by simp [go_sem]
  have c22 : ((w.alloc (.cells #[.int .i64 a0, .int .i64 a1, .int .i64 a2, .int .i64 a3, .int .i64 a4, .int .i64 a5, .int .i64 a6] 34)).alloc (.cells #[.int .i64 b0, .int .i64 b1, .int .i64 b2, .int .i64 b3, .int .i64 b4, .int .i64 b5, .int .i64 b6] 34)).cell? ⟨w.heap.size + 1, 2, none⟩ = some (.int .i64 b2) := by simp [go_sem]
  have c23 : ((w.alloc (.cells #[.int .i64 a0, .int .i64 a1, .int .i64 a2, .int .i64 a3, .int .i64 a4, .int .i64 a5, .int .i64 a6] 34)).alloc (.cells #[.int .i64 b0, .int .i64 b1, .int .i64 b2, .int .i64 b3, .int .i64 b4, .int .i64 b5, .int .i64 b6] 34)).cell? ⟨w.heap.size + 1, 3, none⟩ = some (.int .i64 b3) := by simp [go_sem]
  have c24 : ((w.alloc (.cells #[.int .i64 a0, .int .i64 a1, .int .i64 a2, .int .i64 a3, .int .i64 a4, .int .i64 a5, .int .i64 a6] 34)).alloc (.cells #[.int .i64 b0, .int .i64 b1, .int .i64 b2, .int .i64 b3, .int .i64 b4, .int .i64 b5, .int .i64 b6] 34)).cell? ⟨w.heap.size + 1, 4, none⟩ = some (.int .i64 b4) := by simp [go_sem]
  have c25 : ((w.alloc (.cells #[.int .i64 a0, .int .i64 a1, .int .i64 a2, .int .i64 a3, .int .i64 a4, .int .i64 a5, .int .i64 a6] 34)).alloc (.cells #[.int .i64 b0, .int .i64 b1, .int .i64 b2, .int .i64 b3, .int .i64 b4, .int .i64 b5, .int .i64 b6] 34)).cell? ⟨w.heap.size + 1, 5, none⟩ = some (.int .i64 b5) := by simp [go_sem]
  have c26 : ((w.alloc (.cells #[.int .i64 a0, .int .i64 a1, .int .i64 a2, .int .i64 a3, .int .i64 a4, .int .i64 a5, .int .i64 a6] 34)).alloc (.cells #[.int .i64 b0, .int .i64 b1, .int .i64 b2, .int .i64 b3, .int .i64 b4, .int .i64 b5, .int .i64 b6] 34)).cell? ⟨w.heap.size + 1, 6, none⟩ = some (.int .i64 b6) := by simp [go_sem]
  go_enter Try.func5, Try.ntmps5
  go_upto_region 1 with fail
  generalize ((w.alloc (.cells #[.int .i64 a0, .int .i64 a1, .int .i64 a2, .int .i64 a3, .int .i64 a4, .int .i64 a5, .int .i64 a6] 34)).alloc (.cells #[.int .i64 b0, .int .i64 b1, .int .i64 b2, .int .i64 b3, .int .i64 b4, .int .i64 b5, .int .i64 b6] 34)) = W at *
  have hnespec : Nonempty (On W) := ⟨⟨W, Below.refl _ _⟩⟩
  have qspec10 : ∀ y : On W, y.y.cell? ⟨w.heap.size, 0, none⟩ = some (.int .i64 a0) := fun y => cell_on y.h (c10)
  have qspec11 : ∀ y : On W, y.y.cell? ⟨w.heap.size, 1, none⟩ = some (.int .i64 a1) := fun y => cell_on y.h (c11)
  have qspec12 : ∀ y : On W, y.y.cell? ⟨w.heap.size, 2, none⟩ = some (.int .i64 a2) := fun y => cell_on y.h (c12)
  have qspec13 : ∀ y : On W, y.y.cell? ⟨w.heap.size, 3, none⟩ = some (.int .i64 a3) := fun y => cell_on y.h (c13)
  have qspec14 : ∀ y : On W, y.y.cell? ⟨w.heap.size, 4, none⟩ = some (.int .i64 a4) := fun y => cell_on y.h (c14)
  have qspec15 : ∀ y : On W, y.y.cell? ⟨w.heap.size, 5, none⟩ = some (.int .i64 a5) := fun y => cell_on y.h (c15)
  have qspec16 : ∀ y : On W, y.y.cell? ⟨w.heap.size, 6, none⟩ = some (.int .i64 a6) := fun y => cell_on y.h (c16)
  have qspec20 : ∀ y : On W, y.y.cell? ⟨w.heap.size + 1, 0, none⟩ = some (.int .i64 b0) := fun y => cell_on y.h (c20)
  have qspec21 : ∀ y : On W, y.y.cell? ⟨w.heap.size + 1, 1, none⟩ = some (.int .i64 b1) := fun y => cell_on y.h (c21)
  have qspec22 : ∀ y : On W, y.y.cell? ⟨w.heap.size + 1, 2, none⟩ = some (.int .i64 b2) := fun y => cell_on y.h (c22)
  have qspec23 : ∀ y : On W, y.y.cell? ⟨w.heap.size + 1, 3, none⟩ = some (.int .i64 b3) := fun y => cell_on y.h (c23)
  have qspec24 : ∀ y : On W, y.y.cell? ⟨w.heap.size + 1, 4, none⟩ = some (.int .i64 b4) := fun y => cell_on y.h (c24)
  have qspec25 : ∀ y : On W, y.y.cell? ⟨w.heap.size + 1, 5, none⟩ = some (.int .i64 b5) := fun y => cell_on y.h (c25)
  have qspec26 : ∀ y : On W, y.y.cell? ⟨w.heap.size + 1, 6, none⟩ = some (.int .i64 b6) := fun y => cell_on y.h (c26)
  refine wp_region_on (by kernel_rfl) (by kernel_rfl) ?_
  repeat (first | go_big_quiet_step ((first | (go_at_call 16; exact calls_on (toEvent_any _ _ _ _ _ _ _ _)) | (go_at_call 11; exact calls_on (specEventLess_any ⟨a0, a1, a2, a3, a4, a5, a6⟩ ⟨b0, b1, b2, b3, b4, b5, b6⟩ _)))) | quiet_step ((first | (go_at_call 16; exact calls_on (toEvent_any _ _ _ _ _ _ _ _)) | (go_at_call 11; exact calls_on (specEventLess_any ⟨a0, a1, a2, a3, a4, a5, a6⟩ ⟨b0, b1, b2, b3, b4, b5, b6⟩ _)))))
  refine wpQuiet_nil ?_
  intro _ hw'
  obtain ⟨nqspec, hw''⟩ := hw'
  subst hw''
  clear qspec10 qspec20 qspec11 qspec21 qspec12 qspec22 qspec13 qspec23 qspec14 qspec24 qspec15 qspec25 qspec16 qspec26
  go_upto_region 2 with fail
  have hneimpl : Nonempty (On nqspec.y) := ⟨⟨nqspec.y, Below.refl _ _⟩⟩
  have qimpl10 : ∀ y : On nqspec.y, y.y.cell? ⟨w.heap.size, 0, none⟩ = some (.int .i64 a0) := fun y => cell_on y.h (cell_on nqspec.h c10)
  have qimpl11 : ∀ y : On nqspec.y, y.y.cell? ⟨w.heap.size, 1, none⟩ = some (.int .i64 a1) := fun y => cell_on y.h (cell_on nqspec.h c11)
  have qimpl12 : ∀ y : On nqspec.y, y.y.cell? ⟨w.heap.size, 2, none⟩ = some (.int .i64 a2) := fun y => cell_on y.h (cell_on nqspec.h c12)
  have qimpl13 : ∀ y : On nqspec.y, y.y.cell? ⟨w.heap.size, 3, none⟩ = some (.int .i64 a3) := fun y => cell_on y.h (cell_on nqspec.h c13)
  have qimpl14 : ∀ y : On nqspec.y, y.y.cell? ⟨w.heap.size, 4, none⟩ = some (.int .i64 a4) := fun y => cell_on y.h (cell_on nqspec.h c14)
  have qimpl15 : ∀ y : On nqspec.y, y.y.cell? ⟨w.heap.size, 5, none⟩ = some (.int .i64 a5) := fun y => cell_on y.h (cell_on nqspec.h c15)
  have qimpl16 : ∀ y : On nqspec.y, y.y.cell? ⟨w.heap.size, 6, none⟩ = some (.int .i64 a6) := fun y => cell_on y.h (cell_on nqspec.h c16)
  have qimpl20 : ∀ y : On nqspec.y, y.y.cell? ⟨w.heap.size + 1, 0, none⟩ = some (.int .i64 b0) := fun y => cell_on y.h (cell_on nqspec.h c20)
  have qimpl21 : ∀ y : On nqspec.y, y.y.cell? ⟨w.heap.size + 1, 1, none⟩ = some (.int .i64 b1) := fun y => cell_on y.h (cell_on nqspec.h c21)
  have qimpl22 : ∀ y : On nqspec.y, y.y.cell? ⟨w.heap.size + 1, 2, none⟩ = some (.int .i64 b2) := fun y => cell_on y.h (cell_on nqspec.h c22)
  have qimpl23 : ∀ y : On nqspec.y, y.y.cell? ⟨w.heap.size + 1, 3, none⟩ = some (.int .i64 b3) := fun y => cell_on y.h (cell_on nqspec.h c23)
  have qimpl24 : ∀ y : On nqspec.y, y.y.cell? ⟨w.heap.size + 1, 4, none⟩ = some (.int .i64 b4) := fun y => cell_on y.h (cell_on nqspec.h c24)
  have qimpl25 : ∀ y : On nqspec.y, y.y.cell? ⟨w.heap.size + 1, 5, none⟩ = some (.int .i64 b5) := fun y => cell_on y.h (cell_on nqspec.h c25)
  have qimpl26 : ∀ y : On nqspec.y, y.y.cell? ⟨w.heap.size + 1, 6, none⟩ = some (.int .i64 b6) := fun y => cell_on y.h (cell_on nqspec.h c26)
  refine wp_region_on (by kernel_rfl) (by kernel_rfl) ?_
  repeat (first | go_big_quiet_step ((first | (go_at_call 16; exact calls_on (toEvent_any _ _ _ _ _ _ _ _)) | (go_at_call 10; exact calls_on (implEventLess_any ⟨a0, a1, a2, a3, a4, a5, a6⟩ ⟨b0, b1, b2, b3, b4, b5, b6⟩ _)))) | quiet_step ((first | (go_at_call 16; exact calls_on (toEvent_any _ _ _ _ _ _ _ _)) | (go_at_call 10; exact calls_on (implEventLess_any ⟨a0, a1, a2, a3, a4, a5, a6⟩ ⟨b0, b1, b2, b3, b4, b5, b6⟩ _)))))
  refine wpQuiet_nil ?_
  intro _ hw'
  obtain ⟨nqimpl, hw''⟩ := hw'
  subst hw''
  clear qimpl10 qimpl20 qimpl11 qimpl21 qimpl12 qimpl22 qimpl13 qimpl23 qimpl14 qimpl24 qimpl15 qimpl25 qimpl16 qimpl26
  have hne : (evLess ⟨a0, a1, a2, a3, a4, a5, a6⟩ ⟨b0, b1, b2, b3, b4, b5, b6⟩ != evLess ⟨a0, a1, a2, a3, a4, a5, a6⟩ ⟨b0, b1, b2, b3, b4, b5, b6⟩) = false := by simp
  go_wp2_with fail
  go_ret
  exact ⟨rfl, below_then hbW (below_then nqspec.h nqimpl.h)⟩
end Go.Proofs.Ytmkbacpkemmepaa
