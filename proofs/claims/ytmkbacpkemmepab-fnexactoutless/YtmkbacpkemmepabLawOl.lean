/- The walk of laws.FnExactOutLess: it answers true. -/
import Derived.Test.YtmkbacpkemmepabFlatOut2
import Derived.Test.YtmkbacpkemmepabLess5o
import Derived.Test.YtmkbacpkemmepabLess4o
import Derived.Deep.Cut
namespace Go.Proofs.Ytmkbacpkemmepab
open Go.RowKit
set_option linter.unusedVariables false

set_option maxRecDepth 100000 in
set_option maxHeartbeats 2000000 in
theorem lawOutLess_walk (a0 a1 a2 a3 a4 b0 b1 b2 b3 b4 : Int) (w : World) :
    Calls Try.prog 3 #[.agg #[.int .i64 a0, .int .i64 a1, .int .i64 a2, .int .i64 a3, .int .i64 a4], .agg #[.int .i64 b0, .int .i64 b1, .int .i64 b2, .int .i64 b3, .int .i64 b4]] w fun e w' => e = .returned (.bool true) ∧ Below w.heap.size w w' := by
  have hbW : Below w.heap.size w ((w.alloc (.cells #[.int .i64 a0, .int .i64 a1, .int .i64 a2, .int .i64 a3, .int .i64 a4] 23)).alloc (.cells #[.int .i64 b0, .int .i64 b1, .int .i64 b2, .int .i64 b3, .int .i64 b4] 23)) := ((Below.refl _ _).alloc (Nat.le_refl _) _).alloc (by simp) _
  have c10 : ((w.alloc (.cells #[.int .i64 a0, .int .i64 a1, .int .i64 a2, .int .i64 a3, .int .i64 a4] 23)).alloc (.cells #[.int .i64 b0, .int .i64 b1, .int .i64 b2, .int .i64 b3, .int .i64 b4] 23)).cell? ⟨w.heap.size, 0, none⟩ = some (.int .i64 a0) := by simp [go_sem]
  have c11 : ((w.alloc (.cells #[.int .i64 a0, .int .i64 a1, .int .i64 a2, .int .i64 a3, .int .i64 a4] 23)).alloc (.cells #[.int .i64 b0, .int .i64 b1, .int .i64 b2, .int .i64 b3, .int .i64 b4] 23)).cell? ⟨w.heap.size, 1, none⟩ = some (.int .i64 a1) := by simp [go_sem]
  have c12 : ((w.alloc (.cells #[.int .i64 a0, .int .i64 a1, .int .i64 a2, .int .i64 a3, .int .i64 a4] 23)).alloc (.cells #[.int .i64 b0, .int .i64 b1, .int .i64 b2, .int .i64 b3, .int .i64 b4] 23)).cell? ⟨w.heap.size, 2, none⟩ = some (.int .i64 a2) := by simp [go_sem]
  have c13 : ((w.alloc (.cells #[.int .i64 a0, .int .i64 a1, .int .i64 a2, .int .i64 a3, .int .i64 a4] 23)).alloc (.cells #[.int .i64 b0, .int .i64 b1, .int .i64 b2, .int .i64 b3, .int .i64 b4] 23)).cell? ⟨w.heap.size, 3, none⟩ = some (.int .i64 a3) := by simp [go_sem]
  have c14 : ((w.alloc (.cells #[.int .i64 a0, .int .i64 a1, .int .i64 a2, .int .i64 a3, .int .i64 a4] 23)).alloc (.cells #[.int .i64 b0, .int .i64 b1, .int .i64 b2, .int .i64 b3, .int .i64 b4] 23)).cell? ⟨w.heap.size, 4, none⟩ = some (.int .i64 a4) := by simp [go_sem]
  have c20 : ((w.alloc (.cells #[.int .i64 a0, .int .i64 a1, .int .i64 a2, .int .i64 a3, .int .i64 a4] 23)).alloc (.cells #[.int .i64 b0, .int .i64 b1, .int .i64 b2, .int .i64 b3, .int .i64 b4] 23)).cell? ⟨w.heap.size + 1, 0, none⟩ = some (.int .i64 b0) := by simp [go_sem]
  have c21 : ((w.alloc (.cells #[.int .i64 a0, .int .i64 a1, .int .i64 a2, .int .i64 a3, .int .i64 a4] 23)).alloc (.cells #[.int .i64 b0, .int .i64 b1, .int .i64 b2, .int .i64 b3, .int .i64 b4] 23)).cell? ⟨w.heap.size + 1, 1, none⟩ = some (.int .i64 b1) := by simp [go_sem]
  have c22 : ((w.alloc (.cells #[.int .i64 a0, .int .i64 a1, .int .i64 a2, .int .i64 a3, .int .i64 a4] 23)).alloc (.cells #[.int .i64 b0, .int .i64 b1, .int .i64 b2, .int .i64 b3, .int .i64 b4] 23)).cell? ⟨w.heap.size + 1, 2, none⟩ = some (.int .i64 b2) := by simp [go_sem]
  have c23 : ((w.alloc (.cells #[.int .i64 a0, .int .i64 a1, .int .i64 a2, .int .i64 a3, .int .i64 a4] 23)).alloc (.cells #[.int .i64 b0, .int .i64 b1, .int .i64 b2, .int .i64 b3, .int .i64 b4] 23)).cell? ⟨w.heap.size + 1, 3, none⟩ = some (.int .i64 b3) := by simp [go_sem]
  have c24 : ((w.alloc (.cells #[.int .i64 a0, .int .i64 a1, .int .i64 a2, .int .i64 a3, .int .i64 a4] 23)).alloc (.cells #[.int .i64 b0, .int .i64 b1, .int .i64 b2, .int .i64 b3, .int .i64 b4] 23)).cell? ⟨w.heap.size + 1, 4, none⟩ = some (.int .i64 b4) := by simp [go_sem]
  go_enter Try.func3, Try.ntmps3
  go_upto_region 1 with fail
  generalize ((w.alloc (.cells #[.int .i64 a0, .int .i64 a1, .int .i64 a2, .int .i64 a3, .int .i64 a4] 23)).alloc (.cells #[.int .i64 b0, .int .i64 b1, .int .i64 b2, .int .i64 b3, .int .i64 b4] 23)) = W at *
  have hnespec : Nonempty (On W) := ⟨⟨W, Below.refl _ _⟩⟩
  have qspec10 : ∀ y : On W, y.y.cell? ⟨w.heap.size, 0, none⟩ = some (.int .i64 a0) := fun y => cell_on y.h (c10)
  have qspec11 : ∀ y : On W, y.y.cell? ⟨w.heap.size, 1, none⟩ = some (.int .i64 a1) := fun y => cell_on y.h (c11)
  have qspec12 : ∀ y : On W, y.y.cell? ⟨w.heap.size, 2, none⟩ = some (.int .i64 a2) := fun y => cell_on y.h (c12)
  have qspec13 : ∀ y : On W, y.y.cell? ⟨w.heap.size, 3, none⟩ = some (.int .i64 a3) := fun y => cell_on y.h (c13)
  have qspec14 : ∀ y : On W, y.y.cell? ⟨w.heap.size, 4, none⟩ = some (.int .i64 a4) := fun y => cell_on y.h (c14)
  have qspec20 : ∀ y : On W, y.y.cell? ⟨w.heap.size + 1, 0, none⟩ = some (.int .i64 b0) := fun y => cell_on y.h (c20)
  have qspec21 : ∀ y : On W, y.y.cell? ⟨w.heap.size + 1, 1, none⟩ = some (.int .i64 b1) := fun y => cell_on y.h (c21)
  have qspec22 : ∀ y : On W, y.y.cell? ⟨w.heap.size + 1, 2, none⟩ = some (.int .i64 b2) := fun y => cell_on y.h (c22)
  have qspec23 : ∀ y : On W, y.y.cell? ⟨w.heap.size + 1, 3, none⟩ = some (.int .i64 b3) := fun y => cell_on y.h (c23)
  have qspec24 : ∀ y : On W, y.y.cell? ⟨w.heap.size + 1, 4, none⟩ = some (.int .i64 b4) := fun y => cell_on y.h (c24)
  refine wp_region_on (by kernel_rfl) (by kernel_rfl) ?_
  repeat (first | go_big_quiet_step ((first | (go_at_call 6; exact calls_on (toOut_any _ _ _ _ _ _)) | (go_at_call 5; exact calls_on (specOutLess_any ⟨a0, a1, a2, a3, a4⟩ ⟨b0, b1, b2, b3, b4⟩ _)))) | quiet_step ((first | (go_at_call 6; exact calls_on (toOut_any _ _ _ _ _ _)) | (go_at_call 5; exact calls_on (specOutLess_any ⟨a0, a1, a2, a3, a4⟩ ⟨b0, b1, b2, b3, b4⟩ _)))))
  refine wpQuiet_nil ?_
  intro _ hw'
  obtain ⟨nqspec, hw''⟩ := hw'
  subst hw''
  clear qspec10 qspec20 qspec11 qspec21 qspec12 qspec22 qspec13 qspec23 qspec14 qspec24
  go_upto_region 2 with fail
  have hneimpl : Nonempty (On nqspec.y) := ⟨⟨nqspec.y, Below.refl _ _⟩⟩
  have qimpl10 : ∀ y : On nqspec.y, y.y.cell? ⟨w.heap.size, 0, none⟩ = some (.int .i64 a0) := fun y => cell_on y.h (cell_on nqspec.h c10)
  have qimpl11 : ∀ y : On nqspec.y, y.y.cell? ⟨w.heap.size, 1, none⟩ = some (.int .i64 a1) := fun y => cell_on y.h (cell_on nqspec.h c11)
  have qimpl12 : ∀ y : On nqspec.y, y.y.cell? ⟨w.heap.size, 2, none⟩ = some (.int .i64 a2) := fun y => cell_on y.h (cell_on nqspec.h c12)
  have qimpl13 : ∀ y : On nqspec.y, y.y.cell? ⟨w.heap.size, 3, none⟩ = some (.int .i64 a3) := fun y => cell_on y.h (cell_on nqspec.h c13)
  have qimpl14 : ∀ y : On nqspec.y, y.y.cell? ⟨w.heap.size, 4, none⟩ = some (.int .i64 a4) := fun y => cell_on y.h (cell_on nqspec.h c14)
  have qimpl20 : ∀ y : On nqspec.y, y.y.cell? ⟨w.heap.size + 1, 0, none⟩ = some (.int .i64 b0) := fun y => cell_on y.h (cell_on nqspec.h c20)
  have qimpl21 : ∀ y : On nqspec.y, y.y.cell? ⟨w.heap.size + 1, 1, none⟩ = some (.int .i64 b1) := fun y => cell_on y.h (cell_on nqspec.h c21)
  have qimpl22 : ∀ y : On nqspec.y, y.y.cell? ⟨w.heap.size + 1, 2, none⟩ = some (.int .i64 b2) := fun y => cell_on y.h (cell_on nqspec.h c22)
  have qimpl23 : ∀ y : On nqspec.y, y.y.cell? ⟨w.heap.size + 1, 3, none⟩ = some (.int .i64 b3) := fun y => cell_on y.h (cell_on nqspec.h c23)
  have qimpl24 : ∀ y : On nqspec.y, y.y.cell? ⟨w.heap.size + 1, 4, none⟩ = some (.int .i64 b4) := fun y => cell_on y.h (cell_on nqspec.h c24)
  refine wp_region_on (by kernel_rfl) (by kernel_rfl) ?_
  repeat (first | go_big_quiet_step ((first | (go_at_call 6; exact calls_on (toOut_any _ _ _ _ _ _)) | (go_at_call 7; exact calls_on (implOutLess_any ⟨a0, a1, a2, a3, a4⟩ ⟨b0, b1, b2, b3, b4⟩ _)))) | quiet_step ((first | (go_at_call 6; exact calls_on (toOut_any _ _ _ _ _ _)) | (go_at_call 7; exact calls_on (implOutLess_any ⟨a0, a1, a2, a3, a4⟩ ⟨b0, b1, b2, b3, b4⟩ _)))))
  refine wpQuiet_nil ?_
  intro _ hw'
  obtain ⟨nqimpl, hw''⟩ := hw'
  subst hw''
  clear qimpl10 qimpl20 qimpl11 qimpl21 qimpl12 qimpl22 qimpl13 qimpl23 qimpl14 qimpl24
  have hne : (outLess ⟨a0, a1, a2, a3, a4⟩ ⟨b0, b1, b2, b3, b4⟩ != outLess ⟨a0, a1, a2, a3, a4⟩ ⟨b0, b1, b2, b3, b4⟩) = false := by simp
  go_wp2_with fail
  go_ret
  exact ⟨rfl, below_then hbW (below_then nqspec.h nqimpl.h)⟩
end Go.Proofs.Ytmkbacpkemmepab
