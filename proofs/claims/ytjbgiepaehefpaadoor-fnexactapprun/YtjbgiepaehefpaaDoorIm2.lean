/- What impl's choose answers, op by op. -/
import Derived.Test.YtjbgiepaehefpaaDoorIm1
namespace Go.Proofs.YtjbgiepaehefpaaDoor
open Go.RowKit
set_option linter.unusedVariables false

set_option maxRecDepth 100000 in
set_option maxHeartbeats 1600000 in
theorem choose_set (a b : Int) (q : Nat) (w : World) :
    Calls Tryd.prog 106 #[.pointer (some ⟨q, 0, none⟩), opAgg ⟨1, a, b, 0, 0⟩] w fun e w' => e = .returned (.iface 157 (.agg #[.int .i64 a, .int .i64 b])) ∧ Below w.heap.size w w' := by
  have hbx : Below w.heap.size w (w.alloc (.cells #[.int .i64 1, .int .i64 a, .int .i64 b, .int .i64 0, .int .i64 0] 77)) := (Below.refl _ _).alloc (Nat.le_refl _) _
  go_enter Tryd.func106, Tryd.ntmps106
  go_wp2_with fail
  go_ret
  exact ⟨rfl, hbx⟩

set_option maxRecDepth 100000 in
set_option maxHeartbeats 1600000 in
theorem choose_arg (a n : Int) (q : Nat) (w : World) (h6 : w.cell? ⟨q, 6, none⟩ = some (.int .i64 n)) :
    Calls Tryd.prog 106 #[.pointer (some ⟨q, 0, none⟩), opAgg ⟨4, a, 0, 0, 0⟩] w fun e w' => e = .returned (.iface 157 (.agg #[.int .i64 a, .int .i64 n])) ∧ Below w.heap.size w w' := by
  have hbx : Below w.heap.size w (w.alloc (.cells #[.int .i64 4, .int .i64 a, .int .i64 0, .int .i64 0, .int .i64 0] 77)) := (Below.refl _ _).alloc (Nat.le_refl _) _
  have h6' := cell_on hbx h6
  clear h6
  go_enter Tryd.func106, Tryd.ntmps106
  go_wp2_with fail
  go_ret
  exact ⟨rfl, hbx⟩

set_option maxRecDepth 100000 in
set_option maxHeartbeats 1600000 in
theorem choose_more (a b : Int) (q : Nat) (w : World) :
    Calls Tryd.prog 106 #[.pointer (some ⟨q, 0, none⟩), opAgg ⟨3, a, b, 0, 0⟩] w fun e w' => e = .returned (.iface 158 (.agg #[.int .i64 a, .int .i64 b])) ∧ Below w.heap.size w w' := by
  have hbx : Below w.heap.size w (w.alloc (.cells #[.int .i64 3, .int .i64 a, .int .i64 b, .int .i64 0, .int .i64 0] 77)) := (Below.refl _ _).alloc (Nat.le_refl _) _
  go_enter Tryd.func106, Tryd.ntmps106
  go_wp2_with fail
  go_ret
  exact ⟨rfl, hbx⟩

set_option maxRecDepth 100000 in
set_option maxHeartbeats 1600000 in
theorem choose_add (a b : Int) (s : StV) (hb : b = 0 ∨ b = 1) (q : Nat) (w : World) (h0 : w.cell? ⟨q, 7, none⟩ = some (.int .i64 s.x)) (h1 : w.cell? ⟨q, 8, none⟩ = some (.int .i64 s.y)) :
    Calls Tryd.prog 106 #[.pointer (some ⟨q, 0, none⟩), opAgg ⟨2, a, b, 0, 0⟩] w fun e w' => e = .returned (.iface 158 (.agg #[.int .i64 a, .int .i64 (getR s b)])) ∧ Below w.heap.size w w' := by
  have hbx : Below w.heap.size w (w.alloc (.cells #[.int .i64 2, .int .i64 a, .int .i64 b, .int .i64 0, .int .i64 0] 77)) := (Below.refl _ _).alloc (Nat.le_refl _) _
  have h0' := cell_on hbx h0
  have h1' := cell_on hbx h1
  clear h0 h1
  go_enter Tryd.func106, Tryd.ntmps106
  go_wp2_with fail
  refine (iget_any q s b hb _ h0' h1').mono ?_
  rintro e w' ⟨rfl, rfl⟩
  go_wp2_with fail
  go_ret
  exact ⟨rfl, hbx⟩

set_option maxRecDepth 100000 in
set_option maxHeartbeats 1600000 in
theorem choose_skip (a b c : Int) (q : Nat) (w : World) :
    Calls Tryd.prog 106 #[.pointer (some ⟨q, 0, none⟩), opAgg ⟨5, a, b, c, 0⟩] w fun e w' => e = .returned (.iface 160 (.agg #[.int .i64 a, .int .i64 b, .int .i64 c])) ∧ Below w.heap.size w w' := by
  have hbx : Below w.heap.size w (w.alloc (.cells #[.int .i64 5, .int .i64 a, .int .i64 b, .int .i64 c, .int .i64 0] 77)) := (Below.refl _ _).alloc (Nat.le_refl _) _
  go_enter Tryd.func106, Tryd.ntmps106
  go_wp2_with fail
  go_ret
  exact ⟨rfl, hbx⟩

set_option maxRecDepth 100000 in
set_option maxHeartbeats 1600000 in
theorem choose_send (a b c d : Int) (q : Nat) (w : World) :
    Calls Tryd.prog 106 #[.pointer (some ⟨q, 0, none⟩), opAgg ⟨6, a, b, c, d⟩] w fun e w' => e = .returned (.iface 162 (.agg #[.int .i64 a, .int .i64 b, .int .i64 c, .int .i64 d])) ∧ Below w.heap.size w w' := by
  have hbx : Below w.heap.size w (w.alloc (.cells #[.int .i64 6, .int .i64 a, .int .i64 b, .int .i64 c, .int .i64 d] 77)) := (Below.refl _ _).alloc (Nat.le_refl _) _
  go_enter Tryd.func106, Tryd.ntmps106
  go_wp2_with fail
  go_ret
  exact ⟨rfl, hbx⟩

set_option maxRecDepth 100000 in
set_option maxHeartbeats 1600000 in
theorem choose_out (a : Int) (q : Nat) (w : World) :
    Calls Tryd.prog 106 #[.pointer (some ⟨q, 0, none⟩), opAgg ⟨7, a, 0, 0, 0⟩] w fun e w' => e = .returned (.iface 164 (.agg #[.int .i64 a])) ∧ Below w.heap.size w w' := by
  have hbx : Below w.heap.size w (w.alloc (.cells #[.int .i64 7, .int .i64 a, .int .i64 0, .int .i64 0, .int .i64 0] 77)) := (Below.refl _ _).alloc (Nat.le_refl _) _
  go_enter Tryd.func106, Tryd.ntmps106
  go_wp2_with fail
  go_ret
  exact ⟨rfl, hbx⟩

end Go.Proofs.YtjbgiepaehefpaaDoor
