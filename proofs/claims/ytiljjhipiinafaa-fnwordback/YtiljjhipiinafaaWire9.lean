/- errors.Is of a reader's fault. -/
import Derived.Test.YtiljjhipiinafaaWire8
import Derived.LaidEql
import Derived.Stop.Asserts
import Derived.RowKitTokens
namespace Go.Proofs.Ytiljjhipiinafaa
open Go.RowKit Go.Extern.Stop Go.Stop Go.Extern
set_option linter.unusedVariables false
set_option linter.unusedSimpArgs false

theorem wTypeOf (v : Value) (w : World) : (Extern.ReflectliteType.typeOf #[.iface 129 v]).run Try.prog w = .ok (.iface 148 (.agg #[.pointer (some ⟨0, 129, none⟩)])) w := by kernel_rfl
theorem wCallTypeOf (v : Value) (w : World) : (callFunc 118 #[.iface 129 v]).run Try.prog w = .ok (Next.value (.iface 148 (.agg #[.pointer (some ⟨0, 129, none⟩)]))) w := by
  have h8 := @run_callFunc_extern Try.prog 118 _ Extern.ReflectliteType.typeOf Try.func118 (by kernel_rfl) (by kernel_rfl) (by kernel_rfl) (by kernel_rfl)
  rw [h8, wTypeOf]
  rfl
theorem wCallComparable (w : World) : (callFunc 143 #[.agg #[.pointer (some ⟨0, 129, none⟩)]]).run Try.prog w = .ok (Next.value (.bool true)) w := by
  have h32 := @run_callFunc_extern Try.prog 143 _ (Extern.ReflectliteType.method fun t => do Extern.Rtype.noPackHeld "Comparable" t; pure (.bool (← typeInfo t).comparable)) Try.func143 (by kernel_rfl) (by kernel_rfl) (by kernel_rfl) (by kernel_rfl)
  have hc : (Extern.ReflectliteType.method (fun t => do Extern.Rtype.noPackHeld "Comparable" t; pure (.bool (← typeInfo t).comparable)) #[.agg #[.pointer (some ⟨0, 129, none⟩)]]).run Try.prog w = .ok (.bool true) w := by kernel_rfl
  rw [h32, hc]
  rfl
theorem wMethodComparable (v : Value) (w : World) : (Go.method 290 148 v "Comparable").run Try.prog w = .ok (143, v) w := by kernel_rfl
theorem wMethodUnwrap (v : Value) (w : World) : (Go.method 290 146 v "Unwrap").run Try.prog w = .ok (139, v) w := by kernel_rfl
theorem wNoIsE (v : Value) (xT : TypeId) (w : World) : (Instr.typeAssert (.iface 146 v) xT 150 true).run Try.prog w = .ok (.tuple #[.nilIface, .bool false]) w := run_typeAssert_lacksB Try.underlying150 (by kernel_rfl) (by kernel_rfl) v xT w
theorem wHasUnwrap (v : Value) (xT : TypeId) (w : World) : (Instr.typeAssert (.iface 146 v) xT 153 true).run Try.prog w = .ok (.tuple #[.iface 146 v, .bool true]) w := run_typeAssert_hasB Try.underlying153 (by kernel_rfl) v xT w
theorem wNoIsF (v : Value) (xT : TypeId) (w : World) : (Instr.typeAssert (.iface 129 v) xT 150 true).run Try.prog w = .ok (.tuple #[.nilIface, .bool false]) w := run_typeAssert_lacksB Try.underlying150 (by kernel_rfl) (by kernel_rfl) v xT w
theorem wNoUnwrapF (v : Value) (xT : TypeId) (w : World) : (Instr.typeAssert (.iface 129 v) xT 153 true).run Try.prog w = .ok (.tuple #[.nilIface, .bool false]) w := run_typeAssert_lacksB Try.underlying153 (by kernel_rfl) (by kernel_rfl) v xT w
theorem wNoUnwrapsF (v : Value) (xT : TypeId) (w : World) : (Instr.typeAssert (.iface 129 v) xT 155 true).run Try.prog w = .ok (.tuple #[.nilIface, .bool false]) w := run_typeAssert_lacksB Try.underlying155 (by kernel_rfl) (by kernel_rfl) v xT w
theorem wComp : Try.t129.comparable = true := by kernel_rfl
theorem wEq (a b : Int) (w : World) : (binOp .eql 77 (.iface 129 (.int .u8 a)) (.iface 129 (.int .u8 b))).run Try.prog w = .ok (.bool (a == b)) w := by
  have h : ∀ d : Nat, (Op.equalIn (d + 2) 77 (.iface 129 (.int .u8 a)) (.iface 129 (.int .u8 b))).run Try.prog w = .ok (a == b) w := fun d => by
    simp [Op.equalIn, wComp]
  simp only [binOp]
  simp [Op.equal, Op.maxDepth, h 9998]

abbrev faultV (at_ k : Int) : Value := .iface 146 (.agg #[.int .i64 at_, .int .u8 k])

set_option maxRecDepth 100000 in
set_option maxHeartbeats 2000000 in
theorem unwrap_any (at_ k : Int) (w : World) :
    Calls Try.prog 139 #[.agg #[.int .i64 at_, .int .u8 k]] w fun e w' => e = .returned (.iface 129 (.int .u8 k)) ∧ Below w.heap.size w w' := by
  go_enter Try.func139, Try.ntmps139
  go_wp2
  go_ret
  exact ⟨rfl, (Below.refl _ _).alloc (Nat.le_refl _) _⟩

set_option maxRecDepth 100000 in
set_option maxHeartbeats 2000000 in
theorem isOf_any (at_ k : Int) (w : World) :
    Calls Try.prog 119 #[faultV at_ k, .iface 129 (.int .u8 1), .bool true] w fun e w' => e = .returned (.bool (k == 1)) ∧ Below w.heap.size w w' := by
  have mU := wMethodUnwrap
  have nE := wNoIsE
  have uE := wHasUnwrap
  have nF := wNoIsF
  have uF := wNoUnwrapF
  have vF := wNoUnwrapsF
  have hty := run_eql_iface_types (P := Try.prog) 146 129 (.agg #[.int .i64 at_, .int .u8 k]) (.int .u8 1) Try.underlying77 (by decide) w
  have heq : ∀ w, (binOp .eql 77 (.iface 129 (.int .u8 k)) (.iface 129 (.int .u8 1))).run Try.prog w = .ok (.bool (k == 1)) w := fun w => wEq k 1 w
  obtain ⟨b, hb⟩ : ∃ b, b = (k == 1) := ⟨_, rfl⟩
  rw [← hb]
  simp only [← hb] at heq
  clear hb
  go_enter Try.func119, Try.ntmps119
  go_wp2_with fail
  refine wp_loop_rounds 2 ?_
  rw [rounds_succ]
  go_wp2_with (go_at_call 139; refine (unwrap_any at_ k _).mono ?_; rintro e w1 ⟨rfl, hb1⟩)
  rw [rounds_succ]
  cases b with
  | true =>
    go_wp2
    go_ret
    exact ⟨rfl, hb1⟩
  | false =>
    go_wp2
    go_ret
    exact ⟨rfl, hb1⟩

set_option maxRecDepth 100000 in
set_option maxHeartbeats 2000000 in
/-- errors.Is(fault, wireOver): whether the fault is that one. -/
theorem errorsIs_any (at_ k : Int) (w : World) :
    Calls Try.prog 103 #[faultV at_ k, .iface 129 (.int .u8 1)] w fun e w' => e = .returned (.bool (k == 1)) ∧ Below w.heap.size w w' := by
  have h8 := wCallTypeOf
  have h32 := wCallComparable
  have mR := wMethodComparable
  obtain ⟨b, hb⟩ : ∃ b, b = (k == 1) := ⟨_, rfl⟩
  have HB := hide hb
  rw [← hb]
  clear hb
  go_enter Try.func103, Try.ntmps103
  go_wp2_with (go_at_call 119; refine (isOf_any at_ k _).mono ?_; rintro e w1 ⟨rfl, hb1⟩; rw [← unhide HB])
  go_ret
  exact ⟨rfl, hb1⟩

theorem errorsIs_nil (w : World) :
    Calls Try.prog 103 #[.nilIface, .iface 129 (.int .u8 1)] w fun e w' => e = .returned (.bool false) ∧ w' = w := by
  have hn := run_eql_iface_nil_left (P := Try.prog) w 129 (.int .u8 1) Try.underlying77
  go_enter Try.func103, Try.ntmps103
  go_wp2
  go_ret
  exact ⟨rfl, rfl⟩
end Go.Proofs.Ytiljjhipiinafaa
