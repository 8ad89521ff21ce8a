/- '==' of two states. -/
import Derived.Test.YtimkamgghkjhhaaProg
import Derived.Test.YtimkamgghkjhhaaEv
import Derived.Test.YtimkamgghkjhhaaBase
import Derived.Laws.StructEq
namespace Go.Proofs.Ytimkamgghkjhhaa.S
open Go.RowKit
set_option linter.unusedVariables false
set_option linter.unusedSimpArgs false

theorem partF_int (xs : Array Value) (i : Nat) (n : Int) (w : World) (h : xs[i]? = some (.int .i64 n)) : (part 3 xs i).run Try.prog w = .ok (.int .i64 n) w := by
  simp [part, h, go_sem, run_underlying Try.underlying3]

theorem eqFields_step (xs ys : Array Value) (f : Field) (fs : List Field) (hn : f.name ≠ "_") (ht : f.type = 3) (a b : Int) (hx : xs[f.offset]? = some (.int .i64 a)) (hy : ys[f.offset]? = some (.int .i64 b)) (w : World) :
    (Op.eqFields 9999 xs ys (f :: fs)).run Try.prog w = if a = b then (Op.eqFields 9999 xs ys fs).run Try.prog w else .ok false w := by
  simp only [Op.eqFields, Sem.run_bind, ht, partF_int xs f.offset a w hx, partF_int ys f.offset b w hy, Result.andThen_ok, run_equalIn_int w 9998 3 .i64 .i64 a b Try.underlying3, if_pos hn, Sem.run_ite]
  by_cases h : a = b
  · simp [h, hn]
  · simp [h, hn]

theorem fields_st : ∃ f0 f1 f2 : Field, (Try.prog.fieldsOf 34).toList = [f0, f1, f2] ∧ (f0.name ≠ "_" ∧ f0.type = 3 ∧ f0.offset = 0) ∧ (f1.name ≠ "_" ∧ f1.type = 3 ∧ f1.offset = 1) ∧ (f2.name ≠ "_" ∧ f2.type = 3 ∧ f2.offset = 2) := by
  unfold Program.fieldsOf
  rw [Try.underlying34]
  exact ⟨_, _, _, rfl, ⟨by decide, rfl, rfl⟩, ⟨by decide, rfl, rfl⟩, ⟨by decide, rfl, rfl⟩⟩

theorem struct_st : Try.prog.underlying 34 = some (.struct (Try.prog.fieldsOf 34)) := by kernel_rfl
theorem stood_st : Try.prog.stoodInHeld 34 = false := by kernel_rfl
theorem guard_st : Try.prog.eqGuardType Try.prog.depth 34 = false := by kernel_rfl

/-- The spellings under which a walk may meet it. -/
structure EqSays (a b : StV) (r : Bool) : Prop where
  iff : r = true ↔ a = b
  op : ∀ w, (binOp .eql 34 (.agg #[.int .i64 a.x, .int .i64 a.y, .int .i64 a.c]) (.agg #[.int .i64 b.x, .int .i64 b.y, .int .i64 b.c])).run Try.prog w = .ok (.bool r) w
  neq : ∀ w, (binOp .neq 34 (.agg #[.int .i64 a.x, .int .i64 a.y, .int .i64 a.c]) (.agg #[.int .i64 b.x, .int .i64 b.y, .int .i64 b.c])).run Try.prog w = .ok (.bool (!r)) w

theorem eq_st (a b : StV) : ∃ r, EqSays a b r := by
  have hf : ∃ r : Bool, (r = true ↔ a = b) ∧ ∀ w, (Op.eqFields 9999 #[.int .i64 a.x, .int .i64 a.y, .int .i64 a.c] #[.int .i64 b.x, .int .i64 b.y, .int .i64 b.c] (Try.prog.fieldsOf 34).toList).run Try.prog w = .ok r w := by
    obtain ⟨f0, f1, f2, hl, ⟨n0, t0, o0⟩, ⟨n1, t1, o1⟩, ⟨n2, t2, o2⟩⟩ := fields_st
    rw [hl]
    obtain ⟨a0, a1, a2⟩ := a
    obtain ⟨b0, b1, b2⟩ := b
    have s0 : ∀ w, (Op.eqFields 9999 #[.int .i64 a0, .int .i64 a1, .int .i64 a2] #[.int .i64 b0, .int .i64 b1, .int .i64 b2] (f0 :: [f1, f2])).run Try.prog w = if a0 = b0 then (Op.eqFields 9999 #[.int .i64 a0, .int .i64 a1, .int .i64 a2] #[.int .i64 b0, .int .i64 b1, .int .i64 b2] [f1, f2]).run Try.prog w else .ok false w := fun w => eqFields_step _ _ f0 _ n0 t0 a0 b0 (by rw [o0]; rfl) (by rw [o0]; rfl) w
    have s1 : ∀ w, (Op.eqFields 9999 #[.int .i64 a0, .int .i64 a1, .int .i64 a2] #[.int .i64 b0, .int .i64 b1, .int .i64 b2] (f1 :: [f2])).run Try.prog w = if a1 = b1 then (Op.eqFields 9999 #[.int .i64 a0, .int .i64 a1, .int .i64 a2] #[.int .i64 b0, .int .i64 b1, .int .i64 b2] [f2]).run Try.prog w else .ok false w := fun w => eqFields_step _ _ f1 _ n1 t1 a1 b1 (by rw [o1]; rfl) (by rw [o1]; rfl) w
    have s2 : ∀ w, (Op.eqFields 9999 #[.int .i64 a0, .int .i64 a1, .int .i64 a2] #[.int .i64 b0, .int .i64 b1, .int .i64 b2] (f2 :: [])).run Try.prog w = if a2 = b2 then (Op.eqFields 9999 #[.int .i64 a0, .int .i64 a1, .int .i64 a2] #[.int .i64 b0, .int .i64 b1, .int .i64 b2] []).run Try.prog w else .ok false w := fun w => eqFields_step _ _ f2 _ n2 t2 a2 b2 (by rw [o2]; rfl) (by rw [o2]; rfl) w
    by_cases h0 : a0 = b0
    rotate_left
    · exact ⟨false, by simp [h0], fun w => by rw [s0, if_neg h0]⟩
    by_cases h1 : a1 = b1
    rotate_left
    · exact ⟨false, by simp [h1], fun w => by rw [s0, if_pos h0, s1, if_neg h1]⟩
    by_cases h2 : a2 = b2
    rotate_left
    · exact ⟨false, by simp [h2], fun w => by rw [s0, if_pos h0, s1, if_pos h1, s2, if_neg h2]⟩
    exact ⟨true, by simp [h0, h1, h2], fun w => by rw [s0, if_pos h0, s1, if_pos h1, s2, if_pos h2]; simp [Op.eqFields]⟩
  obtain ⟨r, h1, h2⟩ := hf
  have h3 : ∀ w, (Op.equalIn 10000 34 (.agg #[.int .i64 a.x, .int .i64 a.y, .int .i64 a.c]) (.agg #[.int .i64 b.x, .int .i64 b.y, .int .i64 b.c])).run Try.prog w = .ok r w := fun w => (run_equalIn_struct w 9999 34 _ _ struct_st stood_st).trans (h2 w)
  exact ⟨r, h1, fun w => by rw [run_eql_struct, h3]; rfl, fun w => by rw [run_neq_struct, h3]; rfl⟩
end Go.Proofs.Ytimkamgghkjhhaa.S
