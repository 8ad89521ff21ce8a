/- '==' of two things that are let out. -/
import Derived.Test.YtamkoimadenmeaaProg
import Derived.Test.YtamkoimadenmeaaEv
import Derived.Test.YtamkoimadenmeaaBase
import Derived.Laws.StructEq
namespace Go.Proofs.Ytamkoimadenmeaa.O
open Go.RowKit
set_option linter.unusedVariables false
set_option linter.unusedSimpArgs false

theorem partF_int (xs : Array Value) (i : Nat) (n : Int) (w : World) (h : xs[i]? = some (.int .i64 n)) : (part 3 xs i).run Try.prog w = .ok (.int .i64 n) w := by
  simp [part, h, go_sem, run_underlying Try.underlying3]

theorem eqFields_step (xs ys : Array Value) (f : Field) (fs : List Field) (hn : f.name ≠ "_") (ht : f.type = 3) (a b : Int) (hx : xs[f.offset]? = some (.int .i64 a)) (hy : ys[f.offset]? = some (.int .i64 b)) (w : World) :
    (Op.eqFields 9999 xs ys (f :: fs)).run Try.prog w = if a = b then (Op.eqFields 9999 xs ys fs).run Try.prog w else .ok false w := by
  simp only [Op.eqFields, Sem.run_bind, ht, partF_int xs f.offset a w hx, partF_int ys f.offset b w hy, Result.andThen_ok, run_equalIn_int w 9998 3 .i64 .i64 a b Try.underlying3, if_pos hn, Sem.run_ite]
  by_cases h : a = b
  · simp [h, hn]
  · simp [h, hn]

theorem fields_ou : ∃ f0 f1 f2 f3 f4 : Field, (Try.prog.fieldsOf 24).toList = [f0, f1, f2, f3, f4] ∧ (f0.name ≠ "_" ∧ f0.type = 3 ∧ f0.offset = 0) ∧ (f1.name ≠ "_" ∧ f1.type = 3 ∧ f1.offset = 1) ∧ (f2.name ≠ "_" ∧ f2.type = 3 ∧ f2.offset = 2) ∧ (f3.name ≠ "_" ∧ f3.type = 3 ∧ f3.offset = 3) ∧ (f4.name ≠ "_" ∧ f4.type = 3 ∧ f4.offset = 4) := by
  unfold Program.fieldsOf
  rw [Try.underlying24]
  exact ⟨_, _, _, _, _, rfl, ⟨by decide, rfl, rfl⟩, ⟨by decide, rfl, rfl⟩, ⟨by decide, rfl, rfl⟩, ⟨by decide, rfl, rfl⟩, ⟨by decide, rfl, rfl⟩⟩

theorem struct_ou : Try.prog.underlying 24 = some (.struct (Try.prog.fieldsOf 24)) := by kernel_rfl
theorem stood_ou : Try.prog.stoodInHeld 24 = false := by kernel_rfl
theorem guard_ou : Try.prog.eqGuardType Try.prog.depth 24 = false := by kernel_rfl

/-- The spellings under which a walk may meet it. -/
structure EqSays (a b : OutV) (r : Bool) : Prop where
  iff : r = true ↔ a = b
  op : ∀ w, (binOp .eql 24 (.agg #[.int .i64 a.time, .int .i64 a.proc, .int .i64 a.count, .int .i64 a.n, .int .i64 a.value]) (.agg #[.int .i64 b.time, .int .i64 b.proc, .int .i64 b.count, .int .i64 b.n, .int .i64 b.value])).run Try.prog w = .ok (.bool r) w
  neq : ∀ w, (binOp .neq 24 (.agg #[.int .i64 a.time, .int .i64 a.proc, .int .i64 a.count, .int .i64 a.n, .int .i64 a.value]) (.agg #[.int .i64 b.time, .int .i64 b.proc, .int .i64 b.count, .int .i64 b.n, .int .i64 b.value])).run Try.prog w = .ok (.bool (!r)) w

theorem eq_ou (a b : OutV) : ∃ r, EqSays a b r := by
  have hf : ∃ r : Bool, (r = true ↔ a = b) ∧ ∀ w, (Op.eqFields 9999 #[.int .i64 a.time, .int .i64 a.proc, .int .i64 a.count, .int .i64 a.n, .int .i64 a.value] #[.int .i64 b.time, .int .i64 b.proc, .int .i64 b.count, .int .i64 b.n, .int .i64 b.value] (Try.prog.fieldsOf 24).toList).run Try.prog w = .ok r w := by
    obtain ⟨f0, f1, f2, f3, f4, hl, ⟨n0, t0, o0⟩, ⟨n1, t1, o1⟩, ⟨n2, t2, o2⟩, ⟨n3, t3, o3⟩, ⟨n4, t4, o4⟩⟩ := fields_ou
    rw [hl]
    obtain ⟨a0, a1, a2, a3, a4⟩ := a
    obtain ⟨b0, b1, b2, b3, b4⟩ := b
    have s0 : ∀ w, (Op.eqFields 9999 #[.int .i64 a0, .int .i64 a1, .int .i64 a2, .int .i64 a3, .int .i64 a4] #[.int .i64 b0, .int .i64 b1, .int .i64 b2, .int .i64 b3, .int .i64 b4] (f0 :: [f1, f2, f3, f4])).run Try.prog w = if a0 = b0 then (Op.eqFields 9999 #[.int .i64 a0, .int .i64 a1, .int .i64 a2, .int .i64 a3, .int .i64 a4] #[.int .i64 b0, .int .i64 b1, .int .i64 b2, .int .i64 b3, .int .i64 b4] [f1, f2, f3, f4]).run Try.prog w else .ok false w := fun w => eqFields_step _ _ f0 _ n0 t0 a0 b0 (by rw [o0]; rfl) (by rw [o0]; rfl) w
    have s1 : ∀ w, (Op.eqFields 9999 #[.int .i64 a0, .int .i64 a1, .int .i64 a2, .int .i64 a3, .int .i64 a4] #[.int .i64 b0, .int .i64 b1, .int .i64 b2, .int .i64 b3, .int .i64 b4] (f1 :: [f2, f3, f4])).run Try.prog w = if a1 = b1 then (Op.eqFields 9999 #[.int .i64 a0, .int .i64 a1, .int .i64 a2, .int .i64 a3, .int .i64 a4] #[.int .i64 b0, .int .i64 b1, .int .i64 b2, .int .i64 b3, .int .i64 b4] [f2, f3, f4]).run Try.prog w else .ok false w := fun w => eqFields_step _ _ f1 _ n1 t1 a1 b1 (by rw [o1]; rfl) (by rw [o1]; rfl) w
    have s2 : ∀ w, (Op.eqFields 9999 #[.int .i64 a0, .int .i64 a1, .int .i64 a2, .int .i64 a3, .int .i64 a4] #[.int .i64 b0, .int .i64 b1, .int .i64 b2, .int .i64 b3, .int .i64 b4] (f2 :: [f3, f4])).run Try.prog w = if a2 = b2 then (Op.eqFields 9999 #[.int .i64 a0, .int .i64 a1, .int .i64 a2, .int .i64 a3, .int .i64 a4] #[.int .i64 b0, .int .i64 b1, .int .i64 b2, .int .i64 b3, .int .i64 b4] [f3, f4]).run Try.prog w else .ok false w := fun w => eqFields_step _ _ f2 _ n2 t2 a2 b2 (by rw [o2]; rfl) (by rw [o2]; rfl) w
    have s3 : ∀ w, (Op.eqFields 9999 #[.int .i64 a0, .int .i64 a1, .int .i64 a2, .int .i64 a3, .int .i64 a4] #[.int .i64 b0, .int .i64 b1, .int .i64 b2, .int .i64 b3, .int .i64 b4] (f3 :: [f4])).run Try.prog w = if a3 = b3 then (Op.eqFields 9999 #[.int .i64 a0, .int .i64 a1, .int .i64 a2, .int .i64 a3, .int .i64 a4] #[.int .i64 b0, .int .i64 b1, .int .i64 b2, .int .i64 b3, .int .i64 b4] [f4]).run Try.prog w else .ok false w := fun w => eqFields_step _ _ f3 _ n3 t3 a3 b3 (by rw [o3]; rfl) (by rw [o3]; rfl) w
    have s4 : ∀ w, (Op.eqFields 9999 #[.int .i64 a0, .int .i64 a1, .int .i64 a2, .int .i64 a3, .int .i64 a4] #[.int .i64 b0, .int .i64 b1, .int .i64 b2, .int .i64 b3, .int .i64 b4] (f4 :: [])).run Try.prog w = if a4 = b4 then (Op.eqFields 9999 #[.int .i64 a0, .int .i64 a1, .int .i64 a2, .int .i64 a3, .int .i64 a4] #[.int .i64 b0, .int .i64 b1, .int .i64 b2, .int .i64 b3, .int .i64 b4] []).run Try.prog w else .ok false w := fun w => eqFields_step _ _ f4 _ n4 t4 a4 b4 (by rw [o4]; rfl) (by rw [o4]; rfl) w
    by_cases h0 : a0 = b0
    rotate_left
    · exact ⟨false, by simp [h0], fun w => by rw [s0, if_neg h0]⟩
    by_cases h1 : a1 = b1
    rotate_left
    · exact ⟨false, by simp [h1], fun w => by rw [s0, if_pos h0, s1, if_neg h1]⟩
    by_cases h2 : a2 = b2
    rotate_left
    · exact ⟨false, by simp [h2], fun w => by rw [s0, if_pos h0, s1, if_pos h1, s2, if_neg h2]⟩
    by_cases h3 : a3 = b3
    rotate_left
    · exact ⟨false, by simp [h3], fun w => by rw [s0, if_pos h0, s1, if_pos h1, s2, if_pos h2, s3, if_neg h3]⟩
    by_cases h4 : a4 = b4
    rotate_left
    · exact ⟨false, by simp [h4], fun w => by rw [s0, if_pos h0, s1, if_pos h1, s2, if_pos h2, s3, if_pos h3, s4, if_neg h4]⟩
    exact ⟨true, by simp [h0, h1, h2, h3, h4], fun w => by rw [s0, if_pos h0, s1, if_pos h1, s2, if_pos h2, s3, if_pos h3, s4, if_pos h4]; simp [Op.eqFields]⟩
  obtain ⟨r, h1, h2⟩ := hf
  have h3 : ∀ w, (Op.equalIn 10000 24 (.agg #[.int .i64 a.time, .int .i64 a.proc, .int .i64 a.count, .int .i64 a.n, .int .i64 a.value]) (.agg #[.int .i64 b.time, .int .i64 b.proc, .int .i64 b.count, .int .i64 b.n, .int .i64 b.value])).run Try.prog w = .ok r w := fun w => (run_equalIn_struct w 9999 24 _ _ struct_ou stood_ou).trans (h2 w)
  exact ⟨r, h1, fun w => by rw [run_eql_struct, h3]; rfl, fun w => by rw [run_neq_struct, h3]; rfl⟩
end Go.Proofs.Ytamkoimadenmeaa.O
