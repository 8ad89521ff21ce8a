/- '==' of two events. -/
import Derived.Test.YtiljjhipiinafaaGreatProg
import Derived.Test.YtiljjhipiinafaaGreatEv
import Derived.Laws.StructEq
import Derived.Test.YtiljjhipiinafaaGreatBase
import Derived.Test.YtiljjhipiinafaaGreatFlat
import Derived.WalkSmall
import Derived.Deep.QuietTactic
import Derived.BigQuiet
import Derived.Deep.Cut
namespace Go.Proofs.YtiljjhipiinafaaGreat.E
open Go.RowKit
set_option linter.unusedVariables false
set_option linter.unusedSimpArgs false

theorem partF_int (xs : Array Value) (i : Nat) (n : Int) (w : World) (h : xs[i]? = some (.int .i64 n)) : (part 3 xs i).run Tryz.prog w = .ok (.int .i64 n) w := by
  simp [part, h, go_sem, run_underlying Tryz.underlying3]

theorem eqFields_step (xs ys : Array Value) (f : Field) (fs : List Field) (hn : f.name ≠ "_") (ht : f.type = 3) (a b : Int) (hx : xs[f.offset]? = some (.int .i64 a)) (hy : ys[f.offset]? = some (.int .i64 b)) (w : World) :
    (Op.eqFields 9999 xs ys (f :: fs)).run Tryz.prog w = if a = b then (Op.eqFields 9999 xs ys fs).run Tryz.prog w else .ok false w := by
  simp only [Op.eqFields, Sem.run_bind, ht, partF_int xs f.offset a w hx, partF_int ys f.offset b w hy, Result.andThen_ok, run_equalIn_int w 9998 3 .i64 .i64 a b Tryz.underlying3, if_pos hn, Sem.run_ite]
  by_cases h : a = b
  · simp [h, hn]
  · simp [h, hn]

theorem fields_ev : ∃ f0 f1 f2 f3 f4 f5 f6 : Field, (Tryz.prog.fieldsOf 56).toList = [f0, f1, f2, f3, f4, f5, f6] ∧ (f0.name ≠ "_" ∧ f0.type = 3 ∧ f0.offset = 0) ∧ (f1.name ≠ "_" ∧ f1.type = 3 ∧ f1.offset = 1) ∧ (f2.name ≠ "_" ∧ f2.type = 3 ∧ f2.offset = 2) ∧ (f3.name ≠ "_" ∧ f3.type = 3 ∧ f3.offset = 3) ∧ (f4.name ≠ "_" ∧ f4.type = 3 ∧ f4.offset = 4) ∧ (f5.name ≠ "_" ∧ f5.type = 3 ∧ f5.offset = 5) ∧ (f6.name ≠ "_" ∧ f6.type = 3 ∧ f6.offset = 6) := by
  unfold Program.fieldsOf
  rw [Tryz.underlying56]
  exact ⟨_, _, _, _, _, _, _, rfl, ⟨by decide, rfl, rfl⟩, ⟨by decide, rfl, rfl⟩, ⟨by decide, rfl, rfl⟩, ⟨by decide, rfl, rfl⟩, ⟨by decide, rfl, rfl⟩, ⟨by decide, rfl, rfl⟩, ⟨by decide, rfl, rfl⟩⟩

theorem struct_ev : Tryz.prog.underlying 56 = some (.struct (Tryz.prog.fieldsOf 56)) := by kernel_rfl
theorem stood_ev : Tryz.prog.stoodInHeld 56 = false := by kernel_rfl
theorem guard_ev : Tryz.prog.eqGuardType Tryz.prog.depth 56 = false := by kernel_rfl

/-- The three spellings under which a walk may meet it. -/
structure EqSays (a b : EvV) (r : Bool) : Prop where
  iff : r = true ↔ a = b
  op : ∀ w, (binOp .eql 56 (evAgg a) (evAgg b)).run Tryz.prog w = .ok (.bool r) w
  neq : ∀ w, (binOp .neq 56 (evAgg a) (evAgg b)).run Tryz.prog w = .ok (.bool (!r)) w
  eq : ∀ w, (Op.equalIn 10000 56 (evAgg a) (evAgg b)).run Tryz.prog w = .ok r w
  fs : ∀ w, (Op.eqFields 9999 #[.int .i64 a.time, .int .i64 a.to, .int .i64 a.src, .int .i64 a.count, .int .i64 a.n, .int .i64 a.kind, .int .i64 a.arg] #[.int .i64 b.time, .int .i64 b.to, .int .i64 b.src, .int .i64 b.count, .int .i64 b.n, .int .i64 b.kind, .int .i64 b.arg] (Tryz.prog.fieldsOf 56).toList).run Tryz.prog w = .ok r w

theorem eq_event (a b : EvV) : ∃ r, EqSays a b r := by
  have hf : ∃ r : Bool, (r = true ↔ a = b) ∧ ∀ w, (Op.eqFields 9999 #[.int .i64 a.time, .int .i64 a.to, .int .i64 a.src, .int .i64 a.count, .int .i64 a.n, .int .i64 a.kind, .int .i64 a.arg] #[.int .i64 b.time, .int .i64 b.to, .int .i64 b.src, .int .i64 b.count, .int .i64 b.n, .int .i64 b.kind, .int .i64 b.arg] (Tryz.prog.fieldsOf 56).toList).run Tryz.prog w = .ok r w := by
    obtain ⟨f0, f1, f2, f3, f4, f5, f6, hl, ⟨n0, t0, o0⟩, ⟨n1, t1, o1⟩, ⟨n2, t2, o2⟩, ⟨n3, t3, o3⟩, ⟨n4, t4, o4⟩, ⟨n5, t5, o5⟩, ⟨n6, t6, o6⟩⟩ := fields_ev
    rw [hl]
    obtain ⟨a0, a1, a2, a3, a4, a5, a6⟩ := a
    obtain ⟨b0, b1, b2, b3, b4, b5, b6⟩ := b
    have s0 : ∀ w, (Op.eqFields 9999 #[.int .i64 a0, .int .i64 a1, .int .i64 a2, .int .i64 a3, .int .i64 a4, .int .i64 a5, .int .i64 a6] #[.int .i64 b0, .int .i64 b1, .int .i64 b2, .int .i64 b3, .int .i64 b4, .int .i64 b5, .int .i64 b6] (f0 :: [f1, f2, f3, f4, f5, f6])).run Tryz.prog w = if a0 = b0 then (Op.eqFields 9999 #[.int .i64 a0, .int .i64 a1, .int .i64 a2, .int .i64 a3, .int .i64 a4, .int .i64 a5, .int .i64 a6] #[.int .i64 b0, .int .i64 b1, .int .i64 b2, .int .i64 b3, .int .i64 b4, .int .i64 b5, .int .i64 b6] [f1, f2, f3, f4, f5, f6]).run Tryz.prog w else .ok false w := fun w => eqFields_step _ _ f0 _ n0 t0 a0 b0 (by rw [o0]; rfl) (by rw [o0]; rfl) w
    have s1 : ∀ w, (Op.eqFields 9999 #[.int .i64 a0, .int .i64 a1, .int .i64 a2, .int .i64 a3, .int .i64 a4, .int .i64 a5, .int .i64 a6] #[.int .i64 b0, .int .i64 b1, .int .i64 b2, .int .i64 b3, .int .i64 b4, .int .i64 b5, .int .i64 b6] (f1 :: [f2, f3, f4, f5, f6])).run Tryz.prog w = if a1 = b1 then (Op.eqFields 9999 #[.int .i64 a0, .int .i64 a1, .int .i64 a2, .int .i64 a3, .int .i64 a4, .int .i64 a5, .int .i64 a6] #[.int .i64 b0, .int .i64 b1, .int .i64 b2, .int .i64 b3, .int .i64 b4, .int .i64 b5, .int .i64 b6] [f2, f3, f4, f5, f6]).run Tryz.prog w else .ok false w := fun w => eqFields_step _ _ f1 _ n1 t1 a1 b1 (by rw [o1]; rfl) (by rw [o1]; rfl) w
    have s2 : ∀ w, (Op.eqFields 9999 #[.int .i64 a0, .int .i64 a1, .int .i64 a2, .int .i64 a3, .int .i64 a4, .int .i64 a5, .int .i64 a6] #[.int .i64 b0, .int .i64 b1, .int .i64 b2, .int .i64 b3, .int .i64 b4, .int .i64 b5, .int .i64 b6] (f2 :: [f3, f4, f5, f6])).run Tryz.prog w = if a2 = b2 then (Op.eqFields 9999 #[.int .i64 a0, .int .i64 a1, .int .i64 a2, .int .i64 a3, .int .i64 a4, .int .i64 a5, .int .i64 a6] #[.int .i64 b0, .int .i64 b1, .int .i64 b2, .int .i64 b3, .int .i64 b4, .int .i64 b5, .int .i64 b6] [f3, f4, f5, f6]).run Tryz.prog w else .ok false w := fun w => eqFields_step _ _ f2 _ n2 t2 a2 b2 (by rw [o2]; rfl) (by rw [o2]; rfl) w
    have s3 : ∀ w, (Op.eqFields 9999 #[.int .i64 a0, .int .i64 a1, .int .i64 a2, .int .i64 a3, .int .i64 a4, .int .i64 a5, .int .i64 a6] #[.int .i64 b0, .int .i64 b1, .int .i64 b2, .int .i64 b3, .int .i64 b4, .int .i64 b5, .int .i64 b6] (f3 :: [f4, f5, f6])).run Tryz.prog w = if a3 = b3 then (Op.eqFields 9999 #[.int .i64 a0, .int .i64 a1, .int .i64 a2, .int .i64 a3, .int .i64 a4, .int .i64 a5, .int .i64 a6] #[.int .i64 b0, .int .i64 b1, .int .i64 b2, .int .i64 b3, .int .i64 b4, .int .i64 b5, .int .i64 b6] [f4, f5, f6]).run Tryz.prog w else .ok false w := fun w => eqFields_step _ _ f3 _ n3 t3 a3 b3 (by rw [o3]; rfl) (by rw [o3]; rfl) w
    have s4 : ∀ w, (Op.eqFields 9999 #[.int .i64 a0, .int .i64 a1, .int .i64 a2, .int .i64 a3, .int .i64 a4, .int .i64 a5, .int .i64 a6] #[.int .i64 b0, .int .i64 b1, .int .i64 b2, .int .i64 b3, .int .i64 b4, .int .i64 b5, .int .i64 b6] (f4 :: [f5, f6])).run Tryz.prog w = if a4 = b4 then (Op.eqFields 9999 #[.int .i64 a0, .int .i64 a1, .int .i64 a2, .int .i64 a3, .int .i64 a4, .int .i64 a5, .int .i64 a6] #[.int .i64 b0, .int .i64 b1, .int .i64 b2, .int .i64 b3, .int .i64 b4, .int .i64 b5, .int .i64 b6] [f5, f6]).run Tryz.prog w else .ok false w := fun w => eqFields_step _ _ f4 _ n4 t4 a4 b4 (by rw [o4]; rfl) (by rw [o4]; rfl) w
    have s5 : ∀ w, (Op.eqFields 9999 #[.int .i64 a0, .int .i64 a1, .int .i64 a2, .int .i64 a3, .int .i64 a4, .int .i64 a5, .int .i64 a6] #[.int .i64 b0, .int .i64 b1, .int .i64 b2, .int .i64 b3, .int .i64 b4, .int .i64 b5, .int .i64 b6] (f5 :: [f6])).run Tryz.prog w = if a5 = b5 then (Op.eqFields 9999 #[.int .i64 a0, .int .i64 a1, .int .i64 a2, .int .i64 a3, .int .i64 a4, .int .i64 a5, .int .i64 a6] #[.int .i64 b0, .int .i64 b1, .int .i64 b2, .int .i64 b3, .int .i64 b4, .int .i64 b5, .int .i64 b6] [f6]).run Tryz.prog w else .ok false w := fun w => eqFields_step _ _ f5 _ n5 t5 a5 b5 (by rw [o5]; rfl) (by rw [o5]; rfl) w
    have s6 : ∀ w, (Op.eqFields 9999 #[.int .i64 a0, .int .i64 a1, .int .i64 a2, .int .i64 a3, .int .i64 a4, .int .i64 a5, .int .i64 a6] #[.int .i64 b0, .int .i64 b1, .int .i64 b2, .int .i64 b3, .int .i64 b4, .int .i64 b5, .int .i64 b6] (f6 :: [])).run Tryz.prog w = if a6 = b6 then (Op.eqFields 9999 #[.int .i64 a0, .int .i64 a1, .int .i64 a2, .int .i64 a3, .int .i64 a4, .int .i64 a5, .int .i64 a6] #[.int .i64 b0, .int .i64 b1, .int .i64 b2, .int .i64 b3, .int .i64 b4, .int .i64 b5, .int .i64 b6] []).run Tryz.prog w else .ok false w := fun w => eqFields_step _ _ f6 _ n6 t6 a6 b6 (by rw [o6]; rfl) (by rw [o6]; rfl) w
    by_cases h0 : a0 = b0
    rotate_left
    · exact ⟨false, by simp [h0], fun w => by rw [s0, if_neg h0]⟩
    by_cases h1 : a1 = b1
    rotate_left
    · exact ⟨false, by simp [h1], fun w => by rw [s0, if_pos h0, s1, if_neg h1]⟩
    by_cases h2 : a2 = b2
    rotate_left
    · exact ⟨false, by simp [h2], fun w => by rw [s0, if_pos h0, s1, if_pos h1, s2, if_neg h2]⟩
    by_cases h3 : a3 = b3
    rotate_left
    · exact ⟨false, by simp [h3], fun w => by rw [s0, if_pos h0, s1, if_pos h1, s2, if_pos h2, s3, if_neg h3]⟩
    by_cases h4 : a4 = b4
    rotate_left
    · exact ⟨false, by simp [h4], fun w => by rw [s0, if_pos h0, s1, if_pos h1, s2, if_pos h2, s3, if_pos h3, s4, if_neg h4]⟩
    by_cases h5 : a5 = b5
    rotate_left
    · exact ⟨false, by simp [h5], fun w => by rw [s0, if_pos h0, s1, if_pos h1, s2, if_pos h2, s3, if_pos h3, s4, if_pos h4, s5, if_neg h5]⟩
    by_cases h6 : a6 = b6
    rotate_left
    · exact ⟨false, by simp [h6], fun w => by rw [s0, if_pos h0, s1, if_pos h1, s2, if_pos h2, s3, if_pos h3, s4, if_pos h4, s5, if_pos h5, s6, if_neg h6]⟩
    exact ⟨true, by simp [h0, h1, h2, h3, h4, h5, h6], fun w => by rw [s0, if_pos h0, s1, if_pos h1, s2, if_pos h2, s3, if_pos h3, s4, if_pos h4, s5, if_pos h5, s6, if_pos h6]; simp [Op.eqFields]⟩
  obtain ⟨r, h1, h2⟩ := hf
  have h3 : ∀ w, (Op.equalIn 10000 56 (evAgg a) (evAgg b)).run Tryz.prog w = .ok r w := fun w => (run_equalIn_struct w 9999 56 _ _ struct_ev stood_ev).trans (h2 w)
  exact ⟨r, h1, fun w => by rw [run_eql_struct, h3]; rfl, fun w => by rw [run_neq_struct, h3]; rfl, h3, h2⟩
end Go.Proofs.YtiljjhipiinafaaGreat.E

/- '==' of two things that are let out. -/
namespace Go.Proofs.YtiljjhipiinafaaGreat.O
open Go.RowKit
set_option linter.unusedVariables false
set_option linter.unusedSimpArgs false

theorem partF_int (xs : Array Value) (i : Nat) (n : Int) (w : World) (h : xs[i]? = some (.int .i64 n)) : (part 3 xs i).run Tryz.prog w = .ok (.int .i64 n) w := by
  simp [part, h, go_sem, run_underlying Tryz.underlying3]

theorem eqFields_step (xs ys : Array Value) (f : Field) (fs : List Field) (hn : f.name ≠ "_") (ht : f.type = 3) (a b : Int) (hx : xs[f.offset]? = some (.int .i64 a)) (hy : ys[f.offset]? = some (.int .i64 b)) (w : World) :
    (Op.eqFields 9999 xs ys (f :: fs)).run Tryz.prog w = if a = b then (Op.eqFields 9999 xs ys fs).run Tryz.prog w else .ok false w := by
  simp only [Op.eqFields, Sem.run_bind, ht, partF_int xs f.offset a w hx, partF_int ys f.offset b w hy, Result.andThen_ok, run_equalIn_int w 9998 3 .i64 .i64 a b Tryz.underlying3, if_pos hn, Sem.run_ite]
  by_cases h : a = b
  · simp [h, hn]
  · simp [h, hn]

theorem fields_ou : ∃ f0 f1 f2 f3 f4 : Field, (Tryz.prog.fieldsOf 60).toList = [f0, f1, f2, f3, f4] ∧ (f0.name ≠ "_" ∧ f0.type = 3 ∧ f0.offset = 0) ∧ (f1.name ≠ "_" ∧ f1.type = 3 ∧ f1.offset = 1) ∧ (f2.name ≠ "_" ∧ f2.type = 3 ∧ f2.offset = 2) ∧ (f3.name ≠ "_" ∧ f3.type = 3 ∧ f3.offset = 3) ∧ (f4.name ≠ "_" ∧ f4.type = 3 ∧ f4.offset = 4) := by
  unfold Program.fieldsOf
  rw [Tryz.underlying60]
  exact ⟨_, _, _, _, _, rfl, ⟨by decide, rfl, rfl⟩, ⟨by decide, rfl, rfl⟩, ⟨by decide, rfl, rfl⟩, ⟨by decide, rfl, rfl⟩, ⟨by decide, rfl, rfl⟩⟩

theorem struct_ou : Tryz.prog.underlying 60 = some (.struct (Tryz.prog.fieldsOf 60)) := by kernel_rfl
theorem stood_ou : Tryz.prog.stoodInHeld 60 = false := by kernel_rfl
theorem guard_ou : Tryz.prog.eqGuardType Tryz.prog.depth 60 = false := by kernel_rfl

/-- The spellings under which a walk may meet it. -/
structure EqSays (a b : OutV) (r : Bool) : Prop where
  iff : r = true ↔ a = b
  op : ∀ w, (binOp .eql 60 (.agg #[.int .i64 a.time, .int .i64 a.proc, .int .i64 a.count, .int .i64 a.n, .int .i64 a.value]) (.agg #[.int .i64 b.time, .int .i64 b.proc, .int .i64 b.count, .int .i64 b.n, .int .i64 b.value])).run Tryz.prog w = .ok (.bool r) w
  neq : ∀ w, (binOp .neq 60 (.agg #[.int .i64 a.time, .int .i64 a.proc, .int .i64 a.count, .int .i64 a.n, .int .i64 a.value]) (.agg #[.int .i64 b.time, .int .i64 b.proc, .int .i64 b.count, .int .i64 b.n, .int .i64 b.value])).run Tryz.prog w = .ok (.bool (!r)) w

theorem eq_ou (a b : OutV) : ∃ r, EqSays a b r := by
  have hf : ∃ r : Bool, (r = true ↔ a = b) ∧ ∀ w, (Op.eqFields 9999 #[.int .i64 a.time, .int .i64 a.proc, .int .i64 a.count, .int .i64 a.n, .int .i64 a.value] #[.int .i64 b.time, .int .i64 b.proc, .int .i64 b.count, .int .i64 b.n, .int .i64 b.value] (Tryz.prog.fieldsOf 60).toList).run Tryz.prog w = .ok r w := by
    obtain ⟨f0, f1, f2, f3, f4, hl, ⟨n0, t0, o0⟩, ⟨n1, t1, o1⟩, ⟨n2, t2, o2⟩, ⟨n3, t3, o3⟩, ⟨n4, t4, o4⟩⟩ := fields_ou
    rw [hl]
    obtain ⟨a0, a1, a2, a3, a4⟩ := a
    obtain ⟨b0, b1, b2, b3, b4⟩ := b
    have s0 : ∀ w, (Op.eqFields 9999 #[.int .i64 a0, .int .i64 a1, .int .i64 a2, .int .i64 a3, .int .i64 a4] #[.int .i64 b0, .int .i64 b1, .int .i64 b2, .int .i64 b3, .int .i64 b4] (f0 :: [f1, f2, f3, f4])).run Tryz.prog w = if a0 = b0 then (Op.eqFields 9999 #[.int .i64 a0, .int .i64 a1, .int .i64 a2, .int .i64 a3, .int .i64 a4] #[.int .i64 b0, .int .i64 b1, .int .i64 b2, .int .i64 b3, .int .i64 b4] [f1, f2, f3, f4]).run Tryz.prog w else .ok false w := fun w => eqFields_step _ _ f0 _ n0 t0 a0 b0 (by rw [o0]; rfl) (by rw [o0]; rfl) w
    have s1 : ∀ w, (Op.eqFields 9999 #[.int .i64 a0, .int .i64 a1, .int .i64 a2, .int .i64 a3, .int .i64 a4] #[.int .i64 b0, .int .i64 b1, .int .i64 b2, .int .i64 b3, .int .i64 b4] (f1 :: [f2, f3, f4])).run Tryz.prog w = if a1 = b1 then (Op.eqFields 9999 #[.int .i64 a0, .int .i64 a1, .int .i64 a2, .int .i64 a3, .int .i64 a4] #[.int .i64 b0, .int .i64 b1, .int .i64 b2, .int .i64 b3, .int .i64 b4] [f2, f3, f4]).run Tryz.prog w else .ok false w := fun w => eqFields_step _ _ f1 _ n1 t1 a1 b1 (by rw [o1]; rfl) (by rw [o1]; rfl) w
    have s2 : ∀ w, (Op.eqFields 9999 #[.int .i64 a0, .int .i64 a1, .int .i64 a2, .int .i64 a3, .int .i64 a4] #[.int .i64 b0, .int .i64 b1, .int .i64 b2, .int .i64 b3, .int .i64 b4] (f2 :: [f3, f4])).run Tryz.prog w = if a2 = b2 then (Op.eqFields 9999 #[.int .i64 a0, .int .i64 a1, .int .i64 a2, .int .i64 a3, .int .i64 a4] #[.int .i64 b0, .int .i64 b1, .int .i64 b2, .int .i64 b3, .int .i64 b4] [f3, f4]).run Tryz.prog w else .ok false w := fun w => eqFields_step _ _ f2 _ n2 t2 a2 b2 (by rw [o2]; rfl) (by rw [o2]; rfl) w
    have s3 : ∀ w, (Op.eqFields 9999 #[.int .i64 a0, .int .i64 a1, .int .i64 a2, .int .i64 a3, .int .i64 a4] #[.int .i64 b0, .int .i64 b1, .int .i64 b2, .int .i64 b3, .int .i64 b4] (f3 :: [f4])).run Tryz.prog w = if a3 = b3 then (Op.eqFields 9999 #[.int .i64 a0, .int .i64 a1, .int .i64 a2, .int .i64 a3, .int .i64 a4] #[.int .i64 b0, .int .i64 b1, .int .i64 b2, .int .i64 b3, .int .i64 b4] [f4]).run Tryz.prog w else .ok false w := fun w => eqFields_step _ _ f3 _ n3 t3 a3 b3 (by rw [o3]; rfl) (by rw [o3]; rfl) w
    have s4 : ∀ w, (Op.eqFields 9999 #[.int .i64 a0, .int .i64 a1, .int .i64 a2, .int .i64 a3, .int .i64 a4] #[.int .i64 b0, .int .i64 b1, .int .i64 b2, .int .i64 b3, .int .i64 b4] (f4 :: [])).run Tryz.prog w = if a4 = b4 then (Op.eqFields 9999 #[.int .i64 a0, .int .i64 a1, .int .i64 a2, .int .i64 a3, .int .i64 a4] #[.int .i64 b0, .int .i64 b1, .int .i64 b2, .int .i64 b3, .int .i64 b4] []).run Tryz.prog w else .ok false w := fun w => eqFields_step _ _ f4 _ n4 t4 a4 b4 (by rw [o4]; rfl) (by rw [o4]; rfl) w
    by_cases h0 : a0 = b0
    rotate_left
    · exact ⟨false, by simp [h0], fun w => by rw [s0, if_neg h0]⟩
    by_cases h1 : a1 = b1
    rotate_left
    · exact ⟨false, by simp [h1], fun w => by rw [s0, if_pos h0, s1, if_neg h1]⟩
    by_cases h2 : a2 = b2
    rotate_left
    · exact ⟨false, by simp [h2], fun w => by rw [s0, if_pos h0, s1, if_pos h1, s2, if_neg h2]⟩
    by_cases h3 : a3 = b3
    rotate_left
    · exact ⟨false, by simp [h3], fun w => by rw [s0, if_pos h0, s1, if_pos h1, s2, if_pos h2, s3, if_neg h3]⟩
    by_cases h4 : a4 = b4
    rotate_left
    · exact ⟨false, by simp [h4], fun w => by rw [s0, if_pos h0, s1, if_pos h1, s2, if_pos h2, s3, if_pos h3, s4, if_neg h4]⟩
    exact ⟨true, by simp [h0, h1, h2, h3, h4], fun w => by rw [s0, if_pos h0, s1, if_pos h1, s2, if_pos h2, s3, if_pos h3, s4, if_pos h4]; simp [Op.eqFields]⟩
  obtain ⟨r, h1, h2⟩ := hf
  have h3 : ∀ w, (Op.equalIn 10000 60 (.agg #[.int .i64 a.time, .int .i64 a.proc, .int .i64 a.count, .int .i64 a.n, .int .i64 a.value]) (.agg #[.int .i64 b.time, .int .i64 b.proc, .int .i64 b.count, .int .i64 b.n, .int .i64 b.value])).run Tryz.prog w = .ok r w := fun w => (run_equalIn_struct w 9999 60 _ _ struct_ou stood_ou).trans (h2 w)
  exact ⟨r, h1, fun w => by rw [run_eql_struct, h3]; rfl, fun w => by rw [run_neq_struct, h3]; rfl⟩
end Go.Proofs.YtiljjhipiinafaaGreat.O

/- '==' of two states. -/
namespace Go.Proofs.YtiljjhipiinafaaGreat.S
open Go.RowKit
set_option linter.unusedVariables false
set_option linter.unusedSimpArgs false

theorem partF_int (xs : Array Value) (i : Nat) (n : Int) (w : World) (h : xs[i]? = some (.int .i64 n)) : (part 3 xs i).run Tryz.prog w = .ok (.int .i64 n) w := by
  simp [part, h, go_sem, run_underlying Tryz.underlying3]

theorem eqFields_step (xs ys : Array Value) (f : Field) (fs : List Field) (hn : f.name ≠ "_") (ht : f.type = 3) (a b : Int) (hx : xs[f.offset]? = some (.int .i64 a)) (hy : ys[f.offset]? = some (.int .i64 b)) (w : World) :
    (Op.eqFields 9999 xs ys (f :: fs)).run Tryz.prog w = if a = b then (Op.eqFields 9999 xs ys fs).run Tryz.prog w else .ok false w := by
  simp only [Op.eqFields, Sem.run_bind, ht, partF_int xs f.offset a w hx, partF_int ys f.offset b w hy, Result.andThen_ok, run_equalIn_int w 9998 3 .i64 .i64 a b Tryz.underlying3, if_pos hn, Sem.run_ite]
  by_cases h : a = b
  · simp [h, hn]
  · simp [h, hn]

end Go.Proofs.YtiljjhipiinafaaGreat.S

/- laws.ltEvents, ltOuts, ltInts at two lists of the same. -/
namespace Go.Proofs.YtiljjhipiinafaaGreat.L
open Go.RowKit
set_option linter.unusedVariables false
set_option linter.unusedSimpArgs false

set_option maxRecDepth 100000 in
set_option maxHeartbeats 1000000 in
theorem ltEvents_any (v1 v2 : Value) (es : List EvV) (w : World) (h1 : RowsAt 7 w v1 (es.map evRow)) (h2 : RowsAt 7 w v2 (es.map evRow)) :
    Calls Tryz.prog 25 #[v1, v2] w fun e w' => e = .returned (.bool true) ∧ Below w.heap.size w w' := by
  obtain ⟨ad1, cap1, rfl, hl1, hm, hc1⟩ := h1
  obtain ⟨ad2, cap2, rfl, hl2, _, hc2⟩ := h2
  rw [List.length_map] at *
  unfold maxLen at hm
  have hne0 : ((es.length : Int) != (es.length : Int)) = false := by simp
  have H1 := hide hc1
  have H2 := hide hc2
  clear hc1 hc2
  go_enter Tryz.func25, Tryz.ntmps25
  go_wp2_with fail
  go_loopw [5] (fun i wr => ∃ k : Nat, k ≤ es.length ∧ i = .int .i64 k ∧ Below w.heap.size w wr) (fun i _ => es.length - (intOf i).toNat)
  case atStart => exact ⟨0, Nat.zero_le _, rfl, Below.refl _ _⟩
  case round =>
    obtain ⟨k, hk, rfl, hb⟩ := hrel
    by_cases hlt : k < es.length
    · obtain ⟨b1, off1, had1, hc1⟩ : ∃ b off, ad1 = some ⟨b, off, none⟩ ∧ ∀ j, j < 7 → wr.cell? ⟨b, off + k * 7 + j, none⟩ = some (.int .i64 ((evRow es[k]).getD j 0)) := by
        rcases unhide H1 with h | ⟨b, off, h1, h2⟩
        · rw [List.map_eq_nil_iff] at h; subst h; simp at hlt
        · refine ⟨b, off, h1, fun j hj => ?_⟩
          have := cell_on hb (h2 k (by rw [List.length_map]; exact hlt) j hj)
          rwa [List.getElem_map] at this
      obtain ⟨b2, off2, had2, hc2⟩ : ∃ b off, ad2 = some ⟨b, off, none⟩ ∧ ∀ j, j < 7 → wr.cell? ⟨b, off + k * 7 + j, none⟩ = some (.int .i64 ((evRow es[k]).getD j 0)) := by
        rcases unhide H2 with h | ⟨b, off, h1, h2⟩
        · rw [List.map_eq_nil_iff] at h; subst h; simp at hlt
        · refine ⟨b, off, h1, fun j hj => ?_⟩
          have := cell_on hb (h2 k (by rw [List.length_map]; exact hlt) j hj)
          rwa [List.getElem_map] at this
      have hkI : (k : Int) < (es.length : Int) := by omega
      have hk0 : (0 : Int) ≤ (k : Int) := by omega
      subst had1 had2
      generalize es[k] = x at *
      have p0 := hc1 0 (by omega)
      have r0 := hc2 0 (by omega)
      have p1 := hc1 1 (by omega)
      have r1 := hc2 1 (by omega)
      have p2 := hc1 2 (by omega)
      have r2 := hc2 2 (by omega)
      have p3 := hc1 3 (by omega)
      have r3 := hc2 3 (by omega)
      have p4 := hc1 4 (by omega)
      have r4 := hc2 4 (by omega)
      have p5 := hc1 5 (by omega)
      have r5 := hc2 5 (by omega)
      have p6 := hc1 6 (by omega)
      have r6 := hc2 6 (by omega)
      simp [evRow] at p0 r0 p1 r1 p2 r2 p3 r3 p4 r4 p5 r5 p6 r6
      clear hc1 hc2
      obtain ⟨r, hr⟩ := E.eq_event x x
      have hrt : r = true := hr.iff.2 rfl
      subst hrt
      have hg1 := E.guard_ev
      have he1 : ∀ w, (binOp .neq 56 (.agg #[.int .i64 x.time, .int .i64 x.to, .int .i64 x.src, .int .i64 x.count, .int .i64 x.n, .int .i64 x.kind, .int .i64 x.arg]) (.agg #[.int .i64 x.time, .int .i64 x.to, .int .i64 x.src, .int .i64 x.count, .int .i64 x.n, .int .i64 x.kind, .int .i64 x.arg])).run Tryz.prog w = .ok (.bool false) w := fun w => hr.neq w
      clear hr
      go_upto_region 6 with fail
      go_quiet (fail)
      go_wp2_with fail
      go_roundw
      case rel => exact ⟨k + 1, by omega, by simp, below_then hb (below_drewN (Below.refl _ _) _)⟩
      case measure => simp [intOf]; omega
    · go_wp2_with fail
      go_ret
      exact ⟨rfl, hb⟩

set_option maxRecDepth 100000 in
set_option maxHeartbeats 1000000 in
theorem ltOuts_any (v1 v2 : Value) (es : List OutV) (w : World) (h1 : RowsAt 5 w v1 (es.map outRow)) (h2 : RowsAt 5 w v2 (es.map outRow)) :
    Calls Tryz.prog 26 #[v1, v2] w fun e w' => e = .returned (.bool true) ∧ Below w.heap.size w w' := by
  obtain ⟨ad1, cap1, rfl, hl1, hm, hc1⟩ := h1
  obtain ⟨ad2, cap2, rfl, hl2, _, hc2⟩ := h2
  rw [List.length_map] at *
  unfold maxLen at hm
  have hne0 : ((es.length : Int) != (es.length : Int)) = false := by simp
  have H1 := hide hc1
  have H2 := hide hc2
  clear hc1 hc2
  go_enter Tryz.func26, Tryz.ntmps26
  go_wp2_with fail
  go_loopw [5] (fun i wr => ∃ k : Nat, k ≤ es.length ∧ i = .int .i64 k ∧ Below w.heap.size w wr) (fun i _ => es.length - (intOf i).toNat)
  case atStart => exact ⟨0, Nat.zero_le _, rfl, Below.refl _ _⟩
  case round =>
    obtain ⟨k, hk, rfl, hb⟩ := hrel
    by_cases hlt : k < es.length
    · obtain ⟨b1, off1, had1, hc1⟩ : ∃ b off, ad1 = some ⟨b, off, none⟩ ∧ ∀ j, j < 5 → wr.cell? ⟨b, off + k * 5 + j, none⟩ = some (.int .i64 ((outRow es[k]).getD j 0)) := by
        rcases unhide H1 with h | ⟨b, off, h1, h2⟩
        · rw [List.map_eq_nil_iff] at h; subst h; simp at hlt
        · refine ⟨b, off, h1, fun j hj => ?_⟩
          have := cell_on hb (h2 k (by rw [List.length_map]; exact hlt) j hj)
          rwa [List.getElem_map] at this
      obtain ⟨b2, off2, had2, hc2⟩ : ∃ b off, ad2 = some ⟨b, off, none⟩ ∧ ∀ j, j < 5 → wr.cell? ⟨b, off + k * 5 + j, none⟩ = some (.int .i64 ((outRow es[k]).getD j 0)) := by
        rcases unhide H2 with h | ⟨b, off, h1, h2⟩
        · rw [List.map_eq_nil_iff] at h; subst h; simp at hlt
        · refine ⟨b, off, h1, fun j hj => ?_⟩
          have := cell_on hb (h2 k (by rw [List.length_map]; exact hlt) j hj)
          rwa [List.getElem_map] at this
      have hkI : (k : Int) < (es.length : Int) := by omega
      have hk0 : (0 : Int) ≤ (k : Int) := by omega
      subst had1 had2
      generalize es[k] = x at *
      have p0 := hc1 0 (by omega)
      have r0 := hc2 0 (by omega)
      have p1 := hc1 1 (by omega)
      have r1 := hc2 1 (by omega)
      have p2 := hc1 2 (by omega)
      have r2 := hc2 2 (by omega)
      have p3 := hc1 3 (by omega)
      have r3 := hc2 3 (by omega)
      have p4 := hc1 4 (by omega)
      have r4 := hc2 4 (by omega)
      simp [outRow] at p0 r0 p1 r1 p2 r2 p3 r3 p4 r4
      clear hc1 hc2
      obtain ⟨r, hr⟩ := O.eq_ou x x
      have hrt : r = true := hr.iff.2 rfl
      subst hrt
      have hg1 := O.guard_ou
      have he1 : ∀ w, (binOp .neq 60 (.agg #[.int .i64 x.time, .int .i64 x.proc, .int .i64 x.count, .int .i64 x.n, .int .i64 x.value]) (.agg #[.int .i64 x.time, .int .i64 x.proc, .int .i64 x.count, .int .i64 x.n, .int .i64 x.value])).run Tryz.prog w = .ok (.bool false) w := fun w => hr.neq w
      clear hr
      go_upto_region 6 with fail
      go_quiet (fail)
      go_wp2_with fail
      go_roundw
      case rel => exact ⟨k + 1, by omega, by simp, below_then hb (below_drewN (Below.refl _ _) _)⟩
      case measure => simp [intOf]; omega
    · go_wp2_with fail
      go_ret
      exact ⟨rfl, hb⟩

set_option maxRecDepth 100000 in
set_option maxHeartbeats 1000000 in
theorem ltInts_any (v1 v2 : Value) (zs : List Int) (w : World) (h1 : RowsAt 1 w v1 (zs.map fun z => [z])) (h2 : RowsAt 1 w v2 (zs.map fun z => [z])) :
    Calls Tryz.prog 24 #[v1, v2] w fun e w' => e = .returned (.bool true) ∧ Below w.heap.size w w' := by
  obtain ⟨ad1, cap1, rfl, hl1, hm, hc1⟩ := h1
  obtain ⟨ad2, cap2, rfl, hl2, _, hc2⟩ := h2
  rw [List.length_map] at *
  unfold maxLen at hm
  have hne0 : ((zs.length : Int) != (zs.length : Int)) = false := by simp
  have hqm : ∀ z : Int, (z != z) = false := by intro z; simp
  have H1 := hide hc1
  have H2 := hide hc2
  clear hc1 hc2
  go_enter Tryz.func24, Tryz.ntmps24
  go_wp2_with fail
  go_loopw [5] (fun i wr => ∃ k : Nat, k ≤ zs.length ∧ i = .int .i64 k ∧ Below w.heap.size w wr) (fun i _ => zs.length - (intOf i).toNat)
  case atStart => exact ⟨0, Nat.zero_le _, rfl, Below.refl _ _⟩
  case round =>
    obtain ⟨k, hk, rfl, hb⟩ := hrel
    by_cases hlt : k < zs.length
    · obtain ⟨b1, off1, had1, p0⟩ : ∃ b off, ad1 = some ⟨b, off, none⟩ ∧ wr.cell? ⟨b, off + k, none⟩ = some (.int .i64 zs[k]) := by
        rcases unhide H1 with h | ⟨b, off, h1, h2⟩
        · rw [List.map_eq_nil_iff] at h; subst h; simp at hlt
        · refine ⟨b, off, h1, ?_⟩
          have := cell_on hb (h2 k (by rw [List.length_map]; exact hlt) 0 (by omega))
          simpa using this
      obtain ⟨b2, off2, had2, q0⟩ : ∃ b off, ad2 = some ⟨b, off, none⟩ ∧ wr.cell? ⟨b, off + k, none⟩ = some (.int .i64 zs[k]) := by
        rcases unhide H2 with h | ⟨b, off, h1, h2⟩
        · rw [List.map_eq_nil_iff] at h; subst h; simp at hlt
        · refine ⟨b, off, h1, ?_⟩
          have := cell_on hb (h2 k (by rw [List.length_map]; exact hlt) 0 (by omega))
          simpa using this
      have hkI : (k : Int) < (zs.length : Int) := by omega
      have hk0 : (0 : Int) ≤ (k : Int) := by omega
      subst had1 had2
      generalize zs[k] = x at *
      go_upto_region 6 with fail
      go_quiet (fail)
      go_wp2_with fail
      go_roundw
      case rel => exact ⟨k + 1, by omega, by go_num, below_then hb (below_drewN (Below.refl _ _) _)⟩
      case measure => (simp [intOf]; try omega)
    · have hkI : ¬ (k : Int) < (zs.length : Int) := by omega
      go_wp2_with fail
      go_ret
      exact ⟨rfl, hb⟩
end Go.Proofs.YtiljjhipiinafaaGreat.L
