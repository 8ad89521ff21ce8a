/- Events, what is let out and what is known, as plain data, and how lists of them lie in memory. No Go text is walked here. -/
import Derived.Test.YtamkoimadenmeaaBase
import Derived.Test.YtamkoimadenmeaaHeap
namespace Go.Proofs.Ytamkoimadenmeaa
open Go.RowKit
set_option linter.unusedVariables false

structure StV where
  x : Int
  y : Int
  c : Int

structure EvV where
  time : Int
  to : Int
  src : Int
  count : Int
  n : Int
  kind : Int
  arg : Int

structure OutV where
  time : Int
  proc : Int
  count : Int
  n : Int
  value : Int

abbrev evCells (e : EvV) : List Value := [.int .i64 e.time, .int .i64 e.to, .int .i64 e.src, .int .i64 e.count, .int .i64 e.n, .int .i64 e.kind, .int .i64 e.arg]
abbrev outCells (o : OutV) : List Value := [.int .i64 o.time, .int .i64 o.proc, .int .i64 o.count, .int .i64 o.n, .int .i64 o.value]
abbrev stCells (s : StV) : List Value := [.int .i64 s.x, .int .i64 s.y, .int .i64 s.c]
def evsCells (l : List EvV) : List Value := l.flatMap evCells
def outsCells (l : List OutV) : List Value := l.flatMap outCells
def stsCells (l : List StV) : List Value := l.flatMap stCells

abbrev stAgg (s : StV) : Value := .agg #[.int .i64 s.x, .int .i64 s.y, .int .i64 s.c]
abbrev evAgg (e : EvV) : Value := .agg #[.int .i64 e.time, .int .i64 e.to, .int .i64 e.src, .int .i64 e.count, .int .i64 e.n, .int .i64 e.kind, .int .i64 e.arg]
abbrev outAgg (o : OutV) : Value := .agg #[.int .i64 o.time, .int .i64 o.proc, .int .i64 o.count, .int .i64 o.n, .int .i64 o.value]

def evRow (e : EvV) : List Int := [e.time, e.to, e.src, e.count, e.n, e.kind, e.arg]
def outRow (o : OutV) : List Int := [o.time, o.proc, o.count, o.n, o.value]

/-- EventLess, plainly. -/
def evLess (a b : EvV) : Bool := lexL (evRow a) (evRow b)
/-- OutLess, plainly. -/
def outLess (a b : OutV) : Bool := lexL (outRow a) (outRow b)

theorem evLess_strict : Strict evLess := strict_by evRow 7 (fun _ => rfl) (fun a b h => by
  obtain ⟨a0, a1, a2, a3, a4, a5, a6⟩ := a
  obtain ⟨b0, b1, b2, b3, b4, b5, b6⟩ := b
  simp only [evRow, List.cons.injEq, and_true] at h
  simp only [EvV.mk.injEq]
  exact h)

theorem outLess_strict : Strict outLess := strict_by outRow 5 (fun _ => rfl) (fun a b h => by
  obtain ⟨a0, a1, a2, a3, a4⟩ := a
  obtain ⟨b0, b1, b2, b3, b4⟩ := b
  simp only [outRow, List.cons.injEq, and_true] at h
  simp only [OutV.mk.injEq]
  exact h)

/-- slices.Compare at two rows of numbers of one length, plainly. -/
def cmpL : List Int → List Int → Int
  | a :: s, b :: t => if a < b then -1 else if b < a then 1 else cmpL s t
  | _, _ => 0

theorem cmpL_bd : ∀ s t, -1 ≤ cmpL s t ∧ cmpL s t ≤ 1
  | [], _ => by simp [cmpL]
  | _ :: _, [] => by simp [cmpL]
  | a :: s, b :: t => by
    have := cmpL_bd s t
    simp only [cmpL]
    split
    · omega
    · split <;> omega

theorem cmpL_less : ∀ s t, (cmpL s t < 0) = (lexL s t = true)
  | [], _ => by simp [cmpL, lexL]
  | _ :: _, [] => by simp [cmpL, lexL]
  | a :: s, b :: t => by
    simp only [cmpL, lexL]
    by_cases h1 : a < b
    · rw [if_pos h1, if_neg (by omega)]
      simp [h1]
    · rw [if_neg h1]
      by_cases h2 : b < a
      · rw [if_pos h2, if_neg (by omega)]
        simp; omega
      · rw [if_neg h2, if_pos (by omega)]
        exact cmpL_less s t

theorem cmpL_decide (s t : List Int) : decide (cmpL s t < 0) = lexL s t := by
  have h := cmpL_less s t
  cases hl : lexL s t
  · rw [hl] at h
    exact decide_eq_false (by rw [h]; simp)
  · rw [hl] at h
    exact decide_eq_true (by rw [h])

/-- Numbers in a row of memory. -/
def IntsAt (w : World) (b off : Nat) (s : List Int) : Prop := ∀ i (h : i < s.length), w.cell? ⟨b, off + i, none⟩ = some (.int .i64 s[i])

theorem IntsAt.on {w w' : World} {b off : Nat} {s : List Int} (hb : Below w.heap.size w w') (h : IntsAt w b off s) : IntsAt w' b off s :=
  fun i hi => cell_on hb (h i hi)

end Go.Proofs.Ytamkoimadenmeaa
