/- impl's workOut: what it defers. -/
import Derived.Test.YtjbgiepaehefpaaDoorIm7
namespace Go.Proofs.YtjbgiepaehefpaaDoor
open Go.RowKit
set_option linter.unusedVariables false
set_option linter.unusedSimpArgs false

/-- Work with nothing in it. -/
structure Zeros (w : World) (q : Nat) : Prop where
  c0 : w.cell? ⟨q, 0, none⟩ = some (.int .i64 0)
  c1 : w.cell? ⟨q, 1, none⟩ = some (.int .i64 0)
  c2 : w.cell? ⟨q, 2, none⟩ = some (.int .i64 0)
  c3 : w.cell? ⟨q, 3, none⟩ = some (.int .i64 0)
  c4 : w.cell? ⟨q, 4, none⟩ = some (.int .i64 0)
  c5 : w.cell? ⟨q, 5, none⟩ = some (.int .i64 0)
  c6 : w.cell? ⟨q, 6, none⟩ = some (.int .i64 0)
  c7 : w.cell? ⟨q, 7, none⟩ = some (.int .i64 0)
  c8 : w.cell? ⟨q, 8, none⟩ = some (.int .i64 0)
  c9 : w.cell? ⟨q, 9, none⟩ = some (.int .i64 0)
  c10 : w.cell? ⟨q, 10, none⟩ = some (.int .i64 0)
  c11 : w.cell? ⟨q, 11, none⟩ = some (.slice none 0 0)
  c12 : w.cell? ⟨q, 12, none⟩ = some (.slice none 0 0)
  fz : ∀ i, w.frozen? ⟨q, i, none⟩ = false

theorem Zeros.on {w w' : World} {q : Nat} (hb : Below w.heap.size w w') (h : Zeros w q) : Zeros w' q :=
  ⟨cell_on hb h.c0, cell_on hb h.c1, cell_on hb h.c2, cell_on hb h.c3, cell_on hb h.c4, cell_on hb h.c5, cell_on hb h.c6, cell_on hb h.c7, cell_on hb h.c8, cell_on hb h.c9, cell_on hb h.c10, cell_on hb h.c11, cell_on hb h.c12,
   fun i => by rw [hb.frozen (p := ⟨q, i, none⟩) (show q < w.heap.size from World.block_lt_of_cell? w ⟨q, 7, none⟩ h.c7)]; exact h.fz i⟩

def zeroed (w : World) (q : Nat) : World :=
  ((((((((((((w.setCell ⟨q, 0, none⟩ (.int .i64 0)).setCell ⟨q, 1, none⟩ (.int .i64 0)).setCell ⟨q, 2, none⟩ (.int .i64 0)).setCell ⟨q, 3, none⟩ (.int .i64 0)).setCell ⟨q, 4, none⟩ (.int .i64 0)).setCell ⟨q, 5, none⟩ (.int .i64 0)).setCell ⟨q, 6, none⟩ (.int .i64 0)).setCell ⟨q, 7, none⟩ (.int .i64 0)).setCell ⟨q, 8, none⟩ (.int .i64 0)).setCell ⟨q, 9, none⟩ (.int .i64 0)).setCell ⟨q, 10, none⟩ (.int .i64 0)).setCell ⟨q, 11, none⟩ (.slice none 0 0)).setCell ⟨q, 12, none⟩ (.slice none 0 0)

theorem zeroed_at {w : World} {q : Nat} (h : Zeros w q) : Zeros (zeroed w q) q := by
  obtain ⟨c0, c1, c2, c3, c4, c5, c6, c7, c8, c9, c10, c11, c12, fz⟩ := h
  unfold zeroed
  refine ⟨?_, ?_, ?_, ?_, ?_, ?_, ?_, ?_, ?_, ?_, ?_, ?_, ?_, fun i => ?_⟩ <;> simp [go_sem, c0, c1, c2, c3, c4, c5, c6, c7, c8, c9, c10, c11, c12, fz]

theorem zeroed_below {w0 w : World} {q B : Nat} (h : Below B w0 w) (hq : B ≤ q) : Below B w0 (zeroed w q) :=
  ((((((((((((h.setCell hq _).setCell hq _).setCell hq _).setCell hq _).setCell hq _).setCell hq _).setCell hq _).setCell hq _).setCell hq _).setCell hq _).setCell hq _).setCell hq _).setCell hq _

set_option maxRecDepth 100000 in
set_option maxHeartbeats 1600000 in
theorem catchWork_panicking (q : Nat) (u : TypeId) (pv : Value) (older : List PanicEntry) (w : World) (hz : Zeros w q) :
    CallsD Tryd.prog 81 #[.pointer (some ⟨q, 0, none⟩)] (.panicking ({ v := .iface u pv, recovered := false } :: older)) w fun e u' w' =>
      e = .returned (.tuple #[]) ∧ u' = .panicking ({ v := .iface u pv, recovered := true } :: older) ∧ w' = zeroed w q := by
  obtain ⟨c0, c1, c2, c3, c4, c5, c6, c7, c8, c9, c10, c11, c12, fz⟩ := hz
  refine callsD_of_wpS Tryd.func81 rfl fun c₀ cs hu => ?_
  apply wpS_seq
  apply wpS_region
  simp [wpOpsS, go_sem, recoverD, hu, Tryd.ntmps81, Exit.thenS]
  refine wpS_cond (t := true) (by simp [Act.eval, Array.replicate]) ?_
  simp only [if_true]
  apply wpS_region
  simp [wpOpsS, go_sem, c0, c1, c2, c3, c4, c5, c6, c7, c8, c9, c10, c11, c12, fz, bodyPostS, results, Tryd.results81, zeroed]

theorem catchWork_idle (p : Addr) (w : World) :
    CallsD Tryd.prog 81 #[.pointer (some p)] .returning w fun e u' w' => e = .returned (.tuple #[]) ∧ u' = .returning ∧ w' = w := by
  refine callsD_of_wpS Tryd.func81 rfl fun c₀ cs hu => ?_
  apply wpS_seq
  apply wpS_region
  simp [wpOpsS, go_sem, recoverD, hu, Tryd.ntmps81, Exit.thenS]
  refine wpS_cond (t := false) (by simp [Act.eval, Array.replicate]) ?_
  simp only [Bool.false_eq_true, if_false]
  refine wpS_of_wp (wp_skip ?_)
  cases c₀
  simp_all [bodyPostS, results, Tryd.results81]
end Go.Proofs.YtjbgiepaehefpaaDoor
