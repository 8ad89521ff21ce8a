/- The cells of a new block. -/
import Derived.Test.YtiljjhipiinafaaGreatPast2
import Derived.OneCell
namespace Go.Proofs.YtiljjhipiinafaaGreat
open Go.RowKit

theorem cellsAt_new (w : World) (cs : List Value) (t : TypeId) : CellsAt (w.alloc (.cells cs.toArray t)) w.heap.size 0 cs := fun j hj => by
  have h := World.rowIs_alloc w cs.toArray t (fun i => cs.getD i undef) (fun i hi => by
    have hi' : i < cs.length := by simpa using hi
    simp [hi'])
  have h2 := h.cell (i := j) (by simp [hj])
  rw [Nat.zero_add, h2]
  simp [hj]

theorem row_new (w : World) (cs : List Value) (t : TypeId) : (w.alloc (.cells cs.toArray t)).rowIs w.heap.size t cs.length (fun i => cs.getD i undef) := by
  have h := World.rowIs_alloc w cs.toArray t (fun i => cs.getD i undef) (fun i hi => by
    have hi' : i < cs.length := by simpa using hi
    simp [hi'])
  rwa [List.size_toArray] at h

theorem PastsAt.sliced {w : World} {v : Value} {ps : List PastV} (h : PastsAt w v ps) : ∃ a c, v = .slice a ps.length c := by
  obtain ⟨a, c, e, _⟩ := h
  exact ⟨a, c, e⟩
end Go.Proofs.YtiljjhipiinafaaGreat
