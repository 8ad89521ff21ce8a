/- toPastS, toLane: copies of lists of what was done, of lanes. -/
import Derived.Test.YtiljjhipiinafaaGreatPast3
namespace Go.Proofs.YtiljjhipiinafaaGreat
open Go.RowKit
set_option linter.unusedVariables false
set_option linter.unusedSimpArgs false

/-- The first k of a list of such lie in the row. -/
def PastsIn (N : Nat) (w : World) (f : Nat → Value) (ps : List PastV) (k : Nat) : Prop :=
  ∀ i (h : i < ps.length), i < k → ∃ vs vo, (∀ j (hj : j < 12), f (i * 12 + j) = (pastCells ps[i] vs vo)[j]) ∧ PastFr N w vs vo ps[i]

theorem PastsIn.on {N : Nat} {w w' : World} {f : Nat → Value} {ps : List PastV} {k : Nat} (hb : Below w.heap.size w w') (h : PastsIn N w f ps k) : PastsIn N w' f ps k := fun i hi hk => by
  obtain ⟨vs, vo, h1, h2⟩ := h i hi hk
  exact ⟨vs, vo, h1, h2.on hb⟩

theorem pastsIn_more {g k : Nat} {w : World} {f : Nat → Value} {ps : List PastV} {us uo : Value} (hk : k < ps.length) (h : PastsIn (g + 1) w f ps k) (hn : PastFr (g + 1) w us uo ps[k]) :
    PastsIn (g + 1) (setVals w g (k * 12) (pastCells ps[k] us uo)) (fun j => if k * 12 ≤ j ∧ j < k * 12 + 12 then (pastCells ps[k] us uo).getD (j - k * 12) undef else f j) ps (k + 1) := by
  intro i hi hik
  rcases (show i = k ∨ i < k by omega) with rfl | hlt
  · refine ⟨us, uo, fun j hj => ?_, ⟨hn.s.setV (by omega) _, hn.o.setV (by omega) _⟩⟩
    show (if i * 12 ≤ i * 12 + j ∧ i * 12 + j < i * 12 + 12 then (pastCells ps[i] us uo).getD (i * 12 + j - i * 12) undef else f (i * 12 + j)) = _
    rw [if_pos (by omega), Nat.add_sub_cancel_left]
    simp only [List.getD_eq_getElem?_getD, List.getElem?_eq_getElem (show j < (pastCells ps[i] us uo).length from hj), Option.getD_some]
  · obtain ⟨vs, vo, h1, h2⟩ := h i hi hlt
    refine ⟨vs, vo, fun j hj => ?_, ⟨h2.s.setV (by omega) _, h2.o.setV (by omega) _⟩⟩
    have := mul_place hlt hj
    show (if k * 12 ≤ i * 12 + j ∧ i * 12 + j < k * 12 + 12 then (pastCells ps[k] us uo).getD (i * 12 + j - k * 12) undef else f (i * 12 + j)) = _
    rw [if_neg (by omega)]
    exact h1 j hj

end Go.Proofs.YtiljjhipiinafaaGreat
