/- toPastS, toLane: copies of lists of what was done, of lanes. -/
import Derived.Test.YtimkamgghkjhhaaPast3
namespace Go.Proofs.Ytimkamgghkjhhaa
open Go.RowKit
set_option linter.unusedVariables false
set_option linter.unusedSimpArgs false

/-- The first k of a list of such lie in the row. -/
def PastsIn (N : Nat) (w : World) (f : Nat → Value) (ps : List PastV) (k : Nat) : Prop :=
  ∀ i (h : i < ps.length), i < k → ∃ vs vo, (∀ j (hj : j < 12), f (i * 12 + j) = (pastCells ps[i] vs vo)[j]) ∧ PastFr N w vs vo ps[i]

/-- A list of such in a block of its own, from block N on; the lists of each behind that block. -/
def PastsFr (N : Nat) (w : World) (v : Value) (ps : List PastV) : Prop :=
  ∃ g f, N ≤ g ∧ v = .slice (some ⟨g, 0, none⟩) ps.length ps.length ∧ ps.length ≤ maxLen ∧ w.rowIs g 142 (ps.length * 12) f ∧ PastsIn (g + 1) w f ps ps.length

theorem PastsFr.at {N : Nat} {w : World} {v : Value} {ps : List PastV} (h : PastsFr N w v ps) : PastsAt w v ps := by
  obtain ⟨g, f, _, rfl, hm, hr, hp⟩ := h
  refine ⟨_, _, rfl, Nat.le_refl _, hm, Or.inr ⟨g, 0, rfl, fun i hi => ?_⟩⟩
  obtain ⟨vs, vo, h1, h2⟩ := hp i hi hi
  refine ⟨vs, vo, fun j hj => ?_, h2.at⟩
  have hj' : j < 12 := hj
  rw [Nat.zero_add, hr.cell (mul_place hi hj'), h1 j hj']

theorem PastsIn.on {N : Nat} {w w' : World} {f : Nat → Value} {ps : List PastV} {k : Nat} (hb : Below w.heap.size w w') (h : PastsIn N w f ps k) : PastsIn N w' f ps k := fun i hi hk => by
  obtain ⟨vs, vo, h1, h2⟩ := h i hi hk
  exact ⟨vs, vo, h1, h2.on hb⟩

theorem PastsFr.on {N : Nat} {w w' : World} {v : Value} {ps : List PastV} (hb : Below w.heap.size w w') (h : PastsFr N w v ps) : PastsFr N w' v ps := by
  obtain ⟨g, f, h0, h1, hm, hr, hp⟩ := h
  exact ⟨g, f, h0, h1, hm, hr.of_block (hb.block g hr.lt), hp.on hb⟩

theorem PastsFr.less {N M : Nat} {w : World} {v : Value} {ps : List PastV} (hNM : M ≤ N) (h : PastsFr N w v ps) : PastsFr M w v ps := by
  obtain ⟨g, f, h0, h1⟩ := h
  exact ⟨g, f, Nat.le_trans hNM h0, h1⟩
theorem PastsFr.setV {N r o : Nat} {w : World} {v : Value} {ps : List PastV} (h : PastsFr N w v ps) (hr : r < N) (xs : List Value) : PastsFr N (setVals w r o xs) v ps := by
  obtain ⟨g, f, h0, h1, hm, hrow, hp⟩ := h
  refine ⟨g, f, h0, h1, hm, hrow.of_block (setVals_other xs o w g (by omega)), fun i hi hk => ?_⟩
  obtain ⟨vs, vo, h2, h3⟩ := hp i hi hk
  exact ⟨vs, vo, h2, ⟨h3.s.setV (by omega) _, h3.o.setV (by omega) _⟩⟩

theorem info_PastT : (Try.prog.info? 142).map (fun i => (i.zero, i.size, i.bytes)) = some (some (.agg #[.int .i64 0, .int .i64 0, .int .i64 0, .int .i64 0, .int .i64 0, .int .i64 0, .int .i64 0, .int .i64 0, .int .i64 0, .int .i64 0, .slice none 0 0, .slice none 0 0]), 12, 128) := by kernel_rfl

theorem pastsIn_more {g k : Nat} {w : World} {f : Nat → Value} {ps : List PastV} {us uo : Value} (hk : k < ps.length) (h : PastsIn (g + 1) w f ps k) (hn : PastFr (g + 1) w us uo ps[k]) :
    PastsIn (g + 1) (setVals w g (k * 12) (pastCells ps[k] us uo)) (fun j => if k * 12 ≤ j ∧ j < k * 12 + 12 then (pastCells ps[k] us uo).getD (j - k * 12) undef else f j) ps (k + 1) := by
  intro i hi hik
  rcases (show i = k ∨ i < k by omega) with rfl | hlt
  · refine ⟨us, uo, fun j hj => ?_, ⟨hn.s.setV (by omega) _, hn.o.setV (by omega) _⟩⟩
    show (if i * 12 ≤ i * 12 + j ∧ i * 12 + j < i * 12 + 12 then (pastCells ps[i] us uo).getD (i * 12 + j - i * 12) undef else f (i * 12 + j)) = _
    rw [if_pos (by omega), Nat.add_sub_cancel_left]
    simp only [List.getD_eq_getElem?_getD, List.getElem?_eq_getElem (show j < (pastCells ps[i] us uo).length from hj), Option.getD_some]
  · obtain ⟨vs, vo, h1, h2⟩ := h i hi hlt
    refine ⟨vs, vo, fun j hj => ?_, ⟨h2.s.setV (by omega) _, h2.o.setV (by omega) _⟩⟩
    have := mul_place hlt hj
    show (if k * 12 ≤ i * 12 + j ∧ i * 12 + j < k * 12 + 12 then (pastCells ps[k] us uo).getD (i * 12 + j - k * 12) undef else f (i * 12 + j)) = _
    rw [if_neg (by omega)]
    exact h1 j hj

end Go.Proofs.Ytimkamgghkjhhaa
