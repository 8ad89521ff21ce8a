/- toPast, toPastS, toLane: each list in a block of its own. -/
import Derived.Test.YtimkamgghkjhhaaOwn1
namespace Go.Proofs.Ytimkamgghkjhhaa
open Go.RowKit
set_option linter.unusedVariables false
set_option linter.unusedSimpArgs false

theorem PastsAt.sliced2 {w : World} {v : Value} {ps : List PastV} (h : PastsAt w v ps) : ∃ a c, v = .slice a ps.length c := by
  obtain ⟨a, c, e, _⟩ := h
  exact ⟨a, c, e⟩
theorem PastsOwn.setV {N M r o : Nat} {w : World} {v : Value} {ps : List PastV} (h : PastsOwn N M w v ps) (hr : r < N) (xs : List Value) : PastsOwn N M (setVals w r o xs) v ps :=
  h.keep (fun b hb _ => setVals_other xs o w b (by omega))

theorem pastsIn2_more {g M k : Nat} {w3 : World} {f : Nat → Value} {us : List (Value × Value)} {ps : List PastV} {a b : Value} {p : PastV} (hul : us.length = k) (hk : k < ps.length) (hp : p = ps[k]) (h : PastsIn2 (g + 1) M w3 f us ps) (hM : M ≤ w3.heap.size) (hn : PastFr (g + 1) w3 a b p) :
    PastsIn2 (g + 1) (setVals w3 g (k * 12) (pastCells p a b)).heap.size (setVals w3 g (k * 12) (pastCells p a b)) (fun j => if k * 12 ≤ j ∧ j < k * 12 + (pastCells p a b).length then (pastCells p a b).getD (j - k * 12) undef else f j) (us ++ [(a, b)]) ps := by
  intro i hi hi'
  rw [setVals_size]
  have hset : ∀ x, g + 1 ≤ x → x < w3.heap.size → (setVals w3 g (k * 12) (pastCells p a b)).heap[x]? = w3.heap[x]? := fun x hx _ => setVals_other _ _ _ _ (by omega)
  by_cases e : i < us.length
  · obtain ⟨h1, h2⟩ := h i e hi'
    rw [List.getElem_append_left e]
    refine ⟨fun j hj => ?_, (h2.wide (Nat.le_refl _) hM).keep hset⟩
    have := mul_place (show i < k by omega) hj
    show (if k * 12 ≤ i * 12 + j ∧ i * 12 + j < k * 12 + 12 then _ else f (i * 12 + j)) = _
    rw [if_neg (by omega)]
    exact h1 j hj
  · obtain rfl : i = k := by simp at hi; omega
    have e3 : (us ++ [(a, b)])[i] = (a, b) := by
      rw [List.getElem_append_right (by omega)]
      simp [hul]
    rw [e3, ← hp]
    refine ⟨fun j hj => ?_, PastO.keep hset ⟨hn, fun g hg => (hn.s.blk g hg).2, fun g hg => (hn.o.blk g hg).2⟩⟩
    have hj2 : j < (pastCells p a b).length := hj
    show (if i * 12 ≤ i * 12 + j ∧ i * 12 + j < i * 12 + 12 then (pastCells p a b).getD (i * 12 + j - i * 12) undef else f (i * 12 + j)) = _
    rw [if_pos (by omega), Nat.add_sub_cancel_left, List.getD_eq_getElem?_getD, List.getElem?_eq_getElem hj2, Option.getD_some]

end Go.Proofs.Ytimkamgghkjhhaa
