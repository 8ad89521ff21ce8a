/- toPast, toPastS, toLane: copies of what was done. -/
import Derived.Test.YtiljjhipiinafaaGreatPast2
import Derived.OneCell
namespace Go.Proofs.YtiljjhipiinafaaGreat
open Go.RowKit
set_option linter.unusedVariables false
set_option linter.unusedSimpArgs false

def setVals (w : World) (b : Nat) : Nat → List Value → World
  | _, [] => w
  | o, x :: xs => setVals (w.setCell ⟨b, o, none⟩ x) b (o + 1) xs

theorem setVals_row {b t m : Nat} : ∀ (xs : List Value) (o : Nat) (w : World) (f : Nat → Value), w.rowIs b t m f → (setVals w b o xs).rowIs b t m (fun j => if o ≤ j ∧ j < o + xs.length then xs.getD (j - o) undef else f j)
  | [], o, w, f, h => h.congr (fun i _ => by
      show f i = if o ≤ i ∧ i < o + 0 then _ else f i
      rw [if_neg (by omega)])
  | x :: xs, o, w, f, h => (setVals_row xs (o + 1) _ _ (h.set o x)).congr (fun i _ => by
      show (if o + 1 ≤ i ∧ i < o + 1 + xs.length then xs.getD (i - (o + 1)) undef else if i = o then x else f i) = if o ≤ i ∧ i < o + (xs.length + 1) then (x :: xs).getD (i - o) undef else f i
      by_cases h1 : i = o
      · subst h1
        rw [if_neg (by omega), if_pos rfl, if_pos (by omega)]
        simp
      · rw [if_neg h1]
        by_cases h2 : o + 1 ≤ i ∧ i < o + 1 + xs.length
        · rw [if_pos h2, if_pos (by omega), show i - o = (i - (o + 1)) + 1 by omega]
          simp
        · rw [if_neg h2, if_neg (by omega)])

theorem setVals_below {b B : Nat} {a : World} : ∀ (xs : List Value) (o : Nat) (w : World), Below B a w → B ≤ b → Below B a (setVals w b o xs)
  | [], _, _, h, _ => h
  | x :: xs, o, w, h, hB => setVals_below xs (o + 1) _ (h.setCell hB _) hB
theorem setVals_other {b : Nat} : ∀ (xs : List Value) (o : Nat) (w : World) (k : Nat), k ≠ b → (setVals w b o xs).heap[k]? = w.heap[k]?
  | [], _, _, _, _ => rfl
  | x :: xs, o, w, k, h => (setVals_other xs (o + 1) _ k h).trans (Below.heap_setCell w ⟨b, o, none⟩ _ k h)

/-- A row of cells, its first ones as listed. -/
theorem rowIs_cells {w : World} {b t n : Nat} {f : Nat → Value} (h : w.rowIs b t n f) (cs : List Value) (hn : cs.length ≤ n) (hf : ∀ j (hj : j < cs.length), f j = cs[j]) : CellsAt w b 0 cs := fun j hj => by
  rw [Nat.zero_add, h.cell (by omega), hf j hj]

theorem PastFr.set {N r o : Nat} {w : World} {vs vo u : Value} {p : PastV} (h : PastFr N w vs vo p) (hr : r < N) : PastFr N (w.setCell ⟨r, o, none⟩ u) vs vo p :=
  ⟨h.s.block (fun g hg _ => Below.heap_setCell w ⟨r, o, none⟩ u g (by have := (h.s.blk g hg).1; simp; omega)), h.o.block (fun g hg _ => Below.heap_setCell w ⟨r, o, none⟩ u g (by have := (h.o.blk g hg).1; simp; omega))⟩
theorem PastFr.less {N M : Nat} {w : World} {vs vo : Value} {p : PastV} (hNM : M ≤ N) (h : PastFr N w vs vo p) : PastFr M w vs vo p := ⟨h.s.less hNM, h.o.less hNM⟩
theorem RowsFr.setV {N t n r o : Nat} {w : World} {v : Value} {rs : List (List Int)} (h : RowsFr N t n w v rs) (hr : r < N) (xs : List Value) : RowsFr N t n (setVals w r o xs) v rs :=
  h.block (fun g hg _ => setVals_other xs o w g (by have := (h.blk g hg).1; omega))

theorem RowsFr_sliced {N t n : Nat} {w : World} {v : Value} {rs : List (List Int)} (h : RowsFr N t n w v rs) : ∃ a c, v = .slice a rs.length c := by
  rcases h with ⟨h1, rfl⟩ | ⟨g, cap, _, h1, _⟩
  · exact ⟨none, 0, h1⟩
  · exact ⟨_, _, h1⟩

end Go.Proofs.YtiljjhipiinafaaGreat
