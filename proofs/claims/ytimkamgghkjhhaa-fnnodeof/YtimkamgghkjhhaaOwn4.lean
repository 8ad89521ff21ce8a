/- Marks of what was done, held: laws.heldPastS, laws.markLane, laws.heldLane. -/
import Derived.Test.YtimkamgghkjhhaaOwn3
namespace Go.Proofs.Ytimkamgghkjhhaa
open Go.RowKit
set_option linter.unusedVariables false
set_option linter.unusedSimpArgs false

theorem markPs_at : ∀ (ps : List PastV) (k0 : Int) (k : Nat) (h : k < ps.length) (h' : k < (markPs k0 ps).length), (markPs k0 ps)[k] = markP (k0 + szPs (ps.take k)) ps[k]
  | [], _, k, h, _ => absurd h (Nat.not_lt_zero _)
  | p :: ps, k0, 0, _, _ => by simp [markPs, szPs]
  | p :: ps, k0, k + 1, h, h' => by
    simp only [markPs, List.getElem_cons_succ, List.take_succ_cons, szPs]
    rw [markPs_at ps (k0 + szP p) k (by simpa using h)]
    rw [show k0 + szP p + szPs (ps.take k) = k0 + (szP p + szPs (ps.take k)) by omega]

/-- What is written of what lay there lies within an interval of blocks. -/
structure Frame (N M : Nat) (w w' : World) : Prop where
  size : w.heap.size ≤ w'.heap.size
  other : ∀ b, b < w.heap.size → ¬ (N ≤ b ∧ b < M) → w'.heap[b]? = w.heap[b]?
  below : ∀ B, B ≤ N → B ≤ w.heap.size → Below B w w'

theorem Frame.of_below {N M : Nat} {w w' : World} (h : Below w.heap.size w w') : Frame N M w w' := ⟨h.size, fun b hb _ => h.block b hb, fun B _ hB => h.mono hB⟩
theorem Frame.of_within {N M : Nat} {w w' : World} (h : Within N M w w') : Frame N M w w' := ⟨Nat.le_of_eq h.size.symm, fun b _ hb => h.other b hb, fun B hB _ => h.below B hB⟩
theorem Frame.trans {N M : Nat} {a b c : World} (h : Frame N M a b) (k : Frame N M b c) : Frame N M a c :=
  ⟨Nat.le_trans h.size k.size, fun x hx hn => (k.other x (Nat.lt_of_lt_of_le hx h.size) hn).trans (h.other x hx hn), fun B hB hs => (h.below B hB hs).trans (k.below B hB (Nat.le_trans hs h.size))⟩
theorem Frame.wide {N M N' M' : Nat} {w w' : World} (hN : N' ≤ N) (hM : M ≤ M') (h : Frame N M w w') : Frame N' M' w w' :=
  ⟨h.size, fun b hb hn => h.other b hb (fun e => hn ⟨Nat.le_trans hN e.1, Nat.lt_of_lt_of_le e.2 hM⟩), fun B hB hs => h.below B (Nat.le_trans hB hN) hs⟩

end Go.Proofs.Ytimkamgghkjhhaa
