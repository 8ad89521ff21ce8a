/- A struct in block q whose lists grow (out of Rk). -/
import Derived.Test.YtocgfngcgekciaaSCopy
import Derived.Deep.AppendLies
namespace Go.Proofs.Ytocgfngcgekciaa
open Go.RowKit
set_option linter.unusedVariables false
set_option linter.unusedSimpArgs false

structure RowKeep (K B q t n : Nat) (f : Nat → Value) (W0 W w : World) : Prop where
  row : w.rowIs q t n f
  keep : ∀ b, b < K → b ≠ q → w.heap[b]? = W.heap[b]?
  size : K ≤ w.heap.size
  bel : Below B W0 w

abbrev setF (f : Nat → Value) (j : Nat) (u : Value) : Nat → Value := fun i => if i = j then u else f i

theorem setF_same (f : Nat → Value) (j : Nat) (a b : Value) : setF (setF f j a) j b = setF f j b := by
  funext i
  by_cases e : i = j <;> simp [setF, e]

theorem setF_mid (f : Nat → Value) {i j : Nat} (h : i ≠ j) (a b c : Value) : setF (setF (setF f i a) j b) i c = setF (setF f i c) j b := by
  funext k
  by_cases e : k = i
  · subst e; simp [setF, h]
  · by_cases e2 : k = j
    · subst e2; simp [setF, e]
    · simp [setF, e, e2]

theorem rowIs_set1 {w : World} {b t n j : Nat} {f : Nat → Value} {u : Value} (h : w.rowIs b t n f) : (w.setCell ⟨b, j, none⟩ u).rowIs b t n (setF f j u) :=
  (setVals_row [u] j w _ h).congr (fun i hi => by
    show (if j ≤ i ∧ i < j + 1 then _ else f i) = _
    by_cases e : i = j
    · subst e; simp [setF]
    · rw [if_neg (by omega)]; simp [setF, e])

theorem RowKeep.on {K B q t n : Nat} {f : Nat → Value} {W0 W w w' : World} (h : RowKeep K B q t n f W0 W w) (hB : B ≤ K) (hb : Below w.heap.size w w') : RowKeep K B q t n f W0 W w' :=
  ⟨h.row.of_block (hb.block q h.row.lt), fun b h1 h2 => (hb.block b (by have := h.size; omega)).trans (h.keep b h1 h2), Nat.le_trans h.size hb.size, h.bel.trans (hb.mono (Nat.le_trans hB h.size))⟩

theorem RowKeep.set {K B q t n j : Nat} {f : Nat → Value} {u : Value} {W0 W w : World} (h : RowKeep K B q t n f W0 W w) (hB : B ≤ q) : RowKeep K B q t n (setF f j u) W0 W (w.setCell ⟨q, j, none⟩ u) :=
  ⟨rowIs_set1 h.row, fun b h1 h2 => (Below.heap_setCell w ⟨q, j, none⟩ _ b h2).trans (h.keep b h1 h2), by simpa using h.size, h.bel.setCell (show B ≤ q from hB) _⟩

theorem RowKeep.grown {K B q t n : Nat} {f : Nat → Value} {W0 W w A w1 : World} {r : Option Nat} (h : RowKeep K B q t n f W0 W w) (hq : q < K) (hBK : B ≤ K) (hbA : Below w.heap.size w A) (hg : A.grownBy w1 r) (hr : ∀ g, r = some g → K ≤ g) : RowKeep K B q t n f W0 W w1 := by
  have hs := h.size
  have hsA := hbA.size
  have e : ∀ b, b < K → w1.heap[b]? = w.heap[b]? := fun b hb =>
    (hg.block b (by omega) (fun e => by have := hr b e.symm; omega)).trans (hbA.block b (by omega))
  refine ⟨h.row.of_block (e q hq), fun b hb hne => (e b hb).trans (h.keep b hb hne), ?_, Below.grown (h.bel.trans (hbA.mono (by omega))) hg (by omega) (fun b hb => by have := hr b hb; omega)⟩
  have := hg.size
  omega

theorem ownsKeep {w w' : World} {base : Nat} {e : TypeId} {size : Nat} {v : Value} {n : Nat} {xs : List Value} (h : w.ownsRow base e size v n xs) (hk : ∀ g, v.ownBlock = some g → g < w.heap.size → w'.heap[g]? = w.heap[g]?) : w'.ownsRow base e size v n xs := by
  obtain ⟨h1, h2⟩ := h
  refine ⟨h1, ?_⟩
  rcases h2 with h2 | ⟨g, cap, cur, hv, hg, hh, r⟩
  · exact Or.inl h2
  · subst hv
    exact Or.inr ⟨g, cap, cur, rfl, hg, (hk g rfl (Array.getElem?_eq_some_iff.1 hh).1).trans hh, r⟩

theorem ownsNew {w1 : World} {K q t size n : Nat} {v : Value} {xs : List Value} {j : Nat} {u : Value} (h : w1.ownsRow K t size v n xs) (hv : ∀ g, v.ownBlock = some g → K ≤ g) (hq : q < K) : (w1.setCell ⟨q, j, none⟩ u).ownsRow K t size v n xs :=
  ownsRow_setCell_other h (fun e => by have := hv _ e; simp at this; omega) _

theorem apart_symm {a b : Value} (h : Apart a b) : Apart b a := fun g x y => h g y x

/-- Of two lists of one struct the one grows: the other stays. -/
theorem two_lists {W A w1 : World} {K q j gg m cap t2 s2 n2 : Nat} {v1 v2 u : Value} {xs2 : List Value} (h2 : W.ownsRow K t2 s2 v2 n2 xs2) (hap : Apart v1 v2) (hbA : Below W.heap.size W A)
    (hg : A.grownBy w1 v1.ownBlock) (hat : v1.ownBlock = some gg ∨ gg = A.heap.size) (hq : q < K) : (w1.setCell ⟨q, j, none⟩ u).ownsRow K t2 s2 v2 n2 xs2 ∧ Apart (.slice (some ⟨gg, 0, none⟩) m cap) v2 := by
  have hs := hbA.size
  refine ⟨ownsKeep h2 (fun g e hl => ?_), fun g a b => ?_⟩
  · have hK := (h2.lt g e).1
    exact (Below.heap_setCell w1 ⟨q, j, none⟩ _ g (by show g ≠ q; omega)).trans ((hg.block g (by omega) (fun e2 => hap g e2.symm e)).trans (hbA.block g hl))
  · have e1 : gg = g := by simpa [Value.ownBlock] using a
    subst e1
    rcases hat with h | h
    · exact hap gg h b
    · have := (h2.lt gg b).2
      omega
end Go.Proofs.Ytocgfngcgekciaa
