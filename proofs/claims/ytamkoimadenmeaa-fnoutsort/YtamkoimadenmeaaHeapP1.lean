/- A heap's struct and list in memory, when something is put behind the list or the last is cut off: what is written. No Go text is walked here. -/
import Derived.Test.YtamkoimadenmeaaFlat
import Derived.Test.YtamkoimadenmeaaEv
import Derived.Test.YtamkoimadenmeaaHeap
import Derived.Deep.AppendLies
import Derived.OneCell
import Derived.StillTactics
import Derived.OwnWalk
namespace Go.Proofs.Ytamkoimadenmeaa
open Go.RowKit
set_option linter.unusedVariables false

theorem flatCells_len {n : Nat} : ∀ (rs : List (List Int)), (∀ r ∈ rs, r.length = n) → (flatCells rs).length = rs.length * n
  | [], _ => by simp [flatCells]
  | r :: t, hr => by
    have ih := flatCells_len t (fun x hx => hr x (List.mem_cons_of_mem _ hx))
    unfold flatCells at ih ⊢
    rw [List.flatMap_cons, List.length_append, ih, List.length_map, hr r (List.mem_cons_self ..), List.length_cons, Nat.succ_mul]
    omega

theorem flatCells_snoc (rs : List (List Int)) (r : List Int) : flatCells (rs ++ [r]) = flatCells rs ++ r.map (Value.int .i64) := by
  simp [flatCells, List.flatMap_append]

/-- A list in its own block, as append takes it. -/
theorem RowsFr.owns {N t n : Nat} {w : World} {v : Value} {rs : List (List Int)} (hn : 0 < n) (hr : ∀ r ∈ rs, r.length = n) (h : RowsFr N t n w v rs) : w.ownsRow N t n v rs.length (flatCells rs) := by
  refine ⟨flatCells_len rs hr, ?_⟩
  rcases h with ⟨rfl, rfl⟩ | ⟨g, cap, f, rfl, hN, hl, hm, ⟨cur, hb, hs, hc⟩, hf⟩
  · exact Or.inl ⟨rfl, rfl⟩
  · refine Or.inr ⟨g, cap, cur, rfl, hN, hb, hl, hm, hs, ?_⟩
    have h3 : rs.length * n ≤ cap * n := Nat.mul_le_mul_right n hl
    refine List.ext_getElem? (fun k => ?_)
    rw [List.getElem?_take]
    by_cases hk : k < rs.length * n
    · have hd : k / n * n + k % n = k := by rw [Nat.mul_comm]; exact Nat.div_add_mod k n
      have hq : k / n < rs.length := (Nat.div_lt_iff_lt_mul hn).2 hk
      have hj : k % n < n := Nat.mod_lt _ hn
      have h1 := flatCells_at rs hr (k / n) hq (k % n) hj
      have h2 := hf (k / n) hq hq (k % n) hj
      rw [hd] at h1 h2
      rw [if_pos hk, h1, Array.getElem?_toList, hc k (by omega), h2]
    · rw [if_neg hk, List.getElem?_eq_none (by rw [flatCells_len rs hr]; omega)]

/-- What is written lies in the struct's block q, in one list's block, or is new. -/
structure Both (q : Nat) (v : Value) (w w' : World) : Prop where
  size : w.heap.size ≤ w'.heap.size
  other : ∀ b, b < w.heap.size → b ≠ q → v.ownBlock ≠ some b → w'.heap[b]? = w.heap[b]?
  below : ∀ B, B ≤ q → B ≤ w.heap.size → (∀ g, v.ownBlock = some g → B ≤ g) → Below B w w'

theorem Both.refl (q : Nat) (v : Value) (w : World) : Both q v w w := ⟨Nat.le_refl _, fun _ _ _ _ => rfl, fun B _ _ _ => Below.refl B w⟩
theorem Both.ofBelow {q : Nat} {v : Value} {w w' : World} (h : Below w.heap.size w w') : Both q v w w' := ⟨h.size, fun b hb _ _ => h.block b hb, fun B _ hB _ => h.mono hB⟩
theorem Both.trans {q : Nat} {v : Value} {a b c : World} (h : Both q v a b) (k : Both q v b c) : Both q v a c :=
  ⟨Nat.le_trans h.size k.size, fun x hx hq hv => (k.other x (Nat.lt_of_lt_of_le hx h.size) hq hv).trans (h.other x hx hq hv), fun B hq hB hg => (h.below B hq hB hg).trans (k.below B hq (Nat.le_trans hB h.size) hg)⟩
/-- Behind it the list may lie in another block, if that is new. -/
theorem Both.then {q : Nat} {v v' : Value} {a b c : World} (h : Both q v a b) (k : Both q v' b c) (hv : ∀ g, v'.ownBlock = some g → v.ownBlock = some g ∨ a.heap.size ≤ g) : Both q v a c :=
  ⟨Nat.le_trans h.size k.size, fun x hx hq hx2 => (k.other x (Nat.lt_of_lt_of_le hx h.size) hq (fun e => by
      rcases hv x e with h1 | h1
      · exact hx2 h1
      · omega)).trans (h.other x hx hq hx2), fun B hq hB hg => (h.below B hq hB hg).trans (k.below B hq (Nat.le_trans hB h.size) (fun g e => by
      rcases hv g e with h1 | h1
      · exact hg g h1
      · omega))⟩
theorem Both.cell {q b o : Nat} {v u : Value} {w w' : World} (h : Both q v w w') (hq : b ≠ q) (hv : v.ownBlock ≠ some b) (hc : w.cell? ⟨b, o, none⟩ = some u) : w'.cell? ⟨b, o, none⟩ = some u :=
  (World.cell?_of_block (a := ⟨b, o, none⟩) (h.other b (World.block_lt_of_cell? w ⟨b, o, none⟩ hc) hq hv)).trans hc
theorem Both.rows {q N t n : Nat} {v u : Value} {w w' : World} {rs : List (List Int)} (h : Both q v w w') (hr : RowsFr N t n w u rs) (hq : u.ownBlock ≠ some q) (hv : u.ownBlock = none ∨ u.ownBlock ≠ v.ownBlock) : RowsFr N t n w' u rs :=
  hr.block (fun g hg hlt => h.other g hlt (fun e => by subst e; exact hq hg) (fun e => by
    rcases hv with h | h
    · rw [h] at hg; cases hg
    · exact h (hg.trans e.symm)))

/-- A cell of the struct is written. -/
theorem Both.set {q o : Nat} {v u : Value} {w w' : World} (h : Both q v w w') : Both q v w (w'.setCell ⟨q, o, none⟩ u) :=
  ⟨by simpa using h.size, fun b hb hq hv => (Below.heap_setCell w' ⟨q, o, none⟩ _ b hq).trans (h.other b hb hq hv), fun B hq hB hg => (h.below B hq hB hg).setCell (show B ≤ q from hq) _⟩

theorem Both.grown {q : Nat} {v : Value} {W A w1 : World} (hbA : Below W.heap.size W A) (hgrow : A.grownBy w1 v.ownBlock) (hlt : ∀ g, v.ownBlock = some g → g < W.heap.size) : Both q v W w1 := by
  refine ⟨?_, fun b hb _ hv => ?_, fun B _ hB hg => Below.grown (hbA.mono hB) hgrow (Nat.le_trans hB hbA.size) hg⟩
  · exact (Below.grown (B := 0) (hbA.mono (Nat.zero_le _)) hgrow (Nat.zero_le _) (fun _ _ => Nat.zero_le _)).size
  · rw [← hbA.block b hb]
    exact hgrow.block b (Nat.lt_of_lt_of_le hb hbA.size) (fun e => hv e.symm)
end Go.Proofs.Ytamkoimadenmeaa
