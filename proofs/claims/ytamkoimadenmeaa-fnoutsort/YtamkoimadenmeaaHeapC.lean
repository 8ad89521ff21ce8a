/- What the heaps of things let out and of events share: lists in their own blocks under stores, cuts and appends; what is written. No Go text is walked here. -/
import Derived.Test.YtamkoimadenmeaaHeapP1
namespace Go.Proofs.Ytamkoimadenmeaa
open Go.RowKit
set_option linter.unusedVariables false
set_option linter.unusedSimpArgs false

theorem rowsIn_set {n : Nat} {f : Nat → Value} {rs : List (List Int)} {k : Nat} (hk : k < rs.length) (xs : List Int) (hl : xs.length = n) (h : RowsIn n f rs rs.length) :
    RowsIn n (fun j => if k * n ≤ j ∧ j < k * n + xs.length then .int .i64 (xs.getD (j - k * n) 0) else f j) (rs.set k xs) (rs.set k xs).length := by
  intro i hi _ j hj
  have hi' : i < rs.length := by simpa using hi
  show (if k * n ≤ i * n + j ∧ i * n + j < k * n + xs.length then Value.int .i64 (xs.getD (i * n + j - k * n) 0) else f (i * n + j)) = _
  rcases Nat.lt_trichotomy i k with h1 | rfl | h1
  · have := mul_place h1 hj
    rw [if_neg (by omega), List.getElem_set_ne (by omega)]
    exact h i hi' hi' j hj
  · rw [if_pos (by omega), Nat.add_sub_cancel_left, List.getElem_set_self]
  · have : k * n + n ≤ i * n := by have := Nat.mul_le_mul_right n (show k + 1 ≤ i from h1); rw [Nat.succ_mul] at this; exact this
    rw [if_neg (by omega), List.getElem_set_ne (by omega)]
    exact h i hi' hi' j hj

/-- A whole element of a list is written. -/
theorem RowsFr.setAt {N t n g len cap : Nat} {w : World} {rs : List (List Int)} {k : Nat} (hk : k < rs.length) (xs : List Int) (hl : xs.length = n) (h : RowsFr N t n w (.slice (some ⟨g, 0, none⟩) len cap) rs) :
    RowsFr N t n (setRow w g (k * n) xs) (.slice (some ⟨g, 0, none⟩) len cap) (rs.set k xs) := by
  rcases h with ⟨h1, rfl⟩ | ⟨g', cap', f, h1, h2, h3, h4, h5, h6⟩
  · simp at hk
  · simp only [Value.slice.injEq, Option.some.injEq, Addr.mk.injEq] at h1
    obtain ⟨⟨rfl, _⟩, rfl, rfl⟩ := h1
    exact Or.inr ⟨g, cap, _, by simp, h2, by simpa using h3, h4, setRow_row xs (k * n) w f h5, rowsIn_set hk xs hl h6⟩

theorem RowsFr.own {N t n : Nat} {w : World} {v : Value} {rs : List (List Int)} (h : RowsFr N t n w v rs) (hne : rs ≠ []) : ∃ g cap, v = .slice (some ⟨g, 0, none⟩) rs.length cap ∧ rs.length ≤ cap ∧ cap ≤ maxLen ∧ (∀ i (hi : i < rs.length) j, j < n → w.cell? ⟨g, i * n + j, none⟩ = some (.int .i64 (rs[i].getD j 0))) ∧ ∀ i, w.frozen? ⟨g, i, none⟩ = false := by
  rcases h with ⟨_, rfl⟩ | ⟨g, cap, f, h1, h2, h3, h4, h5, h6⟩
  · exact absurd rfl hne
  · refine ⟨g, cap, h1, h3, h4, fun i hi j hj => ?_, fun i => h5.frozen i⟩
    have := mul_place hi hj
    have h7 : rs.length * n ≤ cap * n := Nat.mul_le_mul_right n h3
    rw [h5.cell (by omega), h6 i hi hi j hj]

theorem RowsFr.drew {N t n : Nat} {w : World} {v : Value} {rs : List (List Int)} (h : RowsFr N t n w v rs) : RowsFr N t n w.drew v rs :=
  h.block (fun k _ _ => rfl)

theorem OnlyOf.drew {v : Value} {w w' : World} (h : OnlyOf v w w') : OnlyOf v w w'.drew :=
  ⟨h.size, h.other, fun B hB => (h.below B hB).drew⟩

/-- What is written lies in one list's block, or is new. -/
structure Grow (v : Value) (w w' : World) : Prop where
  size : w.heap.size ≤ w'.heap.size
  other : ∀ b, b < w.heap.size → v.ownBlock ≠ some b → w'.heap[b]? = w.heap[b]?
  below : ∀ B, B ≤ w.heap.size → (∀ g, v.ownBlock = some g → B ≤ g) → Below B w w'

theorem Grow.refl (v : Value) (w : World) : Grow v w w := ⟨Nat.le_refl _, fun _ _ _ => rfl, fun B _ _ => Below.refl B w⟩

theorem Grow.ofBelow {v : Value} {w w' : World} (h : Below w.heap.size w w') : Grow v w w' := ⟨h.size, fun b hb _ => h.block b hb, fun B hB _ => h.mono hB⟩

theorem Grow.ofOnly {v : Value} {w w' : World} (h : OnlyOf v w w') : Grow v w w' := ⟨Nat.le_of_eq h.size.symm, fun b _ hb => h.other b hb, fun B _ hg => h.below B hg⟩

theorem Grow.trans {v : Value} {a b c : World} (h : Grow v a b) (k : Grow v b c) : Grow v a c :=
  ⟨Nat.le_trans h.size k.size, fun x hx hv => (k.other x (Nat.lt_of_lt_of_le hx h.size) hv).trans (h.other x hx hv), fun B hB hg => (h.below B hB hg).trans (k.below B (Nat.le_trans hB h.size) hg)⟩

theorem Grow.cell {v : Value} {w w' : World} {q o : Nat} {u : Value} (h : Grow v w w') (hq : v.ownBlock ≠ some q) (hc : w.cell? ⟨q, o, none⟩ = some u) : w'.cell? ⟨q, o, none⟩ = some u :=
  (World.cell?_of_block (a := ⟨q, o, none⟩) (h.other q (World.block_lt_of_cell? w ⟨q, o, none⟩ hc) hq)).trans hc

theorem infoT_parts {P : Program} {t : TypeId} {z : Value} {size bytes : Nat} (h : (P.info? t).map (fun i => (i.zero, i.size, i.bytes)) = some (some z, size, bytes)) : ∃ i, P.info? t = some i ∧ i.zero = some z ∧ i.size = size ∧ i.bytes = bytes := by
  obtain ⟨i, hi, hzz⟩ := Option.map_eq_some_iff.1 h
  simp only [Prod.mk.injEq] at hzz
  exact ⟨i, hi, hzz.1, hzz.2.1, hzz.2.2⟩

theorem ownsOn {w w' : World} {base : Nat} {e : TypeId} {size : Nat} {v : Value} {n : Nat} {xs : List Value} (hb : Below w.heap.size w w') (h : w.ownsRow base e size v n xs) : w'.ownsRow base e size v n xs := by
  obtain ⟨hl, h | ⟨g, cap, cur, h1, h2, h3, h4⟩⟩ := h
  · exact ⟨hl, Or.inl h⟩
  · refine ⟨hl, Or.inr ⟨g, cap, cur, h1, h2, ?_, h4⟩⟩
    rw [hb.block g (Array.getElem?_eq_some_iff.1 h3).1]
    exact h3

theorem Both.ofGrow {q : Nat} {v : Value} {w w' : World} (h : Grow v w w') : Both q v w w' := ⟨h.size, fun b hb _ hv => h.other b hb hv, fun B _ hB hg => h.below B hB hg⟩

theorem Grow.fz {v : Value} {w w' : World} {q : Nat} (h : Grow v w w') (hq : v.ownBlock ≠ some q) (hlt : q < w.heap.size) (hf : ∀ i, w.frozen? ⟨q, i, none⟩ = false) : ∀ i, w'.frozen? ⟨q, i, none⟩ = false := fun i => by
  have e := h.other q hlt hq
  have hf := hf i
  unfold World.frozen? at hf ⊢
  simp only [e]
  exact hf

theorem RowsFr.cut {N t n g cap k : Nat} {w : World} {rs : List (List Int)} (hk : k ≤ rs.length) (h : RowsFr N t n w (.slice (some ⟨g, 0, none⟩) rs.length cap) rs) : RowsFr N t n w (.slice (some ⟨g, 0, none⟩) k cap) (rs.take k) := by
  rcases h with ⟨h1, _⟩ | ⟨g', cap', f, h1, h2, h3, h4, h5, h6⟩
  · simp at h1
  · simp only [Value.slice.injEq, Option.some.injEq, Addr.mk.injEq] at h1
    obtain ⟨⟨rfl, _⟩, _, rfl⟩ := h1
    have hl : (rs.take k).length = k := by rw [List.length_take]; omega
    refine Or.inr ⟨g, cap, f, by rw [hl], h2, by omega, h4, h5, fun i hi _ j hj => ?_⟩
    have hi' : i < rs.length := by rw [hl] at hi; omega
    rw [h6 i hi' hi' j hj, List.getElem_take]

theorem frozen_block {w w' : World} {q : Nat} (h1 : w'.heap[q]? = w.heap[q]?) (hf : ∀ i, w.frozen? ⟨q, i, none⟩ = false) : ∀ i, w'.frozen? ⟨q, i, none⟩ = false := fun i => by
  have hf := hf i
  unfold World.frozen? at hf ⊢
  simp only [h1]
  exact hf

/-- A new block is written. -/
theorem Both.new {q r o : Nat} {v : Value} {w w' : World} (xs : List Int) (hr : w.heap.size ≤ r) (h : Both q v w w') : Both q v w (setRow w' r o xs) :=
  ⟨by rw [setRow_size]; exact h.size, fun b hb hq hv => (setRow_other xs o w' b (by omega)).trans (h.other b hb hq hv), fun B hq hB hg => setRow_below xs o w' (h.below B hq hB hg) (Nat.le_trans hB hr)⟩

theorem Both.ofOnly {q : Nat} {v : Value} {w w' : World} (h : OnlyOf v w w') : Both q v w w' := Both.ofGrow (Grow.ofOnly h)

def lenV : Value → Nat
  | .slice _ n _ => n
  | _ => 0

theorem Both.later {q : Nat} {v vl : Value} {w wr A w3 : World} (h : Both q v w wr) (hbA : Below wr.heap.size wr A) (hg : A.grownBy w3 vl.ownBlock) (hl : ∀ g, vl.ownBlock = some g → w.heap.size ≤ g) : Both q v w w3 := by
  refine ⟨?_, fun b hb hq hv => ?_, fun B hq hB hgv => ?_⟩
  · exact Nat.le_trans h.size (Below.grown (B := 0) (hbA.mono (Nat.zero_le _)) hg (Nat.zero_le _) (fun _ _ => Nat.zero_le _)).size
  · have hbr : b < wr.heap.size := Nat.lt_of_lt_of_le hb h.size
    rw [hg.block b (Nat.lt_of_lt_of_le hbr hbA.size) (fun e => by have := hl b e.symm; omega), hbA.block b hbr]
    exact h.other b hb hq hv
  · exact Below.grown ((h.below B hq hB hgv).trans (hbA.mono (Nat.le_trans hB h.size))) hg (Nat.le_trans (Nat.le_trans hB h.size) hbA.size) (fun k hk => Nat.le_trans hB (hl k hk))

theorem RowsFr.sliced {N t n : Nat} {w : World} {v : Value} {rs : List (List Int)} (h : RowsFr N t n w v rs) : ∃ a c, v = .slice a rs.length c := by
  rcases h with ⟨h1, rfl⟩ | ⟨g, cap, _, h1, _⟩
  · exact ⟨none, 0, h1⟩
  · exact ⟨_, _, h1⟩

theorem rowsFr_snoc {N t n : Nat} {w1 : World} {v' : Value} {rs : List (List Int)} {r : List Int} (hr : ∀ x ∈ rs ++ [r], x.length = n) (h : w1.ownsRow N t n v' (rs.length + 1) (flatCells rs ++ r.map (Value.int .i64))) : RowsFr N t n w1 v' (rs ++ [r]) := by
  refine RowsFr.of_owns hr ?_
  rw [flatCells_snoc, List.length_append]
  exact h
theorem RowsFr.far {N t n : Nat} {w w' : World} {v u : Value} {rs : List (List Int)} (h : RowsFr N t n w u rs) (ho : OnlyOf v w w') (hne : ∀ g, u.ownBlock = some g → v.ownBlock = some g → False) : RowsFr N t n w' u rs :=
  h.other ho (by
    cases e : u.ownBlock with
    | none => exact Or.inl rfl
    | some b => exact Or.inr (fun e2 => hne b e e2.symm))
end Go.Proofs.Ytamkoimadenmeaa
