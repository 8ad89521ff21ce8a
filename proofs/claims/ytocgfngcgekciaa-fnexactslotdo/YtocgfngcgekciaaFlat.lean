/- Lists whose elements are n numbers each, as they lie in memory; stores of a whole element; marks. No Go text is walked here. -/
import Derived.Test.YtocgfngcgekciaaBase
import Derived.Deep.OwnRows
import Derived.Laws.AppendOwn
import Derived.OneCell
namespace Go.Proofs.Ytocgfngcgekciaa
open Go.RowKit
set_option linter.unusedVariables false

/-- A list whose elements are n numbers each, wherever it lies. -/
def RowsAt (n : Nat) (w : World) (v : Value) (rs : List (List Int)) : Prop :=
  ∃ (ad : Option Addr) (cap : Nat), v = .slice ad rs.length cap ∧ rs.length ≤ cap ∧ rs.length ≤ maxLen ∧
    (rs = [] ∨ ∃ b off, ad = some ⟨b, off, none⟩ ∧ ∀ i (h : i < rs.length) j, j < n → w.cell? ⟨b, off + i * n + j, none⟩ = some (.int .i64 (rs[i].getD j 0)))

theorem RowsAt.on {n : Nat} {w w' : World} {v : Value} {rs : List (List Int)} (hb : Below w.heap.size w w') (h : RowsAt n w v rs) : RowsAt n w' v rs := by
  obtain ⟨ad, cap, hv, hl, hm, h⟩ := h
  refine ⟨ad, cap, hv, hl, hm, ?_⟩
  rcases h with h | ⟨b, off, had, hc⟩
  · exact Or.inl h
  · exact Or.inr ⟨b, off, had, fun i hi j hj => cell_on hb (hc i hi j hj)⟩

def RowsIn (n : Nat) (f : Nat → Value) (rs : List (List Int)) (k : Nat) : Prop :=
  ∀ i (h : i < rs.length), i < k → ∀ j, j < n → f (i * n + j) = .int .i64 (rs[i].getD j 0)

/-- Such a list in a block of its own, from block N on. -/
def RowsFr (N t n : Nat) (w : World) (v : Value) (rs : List (List Int)) : Prop :=
  (v = .slice none 0 0 ∧ rs = []) ∨
  ∃ g cap f, v = .slice (some ⟨g, 0, none⟩) rs.length cap ∧ N ≤ g ∧ rs.length ≤ cap ∧ cap ≤ maxLen ∧ w.rowIs g t (cap * n) f ∧ RowsIn n f rs rs.length

/-- Room for such a list, in a block of its own. -/
def RoomFr (N t n : Nat) (w : World) (v : Value) (len : Nat) : Prop :=
  (v = .slice none 0 0 ∧ len = 0) ∨
  ∃ g cap f, v = .slice (some ⟨g, 0, none⟩) len cap ∧ N ≤ g ∧ len ≤ cap ∧ cap ≤ maxLen ∧ w.rowIs g t (cap * n) f

theorem RowsFr.room {N t n : Nat} {w : World} {v : Value} {rs : List (List Int)} (h : RowsFr N t n w v rs) : RoomFr N t n w v rs.length := by
  rcases h with ⟨h1, rfl⟩ | ⟨g, cap, f, h1, h2, h3, h4, h5, _⟩
  · exact Or.inl ⟨h1, rfl⟩
  · exact Or.inr ⟨g, cap, f, h1, h2, h3, h4, h5⟩

theorem mul_place {i c j n : Nat} (h : i < c) (hj : j < n) : i * n + j < c * n := by
  have h1 : (i + 1) * n ≤ c * n := Nat.mul_le_mul_right n h
  rw [Nat.add_mul, Nat.one_mul] at h1
  omega

theorem RowsFr.at {N t n : Nat} {w : World} {v : Value} {rs : List (List Int)} (h : RowsFr N t n w v rs) : RowsAt n w v rs := by
  rcases h with ⟨rfl, rfl⟩ | ⟨g, cap, f, rfl, _, hl, hm, hr, hf⟩
  · exact ⟨none, 0, rfl, Nat.le_refl _, Nat.zero_le _, Or.inl rfl⟩
  · refine ⟨_, _, rfl, hl, Nat.le_trans hl hm, Or.inr ⟨g, 0, rfl, fun i hi j hj => ?_⟩⟩
    rw [Nat.zero_add, hr.cell (mul_place (by omega) hj), hf i hi hi j hj]

theorem RowsFr.block {N t n : Nat} {w w' : World} {v : Value} {rs : List (List Int)} (hk : ∀ g, v.ownBlock = some g → g < w.heap.size → w'.heap[g]? = w.heap[g]?) (h : RowsFr N t n w v rs) : RowsFr N t n w' v rs := by
  rcases h with h | ⟨g, cap, f, rfl, hN, hl, hm, hr, hf⟩
  · exact Or.inl h
  · exact Or.inr ⟨g, cap, f, rfl, hN, hl, hm, hr.of_block (hk g rfl hr.lt), hf⟩

theorem RowsFr.on {N t n : Nat} {w w' : World} {v : Value} {rs : List (List Int)} (hb : Below w.heap.size w w') (h : RowsFr N t n w v rs) : RowsFr N t n w' v rs :=
  h.block (fun g _ hg => hb.block g hg)

theorem RowsFr.less {N M t n : Nat} {w : World} {v : Value} {rs : List (List Int)} (hNM : M ≤ N) (h : RowsFr N t n w v rs) : RowsFr M t n w v rs := by
  rcases h with h | ⟨g, cap, f, rfl, hN, hl, hm, hr, hf⟩
  · exact Or.inl h
  · exact Or.inr ⟨g, cap, f, rfl, Nat.le_trans hNM hN, hl, hm, hr, hf⟩

/-- Its block is one of these. -/
theorem RowsFr.blk {N t n : Nat} {w : World} {v : Value} {rs : List (List Int)} (h : RowsFr N t n w v rs) : ∀ g, v.ownBlock = some g → N ≤ g ∧ g < w.heap.size := by
  intro g hg
  rcases h with ⟨rfl, _⟩ | ⟨g', cap, f, rfl, hN, hl, hm, hr, hf⟩
  · simp [Value.ownBlock] at hg
  · obtain rfl : g' = g := by simpa [Value.ownBlock] using hg
    exact ⟨hN, hr.lt⟩

def flatCells (rs : List (List Int)) : List Value := rs.flatMap fun r => r.map (Value.int .i64)

theorem flatCells_at {n : Nat} : ∀ (rs : List (List Int)), (∀ r ∈ rs, r.length = n) → ∀ i (h : i < rs.length) j, j < n → (flatCells rs)[i * n + j]? = some (.int .i64 (rs[i].getD j 0))
  | [], _, i, h, _, _ => absurd h (Nat.not_lt_zero _)
  | r :: t, hr, 0, _, j, hj => by
    have hl := hr r (List.mem_cons_self ..)
    unfold flatCells
    rw [List.flatMap_cons, Nat.zero_mul, Nat.zero_add, List.getElem?_append_left (by simp; omega)]
    simp [List.getElem?_eq_getElem (show j < r.length by omega)]
  | r :: t, hr, i + 1, h, j, hj => by
    have hl := hr r (List.mem_cons_self ..)
    have ih := flatCells_at t (fun x hx => hr x (List.mem_cons_of_mem _ hx)) i (by simpa using h) j hj
    unfold flatCells at ih ⊢
    rw [List.flatMap_cons, List.getElem?_append_right (by simp; rw [Nat.add_mul]; omega)]
    rw [List.length_map, hl, show (i + 1) * n + j - n = i * n + j by rw [Nat.add_mul]; omega]
    exact ih

theorem RowsFr.of_owns {N t n : Nat} {w : World} {v : Value} {rs : List (List Int)} (hr : ∀ r ∈ rs, r.length = n) (h : w.ownsRow N t n v rs.length (flatCells rs)) : RowsFr N t n w v rs := by
  obtain ⟨hlen, ⟨rfl, h0⟩ | ⟨g, cap, cur, rfl, hN, hb, hl, hm, hs, ht⟩⟩ := h
  · exact Or.inl ⟨rfl, List.length_eq_zero_iff.1 h0⟩
  · refine Or.inr ⟨g, cap, fun i => cur.getD i default, rfl, hN, hl, hm, ⟨cur, hb, hs, fun i hi => ?_⟩, fun i hi _ j hj => ?_⟩
    · simp [Array.getD, hs, hi]
    · have h1 := flatCells_at rs hr i hi j hj
      have h2 : i * n + j < rs.length * n := mul_place hi hj
      have h3 : rs.length * n ≤ cap * n := Nat.mul_le_mul_right n hl
      rw [← ht, List.getElem?_take, if_pos h2, Array.getElem?_toList] at h1
      rw [Array.getElem?_eq_getElem (by omega)] at h1
      simp only [Option.some.injEq] at h1
      show cur.getD (i * n + j) default = _
      rw [← h1]
      simp [Array.getD, show i * n + j < cur.size by omega]

/-! Stores of a whole element. -/

def setRow (w : World) (b : Nat) : Nat → List Int → World
  | _, [] => w
  | o, x :: xs => setRow (w.setCell ⟨b, o, none⟩ (.int .i64 x)) b (o + 1) xs

theorem setRow_row {b t m : Nat} : ∀ (xs : List Int) (o : Nat) (w : World) (f : Nat → Value), w.rowIs b t m f → (setRow w b o xs).rowIs b t m (fun j => if o ≤ j ∧ j < o + xs.length then .int .i64 (xs.getD (j - o) 0) else f j)
  | [], o, w, f, h => h.congr (fun i _ => by
      show f i = if o ≤ i ∧ i < o + 0 then _ else f i
      rw [if_neg (by omega)])
  | x :: xs, o, w, f, h => (setRow_row xs (o + 1) _ _ (h.set o (.int .i64 x))).congr (fun i _ => by
      show (if o + 1 ≤ i ∧ i < o + 1 + xs.length then Value.int .i64 (xs.getD (i - (o + 1)) 0) else if i = o then Value.int .i64 x else f i) = if o ≤ i ∧ i < o + (xs.length + 1) then .int .i64 ((x :: xs).getD (i - o) 0) else f i
      by_cases h1 : i = o
      · subst h1
        rw [if_neg (by omega), if_pos rfl, if_pos (by omega)]
        simp
      · rw [if_neg h1]
        by_cases h2 : o + 1 ≤ i ∧ i < o + 1 + xs.length
        · rw [if_pos h2, if_pos (by omega), show i - o = (i - (o + 1)) + 1 by omega]
          simp
        · rw [if_neg h2, if_neg (by omega)])

theorem setRow_below {b B : Nat} {a : World} : ∀ (xs : List Int) (o : Nat) (w : World), Below B a w → B ≤ b → Below B a (setRow w b o xs)
  | [], _, _, h, _ => h
  | x :: xs, o, w, h, hB => setRow_below xs (o + 1) _ (h.setCell hB _) hB

theorem setRow_other {b : Nat} : ∀ (xs : List Int) (o : Nat) (w : World) (k : Nat), k ≠ b → (setRow w b o xs).heap[k]? = w.heap[k]?
  | [], _, _, _, _ => rfl
  | x :: xs, o, w, k, h => (setRow_other xs (o + 1) _ k h).trans (Below.heap_setCell w ⟨b, o, none⟩ _ k h)

theorem setRow_size {b : Nat} : ∀ (xs : List Int) (o : Nat) (w : World), (setRow w b o xs).heap.size = w.heap.size
  | [], _, _ => rfl
  | x :: xs, o, w => by
    rw [setRow, setRow_size xs (o + 1)]
    simp

theorem rowsIn_more {n : Nat} {f : Nat → Value} {rs : List (List Int)} {k : Nat} (hk : k < rs.length) (xs : List Int) (hl : xs.length = n) (hx : ∀ j, j < n → xs.getD j 0 = rs[k].getD j 0) (h : RowsIn n f rs k) :
    RowsIn n (fun j => if k * n ≤ j ∧ j < k * n + xs.length then .int .i64 (xs.getD (j - k * n) 0) else f j) rs (k + 1) := by
  intro i hi hik j hj
  rcases (show i = k ∨ i < k by omega) with rfl | hlt
  · show (if i * n ≤ i * n + j ∧ i * n + j < i * n + xs.length then Value.int .i64 (xs.getD (i * n + j - i * n) 0) else f (i * n + j)) = _
    rw [if_pos (by omega), Nat.add_sub_cancel_left, hx j hj]
  · have := mul_place hlt hj
    show (if k * n ≤ i * n + j ∧ i * n + j < k * n + xs.length then Value.int .i64 (xs.getD (i * n + j - k * n) 0) else f (i * n + j)) = _
    rw [if_neg (by omega)]
    exact h i hi hlt j hj

/-! Marks: numbers one behind the other. -/

def markRows (n : Nat) (k : Int) (len : Nat) : List (List Int) := (List.range len).map fun (i : Nat) => (List.range n).map fun (j : Nat) => k + ((i * n + j : Nat) : Int)

theorem markRows_length (n : Nat) (k : Int) (len : Nat) : (markRows n k len).length = len := by simp [markRows]

theorem markRows_at (n : Nat) (k : Int) (len i : Nat) (hi : i < (markRows n k len).length) (j : Nat) (hj : j < n) : ((markRows n k len)[i]).getD j 0 = k + ((i * n + j : Nat) : Int) := by
  simp [markRows, hj]

/-- What a mark writes: that list's block alone. -/
structure OnlyOf (v : Value) (w w' : World) : Prop where
  size : w'.heap.size = w.heap.size
  other : ∀ b, v.ownBlock ≠ some b → w'.heap[b]? = w.heap[b]?
  below : ∀ B, (∀ g, v.ownBlock = some g → B ≤ g) → Below B w w'

theorem OnlyOf.refl (v : Value) (w : World) : OnlyOf v w w := ⟨rfl, fun _ _ => rfl, fun B _ => Below.refl B w⟩

theorem OnlyOf.row {g len cap : Nat} {w w' : World} (h : OnlyOf (.slice (some ⟨g, 0, none⟩) len cap) w w') (o : Nat) (xs : List Int) : OnlyOf (.slice (some ⟨g, 0, none⟩) len cap) w (setRow w' g o xs) := by
  refine ⟨by rw [setRow_size, h.size], fun b hb => ?_, fun B hB => setRow_below xs o w' (h.below B hB) (hB g rfl)⟩
  rw [setRow_other xs o w' b (fun e => hb (by simp [Value.ownBlock, e])), h.other b hb]

theorem RowsFr.other {N t n : Nat} {w w' : World} {v v2 : Value} {rs : List (List Int)} (h : RowsFr N t n w v2 rs) (ho : OnlyOf v w w') (hne : v2.ownBlock = none ∨ v2.ownBlock ≠ v.ownBlock) : RowsFr N t n w' v2 rs :=
  h.block (fun g hg _ => ho.other g (fun e => by
    rcases hne with h | h
    · rw [h] at hg; cases hg
    · exact h (hg.trans e.symm)))

theorem row_step {n g t cap : Nat} {w3 : World} {rs : List (List Int)} {k : Nat} {f : Nat → Value} (hk : k < rs.length) (xs : List Int) (hl : xs.length = n) (hx : ∀ j, j < n → xs.getD j 0 = rs[k].getD j 0) (hr : w3.rowIs g t (cap * n) f) (hin : RowsIn n f rs k) :
    ∃ f', (setRow w3 g (k * n) xs).rowIs g t (cap * n) f' ∧ RowsIn n f' rs (k + 1) :=
  ⟨_, setRow_row xs (k * n) w3 f hr, rowsIn_more hk xs hl hx hin⟩

end Go.Proofs.Ytocgfngcgekciaa
