/- Lists of views, and of numbers, in memory of their own; their marks. -/
import Derived.Test.YtimkamgghkjhhaaViews1
import Derived.Test.YtimkamgghkjhhaaOwn6
import Derived.Test.YtimkamgghkjhhaaOwn5
import Derived.Test.YtimkamgghkjhhaaGMark
namespace Go.Proofs.Ytimkamgghkjhhaa
open Go.RowKit
set_option linter.unusedVariables false
set_option linter.unusedSimpArgs false

structure ViewsRow (N M : Nat) (w : World) (g : Nat) (f : Nat → Value) (vs : Nat → Value) (ls : List ViewV) : Prop where
  cells : ∀ i (h : i < ls.length) j (hj : j < 3), f (i * 3 + j) = (viewCells ls[i].inc ls[i].ver (vs i))[j]
  own : ∀ i (h : i < ls.length), RowsFr N 65 7 w (vs i) (ls[i].es.map evRow)
  hi : ∀ i, i < ls.length → ∀ b, (vs i).ownBlock = some b → b < M
  out : ∀ i, i < ls.length → (vs i).ownBlock ≠ some g
  asc : ∀ i j, i < j → j < ls.length → Apart (vs i) (vs j)

/-- A list of such in memory of its own, all within the blocks from N on ahead of M. -/
def ViewsOwn (N M : Nat) (w : World) (v : Value) (ls : List ViewV) : Prop :=
  (v = .slice none 0 0 ∧ ls = []) ∨ ∃ g cap f, ∃ (vs : Nat → Value), v = .slice (some ⟨g, 0, none⟩) ls.length cap ∧ N ≤ g ∧ g < M ∧ ls.length ≤ cap ∧ cap ≤ maxLen ∧ w.rowIs g 106 (cap * 3) f ∧ ViewsRow N M w g f vs ls

theorem ViewsOwn.at {N M : Nat} {w : World} {v : Value} {ls : List ViewV} (h : ViewsOwn N M w v ls) : ViewsAt w v ls := by
  rcases h with ⟨rfl, rfl⟩ | ⟨g, cap, f, vs, rfl, hN, hM, hlc, hm, hr, h⟩
  · exact ⟨none, 0, rfl, Nat.le_refl _, Nat.zero_le _, Or.inl rfl⟩
  · refine ⟨_, cap, rfl, hlc, Nat.le_trans hlc hm, Or.inr ⟨g, 0, rfl, fun i hi => ⟨vs i, fun j hj => ?_, (h.own i hi).at⟩⟩⟩
    have hj5 : j < 3 := hj
    rw [Nat.zero_add, hr.cell (i := i * 3 + j) (mul_place (by omega) hj5), h.cells i hi j hj5]

theorem ViewsOwn.keep {N M : Nat} {w w' : World} {v : Value} {ls : List ViewV} (hk : ∀ b, N ≤ b → b < M → b < w.heap.size → w'.heap[b]? = w.heap[b]?) (h : ViewsOwn N M w v ls) : ViewsOwn N M w' v ls := by
  rcases h with ⟨rfl, rfl⟩ | ⟨g, cap, f, vs, rfl, hN, hM, hlc, hm, hr, h⟩
  · exact Or.inl ⟨rfl, rfl⟩
  · exact Or.inr ⟨g, cap, f, vs, rfl, hN, hM, hlc, hm, hr.of_block (hk g hN hM hr.lt), ⟨h.cells, fun i hi => (h.own i hi).block (fun b hb hl => hk b ((h.own i hi).blk b hb).1 (h.hi i hi b hb) hl), h.hi, h.out, h.asc⟩⟩

theorem ViewsOwn.on {N M : Nat} {w w' : World} {v : Value} {ls : List ViewV} (hb : Below w.heap.size w w') (h : ViewsOwn N M w v ls) : ViewsOwn N M w' v ls := h.keep (fun b _ _ hl => hb.block b hl)

theorem ViewsOwn.wide {N M N' M' : Nat} {w : World} {v : Value} {ls : List ViewV} (hN' : N' ≤ N) (hM' : M ≤ M') (h : ViewsOwn N M w v ls) : ViewsOwn N' M' w v ls := by
  rcases h with ⟨rfl, rfl⟩ | ⟨g, cap, f, vs, rfl, hN, hM, hlc, hm, hr, h⟩
  · exact Or.inl ⟨rfl, rfl⟩
  · exact Or.inr ⟨g, cap, f, vs, rfl, by omega, by omega, hlc, hm, hr, ⟨h.cells, fun i hi => (h.own i hi).less hN', fun i hi b hb => Nat.lt_of_lt_of_le (h.hi i hi b hb) hM', h.out, h.asc⟩⟩

theorem ViewsRow.set {N M : Nat} {w w' : World} {g i : Nat} {f f' : Nat → Value} {vs : Nat → Value} {ms : List ViewV} {l : ViewV} (h : ViewsRow N M w g f vs ms) (hi : i < ms.length)
    (hf : ∀ j, f' j = if i * 3 ≤ j ∧ j < i * 3 + 3 then (viewCells l.inc l.ver (vs i)).getD (j - i * 3) undef else f j)
    (ho : ∀ b, b ≠ g → (vs i).ownBlock ≠ some b → w'.heap[b]? = w.heap[b]?) (hq : RowsFr N 65 7 w' (vs i) (l.es.map evRow)) :
    ViewsRow N M w' g f' vs (ms.set i l) := by
  refine ⟨fun k hk j hj => ?_, fun k hk => ?_, fun k hk => h.hi k (by simpa using hk), fun k hk => h.out k (by simpa using hk), fun a b hab hb => h.asc a b hab (by simpa using hb)⟩
  · have hk2 : k < ms.length := by simpa using hk
    by_cases e : k = i
    · subst e
      have hj2 : j < (viewCells l.inc l.ver (vs k)).length := hj
      rw [hf, if_pos (by omega), Nat.add_sub_cancel_left, List.getD_eq_getElem?_getD, List.getElem?_eq_getElem hj2, Option.getD_some]
      simp
    · have e2 : (ms.set i l)[k] = ms[k] := by simp [List.getElem_set, Ne.symm e]
      rw [hf, if_neg (by rcases Nat.lt_or_gt_of_ne e with h1 | h1 <;> omega), h.cells k hk2 j hj]
      simp only [e2]
  · have hk2 : k < ms.length := by simpa using hk
    by_cases e : k = i
    · subst e
      simpa using hq
    · have e2 : (ms.set i l)[k] = ms[k] := by simp [List.getElem_set, Ne.symm e]
      rw [e2]
      refine (h.own k hk2).block (fun b hb _ => ho b (fun e3 => h.out k hk2 (e3 ▸ hb)) (fun h4 => ?_))
      rcases Nat.lt_or_gt_of_ne e with h5 | h5
      · exact h.asc k i h5 hi b hb h4
      · exact h.asc i k h5 hk2 b h4 hb

def szV (l : ViewV) : Int := 2 + 7 * (l.es.length : Int)
def markV (k : Int) (l : ViewV) : ViewV := ⟨k, k + 1, markEvs (k + 2) l.es.length⟩
theorem szV_pos (l : ViewV) : 0 ≤ szV l := by unfold szV; omega
theorem markV_cells (m : Int) (l : ViewV) (a : Value) : ([.int .i64 m, .int .i64 (m + 1)] : List Value) ++ [a] = viewCells (markV m l).inc (markV m l).ver a := by
  simp only [markV, viewCells, List.cons_append, List.nil_append]

end Go.Proofs.Ytimkamgghkjhhaa
