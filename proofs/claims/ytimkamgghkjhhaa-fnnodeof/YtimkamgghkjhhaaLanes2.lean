/- Lists of lanes in memory of their own; their marks. -/
import Derived.Test.YtimkamgghkjhhaaLanes1
import Derived.Test.YtimkamgghkjhhaaOwn6
import Derived.Test.YtimkamgghkjhhaaOwn5
import Derived.Test.YtimkamgghkjhhaaGMark
namespace Go.Proofs.Ytimkamgghkjhhaa
open Go.RowKit
set_option linter.unusedVariables false
set_option linter.unusedSimpArgs false

structure LanesRow (N M : Nat) (w : World) (g : Nat) (f : Nat → Value) (A B : Nat → Nat) (vs : Nat → Value) (ls : List LaneV) : Prop where
  cells : ∀ i (h : i < ls.length) j (hj : j < 5), f (i * 5 + j) = (laneCells ls[i].proc ls[i].s (vs i))[j]
  own : ∀ i (h : i < ls.length), PastsOwn (A i) (B i) w (vs i) ls[i].ps
  lo : ∀ i, i < ls.length → N ≤ A i
  hi : ∀ i, i < ls.length → B i ≤ M
  out : ∀ i, i < ls.length → g < A i ∨ B i ≤ g
  asc : ∀ i j, i < j → j < ls.length → B i ≤ A j

/-- A list of such in memory of its own, all within the blocks from N on ahead of M. -/
def LanesOwn (N M : Nat) (w : World) (v : Value) (ls : List LaneV) : Prop :=
  (v = .slice none 0 0 ∧ ls = []) ∨ ∃ g cap f, ∃ (A B : Nat → Nat) (vs : Nat → Value), v = .slice (some ⟨g, 0, none⟩) ls.length cap ∧ N ≤ g ∧ g < M ∧ ls.length ≤ cap ∧ cap ≤ maxLen ∧ w.rowIs g 37 (cap * 5) f ∧ LanesRow N M w g f A B vs ls

theorem LanesOwn.at {N M : Nat} {w : World} {v : Value} {ls : List LaneV} (h : LanesOwn N M w v ls) : LanesAt w v ls := by
  rcases h with ⟨rfl, rfl⟩ | ⟨g, cap, f, A, B, vs, rfl, hN, hM, hlc, hm, hr, h⟩
  · exact ⟨none, 0, rfl, Nat.le_refl _, Nat.zero_le _, Or.inl rfl⟩
  · refine ⟨_, cap, rfl, hlc, Nat.le_trans hlc hm, Or.inr ⟨g, 0, rfl, fun i hi => ⟨vs i, fun j hj => ?_, (h.own i hi).at⟩⟩⟩
    have hj5 : j < 5 := hj
    rw [Nat.zero_add, hr.cell (i := i * 5 + j) (mul_place (by omega) hj5), h.cells i hi j hj5]

theorem LanesOwn.keep {N M : Nat} {w w' : World} {v : Value} {ls : List LaneV} (hk : ∀ b, N ≤ b → b < M → b < w.heap.size → w'.heap[b]? = w.heap[b]?) (h : LanesOwn N M w v ls) : LanesOwn N M w' v ls := by
  rcases h with ⟨rfl, rfl⟩ | ⟨g, cap, f, A, B, vs, rfl, hN, hM, hlc, hm, hr, h⟩
  · exact Or.inl ⟨rfl, rfl⟩
  · exact Or.inr ⟨g, cap, f, A, B, vs, rfl, hN, hM, hlc, hm, hr.of_block (hk g hN hM hr.lt), ⟨h.cells, fun i hi => (h.own i hi).keep2 (fun b h1 h2 h3 => hk b (Nat.le_trans (h.lo i hi) h1) (Nat.lt_of_lt_of_le h2 (h.hi i hi)) h3), h.lo, h.hi, h.out, h.asc⟩⟩

theorem LanesOwn.on {N M : Nat} {w w' : World} {v : Value} {ls : List LaneV} (hb : Below w.heap.size w w') (h : LanesOwn N M w v ls) : LanesOwn N M w' v ls := h.keep (fun b _ _ hl => hb.block b hl)

theorem LanesOwn.wide {N M N' M' : Nat} {w : World} {v : Value} {ls : List LaneV} (hN' : N' ≤ N) (hM' : M ≤ M') (h : LanesOwn N M w v ls) : LanesOwn N' M' w v ls := by
  rcases h with ⟨rfl, rfl⟩ | ⟨g, cap, f, A, B, vs, rfl, hN, hM, hlc, hm, hr, h⟩
  · exact Or.inl ⟨rfl, rfl⟩
  · exact Or.inr ⟨g, cap, f, A, B, vs, rfl, by omega, by omega, hlc, hm, hr, ⟨h.cells, h.own, fun i hi => Nat.le_trans hN' (h.lo i hi), fun i hi => Nat.le_trans (h.hi i hi) hM', h.out, h.asc⟩⟩

theorem LanesRow.set {N M : Nat} {w w' : World} {g i : Nat} {f f' : Nat → Value} {A B : Nat → Nat} {vs : Nat → Value} {ms : List LaneV} {l : LaneV} (h : LanesRow N M w g f A B vs ms) (hi : i < ms.length)
    (hf : ∀ j, f' j = if i * 5 ≤ j ∧ j < i * 5 + 5 then (laneCells l.proc l.s (vs i)).getD (j - i * 5) undef else f j)
    (ho : ∀ b, b ≠ g → ¬ (A i ≤ b ∧ b < B i) → w'.heap[b]? = w.heap[b]?) (hq : PastsOwn (A i) (B i) w' (vs i) l.ps) :
    LanesRow N M w' g f' A B vs (ms.set i l) := by
  refine ⟨fun k hk j hj => ?_, fun k hk => ?_, fun k hk => h.lo k (by simpa using hk), fun k hk => h.hi k (by simpa using hk), fun k hk => h.out k (by simpa using hk), fun a b hab hb => h.asc a b hab (by simpa using hb)⟩
  · have hk2 : k < ms.length := by simpa using hk
    by_cases e : k = i
    · subst e
      have hj2 : j < (laneCells l.proc l.s (vs k)).length := hj
      rw [hf, if_pos (by omega), Nat.add_sub_cancel_left, List.getD_eq_getElem?_getD, List.getElem?_eq_getElem hj2, Option.getD_some]
      simp
    · have e2 : (ms.set i l)[k] = ms[k] := by simp [List.getElem_set, Ne.symm e]
      rw [hf, if_neg (by rcases Nat.lt_or_gt_of_ne e with h1 | h1 <;> omega), h.cells k hk2 j hj]
      simp only [e2]
  · have hk2 : k < ms.length := by simpa using hk
    by_cases e : k = i
    · subst e
      simpa using hq
    · have e2 : (ms.set i l)[k] = ms[k] := by simp [List.getElem_set, Ne.symm e]
      rw [e2]
      refine (h.own k hk2).keep (fun b h1 h2 => ho b ?_ ?_)
      · rintro rfl
        have := h.out k hk2
        omega
      · rintro ⟨h3, h4⟩
        rcases Nat.lt_or_gt_of_ne e with h5 | h5
        · have := h.asc k i h5 hi; omega
        · have := h.asc i k h5 hk2; omega

def szL (l : LaneV) : Int := 4 + szPs l.ps
def markL (k : Int) (l : LaneV) : LaneV := ⟨k, ⟨k + 1, k + 2, k + 3⟩, markPs (k + 4) l.ps⟩
theorem szL_pos (l : LaneV) : 0 ≤ szL l := by have := szPs_pos l.ps; unfold szL; omega
theorem markL_cells (m : Int) (l : LaneV) (a : Value) : ([.int .i64 m, .int .i64 (m + 1), .int .i64 (m + 1 + 1), .int .i64 (m + 1 + 1 + 1)] : List Value) ++ [a] = laneCells (markL m l).proc (markL m l).s a := by
  simp only [markL, laneCells, List.cons_append, List.nil_append, List.cons.injEq, Value.int.injEq, and_true, true_and]
  omega

end Go.Proofs.Ytimkamgghkjhhaa
