/- The numbers of a word; spec.l26Event, spec.l26Out. -/
import Derived.Test.YtiljjhipiinafaaWire1
import Derived.Test.YtiljjhipiinafaaWord4
namespace Go.Proofs.Ytiljjhipiinafaa
open Go.RowKit
set_option linter.unusedVariables false
set_option linter.unusedSimpArgs false

def headNums (n : WordV) : List Int := [n.kind, n.frm, n.dst, n.inc, n.ver, n.rd, n.g]
def wordNums (n : WordV) : List Int :=
  headNums n ++ (((n.incs.length : Int) :: n.incs) ++ (((n.vers.length : Int) :: n.vers) ++ (((n.evs.length : Int) :: n.evs.flatMap evRow) ++ ((n.outs.length : Int) :: n.outs.flatMap outRow))))
def packW (n : WordV) : List Int := packI (wordNums n)

/-- What being ok says of a word's numbers. -/
structure WordIn (n : WordV) : Prop where
  head : ∀ z ∈ headNums n, 0 ≤ z ∧ z ≤ 9999
  incs : n.incs.length ≤ 3 ∧ ∀ z ∈ n.incs, 0 ≤ z ∧ z ≤ 9999
  vers : n.vers.length ≤ 3 ∧ ∀ z ∈ n.vers, 0 ≤ z ∧ z ≤ 9999
  evs : n.evs.length ≤ 100 ∧ ∀ e ∈ n.evs, ∀ z ∈ evRow e, -1 ≤ z ∧ z ≤ 9999
  outs : n.outs.length ≤ 96 ∧ ∀ o ∈ n.outs, ∀ z ∈ outRow o, 0 ≤ z ∧ z ≤ 9999

theorem wordOk_in {n : WordV} (h : wordOk n = true) : WordIn n := by
  simp only [wordOk, numsOk, inOrder, Bool.and_eq_true, Bool.or_eq_true, List.all_eq_true, decide_eq_true_eq] at h
  obtain ⟨h0, h1, h2, h3, h4, h5, h6, ⟨h7, h7a⟩, ⟨h8, h8a⟩, ⟨⟨h9, h9a⟩, _⟩, ⟨⟨h10, h10a⟩, _⟩⟩ := h
  simp only [inR, Bool.and_eq_true, decide_eq_true_eq] at h0 h1 h2 h3 h4 h5 h6 h7a h8a
  refine ⟨fun z hz => ?_, ⟨by omega, h7a⟩, ⟨by omega, h8a⟩, ⟨by omega, fun e he z hz => ?_⟩, ⟨by omega, fun o ho z hz => ?_⟩⟩
  · simp only [headNums, List.mem_cons, List.not_mem_nil, or_false] at hz
    omega
  · have h := h9a e he
    simp only [evOk, inR, Bool.and_eq_true, decide_eq_true_eq] at h
    simp only [evRow, List.mem_cons, List.not_mem_nil, or_false] at hz
    omega
  · have h := h10a o ho
    simp only [outOk, inR, Bool.and_eq_true, decide_eq_true_eq] at h
    simp only [outRow, List.mem_cons, List.not_mem_nil, or_false] at hz
    omega

theorem Gr.rows {n : Nat} {v u vl : Value} {rs : List (List Int)} {w W : World} (hg : Gr v u w W) (h : RowsAt n w vl rs) (hne : ∀ b, vl.ownBlock = some b → v.ownBlock ≠ some b) : RowsAt n W vl rs := by
  obtain ⟨ad, cap, hv, hl, hm, h⟩ := h
  refine ⟨ad, cap, hv, hl, hm, ?_⟩
  rcases h with h | ⟨b, off, had, hc⟩
  · exact Or.inl h
  · exact Or.inr ⟨b, off, had, fun i hi j hj => hg.cell (hc i hi j hj) (hne b (by rw [hv, had]; rfl))⟩

theorem nums_of_cells {w : World} {b : Nat} {zs : List Int} (h : CellsAt w b 0 (zs.map (Value.int .i64))) (hz : zs.length ≤ maxLen) : NumsAt w (.slice (some ⟨b, 0, none⟩) zs.length zs.length) zs := by
  refine ⟨some ⟨b, 0, none⟩, zs.length, by rw [List.length_map], by rw [List.length_map]; exact Nat.le_refl _, by rw [List.length_map]; exact hz, Or.inr ⟨b, 0, rfl, fun i hi j hj => ?_⟩⟩
  obtain rfl : j = 0 := by omega
  have hi' : i < zs.length := by simpa using hi
  have := h i (by simpa using hi')
  simpa using this

set_option maxRecDepth 100000 in
set_option maxHeartbeats 2000000 in
theorem l26Event_any (e : EvV) (w : World) :
    Calls Try.prog 27 #[evAgg e] w fun r w' => r = .returned (.slice (some ⟨w.heap.size + 1, 0, none⟩) 7 7) ∧ NumsAt w' (.slice (some ⟨w.heap.size + 1, 0, none⟩) 7 7) (evRow e) ∧ Below w.heap.size w w' := by
  obtain ⟨x0, x1, x2, x3, x4, x5, x6⟩ := e
  go_enter Try.func27, Try.ntmps27
  go_wp2
  go_ret
  refine ⟨rfl, nums_of_cells (zs := evRow ⟨x0, x1, x2, x3, x4, x5, x6⟩) ?_ (by unfold maxLen; simp [evRow]), ((Below.refl _ _).alloc (Nat.le_refl _) _).alloc (by simp) _⟩
  have h := cellsAt_new (w.alloc (.cells #[.int .i64 x0, .int .i64 x1, .int .i64 x2, .int .i64 x3, .int .i64 x4, .int .i64 x5, .int .i64 x6] 53)) ((evRow ⟨x0, x1, x2, x3, x4, x5, x6⟩).map (Value.int .i64)) 3
  rw [show (w.alloc (.cells #[.int .i64 x0, .int .i64 x1, .int .i64 x2, .int .i64 x3, .int .i64 x4, .int .i64 x5, .int .i64 x6] 53)).heap.size = w.heap.size + 1 by simp] at h
  exact h

set_option maxRecDepth 100000 in
set_option maxHeartbeats 2000000 in
theorem l26Out_any (o : OutV) (w : World) :
    Calls Try.prog 28 #[outAgg o] w fun r w' => r = .returned (.slice (some ⟨w.heap.size + 1, 0, none⟩) 5 5) ∧ NumsAt w' (.slice (some ⟨w.heap.size + 1, 0, none⟩) 5 5) (outRow o) ∧ Below w.heap.size w w' := by
  obtain ⟨x0, x1, x2, x3, x4⟩ := o
  go_enter Try.func28, Try.ntmps28
  go_wp2
  go_ret
  refine ⟨rfl, nums_of_cells (zs := outRow ⟨x0, x1, x2, x3, x4⟩) ?_ (by unfold maxLen; simp [outRow]), ((Below.refl _ _).alloc (Nat.le_refl _) _).alloc (by simp) _⟩
  have h := cellsAt_new (w.alloc (.cells #[.int .i64 x0, .int .i64 x1, .int .i64 x2, .int .i64 x3, .int .i64 x4] 56)) ((outRow ⟨x0, x1, x2, x3, x4⟩).map (Value.int .i64)) 3
  rw [show (w.alloc (.cells #[.int .i64 x0, .int .i64 x1, .int .i64 x2, .int .i64 x3, .int .i64 x4] 56)).heap.size = w.heap.size + 1 by simp] at h
  exact h
end Go.Proofs.Ytiljjhipiinafaa
