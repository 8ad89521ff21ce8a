/- EventLess and OutLess of spec; two rows of numbers in memory. -/
import Derived.Test.YtiljjhipiinafaaGreatLess1
import Derived.Deep.AppendLies
import Derived.Deep.OwnRows
import Derived.Deep.CutRange
namespace Go.Proofs.YtiljjhipiinafaaGreat
open Go.RowKit
set_option linter.unusedVariables false
attribute [local go_sem ↓] Go.wp_at_zero Go.wp_at_succ

theorem blk_drew (w : World) (k : Nat) : w.drew.heap[k]? = w.heap[k]? := rfl

theorem blk_at (w : World) (o : Obj) (k : Nat) : (w.alloc o).heap[k]? = if k = w.heap.size then some o else w.heap[k]? := by
  by_cases h : k = w.heap.size
  · subst h; rw [if_pos rfl]; exact heap_alloc_new w o
  · rw [if_neg h]
    by_cases h2 : k < w.heap.size
    · exact Deep.blk_alloc_lt _ _ _ h2
    · rw [Array.getElem?_eq_none (by simp; omega), Array.getElem?_eq_none (by omega)]

theorem ints_evv {w : World} {b t : Nat} {a0 a1 a2 a3 a4 a5 a6 : Int} (h : w.heap[b]? = some (.cells #[.int .i64 a0, .int .i64 a1, .int .i64 a2, .int .i64 a3, .int .i64 a4, .int .i64 a5, .int .i64 a6] t)) : IntsAt w b 0 [a0, a1, a2, a3, a4, a5, a6] := fun i hi => by
  have hn := World.news_of_block h i
  have e : ((⟨b, 0, none⟩ : Addr).add i) = ⟨b, 0 + i, none⟩ := by simp [Addr.add]; omega
  rw [e] at hn
  refine hn _ ?_
  match i, hi with
  | 0, _ => rfl
  | 1, _ => rfl
  | 2, _ => rfl
  | 3, _ => rfl
  | 4, _ => rfl
  | 5, _ => rfl
  | 6, _ => rfl

theorem ints_outv {w : World} {b t : Nat} {a0 a1 a2 a3 a4 : Int} (h : w.heap[b]? = some (.cells #[.int .i64 a0, .int .i64 a1, .int .i64 a2, .int .i64 a3, .int .i64 a4] t)) : IntsAt w b 0 [a0, a1, a2, a3, a4] := fun i hi => by
  have hn := World.news_of_block h i
  have e : ((⟨b, 0, none⟩ : Addr).add i) = ⟨b, 0 + i, none⟩ := by simp [Addr.add]; omega
  rw [e] at hn
  refine hn _ ?_
  match i, hi with
  | 0, _ => rfl
  | 1, _ => rfl
  | 2, _ => rfl
  | 3, _ => rfl
  | 4, _ => rfl

set_option maxRecDepth 100000 in
set_option maxHeartbeats 1000000 in
theorem specEventLess_any (a b : EvV) (w : World) :
    Calls Tryz.prog 75 #[evAgg a, evAgg b] w fun e w' => e = .returned (.bool (evLess a b)) ∧ Below w.heap.size w w' := by
  obtain ⟨a0, a1, a2, a3, a4, a5, a6⟩ := a
  obtain ⟨b0, b1, b2, b3, b4, b5, b6⟩ := b
  simp only [evLess, evRow, lexL]
  by_cases h0 : a0 = b0
  · subst h0
    rw [if_pos rfl]
    have g0 : (a0 != a0) = false := by simp
    by_cases h1 : a1 = b1
    · subst h1
      rw [if_pos rfl]
      have g1 : (a1 != a1) = false := by simp
      by_cases h2 : a2 = b2
      · subst h2
        rw [if_pos rfl]
        have g2 : (a2 != a2) = false := by simp
        by_cases h3 : a3 = b3
        · subst h3
          rw [if_pos rfl]
          have g3 : (a3 != a3) = false := by simp
          by_cases h4 : a4 = b4
          · subst h4
            rw [if_pos rfl]
            have g4 : (a4 != a4) = false := by simp
            by_cases h5 : a5 = b5
            · subst h5
              rw [if_pos rfl]
              have g5 : (a5 != a5) = false := by simp
              have hl : (if a6 = b6 then false else decide (a6 < b6)) = decide (a6 < b6) := by split <;> simp_all
              rw [hl]
              go_enter Tryz.func75, Tryz.ntmps75
              go_wp2
              go_ret
              exact ⟨rfl, ((Below.refl _ _).alloc (Nat.le_refl _) _).alloc (by simp) _⟩
            · rw [if_neg h5]
              have g5 : (a5 != b5) = true := by simp [h5]
              go_enter Tryz.func75, Tryz.ntmps75
              go_wp2
              go_ret
              exact ⟨rfl, ((Below.refl _ _).alloc (Nat.le_refl _) _).alloc (by simp) _⟩
          · rw [if_neg h4]
            have g4 : (a4 != b4) = true := by simp [h4]
            go_enter Tryz.func75, Tryz.ntmps75
            go_wp2
            go_ret
            exact ⟨rfl, ((Below.refl _ _).alloc (Nat.le_refl _) _).alloc (by simp) _⟩
        · rw [if_neg h3]
          have g3 : (a3 != b3) = true := by simp [h3]
          go_enter Tryz.func75, Tryz.ntmps75
          go_wp2
          go_ret
          exact ⟨rfl, ((Below.refl _ _).alloc (Nat.le_refl _) _).alloc (by simp) _⟩
      · rw [if_neg h2]
        have g2 : (a2 != b2) = true := by simp [h2]
        go_enter Tryz.func75, Tryz.ntmps75
        go_wp2
        go_ret
        exact ⟨rfl, ((Below.refl _ _).alloc (Nat.le_refl _) _).alloc (by simp) _⟩
    · rw [if_neg h1]
      have g1 : (a1 != b1) = true := by simp [h1]
      go_enter Tryz.func75, Tryz.ntmps75
      go_wp2
      go_ret
      exact ⟨rfl, ((Below.refl _ _).alloc (Nat.le_refl _) _).alloc (by simp) _⟩
  · rw [if_neg h0]
    have g0 : (a0 != b0) = true := by simp [h0]
    go_enter Tryz.func75, Tryz.ntmps75
    go_wp2
    go_ret
    exact ⟨rfl, ((Below.refl _ _).alloc (Nat.le_refl _) _).alloc (by simp) _⟩

end Go.Proofs.YtiljjhipiinafaaGreat
