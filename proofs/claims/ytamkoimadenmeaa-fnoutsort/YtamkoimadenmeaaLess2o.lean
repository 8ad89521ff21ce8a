/- Rows of numbers in memory. -/
import Derived.Test.YtamkoimadenmeaaLess1
import Derived.Deep.AppendLies
import Derived.Deep.OwnRows
import Derived.Deep.CutRange
namespace Go.Proofs.Ytamkoimadenmeaa
open Go.RowKit
set_option linter.unusedVariables false
attribute [local go_sem ↓] Go.wp_at_zero Go.wp_at_succ

theorem blk_drew (w : World) (k : Nat) : w.drew.heap[k]? = w.heap[k]? := rfl

theorem blk_at (w : World) (o : Obj) (k : Nat) : (w.alloc o).heap[k]? = if k = w.heap.size then some o else w.heap[k]? := by
  by_cases h : k = w.heap.size
  · subst h; rw [if_pos rfl]; exact heap_alloc_new w o
  · rw [if_neg h]
    by_cases h2 : k < w.heap.size
    · exact Deep.blk_alloc_lt _ _ _ h2
    · rw [Array.getElem?_eq_none (by simp; omega), Array.getElem?_eq_none (by omega)]

theorem ints_outv {w : World} {b t : Nat} {a0 a1 a2 a3 a4 : Int} (h : w.heap[b]? = some (.cells #[.int .i64 a0, .int .i64 a1, .int .i64 a2, .int .i64 a3, .int .i64 a4] t)) : IntsAt w b 0 [a0, a1, a2, a3, a4] := fun i hi => by
  have hn := World.news_of_block h i
  have e : ((⟨b, 0, none⟩ : Addr).add i) = ⟨b, 0 + i, none⟩ := by simp [Addr.add]; omega
  rw [e] at hn
  refine hn _ ?_
  match i, hi with
  | 0, _ => rfl
  | 1, _ => rfl
  | 2, _ => rfl
  | 3, _ => rfl
  | 4, _ => rfl

end Go.Proofs.Ytamkoimadenmeaa
