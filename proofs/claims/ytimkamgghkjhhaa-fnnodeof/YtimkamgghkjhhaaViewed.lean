/- A node that is made, and its views so far, as they are appended. -/
import Derived.Test.YtimkamgghkjhhaaViewF
import Derived.Test.YtimkamgghkjhhaaNode2
import Derived.Test.YtimkamgghkjhhaaLanes3
import Derived.Test.YtimkamgghkjhhaaHeapC
import Derived.Deep.AppendLies
import Derived.OneCell
namespace Go.Proofs.Ytimkamgghkjhhaa
open Go.RowKit
set_option linter.unusedVariables false
set_option linter.unusedSimpArgs false

theorem slice_ViewT : Try.prog.underlying 28 = some (.slice 106) := by kernel_rfl
theorem info_ViewT : (Try.prog.info? 106).map (fun i => (i.zero, i.size, i.bytes)) = some (some (.agg #[.int .i64 0, .int .i64 0, .slice none 0 0]), 3, 40) := by kernel_rfl

/-- A look-up in a map of views that is empty. -/
theorem look_none {w : World} {m : Nat} (k : Int) (h : w.heap[m]? = some (.map #[] 0)) :
    (Instr.lookup 70 (.map (some m)) (.int .i64 k) false).run Try.prog w = .ok (.agg #[.int .i64 0, .int .i64 0, .slice none 0 0]) w := by
  have hu : Try.prog.underlying 70 = some (.map 3 106) := by kernel_rfl
  have hc : ∀ w : World, (Instr.checkKey true 10000 3 (.int .i64 k)).run Try.prog w = .ok () w := fun w => by kernel_rfl
  have hc2 : ∀ w : World, (Instr.checkKey false 10000 3 (.int .i64 k)).run Try.prog w = .ok () w := fun w => by kernel_rfl
  have hz : ∀ w : World, (zeroValue 106).run Try.prog w = .ok (.agg #[.int .i64 0, .int .i64 0, .slice none 0 0]) w := fun w => by kernel_rfl
  have hf : (Instr.findKey 3 (.int .i64 k) []).run Try.prog w = .ok none w := by kernel_rfl
  simp [Instr.lookup, run_underlying hu, MapKept.run_getObj_map h, hc, hc2, hf, hz, Result.andThen]

theorem nodeRow_views {w : World} {q : Nat} {n : NodeV} {vl vk vo vv vn u : Value} (h : w.rowIs q 31 13 (fun i => (nodeCells n vl vk vo vv vn).getD i undef)) :
    (w.setCell ⟨q, 9, none⟩ u).rowIs q 31 13 (fun i => (nodeCells n vl vk vo u vn).getD i undef) :=
  (setVals_row [u] 9 w _ h).congr (fun i hi => by
    match i, hi with
    | 0, _ => rfl
    | 1, _ => rfl
    | 2, _ => rfl
    | 3, _ => rfl
    | 4, _ => rfl
    | 5, _ => rfl
    | 6, _ => rfl
    | 7, _ => rfl
    | 8, _ => rfl
    | 9, _ => rfl
    | 10, _ => rfl
    | 11, _ => rfl
    | 12, _ => rfl)

/-- The node's row, its views so far in blocks from K on; of what lay there only the node's block has turned. -/
structure Viewed (K B q : Nat) (n : NodeV) (vl vk vo vn : Value) (k : Nat) (vv : Value) (W0 W w : World) : Prop where
  row : w.rowIs q 31 13 (fun i => (nodeCells n vl vk vo vv vn).getD i undef)
  own : w.ownsRow K 106 3 vv k (viewFlat k)
  keep : ∀ b, b < K → b ≠ q → w.heap[b]? = W.heap[b]?
  size : K ≤ w.heap.size
  bel : Below B W0 w

theorem Viewed.step {K B q : Nat} {n : NodeV} {vl vk vo vn vv : Value} {k gg cap : Nat} {W0 W wr A w1 : World} (h : Viewed K B q n vl vk vo vn k vv W0 W wr) (hq : q < K) (hB : B ≤ q) (hbA : Below wr.heap.size wr A) (hgrow : A.grownBy w1 vv.ownBlock)
    (hown : w1.ownsRow K 106 3 (.slice (some ⟨gg, 0, none⟩) (k + 1) cap) (k + 1) (viewFlat k ++ [.int .i64 0, .int .i64 0, .slice none 0 0])) :
    Viewed K B q n vl vk vo vn (k + 1) (.slice (some ⟨gg, 0, none⟩) (k + 1) cap) W0 W (w1.setCell ⟨q, 9, none⟩ (.slice (some ⟨gg, 0, none⟩) (k + 1) cap)) := by
  have hs := h.size
  have hsA := hbA.size
  have hlt := h.own.lt
  have hgg := hown.lt gg rfl
  have e : ∀ b, b < K → w1.heap[b]? = wr.heap[b]? := fun b hb =>
    (hgrow.block b (by omega) (fun e => by have := (hlt b e.symm).1; omega)).trans (hbA.block b (by omega))
  refine ⟨nodeRow_views (h.row.of_block (e q hq)), ?_, fun b hb hne => ?_, ?_, ?_⟩
  · exact ownsRow_setCell_other hown (fun e2 => by
      have e3 : gg = q := by simpa [Value.ownBlock] using e2
      omega) _
  · exact (Below.heap_setCell w1 ⟨q, 9, none⟩ _ b hne).trans ((e b hb).trans (h.keep b hb hne))
  · have := hgrow.size
    simp
    omega
  · exact (Below.grown (h.bel.trans (hbA.mono (by omega))) hgrow (by omega) (fun b hb => by have := (hlt b hb).1; omega)).setCell (show B ≤ q from hB) _
end Go.Proofs.Ytimkamgghkjhhaa
