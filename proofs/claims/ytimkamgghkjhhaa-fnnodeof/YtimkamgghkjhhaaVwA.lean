/- impl.copyView of a view in which nothing was told; lists of such views as they are appended. -/
import Derived.Test.YtimkamgghkjhhaaCopyW
import Derived.Test.YtimkamgghkjhhaaViews2
import Derived.Test.YtimkamgghkjhhaaBox
import Derived.Deep.Cut
import Derived.Test.YtimkamgghkjhhaaNode2
import Derived.Test.YtimkamgghkjhhaaLanes3
import Derived.Test.YtimkamgghkjhhaaHeapC
import Derived.Deep.AppendLies
import Derived.OneCell
namespace Go.Proofs.Ytimkamgghkjhhaa
open Go.RowKit
set_option linter.unusedVariables false
set_option linter.unusedSimpArgs false

theorem wpList_append_none {P : Program} (w : World) {ops : Array Oper} {rest : List Oper} {o : Oper} {a : Act} {Q : Exit → Act → World → Prop} (hgd : o.guard = none) (s x : Operand) (t : TypeId)
    (ho : o.op = .call { callee := .builtin .append, args := #[s, x], argTypes := #[t, t] })
    (base : Nat) (e : TypeId) (i : TypeInfo) (size : Nat) (ht : P.underlying t = some (.slice e)) (hi : P.info? e = some i)
    (v : Value) (n : Nat) (xs : List Value) (hs : a.eval s = v) (hown : w.ownsRow base e size v n xs) (c : Nat) (hx : a.eval x = .slice none 0 c)
    (h : wpList P ops Q rest (a.put o.dst v) w) : wpList P ops Q (o :: rest) a w :=
  wpList_plain hgd fun K hK => by
    have hrun := run_append_none_any (P := P) (w := w) base t o.type e i size ht hi v n xs hown c
    have hfin := hK _ _ h
    unfold Oper.wp execOp
    simp only [ho, resolve, invoke, builtin, Sem.run_bind, Sem.run_pure, Result.andThen_ok, List.map_toArray, List.map_cons, List.map_nil, hs, hx, hrun]
    exact hfin

set_option maxRecDepth 100000 in
theorem copyListEvent_nil (c : Nat) (w : World) : Calls Try.prog 62 #[.slice none 0 c] w fun e w' => e = .returned (.slice none 0 0) ∧ w' = w := by
  obtain ⟨i7, hi7, hz70, hz71, hz72⟩ := infoT_parts info_cpEvent
  go_enter Try.func62, Try.ntmps62
  go_wp2_with (at_builtin; refine wpList_append_none w (by rfl) _ _ _ (by rfl) w.heap.size 65 i7 7 slice_cpEvent hi7 (.slice none 0 0) 0 [] (by rfl) (World.ownsRow_nil w _ _ _) c (by rfl) ?_)
  go_ret
  exact ⟨rfl, rfl⟩

set_option maxRecDepth 100000 in
set_option maxHeartbeats 2000000 in
theorem copyView_nil (i r : Int) (c : Nat) (w : World) :
    Calls Try.prog 65 #[viewAgg i r (.slice none 0 c)] w fun e w' => e = .returned (viewAgg i r (.slice none 0 0)) ∧ Below w.heap.size w w' := by
  have hb0 : Below w.heap.size w ((w.alloc (.cells #[.int .i64 i, .int .i64 r, .slice none 0 c] 106)).alloc (.cells #[.int .i64 0, .int .i64 0, .slice none 0 0] 106)) := ((Below.refl _ _).alloc (Nat.le_refl _) _).alloc (by simp) _
  have cA : CellsAt ((w.alloc (.cells #[.int .i64 i, .int .i64 r, .slice none 0 c] 106)).alloc (.cells #[.int .i64 0, .int .i64 0, .slice none 0 0] 106)) w.heap.size 0 [.int .i64 i, .int .i64 r, .slice none 0 c] := (cellsAt_new w [.int .i64 i, .int .i64 r, .slice none 0 c] 106).on ((Below.refl _ _).alloc (Nat.le_refl _) _)
  have rB : ((w.alloc (.cells #[.int .i64 i, .int .i64 r, .slice none 0 c] 106)).alloc (.cells #[.int .i64 0, .int .i64 0, .slice none 0 0] 106)).rowIs (w.heap.size + 1) 106 3 (fun i => [Value.int .i64 0, .int .i64 0, .slice none 0 0].getD i undef) := by
    have e := row_new (w.alloc (.cells #[.int .i64 i, .int .i64 r, .slice none 0 c] 106)) [.int .i64 0, .int .i64 0, .slice none 0 0] 106
    have hs : (w.alloc (.cells #[.int .i64 i, .int .i64 r, .slice none 0 c] 106)).heap.size = w.heap.size + 1 := by simp
    rw [hs] at e
    exact e
  have hs0 : ((w.alloc (.cells #[.int .i64 i, .int .i64 r, .slice none 0 c] 106)).alloc (.cells #[.int .i64 0, .int .i64 0, .slice none 0 0] 106)).heap.size = w.heap.size + 2 := by simp
  have HB0 := hide hb0
  have HA := hide cA
  have HR := hide rB
  have HS0 := hide hs0
  clear hb0 cA rB hs0
  go_enter Try.func65, Try.ntmps65
  go_upto_region 1 with fail
  generalize ((w.alloc (.cells #[.int .i64 i, .int .i64 r, .slice none 0 c] 106)).alloc (.cells #[.int .i64 0, .int .i64 0, .slice none 0 0] 106)) = X at *
  refine wp_region_last (L := 8) (S := fun w' : World => w'.cell? ⟨w.heap.size, 0, none⟩ = some (.int .i64 i) ∧ w'.cell? ⟨w.heap.size, 1, none⟩ = some (.int .i64 r) ∧ w'.cell? ⟨w.heap.size, 2, none⟩ = some (.slice none 0 c)) (by kernel_rfl) ?_
  have hHeld : (fun w' : World => w'.cell? ⟨w.heap.size, 0, none⟩ = some (.int .i64 i) ∧ w'.cell? ⟨w.heap.size, 1, none⟩ = some (.int .i64 r) ∧ w'.cell? ⟨w.heap.size, 2, none⟩ = some (.slice none 0 c)) X.drew := ⟨((unhide HA).on (Below.refl _ _).drew) 0 (by simp), ((unhide HA).on (Below.refl _ _).drew) 1 (by simp), ((unhide HA).on (Below.refl _ _).drew) 2 (by simp)⟩
  refine wpAnyL_take (i := 0) (v := ?_) (by kernel_rfl) rfl (by kernel_rfl) (by kernel_rfl) (by kernel_rfl) (fun _ _ _ h => h) hHeld (Or.inl ⟨by kernel_rfl, ?_⟩) ?_
  rotate_left
  · (intro w hSw; (try dsimp only at hSw); obtain ⟨s0, s1, s2⟩ := hSw; go_simp; try with_reducible rfl)
  refine wpAnyL_take (i := 1) (v := ?_) (by kernel_rfl) rfl (by kernel_rfl) (by kernel_rfl) (by kernel_rfl) (fun _ _ _ h => h) hHeld (Or.inl ⟨by kernel_rfl, ?_⟩) ?_
  rotate_left
  · (intro w hSw; (try dsimp only at hSw); obtain ⟨s0, s1, s2⟩ := hSw; go_simp; try with_reducible rfl)
  refine wpAnyL_take (i := 2) (v := ?_) (by kernel_rfl) rfl (by kernel_rfl) (by kernel_rfl) (by kernel_rfl) (fun _ _ _ h => h) hHeld (Or.inl ⟨by kernel_rfl, ?_⟩) ?_
  rotate_left
  · (intro w hSw; (try dsimp only at hSw); obtain ⟨s0, s1, s2⟩ := hSw; go_simp; try with_reducible rfl)
  refine wpAnyL_take (i := 3) (v := ?_) (by kernel_rfl) rfl (by kernel_rfl) (by kernel_rfl) (by kernel_rfl) (fun _ _ _ h => h) hHeld (Or.inl ⟨by kernel_rfl, ?_⟩) ?_
  rotate_left
  · (intro w hSw; (try dsimp only at hSw); obtain ⟨s0, s1, s2⟩ := hSw; go_simp; try with_reducible rfl)
  refine wpAnyL_take (i := 4) (v := ?_) (by kernel_rfl) rfl (by kernel_rfl) (by kernel_rfl) (by kernel_rfl) (fun _ _ _ h => h) hHeld (Or.inl ⟨by kernel_rfl, ?_⟩) ?_
  rotate_left
  · (intro w hSw; (try dsimp only at hSw); obtain ⟨s0, s1, s2⟩ := hSw; go_simp; try with_reducible rfl)
  refine wpAnyL_take (i := 5) (v := ?_) (by kernel_rfl) rfl (by kernel_rfl) (by kernel_rfl) (by kernel_rfl) (fun _ _ _ h => h) hHeld (Or.inl ⟨by kernel_rfl, ?_⟩) ?_
  rotate_left
  · (intro w hSw; (try dsimp only at hSw); obtain ⟨s0, s1, s2⟩ := hSw; go_simp; try with_reducible rfl)
  refine wpAnyL_one (i := 6) (by kernel_rfl) rfl (fun K hK => ?_)
  go_simp
  refine (copyListEvent_nil _ X.drew).mono ?_
  rintro e w1 ⟨rfl, hw⟩
  have HX1 : Hid (Below X.heap.size X w1) := hide (by rw [hw]; exact (Below.refl _ _).drew)
  clear hw
  (try go_simp)
  refine held_on hK ?_ (fun hHeld => ?_)
  · exact ⟨((unhide HA).on (unhide HX1)) 0 (by simp), ((unhide HA).on (unhide HX1)) 1 (by simp), ((unhide HA).on (unhide HX1)) 2 (by simp)⟩
  clear hK K
  refine wpAnyL_one (i := 7) (by kernel_rfl) rfl (fun K hK => ?_)
  go_simp
  refine held_on hK ?_ (fun hHeld => ?_)
  · exact hHeld
  clear hK K
  have hrx := (unhide HR).of_block ((unhide HX1).block (w.heap.size + 1) (unhide HR).lt)
  have y0 : w1.cell? ⟨w.heap.size + 1, 0, none⟩ = some (.int .i64 0) := hrx.cell (i := 0) (by omega)
  have z0 := hrx.frozen 0
  have y1 : w1.cell? ⟨w.heap.size + 1, 1, none⟩ = some (.int .i64 0) := hrx.cell (i := 1) (by omega)
  have z1 := hrx.frozen 1
  have y2 : w1.cell? ⟨w.heap.size + 1, 2, none⟩ = some (.slice none 0 0) := hrx.cell (i := 2) (by omega)
  have z2 := hrx.frozen 2
  clear hrx
  refine wpAnyL_end (by kernel_rfl) rfl (fun K hK => ?_)
  go_simp
  refine hK.out _ _ ?_
  clear hK K
  refine wpAnyL_done (by kernel_rfl) ?_ _
  go_wp2_with fail
  have hss := unhide HS0
  refine bodyPost_ret (v := viewAgg i r (.slice none 0 0)) (by simp [results, Try.results65, go_sem, y0, y1, y2]) rfl ?_
  exact ⟨rfl, setVals_below (viewCells i r (.slice none 0 0)) 0 w1 (below_then (unhide HB0) (unhide HX1)) (by omega)⟩

/-- So many views in which nothing was told, as they lie in memory. -/
def nilViews (k : Nat) : List ViewV := List.replicate k ⟨0, 0, []⟩
def viewFlat : Nat → List Value
  | 0 => []
  | k + 1 => viewFlat k ++ [.int .i64 0, .int .i64 0, .slice none 0 0]
theorem viewFlat_len : ∀ k, (viewFlat k).length = k * 3
  | 0 => rfl
  | k + 1 => by simp [viewFlat, viewFlat_len k]; omega
theorem viewFlat_at : ∀ (k i : Nat), i < k → ∀ j, j < 3 → (viewFlat k)[i * 3 + j]? = some ([Value.int .i64 0, .int .i64 0, .slice none 0 0].getD j undef)
  | k + 1, i, h, j, hj => by
    have hl := viewFlat_len k
    rcases Nat.lt_or_ge i k with h1 | h1
    · have h2 : i * 3 + j < k * 3 := mul_place h1 hj
      rw [viewFlat, List.getElem?_append_left (by omega)]
      exact viewFlat_at k i h1 j hj
    · obtain rfl : i = k := by omega
      rw [viewFlat, List.getElem?_append_right (by omega), hl, show i * 3 + j - i * 3 = j by omega]
      match j, hj with
      | 0, _ => rfl
      | 1, _ => rfl
      | 2, _ => rfl

theorem viewsOwn_of_owns {N M k : Nat} {w : World} {v : Value} (h : w.ownsRow N 106 3 v k (viewFlat k)) (hM : w.heap.size ≤ M) : ViewsOwn N M w v (nilViews k) := by
  obtain ⟨hlen, ⟨rfl, h0⟩ | ⟨g, cap, cur, rfl, hN, hb, hl, hm, hs, ht⟩⟩ := h
  · exact Or.inl ⟨rfl, by rw [h0]; rfl⟩
  · have hg : g < w.heap.size := by
      rcases Nat.lt_or_ge g w.heap.size with h | h
      · exact h
      · rw [Array.getElem?_eq_none h] at hb; cases hb
    have hnl : (nilViews k).length = k := by simp [nilViews]
    have he : ∀ i (hi : i < (nilViews k).length), (nilViews k)[i] = ⟨0, 0, []⟩ := fun i hi => by simp [nilViews]
    refine Or.inr ⟨g, cap, fun i => cur.getD i default, fun _ => .slice none 0 0, by rw [hnl], hN, by omega, by rw [hnl]; exact hl, hm, ⟨cur, hb, hs, fun i hi => ?_⟩, ⟨fun i hi j hj => ?_, fun i hi => ?_, fun i hi b hb => (by cases hb), fun i hi e => (by cases e), fun i j _ _ g a _ => (by cases a)⟩⟩
    · simp [Array.getD, hs, hi]
    · have hi2 : i < k := by omega
      have h1 := viewFlat_at k i hi2 j hj
      have h2 : i * 3 + j < k * 3 := mul_place hi2 hj
      have h3 : k * 3 ≤ cap * 3 := Nat.mul_le_mul_right 3 hl
      rw [← ht, List.getElem?_take, if_pos h2, Array.getElem?_toList] at h1
      rw [Array.getElem?_eq_getElem (by omega)] at h1
      simp only [Option.some.injEq] at h1
      have h4 : cur.getD (i * 3 + j) default = cur[i * 3 + j]'(by omega) := by simp [Array.getD, show i * 3 + j < cur.size by omega]
      simp only [he i hi]
      refine h4.trans (h1.trans ?_)
      match j, hj with
      | 0, _ => rfl
      | 1, _ => rfl
      | 2, _ => rfl
    · rw [he i hi]
      exact Or.inl ⟨rfl, rfl⟩
end Go.Proofs.Ytimkamgghkjhhaa

/- A node that is made, and its views so far, as they are appended. -/
namespace Go.Proofs.Ytimkamgghkjhhaa
open Go.RowKit
set_option linter.unusedVariables false
set_option linter.unusedSimpArgs false

theorem slice_ViewT : Try.prog.underlying 28 = some (.slice 106) := by kernel_rfl
theorem info_ViewT : (Try.prog.info? 106).map (fun i => (i.zero, i.size, i.bytes)) = some (some (.agg #[.int .i64 0, .int .i64 0, .slice none 0 0]), 3, 40) := by kernel_rfl

/-- A look-up in a map of views that is empty. -/
theorem look_none {w : World} {m : Nat} (k : Int) (h : w.heap[m]? = some (.map #[] 0)) :
    (Instr.lookup 70 (.map (some m)) (.int .i64 k) false).run Try.prog w = .ok (.agg #[.int .i64 0, .int .i64 0, .slice none 0 0]) w := by
  have hu : Try.prog.underlying 70 = some (.map 3 106) := by kernel_rfl
  have hc : ∀ w : World, (Instr.checkKey true 10000 3 (.int .i64 k)).run Try.prog w = .ok () w := fun w => by kernel_rfl
  have hc2 : ∀ w : World, (Instr.checkKey false 10000 3 (.int .i64 k)).run Try.prog w = .ok () w := fun w => by kernel_rfl
  have hz : ∀ w : World, (zeroValue 106).run Try.prog w = .ok (.agg #[.int .i64 0, .int .i64 0, .slice none 0 0]) w := fun w => by kernel_rfl
  have hf : (Instr.findKey 3 (.int .i64 k) []).run Try.prog w = .ok none w := by kernel_rfl
  simp [Instr.lookup, run_underlying hu, MapKept.run_getObj_map h, hc, hc2, hf, hz, Result.andThen]

theorem nodeRow_views {w : World} {q : Nat} {n : NodeV} {vl vk vo vv vn u : Value} (h : w.rowIs q 31 13 (fun i => (nodeCells n vl vk vo vv vn).getD i undef)) :
    (w.setCell ⟨q, 9, none⟩ u).rowIs q 31 13 (fun i => (nodeCells n vl vk vo u vn).getD i undef) :=
  (setVals_row [u] 9 w _ h).congr (fun i hi => by
    match i, hi with
    | 0, _ => rfl
    | 1, _ => rfl
    | 2, _ => rfl
    | 3, _ => rfl
    | 4, _ => rfl
    | 5, _ => rfl
    | 6, _ => rfl
    | 7, _ => rfl
    | 8, _ => rfl
    | 9, _ => rfl
    | 10, _ => rfl
    | 11, _ => rfl
    | 12, _ => rfl)

/-- The node's row, its views so far in blocks from K on; of what lay there only the node's block has turned. -/
structure Viewed (K B q : Nat) (n : NodeV) (vl vk vo vn : Value) (k : Nat) (vv : Value) (W0 W w : World) : Prop where
  row : w.rowIs q 31 13 (fun i => (nodeCells n vl vk vo vv vn).getD i undef)
  own : w.ownsRow K 106 3 vv k (viewFlat k)
  keep : ∀ b, b < K → b ≠ q → w.heap[b]? = W.heap[b]?
  size : K ≤ w.heap.size
  bel : Below B W0 w

theorem Viewed.step {K B q : Nat} {n : NodeV} {vl vk vo vn vv : Value} {k gg cap : Nat} {W0 W wr A w1 : World} (h : Viewed K B q n vl vk vo vn k vv W0 W wr) (hq : q < K) (hB : B ≤ q) (hbA : Below wr.heap.size wr A) (hgrow : A.grownBy w1 vv.ownBlock)
    (hown : w1.ownsRow K 106 3 (.slice (some ⟨gg, 0, none⟩) (k + 1) cap) (k + 1) (viewFlat k ++ [.int .i64 0, .int .i64 0, .slice none 0 0])) :
    Viewed K B q n vl vk vo vn (k + 1) (.slice (some ⟨gg, 0, none⟩) (k + 1) cap) W0 W (w1.setCell ⟨q, 9, none⟩ (.slice (some ⟨gg, 0, none⟩) (k + 1) cap)) := by
  have hs := h.size
  have hsA := hbA.size
  have hlt := h.own.lt
  have hgg := hown.lt gg rfl
  have e : ∀ b, b < K → w1.heap[b]? = wr.heap[b]? := fun b hb =>
    (hgrow.block b (by omega) (fun e => by have := (hlt b e.symm).1; omega)).trans (hbA.block b (by omega))
  refine ⟨nodeRow_views (h.row.of_block (e q hq)), ?_, fun b hb hne => ?_, ?_, ?_⟩
  · exact ownsRow_setCell_other hown (fun e2 => by
      have e3 : gg = q := by simpa [Value.ownBlock] using e2
      omega) _
  · exact (Below.heap_setCell w1 ⟨q, 9, none⟩ _ b hne).trans ((e b hb).trans (h.keep b hb hne))
  · have := hgrow.size
    simp
    omega
  · exact (Below.grown (h.bel.trans (hbA.mono (by omega))) hgrow (by omega) (fun b hb => by have := (hlt b hb).1; omega)).setCell (show B ≤ q from hB) _
end Go.Proofs.Ytimkamgghkjhhaa
