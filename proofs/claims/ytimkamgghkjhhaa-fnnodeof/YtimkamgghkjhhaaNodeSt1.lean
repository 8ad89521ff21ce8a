/- impl.NodeStart: a node at first. -/
import Derived.Test.YtimkamgghkjhhaaToNode1
import Derived.Test.YtimkamgghkjhhaaBlank1
import Derived.Test.YtimkamgghkjhhaaKeep1
import Derived.Carry
namespace Go.Proofs.Ytimkamgghkjhhaa
open Go.RowKit
set_option linter.unusedVariables false
set_option linter.unusedSimpArgs false

def zeroN : NodeV := ⟨0, false, 0, 0, [], [], [], 0, 0, [], [], 0, 0⟩
def zeros3 (n : Nat) : List StV := List.replicate n ⟨0, 0, 0⟩
def startN (id : Int) : NodeV := ⟨id, true, 1, 0, nilLanes ((procsTo id 4).zip (zeros3 (procsTo id 4).length)), (procsTo id 4).map firstEv, [], 0, 1, nilViews 3, [0, 0, 0], 0, 41⟩
def nodeStart (id : Int) : NodeV := if inR 0 2 id = true then startN id else zeroN

theorem zeroN_own (N : Nat) (w : World) : NodeOwn N N w zeroN (.slice none 0 0) (.slice none 0 0) (.slice none 0 0) (.slice none 0 0) (.slice none 0 0) :=
  ⟨N, N, N, N, Nat.le_refl _, Nat.le_refl _, Nat.le_refl _, Nat.le_refl _, Nat.le_refl _, Or.inl ⟨rfl, rfl⟩, Or.inl ⟨rfl, rfl⟩, fun b e => (by cases e), Or.inl ⟨rfl, rfl⟩, fun b e => (by cases e), Or.inl ⟨rfl, rfl⟩, fun b e => (by cases e), Or.inl ⟨rfl, rfl⟩⟩

theorem nodeOwn_keep {N M : Nat} {w w' : World} {n : NodeV} {vl vk vo vv vn : Value} (h : NodeOwn N M w n vl vk vo vv vn) (hk : ∀ b, N ≤ b → b < w.heap.size → w'.heap[b]? = w.heap[b]?) : NodeOwn N M w' n vl vk vo vv vn := by
  obtain ⟨p1, p2, p3, p4, q0, q1, q2, q3, q4, hl, hk1, hkb, ho, hob, hn, hnb, hv⟩ := h
  exact ⟨p1, p2, p3, p4, q0, q1, q2, q3, q4, hl.keep (fun b h1 h2 h3 => hk b h1 h3), hk1.block (fun g hg hl => hk g (by have := (hk1.blk g hg).1; omega) hl), hkb,
    ho.block (fun g hg hl => hk g (by have := (ho.blk g hg).1; omega) hl), hob, hn.block (fun g hg hl => hk g (by have := (hn.blk g hg).1; omega) hl), hnb, hv.keep (fun b h1 h2 h3 => hk b (by omega) h3)⟩
theorem NodeOwn.wide {N M N' M' : Nat} {w : World} {n : NodeV} {vl vk vo vv vn : Value} (h : NodeOwn N M w n vl vk vo vv vn) (hN : N' ≤ N) (hM : M ≤ M') : NodeOwn N' M' w n vl vk vo vv vn := by
  obtain ⟨p1, p2, p3, p4, q0, q1, q2, q3, q4, hl, hk1, hkb, ho, hob, hn, hnb, hv⟩ := h
  exact ⟨p1, p2, p3, p4, by omega, q1, q2, q3, by omega, hl.wide hN (Nat.le_refl _), hk1, hkb, ho, hob, hn, hnb, hv.wide (Nat.le_refl _) hM⟩

theorem zeros3_rows (n : Nat) : (zeros3 n).map stRw = List.replicate n [0, 0, 0] := by simp [zeros3, stRw]
theorem zeros3_len (n : Nat) : (zeros3 n).length = n := by simp [zeros3]
theorem slice_StK : Try.prog.underlying 60 = some (.slice 34) := by kernel_rfl
theorem info_StK : (Try.prog.info? 34).map (fun i => (i.zero, i.size, i.bytes)) = some (some (.agg #[.int .i64 0, .int .i64 0, .int .i64 0]), 3, 24) := by kernel_rfl
theorem slice_EvK : Try.prog.underlying 26 = some (.slice 65) := by kernel_rfl
theorem info_EvK : (Try.prog.info? 65).map (fun i => (i.zero, i.size, i.bytes)) = some (some (.agg #[.int .i64 0, .int .i64 0, .int .i64 0, .int .i64 0, .int .i64 0, .int .i64 0, .int .i64 0]), 7, 56) := by kernel_rfl
theorem procsTo_mem (id z : Int) (h : z ∈ procsTo id 4) : 0 ≤ z ∧ z ≤ 3 := by
  have h1 := (List.mem_filter.1 h).1
  obtain ⟨i, hi, rfl⟩ := List.mem_map.1 h1
  have := List.mem_range.1 hi
  omega
theorem rep_len (n : Nat) : ∀ r ∈ List.replicate n ([0, 0, 0] : List Int), r.length = 3 := fun r hr => by rw [List.eq_of_mem_replicate hr]; rfl
theorem evs_len (l : List EvV) : ∀ r ∈ l.map evRow, r.length = 7 := fun r hr => by
  obtain ⟨y, _, rfl⟩ := List.mem_map.1 hr; rfl

theorem rowIs_set {w : World} {b t n j : Nat} {f : Nat → Value} {u : Value} (h : w.rowIs b t n f) (hj : j < n) : (w.setCell ⟨b, j, none⟩ u).rowIs b t n (fun i => if i = j then u else f i) :=
  (setVals_row [u] j w _ h).congr (fun i hi => by
    show (if j ≤ i ∧ i < j + 1 then _ else f i) = _
    by_cases e : i = j
    · subst e; simp
    · rw [if_neg (by omega), if_neg e])

/-- What a node keeps in the making: of what lay ahead of block B only the struct's block q has turned. -/
structure KeepIn (N q B : Nat) (id : Int) (vb vk : Value) (n : Nat) (ks : List EvV) (W0 W w : World) : Prop where
  mem : KeepMem q B w id vb vk n ks
  keep : ∀ b, b < B → b ≠ q → w.heap[b]? = W.heap[b]?
  size : B ≤ w.heap.size
  bel : Below N W0 w

theorem KeepIn.step {N q B : Nat} {id : Int} {v vb vk : Value} {n : Nat} {ks : List EvV} {W0 W w w' : World} {vb' vk' : Value} {n' : Nat} {ks' : List EvV} (h : KeepIn N q B id vb vk n ks W0 W w) (hN : N ≤ q) (hqB : q < B)
    (hm : KeepMem q B w' id vb' vk' n' ks') (hB : Both q v w w') (hv : ∀ g, v.ownBlock = some g → B ≤ g) : KeepIn N q B id vb' vk' n' ks' W0 W w' :=
  ⟨hm, fun b h1 h2 => (hB.other b (Nat.lt_of_lt_of_le h1 h.size) h2 (fun e => by have := hv b e; omega)).trans (h.keep b h1 h2), Nat.le_trans h.size hB.size,
    h.bel.trans (hB.below N hN (by have := h.size; omega) (fun g e => by have := hv g e; omega))⟩

set_option maxRecDepth 100000 in
set_option maxHeartbeats 4000000 in
theorem nodeStart_no (id : Int) (w : World) (h : inR 0 2 id = false) :
    Calls Try.prog 10 #[.int .i64 id] w fun e w' => e = .returned (nodeAgg zeroN (.slice none 0 0) (.slice none 0 0) (.slice none 0 0) (.slice none 0 0) (.slice none 0 0)) ∧ Below w.heap.size w w' := by
  have RR := row_new w [.int .i64 0, .bool false, .int .i64 0, .int .i64 0, .slice none 0 0, .slice none 0 0, .slice none 0 0, .int .i64 0, .int .i64 0, .slice none 0 0, .slice none 0 0, .int .i64 0, .int .i64 0] 31
  have hb1 : Below w.heap.size w (w.alloc (.cells #[.int .i64 0, .bool false, .int .i64 0, .int .i64 0, .slice none 0 0, .slice none 0 0, .slice none 0 0, .int .i64 0, .int .i64 0, .slice none 0 0, .slice none 0 0, .int .i64 0, .int .i64 0] 31)) := (Below.refl _ _).alloc (Nat.le_refl _) _
  have HRR := hide RR
  have HB1 := hide hb1
  have x0 : (w.alloc (.cells #[.int .i64 0, .bool false, .int .i64 0, .int .i64 0, .slice none 0 0, .slice none 0 0, .slice none 0 0, .int .i64 0, .int .i64 0, .slice none 0 0, .slice none 0 0, .int .i64 0, .int .i64 0] 31)).cell? ⟨w.heap.size, 0, none⟩ = some (.int .i64 0) := RR.cell (i := 0) (by simp)
  have f0 : (w.alloc (.cells #[.int .i64 0, .bool false, .int .i64 0, .int .i64 0, .slice none 0 0, .slice none 0 0, .slice none 0 0, .int .i64 0, .int .i64 0, .slice none 0 0, .slice none 0 0, .int .i64 0, .int .i64 0] 31)).frozen? ⟨w.heap.size, 0, none⟩ = false := RR.frozen 0
  have x1 : (w.alloc (.cells #[.int .i64 0, .bool false, .int .i64 0, .int .i64 0, .slice none 0 0, .slice none 0 0, .slice none 0 0, .int .i64 0, .int .i64 0, .slice none 0 0, .slice none 0 0, .int .i64 0, .int .i64 0] 31)).cell? ⟨w.heap.size, 1, none⟩ = some (.bool false) := RR.cell (i := 1) (by simp)
  have f1 : (w.alloc (.cells #[.int .i64 0, .bool false, .int .i64 0, .int .i64 0, .slice none 0 0, .slice none 0 0, .slice none 0 0, .int .i64 0, .int .i64 0, .slice none 0 0, .slice none 0 0, .int .i64 0, .int .i64 0] 31)).frozen? ⟨w.heap.size, 1, none⟩ = false := RR.frozen 1
  have x2 : (w.alloc (.cells #[.int .i64 0, .bool false, .int .i64 0, .int .i64 0, .slice none 0 0, .slice none 0 0, .slice none 0 0, .int .i64 0, .int .i64 0, .slice none 0 0, .slice none 0 0, .int .i64 0, .int .i64 0] 31)).cell? ⟨w.heap.size, 2, none⟩ = some (.int .i64 0) := RR.cell (i := 2) (by simp)
  have f2 : (w.alloc (.cells #[.int .i64 0, .bool false, .int .i64 0, .int .i64 0, .slice none 0 0, .slice none 0 0, .slice none 0 0, .int .i64 0, .int .i64 0, .slice none 0 0, .slice none 0 0, .int .i64 0, .int .i64 0] 31)).frozen? ⟨w.heap.size, 2, none⟩ = false := RR.frozen 2
  have x3 : (w.alloc (.cells #[.int .i64 0, .bool false, .int .i64 0, .int .i64 0, .slice none 0 0, .slice none 0 0, .slice none 0 0, .int .i64 0, .int .i64 0, .slice none 0 0, .slice none 0 0, .int .i64 0, .int .i64 0] 31)).cell? ⟨w.heap.size, 3, none⟩ = some (.int .i64 0) := RR.cell (i := 3) (by simp)
  have f3 : (w.alloc (.cells #[.int .i64 0, .bool false, .int .i64 0, .int .i64 0, .slice none 0 0, .slice none 0 0, .slice none 0 0, .int .i64 0, .int .i64 0, .slice none 0 0, .slice none 0 0, .int .i64 0, .int .i64 0] 31)).frozen? ⟨w.heap.size, 3, none⟩ = false := RR.frozen 3
  have x4 : (w.alloc (.cells #[.int .i64 0, .bool false, .int .i64 0, .int .i64 0, .slice none 0 0, .slice none 0 0, .slice none 0 0, .int .i64 0, .int .i64 0, .slice none 0 0, .slice none 0 0, .int .i64 0, .int .i64 0] 31)).cell? ⟨w.heap.size, 4, none⟩ = some (.slice none 0 0) := RR.cell (i := 4) (by simp)
  have f4 : (w.alloc (.cells #[.int .i64 0, .bool false, .int .i64 0, .int .i64 0, .slice none 0 0, .slice none 0 0, .slice none 0 0, .int .i64 0, .int .i64 0, .slice none 0 0, .slice none 0 0, .int .i64 0, .int .i64 0] 31)).frozen? ⟨w.heap.size, 4, none⟩ = false := RR.frozen 4
  have x5 : (w.alloc (.cells #[.int .i64 0, .bool false, .int .i64 0, .int .i64 0, .slice none 0 0, .slice none 0 0, .slice none 0 0, .int .i64 0, .int .i64 0, .slice none 0 0, .slice none 0 0, .int .i64 0, .int .i64 0] 31)).cell? ⟨w.heap.size, 5, none⟩ = some (.slice none 0 0) := RR.cell (i := 5) (by simp)
  have f5 : (w.alloc (.cells #[.int .i64 0, .bool false, .int .i64 0, .int .i64 0, .slice none 0 0, .slice none 0 0, .slice none 0 0, .int .i64 0, .int .i64 0, .slice none 0 0, .slice none 0 0, .int .i64 0, .int .i64 0] 31)).frozen? ⟨w.heap.size, 5, none⟩ = false := RR.frozen 5
  have x6 : (w.alloc (.cells #[.int .i64 0, .bool false, .int .i64 0, .int .i64 0, .slice none 0 0, .slice none 0 0, .slice none 0 0, .int .i64 0, .int .i64 0, .slice none 0 0, .slice none 0 0, .int .i64 0, .int .i64 0] 31)).cell? ⟨w.heap.size, 6, none⟩ = some (.slice none 0 0) := RR.cell (i := 6) (by simp)
  have f6 : (w.alloc (.cells #[.int .i64 0, .bool false, .int .i64 0, .int .i64 0, .slice none 0 0, .slice none 0 0, .slice none 0 0, .int .i64 0, .int .i64 0, .slice none 0 0, .slice none 0 0, .int .i64 0, .int .i64 0] 31)).frozen? ⟨w.heap.size, 6, none⟩ = false := RR.frozen 6
  have x7 : (w.alloc (.cells #[.int .i64 0, .bool false, .int .i64 0, .int .i64 0, .slice none 0 0, .slice none 0 0, .slice none 0 0, .int .i64 0, .int .i64 0, .slice none 0 0, .slice none 0 0, .int .i64 0, .int .i64 0] 31)).cell? ⟨w.heap.size, 7, none⟩ = some (.int .i64 0) := RR.cell (i := 7) (by simp)
  have f7 : (w.alloc (.cells #[.int .i64 0, .bool false, .int .i64 0, .int .i64 0, .slice none 0 0, .slice none 0 0, .slice none 0 0, .int .i64 0, .int .i64 0, .slice none 0 0, .slice none 0 0, .int .i64 0, .int .i64 0] 31)).frozen? ⟨w.heap.size, 7, none⟩ = false := RR.frozen 7
  have x8 : (w.alloc (.cells #[.int .i64 0, .bool false, .int .i64 0, .int .i64 0, .slice none 0 0, .slice none 0 0, .slice none 0 0, .int .i64 0, .int .i64 0, .slice none 0 0, .slice none 0 0, .int .i64 0, .int .i64 0] 31)).cell? ⟨w.heap.size, 8, none⟩ = some (.int .i64 0) := RR.cell (i := 8) (by simp)
  have f8 : (w.alloc (.cells #[.int .i64 0, .bool false, .int .i64 0, .int .i64 0, .slice none 0 0, .slice none 0 0, .slice none 0 0, .int .i64 0, .int .i64 0, .slice none 0 0, .slice none 0 0, .int .i64 0, .int .i64 0] 31)).frozen? ⟨w.heap.size, 8, none⟩ = false := RR.frozen 8
  have x9 : (w.alloc (.cells #[.int .i64 0, .bool false, .int .i64 0, .int .i64 0, .slice none 0 0, .slice none 0 0, .slice none 0 0, .int .i64 0, .int .i64 0, .slice none 0 0, .slice none 0 0, .int .i64 0, .int .i64 0] 31)).cell? ⟨w.heap.size, 9, none⟩ = some (.slice none 0 0) := RR.cell (i := 9) (by simp)
  have f9 : (w.alloc (.cells #[.int .i64 0, .bool false, .int .i64 0, .int .i64 0, .slice none 0 0, .slice none 0 0, .slice none 0 0, .int .i64 0, .int .i64 0, .slice none 0 0, .slice none 0 0, .int .i64 0, .int .i64 0] 31)).frozen? ⟨w.heap.size, 9, none⟩ = false := RR.frozen 9
  have x10 : (w.alloc (.cells #[.int .i64 0, .bool false, .int .i64 0, .int .i64 0, .slice none 0 0, .slice none 0 0, .slice none 0 0, .int .i64 0, .int .i64 0, .slice none 0 0, .slice none 0 0, .int .i64 0, .int .i64 0] 31)).cell? ⟨w.heap.size, 10, none⟩ = some (.slice none 0 0) := RR.cell (i := 10) (by simp)
  have f10 : (w.alloc (.cells #[.int .i64 0, .bool false, .int .i64 0, .int .i64 0, .slice none 0 0, .slice none 0 0, .slice none 0 0, .int .i64 0, .int .i64 0, .slice none 0 0, .slice none 0 0, .int .i64 0, .int .i64 0] 31)).frozen? ⟨w.heap.size, 10, none⟩ = false := RR.frozen 10
  have x11 : (w.alloc (.cells #[.int .i64 0, .bool false, .int .i64 0, .int .i64 0, .slice none 0 0, .slice none 0 0, .slice none 0 0, .int .i64 0, .int .i64 0, .slice none 0 0, .slice none 0 0, .int .i64 0, .int .i64 0] 31)).cell? ⟨w.heap.size, 11, none⟩ = some (.int .i64 0) := RR.cell (i := 11) (by simp)
  have f11 : (w.alloc (.cells #[.int .i64 0, .bool false, .int .i64 0, .int .i64 0, .slice none 0 0, .slice none 0 0, .slice none 0 0, .int .i64 0, .int .i64 0, .slice none 0 0, .slice none 0 0, .int .i64 0, .int .i64 0] 31)).frozen? ⟨w.heap.size, 11, none⟩ = false := RR.frozen 11
  have x12 : (w.alloc (.cells #[.int .i64 0, .bool false, .int .i64 0, .int .i64 0, .slice none 0 0, .slice none 0 0, .slice none 0 0, .int .i64 0, .int .i64 0, .slice none 0 0, .slice none 0 0, .int .i64 0, .int .i64 0] 31)).cell? ⟨w.heap.size, 12, none⟩ = some (.int .i64 0) := RR.cell (i := 12) (by simp)
  have f12 : (w.alloc (.cells #[.int .i64 0, .bool false, .int .i64 0, .int .i64 0, .slice none 0 0, .slice none 0 0, .slice none 0 0, .int .i64 0, .int .i64 0, .slice none 0 0, .slice none 0 0, .int .i64 0, .int .i64 0] 31)).frozen? ⟨w.heap.size, 12, none⟩ = false := RR.frozen 12
  clear RR hb1
  go_enter Try.func10, Try.ntmps10
  go_wp2_with fail
  generalize (w.alloc (.cells #[.int .i64 0, .bool false, .int .i64 0, .int .i64 0, .slice none 0 0, .slice none 0 0, .slice none 0 0, .int .i64 0, .int .i64 0, .slice none 0 0, .slice none 0 0, .int .i64 0, .int .i64 0] 31)) = W1 at *
  refine (isNode_any id _).mono ?_
  rintro e w1 ⟨rfl, hw⟩
  obtain rfl := hw.symm
  go_wp2_with fail
  show bodyPost _ _ _ _ _ (setVals W1 w.heap.size 0 [.int .i64 0, .bool false, .int .i64 0, .int .i64 0, .slice none 0 0, .slice none 0 0, .slice none 0 0, .int .i64 0, .int .i64 0, .slice none 0 0, .slice none 0 0, .int .i64 0, .int .i64 0])
  have hrow := setVals_row [.int .i64 0, .bool false, .int .i64 0, .int .i64 0, .slice none 0 0, .slice none 0 0, .slice none 0 0, .int .i64 0, .int .i64 0, .slice none 0 0, .slice none 0 0, .int .i64 0, .int .i64 0] 0 W1 _ (unhide HRR)
  have hbl := setVals_below (b := w.heap.size) [.int .i64 0, .bool false, .int .i64 0, .int .i64 0, .slice none 0 0, .slice none 0 0, .slice none 0 0, .int .i64 0, .int .i64 0, .slice none 0 0, .slice none 0 0, .int .i64 0, .int .i64 0] 0 W1 (unhide HB1) (Nat.le_refl _)
  clear x0 f0 x1 f1 x2 f2 x3 f3 x4 f4 x5 f5 x6 f6 x7 f7 x8 f8 x9 f9 x10 f10 x11 f11 x12 f12
  generalize setVals W1 w.heap.size 0 [.int .i64 0, .bool false, .int .i64 0, .int .i64 0, .slice none 0 0, .slice none 0 0, .slice none 0 0, .int .i64 0, .int .i64 0, .slice none 0 0, .slice none 0 0, .int .i64 0, .int .i64 0] = W9 at *
  have x0 : W9.cell? ⟨w.heap.size, 0, none⟩ = some (.int .i64 0) := hrow.cell (i := 0) (by simp)
  have x1 : W9.cell? ⟨w.heap.size, 1, none⟩ = some (.bool false) := hrow.cell (i := 1) (by simp)
  have x2 : W9.cell? ⟨w.heap.size, 2, none⟩ = some (.int .i64 0) := hrow.cell (i := 2) (by simp)
  have x3 : W9.cell? ⟨w.heap.size, 3, none⟩ = some (.int .i64 0) := hrow.cell (i := 3) (by simp)
  have x4 : W9.cell? ⟨w.heap.size, 4, none⟩ = some (.slice none 0 0) := hrow.cell (i := 4) (by simp)
  have x5 : W9.cell? ⟨w.heap.size, 5, none⟩ = some (.slice none 0 0) := hrow.cell (i := 5) (by simp)
  have x6 : W9.cell? ⟨w.heap.size, 6, none⟩ = some (.slice none 0 0) := hrow.cell (i := 6) (by simp)
  have x7 : W9.cell? ⟨w.heap.size, 7, none⟩ = some (.int .i64 0) := hrow.cell (i := 7) (by simp)
  have x8 : W9.cell? ⟨w.heap.size, 8, none⟩ = some (.int .i64 0) := hrow.cell (i := 8) (by simp)
  have x9 : W9.cell? ⟨w.heap.size, 9, none⟩ = some (.slice none 0 0) := hrow.cell (i := 9) (by simp)
  have x10 : W9.cell? ⟨w.heap.size, 10, none⟩ = some (.slice none 0 0) := hrow.cell (i := 10) (by simp)
  have x11 : W9.cell? ⟨w.heap.size, 11, none⟩ = some (.int .i64 0) := hrow.cell (i := 11) (by simp)
  have x12 : W9.cell? ⟨w.heap.size, 12, none⟩ = some (.int .i64 0) := hrow.cell (i := 12) (by simp)
  exact bodyPost_ret (v := nodeAgg zeroN (.slice none 0 0) (.slice none 0 0) (.slice none 0 0) (.slice none 0 0) (.slice none 0 0)) (by simp [results, Try.results10, go_sem, zeroN, x0, x1, x2, x3, x4, x5, x6, x7, x8, x9, x10, x11, x12]) rfl ⟨rfl, hbl⟩

set_option maxRecDepth 100000 in
set_option maxHeartbeats 4000000 in
theorem nodeStart_in (id : Int) (w : World) (h : inR 0 2 id = true) :
    Calls Try.prog 10 #[.int .i64 id] w fun e w' => ToNode (startN id) w e w' := by
  obtain ⟨i3, hi3, hz30, hz31, hz32⟩ := infoT_parts info_StK
  obtain ⟨i7, hi7, hz70, hz71, hz72⟩ := infoT_parts info_EvK
  have hb2 : Below w.heap.size w ((w.alloc (.cells #[.int .i64 0, .bool false, .int .i64 0, .int .i64 0, .slice none 0 0, .slice none 0 0, .slice none 0 0, .int .i64 0, .int .i64 0, .slice none 0 0, .slice none 0 0, .int .i64 0, .int .i64 0] 31)).alloc (.cells #[.int .i64 id, .int .i64 1, .int .i64 0, .slice none 0 0, .slice none 0 0, .slice none 0 0, .int .i64 0] 62)) := ((Below.refl _ _).alloc (Nat.le_refl _) _).alloc (by simp) _
  have hs1 : (w.alloc (.cells #[.int .i64 0, .bool false, .int .i64 0, .int .i64 0, .slice none 0 0, .slice none 0 0, .slice none 0 0, .int .i64 0, .int .i64 0, .slice none 0 0, .slice none 0 0, .int .i64 0, .int .i64 0] 31)).heap.size = w.heap.size + 1 := by simp
  have hs2 : ((w.alloc (.cells #[.int .i64 0, .bool false, .int .i64 0, .int .i64 0, .slice none 0 0, .slice none 0 0, .slice none 0 0, .int .i64 0, .int .i64 0, .slice none 0 0, .slice none 0 0, .int .i64 0, .int .i64 0] 31)).alloc (.cells #[.int .i64 id, .int .i64 1, .int .i64 0, .slice none 0 0, .slice none 0 0, .slice none 0 0, .int .i64 0] 62)).heap.size = w.heap.size + 2 := by simp
  have RR : Hid (((w.alloc (.cells #[.int .i64 0, .bool false, .int .i64 0, .int .i64 0, .slice none 0 0, .slice none 0 0, .slice none 0 0, .int .i64 0, .int .i64 0, .slice none 0 0, .slice none 0 0, .int .i64 0, .int .i64 0] 31)).alloc (.cells #[.int .i64 id, .int .i64 1, .int .i64 0, .slice none 0 0, .slice none 0 0, .slice none 0 0, .int .i64 0] 62)).rowIs w.heap.size 31 13 (fun i => [.int .i64 0, .bool false, .int .i64 0, .int .i64 0, .slice none 0 0, .slice none 0 0, .slice none 0 0, .int .i64 0, .int .i64 0, .slice none 0 0, .slice none 0 0, .int .i64 0, .int .i64 0].getD i undef)) := hide ((row_new w [.int .i64 0, .bool false, .int .i64 0, .int .i64 0, .slice none 0 0, .slice none 0 0, .slice none 0 0, .int .i64 0, .int .i64 0, .slice none 0 0, .slice none 0 0, .int .i64 0, .int .i64 0] 31).of_block (((Below.refl (w.alloc (.cells #[.int .i64 0, .bool false, .int .i64 0, .int .i64 0, .slice none 0 0, .slice none 0 0, .slice none 0 0, .int .i64 0, .int .i64 0, .slice none 0 0, .slice none 0 0, .int .i64 0, .int .i64 0] 31)).heap.size _).alloc (Nat.le_refl _) _).block w.heap.size (by simp)))
  have RK : Hid (((w.alloc (.cells #[.int .i64 0, .bool false, .int .i64 0, .int .i64 0, .slice none 0 0, .slice none 0 0, .slice none 0 0, .int .i64 0, .int .i64 0, .slice none 0 0, .slice none 0 0, .int .i64 0, .int .i64 0] 31)).alloc (.cells #[.int .i64 id, .int .i64 1, .int .i64 0, .slice none 0 0, .slice none 0 0, .slice none 0 0, .int .i64 0] 62)).rowIs (w.heap.size + 1) 62 7 (keepRow id (.slice none 0 0) (.slice none 0 0))) := hide (by
    have e := row_new (w.alloc (.cells #[.int .i64 0, .bool false, .int .i64 0, .int .i64 0, .slice none 0 0, .slice none 0 0, .slice none 0 0, .int .i64 0, .int .i64 0, .slice none 0 0, .slice none 0 0, .int .i64 0, .int .i64 0] 31)) [.int .i64 id, .int .i64 1, .int .i64 0, .slice none 0 0, .slice none 0 0, .slice none 0 0, .int .i64 0] 62
    rw [hs1] at e
    exact e)
  have HB2 := hide hb2
  have HS2 := hide hs2
  clear hb2 hs1 hs2
  go_enter Try.func10, Try.ntmps10
  go_wp2_with fail
  refine (isNode_any id _).mono ?_
  rintro e wx ⟨rfl, hw⟩
  obtain rfl := hw.symm
  go_wp2_with fail
  change Hid (World.rowIs ((w.alloc (.cells #[.int .i64 0, .bool false, .int .i64 0, .int .i64 0, .slice none 0 0, .slice none 0 0, .slice none 0 0, .int .i64 0, .int .i64 0, .slice none 0 0, .slice none 0 0, .int .i64 0, .int .i64 0] 31)).alloc (.cells #[.int .i64 id, .int .i64 1, .int .i64 0, .slice none 0 0, .slice none 0 0, .slice none 0 0, .int .i64 0] 62)) _ _ _ _) at RK
  generalize ((w.alloc (.cells #[.int .i64 0, .bool false, .int .i64 0, .int .i64 0, .slice none 0 0, .slice none 0 0, .slice none 0 0, .int .i64 0, .int .i64 0, .slice none 0 0, .slice none 0 0, .int .i64 0, .int .i64 0] 31)).alloc (.cells #[.int .i64 id, .int .i64 1, .int .i64 0, .slice none 0 0, .slice none 0 0, .slice none 0 0, .int .i64 0] 62)) = W2 at *
  refine (procsOf_any id W2).mono ?_
  rintro e W3 ⟨vp, rfl, hp, hb3⟩
  have hs2 := unhide HS2
  have hpl := procsTo_len id 4
  obtain ⟨pa, pc, ep⟩ := RowsFr_sliced hp
  rw [List.length_map] at ep
  subst ep
  have HP := hide hp
  have hsz3 := hb3.size
  have HKI : Hid (KeepIn w.heap.size (w.heap.size + 1) W3.heap.size id (.slice none 0 0) (.slice none 0 0) 0 [] w W3 W3) := hide ⟨⟨(unhide RK).of_block (hb3.block (w.heap.size + 1) (by omega)), Or.inl ⟨rfl, rfl⟩, Or.inl ⟨rfl, rfl⟩, fun g e => (by cases e)⟩, fun _ _ _ => rfl, Nat.le_refl _, below_then (unhide HB2) hb3⟩
  have HRR := hide ((unhide RR).of_block (hb3.block w.heap.size (by omega)))
  have hpb := hp.blk
  clear RK RR HB2 hp hb3 hpb
  generalize hzs : procsTo id 4 = zs at *
  have HZS := hide hzs
  clear hzs
  go_wp2_with fail
  go_loopw [16] (fun i wr => ∃ (k : Nat) (ba ka : Option Addr) (bc kc : Nat), k ≤ zs.length ∧ i = .int .i64 k ∧ Hid (KeepIn w.heap.size (w.heap.size + 1) W3.heap.size id (.slice ba k bc) (.slice ka k kc) k ((zs.take k).map firstEv) w W3 wr)) (fun i _ => zs.length - (intOf i).toNat)
  case atStart => exact ⟨0, none, none, 0, 0, Nat.zero_le _, rfl, HKI⟩
  case round =>
    obtain ⟨k, ba, ka, bc, kc, hk, rfl, HK⟩ := hrel
    by_cases hlt : k < zs.length
    · have hki := unhide HK
      have hkiS := hki.size
      have hpw : RowsAt 1 wr (.slice pa zs.length pc) (zs.map fun z => [z]) := ((unhide HP).block (fun g hg hl => hki.keep g hl (by have := ((unhide HP).blk g hg).1; omega))).at
      obtain ⟨b1, off1, hpa, c1⟩ : ∃ b off, pa = some ⟨b, off, none⟩ ∧ wr.cell? ⟨b, off + k, none⟩ = some (.int .i64 zs[k]) := by
        obtain ⟨ad, cp, hv, _, _, hc⟩ := hpw
        simp only [Value.slice.injEq] at hv
        rcases hc with h | ⟨b, off, h1, h2⟩
        · have : zs = [] := by simpa using h
          rw [this] at hlt; exact absurd hlt (Nat.not_lt_zero _)
        · have h3 := h2 k (by simpa using hlt) 0 (by omega)
          simp at h3
          exact ⟨b, off, hv.1.trans h1, h3⟩
      obtain ⟨z, hze⟩ : ∃ z, z = zs[k] := ⟨_, rfl⟩
      rw [← hze] at c1
      have hz03 : 0 ≤ z ∧ z ≤ 3 := procsTo_mem id z (by rw [unhide HZS, hze]; exact List.getElem_mem hlt)
      have hz0 := hz03.1
      have hz3 := hz03.2
      have HZE := hide hze
      have HPA2 := hide hpa
      subst hpa
      have hkI : (k : Int) < (zs.length : Int) := by omega
      have hm := hki.mem
      have c3 : wr.cell? ⟨w.heap.size + 1, 3, none⟩ = some (.slice ba k bc) := hm.row.cell (i := 3) (by omega)
      have f3 : wr.frozen? ⟨w.heap.size + 1, 3, none⟩ = false := hm.row.frozen 3
      have hblk := hm.ob.blk
      have hsl : (List.replicate k ([0, 0, 0] : List Int)).length = k := List.length_replicate
      have hown : wr.ownsRow W3.heap.size 34 3 (.slice ba k bc) k (flatCells (List.replicate k [0, 0, 0])) := by
        have e := hm.ob.owns (by omega) (rep_len k)
        rwa [hsl] at e
      have hbA : Below wr.heap.size wr (wr.alloc (.cells #[.int .i64 0, .int .i64 0, .int .i64 0] 34)) := (Below.refl _ _).alloc (Nat.le_refl _) _
      have hownA := ownsOn hbA hown
      have HBLK := hide hblk
      have hqw : w.heap.size + 1 < wr.heap.size := by omega
      clear hm hown hki hpw hblk hsl hz03 hze
      go_wp2_with (at_builtin; go_loud (refine wpList_append_lies _ (by rfl) _ _ _ (by rfl) W3.heap.size 34 i3 _ 3 24 slice_StK hi3 hz30 hz31 hz32 (by rfl) (by omega) (.slice ba k bc) k (flatCells (List.replicate k [0, 0, 0])) (by rfl) hownA ⟨wr.heap.size, 0, none⟩ 1 1 [.int .i64 0, .int .i64 0, .int .i64 0] (by rfl) (by rfl) (World.news_of_block (cs := #[.int .i64 0, .int .i64 0, .int .i64 0]) (t := 34) (fr := (0, 0)) (heap_alloc_new wr _)) (by simp [Value.oneCell']) (by omega) (by unfold maxLen; omega) (by omega) (by simp; omega) (wr.heap.size + 1) (by simp) ?_; intro gg cap w1 hown1 hgrow hat hlt1; have kc := hgrow.cell (cell_on hbA c3) (fun e => by have := (unhide HBLK (w.heap.size + 1) e.symm).1; omega); have kf : w1.frozen? ⟨w.heap.size + 1, 3, none⟩ = false := (by rw [hgrow.frozen_far ⟨w.heap.size + 1, 3, none⟩ (show w.heap.size + 1 < _ by simp; omega) (fun e => by have := (unhide HBLK (w.heap.size + 1) e.symm).1; omega), hbA.frozen (p := ⟨w.heap.size + 1, 3, none⟩) hqw]; exact f3)))
      have hst := (unhide HK).mem.bases (by omega) hkiS hbA hgrow hown1 (by rcases hat with h | h <;> simp [h])
      have HK5 := hide ((unhide HK).step (by omega) (by omega) hst.1 hst.2 (fun g e => (unhide HBLK g e).1))
      clear hst hown1 hat hlt1 hgrow kc kf hownA hbA f3 c3 HBLK c1
      generalize w1.setCell ⟨w.heap.size + 1, 3, none⟩ (.slice (some ⟨gg, 0, none⟩) (k + 1) cap) = W5 at *
      have hki := unhide HK5
      have hkiS5 := hki.size
      have hm := hki.mem
      have c4 : W5.cell? ⟨w.heap.size + 1, 4, none⟩ = some (.slice ka k kc) := hm.row.cell (i := 4) (by omega)
      have f4 : W5.frozen? ⟨w.heap.size + 1, 4, none⟩ = false := hm.row.frozen 4
      have hkl : ((zs.take k).map firstEv).length = k := by rw [List.length_map, List.length_take]; omega
      have HBLK := hide hm.ok.blk
      have hown : W5.ownsRow W3.heap.size 65 7 (.slice ka k kc) k (flatCells (((zs.take k).map firstEv).map evRow)) := by
        have e := hm.ok.owns (by omega) (evs_len _)
        rwa [List.length_map, hkl] at e
      have HOWN := hide hown
      have hqw5 : w.heap.size + 1 < W5.heap.size := by omega
      clear hki hm hown
      go_wp2_with fail
      refine wp_region_last (L := 7) (S := fun w' : World => w'.cell? ⟨w.heap.size + 1, 4, none⟩ = some (.slice ka k kc)) (by kernel_rfl) ?_
      have hHeld : (fun w' : World => w'.cell? ⟨w.heap.size + 1, 4, none⟩ = some (.slice ka k kc)) W5.drew := c4
      refine wpAnyL_take (i := 0) (v := ?_) (by kernel_rfl) rfl (by kernel_rfl) (by kernel_rfl) (by kernel_rfl) (fun _ _ _ h => h) hHeld (Or.inl ⟨by kernel_rfl, ?_⟩) ?_
      rotate_left
      · (intro w hSw; (try dsimp only at hSw); go_simp; try with_reducible rfl)
      refine wpAnyL_take (i := 1) (v := ?_) (by kernel_rfl) rfl (by kernel_rfl) (by kernel_rfl) (by kernel_rfl) (fun _ _ _ h => h) hHeld (Or.inl ⟨by kernel_rfl, ?_⟩) ?_
      rotate_left
      · (intro w hSw; (try dsimp only at hSw); go_simp; try with_reducible rfl)
      refine wpAnyL_take (i := 2) (v := ?_) (by kernel_rfl) rfl (by kernel_rfl) (by kernel_rfl) (by kernel_rfl) (fun _ _ _ h => h) hHeld (Or.inl ⟨by kernel_rfl, ?_⟩) ?_
      rotate_left
      · (intro w hSw; (try dsimp only at hSw); go_simp; try with_reducible rfl)
      refine wpAnyL_one (i := 3) (by kernel_rfl) rfl (fun K hK => ?_)
      go_simp
      refine (implAppFirst_in z hz0 hz3 _).mono ?_
      rintro e w6 ⟨rfl, hb6⟩
      go_wp2_with fail
      refine held_on hK ?_ (fun hHeld => ?_)
      · exact cell_on hb6 hHeld
      clear hK K
      have hb56 : Below W5.heap.size W5 w6 := below_then (Below.refl _ _).drew hb6
      refine wpAnyL_one (i := 4) (by kernel_rfl) rfl (fun K hK => ?_)
      go_simp
      have hbA : Below W5.heap.size W5 (w6.alloc (.cells (firstVals z) 65)) := below_then hb56 ((Below.refl _ _).alloc (Nat.le_refl _) _)
      refine held_on hK ?_ (fun hHeld => ?_)
      · exact cell_on hbA c4
      clear hK K
      have hownA := ownsOn hbA (unhide HOWN)
      have hs6 : W5.heap.size ≤ w6.heap.size := hb56.size
      refine wpAnyL_one (i := 5) (by kernel_rfl) rfl (fun K hK => ?_)
      refine step_append_lies _ (by rfl) _ _ _ (by rfl) W3.heap.size 65 i7 _ 7 56 slice_EvK hi7 hz70 hz71 hz72 (by rfl) (by omega) (.slice ka k kc) k (flatCells (((zs.take k).map firstEv).map evRow)) (by rfl) hownA ⟨w6.heap.size, 0, none⟩ 1 1 [.int .i64 0, .int .i64 z, .int .i64 (-1), .int .i64 0, .int .i64 z, .int .i64 0, .int .i64 z] (by rfl) (by rfl) (World.news_of_block (cs := firstVals z) (t := 65) (fr := (0, 0)) (heap_alloc_new w6 _)) (by simp [Value.oneCell']) (by omega) (by unfold maxLen; omega) (by omega) (by simp; omega) (w6.heap.size + 1) (by simp) ?_
      intro g2 cap2 w7 hown7 hgrow7 hat7 hlt7
      have hst := (unhide HK5).mem.kept (x := firstEv z) (gg := g2) (cap := cap2) (w1 := w7) (A := _) (by omega) hkiS5 hbA hgrow7 (by rw [hkl]; exact hown7) (by rcases hat7 with h | h <;> simp [h])
      rw [hkl] at hst
      have hk7 := (unhide HK5).step (by omega) (by omega) hst.1 hst.2 (fun g e => (unhide HBLK g e).1)
      have etk : (zs.take k).map firstEv ++ [firstEv z] = (zs.take (k + 1)).map firstEv := by rw [take_more zs k hlt, List.map_append, ← unhide HZE]; rfl
      rw [etk] at hk7
      have kc := hgrow7.cell (cell_on hbA c4) (fun e => by have := (unhide HBLK (w.heap.size + 1) e.symm).1; omega)
      have kf : w7.frozen? ⟨w.heap.size + 1, 4, none⟩ = false := by (rw [hgrow7.frozen_far ⟨w.heap.size + 1, 4, none⟩ (show w.heap.size + 1 < _ by simp; omega) (fun e => by have := (unhide HBLK (w.heap.size + 1) e.symm).1; omega), hbA.frozen (p := ⟨w.heap.size + 1, 4, none⟩) hqw5]; exact f4)
      have HK7 := hide hk7
      clear hst hk7 etk hown7 hat7 hlt7 hgrow7
      refine held_on hK ?_ (fun hHeld => ?_)
      · exact kc
      clear hK K
      refine wpAnyL_one (i := 6) (by kernel_rfl) rfl (fun K hK => ?_)
      go_simp
      refine held_on hK ?_ (fun hHeld => ?_)
      · exact hHeld
      clear hK K
      refine wpAnyL_end (by kernel_rfl) rfl (fun K hK => ?_)
      go_simp
      refine hK.out _ _ ?_
      clear hK K
      refine wpAnyL_done (by kernel_rfl) ?_ _
      go_wp2_with fail
      go_roundw
      case rel => exact ⟨k + 1, _, _, _, _, by omega, by go_num, HK7⟩
      case measure => simp [intOf]; omega
    · obtain rfl : k = zs.length := by omega
      have hki := unhide HK
      have hkiS := hki.size
      have hm := hki.mem
      have hst3 : RowsAt 3 wr (.slice ba zs.length bc) ((zeros3 zs.length).map stRw) := by rw [zeros3_rows]; exact hm.ob.at
      have hev7 : RowsAt 7 wr (.slice ka zs.length kc) (((zs.take zs.length).map firstEv).map evRow) := hm.ok.at
      rw [List.take_length] at hev7
      have k0 : wr.cell? ⟨w.heap.size + 1, 0, none⟩ = some (.int .i64 id) := hm.row.cell (i := 0) (by omega)
      have k1 : wr.cell? ⟨w.heap.size + 1, 1, none⟩ = some (.int .i64 1) := hm.row.cell (i := 1) (by omega)
      have k2 : wr.cell? ⟨w.heap.size + 1, 2, none⟩ = some (.int .i64 0) := hm.row.cell (i := 2) (by omega)
      have k3 : wr.cell? ⟨w.heap.size + 1, 3, none⟩ = some (.slice ba zs.length bc) := hm.row.cell (i := 3) (by omega)
      have k4 : wr.cell? ⟨w.heap.size + 1, 4, none⟩ = some (.slice ka zs.length kc) := hm.row.cell (i := 4) (by omega)
      have k5 : wr.cell? ⟨w.heap.size + 1, 5, none⟩ = some (.slice none 0 0) := hm.row.cell (i := 5) (by omega)
      have k6 : wr.cell? ⟨w.heap.size + 1, 6, none⟩ = some (.int .i64 0) := hm.row.cell (i := 6) (by omega)
      have HRW := hide ((unhide HRR).of_block (hki.keep w.heap.size (by omega) (by omega)))
      have HBE := hide hki.bel
      have HS3 := hide hst3
      have HE7 := hide hev7
      clear hki hm hst3 hev7
      go_wp2_with fail
      refine (blank_any id 1 0 0 ba ka none zs.length bc zs.length kc 0 0 _ (by omega)).mono ?_
      rintro e w8 ⟨p, d, m, rfl, hrp, hrd, hmm, q1, q2, q3, n1, n2, n3, hb8⟩
      have hx8 := (unhide HRW).of_block (hb8.block w.heap.size (by omega))
      have hrs := unhide HRW
      have z1 := hrp.frozen 7
      have z2 := hrp.frozen 9
      have g1 : w8.cell? ⟨p, 7, none⟩ = some (.bool false) := hrp.cell (i := 7) (by omega)
      have g2 : w8.cell? ⟨p, 9, none⟩ = some (.int .i64 0) := hrp.cell (i := 9) (by omega)
      have hr2 := rowIs_set (rowIs_set hrp (j := 7) (u := .bool true) (by omega)) (j := 9) (u := .int .i64 1) (by omega)
      have hbW := below_then (unhide HBE) hb8
      have HR9 : Hid (((w8.setCell ⟨p, 7, none⟩ (.bool true)).setCell ⟨p, 9, none⟩ (.int .i64 1)).rowIs p 73 16 (fun i => ([.int .i64 id, .int .i64 1, .int .i64 0, .slice ba (zeros3 zs.length).length bc, .slice ka (zs.map firstEv).length kc, .slice none ([] : List OutV).length 0, .int .i64 0, .bool true, .slice (some ⟨d, 0, none⟩) (zeros3 zs.length).length (zeros3 zs.length).length, .int .i64 1, .map (some m), .int .i64 0, .int .i64 0, .int .i64 0, .int .i64 0, .int .i64 41] : List Value).getD i undef)) := hide (hr2.congr (fun i (hi : i < 16) => by
        rw [zeros3_len, List.length_map]
        match i, hi with
        | 0, _ => rfl
        | 1, _ => rfl
        | 2, _ => rfl
        | 3, _ => rfl
        | 4, _ => rfl
        | 5, _ => rfl
        | 6, _ => rfl
        | 7, _ => rfl
        | 8, _ => rfl
        | 9, _ => rfl
        | 10, _ => rfl
        | 11, _ => rfl
        | 12, _ => rfl
        | 13, _ => rfl
        | 14, _ => rfl
        | 15, _ => rfl
        | j + 16, hj => exact absurd hj (by omega)))
      have hoth : ∀ b, b ≠ p → ((w8.setCell ⟨p, 7, none⟩ (.bool true)).setCell ⟨p, 9, none⟩ (.int .i64 1)).heap[b]? = w8.heap[b]? := fun b hb => (Below.heap_setCell _ ⟨p, 9, none⟩ _ b hb).trans (Below.heap_setCell _ ⟨p, 7, none⟩ _ b hb)
      have hbN : Below w.heap.size w ((w8.setCell ⟨p, 7, none⟩ (.bool true)).setCell ⟨p, 9, none⟩ (.int .i64 1)) := (hbW.setCell (show w.heap.size ≤ p by omega) _).setCell (show w.heap.size ≤ p by omega) _
      have hbR : Below wr.heap.size wr ((w8.setCell ⟨p, 7, none⟩ (.bool true)).setCell ⟨p, 9, none⟩ (.int .i64 1)) := (hb8.setCell (show wr.heap.size ≤ p by omega) _).setCell (show wr.heap.size ≤ p by omega) _
      have HD9 : Hid (((w8.setCell ⟨p, 7, none⟩ (.bool true)).setCell ⟨p, 9, none⟩ (.int .i64 1)).rowIs d 35 (zeros3 zs.length).length (fun _ => .slice none 0 0)) := hide (by rw [zeros3_len]; exact hrd.of_block (hoth d (fun e => n1 e.symm)))
      have HM9 := hide ((hoth m (fun e => n2 e.symm)).trans hmm)
      have HRR9 := hide (hrs.of_block (hbR.block w.heap.size (by omega)))
      have HBN := hide hbN
      have HS9 := hide ((unhide HS3).on hbR)
      have HE9 := hide ((unhide HE7).on hbR)
      clear hx8 hrs hr2 hrp hrd hmm hbW hoth hbN hbR hb8 HRW HS3 HE7 HBE k0 k1 k2 k3 k4 k5 k6
      go_upto_region 12 with fail
      clear g1 g2 z1 z2
      generalize ((w8.setCell ⟨p, 7, none⟩ (.bool true)).setCell ⟨p, 9, none⟩ (.int .i64 1)) = W9 at *
      go_wp2_with fail
      refine (toNode_any p d m id 1 0 0 1 0 0 0 0 41 true (zeros3 zs.length) (zs.map firstEv) [] ba ka none bc kc 0 W9 (unhide HR9) (unhide HD9) (unhide HM9) (by rw [zeros3_len]; exact unhide HS9) (by rw [List.length_map]; exact unhide HE9) ⟨none, 0, rfl, Nat.le_refl _, Nat.zero_le _, Or.inl rfl⟩ (by rw [zeros3_len, unhide HZS]) (by rw [zeros3_len]; omega) (by rw [List.length_map]; omega) (by simp)).mono ?_
      rintro e wA ⟨vl, vk, vo, vv, vn, rfl, hown, hbA⟩
      obtain ⟨⟨al, acl, e1⟩, ⟨ak, ack, e2⟩, ⟨ao, aco, e3⟩, ⟨av, acv, e4⟩, ⟨an, acn, e5⟩⟩ := hown.at.sliced
      subst e1 e2 e3 e4 e5
      have hnn : (⟨id, true, 1, 0, nilLanes ((procsTo id 4).zip (zeros3 zs.length)), zs.map firstEv, [], 0, 1, nilViews 3, [0, 0, 0], 0, 41⟩ : NodeV) = startN id := by rw [startN, unhide HZS]
      rw [hnn] at hown ⊢
      clear hnn
      obtain ⟨N, hNe⟩ : ∃ N, N = startN id := ⟨_, rfl⟩
      rw [← hNe] at hown ⊢
      have HNE := hide hNe
      clear hNe
      have hlt := (unhide HRR9).lt
      have hrA := (unhide HRR9).of_block (hbA.block w.heap.size hlt)
      have x0 : wA.cell? ⟨w.heap.size, 0, none⟩ = some (.int .i64 0) := hrA.cell (i := 0) (by simp)
      have f0 : wA.frozen? ⟨w.heap.size, 0, none⟩ = false := hrA.frozen 0
      have x1 : wA.cell? ⟨w.heap.size, 1, none⟩ = some (.bool false) := hrA.cell (i := 1) (by simp)
      have f1 : wA.frozen? ⟨w.heap.size, 1, none⟩ = false := hrA.frozen 1
      have x2 : wA.cell? ⟨w.heap.size, 2, none⟩ = some (.int .i64 0) := hrA.cell (i := 2) (by simp)
      have f2 : wA.frozen? ⟨w.heap.size, 2, none⟩ = false := hrA.frozen 2
      have x3 : wA.cell? ⟨w.heap.size, 3, none⟩ = some (.int .i64 0) := hrA.cell (i := 3) (by simp)
      have f3 : wA.frozen? ⟨w.heap.size, 3, none⟩ = false := hrA.frozen 3
      have x4 : wA.cell? ⟨w.heap.size, 4, none⟩ = some (.slice none 0 0) := hrA.cell (i := 4) (by simp)
      have f4 : wA.frozen? ⟨w.heap.size, 4, none⟩ = false := hrA.frozen 4
      have x5 : wA.cell? ⟨w.heap.size, 5, none⟩ = some (.slice none 0 0) := hrA.cell (i := 5) (by simp)
      have f5 : wA.frozen? ⟨w.heap.size, 5, none⟩ = false := hrA.frozen 5
      have x6 : wA.cell? ⟨w.heap.size, 6, none⟩ = some (.slice none 0 0) := hrA.cell (i := 6) (by simp)
      have f6 : wA.frozen? ⟨w.heap.size, 6, none⟩ = false := hrA.frozen 6
      have x7 : wA.cell? ⟨w.heap.size, 7, none⟩ = some (.int .i64 0) := hrA.cell (i := 7) (by simp)
      have f7 : wA.frozen? ⟨w.heap.size, 7, none⟩ = false := hrA.frozen 7
      have x8 : wA.cell? ⟨w.heap.size, 8, none⟩ = some (.int .i64 0) := hrA.cell (i := 8) (by simp)
      have f8 : wA.frozen? ⟨w.heap.size, 8, none⟩ = false := hrA.frozen 8
      have x9 : wA.cell? ⟨w.heap.size, 9, none⟩ = some (.slice none 0 0) := hrA.cell (i := 9) (by simp)
      have f9 : wA.frozen? ⟨w.heap.size, 9, none⟩ = false := hrA.frozen 9
      have x10 : wA.cell? ⟨w.heap.size, 10, none⟩ = some (.slice none 0 0) := hrA.cell (i := 10) (by simp)
      have f10 : wA.frozen? ⟨w.heap.size, 10, none⟩ = false := hrA.frozen 10
      have x11 : wA.cell? ⟨w.heap.size, 11, none⟩ = some (.int .i64 0) := hrA.cell (i := 11) (by simp)
      have f11 : wA.frozen? ⟨w.heap.size, 11, none⟩ = false := hrA.frozen 11
      have x12 : wA.cell? ⟨w.heap.size, 12, none⟩ = some (.int .i64 0) := hrA.cell (i := 12) (by simp)
      have f12 : wA.frozen? ⟨w.heap.size, 12, none⟩ = false := hrA.frozen 12
      have HRA := hide hrA
      have HOWN := hide hown
      have HBA := hide hbA
      clear hrA hown hbA
      go_wp2_with fail
      clear x0 f0 x1 f1 x2 f2 x3 f3 x4 f4 x5 f5 x6 f6 x7 f7 x8 f8 x9 f9 x10 f10 x11 f11 x12 f12
      show bodyPost _ _ _ _ _ (setVals wA w.heap.size 0 [.int .i64 N.id, .bool N.up, .int .i64 N.inc, .int .i64 N.g, .slice al N.lanes.length acl, .slice ak N.kept.length ack, .slice ao N.outs.length aco, .int .i64 N.led, .int .i64 N.ver, .slice av N.views.length acv, .slice an N.known.length acn, .int .i64 N.round, .int .i64 N.low])
      have hrow := setVals_row [.int .i64 N.id, .bool N.up, .int .i64 N.inc, .int .i64 N.g, .slice al N.lanes.length acl, .slice ak N.kept.length ack, .slice ao N.outs.length aco, .int .i64 N.led, .int .i64 N.ver, .slice av N.views.length acv, .slice an N.known.length acn, .int .i64 N.round, .int .i64 N.low] 0 wA _ (unhide HRA)
      have hoth := fun b (hb : b ≠ w.heap.size) => setVals_other (b := w.heap.size) [.int .i64 N.id, .bool N.up, .int .i64 N.inc, .int .i64 N.g, .slice al N.lanes.length acl, .slice ak N.kept.length ack, .slice ao N.outs.length aco, .int .i64 N.led, .int .i64 N.ver, .slice av N.views.length acv, .slice an N.known.length acn, .int .i64 N.round, .int .i64 N.low] 0 wA b hb
      have hszA := setVals_size (b := w.heap.size) [.int .i64 N.id, .bool N.up, .int .i64 N.inc, .int .i64 N.g, .slice al N.lanes.length acl, .slice ak N.kept.length ack, .slice ao N.outs.length aco, .int .i64 N.led, .int .i64 N.ver, .slice av N.views.length acv, .slice an N.known.length acn, .int .i64 N.round, .int .i64 N.low] 0 wA
      have hbl := setVals_below (b := w.heap.size) (B := w.heap.size) (a := w) [.int .i64 N.id, .bool N.up, .int .i64 N.inc, .int .i64 N.g, .slice al N.lanes.length acl, .slice ak N.kept.length ack, .slice ao N.outs.length aco, .int .i64 N.led, .int .i64 N.ver, .slice av N.views.length acv, .slice an N.known.length acn, .int .i64 N.round, .int .i64 N.low] 0 wA (below_then (unhide HBN) (unhide HBA)) (Nat.le_refl _)
      generalize setVals wA w.heap.size 0 [.int .i64 N.id, .bool N.up, .int .i64 N.inc, .int .i64 N.g, .slice al N.lanes.length acl, .slice ak N.kept.length ack, .slice ao N.outs.length aco, .int .i64 N.led, .int .i64 N.ver, .slice av N.views.length acv, .slice an N.known.length acn, .int .i64 N.round, .int .i64 N.low] = WE at *
      have x0 : WE.cell? ⟨w.heap.size, 0, none⟩ = some (.int .i64 N.id) := hrow.cell (i := 0) (by simp)
      have x1 : WE.cell? ⟨w.heap.size, 1, none⟩ = some (.bool N.up) := hrow.cell (i := 1) (by simp)
      have x2 : WE.cell? ⟨w.heap.size, 2, none⟩ = some (.int .i64 N.inc) := hrow.cell (i := 2) (by simp)
      have x3 : WE.cell? ⟨w.heap.size, 3, none⟩ = some (.int .i64 N.g) := hrow.cell (i := 3) (by simp)
      have x4 : WE.cell? ⟨w.heap.size, 4, none⟩ = some (.slice al N.lanes.length acl) := hrow.cell (i := 4) (by simp)
      have x5 : WE.cell? ⟨w.heap.size, 5, none⟩ = some (.slice ak N.kept.length ack) := hrow.cell (i := 5) (by simp)
      have x6 : WE.cell? ⟨w.heap.size, 6, none⟩ = some (.slice ao N.outs.length aco) := hrow.cell (i := 6) (by simp)
      have x7 : WE.cell? ⟨w.heap.size, 7, none⟩ = some (.int .i64 N.led) := hrow.cell (i := 7) (by simp)
      have x8 : WE.cell? ⟨w.heap.size, 8, none⟩ = some (.int .i64 N.ver) := hrow.cell (i := 8) (by simp)
      have x9 : WE.cell? ⟨w.heap.size, 9, none⟩ = some (.slice av N.views.length acv) := hrow.cell (i := 9) (by simp)
      have x10 : WE.cell? ⟨w.heap.size, 10, none⟩ = some (.slice an N.known.length acn) := hrow.cell (i := 10) (by simp)
      have x11 : WE.cell? ⟨w.heap.size, 11, none⟩ = some (.int .i64 N.round) := hrow.cell (i := 11) (by simp)
      have x12 : WE.cell? ⟨w.heap.size, 12, none⟩ = some (.int .i64 N.low) := hrow.cell (i := 12) (by simp)
      have hW9 := (unhide HBN).size
      refine bodyPost_ret (v := nodeAgg N (.slice al N.lanes.length acl) (.slice ak N.kept.length ack) (.slice ao N.outs.length aco) (.slice av N.views.length acv) (.slice an N.known.length acn)) (by simp [results, Try.results10, go_sem, x0, x1, x2, x3, x4, x5, x6, x7, x8, x9, x10, x11, x12]) rfl (show ToNode (startN id) w _ _ from ?_)
      rw [← unhide HNE]
      refine ⟨_, _, _, _, _, rfl, ?_, hbl⟩
      exact (nodeOwn_keep (unhide HOWN) (fun b h1 _ => hoth b (by omega))).wide (by omega) (by omega)
end Go.Proofs.Ytimkamgghkjhhaa
