/- The later slot of a disk: impl.laterOf, spec.l31Later. -/
import Derived.Test.YtocgfngcgekciaaGrid3
namespace Go.Proofs.Ytocgfngcgekciaa
open Go.RowKit
set_option linter.unusedVariables false
set_option linter.unusedSimpArgs false


def isB (d : DiskV) : Bool := decide (d.a.num < d.b.num)
def later (d : DiskV) : SlotV := if isB d then d.b else d.a
def laterV (d : DiskV) (va vb : Value) : Value := if isB d then vb else va
theorem DiskAt.later {w : World} {d : DiskV} {va vb : Value} (h : DiskAt w d va vb) : GridAt w (laterV d va vb) (later d).rows := by
  unfold laterV Go.Proofs.Ytocgfngcgekciaa.later
  cases isB d
  · exact h.a
  · exact h.b

set_option maxRecDepth 100000 in
set_option maxHeartbeats 1000000 in
theorem laterOf_any (d : DiskV) (va vb : Value) (w : World) (h : DiskAt w d va vb) :
    Calls Try.prog 48 #[diskAgg d va vb] w fun e w' => e = .returned (.tuple #[slotAgg (later d) (laterV d va vb), .bool (isB d)]) ∧ Below w.heap.size w w' := by
  obtain ⟨a1, c1, rfl⟩ := h.a.sliced
  obtain ⟨a2, c2, rfl⟩ := h.b.sliced
  clear h
  by_cases hlt : d.a.num < d.b.num
  · have e1 : later d = d.b := by simp [later, isB, hlt]
    have e2 : laterV d (.slice a1 d.a.rows.length c1) (.slice a2 d.b.rows.length c2) = .slice a2 d.b.rows.length c2 := by simp [laterV, isB, hlt]
    have e3 : isB d = true := by simp [isB, hlt]
    rw [e1, e2, e3]
    obtain ⟨W, hW⟩ : ∃ W, W = (w.alloc (.cells #[.int .i64 d.a.num, .int .i64 d.a.cnt, .slice a1 d.a.rows.length c1, .int .i64 d.b.num, .int .i64 d.b.cnt, .slice a2 d.b.rows.length c2] 27)).alloc (.cells #[.int .i64 d.b.num, .int .i64 d.b.cnt, .slice a2 d.b.rows.length c2] 25) := ⟨_, rfl⟩
    have hs1 : (w.alloc (.cells #[.int .i64 d.a.num, .int .i64 d.a.cnt, .slice a1 d.a.rows.length c1, .int .i64 d.b.num, .int .i64 d.b.cnt, .slice a2 d.b.rows.length c2] 27)).heap.size = w.heap.size + 1 := World.size_alloc _ _
    have HB : Hid (Below w.heap.size w W) := hide (by rw [hW]; exact ((Below.refl _ _).alloc (Nat.le_refl _) _).alloc (by rw [hs1]; omega) _)
    have hc := cellsAt_new (w.alloc (.cells #[.int .i64 d.a.num, .int .i64 d.a.cnt, .slice a1 d.a.rows.length c1, .int .i64 d.b.num, .int .i64 d.b.cnt, .slice a2 d.b.rows.length c2] 27)) [.int .i64 d.b.num, .int .i64 d.b.cnt, .slice a2 d.b.rows.length c2] 25
    rw [hs1, show ((w.alloc (.cells #[.int .i64 d.a.num, .int .i64 d.a.cnt, .slice a1 d.a.rows.length c1, .int .i64 d.b.num, .int .i64 d.b.cnt, .slice a2 d.b.rows.length c2] 27)).alloc (.cells ([.int .i64 d.b.num, .int .i64 d.b.cnt, .slice a2 d.b.rows.length c2] : List Value).toArray 25)) = W from hW.symm] at hc
    have HC := hide hc
    have HW := hide hW
    clear hc hW hs1 e1 e2 e3
    go_enter Try.func48, Try.ntmps48
    go_wp2_with fail
    rw [← unhide HW]
    have y0 : W.cell? ⟨w.heap.size + 1, 0, none⟩ = some (.int .i64 d.b.num) := (unhide HC) 0 (by simp)
    have y1 : W.cell? ⟨w.heap.size + 1, 1, none⟩ = some (.int .i64 d.b.cnt) := (unhide HC) 1 (by simp)
    have y2 : W.cell? ⟨w.heap.size + 1, 2, none⟩ = some (.slice a2 d.b.rows.length c2) := (unhide HC) 2 (by simp)
    exact bodyPost_ret (v := .tuple #[slotAgg d.b (.slice a2 d.b.rows.length c2), .bool true]) (by simp [results, Try.results48, go_sem, y0, y1, y2]) rfl ⟨rfl, unhide HB⟩
  · have e1 : later d = d.a := by simp [later, isB, hlt]
    have e2 : laterV d (.slice a1 d.a.rows.length c1) (.slice a2 d.b.rows.length c2) = .slice a1 d.a.rows.length c1 := by simp [laterV, isB, hlt]
    have e3 : isB d = false := by simp [isB, hlt]
    rw [e1, e2, e3]
    obtain ⟨W, hW⟩ : ∃ W, W = (w.alloc (.cells #[.int .i64 d.a.num, .int .i64 d.a.cnt, .slice a1 d.a.rows.length c1, .int .i64 d.b.num, .int .i64 d.b.cnt, .slice a2 d.b.rows.length c2] 27)).alloc (.cells #[.int .i64 d.a.num, .int .i64 d.a.cnt, .slice a1 d.a.rows.length c1] 25) := ⟨_, rfl⟩
    have hs1 : (w.alloc (.cells #[.int .i64 d.a.num, .int .i64 d.a.cnt, .slice a1 d.a.rows.length c1, .int .i64 d.b.num, .int .i64 d.b.cnt, .slice a2 d.b.rows.length c2] 27)).heap.size = w.heap.size + 1 := World.size_alloc _ _
    have HB : Hid (Below w.heap.size w W) := hide (by rw [hW]; exact ((Below.refl _ _).alloc (Nat.le_refl _) _).alloc (by rw [hs1]; omega) _)
    have hc := cellsAt_new (w.alloc (.cells #[.int .i64 d.a.num, .int .i64 d.a.cnt, .slice a1 d.a.rows.length c1, .int .i64 d.b.num, .int .i64 d.b.cnt, .slice a2 d.b.rows.length c2] 27)) [.int .i64 d.a.num, .int .i64 d.a.cnt, .slice a1 d.a.rows.length c1] 25
    rw [hs1, show ((w.alloc (.cells #[.int .i64 d.a.num, .int .i64 d.a.cnt, .slice a1 d.a.rows.length c1, .int .i64 d.b.num, .int .i64 d.b.cnt, .slice a2 d.b.rows.length c2] 27)).alloc (.cells ([.int .i64 d.a.num, .int .i64 d.a.cnt, .slice a1 d.a.rows.length c1] : List Value).toArray 25)) = W from hW.symm] at hc
    have HC := hide hc
    have HW := hide hW
    clear hc hW hs1 e1 e2 e3
    go_enter Try.func48, Try.ntmps48
    go_wp2_with fail
    rw [← unhide HW]
    have y0 : W.cell? ⟨w.heap.size + 1, 0, none⟩ = some (.int .i64 d.a.num) := (unhide HC) 0 (by simp)
    have y1 : W.cell? ⟨w.heap.size + 1, 1, none⟩ = some (.int .i64 d.a.cnt) := (unhide HC) 1 (by simp)
    have y2 : W.cell? ⟨w.heap.size + 1, 2, none⟩ = some (.slice a1 d.a.rows.length c1) := (unhide HC) 2 (by simp)
    exact bodyPost_ret (v := .tuple #[slotAgg d.a (.slice a1 d.a.rows.length c1), .bool false]) (by simp [results, Try.results48, go_sem, y0, y1, y2]) rfl ⟨rfl, unhide HB⟩

set_option maxRecDepth 100000 in
set_option maxHeartbeats 1000000 in
theorem l31Later_any (d : DiskV) (va vb : Value) (w : World) (h : DiskAt w d va vb) :
    Calls Try.prog 46 #[diskAgg d va vb] w fun e w' => e = .returned (slotAgg (later d) (laterV d va vb)) ∧ Below w.heap.size w w' := by
  obtain ⟨a1, c1, rfl⟩ := h.a.sliced
  obtain ⟨a2, c2, rfl⟩ := h.b.sliced
  clear h
  by_cases hlt : d.a.num < d.b.num
  · have e1 : later d = d.b := by simp [later, isB, hlt]
    have e2 : laterV d (.slice a1 d.a.rows.length c1) (.slice a2 d.b.rows.length c2) = .slice a2 d.b.rows.length c2 := by simp [laterV, isB, hlt]
    rw [e1, e2]
    obtain ⟨W, hW⟩ : ∃ W, W = (w.alloc (.cells #[.int .i64 d.a.num, .int .i64 d.a.cnt, .slice a1 d.a.rows.length c1, .int .i64 d.b.num, .int .i64 d.b.cnt, .slice a2 d.b.rows.length c2] 27)).alloc (.cells #[.int .i64 d.b.num, .int .i64 d.b.cnt, .slice a2 d.b.rows.length c2] 25) := ⟨_, rfl⟩
    have hs1 : (w.alloc (.cells #[.int .i64 d.a.num, .int .i64 d.a.cnt, .slice a1 d.a.rows.length c1, .int .i64 d.b.num, .int .i64 d.b.cnt, .slice a2 d.b.rows.length c2] 27)).heap.size = w.heap.size + 1 := World.size_alloc _ _
    have HB : Hid (Below w.heap.size w W) := hide (by rw [hW]; exact ((Below.refl _ _).alloc (Nat.le_refl _) _).alloc (by rw [hs1]; omega) _)
    have hc := cellsAt_new (w.alloc (.cells #[.int .i64 d.a.num, .int .i64 d.a.cnt, .slice a1 d.a.rows.length c1, .int .i64 d.b.num, .int .i64 d.b.cnt, .slice a2 d.b.rows.length c2] 27)) [.int .i64 d.b.num, .int .i64 d.b.cnt, .slice a2 d.b.rows.length c2] 25
    rw [hs1, show ((w.alloc (.cells #[.int .i64 d.a.num, .int .i64 d.a.cnt, .slice a1 d.a.rows.length c1, .int .i64 d.b.num, .int .i64 d.b.cnt, .slice a2 d.b.rows.length c2] 27)).alloc (.cells ([.int .i64 d.b.num, .int .i64 d.b.cnt, .slice a2 d.b.rows.length c2] : List Value).toArray 25)) = W from hW.symm] at hc
    have HC := hide hc
    have HW := hide hW
    clear hc hW hs1 e1 e2
    go_enter Try.func46, Try.ntmps46
    go_wp2_with fail
    rw [← unhide HW]
    have y0 : W.cell? ⟨w.heap.size + 1, 0, none⟩ = some (.int .i64 d.b.num) := (unhide HC) 0 (by simp)
    have y1 : W.cell? ⟨w.heap.size + 1, 1, none⟩ = some (.int .i64 d.b.cnt) := (unhide HC) 1 (by simp)
    have y2 : W.cell? ⟨w.heap.size + 1, 2, none⟩ = some (.slice a2 d.b.rows.length c2) := (unhide HC) 2 (by simp)
    exact bodyPost_ret (v := slotAgg d.b (.slice a2 d.b.rows.length c2)) (by simp [results, Try.results46, go_sem, y0, y1, y2]) rfl ⟨rfl, unhide HB⟩
  · have e1 : later d = d.a := by simp [later, isB, hlt]
    have e2 : laterV d (.slice a1 d.a.rows.length c1) (.slice a2 d.b.rows.length c2) = .slice a1 d.a.rows.length c1 := by simp [laterV, isB, hlt]
    rw [e1, e2]
    obtain ⟨W, hW⟩ : ∃ W, W = (w.alloc (.cells #[.int .i64 d.a.num, .int .i64 d.a.cnt, .slice a1 d.a.rows.length c1, .int .i64 d.b.num, .int .i64 d.b.cnt, .slice a2 d.b.rows.length c2] 27)).alloc (.cells #[.int .i64 d.a.num, .int .i64 d.a.cnt, .slice a1 d.a.rows.length c1] 25) := ⟨_, rfl⟩
    have hs1 : (w.alloc (.cells #[.int .i64 d.a.num, .int .i64 d.a.cnt, .slice a1 d.a.rows.length c1, .int .i64 d.b.num, .int .i64 d.b.cnt, .slice a2 d.b.rows.length c2] 27)).heap.size = w.heap.size + 1 := World.size_alloc _ _
    have HB : Hid (Below w.heap.size w W) := hide (by rw [hW]; exact ((Below.refl _ _).alloc (Nat.le_refl _) _).alloc (by rw [hs1]; omega) _)
    have hc := cellsAt_new (w.alloc (.cells #[.int .i64 d.a.num, .int .i64 d.a.cnt, .slice a1 d.a.rows.length c1, .int .i64 d.b.num, .int .i64 d.b.cnt, .slice a2 d.b.rows.length c2] 27)) [.int .i64 d.a.num, .int .i64 d.a.cnt, .slice a1 d.a.rows.length c1] 25
    rw [hs1, show ((w.alloc (.cells #[.int .i64 d.a.num, .int .i64 d.a.cnt, .slice a1 d.a.rows.length c1, .int .i64 d.b.num, .int .i64 d.b.cnt, .slice a2 d.b.rows.length c2] 27)).alloc (.cells ([.int .i64 d.a.num, .int .i64 d.a.cnt, .slice a1 d.a.rows.length c1] : List Value).toArray 25)) = W from hW.symm] at hc
    have HC := hide hc
    have HW := hide hW
    clear hc hW hs1 e1 e2
    go_enter Try.func46, Try.ntmps46
    go_wp2_with fail
    rw [← unhide HW]
    have y0 : W.cell? ⟨w.heap.size + 1, 0, none⟩ = some (.int .i64 d.a.num) := (unhide HC) 0 (by simp)
    have y1 : W.cell? ⟨w.heap.size + 1, 1, none⟩ = some (.int .i64 d.a.cnt) := (unhide HC) 1 (by simp)
    have y2 : W.cell? ⟨w.heap.size + 1, 2, none⟩ = some (.slice a1 d.a.rows.length c1) := (unhide HC) 2 (by simp)
    exact bodyPost_ret (v := slotAgg d.a (.slice a1 d.a.rows.length c1)) (by simp [results, Try.results46, go_sem, y0, y1, y2]) rfl ⟨rfl, unhide HB⟩
end Go.Proofs.Ytocgfngcgekciaa
