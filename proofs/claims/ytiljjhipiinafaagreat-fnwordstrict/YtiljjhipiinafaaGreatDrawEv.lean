/- spec.l72Event: an event that is drawn. -/
import Derived.Test.YtiljjhipiinafaaGreatPick
import Derived.Test.YtiljjhipiinafaaGreatEv
namespace Go.Proofs.YtiljjhipiinafaaGreat
open Go.RowKit
set_option linter.unusedVariables false

theorem OnlyB.cell {q : Nat} {w w' : World} (h : OnlyB q w w') {b o : Nat} {v : Value} (hb : b ≠ q) (hc : w.cell? ⟨b, o, none⟩ = some v) : w'.cell? ⟨b, o, none⟩ = some v :=
  (World.cell?_of_block (h.other b hb (World.block_lt_of_cell? w ⟨b, o, none⟩ hc))).trans hc

theorem OnlyB.frozen {q : Nat} {w w' : World} (h : OnlyB q w w') {b o : Nat} (hb : b ≠ q) (hl : b < w.heap.size) : w'.frozen? ⟨b, o, none⟩ = w.frozen? ⟨b, o, none⟩ := by
  have e := h.other b hb hl
  simp [World.frozen?, e]

theorem OnlyB.alloc {q : Nat} (w : World) (o : Obj) (hq : q ≤ w.heap.size) : OnlyB q w (w.alloc o) :=
  ⟨by simp, fun b _ hl => ((Below.refl w.heap.size w).alloc (Nat.le_refl _) o).block b hl, (Below.refl _ _).alloc hq _⟩

theorem RdAt.only {q r : Nat} {w w' : World} {v : Value} {p : Int} (h : RdAt w q v p) (ho : OnlyB r w w') (hne : q ≠ r) : RdAt w' q v p :=
  ⟨ho.cell hne h.c0, ho.cell hne h.c1, fun i => (ho.frozen hne (show q < w.heap.size from World.block_lt_of_cell? w ⟨q, 0, none⟩ h.c0)).trans (h.fz i)⟩

theorem Reader.alloc {w0 w : World} {q : Nat} {v : Value} {zs : List Int} {p : Int} (h : Reader w0 w q v zs p) (o : Obj) : Reader w0 (w.alloc o) q v zs p := by
  have hb : Below w.heap.size w (w.alloc o) := (Below.refl _ _).alloc (Nat.le_refl _) _
  exact ⟨h.bytes, h.few, h.q0, h.below.trans (hb.mono h.below.size), h.rd.on hb, h.p0⟩

/-- Zeros at a block: what a result's place is at first. -/
structure EvRow (w : World) (r : Nat) (e : EvV) : Prop where
  c0 : w.cell? ⟨r, 0, none⟩ = some (.int .i64 e.time)
  c1 : w.cell? ⟨r, 1, none⟩ = some (.int .i64 e.to)
  c2 : w.cell? ⟨r, 2, none⟩ = some (.int .i64 e.src)
  c3 : w.cell? ⟨r, 3, none⟩ = some (.int .i64 e.count)
  c4 : w.cell? ⟨r, 4, none⟩ = some (.int .i64 e.n)
  c5 : w.cell? ⟨r, 5, none⟩ = some (.int .i64 e.kind)
  c6 : w.cell? ⟨r, 6, none⟩ = some (.int .i64 e.arg)
  fz : ∀ i, w.frozen? ⟨r, i, none⟩ = false

theorem EvRow.only {w w' : World} {r q : Nat} {e : EvV} (ho : OnlyB q w w') (hne : r ≠ q) (h : EvRow w r e) : EvRow w' r e :=
  ⟨ho.cell hne h.c0, ho.cell hne h.c1, ho.cell hne h.c2, ho.cell hne h.c3, ho.cell hne h.c4, ho.cell hne h.c5, ho.cell hne h.c6, fun i => (ho.frozen hne (show r < w.heap.size from World.block_lt_of_cell? w ⟨r, 0, none⟩ h.c0)).trans (h.fz i)⟩

theorem EvRow.on {w w' : World} {r : Nat} {e : EvV} (hb : Below w.heap.size w w') (h : EvRow w r e) : EvRow w' r e :=
  ⟨cell_on hb h.c0, cell_on hb h.c1, cell_on hb h.c2, cell_on hb h.c3, cell_on hb h.c4, cell_on hb h.c5, cell_on hb h.c6, fun i => (hb.frozen (p := ⟨r, i, none⟩) (show r < w.heap.size from World.block_lt_of_cell? w ⟨r, 0, none⟩ h.c0)).trans (h.fz i)⟩

/-- A store into a block that was made since. -/
theorem OnlyB.setNew {q r o : Nat} {w w' : World} (h : OnlyB q w w') (hr : w.heap.size ≤ r) (hq : q ≤ r) (v : Value) : OnlyB q w (w'.setCell ⟨r, o, none⟩ v) :=
  ⟨by simpa using h.size, fun b hb hl => (Below.heap_setCell w' ⟨r, o, none⟩ v b (show b ≠ r by omega)).trans (h.other b hb hl), h.below.setCell (show q ≤ r from hq) _⟩

theorem Reader.setNew {w0 w : World} {q r o : Nat} {v : Value} {zs : List Int} {p : Int} (h : Reader w0 w q v zs p) (hr : q < r) (u : Value) : Reader w0 (w.setCell ⟨r, o, none⟩ u) q v zs p := by
  have hq0 := h.q0
  have hc : ∀ i, (w.setCell ⟨r, o, none⟩ u).cell? ⟨q, i, none⟩ = w.cell? ⟨q, i, none⟩ := fun i => World.cell?_of_block (Below.heap_setCell w ⟨r, o, none⟩ u q (show q ≠ r by omega))
  refine ⟨h.bytes, h.few, h.q0, h.below.setCell (show w0.heap.size ≤ r by omega) _, ⟨(hc 0).trans h.rd.c0, (hc 1).trans h.rd.c1, fun i => ?_⟩, h.p0⟩
  have e := Below.heap_setCell w ⟨r, o, none⟩ u q (show q ≠ r by omega)
  have hf := h.rd.fz i
  simp only [World.frozen?] at hf ⊢
  rw [e]; exact hf

/-- The seven stores of an event into a place. -/
def put7 (w : World) (r : Nat) (e : EvV) : World :=
  ((((((w.setCell ⟨r, 0, none⟩ (.int .i64 e.time)).setCell ⟨r, 1, none⟩ (.int .i64 e.to)).setCell ⟨r, 2, none⟩ (.int .i64 e.src)).setCell ⟨r, 3, none⟩ (.int .i64 e.count)).setCell ⟨r, 4, none⟩ (.int .i64 e.n)).setCell ⟨r, 5, none⟩ (.int .i64 e.kind)).setCell ⟨r, 6, none⟩ (.int .i64 e.arg)

theorem OnlyB.put7 {q r : Nat} {w w' : World} (h : OnlyB q w w') (hr : w.heap.size ≤ r) (hq : q ≤ r) (e : EvV) : OnlyB q w (put7 w' r e) :=
  ((((((h.setNew hr hq _).setNew hr hq _).setNew hr hq _).setNew hr hq _).setNew hr hq _).setNew hr hq _).setNew hr hq _

theorem Reader.put7 {w0 w : World} {q r : Nat} {v : Value} {zs : List Int} {p : Int} (h : Reader w0 w q v zs p) (hr : q < r) (e : EvV) : Reader w0 (put7 w r e) q v zs p :=
  ((((((h.setNew hr _).setNew hr _).setNew hr _).setNew hr _).setNew hr _).setNew hr _).setNew hr _

set_option maxRecDepth 100000 in
set_option maxHeartbeats 2000000 in
theorem l72Event_any (w0 w : World) (q : Nat) (v : Value) (zs : List Int) (p : Int) (h : Reader w0 w q v zs p) (hp2 : p ≤ 90000) :
    Calls Tryz.prog 76 #[.pointer (some ⟨q, 0, none⟩)] w fun e w' => ∃ (x : EvV) (p' : Int), e = .returned (evAgg x) ∧ p' ≤ p + 20 ∧ -1 ≤ x.time ∧ x.time ≤ 41 ∧ Reader w0 w' q v zs p' ∧ OnlyB q w w' := by
  have hq : q < w.heap.size := World.block_lt_of_cell? w ⟨q, 0, none⟩ h.rd.c0
  have hz : EvRow (w.alloc (.cells #[.int .i64 0, .int .i64 0, .int .i64 0, .int .i64 0, .int .i64 0, .int .i64 0, .int .i64 0] 56)) w.heap.size ⟨0, 0, 0, 0, 0, 0, 0⟩ := by
    refine ⟨?_, ?_, ?_, ?_, ?_, ?_, ?_, fun i => ?_⟩ <;> simp [go_sem]
  have h1 := h.alloc (.cells #[.int .i64 0, .int .i64 0, .int .i64 0, .int .i64 0, .int .i64 0, .int .i64 0, .int .i64 0] 56)
  have ho1 : OnlyB q w (w.alloc (.cells #[.int .i64 0, .int .i64 0, .int .i64 0, .int .i64 0, .int .i64 0, .int .i64 0, .int .i64 0] 56)) := OnlyB.alloc w _ (by omega)
  have hp0 := h.p0
  have HZ := hide hz
  have H1 := hide h1
  have HO1 := hide ho1
  clear h hz h1 ho1
  go_enter Tryz.func76, Tryz.ntmps76
  go_wp2_with fail
  generalize w.alloc (.cells #[.int .i64 0, .int .i64 0, .int .i64 0, .int .i64 0, .int .i64 0, .int .i64 0, .int .i64 0] 56) = W1 at *
  refine (pick_any w0 _ q v zs _ 41 (unhide H1) (by omega) (by omega) (by omega)).mono ?_
  rintro e W2 ⟨x0, rfl, hx0, hy0, hr, ho⟩
  have H2 := hide hr
  have HO2 := hide ((unhide HO1).trans ho)
  have HZ2 := hide ((unhide HZ).only ho (by omega))
  clear hr ho H1 HO1 HZ
  go_wp2_with fail
  refine (pick_any w0 _ q v zs _ 4 (unhide H2) (by omega) (by omega) (by omega)).mono ?_
  rintro e W3 ⟨x1, rfl, hx1, hy1, hr, ho⟩
  have H3 := hide hr
  have HO3 := hide ((unhide HO2).trans ho)
  have HZ3 := hide ((unhide HZ2).only ho (by omega))
  clear hr ho H2 HO2 HZ2
  go_wp2_with fail
  refine (pick_any w0 _ q v zs _ 5 (unhide H3) (by omega) (by omega) (by omega)).mono ?_
  rintro e W4 ⟨x2, rfl, hx2, hy2, hr, ho⟩
  have H4 := hide hr
  have HO4 := hide ((unhide HO3).trans ho)
  have HZ4 := hide ((unhide HZ3).only ho (by omega))
  clear hr ho H3 HO3 HZ3
  go_wp2_with fail
  refine (pick_any w0 _ q v zs _ 13 (unhide H4) (by omega) (by omega) (by omega)).mono ?_
  rintro e W5 ⟨x3, rfl, hx3, hy3, hr, ho⟩
  have H5 := hide hr
  have HO5 := hide ((unhide HO4).trans ho)
  have HZ5 := hide ((unhide HZ4).only ho (by omega))
  clear hr ho H4 HO4 HZ4
  go_wp2_with fail
  refine (pick_any w0 _ q v zs _ 3 (unhide H5) (by omega) (by omega) (by omega)).mono ?_
  rintro e W6 ⟨x4, rfl, hx4, hy4, hr, ho⟩
  have H6 := hide hr
  have HO6 := hide ((unhide HO5).trans ho)
  have HZ6 := hide ((unhide HZ5).only ho (by omega))
  clear hr ho H5 HO5 HZ5
  go_wp2_with fail
  refine (pick_any w0 _ q v zs _ 3 (unhide H6) (by omega) (by omega) (by omega)).mono ?_
  rintro e W7 ⟨x5, rfl, hx5, hy5, hr, ho⟩
  have H7 := hide hr
  have HO7 := hide ((unhide HO6).trans ho)
  have HZ7 := hide ((unhide HZ6).only ho (by omega))
  clear hr ho H6 HO6 HZ6
  go_wp2_with fail
  refine (pick_any w0 _ q v zs _ 40 (unhide H7) (by omega) (by omega) (by omega)).mono ?_
  rintro e W8 ⟨x6, rfl, hx6, hy6, hr, ho⟩
  have H8 := hide hr
  have HO8 := hide ((unhide HO7).trans ho)
  have HZ8 := hide ((unhide HZ7).only ho (by omega))
  clear hr ho H7 HO7 HZ7
  go_wp2_with fail
  have HA := hide ((unhide H8).alloc (.cells #[.int .i64 x0, .int .i64 x1, .int .i64 (x2 - 1), .int .i64 x3, .int .i64 x4, .int .i64 x5, .int .i64 x6] 56))
  have HOA := hide ((unhide HO8).trans (OnlyB.alloc W8 (.cells #[.int .i64 x0, .int .i64 x1, .int .i64 (x2 - 1), .int .i64 x3, .int .i64 x4, .int .i64 x5, .int .i64 x6] 56) (by have := (unhide HO8).size; omega)))
  have hbA : Below W8.heap.size W8 (W8.alloc (.cells #[.int .i64 x0, .int .i64 x1, .int .i64 (x2 - 1), .int .i64 x3, .int .i64 x4, .int .i64 x5, .int .i64 x6] 56)) := (Below.refl _ _).alloc (Nat.le_refl _) _
  have HZA := hide ((unhide HZ8).on hbA)
  have HE : Hid (EvRow (W8.alloc (.cells #[.int .i64 x0, .int .i64 x1, .int .i64 (x2 - 1), .int .i64 x3, .int .i64 x4, .int .i64 x5, .int .i64 x6] 56)) W8.heap.size ⟨x0, x1, x2 - 1, x3, x4, x5, x6⟩) := hide (by refine ⟨?_, ?_, ?_, ?_, ?_, ?_, ?_, fun i => ?_⟩ <;> simp [go_sem])
  have HW8 : Hid (w.heap.size < W8.heap.size) := hide (World.block_lt_of_cell? W8 ⟨w.heap.size, 0, none⟩ (unhide HZ8).c0)
  have HAS : Hid (W8.heap.size < (W8.alloc (.cells #[.int .i64 x0, .int .i64 x1, .int .i64 (x2 - 1), .int .i64 x3, .int .i64 x4, .int .i64 x5, .int .i64 x6] 56)).heap.size) := hide (by simp)
  clear hbA H8 HO8 HZ8
  generalize (W8.alloc (.cells #[.int .i64 x0, .int .i64 x1, .int .i64 (x2 - 1), .int .i64 x3, .int .i64 x4, .int .i64 x5, .int .i64 x6] 56)) = A at *
  refine (pick_any w0 _ q v zs _ 20 (unhide HA) (by omega) (by omega) (by omega)).mono ?_
  rintro e W9 ⟨x7, rfl, hx7, hy7, hr, ho⟩
  have HA2 := hide hr
  have HOA2 := hide ((unhide HOA).trans ho)
  have HZA2 := hide ((unhide HZA).only ho (by omega))
  have HE2 := hide ((unhide HE).only ho (by have := unhide HW8; omega))
  have HW89 : Hid (W8.heap.size < W9.heap.size) := hide (Nat.lt_of_lt_of_le (unhide HAS) ho.size)
  clear hr ho HA HOA HZA HE HAS
  rcases (show x7 = 0 ∨ x7 = 1 ∨ x7 = 2 ∨ 3 ≤ x7 by omega) with rfl | rfl | rfl | h3
  · skip
    go_wp2_with fail
    have HB := hide ((unhide HA2).alloc (.cells #[.int .i64 (-1), .int .i64 40, .int .i64 41] 3))
    have HOB := hide ((unhide HOA2).trans (OnlyB.alloc W9 (.cells #[.int .i64 (-1), .int .i64 40, .int .i64 41] 3) (by have := (unhide HOA2).size; omega)))
    have hbb : Below W9.heap.size W9 (W9.alloc (.cells #[.int .i64 (-1), .int .i64 40, .int .i64 41] 3)) := (Below.refl _ _).alloc (Nat.le_refl _) _
    have HZB := hide ((unhide HZA2).on hbb)
    have HEB := hide ((unhide HE2).on hbb)
    have f0 : (W9.alloc (.cells #[.int .i64 (-1), .int .i64 40, .int .i64 41] 3)).cell? ⟨W9.heap.size, 0, none⟩ = some (.int .i64 (-1)) := by simp [go_sem]
    have f1 : (W9.alloc (.cells #[.int .i64 (-1), .int .i64 40, .int .i64 41] 3)).cell? ⟨W9.heap.size, 1, none⟩ = some (.int .i64 40) := by simp [go_sem]
    have f2 : (W9.alloc (.cells #[.int .i64 (-1), .int .i64 40, .int .i64 41] 3)).cell? ⟨W9.heap.size, 2, none⟩ = some (.int .i64 41) := by simp [go_sem]
    have hqb : ¬ W9.heap.size = q := by have := (unhide HOA2).size; omega
    have hsz9 : W8.heap.size < W9.heap.size := by have := unhide HW89; omega
    generalize (W9.alloc (.cells #[.int .i64 (-1), .int .i64 40, .int .i64 41] 3)) = B at *
    refine (pick_any w0 _ q v zs _ 3 (unhide HB) (by omega) (by omega) (by omega)).mono ?_
    rintro e W10 ⟨x8, rfl, hx8, hy8, hr, ho⟩
    have HC := hide hr
    have HOC := hide ((unhide HOB).trans ho)
    have HZC := hide ((unhide HZB).only ho (by omega))
    have HEC := hide ((unhide HEB).only ho (by have := unhide HW8; omega))
    have g0 := ho.cell hqb f0
    clear f0
    have g1 := ho.cell hqb f1
    clear f1
    have g2 := ho.cell hqb f2
    clear f2
    clear hr ho HB HOB HZB HEB hbb
    have hx8' : x8 = 0 ∨ x8 = 1 ∨ x8 = 2 := by omega
    generalize W9.heap.size = r4 at *
    have hr3 : w.heap.size < W8.heap.size := by have := unhide HW8; omega
    generalize W8.heap.size = r3 at *
    obtain ⟨e0, e1, e2, e3, e4, e5, e6, ef⟩ := unhide HEC
    obtain ⟨z0, z1, z2, z3, z4, z5, z6, zf⟩ := unhide HZC
    dsimp only at e0 e1 e2 e3 e4 e5 e6 z0 z1 z2 z3 z4 z5 z6
    have hd1 : ¬ r3 = w.heap.size := by omega
    have hd2 : ¬ w.heap.size = r3 := by omega
    rcases hx8' with rfl | rfl | rfl
    · go_wp2_with fail
      refine bodyPost_ret (v := evAgg ⟨(-1), x1, x2 - 1, x3, x4, x5, x6⟩) (by simp [results, Tryz.results76, go_sem, z0, z1, z2, z3, z4, z5, z6]) rfl ⟨⟨(-1), x1, x2 - 1, x3, x4, x5, x6⟩, _, rfl, by omega, by simp only; omega, by simp only; omega, ((unhide HC).setNew (by omega) _).put7 (by omega) ⟨(-1), x1, x2 - 1, x3, x4, x5, x6⟩, ((unhide HOC).setNew (by omega) (by omega) _).put7 (by omega) (by omega) ⟨(-1), x1, x2 - 1, x3, x4, x5, x6⟩⟩
    · go_wp2_with fail
      refine bodyPost_ret (v := evAgg ⟨40, x1, x2 - 1, x3, x4, x5, x6⟩) (by simp [results, Tryz.results76, go_sem, z0, z1, z2, z3, z4, z5, z6]) rfl ⟨⟨40, x1, x2 - 1, x3, x4, x5, x6⟩, _, rfl, by omega, by simp only; omega, by simp only; omega, ((unhide HC).setNew (by omega) _).put7 (by omega) ⟨40, x1, x2 - 1, x3, x4, x5, x6⟩, ((unhide HOC).setNew (by omega) (by omega) _).put7 (by omega) (by omega) ⟨40, x1, x2 - 1, x3, x4, x5, x6⟩⟩
    · go_wp2_with fail
      refine bodyPost_ret (v := evAgg ⟨41, x1, x2 - 1, x3, x4, x5, x6⟩) (by simp [results, Tryz.results76, go_sem, z0, z1, z2, z3, z4, z5, z6]) rfl ⟨⟨41, x1, x2 - 1, x3, x4, x5, x6⟩, _, rfl, by omega, by simp only; omega, by simp only; omega, ((unhide HC).setNew (by omega) _).put7 (by omega) ⟨41, x1, x2 - 1, x3, x4, x5, x6⟩, ((unhide HOC).setNew (by omega) (by omega) _).put7 (by omega) (by omega) ⟨41, x1, x2 - 1, x3, x4, x5, x6⟩⟩
  · skip
    go_wp2_with fail
    have HB := hide ((unhide HA2).alloc (.cells #[.int .i64 (-1), .int .i64 4] 3))
    have HOB := hide ((unhide HOA2).trans (OnlyB.alloc W9 (.cells #[.int .i64 (-1), .int .i64 4] 3) (by have := (unhide HOA2).size; omega)))
    have hbb : Below W9.heap.size W9 (W9.alloc (.cells #[.int .i64 (-1), .int .i64 4] 3)) := (Below.refl _ _).alloc (Nat.le_refl _) _
    have HZB := hide ((unhide HZA2).on hbb)
    have HEB := hide ((unhide HE2).on hbb)
    have f0 : (W9.alloc (.cells #[.int .i64 (-1), .int .i64 4] 3)).cell? ⟨W9.heap.size, 0, none⟩ = some (.int .i64 (-1)) := by simp [go_sem]
    have f1 : (W9.alloc (.cells #[.int .i64 (-1), .int .i64 4] 3)).cell? ⟨W9.heap.size, 1, none⟩ = some (.int .i64 4) := by simp [go_sem]
    have hqb : ¬ W9.heap.size = q := by have := (unhide HOA2).size; omega
    have hsz9 : W8.heap.size < W9.heap.size := by have := unhide HW89; omega
    generalize (W9.alloc (.cells #[.int .i64 (-1), .int .i64 4] 3)) = B at *
    refine (pick_any w0 _ q v zs _ 2 (unhide HB) (by omega) (by omega) (by omega)).mono ?_
    rintro e W10 ⟨x8, rfl, hx8, hy8, hr, ho⟩
    have HC := hide hr
    have HOC := hide ((unhide HOB).trans ho)
    have HZC := hide ((unhide HZB).only ho (by omega))
    have HEC := hide ((unhide HEB).only ho (by have := unhide HW8; omega))
    have g0 := ho.cell hqb f0
    clear f0
    have g1 := ho.cell hqb f1
    clear f1
    clear hr ho HB HOB HZB HEB hbb
    have hx8' : x8 = 0 ∨ x8 = 1 := by omega
    generalize W9.heap.size = r4 at *
    have hr3 : w.heap.size < W8.heap.size := by have := unhide HW8; omega
    generalize W8.heap.size = r3 at *
    obtain ⟨e0, e1, e2, e3, e4, e5, e6, ef⟩ := unhide HEC
    obtain ⟨z0, z1, z2, z3, z4, z5, z6, zf⟩ := unhide HZC
    dsimp only at e0 e1 e2 e3 e4 e5 e6 z0 z1 z2 z3 z4 z5 z6
    have hd1 : ¬ r3 = w.heap.size := by omega
    have hd2 : ¬ w.heap.size = r3 := by omega
    rcases hx8' with rfl | rfl
    · go_wp2_with fail
      refine bodyPost_ret (v := evAgg ⟨x0, (-1), x2 - 1, x3, x4, x5, x6⟩) (by simp [results, Tryz.results76, go_sem, z0, z1, z2, z3, z4, z5, z6]) rfl ⟨⟨x0, (-1), x2 - 1, x3, x4, x5, x6⟩, _, rfl, by omega, by simp only; omega, by simp only; omega, ((unhide HC).setNew (by omega) _).put7 (by omega) ⟨x0, (-1), x2 - 1, x3, x4, x5, x6⟩, ((unhide HOC).setNew (by omega) (by omega) _).put7 (by omega) (by omega) ⟨x0, (-1), x2 - 1, x3, x4, x5, x6⟩⟩
    · go_wp2_with fail
      refine bodyPost_ret (v := evAgg ⟨x0, 4, x2 - 1, x3, x4, x5, x6⟩) (by simp [results, Tryz.results76, go_sem, z0, z1, z2, z3, z4, z5, z6]) rfl ⟨⟨x0, 4, x2 - 1, x3, x4, x5, x6⟩, _, rfl, by omega, by simp only; omega, by simp only; omega, ((unhide HC).setNew (by omega) _).put7 (by omega) ⟨x0, 4, x2 - 1, x3, x4, x5, x6⟩, ((unhide HOC).setNew (by omega) (by omega) _).put7 (by omega) (by omega) ⟨x0, 4, x2 - 1, x3, x4, x5, x6⟩⟩
  · skip
    go_wp2_with fail
    have HB := hide ((unhide HA2).alloc (.cells #[.int .i64 (-1), .int .i64 999, .int .i64 1000] 3))
    have HOB := hide ((unhide HOA2).trans (OnlyB.alloc W9 (.cells #[.int .i64 (-1), .int .i64 999, .int .i64 1000] 3) (by have := (unhide HOA2).size; omega)))
    have hbb : Below W9.heap.size W9 (W9.alloc (.cells #[.int .i64 (-1), .int .i64 999, .int .i64 1000] 3)) := (Below.refl _ _).alloc (Nat.le_refl _) _
    have HZB := hide ((unhide HZA2).on hbb)
    have HEB := hide ((unhide HE2).on hbb)
    have f0 : (W9.alloc (.cells #[.int .i64 (-1), .int .i64 999, .int .i64 1000] 3)).cell? ⟨W9.heap.size, 0, none⟩ = some (.int .i64 (-1)) := by simp [go_sem]
    have f1 : (W9.alloc (.cells #[.int .i64 (-1), .int .i64 999, .int .i64 1000] 3)).cell? ⟨W9.heap.size, 1, none⟩ = some (.int .i64 999) := by simp [go_sem]
    have f2 : (W9.alloc (.cells #[.int .i64 (-1), .int .i64 999, .int .i64 1000] 3)).cell? ⟨W9.heap.size, 2, none⟩ = some (.int .i64 1000) := by simp [go_sem]
    have hqb : ¬ W9.heap.size = q := by have := (unhide HOA2).size; omega
    have hsz9 : W8.heap.size < W9.heap.size := by have := unhide HW89; omega
    generalize (W9.alloc (.cells #[.int .i64 (-1), .int .i64 999, .int .i64 1000] 3)) = B at *
    refine (pick_any w0 _ q v zs _ 3 (unhide HB) (by omega) (by omega) (by omega)).mono ?_
    rintro e W10 ⟨x8, rfl, hx8, hy8, hr, ho⟩
    have HC := hide hr
    have HOC := hide ((unhide HOB).trans ho)
    have HZC := hide ((unhide HZB).only ho (by omega))
    have HEC := hide ((unhide HEB).only ho (by have := unhide HW8; omega))
    have g0 := ho.cell hqb f0
    clear f0
    have g1 := ho.cell hqb f1
    clear f1
    have g2 := ho.cell hqb f2
    clear f2
    clear hr ho HB HOB HZB HEB hbb
    have hx8' : x8 = 0 ∨ x8 = 1 ∨ x8 = 2 := by omega
    generalize W9.heap.size = r4 at *
    have hr3 : w.heap.size < W8.heap.size := by have := unhide HW8; omega
    generalize W8.heap.size = r3 at *
    obtain ⟨e0, e1, e2, e3, e4, e5, e6, ef⟩ := unhide HEC
    obtain ⟨z0, z1, z2, z3, z4, z5, z6, zf⟩ := unhide HZC
    dsimp only at e0 e1 e2 e3 e4 e5 e6 z0 z1 z2 z3 z4 z5 z6
    have hd1 : ¬ r3 = w.heap.size := by omega
    have hd2 : ¬ w.heap.size = r3 := by omega
    rcases hx8' with rfl | rfl | rfl
    · go_wp2_with fail
      refine bodyPost_ret (v := evAgg ⟨x0, x1, x2 - 1, x3, x4, x5, (-1)⟩) (by simp [results, Tryz.results76, go_sem, z0, z1, z2, z3, z4, z5, z6]) rfl ⟨⟨x0, x1, x2 - 1, x3, x4, x5, (-1)⟩, _, rfl, by omega, by simp only; omega, by simp only; omega, ((unhide HC).setNew (by omega) _).put7 (by omega) ⟨x0, x1, x2 - 1, x3, x4, x5, (-1)⟩, ((unhide HOC).setNew (by omega) (by omega) _).put7 (by omega) (by omega) ⟨x0, x1, x2 - 1, x3, x4, x5, (-1)⟩⟩
    · go_wp2_with fail
      refine bodyPost_ret (v := evAgg ⟨x0, x1, x2 - 1, x3, x4, x5, 999⟩) (by simp [results, Tryz.results76, go_sem, z0, z1, z2, z3, z4, z5, z6]) rfl ⟨⟨x0, x1, x2 - 1, x3, x4, x5, 999⟩, _, rfl, by omega, by simp only; omega, by simp only; omega, ((unhide HC).setNew (by omega) _).put7 (by omega) ⟨x0, x1, x2 - 1, x3, x4, x5, 999⟩, ((unhide HOC).setNew (by omega) (by omega) _).put7 (by omega) (by omega) ⟨x0, x1, x2 - 1, x3, x4, x5, 999⟩⟩
    · go_wp2_with fail
      refine bodyPost_ret (v := evAgg ⟨x0, x1, x2 - 1, x3, x4, x5, 1000⟩) (by simp [results, Tryz.results76, go_sem, z0, z1, z2, z3, z4, z5, z6]) rfl ⟨⟨x0, x1, x2 - 1, x3, x4, x5, 1000⟩, _, rfl, by omega, by simp only; omega, by simp only; omega, ((unhide HC).setNew (by omega) _).put7 (by omega) ⟨x0, x1, x2 - 1, x3, x4, x5, 1000⟩, ((unhide HOC).setNew (by omega) (by omega) _).put7 (by omega) (by omega) ⟨x0, x1, x2 - 1, x3, x4, x5, 1000⟩⟩
  · have d0 : (x7 == 0) = false := by simp; omega
    have d1 : (x7 == 1) = false := by simp; omega
    have d2 : (x7 == 2) = false := by simp; omega
    have hr3 : w.heap.size < W8.heap.size := unhide HW8
    obtain ⟨e0, e1, e2, e3, e4, e5, e6, ef⟩ := unhide HE2
    obtain ⟨z0, z1, z2, z3, z4, z5, z6, zf⟩ := unhide HZA2
    dsimp only at e0 e1 e2 e3 e4 e5 e6 z0 z1 z2 z3 z4 z5 z6
    go_wp2_with fail
    refine bodyPost_ret (v := evAgg ⟨x0, x1, x2 - 1, x3, x4, x5, x6⟩) (by simp [results, Tryz.results76, go_sem, z0, z1, z2, z3, z4, z5, z6]) rfl ⟨⟨x0, x1, x2 - 1, x3, x4, x5, x6⟩, _, rfl, by omega, by simp only; omega, by simp only; omega, (unhide HA2).put7 (by omega) ⟨x0, x1, x2 - 1, x3, x4, x5, x6⟩, (unhide HOA2).put7 (by omega) (by omega) ⟨x0, x1, x2 - 1, x3, x4, x5, x6⟩⟩
end Go.Proofs.YtiljjhipiinafaaGreat
