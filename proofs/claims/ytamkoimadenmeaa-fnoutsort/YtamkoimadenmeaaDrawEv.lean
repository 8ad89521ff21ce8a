/- spec.l72Event: an event that is drawn. -/
import Derived.Test.YtamkoimadenmeaaPick
import Derived.Test.YtamkoimadenmeaaEv
namespace Go.Proofs.Ytamkoimadenmeaa
open Go.RowKit
set_option linter.unusedVariables false

theorem OnlyB.cell {q : Nat} {w w' : World} (h : OnlyB q w w') {b o : Nat} {v : Value} (hb : b ≠ q) (hc : w.cell? ⟨b, o, none⟩ = some v) : w'.cell? ⟨b, o, none⟩ = some v :=
  (World.cell?_of_block (h.other b hb (World.block_lt_of_cell? w ⟨b, o, none⟩ hc))).trans hc

theorem OnlyB.frozen {q : Nat} {w w' : World} (h : OnlyB q w w') {b o : Nat} (hb : b ≠ q) (hl : b < w.heap.size) : w'.frozen? ⟨b, o, none⟩ = w.frozen? ⟨b, o, none⟩ := by
  have e := h.other b hb hl
  simp [World.frozen?, e]

theorem OnlyB.alloc {q : Nat} (w : World) (o : Obj) (hq : q ≤ w.heap.size) : OnlyB q w (w.alloc o) :=
  ⟨by simp, fun b _ hl => ((Below.refl w.heap.size w).alloc (Nat.le_refl _) o).block b hl, (Below.refl _ _).alloc hq _⟩

theorem RdAt.only {q r : Nat} {w w' : World} {v : Value} {p : Int} (h : RdAt w q v p) (ho : OnlyB r w w') (hne : q ≠ r) : RdAt w' q v p :=
  ⟨ho.cell hne h.c0, ho.cell hne h.c1, fun i => (ho.frozen hne (show q < w.heap.size from World.block_lt_of_cell? w ⟨q, 0, none⟩ h.c0)).trans (h.fz i)⟩

theorem Reader.alloc {w0 w : World} {q : Nat} {v : Value} {zs : List Int} {p : Int} (h : Reader w0 w q v zs p) (o : Obj) : Reader w0 (w.alloc o) q v zs p := by
  have hb : Below w.heap.size w (w.alloc o) := (Below.refl _ _).alloc (Nat.le_refl _) _
  exact ⟨h.bytes, h.few, h.q0, h.below.trans (hb.mono h.below.size), h.rd.on hb, h.p0⟩

/-- Zeros at a block: what a result's place is at first. -/
structure EvRow (w : World) (r : Nat) (e : EvV) : Prop where
  c0 : w.cell? ⟨r, 0, none⟩ = some (.int .i64 e.time)
  c1 : w.cell? ⟨r, 1, none⟩ = some (.int .i64 e.to)
  c2 : w.cell? ⟨r, 2, none⟩ = some (.int .i64 e.src)
  c3 : w.cell? ⟨r, 3, none⟩ = some (.int .i64 e.count)
  c4 : w.cell? ⟨r, 4, none⟩ = some (.int .i64 e.n)
  c5 : w.cell? ⟨r, 5, none⟩ = some (.int .i64 e.kind)
  c6 : w.cell? ⟨r, 6, none⟩ = some (.int .i64 e.arg)
  fz : ∀ i, w.frozen? ⟨r, i, none⟩ = false

theorem EvRow.only {w w' : World} {r q : Nat} {e : EvV} (ho : OnlyB q w w') (hne : r ≠ q) (h : EvRow w r e) : EvRow w' r e :=
  ⟨ho.cell hne h.c0, ho.cell hne h.c1, ho.cell hne h.c2, ho.cell hne h.c3, ho.cell hne h.c4, ho.cell hne h.c5, ho.cell hne h.c6, fun i => (ho.frozen hne (show r < w.heap.size from World.block_lt_of_cell? w ⟨r, 0, none⟩ h.c0)).trans (h.fz i)⟩

theorem EvRow.on {w w' : World} {r : Nat} {e : EvV} (hb : Below w.heap.size w w') (h : EvRow w r e) : EvRow w' r e :=
  ⟨cell_on hb h.c0, cell_on hb h.c1, cell_on hb h.c2, cell_on hb h.c3, cell_on hb h.c4, cell_on hb h.c5, cell_on hb h.c6, fun i => (hb.frozen (p := ⟨r, i, none⟩) (show r < w.heap.size from World.block_lt_of_cell? w ⟨r, 0, none⟩ h.c0)).trans (h.fz i)⟩

/-- A store into a block that was made since. -/
theorem OnlyB.setNew {q r o : Nat} {w w' : World} (h : OnlyB q w w') (hr : w.heap.size ≤ r) (hq : q ≤ r) (v : Value) : OnlyB q w (w'.setCell ⟨r, o, none⟩ v) :=
  ⟨by simpa using h.size, fun b hb hl => (Below.heap_setCell w' ⟨r, o, none⟩ v b (show b ≠ r by omega)).trans (h.other b hb hl), h.below.setCell (show q ≤ r from hq) _⟩

theorem Reader.setNew {w0 w : World} {q r o : Nat} {v : Value} {zs : List Int} {p : Int} (h : Reader w0 w q v zs p) (hr : q < r) (u : Value) : Reader w0 (w.setCell ⟨r, o, none⟩ u) q v zs p := by
  have hq0 := h.q0
  have hc : ∀ i, (w.setCell ⟨r, o, none⟩ u).cell? ⟨q, i, none⟩ = w.cell? ⟨q, i, none⟩ := fun i => World.cell?_of_block (Below.heap_setCell w ⟨r, o, none⟩ u q (show q ≠ r by omega))
  refine ⟨h.bytes, h.few, h.q0, h.below.setCell (show w0.heap.size ≤ r by omega) _, ⟨(hc 0).trans h.rd.c0, (hc 1).trans h.rd.c1, fun i => ?_⟩, h.p0⟩
  have e := Below.heap_setCell w ⟨r, o, none⟩ u q (show q ≠ r by omega)
  have hf := h.rd.fz i
  simp only [World.frozen?] at hf ⊢
  rw [e]; exact hf

/-- The seven stores of an event into a place. -/
def put7 (w : World) (r : Nat) (e : EvV) : World :=
  ((((((w.setCell ⟨r, 0, none⟩ (.int .i64 e.time)).setCell ⟨r, 1, none⟩ (.int .i64 e.to)).setCell ⟨r, 2, none⟩ (.int .i64 e.src)).setCell ⟨r, 3, none⟩ (.int .i64 e.count)).setCell ⟨r, 4, none⟩ (.int .i64 e.n)).setCell ⟨r, 5, none⟩ (.int .i64 e.kind)).setCell ⟨r, 6, none⟩ (.int .i64 e.arg)

theorem OnlyB.put7 {q r : Nat} {w w' : World} (h : OnlyB q w w') (hr : w.heap.size ≤ r) (hq : q ≤ r) (e : EvV) : OnlyB q w (put7 w' r e) :=
  ((((((h.setNew hr hq _).setNew hr hq _).setNew hr hq _).setNew hr hq _).setNew hr hq _).setNew hr hq _).setNew hr hq _

theorem Reader.put7 {w0 w : World} {q r : Nat} {v : Value} {zs : List Int} {p : Int} (h : Reader w0 w q v zs p) (hr : q < r) (e : EvV) : Reader w0 (put7 w r e) q v zs p :=
  ((((((h.setNew hr _).setNew hr _).setNew hr _).setNew hr _).setNew hr _).setNew hr _).setNew hr _

end Go.Proofs.Ytamkoimadenmeaa
