/- Disks of the specification at work. -/
import Derived.Test.YtocgfngcgekciaaSC2
namespace Go.Proofs.Ytocgfngcgekciaa
open Go.RowKit
set_option linter.unusedVariables false
set_option linter.unusedSimpArgs false


/-- A disk in block q, its grids in blocks from B on. -/
structure XDisk (B : Nat) (d : DiskV) (q ga ca : Nat) (fa : Nat → Value) (gb cb : Nat) (fb : Nat → Value) (X : World) : Prop where
  row : X.rowIs q 27 6 (fun i => (diskCells d (gridV ga ca d.a.rows) (gridV gb cb d.b.rows)).getD i undef)
  a : PGrid (fun b => B ≤ b ∧ b ≠ q ∧ b ≠ gb) X ga ca fa d.a.rows
  b : PGrid (fun b => B ≤ b ∧ b ≠ q ∧ b ≠ ga) X gb cb fb d.b.rows
  lo : B ≤ q
def XD (B : Nat) (d : DiskV) (q : Nat) (X : World) : Prop := ∃ ga ca fa gb cb fb, XDisk B d q ga ca fa gb cb fb X

theorem XDisk.keep {B : Nat} {d : DiskV} {q ga ca gb cb : Nat} {fa fb : Nat → Value} {X Y : World} (h : XDisk B d q ga ca fa gb cb fb X) (hk : ∀ b, B ≤ b → b < X.heap.size → Y.heap[b]? = X.heap[b]?) : XDisk B d q ga ca fa gb cb fb Y :=
  ⟨h.row.of_block (hk q h.lo h.row.lt), h.a.keep (fun b hb => hk b hb.1), h.b.keep (fun b hb => hk b hb.1), h.lo⟩
theorem XD.keep {B : Nat} {d : DiskV} {q : Nat} {X Y : World} (h : XD B d q X) (hb : Below X.heap.size X Y) : XD B d q Y := by
  obtain ⟨ga, ca, fa, gb, cb, fb, h⟩ := h
  exact ⟨ga, ca, fa, gb, cb, fb, h.keep (fun b _ hl => hb.block b hl)⟩
theorem XDisk.cells {B : Nat} {d : DiskV} {q ga ca gb cb : Nat} {fa fb : Nat → Value} {X : World} (h : XDisk B d q ga ca fa gb cb fb X) : CellsAt X q 0 (diskCells d (gridV ga ca d.a.rows) (gridV gb cb d.b.rows)) :=
  rowIs_cells h.row _ (by simp) (fun j hj => by simp [List.getD, List.getElem?_eq_getElem hj])
theorem XDisk.at {B : Nat} {d : DiskV} {q ga ca gb cb : Nat} {fa fb : Nat → Value} {X : World} (h : XDisk B d q ga ca fa gb cb fb X) : DiskAt X d (gridV ga ca d.a.rows) (gridV gb cb d.b.rows) := ⟨h.a.at, h.b.at⟩
/-- Copied, and laid in block q. -/
theorem xd_of {B Na Ma Nb Mb q ga ca gb cb : Nat} {d : DiskV} {fa fb f0 : Nat → Value} {X : World} (hr : X.rowIs q 27 6 f0) (hga : SGrid Na Ma X ga ca fa d.a.rows) (hgb : SGrid Nb Mb X gb cb fb d.b.rows)
    (h1 : B ≤ Na) (h2 : B ≤ Nb) (h3 : B ≤ q) (h4 : Ma ≤ Nb) (h5 : q < Na ∨ Ma ≤ q) (h6 : q < Nb ∨ Mb ≤ q) : XD B d q (setVals X q 0 (diskCells d (gridV ga ca d.a.rows) (gridV gb cb d.b.rows))) := by
  have ho : ∀ b, b ≠ q → (setVals X q 0 (diskCells d (gridV ga ca d.a.rows) (gridV gb cb d.b.rows))).heap[b]? = X.heap[b]? := fun b hb => setVals_other _ _ _ b hb
  have ha2 := hga.hi
  have hb1 := hgb.lo
  refine ⟨ga, ca, fa, gb, cb, fb, ⟨(setVals_row (diskCells d (gridV ga ca d.a.rows) (gridV gb cb d.b.rows)) 0 X _ hr).congr (fun i hi => ?_), (hga.keep (fun b h7 h8 => ho b (by omega))).p (fun b h7 h8 => ⟨by omega, by omega, by omega⟩), (hgb.keep (fun b h7 h8 => ho b (by omega))).p (fun b h7 h8 => ⟨by omega, by omega, by omega⟩), h3⟩⟩
  match i, hi with
  | 0, _ => rfl
  | 1, _ => rfl
  | 2, _ => rfl
  | 3, _ => rfl
  | 4, _ => rfl
  | 5, _ => rfl
/-- Laid in another block. -/
theorem XDisk.move {B B2 q ga ca gb cb q2 : Nat} {d : DiskV} {fa fb f0 : Nat → Value} {X : World} (h : XDisk B2 d q ga ca fa gb cb fb X) (hr : X.rowIs q2 27 6 f0) (hB : B ≤ B2) (hq : q2 < B2) (hq2 : B ≤ q2) : XD B d q2 (setVals X q2 0 (diskCells d (gridV ga ca d.a.rows) (gridV gb cb d.b.rows))) := by
  have ho : ∀ b, b ≠ q2 → (setVals X q2 0 (diskCells d (gridV ga ca d.a.rows) (gridV gb cb d.b.rows))).heap[b]? = X.heap[b]? := fun b hb => setVals_other _ _ _ b hb
  refine ⟨ga, ca, fa, gb, cb, fb, ⟨(setVals_row (diskCells d (gridV ga ca d.a.rows) (gridV gb cb d.b.rows)) 0 X _ hr).congr (fun i hi => ?_), (h.a.keep (fun b h7 _ => ho b (by omega))).to (fun b h7 _ => ⟨by omega, by omega, h7.2.2⟩), (h.b.keep (fun b h7 _ => ho b (by omega))).to (fun b h7 _ => ⟨by omega, by omega, h7.2.2⟩), hq2⟩⟩
  match i, hi with
  | 0, _ => rfl
  | 1, _ => rfl
  | 2, _ => rfl
  | 3, _ => rfl
  | 4, _ => rfl
  | 5, _ => rfl

theorem XDisk.setB {B q ga ca gb cb : Nat} {d : DiskV} {fa fb : Nat → Value} {X Y : World} {s2 : SlotV} {e : Ending} (h : XDisk B d q ga ca fa gb cb fb X) (hs : Stepped (fun b => B ≤ b ∧ b ≠ q ∧ b ≠ ga) s2 gb cb X e Y) :
    ∃ f2, XDisk B ⟨d.a, s2⟩ q ga ca fa gb cb f2 (setVals Y q 3 [.int .i64 s2.num, .int .i64 s2.cnt, gridV gb cb s2.rows]) := by
  obtain ⟨-, ⟨f2, hg⟩, hoth, hsz, -⟩ := hs
  have hq := h.row.lt
  have hga := h.a.row.lt
  have hgb := h.b.row.lt
  have hqg : q ≠ gb := fun e => h.b.own.2.1 e.symm
  have hB := h.lo
  have ho : ∀ b, b ≠ q → (setVals Y q 3 [.int .i64 s2.num, .int .i64 s2.cnt, gridV gb cb s2.rows]).heap[b]? = Y.heap[b]? := fun b hb => setVals_other _ _ _ b hb
  refine ⟨f2, ⟨(setVals_row [.int .i64 s2.num, .int .i64 s2.cnt, gridV gb cb s2.rows] 3 Y _ (h.row.of_block (hoth q hq hqg))).congr (fun i hi => ?_), ((h.a.keep (fun b h7 h8 => hoth b h8 h7.2.2)).keep (fun b h7 _ => ho b h7.2.1)), ((hg.to (fun b h7 h8 => by rcases h7 with h7 | h7; exact h7.1; exact ⟨by omega, by omega, by omega⟩)).keep (fun b h7 _ => ho b h7.2.1)), h.lo⟩⟩
  match i, hi with
  | 0, _ => rfl
  | 1, _ => rfl
  | 2, _ => rfl
  | 3, _ => rfl
  | 4, _ => rfl
  | 5, _ => rfl

theorem XDisk.setA {B q ga ca gb cb : Nat} {d : DiskV} {fa fb : Nat → Value} {X Y : World} {s2 : SlotV} {e : Ending} (h : XDisk B d q ga ca fa gb cb fb X) (hs : Stepped (fun b => B ≤ b ∧ b ≠ q ∧ b ≠ gb) s2 ga ca X e Y) :
    ∃ f2, XDisk B ⟨s2, d.b⟩ q ga ca f2 gb cb fb (setVals Y q 0 [.int .i64 s2.num, .int .i64 s2.cnt, gridV ga ca s2.rows]) := by
  obtain ⟨-, ⟨f2, hg⟩, hoth, hsz, -⟩ := hs
  have hq := h.row.lt
  have hga := h.a.row.lt
  have hgb := h.b.row.lt
  have hqg : q ≠ ga := fun e => h.a.own.2.1 e.symm
  have hB := h.lo
  have ho : ∀ b, b ≠ q → (setVals Y q 0 [.int .i64 s2.num, .int .i64 s2.cnt, gridV ga ca s2.rows]).heap[b]? = Y.heap[b]? := fun b hb => setVals_other _ _ _ b hb
  refine ⟨f2, ⟨(setVals_row [.int .i64 s2.num, .int .i64 s2.cnt, gridV ga ca s2.rows] 0 Y _ (h.row.of_block (hoth q hq hqg))).congr (fun i hi => ?_), ((hg.to (fun b h7 h8 => by rcases h7 with h7 | h7; exact h7.1; exact ⟨by omega, by omega, by omega⟩)).keep (fun b h7 _ => ho b h7.2.1)), ((h.b.keep (fun b h7 h8 => hoth b h8 h7.2.2)).keep (fun b h7 _ => ho b h7.2.1)), h.lo⟩⟩
  match i, hi with
  | 0, _ => rfl
  | 1, _ => rfl
  | 2, _ => rfl
  | 3, _ => rfl
  | 4, _ => rfl
  | 5, _ => rfl
end Go.Proofs.Ytocgfngcgekciaa
