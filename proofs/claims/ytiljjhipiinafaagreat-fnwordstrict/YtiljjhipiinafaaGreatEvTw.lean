/- laws.ltEvents at two lists of the same events; a reader under an append. -/
import Derived.Test.YtiljjhipiinafaaGreatDrB
import Derived.Test.YtiljjhipiinafaaGreatDrawEv
namespace Go.Proofs.YtiljjhipiinafaaGreat.E
open Go.RowKit
set_option linter.unusedVariables false
set_option linter.unusedSimpArgs false

theorem Reader_grown {w0 A w' : World} {q : Nat} {v : Value} {zs : List Int} {p : Int} {row : Option Nat} (h : Reader w0 A q v zs p) (hg : A.grownBy w' row) (hne : some q ≠ row) (hr : ∀ k, row = some k → w0.heap.size ≤ k) : Reader w0 w' q v zs p := by
  have hq : q < A.heap.size := World.block_lt_of_cell? A ⟨q, 0, none⟩ h.rd.c0
  have e := hg.block q hq hne
  exact ⟨h.bytes, h.few, h.q0, Below.grown h.below hg h.below.size hr, ⟨(World.cell?_of_block (a := ⟨q, 0, none⟩) e).trans h.rd.c0, (World.cell?_of_block (a := ⟨q, 1, none⟩) e).trans h.rd.c1, frozen_block e h.rd.fz⟩, h.p0⟩

theorem OnlyB_grown {q : Nat} {w A w' : World} {row : Option Nat} (h : OnlyB q w A) (hg : A.grownBy w' row) (hr : ∀ k, row = some k → w.heap.size ≤ k) (hq : q < w.heap.size) : OnlyB q w w' :=
  ⟨Nat.le_trans h.size hg.size, fun b hb hl => (hg.block b (Nat.lt_of_lt_of_le hl h.size) (fun e => by have := hr b e.symm; omega)).trans (h.other b hb hl), Below.grown h.below hg (by have := h.size; omega) (fun k hk => by have := hr k hk; omega)⟩

theorem EvOwn.only {B g cap q : Nat} {w w' : World} {ys : List EvV} (h : EvOwn B w g cap ys) (ho : OnlyB q w w') (hne : g ≠ q) : EvOwn B w' g cap ys :=
  RowsFr.block (fun k hk hlt => ho.other k (by have : g = k := by simpa [Value.ownBlock] using hk
                                               omega) hlt) h

end Go.Proofs.YtiljjhipiinafaaGreat.E
