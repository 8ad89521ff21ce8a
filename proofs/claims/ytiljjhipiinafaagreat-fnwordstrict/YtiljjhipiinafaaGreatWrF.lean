/- A word that is being read, in memory. -/
import Derived.Test.YtiljjhipiinafaaGreatWrB
import Derived.Test.YtiljjhipiinafaaGreatHeld
import Derived.Deep.Cut
import Derived.Deep.RegionHeld3
import Derived.BigRegion
import Derived.Test.YtiljjhipiinafaaGreatLtW
import Derived.Laws.Strings
namespace Go.Proofs.YtiljjhipiinafaaGreat
open Go.RowKit
set_option linter.unusedVariables false
set_option linter.unusedSimpArgs false

theorem owns_less {w : World} {B C t m k : Nat} {v : Value} {xs : List Value} (hC : C ≤ B) (h : w.ownsRow B t m v k xs) : w.ownsRow C t m v k xs := by
  obtain ⟨hl, h | ⟨g, cap, cur, h1, h2, h3⟩⟩ := h
  · exact ⟨hl, Or.inl h⟩
  · exact ⟨hl, Or.inr ⟨g, cap, cur, h1, Nat.le_trans hC h2, h3⟩⟩
theorem owns_gr {W W4 : World} {B t m k : Nat} {v u u' : Value} {xs : List Value} (h : W.ownsRow B t m v k xs) (hG : Gr u u' W W4) (hne : ∀ g, v.ownBlock = some g → u.ownBlock ≠ some g) : W4.ownsRow B t m v k xs := by
  obtain ⟨hl, h | ⟨g, cap, cur, rfl, h2, h3, h4⟩⟩ := h
  · exact ⟨hl, Or.inl h⟩
  · refine ⟨hl, Or.inr ⟨g, cap, cur, rfl, h2, ?_, h4⟩⟩
    rw [hG.g.block g (Array.getElem?_eq_some_iff.1 h3).1 (fun e => hne g rfl e.symm)]
    exact h3
theorem gr_apart {u u' v : Value} {W W4 : World} (hG : Gr u u' W W4) (hap : ∀ g, u.ownBlock = some g → v.ownBlock ≠ some g) (hlt : ∀ g, v.ownBlock = some g → g < W.heap.size) : ∀ g, u'.ownBlock = some g → v.ownBlock ≠ some g := fun g h1 h2 => by
  rcases hG.o with e | e
  · exact hap g (by rw [← e]; exact h1) h2
  · have h3 := e g h1
    have h4 := hlt g h2
    omega
theorem RdS.set {w0 w : World} {q r o : Nat} {vb x : Value} {bs : List Int} {p : Nat} {f : Bool} (h : RdS w0 w q vb bs p f) (hr : q < r) : RdS w0 (w.setCell ⟨r, o, none⟩ x) q vb bs p f := by
  have hc : ∀ i, (w.setCell ⟨r, o, none⟩ x).cell? ⟨q, i, none⟩ = w.cell? ⟨q, i, none⟩ := fun i => World.cell?_setCell_far _ _ _ _ (by show r ≠ q; omega)
  exact ⟨h.bytes, h.rng, h.few, h.q0, h.below.setCell (p := ⟨r, o, none⟩) (by have := h.q0; show w0.heap.size ≤ r; omega) _, (hc 0).trans h.c0, (hc 1).trans h.c1, (hc 2).trans h.c2, fun i => (World.frozen?_of_block (Below.heap_setCell w ⟨r, o, none⟩ x q (by show q ≠ r; omega))).trans (h.fz i), h.pl⟩

def zero11 : List Value := [.int .i64 0, .int .i64 0, .int .i64 0, .int .i64 0, .int .i64 0, .int .i64 0, .int .i64 0, .slice none 0 0, .slice none 0 0, .slice none 0 0, .slice none 0 0]

/-- The word that is being read lies in block rw, its lists behind it, each apart; the answer's block is still empty; the reader in block q. -/
structure MemS (w0 w W : World) (q rw : Nat) (vb : Value) (bs : List Int) (p : Nat) (f : Bool) (zs : List Value) (vi : Value) (is : List Int) (vv : Value) (vs : List Int) (ve : Value) (es : List EvV) (vo : Value) (os : List OutV) : Prop where
  rd : RdS w0 W q vb bs p f
  on : OnlyB q w W
  rr : W.rowIs w.heap.size 28 11 (fun i => zero11.getD i undef)
  rwr : W.rowIs rw 28 11 (fun i => (zs ++ [vi, vv, ve, vo]).getD i undef)
  zl : zs.length = 7
  oi : W.ownsRow (rw + 1) 3 1 vi is.length (flatCells (is.map intRow))
  ov : W.ownsRow (rw + 1) 3 1 vv vs.length (flatCells (vs.map intRow))
  oe : W.ownsRow (rw + 1) 56 7 ve es.length (flatCells (es.map evRow))
  oo : W.ownsRow (rw + 1) 60 5 vo os.length (flatCells (os.map outRow))
  ap : Apart4 vi vv ve vo
  hq : q < w.heap.size
  hr : w.heap.size < rw
  hs : rw < W.heap.size

theorem MemS.only {w0 w W : World} {q rw : Nat} {vb : Value} {bs : List Int} {p : Nat} {f : Bool} {zs : List Value} {vi vv ve vo : Value} {is vs : List Int} {es : List EvV} {os : List OutV} {W' : World} {p' : Nat} {f' : Bool} (h : MemS w0 w W q rw vb bs p f zs vi is vv vs ve es vo os) (hO : OnlyB q W W') (hR : RdS w0 W' q vb bs p' f') : MemS w0 w W' q rw vb bs p' f' zs vi is vv vs ve es vo os :=
  have hq := h.hq; have hr := h.hr; have hs := h.hs
  ⟨hR, h.on.trans hO, h.rr.of_block (hO.other _ (by omega) (by omega)), h.rwr.of_block (hO.other _ (by omega) hs), h.zl, owns_onlyB hO (by omega) h.oi, owns_onlyB hO (by omega) h.ov, owns_onlyB hO (by omega) h.oe, owns_onlyB hO (by omega) h.oo, h.ap, hq, hr, Nat.lt_of_lt_of_le hs hO.size⟩
theorem MemS.onB {w0 w W : World} {q rw : Nat} {vb : Value} {bs : List Int} {p : Nat} {f : Bool} {zs : List Value} {vi vv ve vo : Value} {is vs : List Int} {es : List EvV} {os : List OutV} {W' : World} (h : MemS w0 w W q rw vb bs p f zs vi is vv vs ve es vo os) (hB : Below W.heap.size W W') : MemS w0 w W' q rw vb bs p f zs vi is vv vs ve es vo os :=
  h.only ⟨hB.size, fun b _ hl => hB.block b hl, hB.mono (by have := h.hq; have := h.hr; have := h.hs; omega)⟩ (h.rd.on hB)
theorem rowS_set {W : World} {rw : Nat} {zs l : List Value} {k : Nat} {x : Value} {l' : List Value} (h : W.rowIs rw 28 11 (fun i => (zs ++ l).getD i undef)) (hz : zs.length = 7) (hl : l.length = 4) (hk : k < 4) (hl' : l.set k x = l') : (W.setCell ⟨rw, 7 + k, none⟩ x).rowIs rw 28 11 (fun i => (zs ++ l').getD i undef) := by
  have e := rowL_set h (7 + k) (by rw [List.length_append]; omega) x
  rw [List.set_append_right _ _ (by omega), hz, Nat.add_sub_cancel_left, hl'] at e
  exact e
/-- A list of the word is stored: its row is newer than all else. -/
theorem MemS.seti {w0 w W : World} {q rw : Nat} {vb : Value} {bs : List Int} {p : Nat} {f : Bool} {zs : List Value} {vi vv ve vo : Value} {is vs : List Int} {es : List EvV} {os : List OutV} {x' : Value} {l' : List Int} (h : MemS w0 w W q rw vb bs p f zs vi is vv vs ve es vo os) (ho : W.ownsRow (rw + 1) 3 1 x' l'.length (flatCells (l'.map intRow))) (hf : ∀ g, x'.ownBlock = some g → vv.ownBlock ≠ some g ∧ ve.ownBlock ≠ some g ∧ vo.ownBlock ≠ some g) :
    MemS w0 w (W.setCell ⟨rw, 7, none⟩ x') q rw vb bs p f zs x' l' vv vs ve es vo os :=
  have hq := h.hq; have hr := h.hr; have hs := h.hs
  ⟨h.rd.set (by omega), h.on.then2 ((Only2.refl q rw W).set (o := 7) x') hq (by omega), h.rr.of_block (Below.heap_setCell W ⟨rw, 7, none⟩ x' w.heap.size (show w.heap.size ≠ rw by omega)), rowS_set (k := 0) h.rwr h.zl rfl (by omega) rfl, h.zl, ownsRow_setCell_below ho (show rw < rw + 1 by omega) _, ownsRow_setCell_below h.ov (show rw < rw + 1 by omega) _, ownsRow_setCell_below h.oe (show rw < rw + 1 by omega) _, ownsRow_setCell_below h.oo (show rw < rw + 1 by omega) _, ⟨(fun g h1 h2 => (hf g h1).1 h2), (fun g h1 h2 => (hf g h1).2.1 h2), (fun g h1 h2 => (hf g h1).2.2 h2), h.ap.xe, h.ap.xo, h.ap.eo⟩, hq, hr, by simpa using hs⟩
/-- One is appended to a list of the word. -/
theorem MemS.appi {w0 w W : World} {q rw : Nat} {vb : Value} {bs : List Int} {p : Nat} {f : Bool} {zs : List Value} {vi vv ve vo : Value} {is vs : List Int} {es : List EvV} {os : List OutV} {W4 : World} {x' : Value} {l' : List Int} (h : MemS w0 w W q rw vb bs p f zs vi is vv vs ve es vo os) (hG : Gr vi x' W W4) (ho : W4.ownsRow (rw + 1) 3 1 x' l'.length (flatCells (l'.map intRow))) :
    MemS w0 w (W4.setCell ⟨rw, 7, none⟩ x') q rw vb bs p f zs x' l' vv vs ve es vo os := by
  have hq := h.hq; have hr := h.hr; have hs := h.hs
  have hl := h.oi.lt
  have h1 := hG.g.size
  refine ⟨(h.rd.gr hG (fun g e => by have := (hl g e).1; omega)).set (by omega), (h.on.gr hG hq (fun g e => by have := (hl g e).1; omega)).then2 ((Only2.refl q rw W4).set (o := 7) x') hq (by omega), (h.rr.of_block (hG.g.block _ (by omega) (fun e => by have := (hl _ e.symm).1; omega))).of_block (Below.heap_setCell W4 ⟨rw, 7, none⟩ x' w.heap.size (show w.heap.size ≠ rw by omega)), rowS_set (k := 0) (h.rwr.of_block (hG.g.block _ hs (fun e => by have := (hl _ e.symm).1; omega))) h.zl rfl (by omega) rfl, h.zl, ownsRow_setCell_below ho (show rw < rw + 1 by omega) _, ownsRow_setCell_below (owns_gr h.ov hG (fun g h1 h2 => h.ap.iv g h2 h1)) (show rw < rw + 1 by omega) _, ownsRow_setCell_below (owns_gr h.oe hG (fun g h1 h2 => h.ap.ie g h2 h1)) (show rw < rw + 1 by omega) _, ownsRow_setCell_below (owns_gr h.oo hG (fun g h1 h2 => h.ap.io g h2 h1)) (show rw < rw + 1 by omega) _, ⟨gr_apart hG h.ap.iv (fun g e => (h.ov.lt g e).2), gr_apart hG h.ap.ie (fun g e => (h.oe.lt g e).2), gr_apart hG h.ap.io (fun g e => (h.oo.lt g e).2), h.ap.xe, h.ap.xo, h.ap.eo⟩, hq, hr, by simp; omega⟩
/-- A list of the word is stored: its row is newer than all else. -/
theorem MemS.setv {w0 w W : World} {q rw : Nat} {vb : Value} {bs : List Int} {p : Nat} {f : Bool} {zs : List Value} {vi vv ve vo : Value} {is vs : List Int} {es : List EvV} {os : List OutV} {x' : Value} {l' : List Int} (h : MemS w0 w W q rw vb bs p f zs vi is vv vs ve es vo os) (ho : W.ownsRow (rw + 1) 3 1 x' l'.length (flatCells (l'.map intRow))) (hf : ∀ g, x'.ownBlock = some g → vi.ownBlock ≠ some g ∧ ve.ownBlock ≠ some g ∧ vo.ownBlock ≠ some g) :
    MemS w0 w (W.setCell ⟨rw, 8, none⟩ x') q rw vb bs p f zs vi is x' l' ve es vo os :=
  have hq := h.hq; have hr := h.hr; have hs := h.hs
  ⟨h.rd.set (by omega), h.on.then2 ((Only2.refl q rw W).set (o := 8) x') hq (by omega), h.rr.of_block (Below.heap_setCell W ⟨rw, 8, none⟩ x' w.heap.size (show w.heap.size ≠ rw by omega)), rowS_set (k := 1) h.rwr h.zl rfl (by omega) rfl, h.zl, ownsRow_setCell_below h.oi (show rw < rw + 1 by omega) _, ownsRow_setCell_below ho (show rw < rw + 1 by omega) _, ownsRow_setCell_below h.oe (show rw < rw + 1 by omega) _, ownsRow_setCell_below h.oo (show rw < rw + 1 by omega) _, ⟨(fun g h1 h2 => (hf g h2).1 h1), h.ap.ie, h.ap.io, (fun g h1 h2 => (hf g h1).2.1 h2), (fun g h1 h2 => (hf g h1).2.2 h2), h.ap.eo⟩, hq, hr, by simpa using hs⟩
/-- One is appended to a list of the word. -/
theorem MemS.appv {w0 w W : World} {q rw : Nat} {vb : Value} {bs : List Int} {p : Nat} {f : Bool} {zs : List Value} {vi vv ve vo : Value} {is vs : List Int} {es : List EvV} {os : List OutV} {W4 : World} {x' : Value} {l' : List Int} (h : MemS w0 w W q rw vb bs p f zs vi is vv vs ve es vo os) (hG : Gr vv x' W W4) (ho : W4.ownsRow (rw + 1) 3 1 x' l'.length (flatCells (l'.map intRow))) :
    MemS w0 w (W4.setCell ⟨rw, 8, none⟩ x') q rw vb bs p f zs vi is x' l' ve es vo os := by
  have hq := h.hq; have hr := h.hr; have hs := h.hs
  have hl := h.ov.lt
  have h1 := hG.g.size
  refine ⟨(h.rd.gr hG (fun g e => by have := (hl g e).1; omega)).set (by omega), (h.on.gr hG hq (fun g e => by have := (hl g e).1; omega)).then2 ((Only2.refl q rw W4).set (o := 8) x') hq (by omega), (h.rr.of_block (hG.g.block _ (by omega) (fun e => by have := (hl _ e.symm).1; omega))).of_block (Below.heap_setCell W4 ⟨rw, 8, none⟩ x' w.heap.size (show w.heap.size ≠ rw by omega)), rowS_set (k := 1) (h.rwr.of_block (hG.g.block _ hs (fun e => by have := (hl _ e.symm).1; omega))) h.zl rfl (by omega) rfl, h.zl, ownsRow_setCell_below (owns_gr h.oi hG h.ap.iv) (show rw < rw + 1 by omega) _, ownsRow_setCell_below ho (show rw < rw + 1 by omega) _, ownsRow_setCell_below (owns_gr h.oe hG (fun g h1 h2 => h.ap.xe g h2 h1)) (show rw < rw + 1 by omega) _, ownsRow_setCell_below (owns_gr h.oo hG (fun g h1 h2 => h.ap.xo g h2 h1)) (show rw < rw + 1 by omega) _, ⟨(fun g h1 h2 => gr_apart hG (fun g x y => h.ap.iv g y x) (fun g e => (h.oi.lt g e).2) g h2 h1), h.ap.ie, h.ap.io, gr_apart hG h.ap.xe (fun g e => (h.oe.lt g e).2), gr_apart hG h.ap.xo (fun g e => (h.oo.lt g e).2), h.ap.eo⟩, hq, hr, by simp; omega⟩
/-- A list of the word is stored: its row is newer than all else. -/
theorem MemS.sete {w0 w W : World} {q rw : Nat} {vb : Value} {bs : List Int} {p : Nat} {f : Bool} {zs : List Value} {vi vv ve vo : Value} {is vs : List Int} {es : List EvV} {os : List OutV} {x' : Value} {l' : List EvV} (h : MemS w0 w W q rw vb bs p f zs vi is vv vs ve es vo os) (ho : W.ownsRow (rw + 1) 56 7 x' l'.length (flatCells (l'.map evRow))) (hf : ∀ g, x'.ownBlock = some g → vi.ownBlock ≠ some g ∧ vv.ownBlock ≠ some g ∧ vo.ownBlock ≠ some g) :
    MemS w0 w (W.setCell ⟨rw, 9, none⟩ x') q rw vb bs p f zs vi is vv vs x' l' vo os :=
  have hq := h.hq; have hr := h.hr; have hs := h.hs
  ⟨h.rd.set (by omega), h.on.then2 ((Only2.refl q rw W).set (o := 9) x') hq (by omega), h.rr.of_block (Below.heap_setCell W ⟨rw, 9, none⟩ x' w.heap.size (show w.heap.size ≠ rw by omega)), rowS_set (k := 2) h.rwr h.zl rfl (by omega) rfl, h.zl, ownsRow_setCell_below h.oi (show rw < rw + 1 by omega) _, ownsRow_setCell_below h.ov (show rw < rw + 1 by omega) _, ownsRow_setCell_below ho (show rw < rw + 1 by omega) _, ownsRow_setCell_below h.oo (show rw < rw + 1 by omega) _, ⟨h.ap.iv, (fun g h1 h2 => (hf g h2).1 h1), h.ap.io, (fun g h1 h2 => (hf g h2).2.1 h1), h.ap.xo, (fun g h1 h2 => (hf g h1).2.2 h2)⟩, hq, hr, by simpa using hs⟩
/-- One is appended to a list of the word. -/
theorem MemS.appe {w0 w W : World} {q rw : Nat} {vb : Value} {bs : List Int} {p : Nat} {f : Bool} {zs : List Value} {vi vv ve vo : Value} {is vs : List Int} {es : List EvV} {os : List OutV} {W4 : World} {x' : Value} {l' : List EvV} (h : MemS w0 w W q rw vb bs p f zs vi is vv vs ve es vo os) (hG : Gr ve x' W W4) (ho : W4.ownsRow (rw + 1) 56 7 x' l'.length (flatCells (l'.map evRow))) :
    MemS w0 w (W4.setCell ⟨rw, 9, none⟩ x') q rw vb bs p f zs vi is vv vs x' l' vo os := by
  have hq := h.hq; have hr := h.hr; have hs := h.hs
  have hl := h.oe.lt
  have h1 := hG.g.size
  refine ⟨(h.rd.gr hG (fun g e => by have := (hl g e).1; omega)).set (by omega), (h.on.gr hG hq (fun g e => by have := (hl g e).1; omega)).then2 ((Only2.refl q rw W4).set (o := 9) x') hq (by omega), (h.rr.of_block (hG.g.block _ (by omega) (fun e => by have := (hl _ e.symm).1; omega))).of_block (Below.heap_setCell W4 ⟨rw, 9, none⟩ x' w.heap.size (show w.heap.size ≠ rw by omega)), rowS_set (k := 2) (h.rwr.of_block (hG.g.block _ hs (fun e => by have := (hl _ e.symm).1; omega))) h.zl rfl (by omega) rfl, h.zl, ownsRow_setCell_below (owns_gr h.oi hG h.ap.ie) (show rw < rw + 1 by omega) _, ownsRow_setCell_below (owns_gr h.ov hG h.ap.xe) (show rw < rw + 1 by omega) _, ownsRow_setCell_below ho (show rw < rw + 1 by omega) _, ownsRow_setCell_below (owns_gr h.oo hG (fun g h1 h2 => h.ap.eo g h2 h1)) (show rw < rw + 1 by omega) _, ⟨h.ap.iv, (fun g h1 h2 => gr_apart hG (fun g x y => h.ap.ie g y x) (fun g e => (h.oi.lt g e).2) g h2 h1), h.ap.io, (fun g h1 h2 => gr_apart hG (fun g x y => h.ap.xe g y x) (fun g e => (h.ov.lt g e).2) g h2 h1), h.ap.xo, gr_apart hG h.ap.eo (fun g e => (h.oo.lt g e).2)⟩, hq, hr, by simp; omega⟩
/-- A list of the word is stored: its row is newer than all else. -/
theorem MemS.seto {w0 w W : World} {q rw : Nat} {vb : Value} {bs : List Int} {p : Nat} {f : Bool} {zs : List Value} {vi vv ve vo : Value} {is vs : List Int} {es : List EvV} {os : List OutV} {x' : Value} {l' : List OutV} (h : MemS w0 w W q rw vb bs p f zs vi is vv vs ve es vo os) (ho : W.ownsRow (rw + 1) 60 5 x' l'.length (flatCells (l'.map outRow))) (hf : ∀ g, x'.ownBlock = some g → vi.ownBlock ≠ some g ∧ vv.ownBlock ≠ some g ∧ ve.ownBlock ≠ some g) :
    MemS w0 w (W.setCell ⟨rw, 10, none⟩ x') q rw vb bs p f zs vi is vv vs ve es x' l' :=
  have hq := h.hq; have hr := h.hr; have hs := h.hs
  ⟨h.rd.set (by omega), h.on.then2 ((Only2.refl q rw W).set (o := 10) x') hq (by omega), h.rr.of_block (Below.heap_setCell W ⟨rw, 10, none⟩ x' w.heap.size (show w.heap.size ≠ rw by omega)), rowS_set (k := 3) h.rwr h.zl rfl (by omega) rfl, h.zl, ownsRow_setCell_below h.oi (show rw < rw + 1 by omega) _, ownsRow_setCell_below h.ov (show rw < rw + 1 by omega) _, ownsRow_setCell_below h.oe (show rw < rw + 1 by omega) _, ownsRow_setCell_below ho (show rw < rw + 1 by omega) _, ⟨h.ap.iv, h.ap.ie, (fun g h1 h2 => (hf g h2).1 h1), h.ap.xe, (fun g h1 h2 => (hf g h2).2.1 h1), (fun g h1 h2 => (hf g h2).2.2 h1)⟩, hq, hr, by simpa using hs⟩
/-- One is appended to a list of the word. -/
theorem MemS.appo {w0 w W : World} {q rw : Nat} {vb : Value} {bs : List Int} {p : Nat} {f : Bool} {zs : List Value} {vi vv ve vo : Value} {is vs : List Int} {es : List EvV} {os : List OutV} {W4 : World} {x' : Value} {l' : List OutV} (h : MemS w0 w W q rw vb bs p f zs vi is vv vs ve es vo os) (hG : Gr vo x' W W4) (ho : W4.ownsRow (rw + 1) 60 5 x' l'.length (flatCells (l'.map outRow))) :
    MemS w0 w (W4.setCell ⟨rw, 10, none⟩ x') q rw vb bs p f zs vi is vv vs ve es x' l' := by
  have hq := h.hq; have hr := h.hr; have hs := h.hs
  have hl := h.oo.lt
  have h1 := hG.g.size
  refine ⟨(h.rd.gr hG (fun g e => by have := (hl g e).1; omega)).set (by omega), (h.on.gr hG hq (fun g e => by have := (hl g e).1; omega)).then2 ((Only2.refl q rw W4).set (o := 10) x') hq (by omega), (h.rr.of_block (hG.g.block _ (by omega) (fun e => by have := (hl _ e.symm).1; omega))).of_block (Below.heap_setCell W4 ⟨rw, 10, none⟩ x' w.heap.size (show w.heap.size ≠ rw by omega)), rowS_set (k := 3) (h.rwr.of_block (hG.g.block _ hs (fun e => by have := (hl _ e.symm).1; omega))) h.zl rfl (by omega) rfl, h.zl, ownsRow_setCell_below (owns_gr h.oi hG h.ap.io) (show rw < rw + 1 by omega) _, ownsRow_setCell_below (owns_gr h.ov hG h.ap.xo) (show rw < rw + 1 by omega) _, ownsRow_setCell_below (owns_gr h.oe hG h.ap.eo) (show rw < rw + 1 by omega) _, ownsRow_setCell_below ho (show rw < rw + 1 by omega) _, ⟨h.ap.iv, h.ap.ie, (fun g h1 h2 => gr_apart hG (fun g x y => h.ap.io g y x) (fun g e => (h.oi.lt g e).2) g h2 h1), h.ap.xe, (fun g h1 h2 => gr_apart hG (fun g x y => h.ap.xo g y x) (fun g e => (h.ov.lt g e).2) g h2 h1), (fun g h1 h2 => gr_apart hG (fun g x y => h.ap.eo g y x) (fun g e => (h.oe.lt g e).2) g h2 h1)⟩, hq, hr, by simp; omega⟩
end Go.Proofs.YtiljjhipiinafaaGreat

/- The reader of the specification: (*l26Reader).word. -/
namespace Go.Proofs.YtiljjhipiinafaaGreat
open Go.RowKit
set_option linter.unusedVariables false
set_option linter.unusedSimpArgs false

theorem setVals_rdS {w0 w : World} {q r o : Nat} {vb : Value} {bs : List Int} {p : Nat} {f : Bool} (h : RdS w0 w q vb bs p f) (hr : q < r) : ∀ (xs : List Value), RdS w0 (setVals w r o xs) q vb bs p f := by
  have one : ∀ (w : World) (o : Nat) (x : Value), RdS w0 w q vb bs p f → RdS w0 (w.setCell ⟨r, o, none⟩ x) q vb bs p f := fun w o x h => by
    have hc : ∀ i, (w.setCell ⟨r, o, none⟩ x).cell? ⟨q, i, none⟩ = w.cell? ⟨q, i, none⟩ := fun i => World.cell?_setCell_far _ _ _ _ (by show r ≠ q; omega)
    exact ⟨h.bytes, h.rng, h.few, h.q0, h.below.setCell (p := ⟨r, o, none⟩) (by have := h.q0; show w0.heap.size ≤ r; omega) _, (hc 0).trans h.c0, (hc 1).trans h.c1, (hc 2).trans h.c2, fun i => (World.frozen?_of_block (Below.heap_setCell w ⟨r, o, none⟩ x q (by show q ≠ r; omega))).trans (h.fz i), h.pl⟩
  intro xs
  induction xs generalizing w o with
  | nil => exact h
  | cons x xs ih => exact ih (one w o x h)

theorem ownsI_cells {w : World} {B : Nat} {v : Value} {zs : List Int} (h : OwnsI w B v zs) (hz : 0 < zs.length) : ∃ g cap, v = .slice (some ⟨g, 0, none⟩) zs.length cap ∧ zs.length ≤ cap ∧ B ≤ g ∧ ∀ i, i < zs.length → w.cell? ⟨g, i, none⟩ = some (.int .i64 (zs.getD i 0)) := by
  rcases h.rows with ⟨_, h0⟩ | ⟨g, cap, f, rfl, hN, hl, _, hr, hin⟩
  · have e := List.map_eq_nil_iff.1 h0
    rw [e] at hz; simp at hz
  · rw [List.length_map] at hl hin
    refine ⟨g, cap, by rw [List.length_map], hl, hN, fun i hi => ?_⟩
    rw [hr.cell (i := i) (by omega)]
    have := hin i (by rw [List.length_map]; exact hi) hi 0 (by omega)
    simp only [Nat.mul_one, Nat.add_zero] at this
    rw [this]
    simp [List.getD, hi]

theorem wordNums_in {n : WordV} (h : WordIn n) : ∀ z ∈ wordNums n, -1 ≤ z ∧ z ≤ 9999 := by
  intro z hz
  simp only [wordNums, List.mem_append, List.mem_cons, List.mem_flatMap] at hz
  have := h.incs.1; have := h.vers.1; have := h.evs.1; have := h.outs.1
  rcases hz with hz | (hz | hz) | (hz | hz) | (hz | ⟨e, he, hz⟩) | hz | ⟨e, he, hz⟩
  · have := h.head z hz; omega
  · omega
  · have := h.incs.2 z hz; omega
  · omega
  · have := h.vers.2 z hz; omega
  · omega
  · exact h.evs.2 e he z hz
  · omega
  · have := h.outs.2 e he z hz; omega

theorem in_at {bs : List Int} {n0 : WordV} (hn : WordIn n0) (hp : packW n0 = bs) {pre x rest : List Int} (h : wordNums n0 = pre ++ (x ++ rest)) : NumsIn bs (packI pre).length x := by
  have hin : NumsIn bs 0 (wordNums n0) := ⟨wordNums_in hn, [], by rw [List.drop_zero, ← hp]; unfold packW; rw [List.append_nil]⟩
  rw [h] at hin
  have := hin.right.left
  rwa [Nat.zero_add] at this
theorem evSplit (n0 : WordV) (k : Nat) (h : k < n0.evs.length) : wordNums n0 = evTo n0 k ++ (evRow n0.evs[k] ++ ((n0.evs.drop (k + 1)).flatMap evRow ++ ((n0.outs.length : Int) :: n0.outs.flatMap outRow))) := by
  have e : n0.evs.flatMap evRow = (n0.evs.take k).flatMap evRow ++ (evRow n0.evs[k] ++ (n0.evs.drop (k + 1)).flatMap evRow) := by
    conv => lhs; rw [← List.take_append_drop k n0.evs, List.drop_eq_getElem_cons h]
    rw [List.flatMap_append, List.flatMap_cons]
  simp only [wordNums, evTo, preI, e, List.append_assoc, List.cons_append]
theorem ouSplit (n0 : WordV) (k : Nat) (h : k < n0.outs.length) : wordNums n0 = ouTo n0 k ++ (outRow n0.outs[k] ++ ((n0.outs.drop (k + 1)).flatMap outRow)) := by
  have e : n0.outs.flatMap outRow = (n0.outs.take k).flatMap outRow ++ (outRow n0.outs[k] ++ (n0.outs.drop (k + 1)).flatMap outRow) := by
    conv => lhs; rw [← List.take_append_drop k n0.outs, List.drop_eq_getElem_cons h]
    rw [List.flatMap_append, List.flatMap_cons]
  simp only [wordNums, ouTo, evTo, preI, e, List.take_length, List.append_assoc, List.cons_append]
theorem numAt_of {bs l : List Int} {p : Nat} {z : Int} (h : NumsIn bs p (z :: l)) : NumAt bs p z := by
  have h1 := h.at 0 (by simp)
  simpa [packI_nil] using h1
theorem nums_of {bs l : List Int} {p : Nat} {z : Int} (h : NumsIn bs p (z :: l)) : NumsIn bs (p + (numI z).length) l := by
  have h1 := NumsIn.right (us := [z]) (cs := l) h
  rwa [packI_one] at h1

/-- What reading a word comes to. -/
def RdWord (w0 w : World) (q : Nat) (vb : Value) (bs : List Int) (e : Ending) (w' : World) : Prop :=
  ∃ (n : WordV) (ui uv ue uo : Value) (p' : Nat) (f' : Bool), e = .returned (wordAgg n ui uv ue uo) ∧ WordFr w.heap.size w' n ui uv ue uo ∧ RdS w0 w' q vb bs p' f' ∧ OnlyB q w w' ∧ (∀ n0, WordIn n0 → packW n0 = bs → n = n0 ∧ f' = false)

set_option maxRecDepth 100000 in
set_option maxHeartbeats 8000000 in
theorem rdWord_any (w0 w : World) (q : Nat) (vb : Value) (bs : List Int) (h : RdS w0 w q vb bs 0 false) :
    Calls Tryz.prog 14 #[.pointer (some ⟨q, 0, none⟩)] w fun e w' => RdWord w0 w q vb bs e w' := by
  have hlt := h.lt
  have hs0 : (w.alloc (.cells #[.int .i64 0, .int .i64 0, .int .i64 0, .int .i64 0, .int .i64 0, .int .i64 0, .int .i64 0, .slice none 0 0, .slice none 0 0, .slice none 0 0, .slice none 0 0] 28)).heap.size = w.heap.size + 1 := by simp
  have hb0 : Below w.heap.size w (w.alloc (.cells #[.int .i64 0, .int .i64 0, .int .i64 0, .int .i64 0, .int .i64 0, .int .i64 0, .int .i64 0, .slice none 0 0, .slice none 0 0, .slice none 0 0, .slice none 0 0] 28)) := (Below.refl _ _).alloc (Nat.le_refl _) _
  have RR := hide (row_new w [.int .i64 0, .int .i64 0, .int .i64 0, .int .i64 0, .int .i64 0, .int .i64 0, .int .i64 0, .slice none 0 0, .slice none 0 0, .slice none 0 0, .slice none 0 0] 28)
  have RD := hide (h.on hb0)
  have HO : Hid (OnlyB q w (w.alloc (.cells #[.int .i64 0, .int .i64 0, .int .i64 0, .int .i64 0, .int .i64 0, .int .i64 0, .int .i64 0, .slice none 0 0, .slice none 0 0, .slice none 0 0, .slice none 0 0] 28))) := hide ⟨hb0.size, fun b _ hl => hb0.block b hl, hb0.mono (Nat.le_of_lt hlt)⟩
  have HLT := hide hlt
  have HS0 := hide hs0
  clear h hlt hs0 hb0
  go_enter Tryz.func14, Tryz.ntmps14
  go_upto_region 1 with fail
  change Hid (World.rowIs (w.alloc (.cells #[.int .i64 0, .int .i64 0, .int .i64 0, .int .i64 0, .int .i64 0, .int .i64 0, .int .i64 0, .slice none 0 0, .slice none 0 0, .slice none 0 0, .slice none 0 0] 28)) w.heap.size 28 11 _) at RR
  generalize (w.alloc (.cells #[.int .i64 0, .int .i64 0, .int .i64 0, .int .i64 0, .int .i64 0, .int .i64 0, .int .i64 0, .slice none 0 0, .slice none 0 0, .slice none 0 0, .slice none 0 0] 28)) = X0 at *
  go_wp2_with fail
  refine (rdNums_any w0 _ q vb bs 0 false 7 (unhide RD) (by omega)).mono ?_
  rintro e w1 ⟨vh, zs, p1, f1, rfl, hown, hR1, hO1, hz7, _, hcomp⟩
  have HC1 := hide hcomp
  have RD1 := hide hR1
  have hs1 := hO1.size
  replace RR := hide ((unhide RR).of_block (hO1.other w.heap.size (by have := unhide HLT; omega) (by have := unhide HS0; omega)))
  replace HO := hide ((unhide HO).trans hO1)
  have HOWN := hide hown
  have HZ7 := hide hz7
  have HS1 : Hid (w.heap.size + 1 ≤ w1.heap.size) := hide (by have := unhide HS0; omega)
  clear hcomp hR1 hO1 hown RD hs1 hz7
  have k2 := (unhide RD1).c2
  cases f1 with
  | true =>
    have y0 : w1.cell? ⟨w.heap.size, 0, none⟩ = some (.int .i64 0) := (unhide RR).cell (i := 0) (by omega)
    have yf0 : w1.frozen? ⟨w.heap.size, 0, none⟩ = false := (unhide RR).frozen 0
    have y1 : w1.cell? ⟨w.heap.size, 1, none⟩ = some (.int .i64 0) := (unhide RR).cell (i := 1) (by omega)
    have yf1 : w1.frozen? ⟨w.heap.size, 1, none⟩ = false := (unhide RR).frozen 1
    have y2 : w1.cell? ⟨w.heap.size, 2, none⟩ = some (.int .i64 0) := (unhide RR).cell (i := 2) (by omega)
    have yf2 : w1.frozen? ⟨w.heap.size, 2, none⟩ = false := (unhide RR).frozen 2
    have y3 : w1.cell? ⟨w.heap.size, 3, none⟩ = some (.int .i64 0) := (unhide RR).cell (i := 3) (by omega)
    have yf3 : w1.frozen? ⟨w.heap.size, 3, none⟩ = false := (unhide RR).frozen 3
    have y4 : w1.cell? ⟨w.heap.size, 4, none⟩ = some (.int .i64 0) := (unhide RR).cell (i := 4) (by omega)
    have yf4 : w1.frozen? ⟨w.heap.size, 4, none⟩ = false := (unhide RR).frozen 4
    have y5 : w1.cell? ⟨w.heap.size, 5, none⟩ = some (.int .i64 0) := (unhide RR).cell (i := 5) (by omega)
    have yf5 : w1.frozen? ⟨w.heap.size, 5, none⟩ = false := (unhide RR).frozen 5
    have y6 : w1.cell? ⟨w.heap.size, 6, none⟩ = some (.int .i64 0) := (unhide RR).cell (i := 6) (by omega)
    have yf6 : w1.frozen? ⟨w.heap.size, 6, none⟩ = false := (unhide RR).frozen 6
    have y7 : w1.cell? ⟨w.heap.size, 7, none⟩ = some (.slice none 0 0) := (unhide RR).cell (i := 7) (by omega)
    have yf7 : w1.frozen? ⟨w.heap.size, 7, none⟩ = false := (unhide RR).frozen 7
    have y8 : w1.cell? ⟨w.heap.size, 8, none⟩ = some (.slice none 0 0) := (unhide RR).cell (i := 8) (by omega)
    have yf8 : w1.frozen? ⟨w.heap.size, 8, none⟩ = false := (unhide RR).frozen 8
    have y9 : w1.cell? ⟨w.heap.size, 9, none⟩ = some (.slice none 0 0) := (unhide RR).cell (i := 9) (by omega)
    have yf9 : w1.frozen? ⟨w.heap.size, 9, none⟩ = false := (unhide RR).frozen 9
    have y10 : w1.cell? ⟨w.heap.size, 10, none⟩ = some (.slice none 0 0) := (unhide RR).cell (i := 10) (by omega)
    have yf10 : w1.frozen? ⟨w.heap.size, 10, none⟩ = false := (unhide RR).frozen 10
    have E1 := hide (setVals_rdS (o := 0) (unhide RD1) (r := w.heap.size) (unhide HLT) [.int .i64 0, .int .i64 0, .int .i64 0, .int .i64 0, .int .i64 0, .int .i64 0, .int .i64 0, .slice none 0 0, .slice none 0 0, .slice none 0 0, .slice none 0 0])
    have E2 := hide ((unhide HO).then2 (only2_setVals q w.heap.size 0 w1 [.int .i64 0, .int .i64 0, .int .i64 0, .int .i64 0, .int .i64 0, .int .i64 0, .int .i64 0, .slice none 0 0, .slice none 0 0, .slice none 0 0, .slice none 0 0]) (unhide HLT) (Nat.le_refl _))
    go_wp2_with fail
    refine bodyPost_ret (v := wordAgg zeroW (.slice none 0 0) (.slice none 0 0) (.slice none 0 0) (.slice none 0 0)) (by simp [results, Tryz.results14, go_sem, zeroW, y0, y1, y2, y3, y4, y5, y6, y7, y8, y9, y10]) rfl ⟨zeroW, _, _, _, _, p1, true, rfl, wordFr_zero _ _, unhide E1, unhide E2, fun n0 hn hp => ?_⟩
    have hin : NumsIn bs 0 (wordNums n0) := ⟨wordNums_in hn, [], by rw [List.drop_zero, ← hp]; unfold packW; rw [List.append_nil]⟩
    obtain ⟨_, _, h3⟩ := (unhide HC1) (headNums n0) (by first | rfl | trivial) rfl hin.left
    cases h3
  | false =>
    obtain ⟨z0, z1, z2, z3, z4, z5, z6, rfl⟩ := len7 ((unhide HZ7) rfl)
    obtain ⟨hq, ch, rfl, hch, _, hc_⟩ := ownsI_cells (unhide HOWN) (by simp)
    simp only [List.length_cons, List.length_nil, Nat.zero_add, Nat.reduceAdd] at hch hc_ ⊢
    have hchI : (7 : Int) ≤ (ch : Int) := by omega
    have c0 := hc_ 0 (by omega)
    have c1 := hc_ 1 (by omega)
    have c2 := hc_ 2 (by omega)
    have c3 := hc_ 3 (by omega)
    have c4 := hc_ 4 (by omega)
    have c5 := hc_ 5 (by omega)
    have c6 := hc_ 6 (by omega)
    simp only [List.getD_cons_zero, List.getD_cons_succ, Nat.add_zero] at c0 c1 c2 c3 c4 c5 c6
    clear hc_
    go_upto_region 4 with fail
    clear k2
    have hbd : Below w1.heap.size w1 w1.drew := (Below.refl _ _).drew
    refine wp_region_last (L := 23) (S := fun w' : World => w'.cell? ⟨hq, 0, none⟩ = some (.int .i64 z0) ∧ w'.cell? ⟨hq, 1, none⟩ = some (.int .i64 z1) ∧ w'.cell? ⟨hq, 2, none⟩ = some (.int .i64 z2) ∧ w'.cell? ⟨hq, 3, none⟩ = some (.int .i64 z3) ∧ w'.cell? ⟨hq, 4, none⟩ = some (.int .i64 z4) ∧ w'.cell? ⟨hq, 5, none⟩ = some (.int .i64 z5) ∧ w'.cell? ⟨hq, 6, none⟩ = some (.int .i64 z6)) (by kernel_rfl) ?_
    have HBD := hide hbd
    clear hbd
    have HC := hide (show ∀ W, Below w1.heap.size w1 W → (fun w' : World => w'.cell? ⟨hq, 0, none⟩ = some (.int .i64 z0) ∧ w'.cell? ⟨hq, 1, none⟩ = some (.int .i64 z1) ∧ w'.cell? ⟨hq, 2, none⟩ = some (.int .i64 z2) ∧ w'.cell? ⟨hq, 3, none⟩ = some (.int .i64 z3) ∧ w'.cell? ⟨hq, 4, none⟩ = some (.int .i64 z4) ∧ w'.cell? ⟨hq, 5, none⟩ = some (.int .i64 z5) ∧ w'.cell? ⟨hq, 6, none⟩ = some (.int .i64 z6)) W from fun W hW => ⟨cell_on hW c0, cell_on hW c1, cell_on hW c2, cell_on hW c3, cell_on hW c4, cell_on hW c5, cell_on hW c6⟩)
    clear c0 c1 c2 c3 c4 c5 c6
    generalize hXd : w1.drew = X at *
    have hHeld := (unhide HC) X (unhide HBD)
    refine wpAnyL_take (i := 0) (v := ?_) (by kernel_rfl) rfl (by kernel_rfl) (by kernel_rfl) (by kernel_rfl) (fun _ _ _ h => h) hHeld (Or.inl ⟨by kernel_rfl, ?_⟩) ?_
    rotate_left
    · (intro w hSw; (try dsimp only at hSw); obtain ⟨s0, s1, s2, s3, s4, s5, s6⟩ := hSw; go_simp; try with_reducible rfl)
    refine wpAnyL_take (i := 1) (v := ?_) (by kernel_rfl) rfl (by kernel_rfl) (by kernel_rfl) (by kernel_rfl) (fun _ _ _ h => h) hHeld (Or.inl ⟨by kernel_rfl, ?_⟩) ?_
    rotate_left
    · (intro w hSw; (try dsimp only at hSw); obtain ⟨s0, s1, s2, s3, s4, s5, s6⟩ := hSw; go_simp; try with_reducible rfl)
    refine wpAnyL_take (i := 2) (v := ?_) (by kernel_rfl) rfl (by kernel_rfl) (by kernel_rfl) (by kernel_rfl) (fun _ _ _ h => h) hHeld (Or.inl ⟨by kernel_rfl, ?_⟩) ?_
    rotate_left
    · (intro w hSw; (try dsimp only at hSw); obtain ⟨s0, s1, s2, s3, s4, s5, s6⟩ := hSw; go_simp; try with_reducible rfl)
    refine wpAnyL_take (i := 3) (v := ?_) (by kernel_rfl) rfl (by kernel_rfl) (by kernel_rfl) (by kernel_rfl) (fun _ _ _ h => h) hHeld (Or.inl ⟨by kernel_rfl, ?_⟩) ?_
    rotate_left
    · (intro w hSw; (try dsimp only at hSw); obtain ⟨s0, s1, s2, s3, s4, s5, s6⟩ := hSw; go_simp; try with_reducible rfl)
    refine wpAnyL_take (i := 4) (v := ?_) (by kernel_rfl) rfl (by kernel_rfl) (by kernel_rfl) (by kernel_rfl) (fun _ _ _ h => h) hHeld (Or.inl ⟨by kernel_rfl, ?_⟩) ?_
    rotate_left
    · (intro w hSw; (try dsimp only at hSw); obtain ⟨s0, s1, s2, s3, s4, s5, s6⟩ := hSw; go_simp; try with_reducible rfl)
    refine wpAnyL_take (i := 5) (v := ?_) (by kernel_rfl) rfl (by kernel_rfl) (by kernel_rfl) (by kernel_rfl) (fun _ _ _ h => h) hHeld (Or.inl ⟨by kernel_rfl, ?_⟩) ?_
    rotate_left
    · (intro w hSw; (try dsimp only at hSw); obtain ⟨s0, s1, s2, s3, s4, s5, s6⟩ := hSw; go_simp; try with_reducible rfl)
    refine wpAnyL_take (i := 6) (v := ?_) (by kernel_rfl) rfl (by kernel_rfl) (by kernel_rfl) (by kernel_rfl) (fun _ _ _ h => h) hHeld (Or.inl ⟨by kernel_rfl, ?_⟩) ?_
    rotate_left
    · (intro w hSw; (try dsimp only at hSw); obtain ⟨s0, s1, s2, s3, s4, s5, s6⟩ := hSw; go_simp; try with_reducible rfl)
    refine wpAnyL_take (i := 7) (v := ?_) (by kernel_rfl) rfl (by kernel_rfl) (by kernel_rfl) (by kernel_rfl) (fun _ _ _ h => h) hHeld (Or.inl ⟨by kernel_rfl, ?_⟩) ?_
    rotate_left
    · (intro w hSw; (try dsimp only at hSw); obtain ⟨s0, s1, s2, s3, s4, s5, s6⟩ := hSw; go_simp; try with_reducible rfl)
    refine wpAnyL_take (i := 8) (v := ?_) (by kernel_rfl) rfl (by kernel_rfl) (by kernel_rfl) (by kernel_rfl) (fun _ _ _ h => h) hHeld (Or.inl ⟨by kernel_rfl, ?_⟩) ?_
    rotate_left
    · (intro w hSw; (try dsimp only at hSw); obtain ⟨s0, s1, s2, s3, s4, s5, s6⟩ := hSw; go_simp; try with_reducible rfl)
    refine wpAnyL_take (i := 9) (v := ?_) (by kernel_rfl) rfl (by kernel_rfl) (by kernel_rfl) (by kernel_rfl) (fun _ _ _ h => h) hHeld (Or.inl ⟨by kernel_rfl, ?_⟩) ?_
    rotate_left
    · (intro w hSw; (try dsimp only at hSw); obtain ⟨s0, s1, s2, s3, s4, s5, s6⟩ := hSw; go_simp; try with_reducible rfl)
    refine wpAnyL_take (i := 10) (v := ?_) (by kernel_rfl) rfl (by kernel_rfl) (by kernel_rfl) (by kernel_rfl) (fun _ _ _ h => h) hHeld (Or.inl ⟨by kernel_rfl, ?_⟩) ?_
    rotate_left
    · (intro w hSw; (try dsimp only at hSw); obtain ⟨s0, s1, s2, s3, s4, s5, s6⟩ := hSw; go_simp; try with_reducible rfl)
    refine wpAnyL_take (i := 11) (v := ?_) (by kernel_rfl) rfl (by kernel_rfl) (by kernel_rfl) (by kernel_rfl) (fun _ _ _ h => h) hHeld (Or.inl ⟨by kernel_rfl, ?_⟩) ?_
    rotate_left
    · (intro w hSw; (try dsimp only at hSw); obtain ⟨s0, s1, s2, s3, s4, s5, s6⟩ := hSw; go_simp; try with_reducible rfl)
    refine wpAnyL_take (i := 12) (v := ?_) (by kernel_rfl) rfl (by kernel_rfl) (by kernel_rfl) (by kernel_rfl) (fun _ _ _ h => h) hHeld (Or.inl ⟨by kernel_rfl, ?_⟩) ?_
    rotate_left
    · (intro w hSw; (try dsimp only at hSw); obtain ⟨s0, s1, s2, s3, s4, s5, s6⟩ := hSw; go_simp; try with_reducible rfl)
    refine wpAnyL_take (i := 13) (v := ?_) (by kernel_rfl) rfl (by kernel_rfl) (by kernel_rfl) (by kernel_rfl) (fun _ _ _ h => h) hHeld (Or.inl ⟨by kernel_rfl, ?_⟩) ?_
    rotate_left
    · (intro w hSw; (try dsimp only at hSw); obtain ⟨s0, s1, s2, s3, s4, s5, s6⟩ := hSw; go_simp; try with_reducible rfl)
    refine wpAnyL_take (i := 14) (v := ?_) (by kernel_rfl) rfl (by kernel_rfl) (by kernel_rfl) (by kernel_rfl) (fun _ _ _ h => h) hHeld (Or.inl ⟨by kernel_rfl, ?_⟩) ?_
    rotate_left
    · (intro w hSw; (try dsimp only at hSw); obtain ⟨s0, s1, s2, s3, s4, s5, s6⟩ := hSw; go_simp; try with_reducible rfl)
    refine wpAnyL_take (i := 15) (v := ?_) (by kernel_rfl) rfl (by kernel_rfl) (by kernel_rfl) (by kernel_rfl) (fun _ _ _ h => h) hHeld (Or.inl ⟨by kernel_rfl, ?_⟩) ?_
    rotate_left
    · (intro w hSw; (try dsimp only at hSw); obtain ⟨s0, s1, s2, s3, s4, s5, s6⟩ := hSw; go_simp; try with_reducible rfl)
    refine wpAnyL_take (i := 16) (v := ?_) (by kernel_rfl) rfl (by kernel_rfl) (by kernel_rfl) (by kernel_rfl) (fun _ _ _ h => h) hHeld (Or.inl ⟨by kernel_rfl, ?_⟩) ?_
    rotate_left
    · (intro w hSw; (try dsimp only at hSw); obtain ⟨s0, s1, s2, s3, s4, s5, s6⟩ := hSw; go_simp; try with_reducible rfl)
    refine wpAnyL_take (i := 17) (v := ?_) (by kernel_rfl) rfl (by kernel_rfl) (by kernel_rfl) (by kernel_rfl) (fun _ _ _ h => h) hHeld (Or.inl ⟨by kernel_rfl, ?_⟩) ?_
    rotate_left
    · (intro w hSw; (try dsimp only at hSw); obtain ⟨s0, s1, s2, s3, s4, s5, s6⟩ := hSw; go_simp; try with_reducible rfl)
    refine wpAnyL_take (i := 18) (v := ?_) (by kernel_rfl) rfl (by kernel_rfl) (by kernel_rfl) (by kernel_rfl) (fun _ _ _ h => h) hHeld (Or.inl ⟨by kernel_rfl, ?_⟩) ?_
    rotate_left
    · (intro w hSw; (try dsimp only at hSw); obtain ⟨s0, s1, s2, s3, s4, s5, s6⟩ := hSw; go_simp; try with_reducible rfl)
    refine wpAnyL_take (i := 19) (v := ?_) (by kernel_rfl) rfl (by kernel_rfl) (by kernel_rfl) (by kernel_rfl) (fun _ _ _ h => h) hHeld (Or.inl ⟨by kernel_rfl, ?_⟩) ?_
    rotate_left
    · (intro w hSw; (try dsimp only at hSw); obtain ⟨s0, s1, s2, s3, s4, s5, s6⟩ := hSw; go_simp; try with_reducible rfl)
    refine wpAnyL_take (i := 20) (v := ?_) (by kernel_rfl) rfl (by kernel_rfl) (by kernel_rfl) (by kernel_rfl) (fun _ _ _ h => h) hHeld (Or.inl ⟨by kernel_rfl, ?_⟩) ?_
    rotate_left
    · (intro w hSw; (try dsimp only at hSw); obtain ⟨s0, s1, s2, s3, s4, s5, s6⟩ := hSw; go_simp; try with_reducible rfl)
    refine wpAnyL_take (i := 21) (v := ?_) (by kernel_rfl) rfl (by kernel_rfl) (by kernel_rfl) (by kernel_rfl) (fun _ _ _ h => h) hHeld (Or.inl ⟨by kernel_rfl, ?_⟩) ?_
    rotate_left
    · (intro w hSw; (try dsimp only at hSw); obtain ⟨s0, s1, s2, s3, s4, s5, s6⟩ := hSw; go_simp; try with_reducible rfl)
    refine wpAnyL_one (i := 22) (by kernel_rfl) rfl (fun K hK => ?_)
    go_simp
    have hy1 : Below w1.heap.size w1 (X.alloc (.cells #[.int .i64 0, .int .i64 0, .int .i64 0, .int .i64 0, .int .i64 0, .int .i64 0, .int .i64 0, .slice none 0 0, .slice none 0 0, .slice none 0 0, .slice none 0 0] 28)) := (unhide HBD).alloc (by have := (unhide HBD).size; exact this) _
    refine held_on hK ((unhide HC) _ hy1) (fun hHeld => ?_)
    clear hK K
    refine wpAnyL_end (by kernel_rfl) rfl (fun K hK => ?_)
    go_simp
    refine hK.out _ _ ?_
    clear hK K
    refine wpAnyL_done (by kernel_rfl) ?_ _
    have HMS := hide (show MemS w0 w (X.alloc (.cells #[.int .i64 z0, .int .i64 z1, .int .i64 z2, .int .i64 z3, .int .i64 z4, .int .i64 z5, .int .i64 z6, .slice none 0 0, .slice none 0 0, .slice none 0 0, .slice none 0 0] 28)) q X.heap.size vb bs p1 false [.int .i64 z0, .int .i64 z1, .int .i64 z2, .int .i64 z3, .int .i64 z4, .int .i64 z5, .int .i64 z6] (.slice none 0 0) [] (.slice none 0 0) [] (.slice none 0 0) [] (.slice none 0 0) [] from by
      have hxs := (unhide HBD).size
      have hyA : Below X.heap.size X (X.alloc (.cells #[.int .i64 z0, .int .i64 z1, .int .i64 z2, .int .i64 z3, .int .i64 z4, .int .i64 z5, .int .i64 z6, .slice none 0 0, .slice none 0 0, .slice none 0 0, .slice none 0 0] 28)) := (Below.refl _ _).alloc (Nat.le_refl _) _
      have hy2 := (unhide HBD).trans (hyA.mono hxs)
      have hlt := unhide HLT
      have hs1 := unhide HS1
      exact ⟨(unhide RD1).on hy2, (unhide HO).then (by omega) hy2, (unhide RR).of_block (hy2.block _ (by omega)), row_new X [.int .i64 z0, .int .i64 z1, .int .i64 z2, .int .i64 z3, .int .i64 z4, .int .i64 z5, .int .i64 z6, .slice none 0 0, .slice none 0 0, .slice none 0 0, .slice none 0 0] 28, rfl, World.ownsRow_nil _ _ _ _, World.ownsRow_nil _ _ _ _, World.ownsRow_nil _ _ _ _, World.ownsRow_nil _ _ _ _, apart_nil, hlt, by omega, by simp⟩)
    have HCP0 : Hid (∀ n0, WordIn n0 → packW n0 = bs → p1 = (packI (headNums n0)).length ∧ [z0, z1, z2, z3, z4, z5, z6] = headNums n0) := hide (fun n0 hn hp => by
      obtain ⟨h1, h2, _⟩ := (unhide HC1) (headNums n0) (by first | rfl | trivial) rfl (in_at (pre := []) hn hp rfl)
      exact ⟨by simpa using h2, h1⟩)
    clear HC HBD HC1 RD1 RR HO HOWN HZ7 hXd hHeld
    clear hy1
    go_upto_region 5 with fail
    generalize hW0 : X.alloc (.cells #[.int .i64 z0, .int .i64 z1, .int .i64 z2, .int .i64 z3, .int .i64 z4, .int .i64 z5, .int .i64 z6, .slice none 0 0, .slice none 0 0, .slice none 0 0, .slice none 0 0] 28) = W0 at *
    generalize X.heap.size = rw at *
    clear hW0
    go_wp2_with fail
    refine (rdNum_any w0 _ q vb bs p1 false (unhide HMS).rd).mono ?_
    rintro e wa ⟨cn, pa, fa, rfl, hRa, hOa, hn0, hn1, _, _, hca⟩
    have HMA := hide ((unhide HMS).only hOa hRa)
    have HCA := hide hca
    have HN1 := hide hn1
    clear hRa hOa hca HMS hn0
    go_wp2_with fail
    refine (rdNums_any w0 _ q vb bs pa fa cn (unhide HMA).rd (unhide HN1)).mono ?_
    rintro e wb ⟨v0, x0, p2, f2, rfl, hown, hRb, hOb, _, _, hcb⟩
    obtain ⟨a0, c0, rfl⟩ := sliced_own hown
    have HMB := hide ((unhide HMA).only hOb hRb)
    have hmh := (unhide HMA).hs
    have hof := hown.lt
    have hmo := unhide HMA
    have HMS := hide ((unhide HMB).seti (x' := .slice a0 x0.length c0) (l' := x0) (by
        have e := owns_less (show rw + 1 ≤ wa.heap.size by omega) hown
        rw [← flatCells_one] at e
        exact e) (fun g hg => by
        have h1 := (hof g hg).1
        exact ⟨fun e2 => by have := (hmo.ov.lt g e2).2; omega, fun e2 => by have := (hmo.oe.lt g e2).2; omega, fun e2 => by have := (hmo.oo.lt g e2).2; omega⟩))
    have HCP1 : Hid (∀ n0, WordIn n0 → packW n0 = bs → f2 = false ∧ p2 = (packI (headNums n0 ++ ((n0.incs.length : Int) :: n0.incs))).length ∧ (x0 = n0.incs ∧ [z0, z1, z2, z3, z4, z5, z6] = headNums n0)) := hide (fun n0 hn hp => by
      obtain ⟨hpe, hh⟩ := (unhide HCP0) n0 hn hp
      have hin := in_at (pre := headNums n0) (x := (n0.incs.length : Int) :: n0.incs) (rest := ((n0.vers.length : Int) :: n0.vers) ++ (((n0.evs.length : Int) :: n0.evs.flatMap evRow) ++ ((n0.outs.length : Int) :: n0.outs.flatMap outRow))) hn hp (by simp [wordNums, preI])
      rw [← hpe] at hin
      obtain ⟨e1, e2, e3⟩ := (unhide HCA) _ (numAt_of hin)
      have hin2 := nums_of hin
      rw [← e2] at hin2
      obtain ⟨e4, e5, e6⟩ := hcb n0.incs (e3) (by rw [e1]; simp) hin2
      refine ⟨e6, ?_, e4, hh⟩
      rw [e5, e2, hpe, ← List.length_append, ← List.length_append, ← packI_one, ← packI_app, ← packI_app]
      simp [preI])
    have y7 : wb.cell? ⟨rw, 7, none⟩ = some (.slice none 0 0) := (unhide HMB).rwr.cell (i := 7) (by omega)
    have y7f : wb.frozen? ⟨rw, 7, none⟩ = false := (unhide HMB).rwr.frozen 7
    clear hown hRb hOb hcb hof hmh hmo HMA HMB HCA HN1 HCP0
    go_upto_region 6 with fail
    clear y7 y7f
    generalize wb.setCell ⟨rw, 7, none⟩ (.slice a0 x0.length c0) = W1 at *
    go_wp2_with fail
    refine (rdNum_any w0 _ q vb bs p2 f2 (unhide HMS).rd).mono ?_
    rintro e wa ⟨cn, pa, fa, rfl, hRa, hOa, hn0, hn1, _, _, hca⟩
    have HMA := hide ((unhide HMS).only hOa hRa)
    have HCA := hide hca
    have HN1 := hide hn1
    clear hRa hOa hca HMS hn0
    go_wp2_with fail
    refine (rdNums_any w0 _ q vb bs pa fa cn (unhide HMA).rd (unhide HN1)).mono ?_
    rintro e wb ⟨v1, x1, p3, f3, rfl, hown, hRb, hOb, _, _, hcb⟩
    obtain ⟨a1, c1, rfl⟩ := sliced_own hown
    have HMB := hide ((unhide HMA).only hOb hRb)
    have hmh := (unhide HMA).hs
    have hof := hown.lt
    have hmo := unhide HMA
    have HMS := hide ((unhide HMB).setv (x' := .slice a1 x1.length c1) (l' := x1) (by
        have e := owns_less (show rw + 1 ≤ wa.heap.size by omega) hown
        rw [← flatCells_one] at e
        exact e) (fun g hg => by
        have h1 := (hof g hg).1
        exact ⟨fun e2 => by have := (hmo.oi.lt g e2).2; omega, fun e2 => by have := (hmo.oe.lt g e2).2; omega, fun e2 => by have := (hmo.oo.lt g e2).2; omega⟩))
    have HCP2 : Hid (∀ n0, WordIn n0 → packW n0 = bs → f3 = false ∧ p3 = (packI (preI n0)).length ∧ (x1 = n0.vers ∧ x0 = n0.incs ∧ [z0, z1, z2, z3, z4, z5, z6] = headNums n0)) := hide (fun n0 hn hp => by
      obtain ⟨hf, hpe, hh⟩ := (unhide HCP1) n0 hn hp
      have hin := in_at (pre := headNums n0 ++ ((n0.incs.length : Int) :: n0.incs)) (x := (n0.vers.length : Int) :: n0.vers) (rest := ((n0.evs.length : Int) :: n0.evs.flatMap evRow) ++ ((n0.outs.length : Int) :: n0.outs.flatMap outRow)) hn hp (by simp [wordNums, preI])
      rw [← hpe] at hin
      obtain ⟨e1, e2, e3⟩ := (unhide HCA) _ (numAt_of hin)
      have hin2 := nums_of hin
      rw [← e2] at hin2
      obtain ⟨e4, e5, e6⟩ := hcb n0.vers (by rw [e3]; exact hf) (by rw [e1]; simp) hin2
      refine ⟨e6, ?_, e4, hh⟩
      rw [e5, e2, hpe, ← List.length_append, ← List.length_append, ← packI_one, ← packI_app, ← packI_app]
      simp [preI])
    have y7 : wb.cell? ⟨rw, 8, none⟩ = some (.slice none 0 0) := (unhide HMB).rwr.cell (i := 8) (by omega)
    have y7f : wb.frozen? ⟨rw, 8, none⟩ = false := (unhide HMB).rwr.frozen 8
    clear hown hRb hOb hcb hof hmh hmo HMA HMB HCA HN1 HCP1
    go_upto_region 7 with fail
    clear y7 y7f
    generalize wb.setCell ⟨rw, 8, none⟩ (.slice a1 x1.length c1) = W2 at *
    go_wp2_with fail
    refine (rdNum_any w0 _ q vb bs p3 f3 (unhide HMS).rd).mono ?_
    rintro e wa ⟨cn, pa, fa, rfl, hRa, hOa, _, hn1, _, _, hca⟩
    have HMA := hide ((unhide HMS).only hOa hRa)
    have HN1 := hide hn1
    have HCA : Hid (∀ n0, WordIn n0 → packW n0 = bs → fa = false ∧ cn = n0.evs.length ∧ pa = (packI (evTo n0 0)).length ∧ (x1 = n0.vers ∧ x0 = n0.incs ∧ [z0, z1, z2, z3, z4, z5, z6] = headNums n0)) := hide (fun n0 hn hp => by
      obtain ⟨hf, hpe, hh⟩ := (unhide HCP2) n0 hn hp
      have hin := in_at (pre := preI n0) (x := [(n0.evs.length : Int)]) (rest := n0.evs.flatMap evRow ++ (((n0.outs.length : Int) :: n0.outs.flatMap outRow))) hn hp (by simp [wordNums, preI, evTo])
      rw [← hpe] at hin
      obtain ⟨e1, e2, e3⟩ := hca _ (numAt_of hin)
      refine ⟨by rw [e3]; exact hf, e1, ?_, hh⟩
      rw [e2, hpe, ← packI_one, ← List.length_append, ← packI_app]
      simp [evTo])
    clear hRa hOa hca hn1 HMS HCP2
    go_wp2_with fail
    go_loopw [5] (fun i wr => ∃ (k : Nat) (xs : List EvV) (xa : Option Addr) (xc : Nat) (pk : Nat) (fk : Bool), i = .int .i64 (cn - (k : Int)) ∧ ((k : Int) ≤ cn ∨ k = 0) ∧ xs.length ≤ k ∧ Hid (MemS w0 w wr q rw vb bs pk fk [.int .i64 z0, .int .i64 z1, .int .i64 z2, .int .i64 z3, .int .i64 z4, .int .i64 z5, .int .i64 z6] (.slice a0 x0.length c0) x0 (.slice a1 x1.length c1) x1 (.slice xa xs.length xc) xs (.slice none 0 0) []) ∧ Hid (∀ n0, WordIn n0 → packW n0 = bs → fk = false ∧ cn = n0.evs.length ∧ k ≤ n0.evs.length ∧ xs = n0.evs.take k ∧ pk = (packI (evTo n0 k)).length ∧ (x1 = n0.vers ∧ x0 = n0.incs ∧ [z0, z1, z2, z3, z4, z5, z6] = headNums n0))) (fun i _ => (intOf i).toNat)
    case atStart => exact ⟨0, [], none, 0, pa, fa, by simp, Or.inr rfl, Nat.zero_le _, HMA, hide (fun n0 hn hp => by obtain ⟨h1, h2, h3, h4⟩ := (unhide HCA) n0 hn hp; exact ⟨h1, h2, Nat.zero_le _, rfl, h3, h4⟩)⟩
    case round =>
      obtain ⟨k, xs, xa, xc, pk, fk, rfl, hk, hxl, HM, HCK⟩ := hrel
      have k2 := (unhide HM).rd.c2
      have hcn := unhide HN1
      by_cases hpos : 0 < cn - (k : Int)
      · cases fk with
        | true =>
          go_wp2_with fail
          have HCP3 : Hid (∀ n0, WordIn n0 → packW n0 = bs → true = false ∧ pk = (packI (evTo n0 n0.evs.length)).length ∧ (xs = n0.evs ∧ x1 = n0.vers ∧ x0 = n0.incs ∧ [z0, z1, z2, z3, z4, z5, z6] = headNums n0)) := hide (fun n0 hn hp => by
            obtain ⟨h1, h2, h3, h4, h5, h6⟩ := (unhide HCK) n0 hn hp
            cases h1)
          clear HCK hpos hk hxl HN1 hcn k2
          clear HMA HCA
          obtain ⟨xe, hxe⟩ : ∃ xe, xe = xs := ⟨_, rfl⟩
          rw [← hxe] at HM HCP3
          obtain ⟨ea, hea⟩ : ∃ ea, ea = xa := ⟨_, rfl⟩
          obtain ⟨ec, hec⟩ : ∃ ec, ec = xc := ⟨_, rfl⟩
          rw [← hea, ← hec] at HM
          clear hxe hea hec
          refine (rdNum_any w0 _ q vb bs pk true (unhide HM).rd).mono ?_
          rintro e wa ⟨cn, pa, fa, rfl, hRa, hOa, _, hn1, _, _, hca⟩
          have HMA := hide ((unhide HM).only hOa hRa)
          have HN1 := hide hn1
          have HCA : Hid (∀ n0, WordIn n0 → packW n0 = bs → fa = false ∧ cn = n0.outs.length ∧ pa = (packI (ouTo n0 0)).length ∧ (xe = n0.evs ∧ x1 = n0.vers ∧ x0 = n0.incs ∧ [z0, z1, z2, z3, z4, z5, z6] = headNums n0)) := hide (fun n0 hn hp => by
            obtain ⟨hf, hpe, hh⟩ := (unhide HCP3) n0 hn hp
            have hin := in_at (pre := evTo n0 n0.evs.length) (x := [(n0.outs.length : Int)]) (rest := n0.outs.flatMap outRow) hn hp (by simp [wordNums, preI, evTo])
            rw [← hpe] at hin
            obtain ⟨e1, e2, e3⟩ := hca _ (numAt_of hin)
            refine ⟨by rw [e3]; exact hf, e1, ?_, hh⟩
            rw [e2, hpe, ← packI_one, ← List.length_append, ← packI_app]
            simp [ouTo])
          clear hRa hOa hca hn1 HM HCP3
          go_wp2_with fail
          go_loopw [7] (fun i wr => ∃ (k : Nat) (xs : List OutV) (xa : Option Addr) (xc : Nat) (pk : Nat) (fk : Bool), i = .int .i64 (cn - (k : Int)) ∧ ((k : Int) ≤ cn ∨ k = 0) ∧ xs.length ≤ k ∧ Hid (MemS w0 w wr q rw vb bs pk fk [.int .i64 z0, .int .i64 z1, .int .i64 z2, .int .i64 z3, .int .i64 z4, .int .i64 z5, .int .i64 z6] (.slice a0 x0.length c0) x0 (.slice a1 x1.length c1) x1 (.slice ea xe.length ec) xe (.slice xa xs.length xc) xs) ∧ Hid (∀ n0, WordIn n0 → packW n0 = bs → fk = false ∧ cn = n0.outs.length ∧ k ≤ n0.outs.length ∧ xs = n0.outs.take k ∧ pk = (packI (ouTo n0 k)).length ∧ (xe = n0.evs ∧ x1 = n0.vers ∧ x0 = n0.incs ∧ [z0, z1, z2, z3, z4, z5, z6] = headNums n0))) (fun i _ => (intOf i).toNat)
          case atStart => exact ⟨0, [], none, 0, pa, fa, by simp, Or.inr rfl, Nat.zero_le _, HMA, hide (fun n0 hn hp => by obtain ⟨h1, h2, h3, h4⟩ := (unhide HCA) n0 hn hp; exact ⟨h1, h2, Nat.zero_le _, rfl, h3, h4⟩)⟩
          case round =>
            obtain ⟨k, xs, xa, xc, pk, fk, rfl, hk, hxl, HM, HCK⟩ := hrel
            have k2 := (unhide HM).rd.c2
            have hcn := unhide HN1
            by_cases hpos : 0 < cn - (k : Int)
            · cases fk with
              | true =>
                have y0 : wr.cell? ⟨w.heap.size, 0, none⟩ = some (.int .i64 0) := (unhide HM).rr.cell (i := 0) (by omega)
                have yf0 : wr.frozen? ⟨w.heap.size, 0, none⟩ = false := (unhide HM).rr.frozen 0
                have y1 : wr.cell? ⟨w.heap.size, 1, none⟩ = some (.int .i64 0) := (unhide HM).rr.cell (i := 1) (by omega)
                have yf1 : wr.frozen? ⟨w.heap.size, 1, none⟩ = false := (unhide HM).rr.frozen 1
                have y2 : wr.cell? ⟨w.heap.size, 2, none⟩ = some (.int .i64 0) := (unhide HM).rr.cell (i := 2) (by omega)
                have yf2 : wr.frozen? ⟨w.heap.size, 2, none⟩ = false := (unhide HM).rr.frozen 2
                have y3 : wr.cell? ⟨w.heap.size, 3, none⟩ = some (.int .i64 0) := (unhide HM).rr.cell (i := 3) (by omega)
                have yf3 : wr.frozen? ⟨w.heap.size, 3, none⟩ = false := (unhide HM).rr.frozen 3
                have y4 : wr.cell? ⟨w.heap.size, 4, none⟩ = some (.int .i64 0) := (unhide HM).rr.cell (i := 4) (by omega)
                have yf4 : wr.frozen? ⟨w.heap.size, 4, none⟩ = false := (unhide HM).rr.frozen 4
                have y5 : wr.cell? ⟨w.heap.size, 5, none⟩ = some (.int .i64 0) := (unhide HM).rr.cell (i := 5) (by omega)
                have yf5 : wr.frozen? ⟨w.heap.size, 5, none⟩ = false := (unhide HM).rr.frozen 5
                have y6 : wr.cell? ⟨w.heap.size, 6, none⟩ = some (.int .i64 0) := (unhide HM).rr.cell (i := 6) (by omega)
                have yf6 : wr.frozen? ⟨w.heap.size, 6, none⟩ = false := (unhide HM).rr.frozen 6
                have y7 : wr.cell? ⟨w.heap.size, 7, none⟩ = some (.slice none 0 0) := (unhide HM).rr.cell (i := 7) (by omega)
                have yf7 : wr.frozen? ⟨w.heap.size, 7, none⟩ = false := (unhide HM).rr.frozen 7
                have y8 : wr.cell? ⟨w.heap.size, 8, none⟩ = some (.slice none 0 0) := (unhide HM).rr.cell (i := 8) (by omega)
                have yf8 : wr.frozen? ⟨w.heap.size, 8, none⟩ = false := (unhide HM).rr.frozen 8
                have y9 : wr.cell? ⟨w.heap.size, 9, none⟩ = some (.slice none 0 0) := (unhide HM).rr.cell (i := 9) (by omega)
                have yf9 : wr.frozen? ⟨w.heap.size, 9, none⟩ = false := (unhide HM).rr.frozen 9
                have y10 : wr.cell? ⟨w.heap.size, 10, none⟩ = some (.slice none 0 0) := (unhide HM).rr.cell (i := 10) (by omega)
                have yf10 : wr.frozen? ⟨w.heap.size, 10, none⟩ = false := (unhide HM).rr.frozen 10
                have m0 : wr.cell? ⟨rw, 0, none⟩ = some (.int .i64 z0) := (unhide HM).rwr.cell (i := 0) (by omega)
                have m1 : wr.cell? ⟨rw, 1, none⟩ = some (.int .i64 z1) := (unhide HM).rwr.cell (i := 1) (by omega)
                have m2 : wr.cell? ⟨rw, 2, none⟩ = some (.int .i64 z2) := (unhide HM).rwr.cell (i := 2) (by omega)
                have m3 : wr.cell? ⟨rw, 3, none⟩ = some (.int .i64 z3) := (unhide HM).rwr.cell (i := 3) (by omega)
                have m4 : wr.cell? ⟨rw, 4, none⟩ = some (.int .i64 z4) := (unhide HM).rwr.cell (i := 4) (by omega)
                have m5 : wr.cell? ⟨rw, 5, none⟩ = some (.int .i64 z5) := (unhide HM).rwr.cell (i := 5) (by omega)
                have m6 : wr.cell? ⟨rw, 6, none⟩ = some (.int .i64 z6) := (unhide HM).rwr.cell (i := 6) (by omega)
                have m7 : wr.cell? ⟨rw, 7, none⟩ = some (.slice a0 x0.length c0) := (unhide HM).rwr.cell (i := 7) (by omega)
                have m8 : wr.cell? ⟨rw, 8, none⟩ = some (.slice a1 x1.length c1) := (unhide HM).rwr.cell (i := 8) (by omega)
                have m9 : wr.cell? ⟨rw, 9, none⟩ = some (.slice ea xe.length ec) := (unhide HM).rwr.cell (i := 9) (by omega)
                have m10 : wr.cell? ⟨rw, 10, none⟩ = some (.slice xa xs.length xc) := (unhide HM).rwr.cell (i := 10) (by omega)
                have E1 := hide (setVals_rdS (o := 0) (unhide HM).rd (r := w.heap.size) (unhide HM).hq [.int .i64 z0, .int .i64 z1, .int .i64 z2, .int .i64 z3, .int .i64 z4, .int .i64 z5, .int .i64 z6, .slice a0 x0.length c0, .slice a1 x1.length c1, .slice ea xe.length ec, .slice xa xs.length xc])
                have E2 := hide ((unhide HM).on.then2 (only2_setVals q w.heap.size 0 wr [.int .i64 z0, .int .i64 z1, .int .i64 z2, .int .i64 z3, .int .i64 z4, .int .i64 z5, .int .i64 z6, .slice a0 x0.length c0, .slice a1 x1.length c1, .slice ea xe.length ec, .slice xa xs.length xc]) (unhide HM).hq (Nat.le_refl _))
                have hrr := (unhide HM).hr
                have EF : Hid (WordFr w.heap.size (setVals wr w.heap.size 0 [.int .i64 z0, .int .i64 z1, .int .i64 z2, .int .i64 z3, .int .i64 z4, .int .i64 z5, .int .i64 z6, .slice a0 x0.length c0, .slice a1 x1.length c1, .slice ea xe.length ec, .slice xa xs.length xc]) ⟨z0, z1, z2, z3, z4, z5, z6, x0, x1, xe, xs⟩ (.slice a0 x0.length c0) (.slice a1 x1.length c1) (.slice ea xe.length ec) (.slice xa xs.length xc)) := hide ((WordFr.setV (N := w.heap.size + 1) ⟨own_fr (unhide HM).oi (fun r hr => by obtain ⟨z, _, rfl⟩ := List.mem_map.1 hr; rfl) (by omega), own_fr (unhide HM).ov (fun r hr => by obtain ⟨z, _, rfl⟩ := List.mem_map.1 hr; rfl) (by omega), own_fr (unhide HM).oe (fun r hr => by obtain ⟨z, _, rfl⟩ := List.mem_map.1 hr; rfl) (by omega), own_fr (unhide HM).oo (fun r hr => by obtain ⟨z, _, rfl⟩ := List.mem_map.1 hr; rfl) (by omega)⟩ (r := w.heap.size) (o := 0) (Nat.lt_succ_self _) [.int .i64 z0, .int .i64 z1, .int .i64 z2, .int .i64 z3, .int .i64 z4, .int .i64 z5, .int .i64 z6, .slice a0 x0.length c0, .slice a1 x1.length c1, .slice ea xe.length ec, .slice xa xs.length xc]).less (M := w.heap.size) (Nat.le_succ _))
                go_wp2_with fail
                refine bodyPost_ret (v := wordAgg ⟨z0, z1, z2, z3, z4, z5, z6, x0, x1, xe, xs⟩ (.slice a0 x0.length c0) (.slice a1 x1.length c1) (.slice ea xe.length ec) (.slice xa xs.length xc)) (by simp [results, Tryz.results14, go_sem, y0, y1, y2, y3, y4, y5, y6, y7, y8, y9, y10]) rfl ⟨⟨z0, z1, z2, z3, z4, z5, z6, x0, x1, xe, xs⟩, _, _, _, _, pk, _, rfl, unhide EF, unhide E1, unhide E2, fun n0 hn hp => ?_⟩
                obtain ⟨h1, h2, h3, h4, h5, h6, h7, h8, h9⟩ := (unhide HCK) n0 hn hp
                cases h1

              | false =>
                go_wp2_with fail
                refine (rdNums_any w0 _ q vb bs pk false 5 (unhide HM).rd (by omega)).mono ?_
                rintro e wc ⟨vh, ys, p5, f5, rfl, hown, hRc, hOc, hy7, _, hcc⟩
                have HMC := hide ((unhide HM).only hOc hRc)
                have HCC := hide hcc
                have HY7 := hide hy7
                have HOWN := hide hown
                have HSC := hide (unhide HM).hs
                have HXL : Hid (∀ g, Value.ownBlock (.slice xa xs.length xc) = some g → rw + 1 ≤ g ∧ g < wr.heap.size) := hide ((unhide HM).oo.lt)
                have k3 := (unhide HMC).rd.c2
                clear hown hRc hOc hy7 hcc k2 HMA HCA
                cases f5 with
                | true =>
                  go_wp2_with fail
                  go_roundw
                  case rel =>
                    refine ⟨k + 1, xs, xa, xc, p5, true, by first | go_num | (congr 1; omega), Or.inl (by omega), by omega, HMC, hide (fun n0 hn hp => ?_)⟩
                    obtain ⟨h1, h2, h3, h4, h5, _⟩ := (unhide HCK) n0 hn hp
                    have hke : k < n0.outs.length := by omega
                    have hin := in_at (pre := ouTo n0 k) (x := outRow n0.outs[k]) (rest := (n0.outs.drop (k + 1)).flatMap outRow) hn hp (ouSplit n0 k hke)
                    rw [← h5] at hin
                    obtain ⟨_, _, e3⟩ := (unhide HCC) _ (by first | rfl | trivial) rfl hin
                    cases e3
                  case measure => simp [intOf]; omega
                | false =>
                  obtain ⟨y0, y1, y2, y3, y4, rfl⟩ := len5 ((unhide HY7) (by first | rfl | trivial))
                  obtain ⟨hg, hc, rfl, hch, hgB, hcells⟩ := ownsI_cells (unhide HOWN) (by simp)
                  simp only [List.length_cons, List.length_nil, Nat.zero_add, Nat.reduceAdd] at hch hcells ⊢
                  have hchI : (5 : Int) ≤ (hc : Int) := by omega
                  have h0_ := hcells 0 (by omega)
                  have h1_ := hcells 1 (by omega)
                  have h2_ := hcells 2 (by omega)
                  have h3_ := hcells 3 (by omega)
                  have h4_ := hcells 4 (by omega)
                  simp only [List.getD_cons_zero, List.getD_cons_succ, Nat.add_zero] at h0_ h1_ h2_ h3_ h4_
                  have e9 : wc.cell? ⟨rw, 10, none⟩ = some (.slice xa xs.length xc) := (unhide HMC).rwr.cell (i := 10) (by omega)
                  clear hcells
                  go_upto_region 18 with fail
                  clear k3
                  refine wp_region_last (L := 21) (S := fun w' : World => w'.cell? ⟨hg, 0, none⟩ = some (.int .i64 y0) ∧ w'.cell? ⟨hg, 1, none⟩ = some (.int .i64 y1) ∧ w'.cell? ⟨hg, 2, none⟩ = some (.int .i64 y2) ∧ w'.cell? ⟨hg, 3, none⟩ = some (.int .i64 y3) ∧ w'.cell? ⟨hg, 4, none⟩ = some (.int .i64 y4) ∧ w'.cell? ⟨rw, 10, none⟩ = some (.slice xa xs.length xc)) (by kernel_rfl) ?_
                  have hbd : Below wc.heap.size wc wc.drew := (Below.refl _ _).drew
                  have HBD := hide hbd
                  have HC := hide (show ∀ W, Below wc.heap.size wc W → (fun w' : World => w'.cell? ⟨hg, 0, none⟩ = some (.int .i64 y0) ∧ w'.cell? ⟨hg, 1, none⟩ = some (.int .i64 y1) ∧ w'.cell? ⟨hg, 2, none⟩ = some (.int .i64 y2) ∧ w'.cell? ⟨hg, 3, none⟩ = some (.int .i64 y3) ∧ w'.cell? ⟨hg, 4, none⟩ = some (.int .i64 y4) ∧ w'.cell? ⟨rw, 10, none⟩ = some (.slice xa xs.length xc)) W from fun W hW => ⟨cell_on hW h0_, cell_on hW h1_, cell_on hW h2_, cell_on hW h3_, cell_on hW h4_, cell_on hW e9⟩)
                  have HMX := hide ((unhide HMC).onB hbd)
                  clear h0_ h1_ h2_ h3_ h4_ e9 hbd
                  generalize hXd : wc.drew = X at *
                  have hHeld := (unhide HC) X (unhide HBD)
                  refine wpAnyL_take (i := 0) (v := ?_) (by kernel_rfl) rfl (by kernel_rfl) (by kernel_rfl) (by kernel_rfl) (fun _ _ _ h => h) hHeld (Or.inl ⟨by kernel_rfl, ?_⟩) ?_
                  rotate_left
                  · (intro w hSw; (try dsimp only at hSw); obtain ⟨s0, s1, s2, s3, s4, s5⟩ := hSw; go_simp; try with_reducible rfl)
                  refine wpAnyL_take (i := 1) (v := ?_) (by kernel_rfl) rfl (by kernel_rfl) (by kernel_rfl) (by kernel_rfl) (fun _ _ _ h => h) hHeld (Or.inl ⟨by kernel_rfl, ?_⟩) ?_
                  rotate_left
                  · (intro w hSw; (try dsimp only at hSw); obtain ⟨s0, s1, s2, s3, s4, s5⟩ := hSw; go_simp; try with_reducible rfl)
                  refine wpAnyL_take (i := 2) (v := ?_) (by kernel_rfl) rfl (by kernel_rfl) (by kernel_rfl) (by kernel_rfl) (fun _ _ _ h => h) hHeld (Or.inl ⟨by kernel_rfl, ?_⟩) ?_
                  rotate_left
                  · (intro w hSw; (try dsimp only at hSw); obtain ⟨s0, s1, s2, s3, s4, s5⟩ := hSw; go_simp; try with_reducible rfl)
                  refine wpAnyL_take (i := 3) (v := ?_) (by kernel_rfl) rfl (by kernel_rfl) (by kernel_rfl) (by kernel_rfl) (fun _ _ _ h => h) hHeld (Or.inl ⟨by kernel_rfl, ?_⟩) ?_
                  rotate_left
                  · (intro w hSw; (try dsimp only at hSw); obtain ⟨s0, s1, s2, s3, s4, s5⟩ := hSw; go_simp; try with_reducible rfl)
                  refine wpAnyL_take (i := 4) (v := ?_) (by kernel_rfl) rfl (by kernel_rfl) (by kernel_rfl) (by kernel_rfl) (fun _ _ _ h => h) hHeld (Or.inl ⟨by kernel_rfl, ?_⟩) ?_
                  rotate_left
                  · (intro w hSw; (try dsimp only at hSw); obtain ⟨s0, s1, s2, s3, s4, s5⟩ := hSw; go_simp; try with_reducible rfl)
                  refine wpAnyL_take (i := 5) (v := ?_) (by kernel_rfl) rfl (by kernel_rfl) (by kernel_rfl) (by kernel_rfl) (fun _ _ _ h => h) hHeld (Or.inl ⟨by kernel_rfl, ?_⟩) ?_
                  rotate_left
                  · (intro w hSw; (try dsimp only at hSw); obtain ⟨s0, s1, s2, s3, s4, s5⟩ := hSw; go_simp; try with_reducible rfl)
                  refine wpAnyL_take (i := 6) (v := ?_) (by kernel_rfl) rfl (by kernel_rfl) (by kernel_rfl) (by kernel_rfl) (fun _ _ _ h => h) hHeld (Or.inl ⟨by kernel_rfl, ?_⟩) ?_
                  rotate_left
                  · (intro w hSw; (try dsimp only at hSw); obtain ⟨s0, s1, s2, s3, s4, s5⟩ := hSw; go_simp; try with_reducible rfl)
                  refine wpAnyL_take (i := 7) (v := ?_) (by kernel_rfl) rfl (by kernel_rfl) (by kernel_rfl) (by kernel_rfl) (fun _ _ _ h => h) hHeld (Or.inl ⟨by kernel_rfl, ?_⟩) ?_
                  rotate_left
                  · (intro w hSw; (try dsimp only at hSw); obtain ⟨s0, s1, s2, s3, s4, s5⟩ := hSw; go_simp; try with_reducible rfl)
                  refine wpAnyL_take (i := 8) (v := ?_) (by kernel_rfl) rfl (by kernel_rfl) (by kernel_rfl) (by kernel_rfl) (fun _ _ _ h => h) hHeld (Or.inl ⟨by kernel_rfl, ?_⟩) ?_
                  rotate_left
                  · (intro w hSw; (try dsimp only at hSw); obtain ⟨s0, s1, s2, s3, s4, s5⟩ := hSw; go_simp; try with_reducible rfl)
                  refine wpAnyL_take (i := 9) (v := ?_) (by kernel_rfl) rfl (by kernel_rfl) (by kernel_rfl) (by kernel_rfl) (fun _ _ _ h => h) hHeld (Or.inl ⟨by kernel_rfl, ?_⟩) ?_
                  rotate_left
                  · (intro w hSw; (try dsimp only at hSw); obtain ⟨s0, s1, s2, s3, s4, s5⟩ := hSw; go_simp; try with_reducible rfl)
                  refine wpAnyL_take (i := 10) (v := ?_) (by kernel_rfl) rfl (by kernel_rfl) (by kernel_rfl) (by kernel_rfl) (fun _ _ _ h => h) hHeld (Or.inl ⟨by kernel_rfl, ?_⟩) ?_
                  rotate_left
                  · (intro w hSw; (try dsimp only at hSw); obtain ⟨s0, s1, s2, s3, s4, s5⟩ := hSw; go_simp; try with_reducible rfl)
                  refine wpAnyL_take (i := 11) (v := ?_) (by kernel_rfl) rfl (by kernel_rfl) (by kernel_rfl) (by kernel_rfl) (fun _ _ _ h => h) hHeld (Or.inl ⟨by kernel_rfl, ?_⟩) ?_
                  rotate_left
                  · (intro w hSw; (try dsimp only at hSw); obtain ⟨s0, s1, s2, s3, s4, s5⟩ := hSw; go_simp; try with_reducible rfl)
                  refine wpAnyL_take (i := 12) (v := ?_) (by kernel_rfl) rfl (by kernel_rfl) (by kernel_rfl) (by kernel_rfl) (fun _ _ _ h => h) hHeld (Or.inl ⟨by kernel_rfl, ?_⟩) ?_
                  rotate_left
                  · (intro w hSw; (try dsimp only at hSw); obtain ⟨s0, s1, s2, s3, s4, s5⟩ := hSw; go_simp; try with_reducible rfl)
                  refine wpAnyL_take (i := 13) (v := ?_) (by kernel_rfl) rfl (by kernel_rfl) (by kernel_rfl) (by kernel_rfl) (fun _ _ _ h => h) hHeld (Or.inl ⟨by kernel_rfl, ?_⟩) ?_
                  rotate_left
                  · (intro w hSw; (try dsimp only at hSw); obtain ⟨s0, s1, s2, s3, s4, s5⟩ := hSw; go_simp; try with_reducible rfl)
                  refine wpAnyL_take (i := 14) (v := ?_) (by kernel_rfl) rfl (by kernel_rfl) (by kernel_rfl) (by kernel_rfl) (fun _ _ _ h => h) hHeld (Or.inl ⟨by kernel_rfl, ?_⟩) ?_
                  rotate_left
                  · (intro w hSw; (try dsimp only at hSw); obtain ⟨s0, s1, s2, s3, s4, s5⟩ := hSw; go_simp; try with_reducible rfl)
                  refine wpAnyL_take (i := 15) (v := ?_) (by kernel_rfl) rfl (by kernel_rfl) (by kernel_rfl) (by kernel_rfl) (fun _ _ _ h => h) hHeld (Or.inl ⟨by kernel_rfl, ?_⟩) ?_
                  rotate_left
                  · (intro w hSw; (try dsimp only at hSw); obtain ⟨s0, s1, s2, s3, s4, s5⟩ := hSw; go_simp; try with_reducible rfl)
                  refine wpAnyL_take (i := 16) (v := ?_) (by kernel_rfl) rfl (by kernel_rfl) (by kernel_rfl) (by kernel_rfl) (fun _ _ _ h => h) hHeld (Or.inl ⟨by kernel_rfl, ?_⟩) ?_
                  rotate_left
                  · (intro w hSw; (try dsimp only at hSw); obtain ⟨s0, s1, s2, s3, s4, s5⟩ := hSw; go_simp; try with_reducible rfl)
                  refine wpAnyL_take (i := 17) (v := ?_) (by kernel_rfl) rfl (by kernel_rfl) (by kernel_rfl) (by kernel_rfl) (fun _ _ _ h => h) hHeld (Or.inl ⟨by kernel_rfl, ?_⟩) ?_
                  rotate_left
                  · (intro w hSw; (try dsimp only at hSw); obtain ⟨s0, s1, s2, s3, s4, s5⟩ := hSw; go_simp; try with_reducible rfl)
                  refine wpAnyL_one (i := 18) (by kernel_rfl) rfl (fun K hK => ?_)
                  go_simp
                  have hyA : Below X.heap.size X (X.alloc (.cells #[.int .i64 y0, .int .i64 y1, .int .i64 y2, .int .i64 y3, .int .i64 y4] 60)) := (Below.refl _ _).alloc (Nat.le_refl _) _
                  have hy1 : Below wc.heap.size wc (X.alloc (.cells #[.int .i64 y0, .int .i64 y1, .int .i64 y2, .int .i64 y3, .int .i64 y4] 60)) := (unhide HBD).trans (hyA.mono (unhide HBD).size)
                  refine held_on hK ((unhide HC) _ hy1) (fun hHeld => ?_)
                  clear hK K
                  obtain ⟨i7, hi7, hz0, hz1, hz2⟩ := infoOuR
                  have hownA := ownsOn hyA (unhide HMX).oo
                  have hxl2 : xs.length ≤ 2097151 := by have := unhide HN1; omega
                  have hrx := (unhide HMX).hs
                  refine wpAnyL_one (i := 19) (by kernel_rfl) rfl (fun K hK => ?_)
                  refine step_append_lies _ (by rfl) _ _ _ (by rfl) (rw + 1) 60 i7 _ 5 40 slice_OutW hi7 hz0 hz1 hz2 (by rfl) (by omega) (.slice xa xs.length xc) xs.length (flatCells (xs.map outRow)) (by rfl) hownA ⟨X.heap.size, 0, none⟩ 1 1 [.int .i64 y0, .int .i64 y1, .int .i64 y2, .int .i64 y3, .int .i64 y4] (by rfl) (by rfl) (World.news_of_block (cs := #[.int .i64 y0, .int .i64 y1, .int .i64 y2, .int .i64 y3, .int .i64 y4]) (t := 60) (fr := (0, 0)) (heap_alloc_new X _)) (by simp [Value.oneCell']) (by omega) (by unfold maxLen; omega) (by omega) (by simp; omega) (X.heap.size + 1) (by simp) ?_
                  intro gg cap wd hown4 hgrow hat hlt4
                  have HG := hide (Gr.of (n := xs.length + 1) (cap := cap) hyA hgrow hat)
                  have HNEW := hide (show wd.ownsRow (rw + 1) 60 5 (.slice (some ⟨gg, 0, none⟩) (xs.length + 1) cap) (xs ++ [⟨y0, y1, y2, y3, y4⟩] : List OutV).length (flatCells ((xs ++ [⟨y0, y1, y2, y3, y4⟩] : List OutV).map outRow)) by
                    rw [List.length_append, List.map_append]
                    have e : flatCells (xs.map outRow ++ ([⟨y0, y1, y2, y3, y4⟩] : List OutV).map outRow) = flatCells (xs.map outRow) ++ [.int .i64 y0, .int .i64 y1, .int .i64 y2, .int .i64 y3, .int .i64 y4] := by simp [flatCells, outRow]
                    rw [e]
                    exact hown4)
                  have hS : (fun w' : World => w'.cell? ⟨hg, 0, none⟩ = some (.int .i64 y0) ∧ w'.cell? ⟨hg, 1, none⟩ = some (.int .i64 y1) ∧ w'.cell? ⟨hg, 2, none⟩ = some (.int .i64 y2) ∧ w'.cell? ⟨hg, 3, none⟩ = some (.int .i64 y3) ∧ w'.cell? ⟨hg, 4, none⟩ = some (.int .i64 y4) ∧ w'.cell? ⟨rw, 10, none⟩ = some (.slice xa xs.length xc)) wd := by
                    have h0 := (unhide HC) X (unhide HBD)
                    have hgx : Value.ownBlock (.slice xa xs.length xc) ≠ some hg := fun e => by have := ((unhide HXL) hg e).2; have := (unhide HOWN).lt hg rfl; omega
                    have hrw : Value.ownBlock (.slice xa xs.length xc) ≠ some rw := fun e => by have := ((unhide HXL) rw e).1; omega
                    obtain ⟨h0, h1, h2, h3, h4, h5⟩ := h0
                    exact ⟨(unhide HG).cell h0 hgx, (unhide HG).cell h1 hgx, (unhide HG).cell h2 hgx, (unhide HG).cell h3 hgx, (unhide HG).cell h4 hgx, (unhide HG).cell h5 hrw⟩
                  have kf : wd.frozen? ⟨rw, 10, none⟩ = false := (World.frozen?_of_block ((unhide HG).g.block rw hrx (fun e => by have := ((unhide HXL) rw e.symm).1; omega))).trans ((unhide HMX).rwr.frozen 10)
                  refine held_on hK hS (fun hHeld => ?_)
                  clear hK K hown4 hgrow hat hlt4 hownA hS
                  refine wpAnyL_one (i := 20) (by kernel_rfl) rfl (fun K hK => ?_)
                  go_simp
                  refine held_on hK hHeld (fun hHeld => ?_)
                  clear hK K
                  have HM4 := hide ((unhide HMX).appo (unhide HG) (unhide HNEW))
                  have w9 := hHeld.2.2.2.2.2
                  refine wpAnyL_end (by kernel_rfl) rfl (fun K hK => ?_)
                  go_simp
                  refine hK.out _ _ ?_
                  clear hK K
                  refine wpAnyL_done (by kernel_rfl) ?_ _
                  go_wp2_with fail
                  go_roundw
                  case rel =>
                    refine ⟨k + 1, xs ++ [⟨y0, y1, y2, y3, y4⟩], some ⟨gg, 0, none⟩, cap, p5, false, by first | go_num | (congr 1; omega), Or.inl (by omega), by rw [List.length_append]; simp; omega, ?_, hide (fun n0 hn hp => ?_)⟩
                    · have e : (xs ++ [⟨y0, y1, y2, y3, y4⟩] : List OutV).length = xs.length + 1 := by simp
                      rw [e]
                      exact HM4
                    · obtain ⟨h1, h2, h3, h4, h5, h6⟩ := (unhide HCK) n0 hn hp
                      have hke : k < n0.outs.length := by omega
                      have hin := in_at (pre := ouTo n0 k) (x := outRow n0.outs[k]) (rest := (n0.outs.drop (k + 1)).flatMap outRow) hn hp (ouSplit n0 k hke)
                      rw [← h5] at hin
                      obtain ⟨e1, e2, _⟩ := (unhide HCC) _ (by first | rfl | trivial) rfl hin
                      refine ⟨by first | rfl | trivial, h2, hke, ?_, ?_, h6⟩
                      · have e7 : (⟨y0, y1, y2, y3, y4⟩ : OutV) = n0.outs[k] := Ou_inj _ _ e1
                        rw [take_more n0.outs k hke, ← h4, e7]
                      · rw [e2, h5, ouTo_more n0 k hke, packI_app, List.length_append]
                  case measure => simp [intOf]; omega
            · have hnp : cn - (k : Int) ≤ 0 := by omega
              have y0 : wr.cell? ⟨w.heap.size, 0, none⟩ = some (.int .i64 0) := (unhide HM).rr.cell (i := 0) (by omega)
              have yf0 : wr.frozen? ⟨w.heap.size, 0, none⟩ = false := (unhide HM).rr.frozen 0
              have y1 : wr.cell? ⟨w.heap.size, 1, none⟩ = some (.int .i64 0) := (unhide HM).rr.cell (i := 1) (by omega)
              have yf1 : wr.frozen? ⟨w.heap.size, 1, none⟩ = false := (unhide HM).rr.frozen 1
              have y2 : wr.cell? ⟨w.heap.size, 2, none⟩ = some (.int .i64 0) := (unhide HM).rr.cell (i := 2) (by omega)
              have yf2 : wr.frozen? ⟨w.heap.size, 2, none⟩ = false := (unhide HM).rr.frozen 2
              have y3 : wr.cell? ⟨w.heap.size, 3, none⟩ = some (.int .i64 0) := (unhide HM).rr.cell (i := 3) (by omega)
              have yf3 : wr.frozen? ⟨w.heap.size, 3, none⟩ = false := (unhide HM).rr.frozen 3
              have y4 : wr.cell? ⟨w.heap.size, 4, none⟩ = some (.int .i64 0) := (unhide HM).rr.cell (i := 4) (by omega)
              have yf4 : wr.frozen? ⟨w.heap.size, 4, none⟩ = false := (unhide HM).rr.frozen 4
              have y5 : wr.cell? ⟨w.heap.size, 5, none⟩ = some (.int .i64 0) := (unhide HM).rr.cell (i := 5) (by omega)
              have yf5 : wr.frozen? ⟨w.heap.size, 5, none⟩ = false := (unhide HM).rr.frozen 5
              have y6 : wr.cell? ⟨w.heap.size, 6, none⟩ = some (.int .i64 0) := (unhide HM).rr.cell (i := 6) (by omega)
              have yf6 : wr.frozen? ⟨w.heap.size, 6, none⟩ = false := (unhide HM).rr.frozen 6
              have y7 : wr.cell? ⟨w.heap.size, 7, none⟩ = some (.slice none 0 0) := (unhide HM).rr.cell (i := 7) (by omega)
              have yf7 : wr.frozen? ⟨w.heap.size, 7, none⟩ = false := (unhide HM).rr.frozen 7
              have y8 : wr.cell? ⟨w.heap.size, 8, none⟩ = some (.slice none 0 0) := (unhide HM).rr.cell (i := 8) (by omega)
              have yf8 : wr.frozen? ⟨w.heap.size, 8, none⟩ = false := (unhide HM).rr.frozen 8
              have y9 : wr.cell? ⟨w.heap.size, 9, none⟩ = some (.slice none 0 0) := (unhide HM).rr.cell (i := 9) (by omega)
              have yf9 : wr.frozen? ⟨w.heap.size, 9, none⟩ = false := (unhide HM).rr.frozen 9
              have y10 : wr.cell? ⟨w.heap.size, 10, none⟩ = some (.slice none 0 0) := (unhide HM).rr.cell (i := 10) (by omega)
              have yf10 : wr.frozen? ⟨w.heap.size, 10, none⟩ = false := (unhide HM).rr.frozen 10
              have m0 : wr.cell? ⟨rw, 0, none⟩ = some (.int .i64 z0) := (unhide HM).rwr.cell (i := 0) (by omega)
              have m1 : wr.cell? ⟨rw, 1, none⟩ = some (.int .i64 z1) := (unhide HM).rwr.cell (i := 1) (by omega)
              have m2 : wr.cell? ⟨rw, 2, none⟩ = some (.int .i64 z2) := (unhide HM).rwr.cell (i := 2) (by omega)
              have m3 : wr.cell? ⟨rw, 3, none⟩ = some (.int .i64 z3) := (unhide HM).rwr.cell (i := 3) (by omega)
              have m4 : wr.cell? ⟨rw, 4, none⟩ = some (.int .i64 z4) := (unhide HM).rwr.cell (i := 4) (by omega)
              have m5 : wr.cell? ⟨rw, 5, none⟩ = some (.int .i64 z5) := (unhide HM).rwr.cell (i := 5) (by omega)
              have m6 : wr.cell? ⟨rw, 6, none⟩ = some (.int .i64 z6) := (unhide HM).rwr.cell (i := 6) (by omega)
              have m7 : wr.cell? ⟨rw, 7, none⟩ = some (.slice a0 x0.length c0) := (unhide HM).rwr.cell (i := 7) (by omega)
              have m8 : wr.cell? ⟨rw, 8, none⟩ = some (.slice a1 x1.length c1) := (unhide HM).rwr.cell (i := 8) (by omega)
              have m9 : wr.cell? ⟨rw, 9, none⟩ = some (.slice ea xe.length ec) := (unhide HM).rwr.cell (i := 9) (by omega)
              have m10 : wr.cell? ⟨rw, 10, none⟩ = some (.slice xa xs.length xc) := (unhide HM).rwr.cell (i := 10) (by omega)
              have E1 := hide (setVals_rdS (o := 0) (unhide HM).rd (r := w.heap.size) (unhide HM).hq [.int .i64 z0, .int .i64 z1, .int .i64 z2, .int .i64 z3, .int .i64 z4, .int .i64 z5, .int .i64 z6, .slice a0 x0.length c0, .slice a1 x1.length c1, .slice ea xe.length ec, .slice xa xs.length xc])
              have E2 := hide ((unhide HM).on.then2 (only2_setVals q w.heap.size 0 wr [.int .i64 z0, .int .i64 z1, .int .i64 z2, .int .i64 z3, .int .i64 z4, .int .i64 z5, .int .i64 z6, .slice a0 x0.length c0, .slice a1 x1.length c1, .slice ea xe.length ec, .slice xa xs.length xc]) (unhide HM).hq (Nat.le_refl _))
              have hrr := (unhide HM).hr
              have EF : Hid (WordFr w.heap.size (setVals wr w.heap.size 0 [.int .i64 z0, .int .i64 z1, .int .i64 z2, .int .i64 z3, .int .i64 z4, .int .i64 z5, .int .i64 z6, .slice a0 x0.length c0, .slice a1 x1.length c1, .slice ea xe.length ec, .slice xa xs.length xc]) ⟨z0, z1, z2, z3, z4, z5, z6, x0, x1, xe, xs⟩ (.slice a0 x0.length c0) (.slice a1 x1.length c1) (.slice ea xe.length ec) (.slice xa xs.length xc)) := hide ((WordFr.setV (N := w.heap.size + 1) ⟨own_fr (unhide HM).oi (fun r hr => by obtain ⟨z, _, rfl⟩ := List.mem_map.1 hr; rfl) (by omega), own_fr (unhide HM).ov (fun r hr => by obtain ⟨z, _, rfl⟩ := List.mem_map.1 hr; rfl) (by omega), own_fr (unhide HM).oe (fun r hr => by obtain ⟨z, _, rfl⟩ := List.mem_map.1 hr; rfl) (by omega), own_fr (unhide HM).oo (fun r hr => by obtain ⟨z, _, rfl⟩ := List.mem_map.1 hr; rfl) (by omega)⟩ (r := w.heap.size) (o := 0) (Nat.lt_succ_self _) [.int .i64 z0, .int .i64 z1, .int .i64 z2, .int .i64 z3, .int .i64 z4, .int .i64 z5, .int .i64 z6, .slice a0 x0.length c0, .slice a1 x1.length c1, .slice ea xe.length ec, .slice xa xs.length xc]).less (M := w.heap.size) (Nat.le_succ _))
              go_wp2_with fail
              refine bodyPost_ret (v := wordAgg ⟨z0, z1, z2, z3, z4, z5, z6, x0, x1, xe, xs⟩ (.slice a0 x0.length c0) (.slice a1 x1.length c1) (.slice ea xe.length ec) (.slice xa xs.length xc)) (by simp [results, Tryz.results14, go_sem, y0, y1, y2, y3, y4, y5, y6, y7, y8, y9, y10]) rfl ⟨⟨z0, z1, z2, z3, z4, z5, z6, x0, x1, xe, xs⟩, _, _, _, _, pk, _, rfl, unhide EF, unhide E1, unhide E2, fun n0 hn hp => ?_⟩
              obtain ⟨h1, h2, h3, h4, h5, h6, h7, h8, h9⟩ := (unhide HCK) n0 hn hp
              have hke : k = n0.outs.length := by omega
              rw [hke, List.take_length] at h4
              refine ⟨?_, h1⟩
              obtain ⟨k', fr', ds', ic', vr', rd', g', is', vs', es', os'⟩ := n0
              simp only [headNums, List.cons.injEq, and_true] at h4 h6 h7 h8 h9
              obtain ⟨r0, r1, r2, r3, r4, r5, r6⟩ := h9
              subst r0 r1 r2 r3 r4 r5 r6 h4 h6 h7 h8
              rfl


        | false =>
          go_wp2_with fail
          refine (rdNums_any w0 _ q vb bs pk false 7 (unhide HM).rd (by omega)).mono ?_
          rintro e wc ⟨vh, ys, p5, f5, rfl, hown, hRc, hOc, hy7, _, hcc⟩
          have HMC := hide ((unhide HM).only hOc hRc)
          have HCC := hide hcc
          have HY7 := hide hy7
          have HOWN := hide hown
          have HSC := hide (unhide HM).hs
          have HXL : Hid (∀ g, Value.ownBlock (.slice xa xs.length xc) = some g → rw + 1 ≤ g ∧ g < wr.heap.size) := hide ((unhide HM).oe.lt)
          have k3 := (unhide HMC).rd.c2
          clear hown hRc hOc hy7 hcc k2 HMA HCA
          cases f5 with
          | true =>
            go_wp2_with fail
            go_roundw
            case rel =>
              refine ⟨k + 1, xs, xa, xc, p5, true, by first | go_num | (congr 1; omega), Or.inl (by omega), by omega, HMC, hide (fun n0 hn hp => ?_)⟩
              obtain ⟨h1, h2, h3, h4, h5, _⟩ := (unhide HCK) n0 hn hp
              have hke : k < n0.evs.length := by omega
              have hin := in_at (pre := evTo n0 k) (x := evRow n0.evs[k]) (rest := (n0.evs.drop (k + 1)).flatMap evRow ++ ((n0.outs.length : Int) :: n0.outs.flatMap outRow)) hn hp (evSplit n0 k hke)
              rw [← h5] at hin
              obtain ⟨_, _, e3⟩ := (unhide HCC) _ (by first | rfl | trivial) rfl hin
              cases e3
            case measure => simp [intOf]; omega
          | false =>
            obtain ⟨y0, y1, y2, y3, y4, y5, y6, rfl⟩ := len7 ((unhide HY7) (by first | rfl | trivial))
            obtain ⟨hg, hc, rfl, hch, hgB, hcells⟩ := ownsI_cells (unhide HOWN) (by simp)
            simp only [List.length_cons, List.length_nil, Nat.zero_add, Nat.reduceAdd] at hch hcells ⊢
            have hchI : (7 : Int) ≤ (hc : Int) := by omega
            have h0_ := hcells 0 (by omega)
            have h1_ := hcells 1 (by omega)
            have h2_ := hcells 2 (by omega)
            have h3_ := hcells 3 (by omega)
            have h4_ := hcells 4 (by omega)
            have h5_ := hcells 5 (by omega)
            have h6_ := hcells 6 (by omega)
            simp only [List.getD_cons_zero, List.getD_cons_succ, Nat.add_zero] at h0_ h1_ h2_ h3_ h4_ h5_ h6_
            have e9 : wc.cell? ⟨rw, 9, none⟩ = some (.slice xa xs.length xc) := (unhide HMC).rwr.cell (i := 9) (by omega)
            clear hcells
            go_upto_region 12 with fail
            clear k3
            refine wp_region_last (L := 27) (S := fun w' : World => w'.cell? ⟨hg, 0, none⟩ = some (.int .i64 y0) ∧ w'.cell? ⟨hg, 1, none⟩ = some (.int .i64 y1) ∧ w'.cell? ⟨hg, 2, none⟩ = some (.int .i64 y2) ∧ w'.cell? ⟨hg, 3, none⟩ = some (.int .i64 y3) ∧ w'.cell? ⟨hg, 4, none⟩ = some (.int .i64 y4) ∧ w'.cell? ⟨hg, 5, none⟩ = some (.int .i64 y5) ∧ w'.cell? ⟨hg, 6, none⟩ = some (.int .i64 y6) ∧ w'.cell? ⟨rw, 9, none⟩ = some (.slice xa xs.length xc)) (by kernel_rfl) ?_
            have hbd : Below wc.heap.size wc wc.drew := (Below.refl _ _).drew
            have HBD := hide hbd
            have HC := hide (show ∀ W, Below wc.heap.size wc W → (fun w' : World => w'.cell? ⟨hg, 0, none⟩ = some (.int .i64 y0) ∧ w'.cell? ⟨hg, 1, none⟩ = some (.int .i64 y1) ∧ w'.cell? ⟨hg, 2, none⟩ = some (.int .i64 y2) ∧ w'.cell? ⟨hg, 3, none⟩ = some (.int .i64 y3) ∧ w'.cell? ⟨hg, 4, none⟩ = some (.int .i64 y4) ∧ w'.cell? ⟨hg, 5, none⟩ = some (.int .i64 y5) ∧ w'.cell? ⟨hg, 6, none⟩ = some (.int .i64 y6) ∧ w'.cell? ⟨rw, 9, none⟩ = some (.slice xa xs.length xc)) W from fun W hW => ⟨cell_on hW h0_, cell_on hW h1_, cell_on hW h2_, cell_on hW h3_, cell_on hW h4_, cell_on hW h5_, cell_on hW h6_, cell_on hW e9⟩)
            have HMX := hide ((unhide HMC).onB hbd)
            clear h0_ h1_ h2_ h3_ h4_ h5_ h6_ e9 hbd
            generalize hXd : wc.drew = X at *
            have hHeld := (unhide HC) X (unhide HBD)
            refine wpAnyL_take (i := 0) (v := ?_) (by kernel_rfl) rfl (by kernel_rfl) (by kernel_rfl) (by kernel_rfl) (fun _ _ _ h => h) hHeld (Or.inl ⟨by kernel_rfl, ?_⟩) ?_
            rotate_left
            · (intro w hSw; (try dsimp only at hSw); obtain ⟨s0, s1, s2, s3, s4, s5, s6, s7⟩ := hSw; go_simp; try with_reducible rfl)
            refine wpAnyL_take (i := 1) (v := ?_) (by kernel_rfl) rfl (by kernel_rfl) (by kernel_rfl) (by kernel_rfl) (fun _ _ _ h => h) hHeld (Or.inl ⟨by kernel_rfl, ?_⟩) ?_
            rotate_left
            · (intro w hSw; (try dsimp only at hSw); obtain ⟨s0, s1, s2, s3, s4, s5, s6, s7⟩ := hSw; go_simp; try with_reducible rfl)
            refine wpAnyL_take (i := 2) (v := ?_) (by kernel_rfl) rfl (by kernel_rfl) (by kernel_rfl) (by kernel_rfl) (fun _ _ _ h => h) hHeld (Or.inl ⟨by kernel_rfl, ?_⟩) ?_
            rotate_left
            · (intro w hSw; (try dsimp only at hSw); obtain ⟨s0, s1, s2, s3, s4, s5, s6, s7⟩ := hSw; go_simp; try with_reducible rfl)
            refine wpAnyL_take (i := 3) (v := ?_) (by kernel_rfl) rfl (by kernel_rfl) (by kernel_rfl) (by kernel_rfl) (fun _ _ _ h => h) hHeld (Or.inl ⟨by kernel_rfl, ?_⟩) ?_
            rotate_left
            · (intro w hSw; (try dsimp only at hSw); obtain ⟨s0, s1, s2, s3, s4, s5, s6, s7⟩ := hSw; go_simp; try with_reducible rfl)
            refine wpAnyL_take (i := 4) (v := ?_) (by kernel_rfl) rfl (by kernel_rfl) (by kernel_rfl) (by kernel_rfl) (fun _ _ _ h => h) hHeld (Or.inl ⟨by kernel_rfl, ?_⟩) ?_
            rotate_left
            · (intro w hSw; (try dsimp only at hSw); obtain ⟨s0, s1, s2, s3, s4, s5, s6, s7⟩ := hSw; go_simp; try with_reducible rfl)
            refine wpAnyL_take (i := 5) (v := ?_) (by kernel_rfl) rfl (by kernel_rfl) (by kernel_rfl) (by kernel_rfl) (fun _ _ _ h => h) hHeld (Or.inl ⟨by kernel_rfl, ?_⟩) ?_
            rotate_left
            · (intro w hSw; (try dsimp only at hSw); obtain ⟨s0, s1, s2, s3, s4, s5, s6, s7⟩ := hSw; go_simp; try with_reducible rfl)
            refine wpAnyL_take (i := 6) (v := ?_) (by kernel_rfl) rfl (by kernel_rfl) (by kernel_rfl) (by kernel_rfl) (fun _ _ _ h => h) hHeld (Or.inl ⟨by kernel_rfl, ?_⟩) ?_
            rotate_left
            · (intro w hSw; (try dsimp only at hSw); obtain ⟨s0, s1, s2, s3, s4, s5, s6, s7⟩ := hSw; go_simp; try with_reducible rfl)
            refine wpAnyL_take (i := 7) (v := ?_) (by kernel_rfl) rfl (by kernel_rfl) (by kernel_rfl) (by kernel_rfl) (fun _ _ _ h => h) hHeld (Or.inl ⟨by kernel_rfl, ?_⟩) ?_
            rotate_left
            · (intro w hSw; (try dsimp only at hSw); obtain ⟨s0, s1, s2, s3, s4, s5, s6, s7⟩ := hSw; go_simp; try with_reducible rfl)
            refine wpAnyL_take (i := 8) (v := ?_) (by kernel_rfl) rfl (by kernel_rfl) (by kernel_rfl) (by kernel_rfl) (fun _ _ _ h => h) hHeld (Or.inl ⟨by kernel_rfl, ?_⟩) ?_
            rotate_left
            · (intro w hSw; (try dsimp only at hSw); obtain ⟨s0, s1, s2, s3, s4, s5, s6, s7⟩ := hSw; go_simp; try with_reducible rfl)
            refine wpAnyL_take (i := 9) (v := ?_) (by kernel_rfl) rfl (by kernel_rfl) (by kernel_rfl) (by kernel_rfl) (fun _ _ _ h => h) hHeld (Or.inl ⟨by kernel_rfl, ?_⟩) ?_
            rotate_left
            · (intro w hSw; (try dsimp only at hSw); obtain ⟨s0, s1, s2, s3, s4, s5, s6, s7⟩ := hSw; go_simp; try with_reducible rfl)
            refine wpAnyL_take (i := 10) (v := ?_) (by kernel_rfl) rfl (by kernel_rfl) (by kernel_rfl) (by kernel_rfl) (fun _ _ _ h => h) hHeld (Or.inl ⟨by kernel_rfl, ?_⟩) ?_
            rotate_left
            · (intro w hSw; (try dsimp only at hSw); obtain ⟨s0, s1, s2, s3, s4, s5, s6, s7⟩ := hSw; go_simp; try with_reducible rfl)
            refine wpAnyL_take (i := 11) (v := ?_) (by kernel_rfl) rfl (by kernel_rfl) (by kernel_rfl) (by kernel_rfl) (fun _ _ _ h => h) hHeld (Or.inl ⟨by kernel_rfl, ?_⟩) ?_
            rotate_left
            · (intro w hSw; (try dsimp only at hSw); obtain ⟨s0, s1, s2, s3, s4, s5, s6, s7⟩ := hSw; go_simp; try with_reducible rfl)
            refine wpAnyL_take (i := 12) (v := ?_) (by kernel_rfl) rfl (by kernel_rfl) (by kernel_rfl) (by kernel_rfl) (fun _ _ _ h => h) hHeld (Or.inl ⟨by kernel_rfl, ?_⟩) ?_
            rotate_left
            · (intro w hSw; (try dsimp only at hSw); obtain ⟨s0, s1, s2, s3, s4, s5, s6, s7⟩ := hSw; go_simp; try with_reducible rfl)
            refine wpAnyL_take (i := 13) (v := ?_) (by kernel_rfl) rfl (by kernel_rfl) (by kernel_rfl) (by kernel_rfl) (fun _ _ _ h => h) hHeld (Or.inl ⟨by kernel_rfl, ?_⟩) ?_
            rotate_left
            · (intro w hSw; (try dsimp only at hSw); obtain ⟨s0, s1, s2, s3, s4, s5, s6, s7⟩ := hSw; go_simp; try with_reducible rfl)
            refine wpAnyL_take (i := 14) (v := ?_) (by kernel_rfl) rfl (by kernel_rfl) (by kernel_rfl) (by kernel_rfl) (fun _ _ _ h => h) hHeld (Or.inl ⟨by kernel_rfl, ?_⟩) ?_
            rotate_left
            · (intro w hSw; (try dsimp only at hSw); obtain ⟨s0, s1, s2, s3, s4, s5, s6, s7⟩ := hSw; go_simp; try with_reducible rfl)
            refine wpAnyL_take (i := 15) (v := ?_) (by kernel_rfl) rfl (by kernel_rfl) (by kernel_rfl) (by kernel_rfl) (fun _ _ _ h => h) hHeld (Or.inl ⟨by kernel_rfl, ?_⟩) ?_
            rotate_left
            · (intro w hSw; (try dsimp only at hSw); obtain ⟨s0, s1, s2, s3, s4, s5, s6, s7⟩ := hSw; go_simp; try with_reducible rfl)
            refine wpAnyL_take (i := 16) (v := ?_) (by kernel_rfl) rfl (by kernel_rfl) (by kernel_rfl) (by kernel_rfl) (fun _ _ _ h => h) hHeld (Or.inl ⟨by kernel_rfl, ?_⟩) ?_
            rotate_left
            · (intro w hSw; (try dsimp only at hSw); obtain ⟨s0, s1, s2, s3, s4, s5, s6, s7⟩ := hSw; go_simp; try with_reducible rfl)
            refine wpAnyL_take (i := 17) (v := ?_) (by kernel_rfl) rfl (by kernel_rfl) (by kernel_rfl) (by kernel_rfl) (fun _ _ _ h => h) hHeld (Or.inl ⟨by kernel_rfl, ?_⟩) ?_
            rotate_left
            · (intro w hSw; (try dsimp only at hSw); obtain ⟨s0, s1, s2, s3, s4, s5, s6, s7⟩ := hSw; go_simp; try with_reducible rfl)
            refine wpAnyL_take (i := 18) (v := ?_) (by kernel_rfl) rfl (by kernel_rfl) (by kernel_rfl) (by kernel_rfl) (fun _ _ _ h => h) hHeld (Or.inl ⟨by kernel_rfl, ?_⟩) ?_
            rotate_left
            · (intro w hSw; (try dsimp only at hSw); obtain ⟨s0, s1, s2, s3, s4, s5, s6, s7⟩ := hSw; go_simp; try with_reducible rfl)
            refine wpAnyL_take (i := 19) (v := ?_) (by kernel_rfl) rfl (by kernel_rfl) (by kernel_rfl) (by kernel_rfl) (fun _ _ _ h => h) hHeld (Or.inl ⟨by kernel_rfl, ?_⟩) ?_
            rotate_left
            · (intro w hSw; (try dsimp only at hSw); obtain ⟨s0, s1, s2, s3, s4, s5, s6, s7⟩ := hSw; go_simp; try with_reducible rfl)
            refine wpAnyL_take (i := 20) (v := ?_) (by kernel_rfl) rfl (by kernel_rfl) (by kernel_rfl) (by kernel_rfl) (fun _ _ _ h => h) hHeld (Or.inl ⟨by kernel_rfl, ?_⟩) ?_
            rotate_left
            · (intro w hSw; (try dsimp only at hSw); obtain ⟨s0, s1, s2, s3, s4, s5, s6, s7⟩ := hSw; go_simp; try with_reducible rfl)
            refine wpAnyL_take (i := 21) (v := ?_) (by kernel_rfl) rfl (by kernel_rfl) (by kernel_rfl) (by kernel_rfl) (fun _ _ _ h => h) hHeld (Or.inl ⟨by kernel_rfl, ?_⟩) ?_
            rotate_left
            · (intro w hSw; (try dsimp only at hSw); obtain ⟨s0, s1, s2, s3, s4, s5, s6, s7⟩ := hSw; go_simp; try with_reducible rfl)
            refine wpAnyL_take (i := 22) (v := ?_) (by kernel_rfl) rfl (by kernel_rfl) (by kernel_rfl) (by kernel_rfl) (fun _ _ _ h => h) hHeld (Or.inl ⟨by kernel_rfl, ?_⟩) ?_
            rotate_left
            · (intro w hSw; (try dsimp only at hSw); obtain ⟨s0, s1, s2, s3, s4, s5, s6, s7⟩ := hSw; go_simp; try with_reducible rfl)
            refine wpAnyL_take (i := 23) (v := ?_) (by kernel_rfl) rfl (by kernel_rfl) (by kernel_rfl) (by kernel_rfl) (fun _ _ _ h => h) hHeld (Or.inl ⟨by kernel_rfl, ?_⟩) ?_
            rotate_left
            · (intro w hSw; (try dsimp only at hSw); obtain ⟨s0, s1, s2, s3, s4, s5, s6, s7⟩ := hSw; go_simp; try with_reducible rfl)
            refine wpAnyL_one (i := 24) (by kernel_rfl) rfl (fun K hK => ?_)
            go_simp
            have hyA : Below X.heap.size X (X.alloc (.cells #[.int .i64 y0, .int .i64 y1, .int .i64 y2, .int .i64 y3, .int .i64 y4, .int .i64 y5, .int .i64 y6] 56)) := (Below.refl _ _).alloc (Nat.le_refl _) _
            have hy1 : Below wc.heap.size wc (X.alloc (.cells #[.int .i64 y0, .int .i64 y1, .int .i64 y2, .int .i64 y3, .int .i64 y4, .int .i64 y5, .int .i64 y6] 56)) := (unhide HBD).trans (hyA.mono (unhide HBD).size)
            refine held_on hK ((unhide HC) _ hy1) (fun hHeld => ?_)
            clear hK K
            obtain ⟨i7, hi7, hz0, hz1, hz2⟩ := infoEvR
            have hownA := ownsOn hyA (unhide HMX).oe
            have hxl2 : xs.length ≤ 2097151 := by have := unhide HN1; omega
            have hrx := (unhide HMX).hs
            refine wpAnyL_one (i := 25) (by kernel_rfl) rfl (fun K hK => ?_)
            refine step_append_lies _ (by rfl) _ _ _ (by rfl) (rw + 1) 56 i7 _ 7 56 slice_EvR hi7 hz0 hz1 hz2 (by rfl) (by omega) (.slice xa xs.length xc) xs.length (flatCells (xs.map evRow)) (by rfl) hownA ⟨X.heap.size, 0, none⟩ 1 1 [.int .i64 y0, .int .i64 y1, .int .i64 y2, .int .i64 y3, .int .i64 y4, .int .i64 y5, .int .i64 y6] (by rfl) (by rfl) (World.news_of_block (cs := #[.int .i64 y0, .int .i64 y1, .int .i64 y2, .int .i64 y3, .int .i64 y4, .int .i64 y5, .int .i64 y6]) (t := 56) (fr := (0, 0)) (heap_alloc_new X _)) (by simp [Value.oneCell']) (by omega) (by unfold maxLen; omega) (by omega) (by simp; omega) (X.heap.size + 1) (by simp) ?_
            intro gg cap wd hown4 hgrow hat hlt4
            have HG := hide (Gr.of (n := xs.length + 1) (cap := cap) hyA hgrow hat)
            have HNEW := hide (show wd.ownsRow (rw + 1) 56 7 (.slice (some ⟨gg, 0, none⟩) (xs.length + 1) cap) (xs ++ [⟨y0, y1, y2, y3, y4, y5, y6⟩] : List EvV).length (flatCells ((xs ++ [⟨y0, y1, y2, y3, y4, y5, y6⟩] : List EvV).map evRow)) by
              rw [List.length_append, List.map_append]
              have e : flatCells (xs.map evRow ++ ([⟨y0, y1, y2, y3, y4, y5, y6⟩] : List EvV).map evRow) = flatCells (xs.map evRow) ++ [.int .i64 y0, .int .i64 y1, .int .i64 y2, .int .i64 y3, .int .i64 y4, .int .i64 y5, .int .i64 y6] := by simp [flatCells, evRow]
              rw [e]
              exact hown4)
            have hS : (fun w' : World => w'.cell? ⟨hg, 0, none⟩ = some (.int .i64 y0) ∧ w'.cell? ⟨hg, 1, none⟩ = some (.int .i64 y1) ∧ w'.cell? ⟨hg, 2, none⟩ = some (.int .i64 y2) ∧ w'.cell? ⟨hg, 3, none⟩ = some (.int .i64 y3) ∧ w'.cell? ⟨hg, 4, none⟩ = some (.int .i64 y4) ∧ w'.cell? ⟨hg, 5, none⟩ = some (.int .i64 y5) ∧ w'.cell? ⟨hg, 6, none⟩ = some (.int .i64 y6) ∧ w'.cell? ⟨rw, 9, none⟩ = some (.slice xa xs.length xc)) wd := by
              have h0 := (unhide HC) X (unhide HBD)
              have hgx : Value.ownBlock (.slice xa xs.length xc) ≠ some hg := fun e => by have := ((unhide HXL) hg e).2; have := (unhide HOWN).lt hg rfl; omega
              have hrw : Value.ownBlock (.slice xa xs.length xc) ≠ some rw := fun e => by have := ((unhide HXL) rw e).1; omega
              obtain ⟨h0, h1, h2, h3, h4, h5, h6, h7⟩ := h0
              exact ⟨(unhide HG).cell h0 hgx, (unhide HG).cell h1 hgx, (unhide HG).cell h2 hgx, (unhide HG).cell h3 hgx, (unhide HG).cell h4 hgx, (unhide HG).cell h5 hgx, (unhide HG).cell h6 hgx, (unhide HG).cell h7 hrw⟩
            have kf : wd.frozen? ⟨rw, 9, none⟩ = false := (World.frozen?_of_block ((unhide HG).g.block rw hrx (fun e => by have := ((unhide HXL) rw e.symm).1; omega))).trans ((unhide HMX).rwr.frozen 9)
            refine held_on hK hS (fun hHeld => ?_)
            clear hK K hown4 hgrow hat hlt4 hownA hS
            refine wpAnyL_one (i := 26) (by kernel_rfl) rfl (fun K hK => ?_)
            go_simp
            refine held_on hK hHeld (fun hHeld => ?_)
            clear hK K
            have HM4 := hide ((unhide HMX).appe (unhide HG) (unhide HNEW))
            have w9 := hHeld.2.2.2.2.2.2.2
            refine wpAnyL_end (by kernel_rfl) rfl (fun K hK => ?_)
            go_simp
            refine hK.out _ _ ?_
            clear hK K
            refine wpAnyL_done (by kernel_rfl) ?_ _
            go_wp2_with fail
            go_roundw
            case rel =>
              refine ⟨k + 1, xs ++ [⟨y0, y1, y2, y3, y4, y5, y6⟩], some ⟨gg, 0, none⟩, cap, p5, false, by first | go_num | (congr 1; omega), Or.inl (by omega), by rw [List.length_append]; simp; omega, ?_, hide (fun n0 hn hp => ?_)⟩
              · have e : (xs ++ [⟨y0, y1, y2, y3, y4, y5, y6⟩] : List EvV).length = xs.length + 1 := by simp
                rw [e]
                exact HM4
              · obtain ⟨h1, h2, h3, h4, h5, h6⟩ := (unhide HCK) n0 hn hp
                have hke : k < n0.evs.length := by omega
                have hin := in_at (pre := evTo n0 k) (x := evRow n0.evs[k]) (rest := (n0.evs.drop (k + 1)).flatMap evRow ++ ((n0.outs.length : Int) :: n0.outs.flatMap outRow)) hn hp (evSplit n0 k hke)
                rw [← h5] at hin
                obtain ⟨e1, e2, _⟩ := (unhide HCC) _ (by first | rfl | trivial) rfl hin
                refine ⟨by first | rfl | trivial, h2, hke, ?_, ?_, h6⟩
                · have e7 : (⟨y0, y1, y2, y3, y4, y5, y6⟩ : EvV) = n0.evs[k] := Ev_inj _ _ e1
                  rw [take_more n0.evs k hke, ← h4, e7]
                · rw [e2, h5, evTo_more n0 k hke, packI_app, List.length_append]
            case measure => simp [intOf]; omega
      · have hnp : cn - (k : Int) ≤ 0 := by omega
        go_wp2_with fail
        have HCP3 : Hid (∀ n0, WordIn n0 → packW n0 = bs → fk = false ∧ pk = (packI (evTo n0 n0.evs.length)).length ∧ (xs = n0.evs ∧ x1 = n0.vers ∧ x0 = n0.incs ∧ [z0, z1, z2, z3, z4, z5, z6] = headNums n0)) := hide (fun n0 hn hp => by
          obtain ⟨h1, h2, h3, h4, h5, h6⟩ := (unhide HCK) n0 hn hp
          have hke : k = n0.evs.length := by omega
          rw [hke] at h4 h5
          rw [List.take_length] at h4
          exact ⟨h1, h5, h4, h6⟩)
        clear HCK hpos hk hxl HN1 hcn k2
        clear HMA HCA hnp
        obtain ⟨xe, hxe⟩ : ∃ xe, xe = xs := ⟨_, rfl⟩
        rw [← hxe] at HM HCP3
        obtain ⟨ea, hea⟩ : ∃ ea, ea = xa := ⟨_, rfl⟩
        obtain ⟨ec, hec⟩ : ∃ ec, ec = xc := ⟨_, rfl⟩
        rw [← hea, ← hec] at HM
        clear hxe hea hec
        refine (rdNum_any w0 _ q vb bs pk fk (unhide HM).rd).mono ?_
        rintro e wa ⟨cn, pa, fa, rfl, hRa, hOa, _, hn1, _, _, hca⟩
        have HMA := hide ((unhide HM).only hOa hRa)
        have HN1 := hide hn1
        have HCA : Hid (∀ n0, WordIn n0 → packW n0 = bs → fa = false ∧ cn = n0.outs.length ∧ pa = (packI (ouTo n0 0)).length ∧ (xe = n0.evs ∧ x1 = n0.vers ∧ x0 = n0.incs ∧ [z0, z1, z2, z3, z4, z5, z6] = headNums n0)) := hide (fun n0 hn hp => by
          obtain ⟨hf, hpe, hh⟩ := (unhide HCP3) n0 hn hp
          have hin := in_at (pre := evTo n0 n0.evs.length) (x := [(n0.outs.length : Int)]) (rest := n0.outs.flatMap outRow) hn hp (by simp [wordNums, preI, evTo])
          rw [← hpe] at hin
          obtain ⟨e1, e2, e3⟩ := hca _ (numAt_of hin)
          refine ⟨by rw [e3]; exact hf, e1, ?_, hh⟩
          rw [e2, hpe, ← packI_one, ← List.length_append, ← packI_app]
          simp [ouTo])
        clear hRa hOa hca hn1 HM HCP3
        go_wp2_with fail
        go_loopw [7] (fun i wr => ∃ (k : Nat) (xs : List OutV) (xa : Option Addr) (xc : Nat) (pk : Nat) (fk : Bool), i = .int .i64 (cn - (k : Int)) ∧ ((k : Int) ≤ cn ∨ k = 0) ∧ xs.length ≤ k ∧ Hid (MemS w0 w wr q rw vb bs pk fk [.int .i64 z0, .int .i64 z1, .int .i64 z2, .int .i64 z3, .int .i64 z4, .int .i64 z5, .int .i64 z6] (.slice a0 x0.length c0) x0 (.slice a1 x1.length c1) x1 (.slice ea xe.length ec) xe (.slice xa xs.length xc) xs) ∧ Hid (∀ n0, WordIn n0 → packW n0 = bs → fk = false ∧ cn = n0.outs.length ∧ k ≤ n0.outs.length ∧ xs = n0.outs.take k ∧ pk = (packI (ouTo n0 k)).length ∧ (xe = n0.evs ∧ x1 = n0.vers ∧ x0 = n0.incs ∧ [z0, z1, z2, z3, z4, z5, z6] = headNums n0))) (fun i _ => (intOf i).toNat)
        case atStart => exact ⟨0, [], none, 0, pa, fa, by simp, Or.inr rfl, Nat.zero_le _, HMA, hide (fun n0 hn hp => by obtain ⟨h1, h2, h3, h4⟩ := (unhide HCA) n0 hn hp; exact ⟨h1, h2, Nat.zero_le _, rfl, h3, h4⟩)⟩
        case round =>
          obtain ⟨k, xs, xa, xc, pk, fk, rfl, hk, hxl, HM, HCK⟩ := hrel
          have k2 := (unhide HM).rd.c2
          have hcn := unhide HN1
          by_cases hpos : 0 < cn - (k : Int)
          · cases fk with
            | true =>
              have y0 : wr.cell? ⟨w.heap.size, 0, none⟩ = some (.int .i64 0) := (unhide HM).rr.cell (i := 0) (by omega)
              have yf0 : wr.frozen? ⟨w.heap.size, 0, none⟩ = false := (unhide HM).rr.frozen 0
              have y1 : wr.cell? ⟨w.heap.size, 1, none⟩ = some (.int .i64 0) := (unhide HM).rr.cell (i := 1) (by omega)
              have yf1 : wr.frozen? ⟨w.heap.size, 1, none⟩ = false := (unhide HM).rr.frozen 1
              have y2 : wr.cell? ⟨w.heap.size, 2, none⟩ = some (.int .i64 0) := (unhide HM).rr.cell (i := 2) (by omega)
              have yf2 : wr.frozen? ⟨w.heap.size, 2, none⟩ = false := (unhide HM).rr.frozen 2
              have y3 : wr.cell? ⟨w.heap.size, 3, none⟩ = some (.int .i64 0) := (unhide HM).rr.cell (i := 3) (by omega)
              have yf3 : wr.frozen? ⟨w.heap.size, 3, none⟩ = false := (unhide HM).rr.frozen 3
              have y4 : wr.cell? ⟨w.heap.size, 4, none⟩ = some (.int .i64 0) := (unhide HM).rr.cell (i := 4) (by omega)
              have yf4 : wr.frozen? ⟨w.heap.size, 4, none⟩ = false := (unhide HM).rr.frozen 4
              have y5 : wr.cell? ⟨w.heap.size, 5, none⟩ = some (.int .i64 0) := (unhide HM).rr.cell (i := 5) (by omega)
              have yf5 : wr.frozen? ⟨w.heap.size, 5, none⟩ = false := (unhide HM).rr.frozen 5
              have y6 : wr.cell? ⟨w.heap.size, 6, none⟩ = some (.int .i64 0) := (unhide HM).rr.cell (i := 6) (by omega)
              have yf6 : wr.frozen? ⟨w.heap.size, 6, none⟩ = false := (unhide HM).rr.frozen 6
              have y7 : wr.cell? ⟨w.heap.size, 7, none⟩ = some (.slice none 0 0) := (unhide HM).rr.cell (i := 7) (by omega)
              have yf7 : wr.frozen? ⟨w.heap.size, 7, none⟩ = false := (unhide HM).rr.frozen 7
              have y8 : wr.cell? ⟨w.heap.size, 8, none⟩ = some (.slice none 0 0) := (unhide HM).rr.cell (i := 8) (by omega)
              have yf8 : wr.frozen? ⟨w.heap.size, 8, none⟩ = false := (unhide HM).rr.frozen 8
              have y9 : wr.cell? ⟨w.heap.size, 9, none⟩ = some (.slice none 0 0) := (unhide HM).rr.cell (i := 9) (by omega)
              have yf9 : wr.frozen? ⟨w.heap.size, 9, none⟩ = false := (unhide HM).rr.frozen 9
              have y10 : wr.cell? ⟨w.heap.size, 10, none⟩ = some (.slice none 0 0) := (unhide HM).rr.cell (i := 10) (by omega)
              have yf10 : wr.frozen? ⟨w.heap.size, 10, none⟩ = false := (unhide HM).rr.frozen 10
              have m0 : wr.cell? ⟨rw, 0, none⟩ = some (.int .i64 z0) := (unhide HM).rwr.cell (i := 0) (by omega)
              have m1 : wr.cell? ⟨rw, 1, none⟩ = some (.int .i64 z1) := (unhide HM).rwr.cell (i := 1) (by omega)
              have m2 : wr.cell? ⟨rw, 2, none⟩ = some (.int .i64 z2) := (unhide HM).rwr.cell (i := 2) (by omega)
              have m3 : wr.cell? ⟨rw, 3, none⟩ = some (.int .i64 z3) := (unhide HM).rwr.cell (i := 3) (by omega)
              have m4 : wr.cell? ⟨rw, 4, none⟩ = some (.int .i64 z4) := (unhide HM).rwr.cell (i := 4) (by omega)
              have m5 : wr.cell? ⟨rw, 5, none⟩ = some (.int .i64 z5) := (unhide HM).rwr.cell (i := 5) (by omega)
              have m6 : wr.cell? ⟨rw, 6, none⟩ = some (.int .i64 z6) := (unhide HM).rwr.cell (i := 6) (by omega)
              have m7 : wr.cell? ⟨rw, 7, none⟩ = some (.slice a0 x0.length c0) := (unhide HM).rwr.cell (i := 7) (by omega)
              have m8 : wr.cell? ⟨rw, 8, none⟩ = some (.slice a1 x1.length c1) := (unhide HM).rwr.cell (i := 8) (by omega)
              have m9 : wr.cell? ⟨rw, 9, none⟩ = some (.slice ea xe.length ec) := (unhide HM).rwr.cell (i := 9) (by omega)
              have m10 : wr.cell? ⟨rw, 10, none⟩ = some (.slice xa xs.length xc) := (unhide HM).rwr.cell (i := 10) (by omega)
              have E1 := hide (setVals_rdS (o := 0) (unhide HM).rd (r := w.heap.size) (unhide HM).hq [.int .i64 z0, .int .i64 z1, .int .i64 z2, .int .i64 z3, .int .i64 z4, .int .i64 z5, .int .i64 z6, .slice a0 x0.length c0, .slice a1 x1.length c1, .slice ea xe.length ec, .slice xa xs.length xc])
              have E2 := hide ((unhide HM).on.then2 (only2_setVals q w.heap.size 0 wr [.int .i64 z0, .int .i64 z1, .int .i64 z2, .int .i64 z3, .int .i64 z4, .int .i64 z5, .int .i64 z6, .slice a0 x0.length c0, .slice a1 x1.length c1, .slice ea xe.length ec, .slice xa xs.length xc]) (unhide HM).hq (Nat.le_refl _))
              have hrr := (unhide HM).hr
              have EF : Hid (WordFr w.heap.size (setVals wr w.heap.size 0 [.int .i64 z0, .int .i64 z1, .int .i64 z2, .int .i64 z3, .int .i64 z4, .int .i64 z5, .int .i64 z6, .slice a0 x0.length c0, .slice a1 x1.length c1, .slice ea xe.length ec, .slice xa xs.length xc]) ⟨z0, z1, z2, z3, z4, z5, z6, x0, x1, xe, xs⟩ (.slice a0 x0.length c0) (.slice a1 x1.length c1) (.slice ea xe.length ec) (.slice xa xs.length xc)) := hide ((WordFr.setV (N := w.heap.size + 1) ⟨own_fr (unhide HM).oi (fun r hr => by obtain ⟨z, _, rfl⟩ := List.mem_map.1 hr; rfl) (by omega), own_fr (unhide HM).ov (fun r hr => by obtain ⟨z, _, rfl⟩ := List.mem_map.1 hr; rfl) (by omega), own_fr (unhide HM).oe (fun r hr => by obtain ⟨z, _, rfl⟩ := List.mem_map.1 hr; rfl) (by omega), own_fr (unhide HM).oo (fun r hr => by obtain ⟨z, _, rfl⟩ := List.mem_map.1 hr; rfl) (by omega)⟩ (r := w.heap.size) (o := 0) (Nat.lt_succ_self _) [.int .i64 z0, .int .i64 z1, .int .i64 z2, .int .i64 z3, .int .i64 z4, .int .i64 z5, .int .i64 z6, .slice a0 x0.length c0, .slice a1 x1.length c1, .slice ea xe.length ec, .slice xa xs.length xc]).less (M := w.heap.size) (Nat.le_succ _))
              go_wp2_with fail
              refine bodyPost_ret (v := wordAgg ⟨z0, z1, z2, z3, z4, z5, z6, x0, x1, xe, xs⟩ (.slice a0 x0.length c0) (.slice a1 x1.length c1) (.slice ea xe.length ec) (.slice xa xs.length xc)) (by simp [results, Tryz.results14, go_sem, y0, y1, y2, y3, y4, y5, y6, y7, y8, y9, y10]) rfl ⟨⟨z0, z1, z2, z3, z4, z5, z6, x0, x1, xe, xs⟩, _, _, _, _, pk, _, rfl, unhide EF, unhide E1, unhide E2, fun n0 hn hp => ?_⟩
              obtain ⟨h1, h2, h3, h4, h5, h6, h7, h8, h9⟩ := (unhide HCK) n0 hn hp
              cases h1

            | false =>
              go_wp2_with fail
              refine (rdNums_any w0 _ q vb bs pk false 5 (unhide HM).rd (by omega)).mono ?_
              rintro e wc ⟨vh, ys, p5, f5, rfl, hown, hRc, hOc, hy7, _, hcc⟩
              have HMC := hide ((unhide HM).only hOc hRc)
              have HCC := hide hcc
              have HY7 := hide hy7
              have HOWN := hide hown
              have HSC := hide (unhide HM).hs
              have HXL : Hid (∀ g, Value.ownBlock (.slice xa xs.length xc) = some g → rw + 1 ≤ g ∧ g < wr.heap.size) := hide ((unhide HM).oo.lt)
              have k3 := (unhide HMC).rd.c2
              clear hown hRc hOc hy7 hcc k2 HMA HCA
              cases f5 with
              | true =>
                go_wp2_with fail
                go_roundw
                case rel =>
                  refine ⟨k + 1, xs, xa, xc, p5, true, by first | go_num | (congr 1; omega), Or.inl (by omega), by omega, HMC, hide (fun n0 hn hp => ?_)⟩
                  obtain ⟨h1, h2, h3, h4, h5, _⟩ := (unhide HCK) n0 hn hp
                  have hke : k < n0.outs.length := by omega
                  have hin := in_at (pre := ouTo n0 k) (x := outRow n0.outs[k]) (rest := (n0.outs.drop (k + 1)).flatMap outRow) hn hp (ouSplit n0 k hke)
                  rw [← h5] at hin
                  obtain ⟨_, _, e3⟩ := (unhide HCC) _ (by first | rfl | trivial) rfl hin
                  cases e3
                case measure => simp [intOf]; omega
              | false =>
                obtain ⟨y0, y1, y2, y3, y4, rfl⟩ := len5 ((unhide HY7) (by first | rfl | trivial))
                obtain ⟨hg, hc, rfl, hch, hgB, hcells⟩ := ownsI_cells (unhide HOWN) (by simp)
                simp only [List.length_cons, List.length_nil, Nat.zero_add, Nat.reduceAdd] at hch hcells ⊢
                have hchI : (5 : Int) ≤ (hc : Int) := by omega
                have h0_ := hcells 0 (by omega)
                have h1_ := hcells 1 (by omega)
                have h2_ := hcells 2 (by omega)
                have h3_ := hcells 3 (by omega)
                have h4_ := hcells 4 (by omega)
                simp only [List.getD_cons_zero, List.getD_cons_succ, Nat.add_zero] at h0_ h1_ h2_ h3_ h4_
                have e9 : wc.cell? ⟨rw, 10, none⟩ = some (.slice xa xs.length xc) := (unhide HMC).rwr.cell (i := 10) (by omega)
                clear hcells
                go_upto_region 18 with fail
                clear k3
                refine wp_region_last (L := 21) (S := fun w' : World => w'.cell? ⟨hg, 0, none⟩ = some (.int .i64 y0) ∧ w'.cell? ⟨hg, 1, none⟩ = some (.int .i64 y1) ∧ w'.cell? ⟨hg, 2, none⟩ = some (.int .i64 y2) ∧ w'.cell? ⟨hg, 3, none⟩ = some (.int .i64 y3) ∧ w'.cell? ⟨hg, 4, none⟩ = some (.int .i64 y4) ∧ w'.cell? ⟨rw, 10, none⟩ = some (.slice xa xs.length xc)) (by kernel_rfl) ?_
                have hbd : Below wc.heap.size wc wc.drew := (Below.refl _ _).drew
                have HBD := hide hbd
                have HC := hide (show ∀ W, Below wc.heap.size wc W → (fun w' : World => w'.cell? ⟨hg, 0, none⟩ = some (.int .i64 y0) ∧ w'.cell? ⟨hg, 1, none⟩ = some (.int .i64 y1) ∧ w'.cell? ⟨hg, 2, none⟩ = some (.int .i64 y2) ∧ w'.cell? ⟨hg, 3, none⟩ = some (.int .i64 y3) ∧ w'.cell? ⟨hg, 4, none⟩ = some (.int .i64 y4) ∧ w'.cell? ⟨rw, 10, none⟩ = some (.slice xa xs.length xc)) W from fun W hW => ⟨cell_on hW h0_, cell_on hW h1_, cell_on hW h2_, cell_on hW h3_, cell_on hW h4_, cell_on hW e9⟩)
                have HMX := hide ((unhide HMC).onB hbd)
                clear h0_ h1_ h2_ h3_ h4_ e9 hbd
                generalize hXd : wc.drew = X at *
                have hHeld := (unhide HC) X (unhide HBD)
                refine wpAnyL_take (i := 0) (v := ?_) (by kernel_rfl) rfl (by kernel_rfl) (by kernel_rfl) (by kernel_rfl) (fun _ _ _ h => h) hHeld (Or.inl ⟨by kernel_rfl, ?_⟩) ?_
                rotate_left
                · (intro w hSw; (try dsimp only at hSw); obtain ⟨s0, s1, s2, s3, s4, s5⟩ := hSw; go_simp; try with_reducible rfl)
                refine wpAnyL_take (i := 1) (v := ?_) (by kernel_rfl) rfl (by kernel_rfl) (by kernel_rfl) (by kernel_rfl) (fun _ _ _ h => h) hHeld (Or.inl ⟨by kernel_rfl, ?_⟩) ?_
                rotate_left
                · (intro w hSw; (try dsimp only at hSw); obtain ⟨s0, s1, s2, s3, s4, s5⟩ := hSw; go_simp; try with_reducible rfl)
                refine wpAnyL_take (i := 2) (v := ?_) (by kernel_rfl) rfl (by kernel_rfl) (by kernel_rfl) (by kernel_rfl) (fun _ _ _ h => h) hHeld (Or.inl ⟨by kernel_rfl, ?_⟩) ?_
                rotate_left
                · (intro w hSw; (try dsimp only at hSw); obtain ⟨s0, s1, s2, s3, s4, s5⟩ := hSw; go_simp; try with_reducible rfl)
                refine wpAnyL_take (i := 3) (v := ?_) (by kernel_rfl) rfl (by kernel_rfl) (by kernel_rfl) (by kernel_rfl) (fun _ _ _ h => h) hHeld (Or.inl ⟨by kernel_rfl, ?_⟩) ?_
                rotate_left
                · (intro w hSw; (try dsimp only at hSw); obtain ⟨s0, s1, s2, s3, s4, s5⟩ := hSw; go_simp; try with_reducible rfl)
                refine wpAnyL_take (i := 4) (v := ?_) (by kernel_rfl) rfl (by kernel_rfl) (by kernel_rfl) (by kernel_rfl) (fun _ _ _ h => h) hHeld (Or.inl ⟨by kernel_rfl, ?_⟩) ?_
                rotate_left
                · (intro w hSw; (try dsimp only at hSw); obtain ⟨s0, s1, s2, s3, s4, s5⟩ := hSw; go_simp; try with_reducible rfl)
                refine wpAnyL_take (i := 5) (v := ?_) (by kernel_rfl) rfl (by kernel_rfl) (by kernel_rfl) (by kernel_rfl) (fun _ _ _ h => h) hHeld (Or.inl ⟨by kernel_rfl, ?_⟩) ?_
                rotate_left
                · (intro w hSw; (try dsimp only at hSw); obtain ⟨s0, s1, s2, s3, s4, s5⟩ := hSw; go_simp; try with_reducible rfl)
                refine wpAnyL_take (i := 6) (v := ?_) (by kernel_rfl) rfl (by kernel_rfl) (by kernel_rfl) (by kernel_rfl) (fun _ _ _ h => h) hHeld (Or.inl ⟨by kernel_rfl, ?_⟩) ?_
                rotate_left
                · (intro w hSw; (try dsimp only at hSw); obtain ⟨s0, s1, s2, s3, s4, s5⟩ := hSw; go_simp; try with_reducible rfl)
                refine wpAnyL_take (i := 7) (v := ?_) (by kernel_rfl) rfl (by kernel_rfl) (by kernel_rfl) (by kernel_rfl) (fun _ _ _ h => h) hHeld (Or.inl ⟨by kernel_rfl, ?_⟩) ?_
                rotate_left
                · (intro w hSw; (try dsimp only at hSw); obtain ⟨s0, s1, s2, s3, s4, s5⟩ := hSw; go_simp; try with_reducible rfl)
                refine wpAnyL_take (i := 8) (v := ?_) (by kernel_rfl) rfl (by kernel_rfl) (by kernel_rfl) (by kernel_rfl) (fun _ _ _ h => h) hHeld (Or.inl ⟨by kernel_rfl, ?_⟩) ?_
                rotate_left
                · (intro w hSw; (try dsimp only at hSw); obtain ⟨s0, s1, s2, s3, s4, s5⟩ := hSw; go_simp; try with_reducible rfl)
                refine wpAnyL_take (i := 9) (v := ?_) (by kernel_rfl) rfl (by kernel_rfl) (by kernel_rfl) (by kernel_rfl) (fun _ _ _ h => h) hHeld (Or.inl ⟨by kernel_rfl, ?_⟩) ?_
                rotate_left
                · (intro w hSw; (try dsimp only at hSw); obtain ⟨s0, s1, s2, s3, s4, s5⟩ := hSw; go_simp; try with_reducible rfl)
                refine wpAnyL_take (i := 10) (v := ?_) (by kernel_rfl) rfl (by kernel_rfl) (by kernel_rfl) (by kernel_rfl) (fun _ _ _ h => h) hHeld (Or.inl ⟨by kernel_rfl, ?_⟩) ?_
                rotate_left
                · (intro w hSw; (try dsimp only at hSw); obtain ⟨s0, s1, s2, s3, s4, s5⟩ := hSw; go_simp; try with_reducible rfl)
                refine wpAnyL_take (i := 11) (v := ?_) (by kernel_rfl) rfl (by kernel_rfl) (by kernel_rfl) (by kernel_rfl) (fun _ _ _ h => h) hHeld (Or.inl ⟨by kernel_rfl, ?_⟩) ?_
                rotate_left
                · (intro w hSw; (try dsimp only at hSw); obtain ⟨s0, s1, s2, s3, s4, s5⟩ := hSw; go_simp; try with_reducible rfl)
                refine wpAnyL_take (i := 12) (v := ?_) (by kernel_rfl) rfl (by kernel_rfl) (by kernel_rfl) (by kernel_rfl) (fun _ _ _ h => h) hHeld (Or.inl ⟨by kernel_rfl, ?_⟩) ?_
                rotate_left
                · (intro w hSw; (try dsimp only at hSw); obtain ⟨s0, s1, s2, s3, s4, s5⟩ := hSw; go_simp; try with_reducible rfl)
                refine wpAnyL_take (i := 13) (v := ?_) (by kernel_rfl) rfl (by kernel_rfl) (by kernel_rfl) (by kernel_rfl) (fun _ _ _ h => h) hHeld (Or.inl ⟨by kernel_rfl, ?_⟩) ?_
                rotate_left
                · (intro w hSw; (try dsimp only at hSw); obtain ⟨s0, s1, s2, s3, s4, s5⟩ := hSw; go_simp; try with_reducible rfl)
                refine wpAnyL_take (i := 14) (v := ?_) (by kernel_rfl) rfl (by kernel_rfl) (by kernel_rfl) (by kernel_rfl) (fun _ _ _ h => h) hHeld (Or.inl ⟨by kernel_rfl, ?_⟩) ?_
                rotate_left
                · (intro w hSw; (try dsimp only at hSw); obtain ⟨s0, s1, s2, s3, s4, s5⟩ := hSw; go_simp; try with_reducible rfl)
                refine wpAnyL_take (i := 15) (v := ?_) (by kernel_rfl) rfl (by kernel_rfl) (by kernel_rfl) (by kernel_rfl) (fun _ _ _ h => h) hHeld (Or.inl ⟨by kernel_rfl, ?_⟩) ?_
                rotate_left
                · (intro w hSw; (try dsimp only at hSw); obtain ⟨s0, s1, s2, s3, s4, s5⟩ := hSw; go_simp; try with_reducible rfl)
                refine wpAnyL_take (i := 16) (v := ?_) (by kernel_rfl) rfl (by kernel_rfl) (by kernel_rfl) (by kernel_rfl) (fun _ _ _ h => h) hHeld (Or.inl ⟨by kernel_rfl, ?_⟩) ?_
                rotate_left
                · (intro w hSw; (try dsimp only at hSw); obtain ⟨s0, s1, s2, s3, s4, s5⟩ := hSw; go_simp; try with_reducible rfl)
                refine wpAnyL_take (i := 17) (v := ?_) (by kernel_rfl) rfl (by kernel_rfl) (by kernel_rfl) (by kernel_rfl) (fun _ _ _ h => h) hHeld (Or.inl ⟨by kernel_rfl, ?_⟩) ?_
                rotate_left
                · (intro w hSw; (try dsimp only at hSw); obtain ⟨s0, s1, s2, s3, s4, s5⟩ := hSw; go_simp; try with_reducible rfl)
                refine wpAnyL_one (i := 18) (by kernel_rfl) rfl (fun K hK => ?_)
                go_simp
                have hyA : Below X.heap.size X (X.alloc (.cells #[.int .i64 y0, .int .i64 y1, .int .i64 y2, .int .i64 y3, .int .i64 y4] 60)) := (Below.refl _ _).alloc (Nat.le_refl _) _
                have hy1 : Below wc.heap.size wc (X.alloc (.cells #[.int .i64 y0, .int .i64 y1, .int .i64 y2, .int .i64 y3, .int .i64 y4] 60)) := (unhide HBD).trans (hyA.mono (unhide HBD).size)
                refine held_on hK ((unhide HC) _ hy1) (fun hHeld => ?_)
                clear hK K
                obtain ⟨i7, hi7, hz0, hz1, hz2⟩ := infoOuR
                have hownA := ownsOn hyA (unhide HMX).oo
                have hxl2 : xs.length ≤ 2097151 := by have := unhide HN1; omega
                have hrx := (unhide HMX).hs
                refine wpAnyL_one (i := 19) (by kernel_rfl) rfl (fun K hK => ?_)
                refine step_append_lies _ (by rfl) _ _ _ (by rfl) (rw + 1) 60 i7 _ 5 40 slice_OutW hi7 hz0 hz1 hz2 (by rfl) (by omega) (.slice xa xs.length xc) xs.length (flatCells (xs.map outRow)) (by rfl) hownA ⟨X.heap.size, 0, none⟩ 1 1 [.int .i64 y0, .int .i64 y1, .int .i64 y2, .int .i64 y3, .int .i64 y4] (by rfl) (by rfl) (World.news_of_block (cs := #[.int .i64 y0, .int .i64 y1, .int .i64 y2, .int .i64 y3, .int .i64 y4]) (t := 60) (fr := (0, 0)) (heap_alloc_new X _)) (by simp [Value.oneCell']) (by omega) (by unfold maxLen; omega) (by omega) (by simp; omega) (X.heap.size + 1) (by simp) ?_
                intro gg cap wd hown4 hgrow hat hlt4
                have HG := hide (Gr.of (n := xs.length + 1) (cap := cap) hyA hgrow hat)
                have HNEW := hide (show wd.ownsRow (rw + 1) 60 5 (.slice (some ⟨gg, 0, none⟩) (xs.length + 1) cap) (xs ++ [⟨y0, y1, y2, y3, y4⟩] : List OutV).length (flatCells ((xs ++ [⟨y0, y1, y2, y3, y4⟩] : List OutV).map outRow)) by
                  rw [List.length_append, List.map_append]
                  have e : flatCells (xs.map outRow ++ ([⟨y0, y1, y2, y3, y4⟩] : List OutV).map outRow) = flatCells (xs.map outRow) ++ [.int .i64 y0, .int .i64 y1, .int .i64 y2, .int .i64 y3, .int .i64 y4] := by simp [flatCells, outRow]
                  rw [e]
                  exact hown4)
                have hS : (fun w' : World => w'.cell? ⟨hg, 0, none⟩ = some (.int .i64 y0) ∧ w'.cell? ⟨hg, 1, none⟩ = some (.int .i64 y1) ∧ w'.cell? ⟨hg, 2, none⟩ = some (.int .i64 y2) ∧ w'.cell? ⟨hg, 3, none⟩ = some (.int .i64 y3) ∧ w'.cell? ⟨hg, 4, none⟩ = some (.int .i64 y4) ∧ w'.cell? ⟨rw, 10, none⟩ = some (.slice xa xs.length xc)) wd := by
                  have h0 := (unhide HC) X (unhide HBD)
                  have hgx : Value.ownBlock (.slice xa xs.length xc) ≠ some hg := fun e => by have := ((unhide HXL) hg e).2; have := (unhide HOWN).lt hg rfl; omega
                  have hrw : Value.ownBlock (.slice xa xs.length xc) ≠ some rw := fun e => by have := ((unhide HXL) rw e).1; omega
                  obtain ⟨h0, h1, h2, h3, h4, h5⟩ := h0
                  exact ⟨(unhide HG).cell h0 hgx, (unhide HG).cell h1 hgx, (unhide HG).cell h2 hgx, (unhide HG).cell h3 hgx, (unhide HG).cell h4 hgx, (unhide HG).cell h5 hrw⟩
                have kf : wd.frozen? ⟨rw, 10, none⟩ = false := (World.frozen?_of_block ((unhide HG).g.block rw hrx (fun e => by have := ((unhide HXL) rw e.symm).1; omega))).trans ((unhide HMX).rwr.frozen 10)
                refine held_on hK hS (fun hHeld => ?_)
                clear hK K hown4 hgrow hat hlt4 hownA hS
                refine wpAnyL_one (i := 20) (by kernel_rfl) rfl (fun K hK => ?_)
                go_simp
                refine held_on hK hHeld (fun hHeld => ?_)
                clear hK K
                have HM4 := hide ((unhide HMX).appo (unhide HG) (unhide HNEW))
                have w9 := hHeld.2.2.2.2.2
                refine wpAnyL_end (by kernel_rfl) rfl (fun K hK => ?_)
                go_simp
                refine hK.out _ _ ?_
                clear hK K
                refine wpAnyL_done (by kernel_rfl) ?_ _
                go_wp2_with fail
                go_roundw
                case rel =>
                  refine ⟨k + 1, xs ++ [⟨y0, y1, y2, y3, y4⟩], some ⟨gg, 0, none⟩, cap, p5, false, by first | go_num | (congr 1; omega), Or.inl (by omega), by rw [List.length_append]; simp; omega, ?_, hide (fun n0 hn hp => ?_)⟩
                  · have e : (xs ++ [⟨y0, y1, y2, y3, y4⟩] : List OutV).length = xs.length + 1 := by simp
                    rw [e]
                    exact HM4
                  · obtain ⟨h1, h2, h3, h4, h5, h6⟩ := (unhide HCK) n0 hn hp
                    have hke : k < n0.outs.length := by omega
                    have hin := in_at (pre := ouTo n0 k) (x := outRow n0.outs[k]) (rest := (n0.outs.drop (k + 1)).flatMap outRow) hn hp (ouSplit n0 k hke)
                    rw [← h5] at hin
                    obtain ⟨e1, e2, _⟩ := (unhide HCC) _ (by first | rfl | trivial) rfl hin
                    refine ⟨by first | rfl | trivial, h2, hke, ?_, ?_, h6⟩
                    · have e7 : (⟨y0, y1, y2, y3, y4⟩ : OutV) = n0.outs[k] := Ou_inj _ _ e1
                      rw [take_more n0.outs k hke, ← h4, e7]
                    · rw [e2, h5, ouTo_more n0 k hke, packI_app, List.length_append]
                case measure => simp [intOf]; omega
          · have hnp : cn - (k : Int) ≤ 0 := by omega
            have y0 : wr.cell? ⟨w.heap.size, 0, none⟩ = some (.int .i64 0) := (unhide HM).rr.cell (i := 0) (by omega)
            have yf0 : wr.frozen? ⟨w.heap.size, 0, none⟩ = false := (unhide HM).rr.frozen 0
            have y1 : wr.cell? ⟨w.heap.size, 1, none⟩ = some (.int .i64 0) := (unhide HM).rr.cell (i := 1) (by omega)
            have yf1 : wr.frozen? ⟨w.heap.size, 1, none⟩ = false := (unhide HM).rr.frozen 1
            have y2 : wr.cell? ⟨w.heap.size, 2, none⟩ = some (.int .i64 0) := (unhide HM).rr.cell (i := 2) (by omega)
            have yf2 : wr.frozen? ⟨w.heap.size, 2, none⟩ = false := (unhide HM).rr.frozen 2
            have y3 : wr.cell? ⟨w.heap.size, 3, none⟩ = some (.int .i64 0) := (unhide HM).rr.cell (i := 3) (by omega)
            have yf3 : wr.frozen? ⟨w.heap.size, 3, none⟩ = false := (unhide HM).rr.frozen 3
            have y4 : wr.cell? ⟨w.heap.size, 4, none⟩ = some (.int .i64 0) := (unhide HM).rr.cell (i := 4) (by omega)
            have yf4 : wr.frozen? ⟨w.heap.size, 4, none⟩ = false := (unhide HM).rr.frozen 4
            have y5 : wr.cell? ⟨w.heap.size, 5, none⟩ = some (.int .i64 0) := (unhide HM).rr.cell (i := 5) (by omega)
            have yf5 : wr.frozen? ⟨w.heap.size, 5, none⟩ = false := (unhide HM).rr.frozen 5
            have y6 : wr.cell? ⟨w.heap.size, 6, none⟩ = some (.int .i64 0) := (unhide HM).rr.cell (i := 6) (by omega)
            have yf6 : wr.frozen? ⟨w.heap.size, 6, none⟩ = false := (unhide HM).rr.frozen 6
            have y7 : wr.cell? ⟨w.heap.size, 7, none⟩ = some (.slice none 0 0) := (unhide HM).rr.cell (i := 7) (by omega)
            have yf7 : wr.frozen? ⟨w.heap.size, 7, none⟩ = false := (unhide HM).rr.frozen 7
            have y8 : wr.cell? ⟨w.heap.size, 8, none⟩ = some (.slice none 0 0) := (unhide HM).rr.cell (i := 8) (by omega)
            have yf8 : wr.frozen? ⟨w.heap.size, 8, none⟩ = false := (unhide HM).rr.frozen 8
            have y9 : wr.cell? ⟨w.heap.size, 9, none⟩ = some (.slice none 0 0) := (unhide HM).rr.cell (i := 9) (by omega)
            have yf9 : wr.frozen? ⟨w.heap.size, 9, none⟩ = false := (unhide HM).rr.frozen 9
            have y10 : wr.cell? ⟨w.heap.size, 10, none⟩ = some (.slice none 0 0) := (unhide HM).rr.cell (i := 10) (by omega)
            have yf10 : wr.frozen? ⟨w.heap.size, 10, none⟩ = false := (unhide HM).rr.frozen 10
            have m0 : wr.cell? ⟨rw, 0, none⟩ = some (.int .i64 z0) := (unhide HM).rwr.cell (i := 0) (by omega)
            have m1 : wr.cell? ⟨rw, 1, none⟩ = some (.int .i64 z1) := (unhide HM).rwr.cell (i := 1) (by omega)
            have m2 : wr.cell? ⟨rw, 2, none⟩ = some (.int .i64 z2) := (unhide HM).rwr.cell (i := 2) (by omega)
            have m3 : wr.cell? ⟨rw, 3, none⟩ = some (.int .i64 z3) := (unhide HM).rwr.cell (i := 3) (by omega)
            have m4 : wr.cell? ⟨rw, 4, none⟩ = some (.int .i64 z4) := (unhide HM).rwr.cell (i := 4) (by omega)
            have m5 : wr.cell? ⟨rw, 5, none⟩ = some (.int .i64 z5) := (unhide HM).rwr.cell (i := 5) (by omega)
            have m6 : wr.cell? ⟨rw, 6, none⟩ = some (.int .i64 z6) := (unhide HM).rwr.cell (i := 6) (by omega)
            have m7 : wr.cell? ⟨rw, 7, none⟩ = some (.slice a0 x0.length c0) := (unhide HM).rwr.cell (i := 7) (by omega)
            have m8 : wr.cell? ⟨rw, 8, none⟩ = some (.slice a1 x1.length c1) := (unhide HM).rwr.cell (i := 8) (by omega)
            have m9 : wr.cell? ⟨rw, 9, none⟩ = some (.slice ea xe.length ec) := (unhide HM).rwr.cell (i := 9) (by omega)
            have m10 : wr.cell? ⟨rw, 10, none⟩ = some (.slice xa xs.length xc) := (unhide HM).rwr.cell (i := 10) (by omega)
            have E1 := hide (setVals_rdS (o := 0) (unhide HM).rd (r := w.heap.size) (unhide HM).hq [.int .i64 z0, .int .i64 z1, .int .i64 z2, .int .i64 z3, .int .i64 z4, .int .i64 z5, .int .i64 z6, .slice a0 x0.length c0, .slice a1 x1.length c1, .slice ea xe.length ec, .slice xa xs.length xc])
            have E2 := hide ((unhide HM).on.then2 (only2_setVals q w.heap.size 0 wr [.int .i64 z0, .int .i64 z1, .int .i64 z2, .int .i64 z3, .int .i64 z4, .int .i64 z5, .int .i64 z6, .slice a0 x0.length c0, .slice a1 x1.length c1, .slice ea xe.length ec, .slice xa xs.length xc]) (unhide HM).hq (Nat.le_refl _))
            have hrr := (unhide HM).hr
            have EF : Hid (WordFr w.heap.size (setVals wr w.heap.size 0 [.int .i64 z0, .int .i64 z1, .int .i64 z2, .int .i64 z3, .int .i64 z4, .int .i64 z5, .int .i64 z6, .slice a0 x0.length c0, .slice a1 x1.length c1, .slice ea xe.length ec, .slice xa xs.length xc]) ⟨z0, z1, z2, z3, z4, z5, z6, x0, x1, xe, xs⟩ (.slice a0 x0.length c0) (.slice a1 x1.length c1) (.slice ea xe.length ec) (.slice xa xs.length xc)) := hide ((WordFr.setV (N := w.heap.size + 1) ⟨own_fr (unhide HM).oi (fun r hr => by obtain ⟨z, _, rfl⟩ := List.mem_map.1 hr; rfl) (by omega), own_fr (unhide HM).ov (fun r hr => by obtain ⟨z, _, rfl⟩ := List.mem_map.1 hr; rfl) (by omega), own_fr (unhide HM).oe (fun r hr => by obtain ⟨z, _, rfl⟩ := List.mem_map.1 hr; rfl) (by omega), own_fr (unhide HM).oo (fun r hr => by obtain ⟨z, _, rfl⟩ := List.mem_map.1 hr; rfl) (by omega)⟩ (r := w.heap.size) (o := 0) (Nat.lt_succ_self _) [.int .i64 z0, .int .i64 z1, .int .i64 z2, .int .i64 z3, .int .i64 z4, .int .i64 z5, .int .i64 z6, .slice a0 x0.length c0, .slice a1 x1.length c1, .slice ea xe.length ec, .slice xa xs.length xc]).less (M := w.heap.size) (Nat.le_succ _))
            go_wp2_with fail
            refine bodyPost_ret (v := wordAgg ⟨z0, z1, z2, z3, z4, z5, z6, x0, x1, xe, xs⟩ (.slice a0 x0.length c0) (.slice a1 x1.length c1) (.slice ea xe.length ec) (.slice xa xs.length xc)) (by simp [results, Tryz.results14, go_sem, y0, y1, y2, y3, y4, y5, y6, y7, y8, y9, y10]) rfl ⟨⟨z0, z1, z2, z3, z4, z5, z6, x0, x1, xe, xs⟩, _, _, _, _, pk, _, rfl, unhide EF, unhide E1, unhide E2, fun n0 hn hp => ?_⟩
            obtain ⟨h1, h2, h3, h4, h5, h6, h7, h8, h9⟩ := (unhide HCK) n0 hn hp
            have hke : k = n0.outs.length := by omega
            rw [hke, List.take_length] at h4
            refine ⟨?_, h1⟩
            obtain ⟨k', fr', ds', ic', vr', rd', g', is', vs', es', os'⟩ := n0
            simp only [headNums, List.cons.injEq, and_true] at h4 h6 h7 h8 h9
            obtain ⟨r0, r1, r2, r3, r4, r5, r6⟩ := h9
            subst r0 r1 r2 r3 r4 r5 r6 h4 h6 h7 h8
            rfl


end Go.Proofs.YtiljjhipiinafaaGreat

/- spec.WordUnpack. -/
namespace Go.Proofs.YtiljjhipiinafaaGreat
open Go.RowKit
set_option linter.unusedVariables false
set_option linter.unusedSimpArgs false

theorem numS_rng (n : Int) (h0 : -1 ≤ n) (h1 : n ≤ 9999) : ∀ z ∈ numI n, 0 ≤ z ∧ z ≤ 255 := by
  intro z hz
  unfold numI numB at hz
  split at hz
  · simp only [List.mem_singleton] at hz; omega
  · simp only [List.mem_cons, List.not_mem_nil, or_false] at hz; omega
theorem packS_rng {l : List Int} (h : ∀ n ∈ l, -1 ≤ n ∧ n ≤ 9999) : ∀ z ∈ packI l, 0 ≤ z ∧ z ≤ 255 := by
  intro z hz
  obtain ⟨n, hn, hz⟩ := List.mem_flatMap.1 hz
  exact numS_rng n (h n hn).1 (h n hn).2 z hz
theorem u8_inj {a b : Int} (ha : 0 ≤ a ∧ a ≤ 255) (hb : 0 ≤ b ∧ b ≤ 255) (h : UInt8.ofNat a.toNat = UInt8.ofNat b.toNat) : a = b := by
  have h1 := congrArg UInt8.toNat h
  simp at h1
  omega
theorem strOf_inj : ∀ {xs ys : List Int}, (∀ z ∈ xs, 0 ≤ z ∧ z ≤ 255) → (∀ z ∈ ys, 0 ≤ z ∧ z ≤ 255) → (xs.map fun n => UInt8.ofNat n.toNat) = (ys.map fun n => UInt8.ofNat n.toNat) → xs = ys := by
  intro xs
  induction xs with
  | nil => intro ys _ _ h; cases ys with
    | nil => rfl
    | cons y ys => simp at h
  | cons x xs ih => intro ys hx hy h; cases ys with
    | nil => simp at h
    | cons y ys =>
      simp only [List.map_cons, List.cons.injEq] at h
      rw [u8_inj (hx x (by simp)) (hy y (by simp)) h.1, ih (fun z hz => hx z (by simp [hz])) (fun z hz => hy z (by simp [hz])) h.2]
theorem strOf_ne {xs ys : List Int} (hx : ∀ z ∈ xs, 0 ≤ z ∧ z ≤ 255) (hy : ∀ z ∈ ys, 0 ≤ z ∧ z ≤ 255) (h : xs ≠ ys) : ((strOfNums xs).toList == (strOfNums ys).toList) = false := by
  rw [beq_eq_false_iff_ne]
  intro e
  rw [ByteArray.toList_eq, ByteArray.toList_eq, strOfNums_data, strOfNums_data] at e
  exact h (strOf_inj hx hy e)

/-- What unpacking comes to, in the specification. -/
def UnpackS (w : World) (bs : List Int) (e : Ending) (w' : World) : Prop :=
  ∃ (n : WordV) (ok : Bool) (ui uv ue uo : Value), e = .returned (.tuple #[wordAgg n ui uv ue uo, .bool ok]) ∧ WordFr w.heap.size w' n ui uv ue uo ∧ Below w.heap.size w w' ∧
    ((ok = true ∧ wordOk n = true ∧ packW n = bs) ∨ (ok = false ∧ n = zeroW ∧ ∀ n0, wordOk n0 = true → packW n0 ≠ bs))

theorem packW_ne (n : WordV) : packW n ≠ [] := by
  unfold packW wordNums
  intro h
  have h1 := congrArg List.length h
  simp [headNums, packI, numI, numB] at h1
  split at h1 <;> simp at h1

set_option maxRecDepth 100000 in
set_option maxHeartbeats 8000000 in
theorem specWordUnpack_any (v : Value) (bs : List Int) (w : World) (h : BytesAt w v bs) (hlen : bs.length ≤ 1048576) :
    Calls Tryz.prog 5 #[v] w fun e w' => UnpackS w bs e w' := by
  have hby := h.by
  obtain ⟨ad, cap, rfl, hlc, hcm, hrg, hnil, _⟩ := h
  have hs0 : (w.alloc (.cells #[.int .i64 0, .int .i64 0, .int .i64 0, .int .i64 0, .int .i64 0, .int .i64 0, .int .i64 0, .slice none 0 0, .slice none 0 0, .slice none 0 0, .slice none 0 0] 28)).heap.size = w.heap.size + 1 := by simp
  have hs1 : ((w.alloc (.cells #[.int .i64 0, .int .i64 0, .int .i64 0, .int .i64 0, .int .i64 0, .int .i64 0, .int .i64 0, .slice none 0 0, .slice none 0 0, .slice none 0 0, .slice none 0 0] 28)).alloc (.cells #[.slice ad bs.length cap, .int .i64 0, .bool false] 41)).heap.size = w.heap.size + 2 := by simp
  have hb0 : Below w.heap.size w (w.alloc (.cells #[.int .i64 0, .int .i64 0, .int .i64 0, .int .i64 0, .int .i64 0, .int .i64 0, .int .i64 0, .slice none 0 0, .slice none 0 0, .slice none 0 0, .slice none 0 0] 28)) := (Below.refl _ _).alloc (Nat.le_refl _) _
  have hb1 : Below (w.alloc (.cells #[.int .i64 0, .int .i64 0, .int .i64 0, .int .i64 0, .int .i64 0, .int .i64 0, .int .i64 0, .slice none 0 0, .slice none 0 0, .slice none 0 0, .slice none 0 0] 28)).heap.size (w.alloc (.cells #[.int .i64 0, .int .i64 0, .int .i64 0, .int .i64 0, .int .i64 0, .int .i64 0, .int .i64 0, .slice none 0 0, .slice none 0 0, .slice none 0 0, .slice none 0 0] 28)) ((w.alloc (.cells #[.int .i64 0, .int .i64 0, .int .i64 0, .int .i64 0, .int .i64 0, .int .i64 0, .int .i64 0, .slice none 0 0, .slice none 0 0, .slice none 0 0, .slice none 0 0] 28)).alloc (.cells #[.slice ad bs.length cap, .int .i64 0, .bool false] 41)) := (Below.refl _ _).alloc (Nat.le_refl _) _
  have hb01 := below_then hb0 hb1
  have r0 := (row_new w [.int .i64 0, .int .i64 0, .int .i64 0, .int .i64 0, .int .i64 0, .int .i64 0, .int .i64 0, .slice none 0 0, .slice none 0 0, .slice none 0 0, .slice none 0 0] 28).of_block (hb1.block w.heap.size (by rw [hs0]; omega))
  have r1 := row_new (w.alloc (.cells #[.int .i64 0, .int .i64 0, .int .i64 0, .int .i64 0, .int .i64 0, .int .i64 0, .int .i64 0, .slice none 0 0, .slice none 0 0, .slice none 0 0, .slice none 0 0] 28)) [.slice ad bs.length cap, .int .i64 0, .bool false] 41
  rw [hs0] at r1
  have hRD : RdS w ((w.alloc (.cells #[.int .i64 0, .int .i64 0, .int .i64 0, .int .i64 0, .int .i64 0, .int .i64 0, .int .i64 0, .slice none 0 0, .slice none 0 0, .slice none 0 0, .slice none 0 0] 28)).alloc (.cells #[.slice ad bs.length cap, .int .i64 0, .bool false] 41)) (w.heap.size + 1) (.slice ad bs.length cap) bs 0 false :=
    ⟨hby, hrg, hlen, Nat.le_succ _, hb01, r1.cell (i := 0) (by simp), r1.cell (i := 1) (by simp), r1.cell (i := 2) (by simp), fun i => r1.frozen i, Nat.zero_le _⟩
  have HRD := hide hRD
  have HR0 := hide r0
  have HS1 := hide hs1
  have HBY := hide hby
  have HRG := hide hrg
  clear hs0 hs1 hb0 hb1 hb01 r0 r1 hRD hby hlc hcm hrg hnil
  go_enter Tryz.func5, Tryz.ntmps5
  go_wp2_with fail
  change Hid (World.rowIs ((w.alloc (.cells #[.int .i64 0, .int .i64 0, .int .i64 0, .int .i64 0, .int .i64 0, .int .i64 0, .int .i64 0, .slice none 0 0, .slice none 0 0, .slice none 0 0, .slice none 0 0] 28)).alloc (.cells #[.slice ad bs.length cap, .int .i64 0, .bool false] 41)) w.heap.size 28 11 _) at HR0
  generalize ((w.alloc (.cells #[.int .i64 0, .int .i64 0, .int .i64 0, .int .i64 0, .int .i64 0, .int .i64 0, .int .i64 0, .slice none 0 0, .slice none 0 0, .slice none 0 0, .slice none 0 0] 28)).alloc (.cells #[.slice ad bs.length cap, .int .i64 0, .bool false] 41)) = X1 at *
  refine (rdWord_any w _ (w.heap.size + 1) (.slice ad bs.length cap) bs (unhide HRD)).mono ?_
  rintro e w3 ⟨n, ui, uv, ue, uo, p', f', rfl, hfr, hR3, hO3, hcomp⟩
  obtain ⟨⟨a0, c0, e1⟩, ⟨a1, c1, e2⟩, ⟨a2, c2, e3⟩, ⟨a3, c3, e4⟩⟩ := hfr.at.sliced
  subst e1 e2 e3 e4
  have hs3 := hO3.size
  have hs1 := unhide HS1
  have hbA : Below w3.heap.size w3 (w3.alloc (.cells #[.int .i64 n.kind, .int .i64 n.frm, .int .i64 n.dst, .int .i64 n.inc, .int .i64 n.ver, .int .i64 n.rd, .int .i64 n.g, .slice a0 n.incs.length c0, .slice a1 n.vers.length c1, .slice a2 n.evs.length c2, .slice a3 n.outs.length c3] 28)) := (Below.refl _ _).alloc (Nat.le_refl _) _
  have RW := hide (row_new w3 [.int .i64 n.kind, .int .i64 n.frm, .int .i64 n.dst, .int .i64 n.inc, .int .i64 n.ver, .int .i64 n.rd, .int .i64 n.g, .slice a0 n.incs.length c0, .slice a1 n.vers.length c1, .slice a2 n.evs.length c2, .slice a3 n.outs.length c3] 28)
  have RR := hide (((unhide HR0).of_block (hO3.other w.heap.size (by omega) (by omega))).of_block (hbA.block w.heap.size (by omega)))
  have RD := hide (hR3.on hbA)
  have HB := hide (((unhide HRD).below.trans (hO3.below.mono (Nat.le_succ _))).trans (hbA.mono (by omega)))
  have HF := hide ((hfr.on hbA).less (M := w.heap.size + 2) (by omega))
  have HS : Hid (w.heap.size + 3 ≤ (w3.alloc (.cells #[.int .i64 n.kind, .int .i64 n.frm, .int .i64 n.dst, .int .i64 n.inc, .int .i64 n.ver, .int .i64 n.rd, .int .i64 n.g, .slice a0 n.incs.length c0, .slice a1 n.vers.length c1, .slice a2 n.evs.length c2, .slice a3 n.outs.length c3] 28)).heap.size) := hide (by simp; omega)
  have HS2 : Hid (w3.heap.size < (w3.alloc (.cells #[.int .i64 n.kind, .int .i64 n.frm, .int .i64 n.dst, .int .i64 n.inc, .int .i64 n.ver, .int .i64 n.rd, .int .i64 n.g, .slice a0 n.incs.length c0, .slice a1 n.vers.length c1, .slice a2 n.evs.length c2, .slice a3 n.outs.length c3] 28)).heap.size) := hide (by simp)
  have HCP := hide hcomp
  clear hfr hR3 hO3 hcomp hs3 hs1 hbA HRD HR0 HS1
  go_upto_region 3 with fail
  change Hid (World.rowIs (w3.alloc (.cells #[.int .i64 n.kind, .int .i64 n.frm, .int .i64 n.dst, .int .i64 n.inc, .int .i64 n.ver, .int .i64 n.rd, .int .i64 n.g, .slice a0 n.incs.length c0, .slice a1 n.vers.length c1, .slice a2 n.evs.length c2, .slice a3 n.outs.length c3] 28)) w3.heap.size 28 11 _) at RW
  generalize (w3.alloc (.cells #[.int .i64 n.kind, .int .i64 n.frm, .int .i64 n.dst, .int .i64 n.inc, .int .i64 n.ver, .int .i64 n.rd, .int .i64 n.g, .slice a0 n.incs.length c0, .slice a1 n.vers.length c1, .slice a2 n.evs.length c2, .slice a3 n.outs.length c3] 28)) = w4 at *
  generalize w3.heap.size = rw at *
  have hbd : Below w4.heap.size w4 w4.drew := (Below.refl _ _).drew
  have HBD := hide hbd
  clear hbd
  have HC := hide (show ∀ W, Below w4.heap.size w4 W → (fun w' : World => w'.cell? ⟨w.heap.size + 1, 2, none⟩ = some (.bool f') ∧ w'.cell? ⟨rw, 0, none⟩ = some (.int .i64 n.kind) ∧ w'.cell? ⟨rw, 1, none⟩ = some (.int .i64 n.frm) ∧ w'.cell? ⟨rw, 2, none⟩ = some (.int .i64 n.dst) ∧ w'.cell? ⟨rw, 3, none⟩ = some (.int .i64 n.inc) ∧ w'.cell? ⟨rw, 4, none⟩ = some (.int .i64 n.ver) ∧ w'.cell? ⟨rw, 5, none⟩ = some (.int .i64 n.rd) ∧ w'.cell? ⟨rw, 6, none⟩ = some (.int .i64 n.g) ∧ w'.cell? ⟨rw, 7, none⟩ = some (.slice a0 n.incs.length c0) ∧ w'.cell? ⟨rw, 8, none⟩ = some (.slice a1 n.vers.length c1) ∧ w'.cell? ⟨rw, 9, none⟩ = some (.slice a2 n.evs.length c2) ∧ w'.cell? ⟨rw, 10, none⟩ = some (.slice a3 n.outs.length c3) ∧ (convert 22 9 (.slice ad bs.length cap)).run Tryz.prog w' = .ok (.string (strOfNums bs)) w') W from fun W hW => ⟨cell_on hW (unhide RD).c2, cell_on hW ((unhide RW).cell (i := 0) (by omega)), cell_on hW ((unhide RW).cell (i := 1) (by omega)), cell_on hW ((unhide RW).cell (i := 2) (by omega)), cell_on hW ((unhide RW).cell (i := 3) (by omega)), cell_on hW ((unhide RW).cell (i := 4) (by omega)), cell_on hW ((unhide RW).cell (i := 5) (by omega)), cell_on hW ((unhide RW).cell (i := 6) (by omega)), cell_on hW ((unhide RW).cell (i := 7) (by omega)), cell_on hW ((unhide RW).cell (i := 8) (by omega)), cell_on hW ((unhide RW).cell (i := 9) (by omega)), cell_on hW ((unhide RW).cell (i := 10) (by omega)), conv_by ((unhide HBY).on ((unhide HB).trans (hW.mono (by have := unhide HS; omega))))⟩)
  refine wp_region_held_drew (S := fun w' : World => w'.cell? ⟨w.heap.size + 1, 2, none⟩ = some (.bool f') ∧ w'.cell? ⟨rw, 0, none⟩ = some (.int .i64 n.kind) ∧ w'.cell? ⟨rw, 1, none⟩ = some (.int .i64 n.frm) ∧ w'.cell? ⟨rw, 2, none⟩ = some (.int .i64 n.dst) ∧ w'.cell? ⟨rw, 3, none⟩ = some (.int .i64 n.inc) ∧ w'.cell? ⟨rw, 4, none⟩ = some (.int .i64 n.ver) ∧ w'.cell? ⟨rw, 5, none⟩ = some (.int .i64 n.rd) ∧ w'.cell? ⟨rw, 6, none⟩ = some (.int .i64 n.g) ∧ w'.cell? ⟨rw, 7, none⟩ = some (.slice a0 n.incs.length c0) ∧ w'.cell? ⟨rw, 8, none⟩ = some (.slice a1 n.vers.length c1) ∧ w'.cell? ⟨rw, 9, none⟩ = some (.slice a2 n.evs.length c2) ∧ w'.cell? ⟨rw, 10, none⟩ = some (.slice a3 n.outs.length c3) ∧ (convert 22 9 (.slice ad bs.length cap)).run Tryz.prog w' = .ok (.string (strOfNums bs)) w') (by kernel_rfl) ((unhide HC) _ (unhide HBD)) (fun hHeld => ?_)
  generalize hXd : w4.drew = X at *
  cases f' with
  | true =>
    refine wpAnyH_take (i := 0) (v := ?_) rfl (by kernel_rfl) (by kernel_rfl) (by kernel_rfl) (fun _ _ _ h => h) (Or.inl ⟨by kernel_rfl, ?_⟩) hHeld ?_
    rotate_left
    · (intro w hSw; (try dsimp only at hSw); obtain ⟨s0, s1, s2, s3, s4, s5, s6, s7, s8, s9, s10, s11, s12⟩ := hSw; go_simp; try with_reducible rfl)
    refine wpAnyH_take (i := 1) (v := ?_) rfl (by kernel_rfl) (by kernel_rfl) (by kernel_rfl) (fun _ _ _ h => h) (Or.inl ⟨by kernel_rfl, ?_⟩) hHeld ?_
    rotate_left
    · (intro w hSw; (try dsimp only at hSw); obtain ⟨s0, s1, s2, s3, s4, s5, s6, s7, s8, s9, s10, s11, s12⟩ := hSw; go_simp; try with_reducible rfl)
    refine wpAnyH_take (i := 2) (v := ?_) rfl (by kernel_rfl) (by kernel_rfl) (by kernel_rfl) (fun _ _ _ h => h) (Or.inl ⟨by kernel_rfl, ?_⟩) hHeld ?_
    rotate_left
    · (intro w hSw; (try dsimp only at hSw); obtain ⟨s0, s1, s2, s3, s4, s5, s6, s7, s8, s9, s10, s11, s12⟩ := hSw; go_simp; try with_reducible rfl)
    refine wpAnyH_take (i := 3) (v := ?_) rfl (by kernel_rfl) (by kernel_rfl) (by kernel_rfl) (fun _ _ _ h => h) (Or.inl ⟨by kernel_rfl, ?_⟩) hHeld ?_
    rotate_left
    · (intro w hSw; (try dsimp only at hSw); obtain ⟨s0, s1, s2, s3, s4, s5, s6, s7, s8, s9, s10, s11, s12⟩ := hSw; go_simp; try with_reducible rfl)
    refine wpAnyH_take (i := 4) (v := ?_) rfl (by kernel_rfl) (by kernel_rfl) (by kernel_rfl) (fun _ _ _ h => h) (Or.inl ⟨by kernel_rfl, ?_⟩) hHeld ?_
    rotate_left
    · (intro w hSw; (try dsimp only at hSw); obtain ⟨s0, s1, s2, s3, s4, s5, s6, s7, s8, s9, s10, s11, s12⟩ := hSw; go_simp; try with_reducible rfl)
    refine wpAnyH_take (i := 5) (v := undef) rfl (by kernel_rfl) (by kernel_rfl) (by kernel_rfl) (fun _ _ _ h => h) (Or.inr ⟨by kernel_rfl, rfl⟩) hHeld ?_
    refine wpAnyH_take (i := 6) (v := undef) rfl (by kernel_rfl) (by kernel_rfl) (by kernel_rfl) (fun _ _ _ h => h) (Or.inr ⟨by kernel_rfl, rfl⟩) hHeld ?_
    refine wpAnyH_take (i := 7) (v := undef) rfl (by kernel_rfl) (by kernel_rfl) (by kernel_rfl) (fun _ _ _ h => h) (Or.inr ⟨by kernel_rfl, rfl⟩) hHeld ?_
    refine wpAnyH_take (i := 8) (v := ?_) rfl (by kernel_rfl) (by kernel_rfl) (by kernel_rfl) (fun _ _ _ h => h) (Or.inl ⟨by kernel_rfl, ?_⟩) hHeld ?_
    rotate_left
    · (intro w hSw; (try dsimp only at hSw); obtain ⟨s0, s1, s2, s3, s4, s5, s6, s7, s8, s9, s10, s11, s12⟩ := hSw; go_simp; try with_reducible rfl)
    refine wpAnyH_take (i := 9) (v := ?_) rfl (by kernel_rfl) (by kernel_rfl) (by kernel_rfl) (fun _ _ _ h => h) (Or.inl ⟨by kernel_rfl, ?_⟩) hHeld ?_
    rotate_left
    · (intro w hSw; (try dsimp only at hSw); obtain ⟨s0, s1, s2, s3, s4, s5, s6, s7, s8, s9, s10, s11, s12⟩ := hSw; go_simp; try with_reducible rfl)
    refine wpAnyH_take (i := 10) (v := undef) rfl (by kernel_rfl) (by kernel_rfl) (by kernel_rfl) (fun _ _ _ h => h) (Or.inr ⟨by kernel_rfl, rfl⟩) hHeld ?_
    refine wpAnyH_take (i := 13) (v := undef) rfl (by kernel_rfl) (by kernel_rfl) (by kernel_rfl) (fun _ _ _ h => h) (Or.inr ⟨by kernel_rfl, rfl⟩) hHeld ?_
    refine wpAnyH_take (i := 14) (v := undef) rfl (by kernel_rfl) (by kernel_rfl) (by kernel_rfl) (fun _ _ _ h => h) (Or.inr ⟨by kernel_rfl, rfl⟩) hHeld ?_
    refine wpAnyH_take (i := 11) (v := undef) rfl (by kernel_rfl) (by kernel_rfl) (by kernel_rfl) (fun _ _ _ h => h) (Or.inr ⟨by kernel_rfl, rfl⟩) hHeld ?_
    refine wpAnyH_take (i := 12) (v := undef) rfl (by kernel_rfl) (by kernel_rfl) (by kernel_rfl) (fun _ _ _ h => h) (Or.inr ⟨by kernel_rfl, rfl⟩) hHeld ?_
    refine wpAnyH_take (i := 15) (v := undef) rfl (by kernel_rfl) (by kernel_rfl) (by kernel_rfl) (fun _ _ _ h => h) (Or.inr ⟨by kernel_rfl, rfl⟩) hHeld ?_
    refine wpAnyH_ready (rs := [16]) (by kernel_rfl) (by simp) (AllReadyH.cons rfl (fun K hK => ?_) AllReadyH.nil)
    go_simp
    refine hK.out _ _ hHeld (fun hHeld => ?_)
    clear hK K
    refine wpAnyH_done (by kernel_rfl) ?_ _
    have hrr := (unhide RR).of_block ((unhide HBD).block w.heap.size (by have := unhide HS; omega))
    have y0 : X.cell? ⟨w.heap.size, 0, none⟩ = some (.int .i64 0) := (hrr).cell (i := 0) (by omega)
    have yf0 : X.frozen? ⟨w.heap.size, 0, none⟩ = false := (hrr).frozen 0
    have y1 : X.cell? ⟨w.heap.size, 1, none⟩ = some (.int .i64 0) := (hrr).cell (i := 1) (by omega)
    have yf1 : X.frozen? ⟨w.heap.size, 1, none⟩ = false := (hrr).frozen 1
    have y2 : X.cell? ⟨w.heap.size, 2, none⟩ = some (.int .i64 0) := (hrr).cell (i := 2) (by omega)
    have yf2 : X.frozen? ⟨w.heap.size, 2, none⟩ = false := (hrr).frozen 2
    have y3 : X.cell? ⟨w.heap.size, 3, none⟩ = some (.int .i64 0) := (hrr).cell (i := 3) (by omega)
    have yf3 : X.frozen? ⟨w.heap.size, 3, none⟩ = false := (hrr).frozen 3
    have y4 : X.cell? ⟨w.heap.size, 4, none⟩ = some (.int .i64 0) := (hrr).cell (i := 4) (by omega)
    have yf4 : X.frozen? ⟨w.heap.size, 4, none⟩ = false := (hrr).frozen 4
    have y5 : X.cell? ⟨w.heap.size, 5, none⟩ = some (.int .i64 0) := (hrr).cell (i := 5) (by omega)
    have yf5 : X.frozen? ⟨w.heap.size, 5, none⟩ = false := (hrr).frozen 5
    have y6 : X.cell? ⟨w.heap.size, 6, none⟩ = some (.int .i64 0) := (hrr).cell (i := 6) (by omega)
    have yf6 : X.frozen? ⟨w.heap.size, 6, none⟩ = false := (hrr).frozen 6
    have y7 : X.cell? ⟨w.heap.size, 7, none⟩ = some (.slice none 0 0) := (hrr).cell (i := 7) (by omega)
    have yf7 : X.frozen? ⟨w.heap.size, 7, none⟩ = false := (hrr).frozen 7
    have y8 : X.cell? ⟨w.heap.size, 8, none⟩ = some (.slice none 0 0) := (hrr).cell (i := 8) (by omega)
    have yf8 : X.frozen? ⟨w.heap.size, 8, none⟩ = false := (hrr).frozen 8
    have y9 : X.cell? ⟨w.heap.size, 9, none⟩ = some (.slice none 0 0) := (hrr).cell (i := 9) (by omega)
    have yf9 : X.frozen? ⟨w.heap.size, 9, none⟩ = false := (hrr).frozen 9
    have y10 : X.cell? ⟨w.heap.size, 10, none⟩ = some (.slice none 0 0) := (hrr).cell (i := 10) (by omega)
    have yf10 : X.frozen? ⟨w.heap.size, 10, none⟩ = false := (hrr).frozen 10
    have EB := hide (setVals_below [.int .i64 0, .int .i64 0, .int .i64 0, .int .i64 0, .int .i64 0, .int .i64 0, .int .i64 0, .slice none 0 0, .slice none 0 0, .slice none 0 0, .slice none 0 0] 0 X ((unhide HB).trans ((unhide HBD).mono (by have := unhide HS; omega))) (Nat.le_refl w.heap.size))
    clear hrr
    go_wp2_with fail
    refine bodyPost_ret (v := .tuple #[wordAgg zeroW (.slice none 0 0) (.slice none 0 0) (.slice none 0 0) (.slice none 0 0), .bool false]) (by simp [results, Tryz.results5, go_sem, zeroW, y0, y1, y2, y3, y4, y5, y6, y7, y8, y9, y10]) rfl ⟨zeroW, false, _, _, _, _, rfl, wordFr_zero _ _, unhide EB, Or.inr ⟨rfl, rfl, fun n0 ho hp => ?_⟩⟩
    have h1 := ((unhide HCP) n0 (wordOk_in ho) hp).2
    cases h1
  | false =>
    rcases Nat.eq_zero_or_pos bs.length with hl | hl
    · have hlI : (bs.length : Int) = 0 := by omega
      have HL := hide hl
      clear hl
      refine wpAnyH_take (i := 0) (v := ?_) rfl (by kernel_rfl) (by kernel_rfl) (by kernel_rfl) (fun _ _ _ h => h) (Or.inl ⟨by kernel_rfl, ?_⟩) hHeld ?_
      rotate_left
      · (intro w hSw; (try dsimp only at hSw); obtain ⟨s0, s1, s2, s3, s4, s5, s6, s7, s8, s9, s10, s11, s12⟩ := hSw; go_simp; try with_reducible rfl)
      refine wpAnyH_take (i := 1) (v := ?_) rfl (by kernel_rfl) (by kernel_rfl) (by kernel_rfl) (fun _ _ _ h => h) (Or.inl ⟨by kernel_rfl, ?_⟩) hHeld ?_
      rotate_left
      · (intro w hSw; (try dsimp only at hSw); obtain ⟨s0, s1, s2, s3, s4, s5, s6, s7, s8, s9, s10, s11, s12⟩ := hSw; go_simp; try with_reducible rfl)
      refine wpAnyH_take (i := 2) (v := ?_) rfl (by kernel_rfl) (by kernel_rfl) (by kernel_rfl) (fun _ _ _ h => h) (Or.inl ⟨by kernel_rfl, ?_⟩) hHeld ?_
      rotate_left
      · (intro w hSw; (try dsimp only at hSw); obtain ⟨s0, s1, s2, s3, s4, s5, s6, s7, s8, s9, s10, s11, s12⟩ := hSw; go_simp; try with_reducible rfl)
      refine wpAnyH_take (i := 3) (v := ?_) rfl (by kernel_rfl) (by kernel_rfl) (by kernel_rfl) (fun _ _ _ h => h) (Or.inl ⟨by kernel_rfl, ?_⟩) hHeld ?_
      rotate_left
      · (intro w hSw; (try dsimp only at hSw); obtain ⟨s0, s1, s2, s3, s4, s5, s6, s7, s8, s9, s10, s11, s12⟩ := hSw; go_simp; try with_reducible rfl)
      refine wpAnyH_take (i := 4) (v := ?_) rfl (by kernel_rfl) (by kernel_rfl) (by kernel_rfl) (fun _ _ _ h => h) (Or.inl ⟨by kernel_rfl, ?_⟩) hHeld ?_
      rotate_left
      · (intro w hSw; (try dsimp only at hSw); obtain ⟨s0, s1, s2, s3, s4, s5, s6, s7, s8, s9, s10, s11, s12⟩ := hSw; go_simp; try with_reducible rfl)
      refine wpAnyH_take (i := 5) (v := ?_) rfl (by kernel_rfl) (by kernel_rfl) (by kernel_rfl) (fun _ _ _ h => h) (Or.inl ⟨by kernel_rfl, ?_⟩) hHeld ?_
      rotate_left
      · (intro w hSw; (try dsimp only at hSw); obtain ⟨s0, s1, s2, s3, s4, s5, s6, s7, s8, s9, s10, s11, s12⟩ := hSw; go_simp; try with_reducible rfl)
      refine wpAnyH_take (i := 6) (v := ?_) rfl (by kernel_rfl) (by kernel_rfl) (by kernel_rfl) (fun _ _ _ h => h) (Or.inl ⟨by kernel_rfl, ?_⟩) hHeld ?_
      rotate_left
      · (intro w hSw; (try dsimp only at hSw); obtain ⟨s0, s1, s2, s3, s4, s5, s6, s7, s8, s9, s10, s11, s12⟩ := hSw; go_simp; try with_reducible rfl)
      refine wpAnyH_take (i := 7) (v := .bool true) rfl (by kernel_rfl) (by kernel_rfl) (by kernel_rfl) (fun _ _ _ h => h) (Or.inl ⟨by kernel_rfl, ?_⟩) hHeld ?_
      · (intro w hSw; (try dsimp only at hSw); obtain ⟨s0, s1, s2, s3, s4, s5, s6, s7, s8, s9, s10, s11, s12⟩ := hSw; go_simp; try with_reducible rfl)
      refine wpAnyH_take (i := 8) (v := ?_) rfl (by kernel_rfl) (by kernel_rfl) (by kernel_rfl) (fun _ _ _ h => h) (Or.inl ⟨by kernel_rfl, ?_⟩) hHeld ?_
      rotate_left
      · (intro w hSw; (try dsimp only at hSw); obtain ⟨s0, s1, s2, s3, s4, s5, s6, s7, s8, s9, s10, s11, s12⟩ := hSw; go_simp; try with_reducible rfl)
      refine wpAnyH_take (i := 9) (v := ?_) rfl (by kernel_rfl) (by kernel_rfl) (by kernel_rfl) (fun _ _ _ h => h) (Or.inl ⟨by kernel_rfl, ?_⟩) hHeld ?_
      rotate_left
      · (intro w hSw; (try dsimp only at hSw); obtain ⟨s0, s1, s2, s3, s4, s5, s6, s7, s8, s9, s10, s11, s12⟩ := hSw; go_simp; try with_reducible rfl)
      refine wpAnyH_take (i := 10) (v := undef) rfl (by kernel_rfl) (by kernel_rfl) (by kernel_rfl) (fun _ _ _ h => h) (Or.inr ⟨by kernel_rfl, rfl⟩) hHeld ?_
      refine wpAnyH_take (i := 13) (v := undef) rfl (by kernel_rfl) (by kernel_rfl) (by kernel_rfl) (fun _ _ _ h => h) (Or.inr ⟨by kernel_rfl, rfl⟩) hHeld ?_
      refine wpAnyH_take (i := 14) (v := undef) rfl (by kernel_rfl) (by kernel_rfl) (by kernel_rfl) (fun _ _ _ h => h) (Or.inr ⟨by kernel_rfl, rfl⟩) hHeld ?_
      refine wpAnyH_take (i := 11) (v := undef) rfl (by kernel_rfl) (by kernel_rfl) (by kernel_rfl) (fun _ _ _ h => h) (Or.inr ⟨by kernel_rfl, rfl⟩) hHeld ?_
      refine wpAnyH_take (i := 12) (v := undef) rfl (by kernel_rfl) (by kernel_rfl) (by kernel_rfl) (fun _ _ _ h => h) (Or.inr ⟨by kernel_rfl, rfl⟩) hHeld ?_
      refine wpAnyH_take (i := 15) (v := undef) rfl (by kernel_rfl) (by kernel_rfl) (by kernel_rfl) (fun _ _ _ h => h) (Or.inr ⟨by kernel_rfl, rfl⟩) hHeld ?_
      refine wpAnyH_ready (rs := [16]) (by kernel_rfl) (by simp) (AllReadyH.cons rfl (fun K hK => ?_) AllReadyH.nil)
      go_simp
      refine hK.out _ _ hHeld (fun hHeld => ?_)
      clear hK K
      refine wpAnyH_done (by kernel_rfl) ?_ _
      have hrr := (unhide RR).of_block ((unhide HBD).block w.heap.size (by have := unhide HS; omega))
      have y0 : X.cell? ⟨w.heap.size, 0, none⟩ = some (.int .i64 0) := (hrr).cell (i := 0) (by omega)
      have yf0 : X.frozen? ⟨w.heap.size, 0, none⟩ = false := (hrr).frozen 0
      have y1 : X.cell? ⟨w.heap.size, 1, none⟩ = some (.int .i64 0) := (hrr).cell (i := 1) (by omega)
      have yf1 : X.frozen? ⟨w.heap.size, 1, none⟩ = false := (hrr).frozen 1
      have y2 : X.cell? ⟨w.heap.size, 2, none⟩ = some (.int .i64 0) := (hrr).cell (i := 2) (by omega)
      have yf2 : X.frozen? ⟨w.heap.size, 2, none⟩ = false := (hrr).frozen 2
      have y3 : X.cell? ⟨w.heap.size, 3, none⟩ = some (.int .i64 0) := (hrr).cell (i := 3) (by omega)
      have yf3 : X.frozen? ⟨w.heap.size, 3, none⟩ = false := (hrr).frozen 3
      have y4 : X.cell? ⟨w.heap.size, 4, none⟩ = some (.int .i64 0) := (hrr).cell (i := 4) (by omega)
      have yf4 : X.frozen? ⟨w.heap.size, 4, none⟩ = false := (hrr).frozen 4
      have y5 : X.cell? ⟨w.heap.size, 5, none⟩ = some (.int .i64 0) := (hrr).cell (i := 5) (by omega)
      have yf5 : X.frozen? ⟨w.heap.size, 5, none⟩ = false := (hrr).frozen 5
      have y6 : X.cell? ⟨w.heap.size, 6, none⟩ = some (.int .i64 0) := (hrr).cell (i := 6) (by omega)
      have yf6 : X.frozen? ⟨w.heap.size, 6, none⟩ = false := (hrr).frozen 6
      have y7 : X.cell? ⟨w.heap.size, 7, none⟩ = some (.slice none 0 0) := (hrr).cell (i := 7) (by omega)
      have yf7 : X.frozen? ⟨w.heap.size, 7, none⟩ = false := (hrr).frozen 7
      have y8 : X.cell? ⟨w.heap.size, 8, none⟩ = some (.slice none 0 0) := (hrr).cell (i := 8) (by omega)
      have yf8 : X.frozen? ⟨w.heap.size, 8, none⟩ = false := (hrr).frozen 8
      have y9 : X.cell? ⟨w.heap.size, 9, none⟩ = some (.slice none 0 0) := (hrr).cell (i := 9) (by omega)
      have yf9 : X.frozen? ⟨w.heap.size, 9, none⟩ = false := (hrr).frozen 9
      have y10 : X.cell? ⟨w.heap.size, 10, none⟩ = some (.slice none 0 0) := (hrr).cell (i := 10) (by omega)
      have yf10 : X.frozen? ⟨w.heap.size, 10, none⟩ = false := (hrr).frozen 10
      have EB := hide (setVals_below [.int .i64 0, .int .i64 0, .int .i64 0, .int .i64 0, .int .i64 0, .int .i64 0, .int .i64 0, .slice none 0 0, .slice none 0 0, .slice none 0 0, .slice none 0 0] 0 X ((unhide HB).trans ((unhide HBD).mono (by have := unhide HS; omega))) (Nat.le_refl w.heap.size))
      clear hrr
      go_wp2_with fail
      refine bodyPost_ret (v := .tuple #[wordAgg zeroW (.slice none 0 0) (.slice none 0 0) (.slice none 0 0) (.slice none 0 0), .bool false]) (by simp [results, Tryz.results5, go_sem, zeroW, y0, y1, y2, y3, y4, y5, y6, y7, y8, y9, y10]) rfl ⟨zeroW, false, _, _, _, _, rfl, wordFr_zero _ _, unhide EB, Or.inr ⟨rfl, rfl, fun n0 ho hp => ?_⟩⟩
      exact packW_ne n0 (List.eq_nil_of_length_eq_zero (by rw [hp]; exact unhide HL))
    · have hlI : ¬ ((bs.length : Int) = 0) := by omega
      have hlB : ¬ bs = [] := by intro h; rw [h] at hl; exact Nat.lt_irrefl 0 hl
      have HL := hide hl
      clear hl
      refine wpAnyH_take (i := 0) (v := ?_) rfl (by kernel_rfl) (by kernel_rfl) (by kernel_rfl) (fun _ _ _ h => h) (Or.inl ⟨by kernel_rfl, ?_⟩) hHeld ?_
      rotate_left
      · (intro w hSw; (try dsimp only at hSw); obtain ⟨s0, s1, s2, s3, s4, s5, s6, s7, s8, s9, s10, s11, s12⟩ := hSw; go_simp; try with_reducible rfl)
      refine wpAnyH_take (i := 1) (v := ?_) rfl (by kernel_rfl) (by kernel_rfl) (by kernel_rfl) (fun _ _ _ h => h) (Or.inl ⟨by kernel_rfl, ?_⟩) hHeld ?_
      rotate_left
      · (intro w hSw; (try dsimp only at hSw); obtain ⟨s0, s1, s2, s3, s4, s5, s6, s7, s8, s9, s10, s11, s12⟩ := hSw; go_simp; try with_reducible rfl)
      refine wpAnyH_take (i := 2) (v := ?_) rfl (by kernel_rfl) (by kernel_rfl) (by kernel_rfl) (fun _ _ _ h => h) (Or.inl ⟨by kernel_rfl, ?_⟩) hHeld ?_
      rotate_left
      · (intro w hSw; (try dsimp only at hSw); obtain ⟨s0, s1, s2, s3, s4, s5, s6, s7, s8, s9, s10, s11, s12⟩ := hSw; go_simp; try with_reducible rfl)
      refine wpAnyH_take (i := 3) (v := ?_) rfl (by kernel_rfl) (by kernel_rfl) (by kernel_rfl) (fun _ _ _ h => h) (Or.inl ⟨by kernel_rfl, ?_⟩) hHeld ?_
      rotate_left
      · (intro w hSw; (try dsimp only at hSw); obtain ⟨s0, s1, s2, s3, s4, s5, s6, s7, s8, s9, s10, s11, s12⟩ := hSw; go_simp; try with_reducible rfl)
      refine wpAnyH_take (i := 4) (v := ?_) rfl (by kernel_rfl) (by kernel_rfl) (by kernel_rfl) (fun _ _ _ h => h) (Or.inl ⟨by kernel_rfl, ?_⟩) hHeld ?_
      rotate_left
      · (intro w hSw; (try dsimp only at hSw); obtain ⟨s0, s1, s2, s3, s4, s5, s6, s7, s8, s9, s10, s11, s12⟩ := hSw; go_simp; try with_reducible rfl)
      refine wpAnyH_take (i := 5) (v := ?_) rfl (by kernel_rfl) (by kernel_rfl) (by kernel_rfl) (fun _ _ _ h => h) (Or.inl ⟨by kernel_rfl, ?_⟩) hHeld ?_
      rotate_left
      · (intro w hSw; (try dsimp only at hSw); obtain ⟨s0, s1, s2, s3, s4, s5, s6, s7, s8, s9, s10, s11, s12⟩ := hSw; go_simp; try with_reducible rfl)
      refine wpAnyH_take (i := 6) (v := ?_) rfl (by kernel_rfl) (by kernel_rfl) (by kernel_rfl) (fun _ _ _ h => h) (Or.inl ⟨by kernel_rfl, ?_⟩) hHeld ?_
      rotate_left
      · (intro w hSw; (try dsimp only at hSw); obtain ⟨s0, s1, s2, s3, s4, s5, s6, s7, s8, s9, s10, s11, s12⟩ := hSw; go_simp; try with_reducible rfl)
      refine wpAnyH_take (i := 7) (v := .bool false) rfl (by kernel_rfl) (by kernel_rfl) (by kernel_rfl) (fun _ _ _ h => h) (Or.inl ⟨by kernel_rfl, ?_⟩) hHeld ?_
      · (intro w hSw; (try dsimp only at hSw); obtain ⟨s0, s1, s2, s3, s4, s5, s6, s7, s8, s9, s10, s11, s12⟩ := hSw; go_simp; try with_reducible rfl)
      refine wpAnyH_take (i := 8) (v := ?_) rfl (by kernel_rfl) (by kernel_rfl) (by kernel_rfl) (fun _ _ _ h => h) (Or.inl ⟨by kernel_rfl, ?_⟩) hHeld ?_
      rotate_left
      · (intro w hSw; (try dsimp only at hSw); obtain ⟨s0, s1, s2, s3, s4, s5, s6, s7, s8, s9, s10, s11, s12⟩ := hSw; go_simp; try with_reducible rfl)
      refine wpAnyH_take (i := 9) (v := ?_) rfl (by kernel_rfl) (by kernel_rfl) (by kernel_rfl) (fun _ _ _ h => h) (Or.inl ⟨by kernel_rfl, ?_⟩) hHeld ?_
      rotate_left
      · (intro w hSw; (try dsimp only at hSw); obtain ⟨s0, s1, s2, s3, s4, s5, s6, s7, s8, s9, s10, s11, s12⟩ := hSw; go_simp; try with_reducible rfl)
      refine wpAnyH_take (i := 10) (v := ?_) rfl (by kernel_rfl) (by kernel_rfl) (by kernel_rfl) (fun _ _ _ h => h) (Or.inl ⟨by kernel_rfl, ?_⟩) hHeld ?_
      rotate_left
      · (intro w hSw; (try dsimp only at hSw); obtain ⟨s0, s1, s2, s3, s4, s5, s6, s7, s8, s9, s10, s11, s12⟩ := hSw; go_simp; try with_reducible rfl)
      refine wpAnyH_take (i := 13) (v := ?_) rfl (by kernel_rfl) (by kernel_rfl) (by kernel_rfl) (fun _ _ _ h => h) (Or.inl ⟨by kernel_rfl, ?_⟩) hHeld ?_
      rotate_left
      · (intro w hSw; (try dsimp only at hSw); obtain ⟨s0, s1, s2, s3, s4, s5, s6, s7, s8, s9, s10, s11, s12⟩ := hSw; go_simp; try with_reducible rfl)
      refine wpAnyH_take (i := 14) (v := ?_) rfl (by kernel_rfl) (by kernel_rfl) (by kernel_rfl) (fun _ _ _ h => h) (Or.inl ⟨by kernel_rfl, ?_⟩) hHeld ?_
      rotate_left
      · (intro w hSw; (try dsimp only at hSw); obtain ⟨s0, s1, s2, s3, s4, s5, s6, s7, s8, s9, s10, s11, s12⟩ := hSw; go_simp; try with_reducible rfl)
      refine wpAnyH_ready (rs := [11]) (by kernel_rfl) (by simp) (AllReadyH.cons rfl (fun K hK => ?_) AllReadyH.nil)
      go_simp
      refine (specWordPack_any n _ _ _ _ _ ((unhide HF).on (unhide HBD)).at).mono ?_
      rintro e z1 ⟨vP, rfl, hown, hbz⟩
      (try go_simp)
      have HBZ := hide (below_then (unhide HBD) hbz)
      refine hK.out _ _ ((unhide HC) _ (unhide HBZ)) (fun hHeld => ?_)
      clear hK K
      have kP := conv_by (ByFr.of_owns hown).at
      obtain ⟨P, hP⟩ : ∃ P, P = (if wordOk n = true then packW n else []) := ⟨_, rfl⟩
      rw [← hP] at kP
      have HP := hide hP
      have HPR : Hid (∀ z ∈ P, 0 ≤ z ∧ z ≤ 255) := hide (by
        rw [hP]
        split
        · rename_i hok
          intro z hz
          exact packS_rng (wordNums_in (wordOk_in hok)) z hz
        · intro z hz; cases hz)
      clear hP hown hbz
      by_cases hE : P = bs
      · have HE := hide hE
        rw [hE] at kP
        clear hE
        refine wpAnyH_ready (rs := [12]) (by kernel_rfl) (by simp) (AllReadyH.cons rfl (fun K hK => ?_) AllReadyH.nil)
        go_simp
        refine hK.out _ _ hHeld (fun hHeld => ?_)
        clear hK K kP
        refine wpAnyH_take (i := 15) (v := .bool false) rfl (by kernel_rfl) (by kernel_rfl) (by kernel_rfl) (fun _ _ _ h => h) (Or.inl ⟨by kernel_rfl, ?_⟩) hHeld ?_
        · (intro w hSw; (try dsimp only at hSw); obtain ⟨s0, s1, s2, s3, s4, s5, s6, s7, s8, s9, s10, s11, s12⟩ := hSw; go_simp; try with_reducible rfl)
        refine wpAnyH_ready (rs := [16]) (by kernel_rfl) (by simp) (AllReadyH.cons rfl (fun K hK => ?_) AllReadyH.nil)
        go_simp
        refine hK.out _ _ hHeld (fun hHeld => ?_)
        clear hK K
        refine wpAnyH_done (by kernel_rfl) ?_ _
        have hrr := (unhide RR).of_block ((unhide HBZ).block w.heap.size (by have := unhide HS; omega))
        have hrw := (unhide RW).of_block ((unhide HBZ).block rw (by have := unhide HS2; omega))
        have y0 : z1.cell? ⟨w.heap.size, 0, none⟩ = some (.int .i64 0) := (hrr).cell (i := 0) (by omega)
        have yf0 : z1.frozen? ⟨w.heap.size, 0, none⟩ = false := (hrr).frozen 0
        have y1 : z1.cell? ⟨w.heap.size, 1, none⟩ = some (.int .i64 0) := (hrr).cell (i := 1) (by omega)
        have yf1 : z1.frozen? ⟨w.heap.size, 1, none⟩ = false := (hrr).frozen 1
        have y2 : z1.cell? ⟨w.heap.size, 2, none⟩ = some (.int .i64 0) := (hrr).cell (i := 2) (by omega)
        have yf2 : z1.frozen? ⟨w.heap.size, 2, none⟩ = false := (hrr).frozen 2
        have y3 : z1.cell? ⟨w.heap.size, 3, none⟩ = some (.int .i64 0) := (hrr).cell (i := 3) (by omega)
        have yf3 : z1.frozen? ⟨w.heap.size, 3, none⟩ = false := (hrr).frozen 3
        have y4 : z1.cell? ⟨w.heap.size, 4, none⟩ = some (.int .i64 0) := (hrr).cell (i := 4) (by omega)
        have yf4 : z1.frozen? ⟨w.heap.size, 4, none⟩ = false := (hrr).frozen 4
        have y5 : z1.cell? ⟨w.heap.size, 5, none⟩ = some (.int .i64 0) := (hrr).cell (i := 5) (by omega)
        have yf5 : z1.frozen? ⟨w.heap.size, 5, none⟩ = false := (hrr).frozen 5
        have y6 : z1.cell? ⟨w.heap.size, 6, none⟩ = some (.int .i64 0) := (hrr).cell (i := 6) (by omega)
        have yf6 : z1.frozen? ⟨w.heap.size, 6, none⟩ = false := (hrr).frozen 6
        have y7 : z1.cell? ⟨w.heap.size, 7, none⟩ = some (.slice none 0 0) := (hrr).cell (i := 7) (by omega)
        have yf7 : z1.frozen? ⟨w.heap.size, 7, none⟩ = false := (hrr).frozen 7
        have y8 : z1.cell? ⟨w.heap.size, 8, none⟩ = some (.slice none 0 0) := (hrr).cell (i := 8) (by omega)
        have yf8 : z1.frozen? ⟨w.heap.size, 8, none⟩ = false := (hrr).frozen 8
        have y9 : z1.cell? ⟨w.heap.size, 9, none⟩ = some (.slice none 0 0) := (hrr).cell (i := 9) (by omega)
        have yf9 : z1.frozen? ⟨w.heap.size, 9, none⟩ = false := (hrr).frozen 9
        have y10 : z1.cell? ⟨w.heap.size, 10, none⟩ = some (.slice none 0 0) := (hrr).cell (i := 10) (by omega)
        have yf10 : z1.frozen? ⟨w.heap.size, 10, none⟩ = false := (hrr).frozen 10
        have m0 : z1.cell? ⟨rw, 0, none⟩ = some (.int .i64 n.kind) := (hrw).cell (i := 0) (by omega)
        have m1 : z1.cell? ⟨rw, 1, none⟩ = some (.int .i64 n.frm) := (hrw).cell (i := 1) (by omega)
        have m2 : z1.cell? ⟨rw, 2, none⟩ = some (.int .i64 n.dst) := (hrw).cell (i := 2) (by omega)
        have m3 : z1.cell? ⟨rw, 3, none⟩ = some (.int .i64 n.inc) := (hrw).cell (i := 3) (by omega)
        have m4 : z1.cell? ⟨rw, 4, none⟩ = some (.int .i64 n.ver) := (hrw).cell (i := 4) (by omega)
        have m5 : z1.cell? ⟨rw, 5, none⟩ = some (.int .i64 n.rd) := (hrw).cell (i := 5) (by omega)
        have m6 : z1.cell? ⟨rw, 6, none⟩ = some (.int .i64 n.g) := (hrw).cell (i := 6) (by omega)
        have m7 : z1.cell? ⟨rw, 7, none⟩ = some (.slice a0 n.incs.length c0) := (hrw).cell (i := 7) (by omega)
        have m8 : z1.cell? ⟨rw, 8, none⟩ = some (.slice a1 n.vers.length c1) := (hrw).cell (i := 8) (by omega)
        have m9 : z1.cell? ⟨rw, 9, none⟩ = some (.slice a2 n.evs.length c2) := (hrw).cell (i := 9) (by omega)
        have m10 : z1.cell? ⟨rw, 10, none⟩ = some (.slice a3 n.outs.length c3) := (hrw).cell (i := 10) (by omega)
        have EB := hide (setVals_below [.int .i64 n.kind, .int .i64 n.frm, .int .i64 n.dst, .int .i64 n.inc, .int .i64 n.ver, .int .i64 n.rd, .int .i64 n.g, .slice a0 n.incs.length c0, .slice a1 n.vers.length c1, .slice a2 n.evs.length c2, .slice a3 n.outs.length c3] 0 z1 ((unhide HB).trans ((unhide HBZ).mono (by have := unhide HS; omega))) (Nat.le_refl w.heap.size))
        have EF := hide ((((unhide HF).on (unhide HBZ)).setV (r := w.heap.size) (o := 0) (by omega) [.int .i64 n.kind, .int .i64 n.frm, .int .i64 n.dst, .int .i64 n.inc, .int .i64 n.ver, .int .i64 n.rd, .int .i64 n.g, .slice a0 n.incs.length c0, .slice a1 n.vers.length c1, .slice a2 n.evs.length c2, .slice a3 n.outs.length c3]).less (M := w.heap.size) (by omega))
        clear hrr hrw
        go_wp2_with fail
        refine bodyPost_ret (v := .tuple #[wordAgg n (.slice a0 n.incs.length c0) (.slice a1 n.vers.length c1) (.slice a2 n.evs.length c2) (.slice a3 n.outs.length c3), .bool true]) (by simp [results, Tryz.results5, go_sem, y0, y1, y2, y3, y4, y5, y6, y7, y8, y9, y10]) rfl ⟨n, true, _, _, _, _, rfl, unhide EF, unhide EB, Or.inl ⟨rfl, ?_⟩⟩
        have hp := unhide HP
        have hl := unhide HL
        rw [unhide HE] at hp
        split at hp
        · rename_i hok
          exact ⟨hok, hp.symm⟩
        · rw [hp] at hl; exact absurd hl (Nat.lt_irrefl 0)
      · have hne := strOf_ne (unhide HPR) (unhide HRG) hE
        have HE := hide hE
        clear hE
        refine wpAnyH_ready (rs := [12]) (by kernel_rfl) (by simp) (AllReadyH.cons rfl (fun K hK => ?_) AllReadyH.nil)
        go_simp
        refine hK.out _ _ hHeld (fun hHeld => ?_)
        clear hK K kP
        refine wpAnyH_take (i := 15) (v := .bool true) rfl (by kernel_rfl) (by kernel_rfl) (by kernel_rfl) (fun _ _ _ h => h) (Or.inl ⟨by kernel_rfl, ?_⟩) hHeld ?_
        · (intro w hSw; (try dsimp only at hSw); obtain ⟨s0, s1, s2, s3, s4, s5, s6, s7, s8, s9, s10, s11, s12⟩ := hSw; go_simp; try with_reducible rfl)
        refine wpAnyH_ready (rs := [16]) (by kernel_rfl) (by simp) (AllReadyH.cons rfl (fun K hK => ?_) AllReadyH.nil)
        go_simp
        refine hK.out _ _ hHeld (fun hHeld => ?_)
        clear hK K
        refine wpAnyH_done (by kernel_rfl) ?_ _
        have hrr := (unhide RR).of_block ((unhide HBZ).block w.heap.size (by have := unhide HS; omega))
        have y0 : z1.cell? ⟨w.heap.size, 0, none⟩ = some (.int .i64 0) := (hrr).cell (i := 0) (by omega)
        have yf0 : z1.frozen? ⟨w.heap.size, 0, none⟩ = false := (hrr).frozen 0
        have y1 : z1.cell? ⟨w.heap.size, 1, none⟩ = some (.int .i64 0) := (hrr).cell (i := 1) (by omega)
        have yf1 : z1.frozen? ⟨w.heap.size, 1, none⟩ = false := (hrr).frozen 1
        have y2 : z1.cell? ⟨w.heap.size, 2, none⟩ = some (.int .i64 0) := (hrr).cell (i := 2) (by omega)
        have yf2 : z1.frozen? ⟨w.heap.size, 2, none⟩ = false := (hrr).frozen 2
        have y3 : z1.cell? ⟨w.heap.size, 3, none⟩ = some (.int .i64 0) := (hrr).cell (i := 3) (by omega)
        have yf3 : z1.frozen? ⟨w.heap.size, 3, none⟩ = false := (hrr).frozen 3
        have y4 : z1.cell? ⟨w.heap.size, 4, none⟩ = some (.int .i64 0) := (hrr).cell (i := 4) (by omega)
        have yf4 : z1.frozen? ⟨w.heap.size, 4, none⟩ = false := (hrr).frozen 4
        have y5 : z1.cell? ⟨w.heap.size, 5, none⟩ = some (.int .i64 0) := (hrr).cell (i := 5) (by omega)
        have yf5 : z1.frozen? ⟨w.heap.size, 5, none⟩ = false := (hrr).frozen 5
        have y6 : z1.cell? ⟨w.heap.size, 6, none⟩ = some (.int .i64 0) := (hrr).cell (i := 6) (by omega)
        have yf6 : z1.frozen? ⟨w.heap.size, 6, none⟩ = false := (hrr).frozen 6
        have y7 : z1.cell? ⟨w.heap.size, 7, none⟩ = some (.slice none 0 0) := (hrr).cell (i := 7) (by omega)
        have yf7 : z1.frozen? ⟨w.heap.size, 7, none⟩ = false := (hrr).frozen 7
        have y8 : z1.cell? ⟨w.heap.size, 8, none⟩ = some (.slice none 0 0) := (hrr).cell (i := 8) (by omega)
        have yf8 : z1.frozen? ⟨w.heap.size, 8, none⟩ = false := (hrr).frozen 8
        have y9 : z1.cell? ⟨w.heap.size, 9, none⟩ = some (.slice none 0 0) := (hrr).cell (i := 9) (by omega)
        have yf9 : z1.frozen? ⟨w.heap.size, 9, none⟩ = false := (hrr).frozen 9
        have y10 : z1.cell? ⟨w.heap.size, 10, none⟩ = some (.slice none 0 0) := (hrr).cell (i := 10) (by omega)
        have yf10 : z1.frozen? ⟨w.heap.size, 10, none⟩ = false := (hrr).frozen 10
        have EB := hide (setVals_below [.int .i64 0, .int .i64 0, .int .i64 0, .int .i64 0, .int .i64 0, .int .i64 0, .int .i64 0, .slice none 0 0, .slice none 0 0, .slice none 0 0, .slice none 0 0] 0 z1 ((unhide HB).trans ((unhide HBZ).mono (by have := unhide HS; omega))) (Nat.le_refl w.heap.size))
        clear hrr
        go_wp2_with fail
        refine bodyPost_ret (v := .tuple #[wordAgg zeroW (.slice none 0 0) (.slice none 0 0) (.slice none 0 0) (.slice none 0 0), .bool false]) (by simp [results, Tryz.results5, go_sem, zeroW, y0, y1, y2, y3, y4, y5, y6, y7, y8, y9, y10]) rfl ⟨zeroW, false, _, _, _, _, rfl, wordFr_zero _ _, unhide EB, Or.inr ⟨rfl, rfl, fun n0 ho hp => ?_⟩⟩
        have h1 := ((unhide HCP) n0 (wordOk_in ho) hp).1
        subst h1
        have h2 := unhide HP
        rw [if_pos ho, hp] at h2
        exact (unhide HE) h2
end Go.Proofs.YtiljjhipiinafaaGreat
