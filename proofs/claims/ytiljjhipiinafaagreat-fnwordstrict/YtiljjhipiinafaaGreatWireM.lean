/- A word that is being read, in memory. -/
import Derived.Test.YtiljjhipiinafaaGreatWrB
namespace Go.Proofs.YtiljjhipiinafaaGreat
open Go.RowKit
set_option linter.unusedVariables false
set_option linter.unusedSimpArgs false

theorem owns_less {w : World} {B C t m k : Nat} {v : Value} {xs : List Value} (hC : C ≤ B) (h : w.ownsRow B t m v k xs) : w.ownsRow C t m v k xs := by
  obtain ⟨hl, h | ⟨g, cap, cur, h1, h2, h3⟩⟩ := h
  · exact ⟨hl, Or.inl h⟩
  · exact ⟨hl, Or.inr ⟨g, cap, cur, h1, Nat.le_trans hC h2, h3⟩⟩
theorem owns_gr {W W4 : World} {B t m k : Nat} {v u u' : Value} {xs : List Value} (h : W.ownsRow B t m v k xs) (hG : Gr u u' W W4) (hne : ∀ g, v.ownBlock = some g → u.ownBlock ≠ some g) : W4.ownsRow B t m v k xs := by
  obtain ⟨hl, h | ⟨g, cap, cur, rfl, h2, h3, h4⟩⟩ := h
  · exact ⟨hl, Or.inl h⟩
  · refine ⟨hl, Or.inr ⟨g, cap, cur, rfl, h2, ?_, h4⟩⟩
    rw [hG.g.block g (Array.getElem?_eq_some_iff.1 h3).1 (fun e => hne g rfl e.symm)]
    exact h3
theorem gr_apart {u u' v : Value} {W W4 : World} (hG : Gr u u' W W4) (hap : ∀ g, u.ownBlock = some g → v.ownBlock ≠ some g) (hlt : ∀ g, v.ownBlock = some g → g < W.heap.size) : ∀ g, u'.ownBlock = some g → v.ownBlock ≠ some g := fun g h1 h2 => by
  rcases hG.o with e | e
  · exact hap g (by rw [← e]; exact h1) h2
  · have h3 := e g h1
    have h4 := hlt g h2
    omega
theorem RdS.set {w0 w : World} {q r o : Nat} {vb x : Value} {bs : List Int} {p : Nat} {f : Bool} (h : RdS w0 w q vb bs p f) (hr : q < r) : RdS w0 (w.setCell ⟨r, o, none⟩ x) q vb bs p f := by
  have hc : ∀ i, (w.setCell ⟨r, o, none⟩ x).cell? ⟨q, i, none⟩ = w.cell? ⟨q, i, none⟩ := fun i => World.cell?_setCell_far _ _ _ _ (by show r ≠ q; omega)
  exact ⟨h.bytes, h.rng, h.few, h.q0, h.below.setCell (p := ⟨r, o, none⟩) (by have := h.q0; show w0.heap.size ≤ r; omega) _, (hc 0).trans h.c0, (hc 1).trans h.c1, (hc 2).trans h.c2, fun i => (World.frozen?_of_block (Below.heap_setCell w ⟨r, o, none⟩ x q (by show q ≠ r; omega))).trans (h.fz i), h.pl⟩

def zero11 : List Value := [.int .i64 0, .int .i64 0, .int .i64 0, .int .i64 0, .int .i64 0, .int .i64 0, .int .i64 0, .slice none 0 0, .slice none 0 0, .slice none 0 0, .slice none 0 0]

/-- The word that is being read lies in block rw, its lists behind it, each apart; the answer's block is still empty; the reader in block q. -/
structure MemS (w0 w W : World) (q rw : Nat) (vb : Value) (bs : List Int) (p : Nat) (f : Bool) (zs : List Value) (vi : Value) (is : List Int) (vv : Value) (vs : List Int) (ve : Value) (es : List EvV) (vo : Value) (os : List OutV) : Prop where
  rd : RdS w0 W q vb bs p f
  on : OnlyB q w W
  rr : W.rowIs w.heap.size 28 11 (fun i => zero11.getD i undef)
  rwr : W.rowIs rw 28 11 (fun i => (zs ++ [vi, vv, ve, vo]).getD i undef)
  zl : zs.length = 7
  oi : W.ownsRow (rw + 1) 3 1 vi is.length (flatCells (is.map intRow))
  ov : W.ownsRow (rw + 1) 3 1 vv vs.length (flatCells (vs.map intRow))
  oe : W.ownsRow (rw + 1) 56 7 ve es.length (flatCells (es.map evRow))
  oo : W.ownsRow (rw + 1) 60 5 vo os.length (flatCells (os.map outRow))
  ap : Apart4 vi vv ve vo
  hq : q < w.heap.size
  hr : w.heap.size < rw
  hs : rw < W.heap.size

theorem MemS.only {w0 w W : World} {q rw : Nat} {vb : Value} {bs : List Int} {p : Nat} {f : Bool} {zs : List Value} {vi vv ve vo : Value} {is vs : List Int} {es : List EvV} {os : List OutV} {W' : World} {p' : Nat} {f' : Bool} (h : MemS w0 w W q rw vb bs p f zs vi is vv vs ve es vo os) (hO : OnlyB q W W') (hR : RdS w0 W' q vb bs p' f') : MemS w0 w W' q rw vb bs p' f' zs vi is vv vs ve es vo os :=
  have hq := h.hq; have hr := h.hr; have hs := h.hs
  ⟨hR, h.on.trans hO, h.rr.of_block (hO.other _ (by omega) (by omega)), h.rwr.of_block (hO.other _ (by omega) hs), h.zl, owns_onlyB hO (by omega) h.oi, owns_onlyB hO (by omega) h.ov, owns_onlyB hO (by omega) h.oe, owns_onlyB hO (by omega) h.oo, h.ap, hq, hr, Nat.lt_of_lt_of_le hs hO.size⟩
theorem MemS.onB {w0 w W : World} {q rw : Nat} {vb : Value} {bs : List Int} {p : Nat} {f : Bool} {zs : List Value} {vi vv ve vo : Value} {is vs : List Int} {es : List EvV} {os : List OutV} {W' : World} (h : MemS w0 w W q rw vb bs p f zs vi is vv vs ve es vo os) (hB : Below W.heap.size W W') : MemS w0 w W' q rw vb bs p f zs vi is vv vs ve es vo os :=
  h.only ⟨hB.size, fun b _ hl => hB.block b hl, hB.mono (by have := h.hq; have := h.hr; have := h.hs; omega)⟩ (h.rd.on hB)
theorem rowS_set {W : World} {rw : Nat} {zs l : List Value} {k : Nat} {x : Value} {l' : List Value} (h : W.rowIs rw 28 11 (fun i => (zs ++ l).getD i undef)) (hz : zs.length = 7) (hl : l.length = 4) (hk : k < 4) (hl' : l.set k x = l') : (W.setCell ⟨rw, 7 + k, none⟩ x).rowIs rw 28 11 (fun i => (zs ++ l').getD i undef) := by
  have e := rowL_set h (7 + k) (by rw [List.length_append]; omega) x
  rw [List.set_append_right _ _ (by omega), hz, Nat.add_sub_cancel_left, hl'] at e
  exact e
/-- A list of the word is stored: its row is newer than all else. -/
theorem MemS.seti {w0 w W : World} {q rw : Nat} {vb : Value} {bs : List Int} {p : Nat} {f : Bool} {zs : List Value} {vi vv ve vo : Value} {is vs : List Int} {es : List EvV} {os : List OutV} {x' : Value} {l' : List Int} (h : MemS w0 w W q rw vb bs p f zs vi is vv vs ve es vo os) (ho : W.ownsRow (rw + 1) 3 1 x' l'.length (flatCells (l'.map intRow))) (hf : ∀ g, x'.ownBlock = some g → vv.ownBlock ≠ some g ∧ ve.ownBlock ≠ some g ∧ vo.ownBlock ≠ some g) :
    MemS w0 w (W.setCell ⟨rw, 7, none⟩ x') q rw vb bs p f zs x' l' vv vs ve es vo os :=
  have hq := h.hq; have hr := h.hr; have hs := h.hs
  ⟨h.rd.set (by omega), h.on.then2 ((Only2.refl q rw W).set (o := 7) x') hq (by omega), h.rr.of_block (Below.heap_setCell W ⟨rw, 7, none⟩ x' w.heap.size (show w.heap.size ≠ rw by omega)), rowS_set (k := 0) h.rwr h.zl rfl (by omega) rfl, h.zl, ownsRow_setCell_below ho (show rw < rw + 1 by omega) _, ownsRow_setCell_below h.ov (show rw < rw + 1 by omega) _, ownsRow_setCell_below h.oe (show rw < rw + 1 by omega) _, ownsRow_setCell_below h.oo (show rw < rw + 1 by omega) _, ⟨(fun g h1 h2 => (hf g h1).1 h2), (fun g h1 h2 => (hf g h1).2.1 h2), (fun g h1 h2 => (hf g h1).2.2 h2), h.ap.xe, h.ap.xo, h.ap.eo⟩, hq, hr, by simpa using hs⟩
/-- One is appended to a list of the word. -/
theorem MemS.appi {w0 w W : World} {q rw : Nat} {vb : Value} {bs : List Int} {p : Nat} {f : Bool} {zs : List Value} {vi vv ve vo : Value} {is vs : List Int} {es : List EvV} {os : List OutV} {W4 : World} {x' : Value} {l' : List Int} (h : MemS w0 w W q rw vb bs p f zs vi is vv vs ve es vo os) (hG : Gr vi x' W W4) (ho : W4.ownsRow (rw + 1) 3 1 x' l'.length (flatCells (l'.map intRow))) :
    MemS w0 w (W4.setCell ⟨rw, 7, none⟩ x') q rw vb bs p f zs x' l' vv vs ve es vo os := by
  have hq := h.hq; have hr := h.hr; have hs := h.hs
  have hl := h.oi.lt
  have h1 := hG.g.size
  refine ⟨(h.rd.gr hG (fun g e => by have := (hl g e).1; omega)).set (by omega), (h.on.gr hG hq (fun g e => by have := (hl g e).1; omega)).then2 ((Only2.refl q rw W4).set (o := 7) x') hq (by omega), (h.rr.of_block (hG.g.block _ (by omega) (fun e => by have := (hl _ e.symm).1; omega))).of_block (Below.heap_setCell W4 ⟨rw, 7, none⟩ x' w.heap.size (show w.heap.size ≠ rw by omega)), rowS_set (k := 0) (h.rwr.of_block (hG.g.block _ hs (fun e => by have := (hl _ e.symm).1; omega))) h.zl rfl (by omega) rfl, h.zl, ownsRow_setCell_below ho (show rw < rw + 1 by omega) _, ownsRow_setCell_below (owns_gr h.ov hG (fun g h1 h2 => h.ap.iv g h2 h1)) (show rw < rw + 1 by omega) _, ownsRow_setCell_below (owns_gr h.oe hG (fun g h1 h2 => h.ap.ie g h2 h1)) (show rw < rw + 1 by omega) _, ownsRow_setCell_below (owns_gr h.oo hG (fun g h1 h2 => h.ap.io g h2 h1)) (show rw < rw + 1 by omega) _, ⟨gr_apart hG h.ap.iv (fun g e => (h.ov.lt g e).2), gr_apart hG h.ap.ie (fun g e => (h.oe.lt g e).2), gr_apart hG h.ap.io (fun g e => (h.oo.lt g e).2), h.ap.xe, h.ap.xo, h.ap.eo⟩, hq, hr, by simp; omega⟩
/-- A list of the word is stored: its row is newer than all else. -/
theorem MemS.setv {w0 w W : World} {q rw : Nat} {vb : Value} {bs : List Int} {p : Nat} {f : Bool} {zs : List Value} {vi vv ve vo : Value} {is vs : List Int} {es : List EvV} {os : List OutV} {x' : Value} {l' : List Int} (h : MemS w0 w W q rw vb bs p f zs vi is vv vs ve es vo os) (ho : W.ownsRow (rw + 1) 3 1 x' l'.length (flatCells (l'.map intRow))) (hf : ∀ g, x'.ownBlock = some g → vi.ownBlock ≠ some g ∧ ve.ownBlock ≠ some g ∧ vo.ownBlock ≠ some g) :
    MemS w0 w (W.setCell ⟨rw, 8, none⟩ x') q rw vb bs p f zs vi is x' l' ve es vo os :=
  have hq := h.hq; have hr := h.hr; have hs := h.hs
  ⟨h.rd.set (by omega), h.on.then2 ((Only2.refl q rw W).set (o := 8) x') hq (by omega), h.rr.of_block (Below.heap_setCell W ⟨rw, 8, none⟩ x' w.heap.size (show w.heap.size ≠ rw by omega)), rowS_set (k := 1) h.rwr h.zl rfl (by omega) rfl, h.zl, ownsRow_setCell_below h.oi (show rw < rw + 1 by omega) _, ownsRow_setCell_below ho (show rw < rw + 1 by omega) _, ownsRow_setCell_below h.oe (show rw < rw + 1 by omega) _, ownsRow_setCell_below h.oo (show rw < rw + 1 by omega) _, ⟨(fun g h1 h2 => (hf g h2).1 h1), h.ap.ie, h.ap.io, (fun g h1 h2 => (hf g h1).2.1 h2), (fun g h1 h2 => (hf g h1).2.2 h2), h.ap.eo⟩, hq, hr, by simpa using hs⟩
/-- One is appended to a list of the word. -/
theorem MemS.appv {w0 w W : World} {q rw : Nat} {vb : Value} {bs : List Int} {p : Nat} {f : Bool} {zs : List Value} {vi vv ve vo : Value} {is vs : List Int} {es : List EvV} {os : List OutV} {W4 : World} {x' : Value} {l' : List Int} (h : MemS w0 w W q rw vb bs p f zs vi is vv vs ve es vo os) (hG : Gr vv x' W W4) (ho : W4.ownsRow (rw + 1) 3 1 x' l'.length (flatCells (l'.map intRow))) :
    MemS w0 w (W4.setCell ⟨rw, 8, none⟩ x') q rw vb bs p f zs vi is x' l' ve es vo os := by
  have hq := h.hq; have hr := h.hr; have hs := h.hs
  have hl := h.ov.lt
  have h1 := hG.g.size
  refine ⟨(h.rd.gr hG (fun g e => by have := (hl g e).1; omega)).set (by omega), (h.on.gr hG hq (fun g e => by have := (hl g e).1; omega)).then2 ((Only2.refl q rw W4).set (o := 8) x') hq (by omega), (h.rr.of_block (hG.g.block _ (by omega) (fun e => by have := (hl _ e.symm).1; omega))).of_block (Below.heap_setCell W4 ⟨rw, 8, none⟩ x' w.heap.size (show w.heap.size ≠ rw by omega)), rowS_set (k := 1) (h.rwr.of_block (hG.g.block _ hs (fun e => by have := (hl _ e.symm).1; omega))) h.zl rfl (by omega) rfl, h.zl, ownsRow_setCell_below (owns_gr h.oi hG h.ap.iv) (show rw < rw + 1 by omega) _, ownsRow_setCell_below ho (show rw < rw + 1 by omega) _, ownsRow_setCell_below (owns_gr h.oe hG (fun g h1 h2 => h.ap.xe g h2 h1)) (show rw < rw + 1 by omega) _, ownsRow_setCell_below (owns_gr h.oo hG (fun g h1 h2 => h.ap.xo g h2 h1)) (show rw < rw + 1 by omega) _, ⟨(fun g h1 h2 => gr_apart hG (fun g x y => h.ap.iv g y x) (fun g e => (h.oi.lt g e).2) g h2 h1), h.ap.ie, h.ap.io, gr_apart hG h.ap.xe (fun g e => (h.oe.lt g e).2), gr_apart hG h.ap.xo (fun g e => (h.oo.lt g e).2), h.ap.eo⟩, hq, hr, by simp; omega⟩
/-- A list of the word is stored: its row is newer than all else. -/
theorem MemS.sete {w0 w W : World} {q rw : Nat} {vb : Value} {bs : List Int} {p : Nat} {f : Bool} {zs : List Value} {vi vv ve vo : Value} {is vs : List Int} {es : List EvV} {os : List OutV} {x' : Value} {l' : List EvV} (h : MemS w0 w W q rw vb bs p f zs vi is vv vs ve es vo os) (ho : W.ownsRow (rw + 1) 56 7 x' l'.length (flatCells (l'.map evRow))) (hf : ∀ g, x'.ownBlock = some g → vi.ownBlock ≠ some g ∧ vv.ownBlock ≠ some g ∧ vo.ownBlock ≠ some g) :
    MemS w0 w (W.setCell ⟨rw, 9, none⟩ x') q rw vb bs p f zs vi is vv vs x' l' vo os :=
  have hq := h.hq; have hr := h.hr; have hs := h.hs
  ⟨h.rd.set (by omega), h.on.then2 ((Only2.refl q rw W).set (o := 9) x') hq (by omega), h.rr.of_block (Below.heap_setCell W ⟨rw, 9, none⟩ x' w.heap.size (show w.heap.size ≠ rw by omega)), rowS_set (k := 2) h.rwr h.zl rfl (by omega) rfl, h.zl, ownsRow_setCell_below h.oi (show rw < rw + 1 by omega) _, ownsRow_setCell_below h.ov (show rw < rw + 1 by omega) _, ownsRow_setCell_below ho (show rw < rw + 1 by omega) _, ownsRow_setCell_below h.oo (show rw < rw + 1 by omega) _, ⟨h.ap.iv, (fun g h1 h2 => (hf g h2).1 h1), h.ap.io, (fun g h1 h2 => (hf g h2).2.1 h1), h.ap.xo, (fun g h1 h2 => (hf g h1).2.2 h2)⟩, hq, hr, by simpa using hs⟩
/-- One is appended to a list of the word. -/
theorem MemS.appe {w0 w W : World} {q rw : Nat} {vb : Value} {bs : List Int} {p : Nat} {f : Bool} {zs : List Value} {vi vv ve vo : Value} {is vs : List Int} {es : List EvV} {os : List OutV} {W4 : World} {x' : Value} {l' : List EvV} (h : MemS w0 w W q rw vb bs p f zs vi is vv vs ve es vo os) (hG : Gr ve x' W W4) (ho : W4.ownsRow (rw + 1) 56 7 x' l'.length (flatCells (l'.map evRow))) :
    MemS w0 w (W4.setCell ⟨rw, 9, none⟩ x') q rw vb bs p f zs vi is vv vs x' l' vo os := by
  have hq := h.hq; have hr := h.hr; have hs := h.hs
  have hl := h.oe.lt
  have h1 := hG.g.size
  refine ⟨(h.rd.gr hG (fun g e => by have := (hl g e).1; omega)).set (by omega), (h.on.gr hG hq (fun g e => by have := (hl g e).1; omega)).then2 ((Only2.refl q rw W4).set (o := 9) x') hq (by omega), (h.rr.of_block (hG.g.block _ (by omega) (fun e => by have := (hl _ e.symm).1; omega))).of_block (Below.heap_setCell W4 ⟨rw, 9, none⟩ x' w.heap.size (show w.heap.size ≠ rw by omega)), rowS_set (k := 2) (h.rwr.of_block (hG.g.block _ hs (fun e => by have := (hl _ e.symm).1; omega))) h.zl rfl (by omega) rfl, h.zl, ownsRow_setCell_below (owns_gr h.oi hG h.ap.ie) (show rw < rw + 1 by omega) _, ownsRow_setCell_below (owns_gr h.ov hG h.ap.xe) (show rw < rw + 1 by omega) _, ownsRow_setCell_below ho (show rw < rw + 1 by omega) _, ownsRow_setCell_below (owns_gr h.oo hG (fun g h1 h2 => h.ap.eo g h2 h1)) (show rw < rw + 1 by omega) _, ⟨h.ap.iv, (fun g h1 h2 => gr_apart hG (fun g x y => h.ap.ie g y x) (fun g e => (h.oi.lt g e).2) g h2 h1), h.ap.io, (fun g h1 h2 => gr_apart hG (fun g x y => h.ap.xe g y x) (fun g e => (h.ov.lt g e).2) g h2 h1), h.ap.xo, gr_apart hG h.ap.eo (fun g e => (h.oo.lt g e).2)⟩, hq, hr, by simp; omega⟩
/-- A list of the word is stored: its row is newer than all else. -/
theorem MemS.seto {w0 w W : World} {q rw : Nat} {vb : Value} {bs : List Int} {p : Nat} {f : Bool} {zs : List Value} {vi vv ve vo : Value} {is vs : List Int} {es : List EvV} {os : List OutV} {x' : Value} {l' : List OutV} (h : MemS w0 w W q rw vb bs p f zs vi is vv vs ve es vo os) (ho : W.ownsRow (rw + 1) 60 5 x' l'.length (flatCells (l'.map outRow))) (hf : ∀ g, x'.ownBlock = some g → vi.ownBlock ≠ some g ∧ vv.ownBlock ≠ some g ∧ ve.ownBlock ≠ some g) :
    MemS w0 w (W.setCell ⟨rw, 10, none⟩ x') q rw vb bs p f zs vi is vv vs ve es x' l' :=
  have hq := h.hq; have hr := h.hr; have hs := h.hs
  ⟨h.rd.set (by omega), h.on.then2 ((Only2.refl q rw W).set (o := 10) x') hq (by omega), h.rr.of_block (Below.heap_setCell W ⟨rw, 10, none⟩ x' w.heap.size (show w.heap.size ≠ rw by omega)), rowS_set (k := 3) h.rwr h.zl rfl (by omega) rfl, h.zl, ownsRow_setCell_below h.oi (show rw < rw + 1 by omega) _, ownsRow_setCell_below h.ov (show rw < rw + 1 by omega) _, ownsRow_setCell_below h.oe (show rw < rw + 1 by omega) _, ownsRow_setCell_below ho (show rw < rw + 1 by omega) _, ⟨h.ap.iv, h.ap.ie, (fun g h1 h2 => (hf g h2).1 h1), h.ap.xe, (fun g h1 h2 => (hf g h2).2.1 h1), (fun g h1 h2 => (hf g h2).2.2 h1)⟩, hq, hr, by simpa using hs⟩
/-- One is appended to a list of the word. -/
theorem MemS.appo {w0 w W : World} {q rw : Nat} {vb : Value} {bs : List Int} {p : Nat} {f : Bool} {zs : List Value} {vi vv ve vo : Value} {is vs : List Int} {es : List EvV} {os : List OutV} {W4 : World} {x' : Value} {l' : List OutV} (h : MemS w0 w W q rw vb bs p f zs vi is vv vs ve es vo os) (hG : Gr vo x' W W4) (ho : W4.ownsRow (rw + 1) 60 5 x' l'.length (flatCells (l'.map outRow))) :
    MemS w0 w (W4.setCell ⟨rw, 10, none⟩ x') q rw vb bs p f zs vi is vv vs ve es x' l' := by
  have hq := h.hq; have hr := h.hr; have hs := h.hs
  have hl := h.oo.lt
  have h1 := hG.g.size
  refine ⟨(h.rd.gr hG (fun g e => by have := (hl g e).1; omega)).set (by omega), (h.on.gr hG hq (fun g e => by have := (hl g e).1; omega)).then2 ((Only2.refl q rw W4).set (o := 10) x') hq (by omega), (h.rr.of_block (hG.g.block _ (by omega) (fun e => by have := (hl _ e.symm).1; omega))).of_block (Below.heap_setCell W4 ⟨rw, 10, none⟩ x' w.heap.size (show w.heap.size ≠ rw by omega)), rowS_set (k := 3) (h.rwr.of_block (hG.g.block _ hs (fun e => by have := (hl _ e.symm).1; omega))) h.zl rfl (by omega) rfl, h.zl, ownsRow_setCell_below (owns_gr h.oi hG h.ap.io) (show rw < rw + 1 by omega) _, ownsRow_setCell_below (owns_gr h.ov hG h.ap.xo) (show rw < rw + 1 by omega) _, ownsRow_setCell_below (owns_gr h.oe hG h.ap.eo) (show rw < rw + 1 by omega) _, ownsRow_setCell_below ho (show rw < rw + 1 by omega) _, ⟨h.ap.iv, h.ap.ie, (fun g h1 h2 => gr_apart hG (fun g x y => h.ap.io g y x) (fun g e => (h.oi.lt g e).2) g h2 h1), h.ap.xe, (fun g h1 h2 => gr_apart hG (fun g x y => h.ap.xo g y x) (fun g e => (h.ov.lt g e).2) g h2 h1), (fun g h1 h2 => gr_apart hG (fun g x y => h.ap.eo g y x) (fun g e => (h.oe.lt g e).2) g h2 h1)⟩, hq, hr, by simp; omega⟩
end Go.Proofs.YtiljjhipiinafaaGreat
