/- Words, as they lie in memory; the exact laws' eq, sz, to of them. -/
import Derived.Test.YtiljjhipiinafaaGreatInts1
import Derived.Test.YtiljjhipiinafaaGreatFlatOut
import Derived.Test.YtiljjhipiinafaaGreatBox
import Derived.Test.YtiljjhipiinafaaGreatPast3
import Derived.Deep.Cut
namespace Go.Proofs.YtiljjhipiinafaaGreat
open Go.RowKit
set_option linter.unusedVariables false
set_option linter.unusedSimpArgs false

structure WordV where
  kind : Int
  frm : Int
  dst : Int
  inc : Int
  ver : Int
  rd : Int
  g : Int
  incs : List Int
  vers : List Int
  evs : List EvV
  outs : List OutV

abbrev wordCells (n : WordV) (vi vv ve vo : Value) : List Value := [.int .i64 n.kind, .int .i64 n.frm, .int .i64 n.dst, .int .i64 n.inc, .int .i64 n.ver, .int .i64 n.rd, .int .i64 n.g, vi, vv, ve, vo]
abbrev wordAgg (n : WordV) (vi vv ve vo : Value) : Value := .agg #[.int .i64 n.kind, .int .i64 n.frm, .int .i64 n.dst, .int .i64 n.inc, .int .i64 n.ver, .int .i64 n.rd, .int .i64 n.g, vi, vv, ve, vo]

/-- The lists of a word. -/
structure WordAt (w : World) (n : WordV) (vi vv ve vo : Value) : Prop where
  i : NumsAt w vi n.incs
  v : NumsAt w vv n.vers
  e : RowsAt 7 w ve (n.evs.map evRow)
  o : RowsAt 5 w vo (n.outs.map outRow)

/-- The lists of a word, each in memory of its own, from block N on. -/
structure WordFr (N : Nat) (w : World) (n : WordV) (vi vv ve vo : Value) : Prop where
  i : RowsFr N 3 1 w vi (n.incs.map fun z => [z])
  v : RowsFr N 3 1 w vv (n.vers.map fun z => [z])
  e : RowsFr N 56 7 w ve (n.evs.map evRow)
  o : RowsFr N 60 5 w vo (n.outs.map outRow)

theorem WordFr.at {N : Nat} {w : World} {n : WordV} {vi vv ve vo : Value} (h : WordFr N w n vi vv ve vo) : WordAt w n vi vv ve vo := ⟨h.i.at, h.v.at, h.e.at, h.o.at⟩
theorem WordFr.on {N : Nat} {w w' : World} {n : WordV} {vi vv ve vo : Value} (hb : Below w.heap.size w w') (h : WordFr N w n vi vv ve vo) : WordFr N w' n vi vv ve vo := ⟨h.i.on hb, h.v.on hb, h.e.on hb, h.o.on hb⟩
theorem WordFr.less {N M : Nat} {w : World} {n : WordV} {vi vv ve vo : Value} (hNM : M ≤ N) (h : WordFr N w n vi vv ve vo) : WordFr M w n vi vv ve vo := ⟨h.i.less hNM, h.v.less hNM, h.e.less hNM, h.o.less hNM⟩
theorem WordFr.setV {N r o : Nat} {w : World} {n : WordV} {vi vv ve vo : Value} (h : WordFr N w n vi vv ve vo) (hr : r < N) (xs : List Value) : WordFr N (setVals w r o xs) n vi vv ve vo := ⟨h.i.setV hr xs, h.v.setV hr xs, h.e.setV hr xs, h.o.setV hr xs⟩

theorem WordAt.on {w w' : World} {n : WordV} {vi vv ve vo : Value} (hb : Below w.heap.size w w') (h : WordAt w n vi vv ve vo) : WordAt w' n vi vv ve vo :=
  ⟨h.i.on hb, h.v.on hb, h.e.on hb, h.o.on hb⟩

theorem rowsLen {α : Type} {f : α → List Int} {k : Nat} {w : World} {v : Value} {l : List α} (h : RowsAt k w v (l.map f)) : ∃ a c, v = .slice a l.length c := by
  obtain ⟨a, c, e, _⟩ := h
  rw [List.length_map] at e
  exact ⟨a, c, e⟩

theorem WordAt.sliced {w : World} {n : WordV} {vi vv ve vo : Value} (h : WordAt w n vi vv ve vo) :
    (∃ a c, vi = .slice a n.incs.length c) ∧ (∃ a c, vv = .slice a n.vers.length c) ∧ (∃ a c, ve = .slice a n.evs.length c) ∧ ∃ a c, vo = .slice a n.outs.length c :=
  ⟨h.i.sliced, h.v.sliced, rowsLen h.e, rowsLen h.o⟩

theorem RowsFr.setOther' {N t n r o : Nat} {w : World} {v u : Value} {rs : List (List Int)} (h : RowsFr N t n w v rs) (hr : r < N) : RowsFr N t n (w.setCell ⟨r, o, none⟩ u) v rs :=
  h.block (fun g hg _ => Below.heap_setCell w ⟨r, o, none⟩ u g (show g ≠ r by have := (h.blk g hg).1; omega))

theorem rowL_set {w : World} {q t n : Nat} {cs : List Value} (h : w.rowIs q t n (fun i => cs.getD i undef)) (j : Nat) (hj : j < cs.length) (u : Value) : (w.setCell ⟨q, j, none⟩ u).rowIs q t n (fun i => (cs.set j u).getD i undef) :=
  (setVals_row [u] j w _ h).congr (fun i hi => by
    by_cases e : i = j
    · subst e
      simp [hj]
    · have e2 : ¬ (j ≤ i ∧ i < j + [u].length) := by simp; omega
      have e3 : ¬ j = i := fun h => e h.symm
      simp only [e2, if_false]
      simp [List.getElem?_set, e3])

end Go.Proofs.YtiljjhipiinafaaGreat
