/- What was done, as it lies in memory: twelve cells each; the exact laws' eq, sz, to of it, of lists of it, of lanes. -/
import Derived.Test.YtiljjhipiinafaaGreatFlatEvent
import Derived.Test.YtiljjhipiinafaaGreatFlatOut
import Derived.Test.YtiljjhipiinafaaGreatEv
import Derived.Test.YtiljjhipiinafaaGreatBase
import Derived.BigQuiet
import Derived.Deep.Cut
import Derived.Deep.RegionHeld3
namespace Go.Proofs.YtiljjhipiinafaaGreat
open Go.RowKit
set_option linter.unusedVariables false
set_option linter.unusedSimpArgs false

structure PastV where
  ev : EvV
  st : StV
  sends : List EvV
  outs : List OutV

abbrev pastCells (p : PastV) (vs vo : Value) : List Value := [.int .i64 p.ev.time, .int .i64 p.ev.to, .int .i64 p.ev.src, .int .i64 p.ev.count, .int .i64 p.ev.n, .int .i64 p.ev.kind, .int .i64 p.ev.arg, .int .i64 p.st.x, .int .i64 p.st.y, .int .i64 p.st.c, vs, vo]
abbrev pastAgg (p : PastV) (vs vo : Value) : Value := .agg #[.int .i64 p.ev.time, .int .i64 p.ev.to, .int .i64 p.ev.src, .int .i64 p.ev.count, .int .i64 p.ev.n, .int .i64 p.ev.kind, .int .i64 p.ev.arg, .int .i64 p.st.x, .int .i64 p.st.y, .int .i64 p.st.c, vs, vo]

/-- The two lists of it. -/
structure PastAt (w : World) (vs vo : Value) (p : PastV) : Prop where
  s : RowsAt 7 w vs (p.sends.map evRow)
  o : RowsAt 5 w vo (p.outs.map outRow)

theorem PastAt.on {w w' : World} {vs vo : Value} {p : PastV} (hb : Below w.heap.size w w') (h : PastAt w vs vo p) : PastAt w' vs vo p := ⟨h.s.on hb, h.o.on hb⟩

structure PastFr (N : Nat) (w : World) (vs vo : Value) (p : PastV) : Prop where
  s : RowsFr N 56 7 w vs (p.sends.map evRow)
  o : RowsFr N 60 5 w vo (p.outs.map outRow)

theorem PastFr.at {N : Nat} {w : World} {vs vo : Value} {p : PastV} (h : PastFr N w vs vo p) : PastAt w vs vo p := ⟨h.s.at, h.o.at⟩
theorem PastFr.on {N : Nat} {w w' : World} {vs vo : Value} {p : PastV} (hb : Below w.heap.size w w') (h : PastFr N w vs vo p) : PastFr N w' vs vo p := ⟨h.s.on hb, h.o.on hb⟩

/-- Its cells, from a place on. -/
def CellsAt (w : World) (b o : Nat) (cs : List Value) : Prop := ∀ j (h : j < cs.length), w.cell? ⟨b, o + j, none⟩ = some cs[j]

theorem CellsAt.on {w w' : World} {b o : Nat} {cs : List Value} (hb : Below w.heap.size w w') (h : CellsAt w b o cs) : CellsAt w' b o cs := fun j hj => cell_on hb (h j hj)

/-- A list of such, wherever it lies. -/
def PastsAt (w : World) (v : Value) (ps : List PastV) : Prop :=
  ∃ (ad : Option Addr) (cap : Nat), v = .slice ad ps.length cap ∧ ps.length ≤ cap ∧ ps.length ≤ maxLen ∧
    (ps = [] ∨ ∃ b off, ad = some ⟨b, off, none⟩ ∧ ∀ i (h : i < ps.length), ∃ vs vo, CellsAt w b (off + i * 12) (pastCells ps[i] vs vo) ∧ PastAt w vs vo ps[i])

theorem PastsAt.on {w w' : World} {v : Value} {ps : List PastV} (hb : Below w.heap.size w w') (h : PastsAt w v ps) : PastsAt w' v ps := by
  obtain ⟨ad, cap, hv, hl, hm, h⟩ := h
  refine ⟨ad, cap, hv, hl, hm, ?_⟩
  rcases h with h | ⟨b, off, had, hc⟩
  · exact Or.inl h
  · refine Or.inr ⟨b, off, had, fun i hi => ?_⟩
    obtain ⟨vs, vo, h1, h2⟩ := hc i hi
    exact ⟨vs, vo, h1.on hb, h2.on hb⟩

end Go.Proofs.YtiljjhipiinafaaGreat
