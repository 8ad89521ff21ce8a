/- Words: the exact laws' mark and held of them; toWord's lists apart. -/
import Derived.Test.YtiljjhipiinafaaGreatWord1
import Derived.Test.YtiljjhipiinafaaGreatNums2
import Derived.Test.YtiljjhipiinafaaGreatFlatOut
namespace Go.Proofs.YtiljjhipiinafaaGreat
open Go.RowKit
set_option linter.unusedVariables false
set_option linter.unusedSimpArgs false

/-- The lists of a word lie in blocks of their own, none in another one's. -/
structure Apart4 (vi vv ve vo : Value) : Prop where
  iv : ∀ g, vi.ownBlock = some g → vv.ownBlock ≠ some g
  ie : ∀ g, vi.ownBlock = some g → ve.ownBlock ≠ some g
  io : ∀ g, vi.ownBlock = some g → vo.ownBlock ≠ some g
  xe : ∀ g, vv.ownBlock = some g → ve.ownBlock ≠ some g
  xo : ∀ g, vv.ownBlock = some g → vo.ownBlock ≠ some g
  eo : ∀ g, ve.ownBlock = some g → vo.ownBlock ≠ some g

/-- The lists of a word, marked from k on. -/
structure WordMk (w : World) (k : Int) (n : WordV) (vi vv ve vo : Value) : Prop where
  i : RowsAt 1 w vi (markRows 1 k n.incs.length)
  v : RowsAt 1 w vv (markRows 1 (k + n.incs.length) n.vers.length)
  e : RowsAt 7 w ve (markRows 7 (k + n.incs.length + n.vers.length) n.evs.length)
  o : RowsAt 5 w vo (markRows 5 (k + n.incs.length + n.vers.length + 7 * n.evs.length) n.outs.length)

theorem WordMk.on {w w' : World} {k : Int} {n : WordV} {vi vv ve vo : Value} (hb : Below w.heap.size w w') (h : WordMk w k n vi vv ve vo) : WordMk w' k n vi vv ve vo := ⟨h.i.on hb, h.v.on hb, h.e.on hb, h.o.on hb⟩

/-- What a word's marks write: its lists' blocks alone. -/
structure Only4 (vi vv ve vo : Value) (w w' : World) : Prop where
  size : w.heap.size ≤ w'.heap.size
  other : ∀ b, b < w.heap.size → vi.ownBlock ≠ some b → vv.ownBlock ≠ some b → ve.ownBlock ≠ some b → vo.ownBlock ≠ some b → w'.heap[b]? = w.heap[b]?
  below : ∀ B, B ≤ w.heap.size → (∀ g, vi.ownBlock = some g ∨ vv.ownBlock = some g ∨ ve.ownBlock = some g ∨ vo.ownBlock = some g → B ≤ g) → Below B w w'

def wordSz (n : WordV) : Int := n.incs.length + n.vers.length + 7 * n.evs.length + 5 * n.outs.length

theorem RowsFr.ne {N t n : Nat} {w w' : World} {v u : Value} {rs : List (List Int)} (h : RowsFr N t n w u rs) (ho : OnlyOf v w w') (ha : ∀ g, v.ownBlock = some g → u.ownBlock ≠ some g) : RowsFr N t n w' u rs :=
  h.other ho (by
    cases hu : u.ownBlock with
    | none => exact Or.inl rfl
    | some g => exact Or.inr (fun e => ha g e.symm hu))

end Go.Proofs.YtiljjhipiinafaaGreat
