/- Views, lists of views, lists of numbers, as they lie in memory; the exact laws' eq of them. -/
import Derived.Test.YtiljjhipiinafaaGreatFlatEvent
import Derived.Test.YtiljjhipiinafaaGreatPast1
import Derived.Test.YtiljjhipiinafaaGreatBox
namespace Go.Proofs.YtiljjhipiinafaaGreat
open Go.RowKit
set_option linter.unusedVariables false
set_option linter.unusedSimpArgs false

structure ViewV where
  inc : Int
  ver : Int
  es : List EvV

abbrev viewCells (i r : Int) (v : Value) : List Value := [.int .i64 i, .int .i64 r, v]
abbrev viewAgg (i r : Int) (v : Value) : Value := .agg #[.int .i64 i, .int .i64 r, v]

/-- A list of such, wherever it lies. -/
def ViewsAt (w : World) (v : Value) (ls : List ViewV) : Prop :=
  ∃ (ad : Option Addr) (cap : Nat), v = .slice ad ls.length cap ∧ ls.length ≤ cap ∧ ls.length ≤ maxLen ∧
    (ls = [] ∨ ∃ b off, ad = some ⟨b, off, none⟩ ∧ ∀ i (h : i < ls.length), ∃ vd, CellsAt w b (off + i * 3) (viewCells ls[i].inc ls[i].ver vd) ∧ RowsAt 7 w vd (ls[i].es.map evRow))

theorem ViewsAt.on {w w' : World} {v : Value} {ls : List ViewV} (hb : Below w.heap.size w w') (h : ViewsAt w v ls) : ViewsAt w' v ls := by
  obtain ⟨ad, cap, hv, hl, hm, h⟩ := h
  refine ⟨ad, cap, hv, hl, hm, ?_⟩
  rcases h with h | ⟨b, off, had, hc⟩
  · exact Or.inl h
  · refine Or.inr ⟨b, off, had, fun i hi => ?_⟩
    obtain ⟨vd, h1, h2⟩ := hc i hi
    exact ⟨vd, h1.on hb, h2.on hb⟩

theorem ViewsAt.sliced {w : World} {v : Value} {ls : List ViewV} (h : ViewsAt w v ls) : ∃ a c, v = .slice a ls.length c := by
  obtain ⟨ad, cap, hv, _⟩ := h; exact ⟨ad, cap, hv⟩

/-- A list of numbers. -/
abbrev NumsAt (w : World) (v : Value) (zs : List Int) : Prop := RowsAt 1 w v (zs.map fun z => [z])

end Go.Proofs.YtiljjhipiinafaaGreat
