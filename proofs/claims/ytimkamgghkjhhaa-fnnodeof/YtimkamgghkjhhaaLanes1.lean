/- Lists of lanes, as they lie in memory; the exact laws' eq of them. -/
import Derived.Test.YtimkamgghkjhhaaPast2
import Derived.Test.YtimkamgghkjhhaaBox
namespace Go.Proofs.Ytimkamgghkjhhaa
open Go.RowKit
set_option linter.unusedVariables false
set_option linter.unusedSimpArgs false

structure LaneV where
  proc : Int
  s : StV
  ps : List PastV

/-- A list of such, wherever it lies. -/
def LanesAt (w : World) (v : Value) (ls : List LaneV) : Prop :=
  ∃ (ad : Option Addr) (cap : Nat), v = .slice ad ls.length cap ∧ ls.length ≤ cap ∧ ls.length ≤ maxLen ∧
    (ls = [] ∨ ∃ b off, ad = some ⟨b, off, none⟩ ∧ ∀ i (h : i < ls.length), ∃ vd, CellsAt w b (off + i * 5) (laneCells ls[i].proc ls[i].s vd) ∧ PastsAt w vd ls[i].ps)

theorem LanesAt.on {w w' : World} {v : Value} {ls : List LaneV} (hb : Below w.heap.size w w') (h : LanesAt w v ls) : LanesAt w' v ls := by
  obtain ⟨ad, cap, hv, hl, hm, h⟩ := h
  refine ⟨ad, cap, hv, hl, hm, ?_⟩
  rcases h with h | ⟨b, off, had, hc⟩
  · exact Or.inl h
  · refine Or.inr ⟨b, off, had, fun i hi => ?_⟩
    obtain ⟨vd, h1, h2⟩ := hc i hi
    exact ⟨vd, h1.on hb, h2.on hb⟩

theorem LanesAt.sliced {w : World} {v : Value} {ls : List LaneV} (h : LanesAt w v ls) : ∃ a c, v = .slice a ls.length c := by
  obtain ⟨ad, cap, hv, _⟩ := h; exact ⟨ad, cap, hv⟩

end Go.Proofs.Ytimkamgghkjhhaa
