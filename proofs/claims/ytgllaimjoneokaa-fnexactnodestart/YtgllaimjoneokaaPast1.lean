/- What was done, as it lies in memory: twelve cells each; the exact laws' eq, sz, to of it, of lists of it, of lanes. -/
import Derived.Test.YtgllaimjoneokaaFlatEvent
import Derived.Test.YtgllaimjoneokaaFlatOut
import Derived.Test.YtgllaimjoneokaaEv
import Derived.Test.YtgllaimjoneokaaBase
import Derived.BigQuiet
import Derived.Deep.Cut
import Derived.Deep.RegionHeld3
namespace Go.Proofs.Ytgllaimjoneokaa
open Go.RowKit
set_option linter.unusedVariables false
set_option linter.unusedSimpArgs false

structure PastV where
  ev : EvV
  st : StV
  sends : List EvV
  outs : List OutV

abbrev pastCells (p : PastV) (vs vo : Value) : List Value := [.int .i64 p.ev.time, .int .i64 p.ev.to, .int .i64 p.ev.src, .int .i64 p.ev.count, .int .i64 p.ev.n, .int .i64 p.ev.kind, .int .i64 p.ev.arg, .int .i64 p.st.x, .int .i64 p.st.y, .int .i64 p.st.c, vs, vo]
abbrev pastAgg (p : PastV) (vs vo : Value) : Value := .agg #[.int .i64 p.ev.time, .int .i64 p.ev.to, .int .i64 p.ev.src, .int .i64 p.ev.count, .int .i64 p.ev.n, .int .i64 p.ev.kind, .int .i64 p.ev.arg, .int .i64 p.st.x, .int .i64 p.st.y, .int .i64 p.st.c, vs, vo]

/-- The two lists of it. -/
structure PastAt (w : World) (vs vo : Value) (p : PastV) : Prop where
  s : RowsAt 7 w vs (p.sends.map evRow)
  o : RowsAt 5 w vo (p.outs.map outRow)

theorem PastAt.on {w w' : World} {vs vo : Value} {p : PastV} (hb : Below w.heap.size w w') (h : PastAt w vs vo p) : PastAt w' vs vo p := ⟨h.s.on hb, h.o.on hb⟩

structure PastFr (N : Nat) (w : World) (vs vo : Value) (p : PastV) : Prop where
  s : RowsFr N 61 7 w vs (p.sends.map evRow)
  o : RowsFr N 102 5 w vo (p.outs.map outRow)

theorem PastFr.at {N : Nat} {w : World} {vs vo : Value} {p : PastV} (h : PastFr N w vs vo p) : PastAt w vs vo p := ⟨h.s.at, h.o.at⟩
theorem PastFr.on {N : Nat} {w w' : World} {vs vo : Value} {p : PastV} (hb : Below w.heap.size w w') (h : PastFr N w vs vo p) : PastFr N w' vs vo p := ⟨h.s.on hb, h.o.on hb⟩

/-- Its cells, from a place on. -/
def CellsAt (w : World) (b o : Nat) (cs : List Value) : Prop := ∀ j (h : j < cs.length), w.cell? ⟨b, o + j, none⟩ = some cs[j]

theorem CellsAt.on {w w' : World} {b o : Nat} {cs : List Value} (hb : Below w.heap.size w w') (h : CellsAt w b o cs) : CellsAt w' b o cs := fun j hj => cell_on hb (h j hj)

/-- A list of such, wherever it lies. -/
def PastsAt (w : World) (v : Value) (ps : List PastV) : Prop :=
  ∃ (ad : Option Addr) (cap : Nat), v = .slice ad ps.length cap ∧ ps.length ≤ cap ∧ ps.length ≤ maxLen ∧
    (ps = [] ∨ ∃ b off, ad = some ⟨b, off, none⟩ ∧ ∀ i (h : i < ps.length), ∃ vs vo, CellsAt w b (off + i * 12) (pastCells ps[i] vs vo) ∧ PastAt w vs vo ps[i])

theorem PastsAt.on {w w' : World} {v : Value} {ps : List PastV} (hb : Below w.heap.size w w') (h : PastsAt w v ps) : PastsAt w' v ps := by
  obtain ⟨ad, cap, hv, hl, hm, h⟩ := h
  refine ⟨ad, cap, hv, hl, hm, ?_⟩
  rcases h with h | ⟨b, off, had, hc⟩
  · exact Or.inl h
  · refine Or.inr ⟨b, off, had, fun i hi => ?_⟩
    obtain ⟨vs, vo, h1, h2⟩ := hc i hi
    exact ⟨vs, vo, h1.on hb, h2.on hb⟩

set_option maxRecDepth 100000 in
theorem eqPast_any (p : PastV) (vs vo us uo : Value) (w : World) (h1 : PastAt w vs vo p) (h2 : PastAt w us uo p) :
    Calls Try.prog 120 #[pastAgg p vs vo, pastAgg p us uo] w fun e w' => e = .returned (.bool true) ∧ Below w.heap.size w w' := by
  have H1 := hide h1
  have H2 := hide h2
  obtain ⟨a1, c1, e1, _⟩ := h1.s
  obtain ⟨a2, c2, e2, _⟩ := h1.o
  obtain ⟨a3, c3, e3, _⟩ := h2.s
  obtain ⟨a4, c4, e4, _⟩ := h2.o
  rw [List.length_map] at e1 e2 e3 e4
  subst e1 e2 e3 e4
  clear h1 h2
  have hb0 : Below w.heap.size w ((w.alloc (.cells #[.int .i64 p.ev.time, .int .i64 p.ev.to, .int .i64 p.ev.src, .int .i64 p.ev.count, .int .i64 p.ev.n, .int .i64 p.ev.kind, .int .i64 p.ev.arg, .int .i64 p.st.x, .int .i64 p.st.y, .int .i64 p.st.c, .slice a1 p.sends.length c1, .slice a2 p.outs.length c2] 127)).alloc (.cells #[.int .i64 p.ev.time, .int .i64 p.ev.to, .int .i64 p.ev.src, .int .i64 p.ev.count, .int .i64 p.ev.n, .int .i64 p.ev.kind, .int .i64 p.ev.arg, .int .i64 p.st.x, .int .i64 p.st.y, .int .i64 p.st.c, .slice a3 p.sends.length c3, .slice a4 p.outs.length c4] 127)) := ((Below.refl _ _).alloc (Nat.le_refl _) _).alloc (by simp) _
  have HB0 := hide hb0
  have cA : CellsAt ((w.alloc (.cells #[.int .i64 p.ev.time, .int .i64 p.ev.to, .int .i64 p.ev.src, .int .i64 p.ev.count, .int .i64 p.ev.n, .int .i64 p.ev.kind, .int .i64 p.ev.arg, .int .i64 p.st.x, .int .i64 p.st.y, .int .i64 p.st.c, .slice a1 p.sends.length c1, .slice a2 p.outs.length c2] 127)).alloc (.cells #[.int .i64 p.ev.time, .int .i64 p.ev.to, .int .i64 p.ev.src, .int .i64 p.ev.count, .int .i64 p.ev.n, .int .i64 p.ev.kind, .int .i64 p.ev.arg, .int .i64 p.st.x, .int .i64 p.st.y, .int .i64 p.st.c, .slice a3 p.sends.length c3, .slice a4 p.outs.length c4] 127)) w.heap.size 0 (pastCells p (.slice a1 p.sends.length c1) (.slice a2 p.outs.length c2)) := fun j hj => by
    match j, hj with
    | 0, _ => simp [go_sem]
    | 1, _ => simp [go_sem]
    | 2, _ => simp [go_sem]
    | 3, _ => simp [go_sem]
    | 4, _ => simp [go_sem]
    | 5, _ => simp [go_sem]
    | 6, _ => simp [go_sem]
    | 7, _ => simp [go_sem]
    | 8, _ => simp [go_sem]
    | 9, _ => simp [go_sem]
    | 10, _ => simp [go_sem]
    | 11, _ => simp [go_sem]
  have cB : CellsAt ((w.alloc (.cells #[.int .i64 p.ev.time, .int .i64 p.ev.to, .int .i64 p.ev.src, .int .i64 p.ev.count, .int .i64 p.ev.n, .int .i64 p.ev.kind, .int .i64 p.ev.arg, .int .i64 p.st.x, .int .i64 p.st.y, .int .i64 p.st.c, .slice a1 p.sends.length c1, .slice a2 p.outs.length c2] 127)).alloc (.cells #[.int .i64 p.ev.time, .int .i64 p.ev.to, .int .i64 p.ev.src, .int .i64 p.ev.count, .int .i64 p.ev.n, .int .i64 p.ev.kind, .int .i64 p.ev.arg, .int .i64 p.st.x, .int .i64 p.st.y, .int .i64 p.st.c, .slice a3 p.sends.length c3, .slice a4 p.outs.length c4] 127)) (w.heap.size + 1) 0 (pastCells p (.slice a3 p.sends.length c3) (.slice a4 p.outs.length c4)) := fun j hj => by
    match j, hj with
    | 0, _ => simp [go_sem]
    | 1, _ => simp [go_sem]
    | 2, _ => simp [go_sem]
    | 3, _ => simp [go_sem]
    | 4, _ => simp [go_sem]
    | 5, _ => simp [go_sem]
    | 6, _ => simp [go_sem]
    | 7, _ => simp [go_sem]
    | 8, _ => simp [go_sem]
    | 9, _ => simp [go_sem]
    | 10, _ => simp [go_sem]
    | 11, _ => simp [go_sem]
  have HA := hide cA
  have HB := hide cB
  clear hb0 cA cB
  go_enter Try.func120, Try.ntmps120
  go_upto_region 1 with fail
  generalize ((w.alloc (.cells #[.int .i64 p.ev.time, .int .i64 p.ev.to, .int .i64 p.ev.src, .int .i64 p.ev.count, .int .i64 p.ev.n, .int .i64 p.ev.kind, .int .i64 p.ev.arg, .int .i64 p.st.x, .int .i64 p.st.y, .int .i64 p.st.c, .slice a1 p.sends.length c1, .slice a2 p.outs.length c2] 127)).alloc (.cells #[.int .i64 p.ev.time, .int .i64 p.ev.to, .int .i64 p.ev.src, .int .i64 p.ev.count, .int .i64 p.ev.n, .int .i64 p.ev.kind, .int .i64 p.ev.arg, .int .i64 p.st.x, .int .i64 p.st.y, .int .i64 p.st.c, .slice a3 p.sends.length c3, .slice a4 p.outs.length c4] 127)) = W at *
  have ka0 : W.cell? ⟨w.heap.size, 0, none⟩ = some (.int .i64 p.ev.time) := (unhide HA) 0 (by simp)
  have ka1 : W.cell? ⟨w.heap.size, 1, none⟩ = some (.int .i64 p.ev.to) := (unhide HA) 1 (by simp)
  have ka2 : W.cell? ⟨w.heap.size, 2, none⟩ = some (.int .i64 p.ev.src) := (unhide HA) 2 (by simp)
  have ka3 : W.cell? ⟨w.heap.size, 3, none⟩ = some (.int .i64 p.ev.count) := (unhide HA) 3 (by simp)
  have ka4 : W.cell? ⟨w.heap.size, 4, none⟩ = some (.int .i64 p.ev.n) := (unhide HA) 4 (by simp)
  have ka5 : W.cell? ⟨w.heap.size, 5, none⟩ = some (.int .i64 p.ev.kind) := (unhide HA) 5 (by simp)
  have ka6 : W.cell? ⟨w.heap.size, 6, none⟩ = some (.int .i64 p.ev.arg) := (unhide HA) 6 (by simp)
  have ka7 : W.cell? ⟨w.heap.size, 7, none⟩ = some (.int .i64 p.st.x) := (unhide HA) 7 (by simp)
  have ka8 : W.cell? ⟨w.heap.size, 8, none⟩ = some (.int .i64 p.st.y) := (unhide HA) 8 (by simp)
  have ka9 : W.cell? ⟨w.heap.size, 9, none⟩ = some (.int .i64 p.st.c) := (unhide HA) 9 (by simp)
  have ka10 : W.cell? ⟨w.heap.size, 10, none⟩ = some (.slice a1 p.sends.length c1) := (unhide HA) 10 (by simp)
  have ka11 : W.cell? ⟨w.heap.size, 11, none⟩ = some (.slice a2 p.outs.length c2) := (unhide HA) 11 (by simp)
  have kb0 : W.cell? ⟨w.heap.size + 1, 0, none⟩ = some (.int .i64 p.ev.time) := (unhide HB) 0 (by simp)
  have kb1 : W.cell? ⟨w.heap.size + 1, 1, none⟩ = some (.int .i64 p.ev.to) := (unhide HB) 1 (by simp)
  have kb2 : W.cell? ⟨w.heap.size + 1, 2, none⟩ = some (.int .i64 p.ev.src) := (unhide HB) 2 (by simp)
  have kb3 : W.cell? ⟨w.heap.size + 1, 3, none⟩ = some (.int .i64 p.ev.count) := (unhide HB) 3 (by simp)
  have kb4 : W.cell? ⟨w.heap.size + 1, 4, none⟩ = some (.int .i64 p.ev.n) := (unhide HB) 4 (by simp)
  have kb5 : W.cell? ⟨w.heap.size + 1, 5, none⟩ = some (.int .i64 p.ev.kind) := (unhide HB) 5 (by simp)
  have kb6 : W.cell? ⟨w.heap.size + 1, 6, none⟩ = some (.int .i64 p.ev.arg) := (unhide HB) 6 (by simp)
  have kb7 : W.cell? ⟨w.heap.size + 1, 7, none⟩ = some (.int .i64 p.st.x) := (unhide HB) 7 (by simp)
  have kb8 : W.cell? ⟨w.heap.size + 1, 8, none⟩ = some (.int .i64 p.st.y) := (unhide HB) 8 (by simp)
  have kb9 : W.cell? ⟨w.heap.size + 1, 9, none⟩ = some (.int .i64 p.st.c) := (unhide HB) 9 (by simp)
  have kb10 : W.cell? ⟨w.heap.size + 1, 10, none⟩ = some (.slice a3 p.sends.length c3) := (unhide HB) 10 (by simp)
  have kb11 : W.cell? ⟨w.heap.size + 1, 11, none⟩ = some (.slice a4 p.outs.length c4) := (unhide HB) 11 (by simp)
  go_wp2_with fail
  refine (eqEvent_any _ _ _ _ _ _ _ _).mono ?_
  rintro e w1 ⟨rfl, hb1⟩
  replace ka7 := cell_on hb1 ka7
  replace ka8 := cell_on hb1 ka8
  replace ka9 := cell_on hb1 ka9
  replace ka10 := cell_on hb1 ka10
  replace ka11 := cell_on hb1 ka11
  replace kb7 := cell_on hb1 kb7
  replace kb8 := cell_on hb1 kb8
  replace kb9 := cell_on hb1 kb9
  replace kb10 := cell_on hb1 kb10
  replace kb11 := cell_on hb1 kb11
  go_wp2_with fail
  refine (eqState_any _ _ _ _).mono ?_
  rintro e w2 ⟨rfl, hb2⟩
  replace ka10 := cell_on hb2 ka10
  replace ka11 := cell_on hb2 ka11
  replace kb10 := cell_on hb2 kb10
  replace kb11 := cell_on hb2 kb11
  have hB2 := below_then (unhide HB0) (below_then hb1 hb2)
  go_wp2_with fail
  refine (eqEventS_any _ _ _ w2 ((unhide H1).s.on hB2) ((unhide H2).s.on hB2)).mono ?_
  rintro e w3 ⟨rfl, hb3⟩
  replace ka11 := cell_on hb3 ka11
  replace kb11 := cell_on hb3 kb11
  have hB3 := below_then hB2 hb3
  go_wp2_with fail
  refine (eqOutS_any _ _ _ w3 ((unhide H1).o.on hB3) ((unhide H2).o.on hB3)).mono ?_
  rintro e w4 ⟨rfl, hb4⟩
  go_wp2_with fail
  go_ret
  exact ⟨rfl, below_then hB3 hb4⟩
end Go.Proofs.Ytgllaimjoneokaa
