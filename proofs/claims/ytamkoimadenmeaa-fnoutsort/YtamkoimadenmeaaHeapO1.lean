/- impl's heap of things let out: swap. -/
import Derived.Test.YtamkoimadenmeaaFlatOut2
import Derived.Test.YtamkoimadenmeaaEv
import Derived.Test.YtamkoimadenmeaaHeap
import Derived.Test.YtamkoimadenmeaaHeapC
import Derived.BigRegion
import Derived.Deep.Cut
namespace Go.Proofs.Ytamkoimadenmeaa
open Go.RowKit
set_option linter.unusedVariables false
set_option linter.unusedSimpArgs false

theorem swapOut_mem {N t g cap i j : Nat} {os : List OutV} {a b : OutV} {w : World} (h : RowsFr N t 5 w (.slice (some ⟨g, 0, none⟩) os.length cap) (os.map outRow)) (hi : i < os.length) (hj : j < os.length) :
    RowsFr N t 5 (setRow (setRow w g (i * 5) (outRow b)) g (j * 5) (outRow a)).drew (.slice (some ⟨g, 0, none⟩) os.length cap) ((swapL os i j a b).map outRow) ∧ OnlyOf (.slice (some ⟨g, 0, none⟩) os.length cap) w (setRow (setRow w g (i * 5) (outRow b)) g (j * 5) (outRow a)).drew := by
  have hla : (outRow a).length = 5 := rfl
  have hlb : (outRow b).length = 5 := rfl
  have e1 := h.setAt (k := i) (by simpa using hi) (outRow b) hlb
  have e2 := e1.setAt (k := j) (by simpa using hj) (outRow a) hla
  have hsw : ((os.map outRow).set i (outRow b)).set j (outRow a) = (swapL os i j a b).map outRow := by simp [swapL, List.map_set]
  rw [hsw] at e2
  exact ⟨e2.drew, (((OnlyOf.refl (.slice (some ⟨g, 0, none⟩) os.length cap) w).row (i * 5) (outRow b)).row (j * 5) (outRow a)).drew⟩

set_option maxRecDepth 100000 in
set_option maxHeartbeats 1000000 in
theorem swapOut_any (N t q i j : Nat) (v : Value) (os : List OutV) (a b : OutV) (w : World) (h : RowsFr N t 5 w v (os.map outRow)) (ha : os[i]? = some a) (hb : os[j]? = some b)
    (hij : i ≠ j) (hq : v.ownBlock ≠ some q) (hc : w.cell? ⟨q, 0, none⟩ = some v) :
    Calls Try.prog 25 #[.pointer (some ⟨q, 0, none⟩), .int .i64 i, .int .i64 j] w fun e w' => e = .returned (.tuple #[]) ∧ RowsFr N t 5 w' v ((swapL os i j a b).map outRow) ∧ OnlyOf v w w' := by
  have hi : i < os.length := (List.getElem?_eq_some_iff.1 ha).1
  have hj : j < os.length := (List.getElem?_eq_some_iff.1 hb).1
  have ea : os[i] = a := (List.getElem?_eq_some_iff.1 ha).2
  have eb : os[j] = b := (List.getElem?_eq_some_iff.1 hb).2
  obtain ⟨g, cap, rfl, hl, hm, hcs, hfz⟩ := h.own (by intro e; have : (os.map outRow).length = 0 := by rw [e]; rfl
                                                      simp at this; subst this; simp at hi)
  simp only [List.length_map] at h hl hcs hc hq ⊢
  unfold maxLen at hm
  have A0 := hcs i hi 0 (by omega)
  have A1 := hcs i hi 1 (by omega)
  have A2 := hcs i hi 2 (by omega)
  have A3 := hcs i hi 3 (by omega)
  have A4 := hcs i hi 4 (by omega)
  have B0 := hcs j hj 0 (by omega)
  have B1 := hcs j hj 1 (by omega)
  have B2 := hcs j hj 2 (by omega)
  have B3 := hcs j hj 3 (by omega)
  have B4 := hcs j hj 4 (by omega)
  simp only [List.getElem_map, ea, eb] at A0 A1 A2 A3 A4 B0 B1 B2 B3 B4
  simp [outRow] at A0 A1 A2 A3 A4 B0 B1 B2 B3 B4
  have hgq : ¬ q = g := fun e => hq (by simp [Value.ownBlock, e])
  have hgq2 : ¬ g = q := fun e => hgq e.symm
  have hi0 : (0 : Int) ≤ (i : Int) := by omega
  have hj0 : (0 : Int) ≤ (j : Int) := by omega
  have hiI : (i : Int) < (os.length : Int) := by omega
  have hjI : (j : Int) < (os.length : Int) := by omega
  have d0 : ¬ j = i := fun e => hij e.symm
  have e0 : ¬ i = j := hij
  have d1 : ¬ j * 5 + 1 = i * 5 := by omega
  have e1 : ¬ j * 5 = i * 5 + 1 := by omega
  have f1 : ¬ i * 5 + 1 = j * 5 := by omega
  have g1 : ¬ i * 5 = j * 5 + 1 := by omega
  have d2 : ¬ j * 5 + 2 = i * 5 := by omega
  have e2 : ¬ j * 5 = i * 5 + 2 := by omega
  have f2 : ¬ i * 5 + 2 = j * 5 := by omega
  have g2 : ¬ i * 5 = j * 5 + 2 := by omega
  have d3 : ¬ j * 5 + 3 = i * 5 := by omega
  have e3 : ¬ j * 5 = i * 5 + 3 := by omega
  have f3 : ¬ i * 5 + 3 = j * 5 := by omega
  have g3 : ¬ i * 5 = j * 5 + 3 := by omega
  have d4 : ¬ j * 5 + 4 = i * 5 := by omega
  have e4 : ¬ j * 5 = i * 5 + 4 := by omega
  have f4 : ¬ i * 5 + 4 = j * 5 := by omega
  have g4 : ¬ i * 5 = j * 5 + 4 := by omega
  have hend := swapOut_mem (a := a) (b := b) h hi hj
  simp only [setRow, outRow, Nat.add_assoc, Nat.reduceAdd] at hend
  have HEND := hide hend
  clear h hcs ha hb ea eb hq hend
  go_enter Try.func25, Try.ntmps25
  go_region
  exact bodyPost_end (results_none rfl _ _ _) rfl ⟨rfl, (unhide HEND).1, (unhide HEND).2⟩
end Go.Proofs.Ytamkoimadenmeaa
