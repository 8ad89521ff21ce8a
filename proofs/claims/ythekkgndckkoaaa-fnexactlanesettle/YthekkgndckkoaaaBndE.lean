/- Several texts in one. -/
import Derived.Test.YthekkgndckkoaaaFlatEvent
import Derived.Test.YthekkgndckkoaaaEv
import Derived.Test.YthekkgndckkoaaaHeap
import Derived.Test.YthekkgndckkoaaaHeapC
import Derived.BigRegion
import Derived.Deep.Cut
import Derived.Test.YthekkgndckkoaaaLess3
import Derived.Deep.RegionHeld3
import Derived.BigQuiet
import Derived.Test.YthekkgndckkoaaaHeld
import Derived.Test.YthekkgndckkoaaaMapE
/- impl's heap of events: swap. -/
namespace Go.Proofs.Ythekkgndckkoaaa.E
open Go.RowKit
set_option linter.unusedVariables false
set_option linter.unusedSimpArgs false

theorem swapEv_mem {N t g cap i j : Nat} {os : List EvV} {a b : EvV} {w : World} (h : RowsFr N t 7 w (.slice (some ⟨g, 0, none⟩) os.length cap) (os.map evRow)) (hi : i < os.length) (hj : j < os.length) :
    RowsFr N t 7 (setRow (setRow w g (i * 7) (evRow b)) g (j * 7) (evRow a)).drew (.slice (some ⟨g, 0, none⟩) os.length cap) ((swapL os i j a b).map evRow) ∧ OnlyOf (.slice (some ⟨g, 0, none⟩) os.length cap) w (setRow (setRow w g (i * 7) (evRow b)) g (j * 7) (evRow a)).drew := by
  have hla : (evRow a).length = 7 := rfl
  have hlb : (evRow b).length = 7 := rfl
  have e1 := h.setAt (k := i) (by simpa using hi) (evRow b) hlb
  have e2 := e1.setAt (k := j) (by simpa using hj) (evRow a) hla
  have hsw : ((os.map evRow).set i (evRow b)).set j (evRow a) = (swapL os i j a b).map evRow := by simp [swapL, List.map_set]
  rw [hsw] at e2
  exact ⟨e2.drew, (((OnlyOf.refl (.slice (some ⟨g, 0, none⟩) os.length cap) w).row (i * 7) (evRow b)).row (j * 7) (evRow a)).drew⟩

set_option maxRecDepth 100000 in
set_option maxHeartbeats 1000000 in
theorem swapEv_any (N t q i j : Nat) (v : Value) (os : List EvV) (a b : EvV) (w : World) (h : RowsFr N t 7 w v (os.map evRow)) (ha : os[i]? = some a) (hb : os[j]? = some b)
    (hij : i ≠ j) (hq : v.ownBlock ≠ some q) (hc : w.cell? ⟨q, 0, none⟩ = some v) :
    Calls Try.prog 115 #[.pointer (some ⟨q, 0, none⟩), .int .i64 i, .int .i64 j] w fun e w' => e = .returned (.tuple #[]) ∧ RowsFr N t 7 w' v ((swapL os i j a b).map evRow) ∧ OnlyOf v w w' := by
  have hi : i < os.length := (List.getElem?_eq_some_iff.1 ha).1
  have hj : j < os.length := (List.getElem?_eq_some_iff.1 hb).1
  have ea : os[i] = a := (List.getElem?_eq_some_iff.1 ha).2
  have eb : os[j] = b := (List.getElem?_eq_some_iff.1 hb).2
  obtain ⟨g, cap, rfl, hl, hm, hcs, hfz⟩ := h.own (by intro e; have : (os.map evRow).length = 0 := by rw [e]; rfl
                                                      simp at this; subst this; simp at hi)
  simp only [List.length_map] at h hl hcs hc hq ⊢
  unfold maxLen at hm
  have A0 := hcs i hi 0 (by omega)
  have A1 := hcs i hi 1 (by omega)
  have A2 := hcs i hi 2 (by omega)
  have A3 := hcs i hi 3 (by omega)
  have A4 := hcs i hi 4 (by omega)
  have A5 := hcs i hi 5 (by omega)
  have A6 := hcs i hi 6 (by omega)
  have B0 := hcs j hj 0 (by omega)
  have B1 := hcs j hj 1 (by omega)
  have B2 := hcs j hj 2 (by omega)
  have B3 := hcs j hj 3 (by omega)
  have B4 := hcs j hj 4 (by omega)
  have B5 := hcs j hj 5 (by omega)
  have B6 := hcs j hj 6 (by omega)
  simp only [List.getElem_map, ea, eb] at A0 A1 A2 A3 A4 A5 A6 B0 B1 B2 B3 B4 B5 B6
  simp [evRow] at A0 A1 A2 A3 A4 A5 A6 B0 B1 B2 B3 B4 B5 B6
  have hgq : ¬ q = g := fun e => hq (by simp [Value.ownBlock, e])
  have hgq2 : ¬ g = q := fun e => hgq e.symm
  have hi0 : (0 : Int) ≤ (i : Int) := by omega
  have hj0 : (0 : Int) ≤ (j : Int) := by omega
  have hiI : (i : Int) < (os.length : Int) := by omega
  have hjI : (j : Int) < (os.length : Int) := by omega
  have d0 : ¬ j = i := fun e => hij e.symm
  have e0 : ¬ i = j := hij
  have d1 : ¬ j * 7 + 1 = i * 7 := by omega
  have e1 : ¬ j * 7 = i * 7 + 1 := by omega
  have f1 : ¬ i * 7 + 1 = j * 7 := by omega
  have g1 : ¬ i * 7 = j * 7 + 1 := by omega
  have d2 : ¬ j * 7 + 2 = i * 7 := by omega
  have e2 : ¬ j * 7 = i * 7 + 2 := by omega
  have f2 : ¬ i * 7 + 2 = j * 7 := by omega
  have g2 : ¬ i * 7 = j * 7 + 2 := by omega
  have d3 : ¬ j * 7 + 3 = i * 7 := by omega
  have e3 : ¬ j * 7 = i * 7 + 3 := by omega
  have f3 : ¬ i * 7 + 3 = j * 7 := by omega
  have g3 : ¬ i * 7 = j * 7 + 3 := by omega
  have d4 : ¬ j * 7 + 4 = i * 7 := by omega
  have d5 : ¬ j * 7 + 5 = i * 7 := by omega
  have d6 : ¬ j * 7 + 6 = i * 7 := by omega
  have e4 : ¬ j * 7 = i * 7 + 4 := by omega
  have e5 : ¬ j * 7 = i * 7 + 5 := by omega
  have e6 : ¬ j * 7 = i * 7 + 6 := by omega
  have f4 : ¬ i * 7 + 4 = j * 7 := by omega
  have f5 : ¬ i * 7 + 5 = j * 7 := by omega
  have f6 : ¬ i * 7 + 6 = j * 7 := by omega
  have g4 : ¬ i * 7 = j * 7 + 4 := by omega
  have g5 : ¬ i * 7 = j * 7 + 5 := by omega
  have g6 : ¬ i * 7 = j * 7 + 6 := by omega
  have hend := swapEv_mem (a := a) (b := b) h hi hj
  simp only [setRow, evRow, Nat.add_assoc, Nat.reduceAdd] at hend
  have HEND := hide hend
  clear h hcs ha hb ea eb hq hend
  go_enter Try.func115, Try.ntmps115
  go_region
  exact bodyPost_end (results_none rfl _ _ _) rfl ⟨rfl, (unhide HEND).1, (unhide HEND).2⟩
end Go.Proofs.Ythekkgndckkoaaa.E
/- impl's heap of events: rise. -/
namespace Go.Proofs.Ythekkgndckkoaaa.E
open Go.RowKit
set_option linter.unusedVariables false
set_option linter.unusedSimpArgs false

/-- A heap of outs in memory: its struct at block q, its list at v. -/
structure HeapM (N t q : Nat) (v : Value) (w : World) (os : List EvV) : Prop where
  rows : RowsFr N t 7 w v (os.map evRow)
  ne : v.ownBlock ≠ some q
  c0 : w.cell? ⟨q, 0, none⟩ = some v
  c1 : w.cell? ⟨q, 1, none⟩ = some (.func (.func 79) #[] #[])

theorem HeapM.on {N t q : Nat} {v : Value} {w w' : World} {os : List EvV} (hb : Below w.heap.size w w') (h : HeapM N t q v w os) : HeapM N t q v w' os :=
  ⟨h.rows.on hb, h.ne, cell_on hb h.c0, cell_on hb h.c1⟩

theorem swapEv_heap (N t q i j : Nat) (v : Value) (os : List EvV) (a b : EvV) (w : World) (h : HeapM N t q v w os) (ha : os[i]? = some a) (hb : os[j]? = some b) (hij : i ≠ j) :
    Calls Try.prog 115 #[.pointer (some ⟨q, 0, none⟩), .int .i64 i, .int .i64 j] w fun e w' => e = .returned (.tuple #[]) ∧ HeapM N t q v w' (swapL os i j a b) ∧ Grow v w w' := by
  refine (swapEv_any N t q i j v os a b w h.rows ha hb hij h.ne h.c0).mono ?_
  rintro e w' ⟨rfl, h1, h2⟩
  have hg := Grow.ofOnly h2
  exact ⟨rfl, ⟨h1, h.ne, hg.cell h.ne h.c0, hg.cell h.ne h.c1⟩, hg⟩

theorem sRise_of {W w' : World} {q g m n : Nat} {v : Value} {a b : EvV} (h0 : W.cell? ⟨q, 0, none⟩ = some v) (h1 : W.cell? ⟨q, 1, none⟩ = some (.func (.func 79) #[] #[]))
    (A : ∀ j, j < 7 → W.cell? ⟨g, m + j, none⟩ = some (.int .i64 ((evRow a).getD j 0))) (B : ∀ j, j < 7 → W.cell? ⟨g, n + j, none⟩ = some (.int .i64 ((evRow b).getD j 0))) (hb : Below W.heap.size W w') :
    w'.cell? ⟨q, 0, none⟩ = some v ∧ w'.cell? ⟨q, 1, none⟩ = some (.func (.func 79) #[] #[]) ∧
    w'.cell? ⟨g, m, none⟩ = some (.int .i64 a.time) ∧ w'.cell? ⟨g, m + 1, none⟩ = some (.int .i64 a.to) ∧ w'.cell? ⟨g, m + 2, none⟩ = some (.int .i64 a.src) ∧ w'.cell? ⟨g, m + 3, none⟩ = some (.int .i64 a.count) ∧ w'.cell? ⟨g, m + 4, none⟩ = some (.int .i64 a.n) ∧ w'.cell? ⟨g, m + 5, none⟩ = some (.int .i64 a.kind) ∧ w'.cell? ⟨g, m + 6, none⟩ = some (.int .i64 a.arg) ∧
    w'.cell? ⟨g, n, none⟩ = some (.int .i64 b.time) ∧ w'.cell? ⟨g, n + 1, none⟩ = some (.int .i64 b.to) ∧ w'.cell? ⟨g, n + 2, none⟩ = some (.int .i64 b.src) ∧ w'.cell? ⟨g, n + 3, none⟩ = some (.int .i64 b.count) ∧ w'.cell? ⟨g, n + 4, none⟩ = some (.int .i64 b.n) ∧ w'.cell? ⟨g, n + 5, none⟩ = some (.int .i64 b.kind) ∧ w'.cell? ⟨g, n + 6, none⟩ = some (.int .i64 b.arg) ∧ Below W.heap.size W w' :=
  ⟨cell_on hb h0, cell_on hb h1, cell_on hb (A 0 (by omega)), cell_on hb (A 1 (by omega)), cell_on hb (A 2 (by omega)), cell_on hb (A 3 (by omega)), cell_on hb (A 4 (by omega)), cell_on hb (A 5 (by omega)), cell_on hb (A 6 (by omega)), cell_on hb (B 0 (by omega)), cell_on hb (B 1 (by omega)), cell_on hb (B 2 (by omega)), cell_on hb (B 3 (by omega)), cell_on hb (B 4 (by omega)), cell_on hb (B 5 (by omega)), cell_on hb (B 6 (by omega)), hb⟩

theorem HeapM.at {N t q : Nat} {v : Value} {w : World} {os : List EvV} (h : HeapM N t q v w os) (hne : 0 < os.length) : ∃ g cap, v = .slice (some ⟨g, 0, none⟩) os.length cap ∧ os.length ≤ cap ∧ cap ≤ maxLen ∧ ∀ i (hi : i < os.length) j, j < 7 → w.cell? ⟨g, i * 7 + j, none⟩ = some (.int .i64 ((evRow os[i]).getD j 0)) := by
  obtain ⟨g, cap, h1, h2, h3, h4, _⟩ := h.rows.own (by intro e; rw [List.map_eq_nil_iff] at e; subst e; simp at hne)
  simp only [List.length_map] at h1 h2 h4
  exact ⟨g, cap, h1, h2, h3, fun i hi j hj => by have := h4 i hi j hj; rwa [List.getElem_map] at this⟩

set_option maxRecDepth 100000 in
set_option maxHeartbeats 1000000 in
theorem riseEv_any (S : Strict evLess) (N t q p : Nat) (v : Value) (os : List EvV) (w : World) (h : HeapM N t q v w os) (hR : RiseAt evLess os p) :
    Calls Try.prog 113 #[.pointer (some ⟨q, 0, none⟩), .int .i64 p] w fun e w' => e = .returned (.tuple #[]) ∧ ∃ os', os'.Perm os ∧ Heap evLess os' ∧ HeapM N t q v w' os' ∧ Grow v w w' := by
  have HH := hide h
  have HR := hide hR
  clear h hR
  go_enter Try.func113, Try.ntmps113
  go_wp2_with fail
  go_loopw [1] (fun i wr => ∃ (m : Nat) (xs : List EvV), i = .int .i64 m ∧ Hid (xs.Perm os) ∧ Hid (RiseAt evLess xs m) ∧ Hid (HeapM N t q v wr xs) ∧ Hid (Grow v w wr)) (fun i _ => (intOf i).toNat)
  case atStart => exact ⟨p, os, rfl, hide (List.Perm.refl _), HR, HH, hide (Grow.refl _ _)⟩
  case round =>
    obtain ⟨m, xs, rfl, HP, HRA, HM, HG⟩ := hrel
    have hlt := (unhide HRA).lt
    by_cases hm : m = 0
    · subst hm
      go_wp2_with fail
      (try simp only [Exit.inBlock, Exit.then])
      refine bodyPost_end (results_none rfl _ _ _) rfl ?_
      exact ⟨rfl, xs, unhide HP, (unhide HRA).top, unhide HM, unhide HG⟩
    · obtain ⟨g, cap, rfl, hl, hmx, hcs⟩ := (unhide HM).at (by omega)
      unfold maxLen at hmx
      have h0 := (unhide HM).c0
      have h1 := (unhide HM).c1
      have hA := hcs m hlt
      have hup : (m - 1) / 2 < xs.length := by omega
      have hB := hcs ((m - 1) / 2) hup
      have hm0 : (0 : Int) < (m : Int) := by omega
      have HXA : Hid (xs[m]? = some xs[m]) := hide (List.getElem?_eq_getElem hlt)
      have HXB : Hid (xs[(m - 1) / 2]? = some (xs[(m - 1) / 2]'hup)) := hide (List.getElem?_eq_getElem hup)
      go_upto_region 2 with fail
      generalize xs[m] = xa at *
      generalize xs[(m - 1) / 2]'hup = xb at *
      have hi0 : (0 : Int) ≤ (m : Int) := by omega
      have hiI : (m : Int) < (xs.length : Int) := by omega
      have hj0 : (0 : Int) ≤ (((m - 1) / 2 : Nat) : Int) := by omega
      have hjI : (((m - 1) / 2 : Nat) : Int) < (xs.length : Int) := by omega
      have hquo : ((m : Int) - 1) / 2 = (((m - 1) / 2 : Nat) : Int) := by omega
      simp only [hquo]
      generalize hU : (m - 1) / 2 = u at *
      go_region_held3 (fun w' => w'.cell? ⟨q, 0, none⟩ = some (.slice (some ⟨g, 0, none⟩) xs.length cap) ∧ w'.cell? ⟨q, 1, none⟩ = some (.func (.func 79) #[] #[]) ∧
    w'.cell? ⟨g, m * 7, none⟩ = some (.int .i64 xa.time) ∧ w'.cell? ⟨g, m * 7 + 1, none⟩ = some (.int .i64 xa.to) ∧ w'.cell? ⟨g, m * 7 + 2, none⟩ = some (.int .i64 xa.src) ∧ w'.cell? ⟨g, m * 7 + 3, none⟩ = some (.int .i64 xa.count) ∧ w'.cell? ⟨g, m * 7 + 4, none⟩ = some (.int .i64 xa.n) ∧ w'.cell? ⟨g, m * 7 + 5, none⟩ = some (.int .i64 xa.kind) ∧ w'.cell? ⟨g, m * 7 + 6, none⟩ = some (.int .i64 xa.arg) ∧
    w'.cell? ⟨g, u * 7, none⟩ = some (.int .i64 xb.time) ∧ w'.cell? ⟨g, u * 7 + 1, none⟩ = some (.int .i64 xb.to) ∧ w'.cell? ⟨g, u * 7 + 2, none⟩ = some (.int .i64 xb.src) ∧ w'.cell? ⟨g, u * 7 + 3, none⟩ = some (.int .i64 xb.count) ∧ w'.cell? ⟨g, u * 7 + 4, none⟩ = some (.int .i64 xb.n) ∧ w'.cell? ⟨g, u * 7 + 5, none⟩ = some (.int .i64 xb.kind) ∧ w'.cell? ⟨g, u * 7 + 6, none⟩ = some (.int .i64 xb.arg) ∧ Below wr.heap.size wr w')
        ((go_split_ands; refine sRise_of h0 h1 hA hB ?_; first | exact (Below.refl _ _).drew | exact below_then (by assumption) hbe))
        (first
          | (go_at_call 79; refine (implEventLess_any xa xb _).mono ?_; rintro e we ⟨rfl, hbe⟩; have hBe := below_then (a := wr) (by go_split_ands; assumption) hbe))
      cases hless : evLess xa xb
      · go_wp2_with fail
        (try simp only [Exit.inBlock, Exit.then])
        refine bodyPost_ret (results_none rfl _ _ _) rfl ?_
        exact ⟨rfl, xs, unhide HP, (unhide HRA).stays (unhide HXA) (by rw [hU]; exact unhide HXB) hless, (unhide HM).on hBe, (unhide HG).trans (Grow.ofBelow hBe)⟩
      · go_wp2_with fail
        refine (swapEv_heap N t q m u _ xs xa xb _ ((unhide HM).on hBe) (unhide HXA) (unhide HXB) (by omega)).mono ?_
        rintro e w9 ⟨rfl, hm9, hg9⟩
        go_wp2_with fail
        go_roundw
        case rel =>
          refine ⟨u, swapL xs m u xa xb, rfl, hide ((swapL_perm (unhide HXA) (unhide HXB)).trans (unhide HP)), hide ?_, hide hm9, hide (((unhide HG).trans (Grow.ofBelow hBe)).trans hg9)⟩
          have := (unhide HRA).step S (by omega) (unhide HXA) (by rw [hU]; exact unhide HXB) hless
          rwa [hU] at this
        case measure => simp [intOf]; omega
end Go.Proofs.Ythekkgndckkoaaa.E
/- impl's heap of events: firstOf. -/
namespace Go.Proofs.Ythekkgndckkoaaa.E
open Go.RowKit
set_option linter.unusedVariables false
set_option linter.unusedSimpArgs false

/-- The place a, or the place o where what is there comes ahead. -/
def better (xs : List EvV) (a o : Nat) : Nat :=
  match xs[o]?, xs[a]? with
  | some x, some y => if evLess x y then o else a
  | _, _ => a

def bestTo (xs : List EvV) (p : Nat) : Nat → Nat
  | 0 => p
  | k + 1 => better xs (bestTo xs p k) (2 * p + 1 + k)

theorem better_out {xs : List EvV} {a o : Nat} (h : ¬ o < xs.length) : better xs a o = a := by
  unfold better; rw [List.getElem?_eq_none (by omega)]
theorem better_in {xs : List EvV} {a o : Nat} (h : o < xs.length) (ha : a < xs.length) : better xs a o = if evLess xs[o] xs[a] then o else a := by
  unfold better; rw [List.getElem?_eq_getElem h, List.getElem?_eq_getElem ha]
theorem better_lt {xs : List EvV} {a o : Nat} (ha : a < xs.length) : better xs a o < xs.length := by
  by_cases h : o < xs.length
  · rw [better_in h ha]; split <;> assumption
  · rw [better_out h]; exact ha
theorem bestTo_lt {xs : List EvV} {p : Nat} (hp : p < xs.length) : ∀ k, bestTo xs p k < xs.length
  | 0 => hp
  | k + 1 => better_lt (bestTo_lt hp k)

set_option maxRecDepth 100000 in
set_option maxHeartbeats 1000000 in
theorem firstOfEv_any (N t q p r : Nat) (v : Value) (xs : List EvV) (w : World) (h : HeapM N t q v w xs) (hp : p < xs.length) (hx : xs.length ≤ 1000000000)
    (r0 : w.cell? ⟨r, 0, none⟩ = some (.int .i64 ((2 * p + 1 : Nat) : Int))) (r1 : w.cell? ⟨r, 1, none⟩ = some (.int .i64 ((2 * p + 2 : Nat) : Int))) :
    Calls Try.prog 114 #[.pointer (some ⟨q, 0, none⟩), .int .i64 p, .slice (some ⟨r, 0, none⟩) 2 2] w fun e w' => e = .returned (.int .i64 (bestTo xs p 2 : Nat)) ∧ Below w.heap.size w w' := by
  have HH := hide h
  clear h
  have hr : ∀ k, k < 2 → w.cell? ⟨r, k, none⟩ = some (.int .i64 ((2 * p + 1 + k : Nat) : Int)) := fun k hk => match k, hk with
    | 0, _ => r0
    | 1, _ => r1
  have HC := hide hr
  clear hr r0 r1
  go_enter Try.func114, Try.ntmps114
  go_wp2_with fail
  go_loopw [1, 11] (fun a i wr => ∃ (k m : Nat), k ≤ 2 ∧ i = .int .i64 k ∧ a = .int .i64 m ∧ Hid (m = bestTo xs p k) ∧ Hid (Below w.heap.size w wr)) (fun _ i _ => 2 - (intOf i).toNat)
  case atStart => exact ⟨0, p, by omega, rfl, rfl, hide rfl, hide (Below.refl _ _)⟩
  case round =>
    obtain ⟨k, m, hk, rfl, rfl, HM, HB⟩ := hrel
    by_cases hlt : k < 2
    · have hkI : (k : Int) < 2 := by omega
      have hk0 : (0 : Int) ≤ (k : Int) := by omega
      have g0 := cell_on (unhide HB) ((unhide HC) k hlt)
      have hmlt : m < xs.length := by rw [unhide HM]; exact bestTo_lt hp k
      have hHM := (unhide HH).on (unhide HB)
      obtain ⟨g, cap, rfl, hl, hmx, hcs⟩ := hHM.at (by omega)
      unfold maxLen at hmx
      have h0 := hHM.c0
      have h1 := hHM.c1
      clear hHM
      generalize hO : 2 * p + 1 + k = o at *
      have hA := hcs m hmlt
      have hi0 : (0 : Int) ≤ (m : Int) := by omega
      have hiI : (m : Int) < (xs.length : Int) := by omega
      by_cases ho : o < xs.length
      · have hd : decide ((o : Int) < (xs.length : Int)) = true := decide_eq_true (by omega)
        have hoI : (o : Int) < (xs.length : Int) := by omega
        have ho0 : (0 : Int) ≤ (o : Int) := by omega
        have hB := hcs o ho
        clear hcs
        have HL : Hid (bestTo xs p (k + 1) = if evLess xs[o] xs[m] then o else m) := hide (by
          show better xs (bestTo xs p k) (2 * p + 1 + k) = _
          rw [hO, ← unhide HM]; exact better_in ho hmlt)
        generalize xs[m] = xa at *
        generalize xs[o] = xb at *
        go_upto_region 4 with fail
        go_region_held3 (fun w' => w'.cell? ⟨q, 0, none⟩ = some (.slice (some ⟨g, 0, none⟩) xs.length cap) ∧ w'.cell? ⟨q, 1, none⟩ = some (.func (.func 79) #[] #[]) ∧
    w'.cell? ⟨g, m * 7, none⟩ = some (.int .i64 xa.time) ∧ w'.cell? ⟨g, m * 7 + 1, none⟩ = some (.int .i64 xa.to) ∧ w'.cell? ⟨g, m * 7 + 2, none⟩ = some (.int .i64 xa.src) ∧ w'.cell? ⟨g, m * 7 + 3, none⟩ = some (.int .i64 xa.count) ∧ w'.cell? ⟨g, m * 7 + 4, none⟩ = some (.int .i64 xa.n) ∧ w'.cell? ⟨g, m * 7 + 5, none⟩ = some (.int .i64 xa.kind) ∧ w'.cell? ⟨g, m * 7 + 6, none⟩ = some (.int .i64 xa.arg) ∧
    w'.cell? ⟨g, o * 7, none⟩ = some (.int .i64 xb.time) ∧ w'.cell? ⟨g, o * 7 + 1, none⟩ = some (.int .i64 xb.to) ∧ w'.cell? ⟨g, o * 7 + 2, none⟩ = some (.int .i64 xb.src) ∧ w'.cell? ⟨g, o * 7 + 3, none⟩ = some (.int .i64 xb.count) ∧ w'.cell? ⟨g, o * 7 + 4, none⟩ = some (.int .i64 xb.n) ∧ w'.cell? ⟨g, o * 7 + 5, none⟩ = some (.int .i64 xb.kind) ∧ w'.cell? ⟨g, o * 7 + 6, none⟩ = some (.int .i64 xb.arg) ∧ Below wr.heap.size wr w')
          ((go_split_ands; refine sRise_of h0 h1 hA hB ?_; first | exact (Below.refl _ _).drew | exact below_then (by assumption) hbe))
          (first
            | (go_at_call 79; refine (implEventLess_any xb xa _).mono ?_; rintro e we ⟨rfl, hbe⟩; have hBe := below_then (a := wr) (by go_split_ands; assumption) hbe))
        cases hless : evLess xb xa
        · go_wp2_with fail
          go_roundw
          case rel => exact ⟨k + 1, m, by omega, by simp, rfl, hide (by rw [unhide HL, hless]; rfl), hide (below_then (unhide HB) hBe)⟩
          case measure => simp [intOf]; omega
        · go_wp2_with fail
          go_roundw
          case rel => exact ⟨k + 1, o, by omega, by simp, rfl, hide (by rw [unhide HL, hless]; rfl), hide (below_then (unhide HB) hBe)⟩
          case measure => simp [intOf]; omega
      · have hd : decide ((o : Int) < (xs.length : Int)) = false := decide_eq_false (by omega)
        have hdN : decide (o < xs.length) = false := decide_eq_false ho
        have hge : xs.length ≤ o := by omega
        have HL : Hid (bestTo xs p (k + 1) = m) := hide (by
          show better xs (bestTo xs p k) (2 * p + 1 + k) = _
          rw [hO, ← unhide HM]; exact better_out ho)
        clear hcs
        go_upto_region 4 with fail
        go_quiet (fail)
        go_wp2_with fail
        go_roundw
        case rel => exact ⟨k + 1, m, by omega, by simp, rfl, hide (unhide HL).symm, hide (below_then (unhide HB) (below_drewN (Below.refl _ _) _))⟩
        case measure => simp [intOf]; omega
    · obtain rfl : k = 2 := by omega
      go_wp2_with fail
      go_ret
      exact ⟨by rw [unhide HM]; rfl, unhide HB⟩
end Go.Proofs.Ythekkgndckkoaaa.E
/- impl's heap of events: what firstOf finds. -/
namespace Go.Proofs.Ythekkgndckkoaaa.E
open Go.RowKit
set_option linter.unusedVariables false
set_option linter.unusedSimpArgs false

theorem better_own (S : Strict evLess) {xs : List EvV} {a o : Nat} (ha : a < xs.length) : LeO evLess xs[better xs a o]? xs[a]? := by
  by_cases h : o < xs.length
  · rw [better_in h ha]
    cases hl : evLess xs[o] xs[a]
    · exact LeO.refl S _
    · rw [if_pos rfl]
      intro x y hx hy
      rw [List.getElem?_eq_getElem h] at hx
      rw [List.getElem?_eq_getElem ha] at hy
      cases hx; cases hy
      exact S.asym hl
  · rw [better_out h]; exact LeO.refl S _

theorem better_other (S : Strict evLess) {xs : List EvV} {a o : Nat} (ha : a < xs.length) : LeO evLess xs[better xs a o]? xs[o]? := by
  by_cases h : o < xs.length
  · rw [better_in h ha]
    cases hl : evLess xs[o] xs[a]
    · rw [if_neg (by simp)]
      intro x y hx hy
      rw [List.getElem?_eq_getElem h] at hy
      rw [List.getElem?_eq_getElem ha] at hx
      cases hx; cases hy
      exact hl
    · rw [if_pos rfl]; exact LeO.refl S _
  · rw [List.getElem?_eq_none (l := xs) (i := o) (by omega)]; exact leO_none _

theorem better_one {xs : List EvV} {a o : Nat} (ha : a < xs.length) : better xs a o = a ∨ better xs a o = o ∧ o < xs.length := by
  by_cases h : o < xs.length
  · rw [better_in h ha]; split
    · exact Or.inr ⟨rfl, h⟩
    · exact Or.inl rfl
  · exact Or.inl (better_out h)

theorem best_first (S : Strict evLess) {xs : List EvV} {p : Nat} (hp : p < xs.length) : FirstAt evLess xs p (bestTo xs p 2) := by
  have h1 : better xs p (2 * p + 1 + 0) < xs.length := better_lt hp
  have hn : xs[better xs p (2 * p + 1 + 0)]? ≠ none := by rw [List.getElem?_eq_getElem h1]; simp
  have e : bestTo xs p 2 = better xs (better xs p (2 * p + 1 + 0)) (2 * p + 1 + 1) := rfl
  rw [e]
  refine ⟨?_, LeO.trans S hn (better_own S h1) (better_own S hp), fun c hc hcp => ?_⟩
  · rcases better_one (o := 2 * p + 1 + 1) h1 with h | ⟨h, h2⟩
    · rw [h]
      rcases better_one (o := 2 * p + 1 + 0) hp with h | ⟨h, h2⟩
      · exact Or.inl h
      · rw [h]; exact Or.inr ⟨Or.inl (by omega), h2⟩
    · rw [h]; exact Or.inr ⟨Or.inr (by omega), h2⟩
  · rcases (show c = 2 * p + 1 + 0 ∨ c = 2 * p + 1 + 1 by omega) with rfl | rfl
    · exact LeO.trans S hn (better_own S h1) (better_other S hp)
    · exact better_other S h1
end Go.Proofs.Ythekkgndckkoaaa.E
/- impl's heap of events: sink. -/
namespace Go.Proofs.Ythekkgndckkoaaa.E
open Go.RowKit
set_option linter.unusedVariables false
set_option linter.unusedSimpArgs false

set_option maxRecDepth 100000 in
set_option maxHeartbeats 1000000 in
theorem sinkEv_any (S : Strict evLess) (N t q p : Nat) (v : Value) (os : List EvV) (w : World) (h : HeapM N t q v w os) (hp : p < os.length) (hx : os.length ≤ 1000000000) (hR : SinkAt evLess os p) :
    Calls Try.prog 109 #[.pointer (some ⟨q, 0, none⟩), .int .i64 p] w fun e w' => e = .returned (.tuple #[]) ∧ ∃ os', os'.Perm os ∧ Heap evLess os' ∧ HeapM N t q v w' os' ∧ Grow v w w' := by
  have HH := hide h
  have HR := hide hR
  clear h hR
  go_enter Try.func109, Try.ntmps109
  go_wp2_with fail
  go_loopw [1] (fun i wr => ∃ (m : Nat) (xs : List EvV), i = .int .i64 m ∧ m < xs.length ∧ xs.length = os.length ∧ Hid (xs.Perm os) ∧ Hid (SinkAt evLess xs m) ∧ Hid (HeapM N t q v wr xs) ∧ Hid (Grow v w wr)) (fun i _ => os.length - (intOf i).toNat)
  case atStart => exact ⟨p, os, rfl, hp, rfl, hide (List.Perm.refl _), HR, HH, hide (Grow.refl _ _)⟩
  case round =>
    obtain ⟨m, xs, rfl, hlt, hlen, HP, HSA, HM, HG⟩ := hrel
    have hm9 : (m : Int) < 1000000000 := by omega
    have hm0 : (0 : Int) ≤ (m : Int) := by omega
    go_wp2_with fail
    have hbA : Below wr.heap.size wr (wr.alloc (.cells #[.int .i64 (2 * (m : Int) + 1), .int .i64 (2 * (m : Int) + 2)] 3)) := (Below.refl _ _).alloc (Nat.le_refl _) _
    refine (firstOfEv_any N t q m wr.heap.size v xs _ ((unhide HM).on hbA) hlt (by omega) (by simp [go_sem]) (by simp [go_sem])).mono ?_
    rintro e w2 ⟨rfl, hb2⟩
    have hB2 := below_then hbA hb2
    have HB2 := hide hB2
    have HF := hide (best_first S hlt)
    have HFL : Hid (bestTo xs m 2 < xs.length) := hide (bestTo_lt hlt 2)
    clear hbA hb2 hB2
    generalize bestTo xs m 2 = f at *
    by_cases hfm : f = m
    · subst hfm
      have hqm : ((f : Int) == (f : Int)) = true := by simp
      go_wp2_with fail
      (try simp only [Exit.inBlock, Exit.then])
      refine bodyPost_ret (results_none rfl _ _ _) rfl ?_
      exact ⟨rfl, xs, unhide HP, (unhide HSA).stays (unhide HF), (unhide HM).on (unhide HB2), (unhide HG).trans (Grow.ofBelow (unhide HB2))⟩
    · have hqm : ((f : Int) == (m : Int)) = false := by simp; omega
      have hfl := unhide HFL
      have hmf : m < f := by rcases (unhide HF).one with h | ⟨h | h, _⟩ <;> omega
      have HXA : Hid (xs[m]? = some xs[m]) := hide (List.getElem?_eq_getElem hlt)
      have HXB : Hid (xs[f]? = some xs[f]) := hide (List.getElem?_eq_getElem hfl)
      generalize xs[m] = xa at *
      generalize xs[f] = xb at *
      go_wp2_with fail
      refine (swapEv_heap N t q m f _ xs xa xb _ ((unhide HM).on (unhide HB2)) (unhide HXA) (unhide HXB) (by omega)).mono ?_
      rintro e w9 ⟨rfl, hm9, hg9⟩
      go_wp2_with fail
      go_roundw
      case rel => exact ⟨f, swapL xs m f xa xb, rfl, by rw [swapL_length]; exact hfl, by rw [swapL_length]; exact hlen, hide ((swapL_perm (unhide HXA) (unhide HXB)).trans (unhide HP)), hide ((unhide HSA).step S (unhide HF) hfm (unhide HXA) (unhide HXB)), hide hm9, hide (((unhide HG).trans (Grow.ofBelow (unhide HB2))).trans hg9)⟩
      case measure => simp [intOf]; omega
end Go.Proofs.Ythekkgndckkoaaa.E
/- impl's heap of events: sink at an empty list. -/
namespace Go.Proofs.Ythekkgndckkoaaa.E
open Go.RowKit
set_option linter.unusedVariables false
set_option linter.unusedSimpArgs false

set_option maxRecDepth 100000 in
set_option maxHeartbeats 1000000 in
theorem firstOfEv_nil (q r : Nat) (ad : Option Addr) (cap : Nat) (w : World) (h0 : w.cell? ⟨q, 0, none⟩ = some (.slice ad 0 cap))
    (r0 : w.cell? ⟨r, 0, none⟩ = some (.int .i64 1)) (r1 : w.cell? ⟨r, 1, none⟩ = some (.int .i64 2)) :
    Calls Try.prog 114 #[.pointer (some ⟨q, 0, none⟩), .int .i64 0, .slice (some ⟨r, 0, none⟩) 2 2] w fun e w' => e = .returned (.int .i64 0) ∧ Below w.heap.size w w' := by
  have hr : ∀ k, k < 2 → w.cell? ⟨r, k, none⟩ = some (.int .i64 ((1 + k : Nat) : Int)) := fun k hk => match k, hk with
    | 0, _ => r0
    | 1, _ => r1
  have HC := hide hr
  have H0 := hide h0
  clear hr r0 r1 h0
  go_enter Try.func114, Try.ntmps114
  go_wp2_with fail
  go_loopw [1, 11] (fun a i wr => ∃ k : Nat, k ≤ 2 ∧ a = .int .i64 0 ∧ i = .int .i64 k ∧ Hid (Below w.heap.size w wr)) (fun _ i _ => 2 - (intOf i).toNat)
  case atStart => exact ⟨0, by omega, rfl, rfl, hide (Below.refl _ _)⟩
  case round =>
    obtain ⟨k, hk, rfl, rfl, HB⟩ := hrel
    by_cases hlt : k < 2
    · have hkI : (k : Int) < 2 := by omega
      have hk0 : (0 : Int) ≤ (k : Int) := by omega
      have g0 := cell_on (unhide HB) ((unhide HC) k hlt)
      have h0 := cell_on (unhide HB) (unhide H0)
      generalize 1 + k = o at *
      have hd : decide ((o : Int) < 0) = false := decide_eq_false (by omega)
      have hge : (0 : Int) ≤ (o : Int) := by omega
      go_upto_region 4 with fail
      go_quiet (fail)
      go_wp2_with fail
      go_roundw
      case rel => exact ⟨k + 1, by omega, rfl, by simp, hide (below_then (unhide HB) (below_drewN (Below.refl _ _) _))⟩
      case measure => simp [intOf]; omega
    · obtain rfl : k = 2 := by omega
      go_wp2_with fail
      go_ret
      exact ⟨rfl, unhide HB⟩

set_option maxRecDepth 100000 in
set_option maxHeartbeats 1000000 in
theorem sinkEv_nil (q : Nat) (ad : Option Addr) (cap : Nat) (w : World) (h0 : w.cell? ⟨q, 0, none⟩ = some (.slice ad 0 cap)) :
    Calls Try.prog 109 #[.pointer (some ⟨q, 0, none⟩), .int .i64 0] w fun e w' => e = .returned (.tuple #[]) ∧ Below w.heap.size w w' := by
  have H0 := hide h0
  clear h0
  go_enter Try.func109, Try.ntmps109
  go_wp2_with fail
  go_loopw [1] (fun i wr => i = .int .i64 0 ∧ wr = w) (fun _ _ => 0)
  case atStart => exact ⟨rfl, rfl⟩
  case round =>
    obtain ⟨rfl, rfl⟩ := hrel
    go_wp2_with fail
    have hbA : Below wr.heap.size wr (wr.alloc (.cells #[.int .i64 1, .int .i64 2] 3)) := (Below.refl _ _).alloc (Nat.le_refl _) _
    refine (firstOfEv_nil q wr.heap.size ad cap _ (cell_on hbA (unhide H0)) (by simp [go_sem]) (by simp [go_sem])).mono ?_
    rintro e w2 ⟨rfl, hb2⟩
    have HB2 := hide (below_then hbA hb2)
    go_wp2_with fail
    (try simp only [Exit.inBlock, Exit.then])
    refine bodyPost_ret (results_none rfl _ _ _) rfl ?_
    exact ⟨rfl, unhide HB2⟩
end Go.Proofs.Ythekkgndckkoaaa.E
/- impl's heap of events: put. -/
namespace Go.Proofs.Ythekkgndckkoaaa.E
open Go.RowKit
set_option linter.unusedVariables false
set_option linter.unusedSimpArgs false

theorem evRow_len (os : List EvV) : ∀ r ∈ os.map evRow, r.length = 7 := fun r hr => by
  obtain ⟨o, _, rfl⟩ := List.mem_map.1 hr; rfl

theorem slice_EvH : Try.prog.underlying 44 = some (.slice 41) := by kernel_rfl
theorem infoT_EvH : (Try.prog.info? 41).map (fun i => (i.zero, i.size, i.bytes)) = some (some (.agg #[.int .i64 0, .int .i64 0, .int .i64 0, .int .i64 0, .int .i64 0, .int .i64 0, .int .i64 0]), 7, 56) := by kernel_rfl
/-- The heap when something was appended to its list. -/
theorem heapEv_grown {N q : Nat} {W A w1 : World} {v : Value} {os : List EvV} {gg cap : Nat} {x : EvV} (hR : HeapM N 41 q v W os) (hbA : Below W.heap.size W A) (hgrow : A.grownBy w1 v.ownBlock)
    (hown1 : w1.ownsRow N 41 7 (.slice (some ⟨gg, 0, none⟩) (os.length + 1) cap) (os.length + 1) (flatCells (os.map evRow) ++ evCells x)) (hat : v.ownBlock = some gg ∨ gg = A.heap.size) :
    HeapM N 41 q (.slice (some ⟨gg, 0, none⟩) (os.length + 1) cap) (w1.setCell ⟨q, 0, none⟩ (.slice (some ⟨gg, 0, none⟩) (os.length + 1) cap)) (os ++ [x]) ∧
    Both q v W (w1.setCell ⟨q, 0, none⟩ (.slice (some ⟨gg, 0, none⟩) (os.length + 1) cap)) := by
  have hq : q < W.heap.size := World.block_lt_of_cell? W ⟨q, 0, none⟩ hR.c0
  have hs := hbA.size
  have hqr : ∀ i : Nat, some (⟨q, i, none⟩ : Addr).block ≠ v.ownBlock := fun i e => hR.ne e.symm
  have k : ∀ {i : Nat} {u : Value}, W.cell? ⟨q, i, none⟩ = some u → w1.cell? ⟨q, i, none⟩ = some u := fun {i u} h => hgrow.cell (cell_on hbA h) (hqr i)
  have hgq : gg ≠ q := fun e => by
    subst e
    rcases hat with h | h
    · exact hR.ne h
    · omega
  have hr : RowsFr N 41 7 w1 (.slice (some ⟨gg, 0, none⟩) (os.length + 1) cap) ((os ++ [x]).map evRow) := by
    refine RowsFr.of_owns (evRow_len _) ?_
    have e1 : flatCells ((os ++ [x]).map evRow) = flatCells (os.map evRow) ++ evCells x := by
      rw [List.map_append, List.map_singleton, flatCells_snoc]; rfl
    rw [e1, List.length_map, List.length_append]
    exact hown1
  refine ⟨⟨hr.block (fun g hg _ => ?_), ?_, by simp [go_sem, k hR.c0], by simp [go_sem, k hR.c1]⟩, (Both.grown hbA hgrow (fun g hg => (hR.rows.blk g hg).2)).set⟩
  · have : g = gg := by simpa [Value.ownBlock] using hg.symm
    subst this
    exact Below.heap_setCell w1 ⟨q, 0, none⟩ _ g hgq
  · simpa [Value.ownBlock] using hgq

set_option maxRecDepth 100000 in
set_option maxHeartbeats 1000000 in
theorem putEv_any (S : Strict evLess) (N q : Nat) (v : Value) (os : List EvV) (x : EvV) (w : World) (h : HeapM N 41 q v w os) (hfz : ∀ i, w.frozen? ⟨q, i, none⟩ = false) (hH : Heap evLess os) (hN : N ≤ w.heap.size) (hx : os.length < 1000000000) :
    Calls Try.prog 108 #[.pointer (some ⟨q, 0, none⟩), evAgg x] w fun e w' => e = .returned (.tuple #[]) ∧ ∃ v' os', os'.Perm (os ++ [x]) ∧ Heap evLess os' ∧ HeapM N 41 q v' w' os' ∧ Both q v w w' ∧ (∀ g, v'.ownBlock = some g → v.ownBlock = some g ∨ w.heap.size ≤ g) ∧ (∀ i, w'.frozen? ⟨q, i, none⟩ = false) ∧ ∀ o u, o ≠ 0 → w.cell? ⟨q, o, none⟩ = some u → w'.cell? ⟨q, o, none⟩ = some u := by
  obtain ⟨i7, hi7, hz70, hz71, hz72⟩ := infoT_parts infoT_EvH
  have hq : q < w.heap.size := World.block_lt_of_cell? w ⟨q, 0, none⟩ h.c0
  obtain ⟨qa, qc, hvq⟩ : ∃ a c, v = .slice a os.length c := by
    rcases h.rows with ⟨h1, h2⟩ | ⟨g, cap, _, h1, _⟩
    · rw [List.map_eq_nil_iff] at h2; subst h2; exact ⟨none, 0, h1⟩
    · rw [List.length_map] at h1; exact ⟨_, _, h1⟩
  subst hvq
  have c0 := h.c0
  have hne := h.ne
  have HH := hide h
  have HHP := hide hH
  have HFZ := hide hfz
  have hb0 : Below w.heap.size w (w.alloc (.cells #[.int .i64 x.time, .int .i64 x.to, .int .i64 x.src, .int .i64 x.count, .int .i64 x.n, .int .i64 x.kind, .int .i64 x.arg] 41)) := (Below.refl _ _).alloc (Nat.le_refl _) _
  have b0 : ∀ j, j < 7 → (w.alloc (.cells #[.int .i64 x.time, .int .i64 x.to, .int .i64 x.src, .int .i64 x.count, .int .i64 x.n, .int .i64 x.kind, .int .i64 x.arg] 41)).cell? ⟨w.heap.size, j, none⟩ = some (.int .i64 ((evRow x).getD j 0)) := fun j hj => by
    match j, hj with
    | 0, _ => simp [go_sem, evRow]
    | 1, _ => simp [go_sem, evRow]
    | 2, _ => simp [go_sem, evRow]
    | 3, _ => simp [go_sem, evRow]
    | 4, _ => simp [go_sem, evRow]
    | 5, _ => simp [go_sem, evRow]
    | 6, _ => simp [go_sem, evRow]
  have hs0 : (w.alloc (.cells #[.int .i64 x.time, .int .i64 x.to, .int .i64 x.src, .int .i64 x.count, .int .i64 x.n, .int .i64 x.kind, .int .i64 x.arg] 41)).heap.size = w.heap.size + 1 := by simp
  have HB0 := hide hb0
  have HBX := hide b0
  have HS0 := hide hs0
  clear h hH hfz hb0 b0 hs0
  go_enter Try.func108, Try.ntmps108
  go_upto_region 1 with fail
  generalize (w.alloc (.cells #[.int .i64 x.time, .int .i64 x.to, .int .i64 x.src, .int .i64 x.count, .int .i64 x.n, .int .i64 x.kind, .int .i64 x.arg] 41)) = W0 at *
  refine wp_region_last (L := 10) (S := fun w' : World => w'.cell? ⟨q, 0, none⟩ = some (.slice qa os.length qc) ∧ w'.cell? ⟨w.heap.size, 0, none⟩ = some (.int .i64 x.time) ∧ w'.cell? ⟨w.heap.size, 1, none⟩ = some (.int .i64 x.to) ∧ w'.cell? ⟨w.heap.size, 2, none⟩ = some (.int .i64 x.src) ∧ w'.cell? ⟨w.heap.size, 3, none⟩ = some (.int .i64 x.count) ∧ w'.cell? ⟨w.heap.size, 4, none⟩ = some (.int .i64 x.n) ∧ w'.cell? ⟨w.heap.size, 5, none⟩ = some (.int .i64 x.kind) ∧ w'.cell? ⟨w.heap.size, 6, none⟩ = some (.int .i64 x.arg)) (by kernel_rfl) ?_
  have hHeld : (fun w' : World => w'.cell? ⟨q, 0, none⟩ = some (.slice qa os.length qc) ∧ w'.cell? ⟨w.heap.size, 0, none⟩ = some (.int .i64 x.time) ∧ w'.cell? ⟨w.heap.size, 1, none⟩ = some (.int .i64 x.to) ∧ w'.cell? ⟨w.heap.size, 2, none⟩ = some (.int .i64 x.src) ∧ w'.cell? ⟨w.heap.size, 3, none⟩ = some (.int .i64 x.count) ∧ w'.cell? ⟨w.heap.size, 4, none⟩ = some (.int .i64 x.n) ∧ w'.cell? ⟨w.heap.size, 5, none⟩ = some (.int .i64 x.kind) ∧ w'.cell? ⟨w.heap.size, 6, none⟩ = some (.int .i64 x.arg)) (World.drew W0) :=
    ⟨cell_on (unhide HB0).drew c0, (unhide HBX) 0 (by omega), (unhide HBX) 1 (by omega), (unhide HBX) 2 (by omega), (unhide HBX) 3 (by omega), (unhide HBX) 4 (by omega), (unhide HBX) 5 (by omega), (unhide HBX) 6 (by omega)⟩
  refine wpAnyL_take (i := 0) (v := ?_) (by kernel_rfl) rfl (by kernel_rfl) (by kernel_rfl) (by kernel_rfl) (fun _ _ _ h => h) hHeld (Or.inl ⟨by kernel_rfl, ?_⟩) ?_
  rotate_left
  · (intro w hSw; (try dsimp only at hSw); obtain ⟨s0, s1, s2, s3, s4, s5, s6, s7⟩ := hSw; go_simp; try with_reducible rfl)
  refine wpAnyL_take (i := 1) (v := ?_) (by kernel_rfl) rfl (by kernel_rfl) (by kernel_rfl) (by kernel_rfl) (fun _ _ _ h => h) hHeld (Or.inl ⟨by kernel_rfl, ?_⟩) ?_
  rotate_left
  · (intro w hSw; (try dsimp only at hSw); obtain ⟨s0, s1, s2, s3, s4, s5, s6, s7⟩ := hSw; go_simp; try with_reducible rfl)
  refine wpAnyL_take (i := 2) (v := ?_) (by kernel_rfl) rfl (by kernel_rfl) (by kernel_rfl) (by kernel_rfl) (fun _ _ _ h => h) hHeld (Or.inl ⟨by kernel_rfl, ?_⟩) ?_
  rotate_left
  · (intro w hSw; (try dsimp only at hSw); obtain ⟨s0, s1, s2, s3, s4, s5, s6, s7⟩ := hSw; go_simp; try with_reducible rfl)
  refine wpAnyL_take (i := 3) (v := ?_) (by kernel_rfl) rfl (by kernel_rfl) (by kernel_rfl) (by kernel_rfl) (fun _ _ _ h => h) hHeld (Or.inl ⟨by kernel_rfl, ?_⟩) ?_
  rotate_left
  · (intro w hSw; (try dsimp only at hSw); obtain ⟨s0, s1, s2, s3, s4, s5, s6, s7⟩ := hSw; go_simp; try with_reducible rfl)
  refine wpAnyL_take (i := 4) (v := ?_) (by kernel_rfl) rfl (by kernel_rfl) (by kernel_rfl) (by kernel_rfl) (fun _ _ _ h => h) hHeld (Or.inl ⟨by kernel_rfl, ?_⟩) ?_
  rotate_left
  · (intro w hSw; (try dsimp only at hSw); obtain ⟨s0, s1, s2, s3, s4, s5, s6, s7⟩ := hSw; go_simp; try with_reducible rfl)
  refine wpAnyL_take (i := 5) (v := ?_) (by kernel_rfl) rfl (by kernel_rfl) (by kernel_rfl) (by kernel_rfl) (fun _ _ _ h => h) hHeld (Or.inl ⟨by kernel_rfl, ?_⟩) ?_
  rotate_left
  · (intro w hSw; (try dsimp only at hSw); obtain ⟨s0, s1, s2, s3, s4, s5, s6, s7⟩ := hSw; go_simp; try with_reducible rfl)
  refine wpAnyL_one (i := 6) (by kernel_rfl) rfl (fun K hK => ?_)
  go_simp
  have hbX : Below W0.heap.size W0 (W0.alloc (.cells #[.int .i64 x.time, .int .i64 x.to, .int .i64 x.src, .int .i64 x.count, .int .i64 x.n, .int .i64 x.kind, .int .i64 x.arg] 41)).drew := ((Below.refl _ _).alloc (Nat.le_refl _) _).drew
  have hbA : Below w.heap.size w (W0.alloc (.cells #[.int .i64 x.time, .int .i64 x.to, .int .i64 x.src, .int .i64 x.count, .int .i64 x.n, .int .i64 x.kind, .int .i64 x.arg] 41)).drew := below_then (unhide HB0) hbX
  have hsA : W0.heap.size = w.heap.size + 1 := unhide HS0
  refine held_on hK ?_ (fun hHeld => ?_)
  · exact ⟨cell_on hbA c0, cell_on hbX ((unhide HBX) 0 (by omega)), cell_on hbX ((unhide HBX) 1 (by omega)), cell_on hbX ((unhide HBX) 2 (by omega)), cell_on hbX ((unhide HBX) 3 (by omega)), cell_on hbX ((unhide HBX) 4 (by omega)), cell_on hbX ((unhide HBX) 5 (by omega)), cell_on hbX ((unhide HBX) 6 (by omega))⟩
  clear hK K
  have hownA : (W0.alloc (.cells #[.int .i64 x.time, .int .i64 x.to, .int .i64 x.src, .int .i64 x.count, .int .i64 x.n, .int .i64 x.kind, .int .i64 x.arg] 41)).drew.ownsRow N 41 7 (.slice qa os.length qc) os.length (flatCells (os.map evRow)) := by
    have e := ownsOn hbA ((unhide HH).rows.owns (by omega) (evRow_len os))
    rwa [List.length_map] at e
  refine wpAnyL_one (i := 7) (by kernel_rfl) rfl (fun K hK => ?_)
  refine step_append_lies _ (by rfl) _ _ _ (by rfl) N 41 i7 _ 7 56 slice_EvH hi7 hz70 hz71 hz72 (by rfl) (by omega) (.slice qa os.length qc) os.length (flatCells (os.map evRow)) (by rfl) hownA ⟨W0.heap.size, 0, none⟩ 1 1 (evCells x) (by rfl) (by rfl) (World.news_of_block (cs := #[.int .i64 x.time, .int .i64 x.to, .int .i64 x.src, .int .i64 x.count, .int .i64 x.n, .int .i64 x.kind, .int .i64 x.arg]) (t := 41) (fr := (0, 0)) (heap_alloc_new W0 _)) (by simp [Value.oneCell']) (by omega) (by unfold maxLen; omega) (by omega) (by simp; omega) (W0.heap.size + 1) (by simp) ?_
  intro g2 cap2 w7 hown7 hgrow7 hat7 hlt7
  have hs7 := heapEv_grown (x := x) (unhide HH) hbA hgrow7 hown7 (by rcases hat7 with h | h <;> simp [h])
  have kc := hgrow7.cell (cell_on hbA c0) (fun e => hne e.symm)
  have kf : ∀ i, w7.frozen? ⟨q, i, none⟩ = false := fun i => by (rw [hgrow7.frozen_far ⟨q, i, none⟩ (show q < _ by simp; omega) (fun e => hne e.symm), hbA.frozen (p := ⟨q, i, none⟩) hq]; exact (unhide HFZ) i)
  have kf0 := kf 0
  have HM7 := hide hs7
  have HKQ : Hid (∀ o u, o ≠ 0 → w.cell? ⟨q, o, none⟩ = some u → (w7.setCell ⟨q, 0, none⟩ (.slice (some ⟨g2, 0, none⟩) (os.length + 1) cap2)).cell? ⟨q, o, none⟩ = some u) := hide (fun o u ho hu => by
    have e := hgrow7.cell (cell_on hbA hu) (fun e => hne e.symm)
    have ho' : ¬ 0 = o := fun h => ho h.symm
    simp [go_sem, ho, ho', e])
  have HKF := hide kf
  have HAT : Hid (∀ g, (Value.slice (some ⟨g2, 0, none⟩) (os.length + 1) cap2).ownBlock = some g → (Value.slice qa os.length qc).ownBlock = some g ∨ w.heap.size ≤ g) := hide (fun g hg => by
    have e : g2 = g := by simpa [Value.ownBlock] using hg
    subst e
    rcases hat7 with h | h
    · exact Or.inl h
    · right; omega)
  refine held_on hK ?_ (fun hHeld => ?_)
  · refine ⟨kc, ?_, ?_, ?_, ?_, ?_, ?_, ?_⟩
    · refine hgrow7.cell (cell_on hbX ((unhide HBX) 0 (by omega))) (fun e => ?_); have h9 := ((unhide HH).rows.blk _ e.symm).2; simp at h9
    · refine hgrow7.cell (cell_on hbX ((unhide HBX) 1 (by omega))) (fun e => ?_); have h9 := ((unhide HH).rows.blk _ e.symm).2; simp at h9
    · refine hgrow7.cell (cell_on hbX ((unhide HBX) 2 (by omega))) (fun e => ?_); have h9 := ((unhide HH).rows.blk _ e.symm).2; simp at h9
    · refine hgrow7.cell (cell_on hbX ((unhide HBX) 3 (by omega))) (fun e => ?_); have h9 := ((unhide HH).rows.blk _ e.symm).2; simp at h9
    · refine hgrow7.cell (cell_on hbX ((unhide HBX) 4 (by omega))) (fun e => ?_); have h9 := ((unhide HH).rows.blk _ e.symm).2; simp at h9
    · refine hgrow7.cell (cell_on hbX ((unhide HBX) 5 (by omega))) (fun e => ?_); have h9 := ((unhide HH).rows.blk _ e.symm).2; simp at h9
    · refine hgrow7.cell (cell_on hbX ((unhide HBX) 6 (by omega))) (fun e => ?_); have h9 := ((unhide HH).rows.blk _ e.symm).2; simp at h9
  clear hK K hs7 hown7 hat7 hlt7 hgrow7 kf hownA
  refine wpAnyL_one (i := 8) (by kernel_rfl) rfl (fun K hK => ?_)
  go_simp
  refine held_on hK ?_ (fun hHeld => ?_)
  · exact hHeld
  clear hK K
  refine wpAnyL_one (i := 9) (by kernel_rfl) rfl (fun K hK => ?_)
  go_simp
  refine held_on hK ?_ (fun hHeld => ?_)
  · exact hHeld
  clear hK K
  refine wpAnyL_end (by kernel_rfl) rfl (fun K hK => ?_)
  go_simp
  refine hK.out _ _ ?_
  clear hK K
  refine wpAnyL_done (by kernel_rfl) ?_ _
  have c9 := (unhide HM7).1.c0
  have HC9 := hide c9
  go_wp2_with fail
  refine (riseEv_any S N 41 q os.length _ (os ++ [x]) _ (unhide HM7).1 (heap_put (unhide HHP) x)).mono ?_
  rintro e w9 ⟨rfl, os', hp, hh, hm, hg⟩
  go_wp2_with fail
  (try simp only [Exit.inBlock, Exit.then])
  refine bodyPost_end (results_none rfl _ _ _) rfl ?_
  exact ⟨rfl, _, os', hp, hh, hm, (unhide HM7).2.then (Both.ofGrow hg) (unhide HAT), unhide HAT, hg.fz (unhide HM7).1.ne (World.block_lt_of_cell? _ ⟨q, 0, none⟩ (unhide HM7).1.c0) (fun i => by simpa [go_sem] using (unhide HKF) i), fun o u ho hu => hg.cell (unhide HM7).1.ne ((unhide HKQ) o u ho hu)⟩
end Go.Proofs.Ythekkgndckkoaaa.E
/- impl's heap of events: take. -/
namespace Go.Proofs.Ythekkgndckkoaaa.E
open Go.RowKit
set_option linter.unusedVariables false
set_option linter.unusedSimpArgs false

theorem HeapM.block {N t q : Nat} {v : Value} {w w' : World} {os : List EvV} (h1 : w'.heap[q]? = w.heap[q]?) (h2 : ∀ g, v.ownBlock = some g → w'.heap[g]? = w.heap[g]?) (h : HeapM N t q v w os) : HeapM N t q v w' os :=
  ⟨h.rows.block (fun g hg _ => h2 g hg), h.ne, (World.cell?_of_block (a := ⟨q, 0, none⟩) h1).trans h.c0, (World.cell?_of_block (a := ⟨q, 1, none⟩) h1).trans h.c1⟩

theorem cutL_rows (os : List EvV) (b : EvV) : ((os.map evRow).set 0 (evRow b)).take (os.length - 1) = (cutL os b).map evRow := by
  simp [cutL, List.map_take, List.map_set]

set_option maxRecDepth 100000 in
set_option maxHeartbeats 1000000 in
theorem takeEv_any (S : Strict evLess) (N q : Nat) (v : Value) (os : List EvV) (a : EvV) (w : World) (h : HeapM N 41 q v w os) (hfz : ∀ i, w.frozen? ⟨q, i, none⟩ = false) (hH : Heap evLess os) (ha : os[0]? = some a) (hx : os.length ≤ 1000000000) :
    Calls Try.prog 102 #[.pointer (some ⟨q, 0, none⟩)] w fun e w' => e = .returned (evAgg a) ∧ ∃ v' os', (a :: os').Perm os ∧ Heap evLess os' ∧ HeapM N 41 q v' w' os' ∧ Both q v w w' ∧ v'.ownBlock = v.ownBlock ∧ (∀ i, w'.frozen? ⟨q, i, none⟩ = false) ∧ ∀ o u, o ≠ 0 → w.cell? ⟨q, o, none⟩ = some u → w'.cell? ⟨q, o, none⟩ = some u := by
  have hpos : 0 < os.length := (List.getElem?_eq_some_iff.1 ha).1
  have hq : q < w.heap.size := World.block_lt_of_cell? w ⟨q, 0, none⟩ h.c0
  obtain ⟨g, cap, rfl, hl, hmx, hcs⟩ := h.at hpos
  unfold maxLen at hmx
  have hgl : g < w.heap.size := (h.rows.blk g rfl).2
  have c0 := h.c0
  have hgq : ¬ g = q := fun e => h.ne (by simp [Value.ownBlock, e])
  have ea : os[0] = a := (List.getElem?_eq_some_iff.1 ha).2
  have A := hcs 0 hpos
  rw [ea] at A
  have A0 := A 0 (by omega)
  have A1 := A 1 (by omega)
  have A2 := A 2 (by omega)
  have A3 := A 3 (by omega)
  have A4 := A 4 (by omega)
  have A5 := A 5 (by omega)
  have A6 := A 6 (by omega)
  simp [evRow] at A0 A1 A2 A3 A4 A5 A6
  clear A
  have hlast : os.length - 1 < os.length := by omega
  have B := hcs (os.length - 1) hlast
  obtain ⟨b, eb⟩ : ∃ b, b = os[os.length - 1] := ⟨_, rfl⟩
  rw [← eb] at B
  have B0 := B 0 (by omega)
  have B1 := B 1 (by omega)
  have B2 := B 2 (by omega)
  have B3 := B 3 (by omega)
  have B4 := B 4 (by omega)
  have B5 := B 5 (by omega)
  have B6 := B 6 (by omega)
  simp [evRow] at B0 B1 B2 B3 B4 B5 B6
  clear B hcs
  have hb3 : Below w.heap.size w ((w.alloc (.cells #[.int .i64 0, .int .i64 0, .int .i64 0, .int .i64 0, .int .i64 0, .int .i64 0, .int .i64 0] 41)).alloc (.cells #[.int .i64 a.time, .int .i64 a.to, .int .i64 a.src, .int .i64 a.count, .int .i64 a.n, .int .i64 a.kind, .int .i64 a.arg] 41)) := ((Below.refl _ _).alloc (Nat.le_refl _) _).alloc (by simp) _
  have hs3 : ((w.alloc (.cells #[.int .i64 0, .int .i64 0, .int .i64 0, .int .i64 0, .int .i64 0, .int .i64 0, .int .i64 0] 41)).alloc (.cells #[.int .i64 a.time, .int .i64 a.to, .int .i64 a.src, .int .i64 a.count, .int .i64 a.n, .int .i64 a.kind, .int .i64 a.arg] 41)).heap.size = w.heap.size + 2 := by simp
  have r3 : ∀ j, j < 7 → ((w.alloc (.cells #[.int .i64 0, .int .i64 0, .int .i64 0, .int .i64 0, .int .i64 0, .int .i64 0, .int .i64 0] 41)).alloc (.cells #[.int .i64 a.time, .int .i64 a.to, .int .i64 a.src, .int .i64 a.count, .int .i64 a.n, .int .i64 a.kind, .int .i64 a.arg] 41)).cell? ⟨w.heap.size, j, none⟩ = some (.int .i64 0) := fun j hj => by
    match j, hj with
    | 0, _ => simp [go_sem]
    | 1, _ => simp [go_sem]
    | 2, _ => simp [go_sem]
    | 3, _ => simp [go_sem]
    | 4, _ => simp [go_sem]
    | 5, _ => simp [go_sem]
    | 6, _ => simp [go_sem]
  have rf3 : ∀ j, ((w.alloc (.cells #[.int .i64 0, .int .i64 0, .int .i64 0, .int .i64 0, .int .i64 0, .int .i64 0, .int .i64 0] 41)).alloc (.cells #[.int .i64 a.time, .int .i64 a.to, .int .i64 a.src, .int .i64 a.count, .int .i64 a.n, .int .i64 a.kind, .int .i64 a.arg] 41)).frozen? ⟨w.heap.size, j, none⟩ = false := fun j => by simp [go_sem]
  have a3 : ∀ j, j < 7 → ((w.alloc (.cells #[.int .i64 0, .int .i64 0, .int .i64 0, .int .i64 0, .int .i64 0, .int .i64 0, .int .i64 0] 41)).alloc (.cells #[.int .i64 a.time, .int .i64 a.to, .int .i64 a.src, .int .i64 a.count, .int .i64 a.n, .int .i64 a.kind, .int .i64 a.arg] 41)).cell? ⟨w.heap.size + 1, j, none⟩ = some (.int .i64 ((evRow a).getD j 0)) := fun j hj => by
    match j, hj with
    | 0, _ => simp [go_sem, evRow]
    | 1, _ => simp [go_sem, evRow]
    | 2, _ => simp [go_sem, evRow]
    | 3, _ => simp [go_sem, evRow]
    | 4, _ => simp [go_sem, evRow]
    | 5, _ => simp [go_sem, evRow]
    | 6, _ => simp [go_sem, evRow]
  have HR3 := hide r3
  have HRF3 := hide rf3
  have HA3 := hide a3
  have HB3 := hide hb3
  have HS3 := hide hs3
  clear r3 rf3 a3 hb3 hs3
  have HEB := hide eb
  have HH := hide h
  have HHP := hide hH
  have HFZ := hide hfz
  have HA := hide ha
  clear h hH hfz ha ea eb
  go_enter Try.func102, Try.ntmps102
  go_upto_region 3 with fail
  generalize ((w.alloc (.cells #[.int .i64 0, .int .i64 0, .int .i64 0, .int .i64 0, .int .i64 0, .int .i64 0, .int .i64 0] 41)).alloc (.cells #[.int .i64 a.time, .int .i64 a.to, .int .i64 a.src, .int .i64 a.count, .int .i64 a.n, .int .i64 a.kind, .int .i64 a.arg] 41)) = W3 at *
  have hLI : (os.length : Int) - 1 = ((os.length - 1 : Nat) : Int) := by omega
  simp only [hLI]
  replace A0 := cell_on (unhide HB3) A0
  replace B0 := cell_on (unhide HB3) B0
  replace B1 := cell_on (unhide HB3) B1
  replace B2 := cell_on (unhide HB3) B2
  replace B3 := cell_on (unhide HB3) B3
  replace B4 := cell_on (unhide HB3) B4
  replace B5 := cell_on (unhide HB3) B5
  replace B6 := cell_on (unhide HB3) B6
  replace A1 := cell_on (unhide HB3) A1
  replace A2 := cell_on (unhide HB3) A2
  replace A3 := cell_on (unhide HB3) A3
  replace A4 := cell_on (unhide HB3) A4
  replace A5 := cell_on (unhide HB3) A5
  replace A6 := cell_on (unhide HB3) A6
  replace c0 := cell_on (unhide HB3) c0
  have hh3 := (unhide HH).on (unhide HB3)
  have hfg : ∀ i, W3.frozen? ⟨g, i, none⟩ = false := by
    obtain ⟨g', cap', e1, _, _, _, e2⟩ := hh3.rows.own (by intro e; rw [List.map_eq_nil_iff] at e; subst e; simp at hpos)
    simp only [Value.slice.injEq, Option.some.injEq, Addr.mk.injEq] at e1
    obtain ⟨⟨rfl, _⟩, _, _⟩ := e1
    exact e2
  have hz0 := hfg 0
  have hz1 := hfg 1
  have hz2 := hfg 2
  have hz3 := hfg 3
  have hz4 := hfg 4
  have hz5 := hfg 5
  have hz6 := hfg 6
  have hrow := hh3.rows
  have hrl : (os.map evRow).length = os.length := List.length_map ..
  have e1 := RowsFr.setAt (k := 0) (by rw [hrl]; exact hpos) (evRow b) rfl hrow
  have HE1 : Hid (RowsFr N 41 7 (setRow W3 g 0 (evRow b)).drew (.slice (some ⟨g, 0, none⟩) os.length cap) ((os.map evRow).set 0 (evRow b))) := hide (by
    rw [Nat.zero_mul] at e1; exact e1.drew)
  have HO1 : Hid (OnlyOf (.slice (some ⟨g, 0, none⟩) os.length cap) W3 (setRow W3 g 0 (evRow b)).drew) := hide ((OnlyOf.refl (.slice (some ⟨g, 0, none⟩) os.length cap) W3).row 0 (evRow b)).drew
  have HH3 := hide hh3
  clear e1 hrow hh3 hfg
  simp only [setRow, evRow, Nat.zero_add] at HE1 HO1
  have hl0 : (0 : Int) ≤ ((os.length - 1 : Nat) : Int) := by omega
  have hlI : ((os.length - 1 : Nat) : Int) < (os.length : Int) := by omega
  have hn0 : (0 : Int) < (os.length : Int) := by omega
  generalize hL : os.length - 1 = l at *
  go_region
  generalize (((((((W3.setCell ⟨g, 0, none⟩ (.int .i64 b.time)).setCell ⟨g, 1, none⟩ (.int .i64 b.to)).setCell ⟨g, 2, none⟩ (.int .i64 b.src)).setCell ⟨g, 3, none⟩ (.int .i64 b.count)).setCell ⟨g, 4, none⟩ (.int .i64 b.n)).setCell ⟨g, 5, none⟩ (.int .i64 b.kind)).setCell ⟨g, 6, none⟩ (.int .i64 b.arg)).drew = W4 at *
  have hgq2 : ¬ q = g := fun e => hgq e.symm
  have hs3 := unhide HS3
  have hvq : (Value.slice (some ⟨g, 0, none⟩) os.length cap).ownBlock ≠ some q := by simpa [Value.ownBlock] using hgq
  have hvr : ∀ r, w.heap.size ≤ r → (Value.slice (some ⟨g, 0, none⟩) os.length cap).ownBlock ≠ some r := fun r hr => by
    simp only [Value.ownBlock, ne_eq, Option.some.injEq]; omega
  have hbq := (unhide HO1).other q hvq
  have hbr := (unhide HO1).other w.heap.size (hvr _ (Nat.le_refl _))
  have hba := (unhide HO1).other (w.heap.size + 1) (hvr _ (by omega))
  have hf4 := frozen_block hbq (fun i => by rw [(unhide HB3).frozen (p := ⟨q, i, none⟩) hq]; exact (unhide HFZ) i)
  have hs4 : W4.heap.size = w.heap.size + 2 := (unhide HO1).size.trans hs3
  have q0 := (World.cell?_of_block (a := ⟨q, 0, none⟩) hbq).trans c0
  have q1 := (World.cell?_of_block (a := ⟨q, 1, none⟩) hbq).trans (unhide HH3).c1
  have f40 := hf4 0
  have HF4 := hide hf4
  clear A0 A1 A2 A3 A4 A5 A6 B0 B1 B2 B3 B4 B5 B6 hz0 hz1 hz2 hz3 hz4 hz5 hz6
  have hm5 : HeapM N 41 q (.slice (some ⟨g, 0, none⟩) l cap) (W4.setCell ⟨q, 0, none⟩ (.slice (some ⟨g, 0, none⟩) l cap)) (cutL os b) := by
    have hcut : RowsFr N 41 7 W4 (.slice (some ⟨g, 0, none⟩) l cap) ((cutL os b).map evRow) := by
      have e := RowsFr.cut (rs := (os.map evRow).set 0 (evRow b)) (k := l) (by simp; omega) (by rw [List.length_set, List.length_map]; exact unhide HE1)
      rwa [← hL, cutL_rows, hL] at e
    refine ⟨hcut.block (fun k hk _ => ?_), by simpa [Value.ownBlock] using hgq, by simp [go_sem, q0], by simp [go_sem, q1]⟩
    have : k = g := by simpa [Value.ownBlock] using hk.symm
    subst this
    exact Below.heap_setCell W4 ⟨q, 0, none⟩ _ k hgq
  have hB5 : Both q (.slice (some ⟨g, 0, none⟩) os.length cap) w (W4.setCell ⟨q, 0, none⟩ (.slice (some ⟨g, 0, none⟩) l cap)) := ((Both.ofBelow (unhide HB3)).trans (Both.ofOnly (unhide HO1))).set
  have hf5 : ∀ i, (W4.setCell ⟨q, 0, none⟩ (.slice (some ⟨g, 0, none⟩) l cap)).frozen? ⟨q, i, none⟩ = false := fun i => by simpa [go_sem] using hf4 i
  have hr5 : (W4.setCell ⟨q, 0, none⟩ (.slice (some ⟨g, 0, none⟩) l cap)).heap[w.heap.size]? = W3.heap[w.heap.size]? := (Below.heap_setCell W4 ⟨q, 0, none⟩ _ _ (by simp; omega)).trans hbr
  have ha5 : (W4.setCell ⟨q, 0, none⟩ (.slice (some ⟨g, 0, none⟩) l cap)).heap[w.heap.size + 1]? = W3.heap[w.heap.size + 1]? := (Below.heap_setCell W4 ⟨q, 0, none⟩ _ _ (by simp; omega)).trans hba
  have hs5 : (W4.setCell ⟨q, 0, none⟩ (.slice (some ⟨g, 0, none⟩) l cap)).heap.size = w.heap.size + 2 := by simpa using hs4
  have HKQ : Hid (∀ o u, o ≠ 0 → w.cell? ⟨q, o, none⟩ = some u → (W4.setCell ⟨q, 0, none⟩ (.slice (some ⟨g, 0, none⟩) l cap)).cell? ⟨q, o, none⟩ = some u) := hide (fun o u ho hu => by
    have e := (World.cell?_of_block (a := ⟨q, o, none⟩) hbq).trans (cell_on (unhide HB3) hu)
    have ho' : ¬ 0 = o := fun h => ho h.symm
    simp [go_sem, ho, ho', e])
  have HM5 := hide hm5
  have HB5 := hide hB5
  have HF5 := hide hf5
  have HR5 := hide hr5
  have HA5 := hide ha5
  have HS5 := hide hs5
  clear hm5 hB5 hf5 hr5 ha5 hs5 hbq hbr hba hf4 q1
  have hlc : (l : Int) ≤ (cap : Int) := by omega
  go_wp2_with fail
  generalize W4.setCell ⟨q, 0, none⟩ (.slice (some ⟨g, 0, none⟩) l cap) = W5 at *
  have hsink : Calls Try.prog 109 #[.pointer (some ⟨q, 0, none⟩), .int .i64 0] W5 fun e w' => e = .returned (.tuple #[]) ∧ ∃ os', os'.Perm (cutL os b) ∧ Heap evLess os' ∧ HeapM N 41 q (.slice (some ⟨g, 0, none⟩) l cap) w' os' ∧ Grow (.slice (some ⟨g, 0, none⟩) l cap) W5 w' := by
    have hlen : (cutL os b).length = l := by rw [cutL_length]; exact hL
    by_cases h0 : l = 0
    · have c5 := (unhide HM5).c0
      subst h0
      refine (sinkEv_nil q _ cap W5 c5).mono ?_
      rintro e w' ⟨rfl, hb⟩
      have hnil : cutL os b = [] := List.length_eq_zero_iff.1 hlen
      exact ⟨rfl, cutL os b, List.Perm.refl _, by rw [hnil]; exact heap_nil, (unhide HM5).on hb, Grow.ofBelow hb⟩
    · exact sinkEv_any S N 41 q 0 _ (cutL os b) W5 (unhide HM5) (by omega) (by omega) (cutL_sink (unhide HHP) b)
  refine hsink.mono ?_
  rintro e w9 ⟨rfl, os', hp9, hh9, hm9, hg9⟩
  clear hsink
  have hs5 := unhide HS5
  have hvr2 : ∀ r, w.heap.size ≤ r → (Value.slice (some ⟨g, 0, none⟩) l cap).ownBlock ≠ some r := fun r hr => by
    simp only [Value.ownBlock, ne_eq, Option.some.injEq]; omega
  have hr9 := (hg9.other w.heap.size (by omega) (hvr2 _ (Nat.le_refl _))).trans (unhide HR5)
  have ha9 := (hg9.other (w.heap.size + 1) (by omega) (hvr2 _ (by omega))).trans (unhide HA5)
  have z0 := (World.cell?_of_block (a := ⟨w.heap.size, 0, none⟩) hr9).trans ((unhide HR3) 0 (by omega))
  have z1 := (World.cell?_of_block (a := ⟨w.heap.size, 1, none⟩) hr9).trans ((unhide HR3) 1 (by omega))
  have z2 := (World.cell?_of_block (a := ⟨w.heap.size, 2, none⟩) hr9).trans ((unhide HR3) 2 (by omega))
  have z3 := (World.cell?_of_block (a := ⟨w.heap.size, 3, none⟩) hr9).trans ((unhide HR3) 3 (by omega))
  have z4 := (World.cell?_of_block (a := ⟨w.heap.size, 4, none⟩) hr9).trans ((unhide HR3) 4 (by omega))
  have z5 := (World.cell?_of_block (a := ⟨w.heap.size, 5, none⟩) hr9).trans ((unhide HR3) 5 (by omega))
  have z6 := (World.cell?_of_block (a := ⟨w.heap.size, 6, none⟩) hr9).trans ((unhide HR3) 6 (by omega))
  have y0 := (World.cell?_of_block (a := ⟨w.heap.size + 1, 0, none⟩) ha9).trans ((unhide HA3) 0 (by omega))
  have y1 := (World.cell?_of_block (a := ⟨w.heap.size + 1, 1, none⟩) ha9).trans ((unhide HA3) 1 (by omega))
  have y2 := (World.cell?_of_block (a := ⟨w.heap.size + 1, 2, none⟩) ha9).trans ((unhide HA3) 2 (by omega))
  have y3 := (World.cell?_of_block (a := ⟨w.heap.size + 1, 3, none⟩) ha9).trans ((unhide HA3) 3 (by omega))
  have y4 := (World.cell?_of_block (a := ⟨w.heap.size + 1, 4, none⟩) ha9).trans ((unhide HA3) 4 (by omega))
  have y5 := (World.cell?_of_block (a := ⟨w.heap.size + 1, 5, none⟩) ha9).trans ((unhide HA3) 5 (by omega))
  have y6 := (World.cell?_of_block (a := ⟨w.heap.size + 1, 6, none⟩) ha9).trans ((unhide HA3) 6 (by omega))
  simp [evRow] at y0 y1 y2 y3 y4 y5 y6
  have zf := frozen_block hr9 (unhide HRF3)
  have zf0 := zf 0
  have zf1 := zf 1
  have zf2 := zf 2
  have zf3 := zf 3
  have zf4 := zf 4
  have zf5 := zf 5
  have zf6 := zf 6
  have HZF := hide zf
  have HM9 := hide hm9
  have HG9 := hide hg9
  have HP9 := hide hp9
  have HH9 := hide hh9
  clear zf hm9 hg9 hp9 hh9 hr9 ha9
  go_wp2_with fail
  refine bodyPost_ret (v := evAgg a) (by simp [results, Try.results102, go_sem, z0, z1, z2, z3, z4, z5, z6]) rfl ?_
  have hq1 : ¬ q = w.heap.size := by omega
  have hg1 : ¬ g = w.heap.size := by omega
  have hb9 := (unhide HB5).then (Both.ofGrow (unhide HG9)) (fun k hk => Or.inl hk)
  have hlast : os[os.length - 1]? = some b := by rw [hL, unhide HEB]; exact List.getElem?_eq_getElem _
  refine ⟨rfl, _, os', (List.Perm.cons a (unhide HP9)).trans (cutL_perm (unhide HA) hlast), unhide HH9, (unhide HM9).block ?_ ?_, Both.new (o := 0) (evRow a) (Nat.le_refl _) hb9, rfl, ?_, fun o u ho hu => (World.cell?_of_block (a := ⟨q, o, none⟩) (setRow_other (evRow a) 0 w9 q hq1)).trans ((unhide HG9).cell (by simpa [Value.ownBlock] using hgq) ((unhide HKQ) o u ho hu))⟩
  · exact setRow_other (evRow a) 0 w9 q hq1
  · intro k hk
    have : k = g := by simpa [Value.ownBlock] using hk.symm
    subst this
    exact setRow_other (evRow a) 0 w9 k hg1
  · exact frozen_block (setRow_other (evRow a) 0 w9 q hq1) ((unhide HG9).fz (by simpa [Value.ownBlock] using hgq) (by omega) (unhide HF5))
end Go.Proofs.Ythekkgndckkoaaa.E
/- impl's heap of events: takeAll, newOutHeap, OutSort. -/
namespace Go.Proofs.Ythekkgndckkoaaa.E
open Go.RowKit
set_option linter.unusedVariables false
set_option linter.unusedSimpArgs false

set_option maxRecDepth 100000 in
set_option maxHeartbeats 1000000 in
theorem takeAllEv_any (S : Strict evLess) (N q : Nat) (v : Value) (os : List EvV) (w : World) (h : HeapM N 41 q v w os) (hfz : ∀ i, w.frozen? ⟨q, i, none⟩ = false) (hH : Heap evLess os) (hx : os.length ≤ 1000000000) :
    Calls Try.prog 86 #[.pointer (some ⟨q, 0, none⟩)] w fun e w' => ∃ vr zs, e = .returned vr ∧ zs.Perm os ∧ Asc evLess zs ∧ RowsFr w.heap.size 41 7 w' vr (zs.map evRow) ∧ Both q v w w' := by
  obtain ⟨i7, hi7, hz70, hz71, hz72⟩ := infoT_parts infoT_EvH
  have hq : q < w.heap.size := World.block_lt_of_cell? w ⟨q, 0, none⟩ h.c0
  have hvl : ∀ g, v.ownBlock = some g → g < w.heap.size := fun g hg => (h.rows.blk g hg).2
  have HVL := hide hvl
  have HH := hide h
  have HHP := hide hH
  have HFZ := hide hfz
  clear h hH hfz hvl
  go_enter Try.func86, Try.ntmps86
  go_wp2_with fail
  go_loopw [3] (fun l wr => ∃ (ys xs : List EvV) (vh : Value), Hid ((ys ++ xs).Perm os) ∧ Hid (Asc evLess ys) ∧ Hid (∀ y ∈ ys, ∀ x ∈ xs, evLess x y = false) ∧ Hid (Heap evLess xs) ∧ Hid (HeapM N 41 q vh wr xs) ∧ Hid (vh.ownBlock = v.ownBlock) ∧ Hid (∀ i, wr.frozen? ⟨q, i, none⟩ = false) ∧ Hid (RowsFr w.heap.size 41 7 wr l (ys.map evRow)) ∧ Hid (Both q v w wr)) (fun l _ => os.length - lenV l)
  case atStart => exact ⟨[], os, v, hide (List.Perm.refl _), hide List.Pairwise.nil, hide (fun y hy => by simp at hy), HHP, HH, hide rfl, HFZ, hide (Or.inl ⟨rfl, rfl⟩), hide (Both.refl _ _ _)⟩
  case round =>
    obtain ⟨ys, xs, vh, HP, HA, HL, HX, HM, HV, HF, HR, HB⟩ := hrel
    obtain ⟨la, lc, rfl⟩ := (unhide HR).sliced
    have hlen : ys.length + xs.length = os.length := by rw [← List.length_append]; exact (unhide HP).length_eq
    rw [List.length_map] at HR ⊢
    obtain ⟨ha, hc, hvh⟩ : ∃ a c, vh = .slice a xs.length c := by
      have := (unhide HM).rows.sliced; rwa [List.length_map] at this
    subst hvh
    have c0 := (unhide HM).c0
    by_cases hlt : 0 < xs.length
    · have hgt : (0 : Int) < (xs.length : Int) := by omega
      go_wp2_with fail
      have HA0 : Hid (xs[0]? = some xs[0]) := hide (List.getElem?_eq_getElem hlt)
      generalize xs[0] = a at *
      refine (takeEv_any S N q _ xs a _ (unhide HM) (unhide HF) (unhide HX) (unhide HA0) (by omega)).mono ?_
      rintro e w2 ⟨rfl, v2, xs2, hp2, hh2, hm2, hb2, hv2, hf2, _⟩
      have hvl2 : (Value.slice la ys.length lc).ownBlock ≠ some q := fun e => by have := ((unhide HR).blk q e).1; omega
      have hvl3 : (Value.slice la ys.length lc).ownBlock = none ∨ (Value.slice la ys.length lc).ownBlock ≠ (Value.slice ha xs.length hc).ownBlock := by
        cases e : (Value.slice la ys.length lc).ownBlock with
        | none => exact Or.inl rfl
        | some b =>
          refine Or.inr (fun e2 => ?_)
          have h1 := ((unhide HR).blk b e).1
          have h2 := (unhide HVL) b ((unhide HV).symm.trans e2.symm)
          omega
      have hr2 := hb2.rows (unhide HR) hvl2 hvl3
      have hbA : Below w2.heap.size w2 (w2.alloc (.cells #[.int .i64 a.time, .int .i64 a.to, .int .i64 a.src, .int .i64 a.count, .int .i64 a.n, .int .i64 a.kind, .int .i64 a.arg] 41)) := (Below.refl _ _).alloc (Nat.le_refl _) _
      have hownA : (w2.alloc (.cells #[.int .i64 a.time, .int .i64 a.to, .int .i64 a.src, .int .i64 a.count, .int .i64 a.n, .int .i64 a.kind, .int .i64 a.arg] 41)).ownsRow w.heap.size 41 7 (.slice la ys.length lc) ys.length (flatCells (ys.map evRow)) := by
        have e := ownsOn hbA (hr2.owns (by omega) (evRow_len ys))
        rwa [List.length_map] at e
      have HB2 := hide (((unhide HB).then hb2 (fun g hg => Or.inl ((unhide HV).symm.trans hg))))
      have hs2 : w.heap.size ≤ w2.heap.size := (unhide HB2).size
      have HM2 := hide hm2
      have HP2 := hide hp2
      have HH2 := hide hh2
      have HV2 := hide (hv2.trans (unhide HV))
      have HF2 := hide hf2
      have HBA := hide hbA
      clear hm2 hp2 hh2 hv2 hf2 hr2 hb2 hbA
      go_wp2_with (at_builtin; refine wpList_append_lies _ (by rfl) _ _ _ (by rfl) w.heap.size 41 i7 _ 7 56 slice_EvH hi7 hz70 hz71 hz72 (by rfl) (by omega) (.slice la ys.length lc) ys.length (flatCells (ys.map evRow)) (by rfl) hownA ⟨w2.heap.size, 0, none⟩ 1 1 (evCells a) (by rfl) (by rfl) (World.news_of_block (cs := #[.int .i64 a.time, .int .i64 a.to, .int .i64 a.src, .int .i64 a.count, .int .i64 a.n, .int .i64 a.kind, .int .i64 a.arg]) (t := 41) (fr := (0, 0)) (heap_alloc_new w2 _)) (by simp [Value.oneCell']) (by omega) (by unfold maxLen; omega) (by omega) (by simp; omega) (w2.heap.size + 1) (by simp) ?_; intro gg cap w3 hown3 hgrow hat hlt3)
      have hfar : ∀ b, b < w.heap.size → w3.heap[b]? = w2.heap[b]? := fun b hb => by
        rw [hgrow.block b (by simp; omega) (fun e => by have := ((unhide HR).blk b e.symm).1; omega), (unhide HBA).block b (by omega)]
      have hm3 := (unhide HM2).block (hfar q hq) (fun g hg => hfar g ((unhide HVL) g ((unhide HV2).symm.trans hg)))
      have hb3 := (unhide HB2).later (unhide HBA) hgrow (fun g hg => ((unhide HR).blk g hg).1)
      have hr3 : RowsFr w.heap.size 41 7 w3 (.slice (some ⟨gg, 0, none⟩) (ys.length + 1) cap) ((ys ++ [a]).map evRow) := by
        rw [List.map_append]
        refine rowsFr_snoc (n := 7) (fun r hr => ?_) (by rw [List.length_map]; exact hown3)
        have := evRow_len (ys ++ [a]); rw [List.map_append] at this; exact this r hr
      have hfirst := heap_first S (unhide HX) (unhide HA0)
      have hmem : ∀ x ∈ xs2, x ∈ xs := fun x hx => (unhide HP2).mem_iff.1 (List.mem_cons_of_mem _ hx)
      have hain : a ∈ xs := (unhide HP2).mem_iff.1 (List.mem_cons_self ..)
      have hF3 := frozen_block (hfar q hq) (unhide HF2)
      go_wp2_with fail
      go_roundw
      case rel =>
        refine ⟨ys ++ [a], xs2, v2, hide ?_, hide ?_, hide ?_, HH2, hide hm3, HV2, hide hF3, hide hr3, hide hb3⟩
        · rw [List.append_assoc]
          exact (List.Perm.append_left ys (unhide HP2)).trans (unhide HP)
        · exact asc_snoc (unhide HA) (fun y hy => (unhide HL) y hy a hain)
        · intro y hy x hx
          rcases List.mem_append.1 hy with h | h
          · exact (unhide HL) y h x (hmem x hx)
          · obtain rfl : y = a := by simpa using h
            exact hfirst x (hmem x hx)
      case measure => simp [lenV]; omega
    · have hx0 : xs = [] := List.length_eq_zero_iff.1 (by omega)
      subst hx0
      go_wp2_with fail
      go_ret
      exact ⟨_, ys, rfl, by have := unhide HP; rwa [List.append_nil] at this, unhide HA, unhide HR, unhide HB⟩

end Go.Proofs.Ythekkgndckkoaaa.E
/- impl's heap of events that has each once: putAll. -/
namespace Go.Proofs.Ythekkgndckkoaaa.E
open Go.RowKit
set_option linter.unusedVariables false
set_option linter.unusedSimpArgs false

/-- What is written lies in these blocks, or is new. -/
structure Touch (T : Nat → Prop) (w w' : World) : Prop where
  size : w.heap.size ≤ w'.heap.size
  other : ∀ b, b < w.heap.size → ¬ T b → w'.heap[b]? = w.heap[b]?
  below : ∀ B, B ≤ w.heap.size → (∀ b, T b → B ≤ b) → Below B w w'

theorem Touch.refl (T : Nat → Prop) (w : World) : Touch T w w := ⟨Nat.le_refl _, fun _ _ _ => rfl, fun B _ _ => Below.refl B w⟩
theorem Touch.ofBelow {T : Nat → Prop} {w w' : World} (h : Below w.heap.size w w') : Touch T w w' := ⟨h.size, fun b hb _ => h.block b hb, fun B hB _ => h.mono hB⟩
theorem Touch.ofBoth {q : Nat} {v : Value} {w w' : World} (h : Both q v w w') : Touch (fun x => x = q ∨ v.ownBlock = some x) w w' :=
  ⟨h.size, fun b hb hn => h.other b hb (fun e => hn (Or.inl e)) (fun e => hn (Or.inr e)), fun B hB hT => h.below B (hT q (Or.inl rfl)) hB (fun g hg => hT g (Or.inr hg))⟩
theorem Touch.ofGrown {b : Nat} {w w' : World} (h : w.grownBy w' (some b)) : Touch (fun x => x = b) w w' :=
  ⟨(Below.grown (B := 0) (Below.refl 0 w) h (Nat.zero_le _) (fun _ _ => Nat.zero_le _)).size, fun x hx hn => h.block x hx (fun e => hn (Option.some.inj e)), fun B hB hT => Below.grown (Below.refl B w) h hB (fun k hk => by
    obtain rfl : b = k := Option.some.inj hk
    exact hT b rfl)⟩
theorem Touch.then {T T' : Nat → Prop} {a b c : World} (h : Touch T a b) (k : Touch T' b c) (hT : ∀ x, T' x → T x ∨ a.heap.size ≤ x) : Touch T a c :=
  ⟨Nat.le_trans h.size k.size, fun x hx hn => (k.other x (Nat.lt_of_lt_of_le hx h.size) (fun e => by
      rcases hT x e with h1 | h1
      · exact hn h1
      · omega)).trans (h.other x hx hn), fun B hB hg => (h.below B hB hg).trans (k.below B (Nat.le_trans hB h.size) (fun x e => by
      rcases hT x e with h1 | h1
      · exact hg x h1
      · omega))⟩
theorem Touch.mono {T T' : Nat → Prop} {a b : World} (h : Touch T a b) (hT : ∀ x, T x → T' x) : Touch T' a b :=
  ⟨h.size, fun x hx hn => h.other x hx (fun e => hn (hT x e)), fun B hB hg => h.below B hB (fun x e => hg x (hT x e))⟩
theorem Touch.cell {T : Nat → Prop} {w w' : World} {b o : Nat} {u : Value} (h : Touch T w w') (hn : ¬ T b) (hc : w.cell? ⟨b, o, none⟩ = some u) : w'.cell? ⟨b, o, none⟩ = some u :=
  (World.cell?_of_block (a := ⟨b, o, none⟩) (h.other b (World.block_lt_of_cell? w ⟨b, o, none⟩ hc) hn)).trans hc

/-- The heap of events at block q, its list at v, its map at block b. -/
structure EvHeap (N q b : Nat) (v : Value) (w : World) (xs : List EvV) : Prop where
  m : HeapM N 41 q v w xs
  fz : ∀ i, w.frozen? ⟨q, i, none⟩ = false
  c2 : w.cell? ⟨q, 2, none⟩ = some (.map (some b))
  mp : ∃ ks, MapOf w b ks ∧ xs.Perm ks
  hp : Heap evLess xs
  nd : xs.Nodup
  bq : b ≠ q
  bv : v.ownBlock ≠ some b
  nb : N ≤ b
  nq : N ≤ q
  ns : N ≤ w.heap.size

/-- The blocks that it lies in. -/
def Its (q b : Nat) (v : Value) (x : Nat) : Prop := x = q ∨ x = b ∨ v.ownBlock = some x

theorem EvHeap.block {N q b : Nat} {v : Value} {w w' : World} {xs : List EvV} (h : EvHeap N q b v w xs) (hs : w.heap.size ≤ w'.heap.size) (hk : ∀ x, Its q b v x → w'.heap[x]? = w.heap[x]?) : EvHeap N q b v w' xs := by
  obtain ⟨ks, h1, h2⟩ := h.mp
  exact ⟨h.m.block (hk q (Or.inl rfl)) (fun g hg => hk g (Or.inr (Or.inr hg))), frozen_block (hk q (Or.inl rfl)) h.fz, (World.cell?_of_block (a := ⟨q, 2, none⟩) (hk q (Or.inl rfl))).trans h.c2, ⟨ks, h1.block (hk b (Or.inr (Or.inl rfl))), h2⟩, h.hp, h.nd, h.bq, h.bv, h.nb, h.nq, Nat.le_trans h.ns hs⟩

theorem EvHeap.its {N q b : Nat} {v : Value} {w : World} {xs : List EvV} (h : EvHeap N q b v w xs) : ∀ x, Its q b v x → N ≤ x ∧ x < w.heap.size := fun x hx => by
  rcases hx with rfl | rfl | hx
  · exact ⟨h.nq, World.block_lt_of_cell? w ⟨x, 0, none⟩ h.m.c0⟩
  · obtain ⟨ks, h1, _⟩ := h.mp
    exact ⟨h.nb, h1.lt⟩
  · exact h.m.rows.blk x hx

theorem EvHeap.on {N q b : Nat} {v : Value} {w w' : World} {xs : List EvV} (hb : Below w.heap.size w w') (h : EvHeap N q b v w xs) : EvHeap N q b v w' xs :=
  h.block hb.size (fun x hx => hb.block x (h.its x hx).2)

theorem look_yes {w : World} {b : Nat} {ks : List EvV} {e : EvV} (h : MapOf w b ks) (he : e ∈ ks) : (Instr.lookup 106 (.map (some b)) (evAgg e) false).run Try.prog w = .ok (.int .i64 1) w := by
  rcases look_row h e with ⟨h1, _⟩ | ⟨_, h2⟩
  · exact absurd he h1
  · exact h2
theorem look_no {w : World} {b : Nat} {ks : List EvV} {e : EvV} (h : MapOf w b ks) (he : ¬ e ∈ ks) : (Instr.lookup 106 (.map (some b)) (evAgg e) false).run Try.prog w = .ok (.int .i64 0) w := by
  rcases look_row h e with ⟨_, h2⟩ | ⟨h1, _⟩
  · exact h2
  · exact absurd h1 he

theorem rowOfEvent_on (e : EvV) (w : World) : Calls Try.prog 97 #[evAgg e] w fun r w' => r = .returned (evAgg e) ∧ Below w.heap.size w w' :=
  (rowOfEvent_any e.time e.to e.src e.count e.n e.kind e.arg w).mono fun r w' ⟨h1, h2⟩ => ⟨h1, by subst h2; exact ((Below.refl _ _).alloc (Nat.le_refl _) _).alloc (by simp) _⟩

/-- An event's cells at a block. -/
def At7 (w : World) (r : Nat) (e : EvV) : Prop := w.cell? ⟨r, 0, none⟩ = some (.int .i64 e.time) ∧ w.cell? ⟨r, 1, none⟩ = some (.int .i64 e.to) ∧ w.cell? ⟨r, 2, none⟩ = some (.int .i64 e.src) ∧ w.cell? ⟨r, 3, none⟩ = some (.int .i64 e.count) ∧ w.cell? ⟨r, 4, none⟩ = some (.int .i64 e.n) ∧ w.cell? ⟨r, 5, none⟩ = some (.int .i64 e.kind) ∧ w.cell? ⟨r, 6, none⟩ = some (.int .i64 e.arg)

theorem At7.on {w w' : World} {r : Nat} {e : EvV} (hb : Below w.heap.size w w') (h : At7 w r e) : At7 w' r e :=
  ⟨cell_on hb h.1, cell_on hb h.2.1, cell_on hb h.2.2.1, cell_on hb h.2.2.2.1, cell_on hb h.2.2.2.2.1, cell_on hb h.2.2.2.2.2.1, cell_on hb h.2.2.2.2.2.2⟩
theorem At7.block {w w' : World} {r : Nat} {e : EvV} (hb : w'.heap[r]? = w.heap[r]?) (h : At7 w r e) : At7 w' r e :=
  ⟨(World.cell?_of_block (a := ⟨r, 0, none⟩) hb).trans h.1, (World.cell?_of_block (a := ⟨r, 1, none⟩) hb).trans h.2.1, (World.cell?_of_block (a := ⟨r, 2, none⟩) hb).trans h.2.2.1, (World.cell?_of_block (a := ⟨r, 3, none⟩) hb).trans h.2.2.2.1, (World.cell?_of_block (a := ⟨r, 4, none⟩) hb).trans h.2.2.2.2.1, (World.cell?_of_block (a := ⟨r, 5, none⟩) hb).trans h.2.2.2.2.2.1, (World.cell?_of_block (a := ⟨r, 6, none⟩) hb).trans h.2.2.2.2.2.2⟩
theorem at7_new (w : World) (e : EvV) (t : TypeId) : At7 (w.alloc (.cells #[.int .i64 e.time, .int .i64 e.to, .int .i64 e.src, .int .i64 e.count, .int .i64 e.n, .int .i64 e.kind, .int .i64 e.arg] t)) w.heap.size e :=
  ⟨by simp [go_sem], by simp [go_sem], by simp [go_sem], by simp [go_sem], by simp [go_sem], by simp [go_sem], by simp [go_sem]⟩

set_option maxRecDepth 100000 in
set_option maxHeartbeats 1000000 in
theorem putAll_any (S : Strict evLess) (N q b : Nat) (v vl : Value) (xs es : List EvV) (w : World) (h : EvHeap N q b v w xs) (hl : RowsAt 7 w vl (es.map evRow)) (hla : es ≠ [] → ∀ ad n c, vl = .slice (some ad) n c → ¬ Its q b v ad.block) (hx : xs.length + es.length ≤ 1000000000) :
    Calls Try.prog 101 #[.pointer (some ⟨q, 0, none⟩), vl] w fun e w' => e = .returned (.tuple #[]) ∧ ∃ v' xs', EvHeap N q b v' w' xs' ∧ (∀ a, a ∈ xs' ↔ a ∈ xs ∨ a ∈ es) ∧ xs'.length ≤ xs.length + es.length ∧ Touch (Its q b v) w w' ∧ (∀ g, v'.ownBlock = some g → v.ownBlock = some g ∨ w.heap.size ≤ g) := by
  obtain ⟨ad, cap, rfl, hlc, hm, hc⟩ := hl
  rw [List.length_map] at *
  unfold maxLen at hm
  have HC := hide hc
  have HH := hide h
  have HN := hide hla
  clear hc h hla
  go_enter Try.func101, Try.ntmps101
  go_wp2_with fail
  go_loopw [9] (fun i wr => ∃ (k : Nat) (ys : List EvV) (u : Value), k ≤ es.length ∧ i = .int .i64 k ∧ ys.length ≤ xs.length + k ∧ Hid (EvHeap N q b u wr ys) ∧ Hid (∀ a, a ∈ ys ↔ a ∈ xs ∨ a ∈ es.take k) ∧ Hid (Touch (Its q b v) w wr) ∧ Hid (∀ g, u.ownBlock = some g → v.ownBlock = some g ∨ w.heap.size ≤ g)) (fun i _ => es.length - (intOf i).toNat)
  case atStart => exact ⟨0, xs, v, Nat.zero_le _, rfl, Nat.le_refl _, HH, hide (by simp), hide (Touch.refl _ _), hide (fun g hg => Or.inl hg)⟩
  case round =>
    obtain ⟨k, ys, u, hk, rfl, hyl, HE, HS, HT, HU⟩ := hrel
    by_cases hlt : k < es.length
    · have hkI : (k : Int) < (es.length : Int) := by omega
      have hk0 : (0 : Int) ≤ (k : Int) := by omega
      obtain ⟨c, off, had, hcell⟩ : ∃ c off, ad = some ⟨c, off, none⟩ ∧ ∀ j, j < 7 → wr.cell? ⟨c, off + k * 7 + j, none⟩ = some (.int .i64 ((evRow es[k]).getD j 0)) := by
        rcases unhide HC with h | ⟨c, off, h1, h2⟩
        · rw [List.map_eq_nil_iff] at h; subst h; simp at hlt
        · refine ⟨c, off, h1, fun j hj => ?_⟩
          have e := h2 k (by rw [List.length_map]; exact hlt) j hj
          rw [List.getElem_map] at e
          exact (unhide HT).cell ((unhide HN) (fun e => by subst e; simp at hlt) ⟨c, off, none⟩ _ _ (by rw [h1])) e
      subst had
      have HXK : Hid (es.take (k + 1) = es.take k ++ [es[k]]) := hide (take_more es k hlt)
      generalize es[k] = x at *
      have p0 := hcell 0 (by omega)
      have p1 := hcell 1 (by omega)
      have p2 := hcell 2 (by omega)
      have p3 := hcell 3 (by omega)
      have p4 := hcell 4 (by omega)
      have p5 := hcell 5 (by omega)
      have p6 := hcell 6 (by omega)
      simp [evRow] at p0 p1 p2 p3 p4 p5 p6
      clear hcell
      go_wp2_with fail
      have hb1 : Below wr.heap.size wr (wr.alloc (.cells #[.int .i64 x.time, .int .i64 x.to, .int .i64 x.src, .int .i64 x.count, .int .i64 x.n, .int .i64 x.kind, .int .i64 x.arg] 41)) := (Below.refl _ _).alloc (Nat.le_refl _) _
      have hA1 := at7_new wr x 41
      refine (rowOfEvent_on x _).mono ?_
      rintro e w2 ⟨rfl, hb2⟩
      have hb3 : Below w2.heap.size w2 (w2.alloc (.cells #[.int .i64 x.time, .int .i64 x.to, .int .i64 x.src, .int .i64 x.count, .int .i64 x.n, .int .i64 x.kind, .int .i64 x.arg] 122)) := (Below.refl _ _).alloc (Nat.le_refl _) _
      have HA5 := hide ((hA1.on hb2).on hb3)
      have HA6 := hide (at7_new w2 x 122)
      have HB3 := hide (below_then (below_then hb1 hb2) hb3)
      have h56 : wr.heap.size < w2.heap.size := by have := hb2.size; simp at this; omega
      clear hb1 hA1 hb2 hb3 p0 p1 p2 p3 p4 p5 p6
      go_upto_region 4 with fail
      generalize w2.alloc (.cells #[.int .i64 x.time, .int .i64 x.to, .int .i64 x.src, .int .i64 x.count, .int .i64 x.n, .int .i64 x.kind, .int .i64 x.arg] 122) = W3 at *
      have hE3 := (unhide HE).on (unhide HB3)
      obtain ⟨ks, hmk, hpk⟩ := hE3.mp
      have c2 := hE3.c2
      have HM3 := hide hE3
      have HMK := hide hmk
      have HPK := hide hpk
      have hbl : b < W3.heap.size := hmk.lt
      clear hE3 hmk hpk
      have y2 : ∀ y : On W3, y.y.cell? ⟨q, 2, none⟩ = some (.map (some b)) := fun y => cell_on y.h c2
      have y60 : ∀ y : On W3, y.y.cell? ⟨w2.heap.size, 0, none⟩ = some (.int .i64 x.time) := fun y => cell_on y.h (unhide HA6).1
      have y61 : ∀ y : On W3, y.y.cell? ⟨w2.heap.size, 1, none⟩ = some (.int .i64 x.to) := fun y => cell_on y.h (unhide HA6).2.1
      have y62 : ∀ y : On W3, y.y.cell? ⟨w2.heap.size, 2, none⟩ = some (.int .i64 x.src) := fun y => cell_on y.h (unhide HA6).2.2.1
      have y63 : ∀ y : On W3, y.y.cell? ⟨w2.heap.size, 3, none⟩ = some (.int .i64 x.count) := fun y => cell_on y.h (unhide HA6).2.2.2.1
      have y64 : ∀ y : On W3, y.y.cell? ⟨w2.heap.size, 4, none⟩ = some (.int .i64 x.n) := fun y => cell_on y.h (unhide HA6).2.2.2.2.1
      have y65 : ∀ y : On W3, y.y.cell? ⟨w2.heap.size, 5, none⟩ = some (.int .i64 x.kind) := fun y => cell_on y.h (unhide HA6).2.2.2.2.2.1
      have y66 : ∀ y : On W3, y.y.cell? ⟨w2.heap.size, 6, none⟩ = some (.int .i64 x.arg) := fun y => cell_on y.h (unhide HA6).2.2.2.2.2.2
      have hne3 : Nonempty (On W3) := ⟨⟨W3, Below.refl _ _⟩⟩
      by_cases hin : x ∈ ks
      · have hiny : x ∈ ys := (unhide HPK).mem_iff.2 hin
        have yl : ∀ y : On W3, (Instr.lookup 106 (.map (some b)) (.agg #[.int .i64 x.time, .int .i64 x.to, .int .i64 x.src, .int .i64 x.count, .int .i64 x.n, .int .i64 x.kind, .int .i64 x.arg]) false).run Try.prog y.y = .ok (.int .i64 1) y.y := fun y => look_yes ((unhide HMK).block (y.h.block b hbl)) hin
        refine wp_region_on (by kernel_rfl) (by kernel_rfl) ?_
        repeat (first | go_big_quiet_step (fail) | quiet_step (fail))
        refine wpQuiet_nil ?_
        intro _ hw'
        obtain ⟨nq, hw''⟩ := hw'
        subst hw''
        clear y2 y60 y61 y62 y63 y64 y65 y66 yl
        go_wp2_with fail
        go_roundw
        case rel =>
          refine ⟨k + 1, ys, u, by omega, by simp, by omega, hide ((unhide HM3).on nq.h), hide (fun a => ?_), hide ((unhide HT).then (Touch.ofBelow (T := fun _ => False) (below_then (unhide HB3) nq.h)) (fun x hx => hx.elim)), HU⟩
          rw [unhide HXK, (unhide HS) a, List.mem_append, List.mem_singleton]
          constructor
          · rintro (h | h)
            · exact Or.inl h
            · exact Or.inr (Or.inl h)
          · rintro (h | h | rfl)
            · exact Or.inl h
            · exact Or.inr h
            · exact (unhide HS) a |>.1 hiny
        case measure => simp [intOf]; omega
      · have hiny : ¬ x ∈ ys := fun h => hin ((unhide HPK).mem_iff.1 h)
        have yl : ∀ y : On W3, (Instr.lookup 106 (.map (some b)) (.agg #[.int .i64 x.time, .int .i64 x.to, .int .i64 x.src, .int .i64 x.count, .int .i64 x.n, .int .i64 x.kind, .int .i64 x.arg]) false).run Try.prog y.y = .ok (.int .i64 0) y.y := fun y => look_no ((unhide HMK).block (y.h.block b hbl)) hin
        refine wp_region_on (by kernel_rfl) (by kernel_rfl) ?_
        repeat (first | go_big_quiet_step (fail) | quiet_step (fail))
        refine wpQuiet_nil ?_
        intro _ hw'
        obtain ⟨nq, hw''⟩ := hw'
        subst hw''
        clear y2 y60 y61 y62 y63 y64 y65 y66 yl
        have hB4 := below_then (unhide HB3) nq.h
        have hE4 := (unhide HM3).on nq.h
        have hM4 := (unhide HMK).block (nq.h.block b hbl)
        have hA54 := (unhide HA5).on nq.h
        have hA64 := (unhide HA6).on nq.h
        generalize nq.y = W4 at *
        have HB4 := hide hB4
        have HE4 := hide hE4
        have HM4 := hide hM4
        have HA54 := hide hA54
        have HA64 := hide hA64
        clear hB4 hE4 hM4 hA54 hA64 HM3 HMK HA5 HA6 HB3
        go_upto_region 5 with fail
        obtain ⟨W5, hrun, hmo5, hgr5⟩ := put_row (w := W4.drew) (b := b) (ks := ks) (unhide HM4) x hin
        refine wp_region_last (L := 5) (S := fun w' : World => w'.cell? ⟨q, 2, none⟩ = some (.map (some b)) ∧ w'.cell? ⟨w2.heap.size, 0, none⟩ = some (.int .i64 x.time) ∧ w'.cell? ⟨w2.heap.size, 1, none⟩ = some (.int .i64 x.to) ∧ w'.cell? ⟨w2.heap.size, 2, none⟩ = some (.int .i64 x.src) ∧ w'.cell? ⟨w2.heap.size, 3, none⟩ = some (.int .i64 x.count) ∧ w'.cell? ⟨w2.heap.size, 4, none⟩ = some (.int .i64 x.n) ∧ w'.cell? ⟨w2.heap.size, 5, none⟩ = some (.int .i64 x.kind) ∧ w'.cell? ⟨w2.heap.size, 6, none⟩ = some (.int .i64 x.arg)) (by kernel_rfl) ?_
        have hHeld : (fun w' : World => w'.cell? ⟨q, 2, none⟩ = some (.map (some b)) ∧ w'.cell? ⟨w2.heap.size, 0, none⟩ = some (.int .i64 x.time) ∧ w'.cell? ⟨w2.heap.size, 1, none⟩ = some (.int .i64 x.to) ∧ w'.cell? ⟨w2.heap.size, 2, none⟩ = some (.int .i64 x.src) ∧ w'.cell? ⟨w2.heap.size, 3, none⟩ = some (.int .i64 x.count) ∧ w'.cell? ⟨w2.heap.size, 4, none⟩ = some (.int .i64 x.n) ∧ w'.cell? ⟨w2.heap.size, 5, none⟩ = some (.int .i64 x.kind) ∧ w'.cell? ⟨w2.heap.size, 6, none⟩ = some (.int .i64 x.arg)) (World.drew W4) := ⟨(unhide HE4).c2, unhide HA64⟩
        refine wpAnyL_take (i := 0) (v := ?_) (by kernel_rfl) rfl (by kernel_rfl) (by kernel_rfl) (by kernel_rfl) (fun _ _ _ h => h) hHeld (Or.inl ⟨by kernel_rfl, ?_⟩) ?_
        rotate_left
        · (intro w hSw; (try dsimp only at hSw); obtain ⟨s0, s1, s2, s3, s4, s5, s6, s7⟩ := hSw; go_simp; try with_reducible rfl)
        refine wpAnyL_take (i := 1) (v := ?_) (by kernel_rfl) rfl (by kernel_rfl) (by kernel_rfl) (by kernel_rfl) (fun _ _ _ h => h) hHeld (Or.inl ⟨by kernel_rfl, ?_⟩) ?_
        rotate_left
        · (intro w hSw; (try dsimp only at hSw); obtain ⟨s0, s1, s2, s3, s4, s5, s6, s7⟩ := hSw; go_simp; try with_reducible rfl)
        refine wpAnyL_take (i := 2) (v := ?_) (by kernel_rfl) rfl (by kernel_rfl) (by kernel_rfl) (by kernel_rfl) (fun _ _ _ h => h) hHeld (Or.inl ⟨by kernel_rfl, ?_⟩) ?_
        rotate_left
        · (intro w hSw; (try dsimp only at hSw); obtain ⟨s0, s1, s2, s3, s4, s5, s6, s7⟩ := hSw; go_simp; try with_reducible rfl)
        refine wpAnyL_take (i := 3) (v := ?_) (by kernel_rfl) rfl (by kernel_rfl) (by kernel_rfl) (by kernel_rfl) (fun _ _ _ h => h) hHeld (Or.inl ⟨by kernel_rfl, ?_⟩) ?_
        rotate_left
        · (intro w hSw; (try dsimp only at hSw); obtain ⟨s0, s1, s2, s3, s4, s5, s6, s7⟩ := hSw; go_simp; try with_reducible rfl)
        refine wpAnyL_take (i := 4) (v := ?_) (by kernel_rfl) rfl (by kernel_rfl) (by kernel_rfl) (by kernel_rfl) (fun _ _ _ h => h) hHeld (Or.inl ⟨by kernel_rfl, ?_⟩) ?_
        rotate_left
        · (intro w hSw; (try dsimp only at hSw); obtain ⟨s0, s1, s2, s3, s4, s5, s6, s7⟩ := hSw; go_simp; try with_reducible rfl)
        refine wpAnyL_end (by kernel_rfl) rfl (fun K hK => ?_)
        go_simp
        refine hK.out _ _ ?_
        clear hK K hHeld hrun
        refine wpAnyL_done (by kernel_rfl) ?_ _
        have hq4 := (unhide HE4).its q (Or.inl rfl)
        have hbq := (unhide HE4).bq
        have hk5 : ∀ z, z < W4.heap.size → z ≠ b → W5.heap[z]? = W4.heap[z]? := fun z hz hzb => hgr5.block z hz (fun e => hzb (Option.some.inj e))
        have hs5 : W4.heap.size ≤ W5.heap.size := hgr5.size
        have h5q := hk5 q hq4.2 (fun e => hbq e.symm)
        have hm5 := (unhide HE4).m.block h5q (fun g hg => hk5 g ((unhide HE4).its g (Or.inr (Or.inr hg))).2 (fun e => (unhide HE4).bv (by rw [← e]; exact hg)))
        have hf5 := frozen_block h5q (unhide HE4).fz
        have hc5 := (World.cell?_of_block (a := ⟨q, 2, none⟩) h5q).trans (unhide HE4).c2
        have hr5 : wr.heap.size < W4.heap.size := World.block_lt_of_cell? W4 ⟨wr.heap.size, 0, none⟩ (unhide HA54).1
        have hb5 : wr.heap.size ≠ b := fun e => by
          have := ((unhide HE).its b (Or.inr (Or.inl rfl))).2; omega
        have hA55 := (unhide HA54).block (hk5 _ hr5 hb5)
        have HM5 := hide hm5
        have HF5 := hide hf5
        have HC5 := hide hc5
        have HA55 := hide hA55
        have HMO5 := hide hmo5
        have HG5 := hide hgr5
        clear hm5 hf5 hc5 hA55 hmo5 hgr5 hk5 h5q
        go_upto_region 6 with fail
        refine wp_region_held_drew (S := fun w' : World => w'.cell? ⟨wr.heap.size, 0, none⟩ = some (.int .i64 x.time) ∧ w'.cell? ⟨wr.heap.size, 1, none⟩ = some (.int .i64 x.to) ∧ w'.cell? ⟨wr.heap.size, 2, none⟩ = some (.int .i64 x.src) ∧ w'.cell? ⟨wr.heap.size, 3, none⟩ = some (.int .i64 x.count) ∧ w'.cell? ⟨wr.heap.size, 4, none⟩ = some (.int .i64 x.n) ∧ w'.cell? ⟨wr.heap.size, 5, none⟩ = some (.int .i64 x.kind) ∧ w'.cell? ⟨wr.heap.size, 6, none⟩ = some (.int .i64 x.arg)) (by kernel_rfl) (unhide HA55) (fun hHeld => ?_)
        refine wpAnyH_take (i := 0) (v := ?_) rfl (by kernel_rfl) (by kernel_rfl) (by kernel_rfl) (fun _ _ _ h => h) (Or.inl ⟨by kernel_rfl, ?_⟩) hHeld ?_
        rotate_left
        · (intro w hSw; (try dsimp only at hSw); obtain ⟨s0, s1, s2, s3, s4, s5, s6⟩ := hSw; go_simp; try with_reducible rfl)
        refine wpAnyH_take (i := 1) (v := ?_) rfl (by kernel_rfl) (by kernel_rfl) (by kernel_rfl) (fun _ _ _ h => h) (Or.inl ⟨by kernel_rfl, ?_⟩) hHeld ?_
        rotate_left
        · (intro w hSw; (try dsimp only at hSw); obtain ⟨s0, s1, s2, s3, s4, s5, s6⟩ := hSw; go_simp; try with_reducible rfl)
        refine wpAnyH_take (i := 2) (v := ?_) rfl (by kernel_rfl) (by kernel_rfl) (by kernel_rfl) (fun _ _ _ h => h) (Or.inl ⟨by kernel_rfl, ?_⟩) hHeld ?_
        rotate_left
        · (intro w hSw; (try dsimp only at hSw); obtain ⟨s0, s1, s2, s3, s4, s5, s6⟩ := hSw; go_simp; try with_reducible rfl)
        refine wpAnyH_take (i := 3) (v := ?_) rfl (by kernel_rfl) (by kernel_rfl) (by kernel_rfl) (fun _ _ _ h => h) (Or.inl ⟨by kernel_rfl, ?_⟩) hHeld ?_
        rotate_left
        · (intro w hSw; (try dsimp only at hSw); obtain ⟨s0, s1, s2, s3, s4, s5, s6⟩ := hSw; go_simp; try with_reducible rfl)
        refine wpAnyH_ready (rs := [4]) (by kernel_rfl) (by simp) ?_
        refine AllReadyH.cons rfl (fun K hK => ?_) AllReadyH.nil
        go_simp
        refine (putEv_any S N q u ys x W5.drew ((unhide HM5).on (Below.refl _ _).drew) (unhide HF5) (unhide HE4).hp (Nat.le_trans (unhide HE4).ns hs5) (by omega)).mono ?_
        rintro e w6 ⟨rfl, u', ys', hp6, hh6, hm6, hb6, hv6, hf6, hk6⟩
        go_wp2_with fail
        have hr5q : wr.heap.size ≠ q := fun e => by have := ((unhide HE).its q (Or.inl rfl)).2; omega
        have hr5u : u.ownBlock ≠ some wr.heap.size := fun e => by have := ((unhide HE).its _ (Or.inr (Or.inr e))).2; omega
        refine hK.out _ _ ((unhide HA55).block (w := W5.drew) (hb6.other wr.heap.size (Nat.lt_of_lt_of_le hr5 hs5) hr5q hr5u)) (fun _ => ?_)
        clear hK K hHeld
        refine wpAnyH_done (by kernel_rfl) ?_ _
        have hbl5 : b < W5.heap.size := Nat.lt_of_lt_of_le ((unhide HE4).its b (Or.inr (Or.inl rfl))).2 hs5
        have hE6 : EvHeap N q b u' w6 ys' := by
          refine ⟨hm6, hf6, hk6 2 _ (by omega) (unhide HC5), ⟨ks ++ [x], (unhide HMO5).block (hb6.other b hbl5 hbq (unhide HE4).bv), hp6.trans (List.Perm.append_right [x] (unhide HPK))⟩, hh6, ?_, hbq, fun e => ?_, (unhide HE4).nb, (unhide HE4).nq, Nat.le_trans (unhide HE4).ns (Nat.le_trans hs5 hb6.size)⟩
          · refine hp6.nodup_iff.2 (List.nodup_append.2 ⟨(unhide HE4).nd, by simp, fun a ha c hc => ?_⟩)
            obtain rfl : c = x := by simpa using hc
            exact fun e => hiny (e ▸ ha)
          · rcases hv6 b e with h | h
            · exact (unhide HE4).bv h
            · exact Nat.lt_irrefl _ (Nat.lt_of_lt_of_le hbl5 h)
        have hT6 : Touch (Its q b v) w w6 := by
          have t1 : Touch (Its q b u) wr W4.drew := Touch.ofBelow (unhide HB4).drew
          have t2 : Touch (Its q b u) wr W5 := t1.then (Touch.ofGrown (unhide HG5)) (fun z hz => Or.inl (Or.inr (Or.inl hz)))
          have t2' : Touch (Its q b u) wr W5.drew := t2.then (Touch.ofBelow (T := fun _ => False) (Below.refl _ _).drew) (fun z hz => hz.elim)
          have t3 : Touch (Its q b u) wr w6 := t2'.then (Touch.ofBoth hb6) (fun z hz => Or.inl (by
            rcases hz with h | h
            · exact Or.inl h
            · exact Or.inr (Or.inr h)))
          refine (unhide HT).then t3 (fun z hz => ?_)
          rcases hz with h | h | h
          · exact Or.inl (Or.inl h)
          · exact Or.inl (Or.inr (Or.inl h))
          · rcases (unhide HU) z h with h | h
            · exact Or.inl (Or.inr (Or.inr h))
            · exact Or.inr h
        have hU6 : ∀ g, u'.ownBlock = some g → v.ownBlock = some g ∨ w.heap.size ≤ g := fun g hg => by
          rcases hv6 g hg with h | h
          · exact (unhide HU) g h
          · exact Or.inr (Nat.le_trans (unhide HT).size (Nat.le_trans (unhide HB4).size (Nat.le_trans hs5 h)))
        have hl6 : ys'.length = ys.length + 1 := by rw [hp6.length_eq, List.length_append]; rfl
        have HE6 := hide hE6
        have HT6 := hide hT6
        have HU6 := hide hU6
        have HS6 : Hid (∀ a, a ∈ ys' ↔ a ∈ xs ∨ a ∈ es.take (k + 1)) := hide (fun a => by
          rw [unhide HXK, hp6.mem_iff, List.mem_append, List.mem_append, (unhide HS) a, or_assoc])
        have hl7 : ys'.length ≤ xs.length + (k + 1) := by omega
        clear hE6 hT6 hU6 hp6 hh6 hm6 hb6 hv6 hf6 hk6 hl6
        go_wp2_with fail
        go_roundw
        case rel => exact ⟨k + 1, ys', u', by omega, by simp, hl7, HE6, HS6, HT6, HU6⟩
        case measure => simp [intOf]; omega
    · have hke : k = es.length := by omega
      go_wp2_with fail
      (try simp only [Exit.inBlock, Exit.then])
      refine bodyPost_end (results_none rfl _ _ _) rfl ?_
      refine ⟨rfl, u, ys, unhide HE, fun a => ?_, by omega, unhide HT, unhide HU⟩
      rw [(unhide HS) a, hke, List.take_length]
end Go.Proofs.Ythekkgndckkoaaa.E
/- impl's heap of events that has each once: newEventHeap, EventSort. -/
namespace Go.Proofs.Ythekkgndckkoaaa.E
open Go.RowKit
set_option linter.unusedVariables false
set_option linter.unusedSimpArgs false

set_option maxRecDepth 100000 in
set_option maxHeartbeats 1000000 in
theorem newEventHeap_any (S : Strict evLess) (vl : Value) (es : List EvV) (w : World) (h : RowsAt 7 w vl (es.map evRow)) (hx : es.length ≤ 1000000000) :
    Calls Try.prog 85 #[vl] w fun e w' => ∃ v xs, e = .returned (.pointer (some ⟨w.heap.size + 1, 0, none⟩)) ∧ EvHeap w.heap.size (w.heap.size + 1) w.heap.size v w' xs ∧ (∀ a, a ∈ xs ↔ a ∈ es) ∧ xs.length ≤ es.length ∧ Below w.heap.size w w' := by
  have hmm := @run_makeMap Try.prog
  have hb0 : Below w.heap.size w ((w.alloc (.map #[] 0)).alloc (.cells #[.slice none 0 0, .func (.func 79) #[] #[], .map (some w.heap.size)] 108)) := ((Below.refl _ _).alloc (Nat.le_refl _) _).alloc (by simp) _
  have hs1 : (w.alloc (.map #[] 0)).heap.size = w.heap.size + 1 := by simp
  have hm1 : MapOf ((w.alloc (.map #[] 0)).alloc (.cells #[.slice none 0 0, .func (.func 79) #[] #[], .map (some w.heap.size)] 108)) w.heap.size [] :=
    (MapOf.made w).block (((Below.refl _ _).alloc (Nat.le_refl _) _).block w.heap.size (by simp))
  have hE : EvHeap w.heap.size (w.heap.size + 1) w.heap.size (.slice none 0 0) ((w.alloc (.map #[] 0)).alloc (.cells #[.slice none 0 0, .func (.func 79) #[] #[], .map (some w.heap.size)] 108)) [] :=
    ⟨⟨Or.inl ⟨rfl, rfl⟩, by simp [Value.ownBlock], by simp [go_sem], by simp [go_sem]⟩, fun i => by simp [go_sem], by simp [go_sem], ⟨[], hm1, List.Perm.refl _⟩, heap_nil, by simp, by omega, by simp [Value.ownBlock], Nat.le_refl _, by omega, by simp; omega⟩
  have hl := h.on hb0
  have HL := hide hl
  have HB := hide hb0
  have HE := hide hE
  have HLA : Hid (es ≠ [] → ∀ ad n c, vl = .slice (some ad) n c → ¬ Its (w.heap.size + 1) w.heap.size (.slice none 0 0) ad.block) := hide (fun hne ad n c hv hi => by
    obtain ⟨ad', cap, hv', _, _, h3⟩ := h
    rw [hv'] at hv
    simp only [Value.slice.injEq] at hv
    obtain ⟨rfl, _, _⟩ := hv
    rcases h3 with h3 | ⟨b, off, h3, h4⟩
    · rw [List.map_eq_nil_iff] at h3; exact hne h3
    · simp only [Option.some.injEq] at h3
      subst h3
      have h5 := World.block_lt_of_cell? _ _ (h4 0 (by rw [List.length_map]; exact List.length_pos_iff.2 hne) 0 (by omega))
      rcases hi with h | h | h
      · simp at h h5; omega
      · simp at h h5; omega
      · simp [Value.ownBlock] at h)
  clear hb0 hm1 hE hl h
  go_enter Try.func85, Try.ntmps85
  go_wp2_with fail
  clear hmm
  generalize ((w.alloc (.map #[] 0)).alloc (.cells #[.slice none 0 0, .func (.func 79) #[] #[], .map (some w.heap.size)] 108)) = W1 at *
  refine (putAll_any S w.heap.size (w.heap.size + 1) w.heap.size _ vl [] es W1 (unhide HE) (unhide HL) (unhide HLA) (by simp; omega)).mono ?_
  rintro e w2 ⟨rfl, v2, xs2, hE2, hm2, hl2, ht2, _⟩
  have HE2 := hide hE2
  have HM2 := hide hm2
  have hb2 := ht2.below w.heap.size (unhide HB).size (fun x hx => ((unhide HE).its x hx).1)
  have HB2 := hide ((unhide HB).trans hb2)
  have hl3 : xs2.length ≤ es.length := by simpa using hl2
  clear hE2 hm2 ht2 hb2 hl2
  go_wp2_with fail
  go_ret
  exact ⟨v2, xs2, rfl, unhide HE2, fun a => by rw [(unhide HM2) a]; simp, hl3, unhide HB2⟩

set_option maxRecDepth 100000 in
theorem implEventSort_any (S : Strict evLess) (vl : Value) (es : List EvV) (w : World) (h : RowsAt 7 w vl (es.map evRow)) (hx : es.length ≤ 1000000000) :
    Calls Try.prog 64 #[vl] w fun e w' => ∃ vr zs, e = .returned vr ∧ Up evLess zs ∧ (∀ a, a ∈ zs ↔ a ∈ es) ∧ zs.length ≤ es.length ∧ RowsFr w.heap.size 41 7 w' vr (zs.map evRow) ∧ Below w.heap.size w w' := by
  have HH := hide h
  clear h
  go_enter Try.func64, Try.ntmps64
  go_wp2_with fail
  refine (newEventHeap_any S vl es w (unhide HH) hx).mono ?_
  rintro e w1 ⟨v, xs, rfl, hE, hm, hl, hb⟩
  have HE := hide hE
  have HM := hide hm
  have HB := hide hb
  clear hE hm hb
  go_wp2_with fail
  refine (takeAllEv_any S w.heap.size (w.heap.size + 1) v xs w1 (unhide HE).m (unhide HE).fz (unhide HE).hp (by omega)).mono ?_
  rintro e w2 ⟨vr, zs, rfl, hp2, ha2, hr2, hb2⟩
  have hB2 := (unhide HB).trans (hb2.below w.heap.size (by omega) (unhide HB).size (fun g hg => ((unhide HE).m.rows.blk g hg).1))
  go_wp2_with fail
  go_ret
  exact ⟨vr, zs, rfl, asc_up S ha2 (hp2.nodup_iff.2 (unhide HE).nd), fun a => by rw [hp2.mem_iff, (unhide HM) a], by rw [hp2.length_eq]; exact hl, hr2.less (unhide HB).size, hB2⟩
end Go.Proofs.Ythekkgndckkoaaa.E
