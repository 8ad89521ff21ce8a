/- impl's heap of things let out: rise. -/
import Derived.Test.YtamkoimadenmeaaHeapO1
import Derived.Test.YtamkoimadenmeaaLess5o
import Derived.Deep.RegionHeld3
namespace Go.Proofs.Ytamkoimadenmeaa
open Go.RowKit
set_option linter.unusedVariables false
set_option linter.unusedSimpArgs false

/-- A heap of outs in memory: its struct at block q, its list at v. -/
structure HeapM (N t q : Nat) (v : Value) (w : World) (os : List OutV) : Prop where
  rows : RowsFr N t 5 w v (os.map outRow)
  ne : v.ownBlock ≠ some q
  c0 : w.cell? ⟨q, 0, none⟩ = some v
  c1 : w.cell? ⟨q, 1, none⟩ = some (.func (.func 6) #[] #[])

theorem HeapM.on {N t q : Nat} {v : Value} {w w' : World} {os : List OutV} (hb : Below w.heap.size w w') (h : HeapM N t q v w os) : HeapM N t q v w' os :=
  ⟨h.rows.on hb, h.ne, cell_on hb h.c0, cell_on hb h.c1⟩

theorem swapOut_heap (N t q i j : Nat) (v : Value) (os : List OutV) (a b : OutV) (w : World) (h : HeapM N t q v w os) (ha : os[i]? = some a) (hb : os[j]? = some b) (hij : i ≠ j) :
    Calls Try.prog 25 #[.pointer (some ⟨q, 0, none⟩), .int .i64 i, .int .i64 j] w fun e w' => e = .returned (.tuple #[]) ∧ HeapM N t q v w' (swapL os i j a b) ∧ Grow v w w' := by
  refine (swapOut_any N t q i j v os a b w h.rows ha hb hij h.ne h.c0).mono ?_
  rintro e w' ⟨rfl, h1, h2⟩
  have hg := Grow.ofOnly h2
  exact ⟨rfl, ⟨h1, h.ne, hg.cell h.ne h.c0, hg.cell h.ne h.c1⟩, hg⟩

theorem sRise_of {W w' : World} {q g m n : Nat} {v : Value} {a b : OutV} (h0 : W.cell? ⟨q, 0, none⟩ = some v) (h1 : W.cell? ⟨q, 1, none⟩ = some (.func (.func 6) #[] #[]))
    (A : ∀ j, j < 5 → W.cell? ⟨g, m + j, none⟩ = some (.int .i64 ((outRow a).getD j 0))) (B : ∀ j, j < 5 → W.cell? ⟨g, n + j, none⟩ = some (.int .i64 ((outRow b).getD j 0))) (hb : Below W.heap.size W w') :
    w'.cell? ⟨q, 0, none⟩ = some v ∧ w'.cell? ⟨q, 1, none⟩ = some (.func (.func 6) #[] #[]) ∧
    w'.cell? ⟨g, m, none⟩ = some (.int .i64 a.time) ∧ w'.cell? ⟨g, m + 1, none⟩ = some (.int .i64 a.proc) ∧ w'.cell? ⟨g, m + 2, none⟩ = some (.int .i64 a.count) ∧ w'.cell? ⟨g, m + 3, none⟩ = some (.int .i64 a.n) ∧ w'.cell? ⟨g, m + 4, none⟩ = some (.int .i64 a.value) ∧
    w'.cell? ⟨g, n, none⟩ = some (.int .i64 b.time) ∧ w'.cell? ⟨g, n + 1, none⟩ = some (.int .i64 b.proc) ∧ w'.cell? ⟨g, n + 2, none⟩ = some (.int .i64 b.count) ∧ w'.cell? ⟨g, n + 3, none⟩ = some (.int .i64 b.n) ∧ w'.cell? ⟨g, n + 4, none⟩ = some (.int .i64 b.value) ∧ Below W.heap.size W w' :=
  ⟨cell_on hb h0, cell_on hb h1, cell_on hb (A 0 (by omega)), cell_on hb (A 1 (by omega)), cell_on hb (A 2 (by omega)), cell_on hb (A 3 (by omega)), cell_on hb (A 4 (by omega)), cell_on hb (B 0 (by omega)), cell_on hb (B 1 (by omega)), cell_on hb (B 2 (by omega)), cell_on hb (B 3 (by omega)), cell_on hb (B 4 (by omega)), hb⟩

theorem HeapM.at {N t q : Nat} {v : Value} {w : World} {os : List OutV} (h : HeapM N t q v w os) (hne : 0 < os.length) : ∃ g cap, v = .slice (some ⟨g, 0, none⟩) os.length cap ∧ os.length ≤ cap ∧ cap ≤ maxLen ∧ ∀ i (hi : i < os.length) j, j < 5 → w.cell? ⟨g, i * 5 + j, none⟩ = some (.int .i64 ((outRow os[i]).getD j 0)) := by
  obtain ⟨g, cap, h1, h2, h3, h4, _⟩ := h.rows.own (by intro e; rw [List.map_eq_nil_iff] at e; subst e; simp at hne)
  simp only [List.length_map] at h1 h2 h4
  exact ⟨g, cap, h1, h2, h3, fun i hi j hj => by have := h4 i hi j hj; rwa [List.getElem_map] at this⟩

set_option maxRecDepth 100000 in
set_option maxHeartbeats 1000000 in
theorem riseOut_any (S : Strict outLess) (N t q p : Nat) (v : Value) (os : List OutV) (w : World) (h : HeapM N t q v w os) (hR : RiseAt outLess os p) :
    Calls Try.prog 23 #[.pointer (some ⟨q, 0, none⟩), .int .i64 p] w fun e w' => e = .returned (.tuple #[]) ∧ ∃ os', os'.Perm os ∧ Heap outLess os' ∧ HeapM N t q v w' os' ∧ Grow v w w' := by
  have HH := hide h
  have HR := hide hR
  clear h hR
  go_enter Try.func23, Try.ntmps23
  go_wp2_with fail
  go_loopw [1] (fun i wr => ∃ (m : Nat) (xs : List OutV), i = .int .i64 m ∧ Hid (xs.Perm os) ∧ Hid (RiseAt outLess xs m) ∧ Hid (HeapM N t q v wr xs) ∧ Hid (Grow v w wr)) (fun i _ => (intOf i).toNat)
  case atStart => exact ⟨p, os, rfl, hide (List.Perm.refl _), HR, HH, hide (Grow.refl _ _)⟩
  case round =>
    obtain ⟨m, xs, rfl, HP, HRA, HM, HG⟩ := hrel
    have hlt := (unhide HRA).lt
    by_cases hm : m = 0
    · subst hm
      go_wp2_with fail
      (try simp only [Exit.inBlock, Exit.then])
      refine bodyPost_end (results_none rfl _ _ _) rfl ?_
      exact ⟨rfl, xs, unhide HP, (unhide HRA).top, unhide HM, unhide HG⟩
    · obtain ⟨g, cap, rfl, hl, hmx, hcs⟩ := (unhide HM).at (by omega)
      unfold maxLen at hmx
      have h0 := (unhide HM).c0
      have h1 := (unhide HM).c1
      have hA := hcs m hlt
      have hup : (m - 1) / 2 < xs.length := by omega
      have hB := hcs ((m - 1) / 2) hup
      have hm0 : (0 : Int) < (m : Int) := by omega
      have HXA : Hid (xs[m]? = some xs[m]) := hide (List.getElem?_eq_getElem hlt)
      have HXB : Hid (xs[(m - 1) / 2]? = some (xs[(m - 1) / 2]'hup)) := hide (List.getElem?_eq_getElem hup)
      go_upto_region 2 with fail
      generalize xs[m] = xa at *
      generalize xs[(m - 1) / 2]'hup = xb at *
      have hi0 : (0 : Int) ≤ (m : Int) := by omega
      have hiI : (m : Int) < (xs.length : Int) := by omega
      have hj0 : (0 : Int) ≤ (((m - 1) / 2 : Nat) : Int) := by omega
      have hjI : (((m - 1) / 2 : Nat) : Int) < (xs.length : Int) := by omega
      have hquo : ((m : Int) - 1) / 2 = (((m - 1) / 2 : Nat) : Int) := by omega
      simp only [hquo]
      generalize hU : (m - 1) / 2 = u at *
      go_region_held3 (fun w' => w'.cell? ⟨q, 0, none⟩ = some (.slice (some ⟨g, 0, none⟩) xs.length cap) ∧ w'.cell? ⟨q, 1, none⟩ = some (.func (.func 6) #[] #[]) ∧
    w'.cell? ⟨g, m * 5, none⟩ = some (.int .i64 xa.time) ∧ w'.cell? ⟨g, m * 5 + 1, none⟩ = some (.int .i64 xa.proc) ∧ w'.cell? ⟨g, m * 5 + 2, none⟩ = some (.int .i64 xa.count) ∧ w'.cell? ⟨g, m * 5 + 3, none⟩ = some (.int .i64 xa.n) ∧ w'.cell? ⟨g, m * 5 + 4, none⟩ = some (.int .i64 xa.value) ∧
    w'.cell? ⟨g, u * 5, none⟩ = some (.int .i64 xb.time) ∧ w'.cell? ⟨g, u * 5 + 1, none⟩ = some (.int .i64 xb.proc) ∧ w'.cell? ⟨g, u * 5 + 2, none⟩ = some (.int .i64 xb.count) ∧ w'.cell? ⟨g, u * 5 + 3, none⟩ = some (.int .i64 xb.n) ∧ w'.cell? ⟨g, u * 5 + 4, none⟩ = some (.int .i64 xb.value) ∧ Below wr.heap.size wr w')
        ((go_split_ands; refine sRise_of h0 h1 hA hB ?_; first | exact (Below.refl _ _).drew | exact below_then (by assumption) hbe))
        (first
          | (go_at_call 6; refine (implOutLess_any xa xb _).mono ?_; rintro e we ⟨rfl, hbe⟩; have hBe := below_then (a := wr) (by go_split_ands; assumption) hbe))
      cases hless : outLess xa xb
      · go_wp2_with fail
        (try simp only [Exit.inBlock, Exit.then])
        refine bodyPost_ret (results_none rfl _ _ _) rfl ?_
        exact ⟨rfl, xs, unhide HP, (unhide HRA).stays (unhide HXA) (by rw [hU]; exact unhide HXB) hless, (unhide HM).on hBe, (unhide HG).trans (Grow.ofBelow hBe)⟩
      · go_wp2_with fail
        refine (swapOut_heap N t q m u _ xs xa xb _ ((unhide HM).on hBe) (unhide HXA) (unhide HXB) (by omega)).mono ?_
        rintro e w9 ⟨rfl, hm9, hg9⟩
        go_wp2_with fail
        go_roundw
        case rel =>
          refine ⟨u, swapL xs m u xa xb, rfl, hide ((swapL_perm (unhide HXA) (unhide HXB)).trans (unhide HP)), hide ?_, hide hm9, hide (((unhide HG).trans (Grow.ofBelow hBe)).trans hg9)⟩
          have := (unhide HRA).step S (by omega) (unhide HXA) (by rw [hU]; exact unhide HXB) hless
          rwa [hU] at this
        case measure => simp [intOf]; omega
end Go.Proofs.Ytamkoimadenmeaa
