/- impl's heap of things let out: take. -/
import Derived.Test.YtamkoimadenmeaaHeapO7
namespace Go.Proofs.Ytamkoimadenmeaa
open Go.RowKit
set_option linter.unusedVariables false
set_option linter.unusedSimpArgs false

theorem HeapM.block {N t q : Nat} {v : Value} {w w' : World} {os : List OutV} (h1 : w'.heap[q]? = w.heap[q]?) (h2 : ∀ g, v.ownBlock = some g → w'.heap[g]? = w.heap[g]?) (h : HeapM N t q v w os) : HeapM N t q v w' os :=
  ⟨h.rows.block (fun g hg _ => h2 g hg), h.ne, (World.cell?_of_block (a := ⟨q, 0, none⟩) h1).trans h.c0, (World.cell?_of_block (a := ⟨q, 1, none⟩) h1).trans h.c1⟩

theorem cutL_rows (os : List OutV) (b : OutV) : ((os.map outRow).set 0 (outRow b)).take (os.length - 1) = (cutL os b).map outRow := by
  simp [cutL, List.map_take, List.map_set]

set_option maxRecDepth 100000 in
set_option maxHeartbeats 1000000 in
theorem takeOut_any (S : Strict outLess) (N q : Nat) (v : Value) (os : List OutV) (a : OutV) (w : World) (h : HeapM N 24 q v w os) (hfz : ∀ i, w.frozen? ⟨q, i, none⟩ = false) (hH : Heap outLess os) (ha : os[0]? = some a) (hx : os.length ≤ 1000000000) :
    Calls Try.prog 21 #[.pointer (some ⟨q, 0, none⟩)] w fun e w' => e = .returned (outAgg a) ∧ ∃ v' os', (a :: os').Perm os ∧ Heap outLess os' ∧ HeapM N 24 q v' w' os' ∧ Both q v w w' ∧ v'.ownBlock = v.ownBlock ∧ (∀ i, w'.frozen? ⟨q, i, none⟩ = false) ∧ ∀ o u, o ≠ 0 → w.cell? ⟨q, o, none⟩ = some u → w'.cell? ⟨q, o, none⟩ = some u := by
  have hpos : 0 < os.length := (List.getElem?_eq_some_iff.1 ha).1
  have hq : q < w.heap.size := World.block_lt_of_cell? w ⟨q, 0, none⟩ h.c0
  obtain ⟨g, cap, rfl, hl, hmx, hcs⟩ := h.at hpos
  unfold maxLen at hmx
  have hgl : g < w.heap.size := (h.rows.blk g rfl).2
  have c0 := h.c0
  have hgq : ¬ g = q := fun e => h.ne (by simp [Value.ownBlock, e])
  have ea : os[0] = a := (List.getElem?_eq_some_iff.1 ha).2
  have A := hcs 0 hpos
  rw [ea] at A
  have A0 := A 0 (by omega)
  have A1 := A 1 (by omega)
  have A2 := A 2 (by omega)
  have A3 := A 3 (by omega)
  have A4 := A 4 (by omega)
  simp [outRow] at A0 A1 A2 A3 A4
  clear A
  have hlast : os.length - 1 < os.length := by omega
  have B := hcs (os.length - 1) hlast
  obtain ⟨b, eb⟩ : ∃ b, b = os[os.length - 1] := ⟨_, rfl⟩
  rw [← eb] at B
  have B0 := B 0 (by omega)
  have B1 := B 1 (by omega)
  have B2 := B 2 (by omega)
  have B3 := B 3 (by omega)
  have B4 := B 4 (by omega)
  simp [outRow] at B0 B1 B2 B3 B4
  clear B hcs
  have hb3 : Below w.heap.size w ((w.alloc (.cells #[.int .i64 0, .int .i64 0, .int .i64 0, .int .i64 0, .int .i64 0] 24)).alloc (.cells #[.int .i64 a.time, .int .i64 a.proc, .int .i64 a.count, .int .i64 a.n, .int .i64 a.value] 24)) := ((Below.refl _ _).alloc (Nat.le_refl _) _).alloc (by simp) _
  have hs3 : ((w.alloc (.cells #[.int .i64 0, .int .i64 0, .int .i64 0, .int .i64 0, .int .i64 0] 24)).alloc (.cells #[.int .i64 a.time, .int .i64 a.proc, .int .i64 a.count, .int .i64 a.n, .int .i64 a.value] 24)).heap.size = w.heap.size + 2 := by simp
  have r3 : ∀ j, j < 5 → ((w.alloc (.cells #[.int .i64 0, .int .i64 0, .int .i64 0, .int .i64 0, .int .i64 0] 24)).alloc (.cells #[.int .i64 a.time, .int .i64 a.proc, .int .i64 a.count, .int .i64 a.n, .int .i64 a.value] 24)).cell? ⟨w.heap.size, j, none⟩ = some (.int .i64 0) := fun j hj => by
    match j, hj with
    | 0, _ => simp [go_sem]
    | 1, _ => simp [go_sem]
    | 2, _ => simp [go_sem]
    | 3, _ => simp [go_sem]
    | 4, _ => simp [go_sem]
  have rf3 : ∀ j, ((w.alloc (.cells #[.int .i64 0, .int .i64 0, .int .i64 0, .int .i64 0, .int .i64 0] 24)).alloc (.cells #[.int .i64 a.time, .int .i64 a.proc, .int .i64 a.count, .int .i64 a.n, .int .i64 a.value] 24)).frozen? ⟨w.heap.size, j, none⟩ = false := fun j => by simp [go_sem]
  have a3 : ∀ j, j < 5 → ((w.alloc (.cells #[.int .i64 0, .int .i64 0, .int .i64 0, .int .i64 0, .int .i64 0] 24)).alloc (.cells #[.int .i64 a.time, .int .i64 a.proc, .int .i64 a.count, .int .i64 a.n, .int .i64 a.value] 24)).cell? ⟨w.heap.size + 1, j, none⟩ = some (.int .i64 ((outRow a).getD j 0)) := fun j hj => by
    match j, hj with
    | 0, _ => simp [go_sem, outRow]
    | 1, _ => simp [go_sem, outRow]
    | 2, _ => simp [go_sem, outRow]
    | 3, _ => simp [go_sem, outRow]
    | 4, _ => simp [go_sem, outRow]
  have HR3 := hide r3
  have HRF3 := hide rf3
  have HA3 := hide a3
  have HB3 := hide hb3
  have HS3 := hide hs3
  clear r3 rf3 a3 hb3 hs3
  have HEB := hide eb
  have HH := hide h
  have HHP := hide hH
  have HFZ := hide hfz
  have HA := hide ha
  clear h hH hfz ha ea eb
  go_enter Try.func21, Try.ntmps21
  go_upto_region 3 with fail
  generalize ((w.alloc (.cells #[.int .i64 0, .int .i64 0, .int .i64 0, .int .i64 0, .int .i64 0] 24)).alloc (.cells #[.int .i64 a.time, .int .i64 a.proc, .int .i64 a.count, .int .i64 a.n, .int .i64 a.value] 24)) = W3 at *
  have hLI : (os.length : Int) - 1 = ((os.length - 1 : Nat) : Int) := by omega
  simp only [hLI]
  replace A0 := cell_on (unhide HB3) A0
  replace B0 := cell_on (unhide HB3) B0
  replace B1 := cell_on (unhide HB3) B1
  replace B2 := cell_on (unhide HB3) B2
  replace B3 := cell_on (unhide HB3) B3
  replace B4 := cell_on (unhide HB3) B4
  replace A1 := cell_on (unhide HB3) A1
  replace A2 := cell_on (unhide HB3) A2
  replace A3 := cell_on (unhide HB3) A3
  replace A4 := cell_on (unhide HB3) A4
  replace c0 := cell_on (unhide HB3) c0
  have hh3 := (unhide HH).on (unhide HB3)
  have hfg : ∀ i, W3.frozen? ⟨g, i, none⟩ = false := by
    obtain ⟨g', cap', e1, _, _, _, e2⟩ := hh3.rows.own (by intro e; rw [List.map_eq_nil_iff] at e; subst e; simp at hpos)
    simp only [Value.slice.injEq, Option.some.injEq, Addr.mk.injEq] at e1
    obtain ⟨⟨rfl, _⟩, _, _⟩ := e1
    exact e2
  have hz0 := hfg 0
  have hz1 := hfg 1
  have hz2 := hfg 2
  have hz3 := hfg 3
  have hz4 := hfg 4
  have hrow := hh3.rows
  have hrl : (os.map outRow).length = os.length := List.length_map ..
  have e1 := RowsFr.setAt (k := 0) (by rw [hrl]; exact hpos) (outRow b) rfl hrow
  have HE1 : Hid (RowsFr N 24 5 (setRow W3 g 0 (outRow b)).drew (.slice (some ⟨g, 0, none⟩) os.length cap) ((os.map outRow).set 0 (outRow b))) := hide (by
    rw [Nat.zero_mul] at e1; exact e1.drew)
  have HO1 : Hid (OnlyOf (.slice (some ⟨g, 0, none⟩) os.length cap) W3 (setRow W3 g 0 (outRow b)).drew) := hide ((OnlyOf.refl (.slice (some ⟨g, 0, none⟩) os.length cap) W3).row 0 (outRow b)).drew
  have HH3 := hide hh3
  clear e1 hrow hh3 hfg
  simp only [setRow, outRow, Nat.zero_add] at HE1 HO1
  have hl0 : (0 : Int) ≤ ((os.length - 1 : Nat) : Int) := by omega
  have hlI : ((os.length - 1 : Nat) : Int) < (os.length : Int) := by omega
  have hn0 : (0 : Int) < (os.length : Int) := by omega
  generalize hL : os.length - 1 = l at *
  go_region
  generalize (((((W3.setCell ⟨g, 0, none⟩ (.int .i64 b.time)).setCell ⟨g, 1, none⟩ (.int .i64 b.proc)).setCell ⟨g, 2, none⟩ (.int .i64 b.count)).setCell ⟨g, 3, none⟩ (.int .i64 b.n)).setCell ⟨g, 4, none⟩ (.int .i64 b.value)).drew = W4 at *
  have hgq2 : ¬ q = g := fun e => hgq e.symm
  have hs3 := unhide HS3
  have hvq : (Value.slice (some ⟨g, 0, none⟩) os.length cap).ownBlock ≠ some q := by simpa [Value.ownBlock] using hgq
  have hvr : ∀ r, w.heap.size ≤ r → (Value.slice (some ⟨g, 0, none⟩) os.length cap).ownBlock ≠ some r := fun r hr => by
    simp only [Value.ownBlock, ne_eq, Option.some.injEq]; omega
  have hbq := (unhide HO1).other q hvq
  have hbr := (unhide HO1).other w.heap.size (hvr _ (Nat.le_refl _))
  have hba := (unhide HO1).other (w.heap.size + 1) (hvr _ (by omega))
  have hf4 := frozen_block hbq (fun i => by rw [(unhide HB3).frozen (p := ⟨q, i, none⟩) hq]; exact (unhide HFZ) i)
  have hs4 : W4.heap.size = w.heap.size + 2 := (unhide HO1).size.trans hs3
  have q0 := (World.cell?_of_block (a := ⟨q, 0, none⟩) hbq).trans c0
  have q1 := (World.cell?_of_block (a := ⟨q, 1, none⟩) hbq).trans (unhide HH3).c1
  have f40 := hf4 0
  have HF4 := hide hf4
  clear A0 A1 A2 A3 A4 B0 B1 B2 B3 B4 hz0 hz1 hz2 hz3 hz4
  have hm5 : HeapM N 24 q (.slice (some ⟨g, 0, none⟩) l cap) (W4.setCell ⟨q, 0, none⟩ (.slice (some ⟨g, 0, none⟩) l cap)) (cutL os b) := by
    have hcut : RowsFr N 24 5 W4 (.slice (some ⟨g, 0, none⟩) l cap) ((cutL os b).map outRow) := by
      have e := RowsFr.cut (rs := (os.map outRow).set 0 (outRow b)) (k := l) (by simp; omega) (by rw [List.length_set, List.length_map]; exact unhide HE1)
      rwa [← hL, cutL_rows, hL] at e
    refine ⟨hcut.block (fun k hk _ => ?_), by simpa [Value.ownBlock] using hgq, by simp [go_sem, q0], by simp [go_sem, q1]⟩
    have : k = g := by simpa [Value.ownBlock] using hk.symm
    subst this
    exact Below.heap_setCell W4 ⟨q, 0, none⟩ _ k hgq
  have hB5 : Both q (.slice (some ⟨g, 0, none⟩) os.length cap) w (W4.setCell ⟨q, 0, none⟩ (.slice (some ⟨g, 0, none⟩) l cap)) := ((Both.ofBelow (unhide HB3)).trans (Both.ofOnly (unhide HO1))).set
  have hf5 : ∀ i, (W4.setCell ⟨q, 0, none⟩ (.slice (some ⟨g, 0, none⟩) l cap)).frozen? ⟨q, i, none⟩ = false := fun i => by simpa [go_sem] using hf4 i
  have hr5 : (W4.setCell ⟨q, 0, none⟩ (.slice (some ⟨g, 0, none⟩) l cap)).heap[w.heap.size]? = W3.heap[w.heap.size]? := (Below.heap_setCell W4 ⟨q, 0, none⟩ _ _ (by simp; omega)).trans hbr
  have ha5 : (W4.setCell ⟨q, 0, none⟩ (.slice (some ⟨g, 0, none⟩) l cap)).heap[w.heap.size + 1]? = W3.heap[w.heap.size + 1]? := (Below.heap_setCell W4 ⟨q, 0, none⟩ _ _ (by simp; omega)).trans hba
  have hs5 : (W4.setCell ⟨q, 0, none⟩ (.slice (some ⟨g, 0, none⟩) l cap)).heap.size = w.heap.size + 2 := by simpa using hs4
  have HKQ : Hid (∀ o u, o ≠ 0 → w.cell? ⟨q, o, none⟩ = some u → (W4.setCell ⟨q, 0, none⟩ (.slice (some ⟨g, 0, none⟩) l cap)).cell? ⟨q, o, none⟩ = some u) := hide (fun o u ho hu => by
    have e := (World.cell?_of_block (a := ⟨q, o, none⟩) hbq).trans (cell_on (unhide HB3) hu)
    have ho' : ¬ 0 = o := fun h => ho h.symm
    simp [go_sem, ho, ho', e])
  have HM5 := hide hm5
  have HB5 := hide hB5
  have HF5 := hide hf5
  have HR5 := hide hr5
  have HA5 := hide ha5
  have HS5 := hide hs5
  clear hm5 hB5 hf5 hr5 ha5 hs5 hbq hbr hba hf4 q1
  have hlc : (l : Int) ≤ (cap : Int) := by omega
  go_wp2_with fail
  generalize W4.setCell ⟨q, 0, none⟩ (.slice (some ⟨g, 0, none⟩) l cap) = W5 at *
  have hsink : Calls Try.prog 24 #[.pointer (some ⟨q, 0, none⟩), .int .i64 0] W5 fun e w' => e = .returned (.tuple #[]) ∧ ∃ os', os'.Perm (cutL os b) ∧ Heap outLess os' ∧ HeapM N 24 q (.slice (some ⟨g, 0, none⟩) l cap) w' os' ∧ Grow (.slice (some ⟨g, 0, none⟩) l cap) W5 w' := by
    have hlen : (cutL os b).length = l := by rw [cutL_length]; exact hL
    by_cases h0 : l = 0
    · have c5 := (unhide HM5).c0
      subst h0
      refine (sinkOut_nil q _ cap W5 c5).mono ?_
      rintro e w' ⟨rfl, hb⟩
      have hnil : cutL os b = [] := List.length_eq_zero_iff.1 hlen
      exact ⟨rfl, cutL os b, List.Perm.refl _, by rw [hnil]; exact heap_nil, (unhide HM5).on hb, Grow.ofBelow hb⟩
    · exact sinkOut_any S N 24 q 0 _ (cutL os b) W5 (unhide HM5) (by omega) (by omega) (cutL_sink (unhide HHP) b)
  refine hsink.mono ?_
  rintro e w9 ⟨rfl, os', hp9, hh9, hm9, hg9⟩
  clear hsink
  have hs5 := unhide HS5
  have hvr2 : ∀ r, w.heap.size ≤ r → (Value.slice (some ⟨g, 0, none⟩) l cap).ownBlock ≠ some r := fun r hr => by
    simp only [Value.ownBlock, ne_eq, Option.some.injEq]; omega
  have hr9 := (hg9.other w.heap.size (by omega) (hvr2 _ (Nat.le_refl _))).trans (unhide HR5)
  have ha9 := (hg9.other (w.heap.size + 1) (by omega) (hvr2 _ (by omega))).trans (unhide HA5)
  have z0 := (World.cell?_of_block (a := ⟨w.heap.size, 0, none⟩) hr9).trans ((unhide HR3) 0 (by omega))
  have z1 := (World.cell?_of_block (a := ⟨w.heap.size, 1, none⟩) hr9).trans ((unhide HR3) 1 (by omega))
  have z2 := (World.cell?_of_block (a := ⟨w.heap.size, 2, none⟩) hr9).trans ((unhide HR3) 2 (by omega))
  have z3 := (World.cell?_of_block (a := ⟨w.heap.size, 3, none⟩) hr9).trans ((unhide HR3) 3 (by omega))
  have z4 := (World.cell?_of_block (a := ⟨w.heap.size, 4, none⟩) hr9).trans ((unhide HR3) 4 (by omega))
  have y0 := (World.cell?_of_block (a := ⟨w.heap.size + 1, 0, none⟩) ha9).trans ((unhide HA3) 0 (by omega))
  have y1 := (World.cell?_of_block (a := ⟨w.heap.size + 1, 1, none⟩) ha9).trans ((unhide HA3) 1 (by omega))
  have y2 := (World.cell?_of_block (a := ⟨w.heap.size + 1, 2, none⟩) ha9).trans ((unhide HA3) 2 (by omega))
  have y3 := (World.cell?_of_block (a := ⟨w.heap.size + 1, 3, none⟩) ha9).trans ((unhide HA3) 3 (by omega))
  have y4 := (World.cell?_of_block (a := ⟨w.heap.size + 1, 4, none⟩) ha9).trans ((unhide HA3) 4 (by omega))
  simp [outRow] at y0 y1 y2 y3 y4
  have zf := frozen_block hr9 (unhide HRF3)
  have zf0 := zf 0
  have zf1 := zf 1
  have zf2 := zf 2
  have zf3 := zf 3
  have zf4 := zf 4
  have HZF := hide zf
  have HM9 := hide hm9
  have HG9 := hide hg9
  have HP9 := hide hp9
  have HH9 := hide hh9
  clear zf hm9 hg9 hp9 hh9 hr9 ha9
  go_wp2_with fail
  refine bodyPost_ret (v := outAgg a) (by simp [results, Try.results21, go_sem, z0, z1, z2, z3, z4]) rfl ?_
  have hq1 : ¬ q = w.heap.size := by omega
  have hg1 : ¬ g = w.heap.size := by omega
  have hb9 := (unhide HB5).then (Both.ofGrow (unhide HG9)) (fun k hk => Or.inl hk)
  have hlast : os[os.length - 1]? = some b := by rw [hL, unhide HEB]; exact List.getElem?_eq_getElem _
  refine ⟨rfl, _, os', (List.Perm.cons a (unhide HP9)).trans (cutL_perm (unhide HA) hlast), unhide HH9, (unhide HM9).block ?_ ?_, Both.new (o := 0) (outRow a) (Nat.le_refl _) hb9, rfl, ?_, fun o u ho hu => (World.cell?_of_block (a := ⟨q, o, none⟩) (setRow_other (outRow a) 0 w9 q hq1)).trans ((unhide HG9).cell (by simpa [Value.ownBlock] using hgq) ((unhide HKQ) o u ho hu))⟩
  · exact setRow_other (outRow a) 0 w9 q hq1
  · intro k hk
    have : k = g := by simpa [Value.ownBlock] using hk.symm
    subst this
    exact setRow_other (outRow a) 0 w9 k hg1
  · exact frozen_block (setRow_other (outRow a) 0 w9 q hq1) ((unhide HG9).fz (by simpa [Value.ownBlock] using hgq) (by omega) (unhide HF5))
end Go.Proofs.Ytamkoimadenmeaa
