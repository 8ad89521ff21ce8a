/- Steps each in memory of its own: the exact laws' to and mark of them. -/
import Derived.Test.YtocgfngcgekciaaSteps1
import Derived.Test.YtocgfngcgekciaaSTo2
namespace Go.Proofs.Ytocgfngcgekciaa
open Go.RowKit
set_option linter.unusedVariables false
set_option linter.unusedSimpArgs false


set_option maxRecDepth 100000 in
set_option maxHeartbeats 1000000 in
theorem toSlotStep_any (e : StepV) (v : Value) (w : World) (h : NumsAt w v e.data) (hl : e.data.length ≤ 1048576) :
    Calls Try.prog 69 #[stepAgg e v] w fun r w' => ∃ v', r = .returned (stepAgg e v') ∧ RowsFr (w.heap.size + 3) 3 1 w' v' (e.data.map fun z => [z]) ∧ Below w.heap.size w w' := by
  have H := hide h
  obtain ⟨a1, c1, rfl⟩ := h.sliced
  clear h
  obtain ⟨W0, hW0⟩ : ∃ W0, W0 = (((w.alloc (.cells #[.bool e.sec, .int .i64 e.sct, .int .i64 e.num, .int .i64 e.cnt, .slice a1 e.data.length c1] 94)).alloc (.cells #[.bool false, .int .i64 0, .int .i64 0, .int .i64 0, .slice none 0 0] 45)).alloc (.cells #[.bool e.sec, .int .i64 e.sct, .int .i64 e.num, .int .i64 e.cnt, .slice none 0 0] 45)) := ⟨_, rfl⟩
  have hs1 : (w.alloc (.cells #[.bool e.sec, .int .i64 e.sct, .int .i64 e.num, .int .i64 e.cnt, .slice a1 e.data.length c1] 94)).heap.size = w.heap.size + 1 := World.size_alloc _ _
  have hs2 : ((w.alloc (.cells #[.bool e.sec, .int .i64 e.sct, .int .i64 e.num, .int .i64 e.cnt, .slice a1 e.data.length c1] 94)).alloc (.cells #[.bool false, .int .i64 0, .int .i64 0, .int .i64 0, .slice none 0 0] 45)).heap.size = w.heap.size + 2 := by rw [World.size_alloc, hs1]
  have hs3 : W0.heap.size = w.heap.size + 3 := by rw [hW0, World.size_alloc, hs2]
  have b12 := (Below.refl (w.alloc (.cells #[.bool e.sec, .int .i64 e.sct, .int .i64 e.num, .int .i64 e.cnt, .slice a1 e.data.length c1] 94)).heap.size (w.alloc (.cells #[.bool e.sec, .int .i64 e.sct, .int .i64 e.num, .int .i64 e.cnt, .slice a1 e.data.length c1] 94))).alloc (Nat.le_refl _) (.cells #[.bool false, .int .i64 0, .int .i64 0, .int .i64 0, .slice none 0 0] 45)
  have b23 := (Below.refl _ ((w.alloc (.cells #[.bool e.sec, .int .i64 e.sct, .int .i64 e.num, .int .i64 e.cnt, .slice a1 e.data.length c1] 94)).alloc (.cells #[.bool false, .int .i64 0, .int .i64 0, .int .i64 0, .slice none 0 0] 45))).alloc (Nat.le_refl _) (.cells #[.bool e.sec, .int .i64 e.sct, .int .i64 e.num, .int .i64 e.cnt, .slice none 0 0] 45)
  have b13 := below_then b12 b23
  rw [← hW0] at b13 b23
  have K1 := hide ((cellsAt_new w [.bool e.sec, .int .i64 e.sct, .int .i64 e.num, .int .i64 e.cnt, .slice a1 e.data.length c1] 94).on b13)
  have R2 := hide ((row_new (w.alloc (.cells #[.bool e.sec, .int .i64 e.sct, .int .i64 e.num, .int .i64 e.cnt, .slice a1 e.data.length c1] 94)) [.bool false, .int .i64 0, .int .i64 0, .int .i64 0, .slice none 0 0] 45).of_block (b23.block _ (by rw [hs1, hs2]; omega)))
  have R3 := hide (row_new ((w.alloc (.cells #[.bool e.sec, .int .i64 e.sct, .int .i64 e.num, .int .i64 e.cnt, .slice a1 e.data.length c1] 94)).alloc (.cells #[.bool false, .int .i64 0, .int .i64 0, .int .i64 0, .slice none 0 0] 45)) [.bool e.sec, .int .i64 e.sct, .int .i64 e.num, .int .i64 e.cnt, .slice none 0 0] 45)
  rw [hs1] at R2
  rw [hs2] at R3
  have R3' : Hid (W0.rowIs (w.heap.size + 2) 45 5 (fun i => ([.bool e.sec, .int .i64 e.sct, .int .i64 e.num, .int .i64 e.cnt, .slice none 0 0] : List Value).getD i undef)) := hide (by rw [hW0]; exact unhide R3)
  have HB : Hid (Below w.heap.size w W0) := hide (((Below.refl w.heap.size w).alloc (Nat.le_refl _) _).trans (b13.mono (by rw [hs1]; omega)))
  have HW := hide hW0
  have HS := hide hs3
  clear R3 b12 b23 b13 hs1 hs2 hs3 hW0
  go_enter Try.func69, Try.ntmps69
  go_upto_region 6 with fail
  rw [← unhide HW]
  clear HW
  have m4 : W0.cell? ⟨w.heap.size, 4, none⟩ = some (.slice a1 e.data.length c1) := (unhide K1) 4 (by simp)
  go_wp2_with fail
  refine (toIntS_any _ e.data W0 ((unhide H).on (unhide HB)) hl).mono ?_
  rintro r w1 ⟨v1, rfl, hg, hb1⟩
  obtain ⟨ga, gc, rfl⟩ := RowsFr_sliced hg
  rw [List.length_map] at hg ⊢
  clear m4
  have hs := unhide HS
  have r2 := (unhide R2).of_block (hb1.block (w.heap.size + 1) (by omega))
  have r3 := (unhide R3').of_block (hb1.block (w.heap.size + 2) (by omega))
  have hrow3 := rowIs_set1 (j := 4) (u := .slice ga e.data.length gc) r3
  have hoth : ∀ b, b ≠ w.heap.size + 2 → (w1.setCell ⟨w.heap.size + 2, 4, none⟩ (.slice ga e.data.length gc)).heap[b]? = w1.heap[b]? := fun b hb => Below.heap_setCell w1 ⟨w.heap.size + 2, 4, none⟩ (.slice ga e.data.length gc) b (by show b ≠ w.heap.size + 2; exact hb)
  have r2' := r2.of_block (hoth (w.heap.size + 1) (by omega))
  have hg3 := hg.block (w' := w1.setCell ⟨w.heap.size + 2, 4, none⟩ (.slice ga e.data.length gc)) (fun b h1 h2 => hoth b (by have := (hg.blk b h1).1; omega))
  have hb3 : Below w.heap.size w (w1.setCell ⟨w.heap.size + 2, 4, none⟩ (.slice ga e.data.length gc)) := ((unhide HB).trans (hb1.mono (by omega))).setCell (p := ⟨w.heap.size + 2, 4, none⟩) (show w.heap.size ≤ w.heap.size + 2 by omega) _
  have g4 : w1.cell? ⟨w.heap.size + 2, 4, none⟩ = some (.slice none 0 0) := r3.cell (i := 4) (by omega)
  have z4 : w1.frozen? ⟨w.heap.size + 2, 4, none⟩ = false := r3.frozen 4
  have HR2 := hide r2'
  have HR3 := hide hrow3
  have HG := hide hg3
  have HB3 := hide hb3
  clear r2 r3 hrow3 r2' hg3 hb3 hg hb1 hs hoth
  go_upto_region 7 with fail
  clear g4 z4
  generalize w1.setCell ⟨w.heap.size + 2, 4, none⟩ (.slice ga e.data.length gc) = W3 at *
  have k0 : W3.cell? ⟨w.heap.size + 2, 0, none⟩ = some (.bool e.sec) := by have x := (unhide HR3).cell (i := 0) (by omega); simpa [setF] using x
  have k1 : W3.cell? ⟨w.heap.size + 2, 1, none⟩ = some (.int .i64 e.sct) := by have x := (unhide HR3).cell (i := 1) (by omega); simpa [setF] using x
  have k2 : W3.cell? ⟨w.heap.size + 2, 2, none⟩ = some (.int .i64 e.num) := by have x := (unhide HR3).cell (i := 2) (by omega); simpa [setF] using x
  have k3 : W3.cell? ⟨w.heap.size + 2, 3, none⟩ = some (.int .i64 e.cnt) := by have x := (unhide HR3).cell (i := 3) (by omega); simpa [setF] using x
  have k4 : W3.cell? ⟨w.heap.size + 2, 4, none⟩ = some (.slice ga e.data.length gc) := by have x := (unhide HR3).cell (i := 4) (by omega); simpa [setF] using x
  have x0 : W3.cell? ⟨w.heap.size + 1, 0, none⟩ = some (.bool false) := (unhide HR2).cell (i := 0) (by simp)
  have x1 : W3.cell? ⟨w.heap.size + 1, 1, none⟩ = some (.int .i64 0) := (unhide HR2).cell (i := 1) (by simp)
  have x2 : W3.cell? ⟨w.heap.size + 1, 2, none⟩ = some (.int .i64 0) := (unhide HR2).cell (i := 2) (by simp)
  have x3 : W3.cell? ⟨w.heap.size + 1, 3, none⟩ = some (.int .i64 0) := (unhide HR2).cell (i := 3) (by simp)
  have x4 : W3.cell? ⟨w.heap.size + 1, 4, none⟩ = some (.slice none 0 0) := (unhide HR2).cell (i := 4) (by simp)
  have z0 := (unhide HR2).frozen 0
  have z1 := (unhide HR2).frozen 1
  have z2 := (unhide HR2).frozen 2
  have z3 := (unhide HR2).frozen 3
  have z4 := (unhide HR2).frozen 4
  have hrow := setVals_row [.bool e.sec, .int .i64 e.sct, .int .i64 e.num, .int .i64 e.cnt, .slice ga e.data.length gc] 0 W3 _ (unhide HR2)
  have v0 := hrow.cell (i := 0) (by simp)
  have v1 := hrow.cell (i := 1) (by simp)
  have v2 := hrow.cell (i := 2) (by simp)
  have v3 := hrow.cell (i := 3) (by simp)
  have v4 := hrow.cell (i := 4) (by simp)
  simp at v0 v1 v2 v3 v4
  have V0 := hide v0
  have V1 := hide v1
  have V2 := hide v2
  have V3 := hide v3
  have V4 := hide v4
  have HBF := hide (setVals_below (b := w.heap.size + 1) [.bool e.sec, .int .i64 e.sct, .int .i64 e.num, .int .i64 e.cnt, .slice ga e.data.length gc] 0 W3 (unhide HB3) (by omega))
  have HGF := hide ((unhide HG).block (w' := setVals W3 (w.heap.size + 1) 0 [.bool e.sec, .int .i64 e.sct, .int .i64 e.num, .int .i64 e.cnt, .slice ga e.data.length gc]) (fun b h1 h2 => setVals_other _ _ _ _ (by have := ((unhide HG).blk b h1).1; have := unhide HS; omega)))
  clear hrow v0 v1 v2 v3 v4
  go_wp2_with fail
  show bodyPost _ _ _ _ _ (setVals W3 (w.heap.size + 1) 0 [.bool e.sec, .int .i64 e.sct, .int .i64 e.num, .int .i64 e.cnt, .slice ga e.data.length gc])
  clear k0 k1 k2 k3 k4 x0 x1 x2 x3 x4 z0 z1 z2 z3 z4
  generalize setVals W3 (w.heap.size + 1) 0 [.bool e.sec, .int .i64 e.sct, .int .i64 e.num, .int .i64 e.cnt, .slice ga e.data.length gc] = W9 at *
  have v0 := unhide V0
  have v1 := unhide V1
  have v2 := unhide V2
  have v3 := unhide V3
  have v4 := unhide V4
  exact bodyPost_ret (v := stepAgg e (.slice ga e.data.length gc)) (by simp [results, Try.results69, go_sem, v0, v1, v2, v3, v4]) rfl ⟨_, rfl, (unhide HGF).less (by have := unhide HS; omega), unhide HBF⟩

/-- A list of steps each list of which lies in memory of its own. -/
structure StepsOwn (N : Nat) (w : World) (v : Value) (vs : Nat → Value) (es : List StepV) : Prop where
  lies : v = .slice none 0 0 ∧ es = [] ∨ ∃ g cap f, v = .slice (some ⟨g, 0, none⟩) es.length cap ∧ N ≤ g ∧ es.length ≤ cap ∧ cap ≤ maxLen ∧ w.rowIs g 45 (cap * 5) f ∧ ∀ i (h : i < es.length) j (hj : j < 5), f (i * 5 + j) = (stepCells es[i] (vs i))[j]
  rows : ∀ i (h : i < es.length), RowsFr N 3 1 w (vs i) (es[i].data.map fun z => [z])
  off : ∀ i, i < es.length → Apart (vs i) v
  sep : ∀ i j, i < j → j < es.length → Apart (vs i) (vs j)

theorem StepsOwn.at {N : Nat} {w : World} {v : Value} {vs : Nat → Value} {es : List StepV} (h : StepsOwn N w v vs es) : StepsAt w v es := by
  rcases h.lies with ⟨rfl, rfl⟩ | ⟨g, cap, f, rfl, hN, hlc, hm, hr, hf⟩
  · exact ⟨none, 0, rfl, Nat.le_refl _, Nat.zero_le _, Or.inl rfl⟩
  · refine ⟨_, cap, rfl, hlc, Nat.le_trans hlc hm, Or.inr ⟨g, 0, rfl, fun i hi => ⟨vs i, fun j hj => ?_, (h.rows i hi).at⟩⟩⟩
    have hj5 : j < 5 := hj
    rw [Nat.zero_add, hr.cell (i := i * 5 + j) (mul_place (by omega) hj5), hf i hi j hj5]

theorem StepsOwn.blk {N : Nat} {w : World} {v : Value} {vs : Nat → Value} {es : List StepV} (h : StepsOwn N w v vs es) : ∀ g, v.ownBlock = some g → N ≤ g ∧ g < w.heap.size := by
  intro g hg
  rcases h.lies with ⟨rfl, _⟩ | ⟨g', cap, f, rfl, hN, _, _, hr, _⟩
  · simp [Value.ownBlock] at hg
  · obtain rfl : g' = g := by simpa [Value.ownBlock] using hg
    exact ⟨hN, hr.lt⟩

theorem StepsOwn.keep {N : Nat} {w w' : World} {v : Value} {vs : Nat → Value} {es : List StepV} (hk : ∀ b, N ≤ b → b < w.heap.size → w'.heap[b]? = w.heap[b]?) (h : StepsOwn N w v vs es) : StepsOwn N w' v vs es := by
  refine ⟨?_, fun i hi => (h.rows i hi).block (fun g hg hlt => hk g ((h.rows i hi).blk g hg).1 hlt), h.off, h.sep⟩
  rcases h.lies with h1 | ⟨g, cap, f, h1, hN, hlc, hm, hr, hf⟩
  · exact Or.inl h1
  · exact Or.inr ⟨g, cap, f, h1, hN, hlc, hm, hr.of_block (hk g hN hr.lt), hf⟩
theorem StepsOwn.on {N : Nat} {w w' : World} {v : Value} {vs : Nat → Value} {es : List StepV} (hb : Below w.heap.size w w') (h : StepsOwn N w v vs es) : StepsOwn N w' v vs es := h.keep (fun b _ hl => hb.block b hl)
theorem StepsOwn.mostly {P : Nat → Prop} {N : Nat} {w w' : World} {v : Value} {vs : Nat → Value} {es : List StepV} (hm : Mostly P w w') (h : StepsOwn N w v vs es) (hv : ∀ g, v.ownBlock = some g → ¬ P g) (hr : ∀ i, i < es.length → ∀ g, (vs i).ownBlock = some g → ¬ P g) : StepsOwn N w' v vs es := by
  refine ⟨?_, fun i hi => (h.rows i hi).block (fun g hg hlt => hm.other g hlt (hr i hi g hg)), h.off, h.sep⟩
  rcases h.lies with h1 | ⟨g, cap, f, h1, hN, hlc, hmx, hrw, hf⟩
  · exact Or.inl h1
  · exact Or.inr ⟨g, cap, f, h1, hN, hlc, hmx, hrw.of_block (hm.other g hrw.lt (hv g (by rw [h1]; rfl))), hf⟩

def stepBlk (v : Value) (es : List StepV) (vs : Nat → Value) (b : Nat) : Prop := v.ownBlock = some b ∨ rowBlk es.length vs b

/-- Steps as they come one behind the other. -/
structure StepsUpTo (N : Nat) (w : World) (vs : Nat → Value) (es : List StepV) (k : Nat) : Prop where
  rows : ∀ i (h : i < es.length), i < k → RowsFr N 3 1 w (vs i) (es[i].data.map fun z => [z])
  sep : ∀ i j, i < j → j < k → j < es.length → Apart (vs i) (vs j)
theorem StepsUpTo.zero (N : Nat) (w : World) (vs : Nat → Value) (es : List StepV) : StepsUpTo N w vs es 0 := ⟨fun _ _ h => absurd h (Nat.not_lt_zero _), fun _ _ _ h => absurd h (Nat.not_lt_zero _)⟩
theorem StepsUpTo.next {N k q o : Nat} {w w' : World} {vs : Nat → Value} {es : List StepV} {v : Value} {cs : List Value} (h : StepsUpTo N w vs es k) (hk : k < es.length) (hb : Below w.heap.size w w') (hN : N ≤ w.heap.size)
    (hr : RowsFr w.heap.size 3 1 w' v (es[k].data.map fun z => [z])) (hq : q < N) : StepsUpTo N (setVals w' q o cs) (setF vs k v) es (k + 1) := by
  refine ⟨fun i hi hik => ?_, fun i j hij hjk hj => ?_⟩
  · by_cases e : i = k
    · subst e
      simp only [setF, if_pos]
      exact (hr.block (fun g hg _ => setVals_other _ _ _ _ (by have := (hr.blk g hg).1; omega))).less hN
    · have h1 := h.rows i hi (by omega)
      simp only [setF, if_neg e]
      exact h1.block (fun g hg hlt => (setVals_other _ _ _ _ (by have := (h1.blk g hg).1; omega)).trans (hb.block g hlt))
  · by_cases e : j = k
    · subst e
      have h1 := h.rows i (by omega) hij
      simp only [setF, if_neg (show ¬ i = j by omega), if_pos]
      intro g hg1 hg2
      have := (h1.blk g hg1).2
      have := (hr.blk g hg2).1
      omega
    · simp only [setF, if_neg e, if_neg (show ¬ i = k by omega)]
      exact h.sep i j hij (by omega) hj

theorem slice_Steps : Try.prog.underlying 31 = some (.slice 45) := by kernel_rfl
theorem info_Step : (Try.prog.info? 45).map (fun i => (i.zero, i.size, i.bytes)) = some (some (.agg #[.bool false, .int .i64 0, .int .i64 0, .int .i64 0, .slice none 0 0]), 5, 56) := by kernel_rfl

set_option maxRecDepth 100000 in
set_option maxHeartbeats 2000000 in
theorem toSlotStepS_any (v : Value) (es : List StepV) (w : World) (h : StepsAt w v es) (hlen : es.length ≤ 1048576) (hl : ∀ e ∈ es, e.data.length ≤ 1048576) :
    Calls Try.prog 40 #[v] w fun e w' => ∃ vs, e = .returned (.slice (some ⟨w.heap.size, 0, none⟩) es.length es.length) ∧ StepsOwn w.heap.size w' (.slice (some ⟨w.heap.size, 0, none⟩) es.length es.length) vs es ∧ Below w.heap.size w w' := by
  have HMX := hide h.len
  obtain ⟨ad, cap, rfl⟩ := h.sliced
  have hmk : ∀ w : World, (Instr.makeSlice 31 (.int .i64 (es.length : Int)) (.int .i64 (es.length : Int))).run Try.prog w = .ok (.slice (some ⟨w.heap.size, 0, none⟩) es.length es.length) (w.alloc (.cells (madeCells #[.bool false, .int .i64 0, .int .i64 0, .int .i64 0, .slice none 0 0] (es.length * 5)) 45)) := fun w => by
    exact run_make_n (P := Try.prog) 31 45 _ 5 56 slice_Steps info_Step es.length (by omega) (by omega) w
  have HC := hide h
  have HL := hide hl
  clear h hl
  go_enter Try.func40, Try.ntmps40
  go_wp2_with fail
  have hb1 : Below w.heap.size w (w.alloc (.cells (madeCells #[.bool false, .int .i64 0, .int .i64 0, .int .i64 0, .slice none 0 0] (es.length * 5)) 45)) := (Below.refl _ _).alloc (Nat.le_refl _) _
  have hsz1 : (w.alloc (.cells (madeCells #[.bool false, .int .i64 0, .int .i64 0, .int .i64 0, .slice none 0 0] (es.length * 5)) 45)).heap.size = w.heap.size + 1 := World.size_alloc _ _
  have hr1 := row_made w #[.bool false, .int .i64 0, .int .i64 0, .int .i64 0, .slice none 0 0] (es.length * 5) 45
  have HZ : Hid (∀ i j, j < 5 → (fun i => (#[.bool false, .int .i64 0, .int .i64 0, .int .i64 0, .slice none 0 0] : Array Value)[i % (#[.bool false, .int .i64 0, .int .i64 0, .int .i64 0, .slice none 0 0] : Array Value).size]!) (i * 5 + j) = ([.bool false, .int .i64 0, .int .i64 0, .int .i64 0, .slice none 0 0] : List Value).getD j undef) := hide (fun i j hj => by
    have e : (i * 5 + j) % 5 = j := by omega
    have : j = 0 ∨ j = 1 ∨ j = 2 ∨ j = 3 ∨ j = 4 := by omega
    rcases this with rfl | rfl | rfl | rfl | rfl <;> simp [e])
  clear hmk
  generalize w.alloc (.cells (madeCells #[.bool false, .int .i64 0, .int .i64 0, .int .i64 0, .slice none 0 0] (es.length * 5)) 45) = w1 at *
  generalize (fun i => (#[.bool false, .int .i64 0, .int .i64 0, .int .i64 0, .slice none 0 0] : Array Value)[i % (#[.bool false, .int .i64 0, .int .i64 0, .int .i64 0, .slice none 0 0] : Array Value).size]!) = f1 at *
  have HS1 := hide hsz1
  clear hsz1
  go_loopw [4] (fun i wr => ∃ (k : Nat) (f : Nat → Value) (vs : Nat → Value), k ≤ es.length ∧ i = .int .i64 k ∧ Hid (wr.rowIs w.heap.size 45 (es.length * 5) f) ∧ Hid (∀ i (h : i < es.length), i < k → ∀ j (hj : j < 5), f (i * 5 + j) = (stepCells es[i] (vs i))[j]) ∧ Hid (∀ i j, k ≤ i → j < 5 → f (i * 5 + j) = ([.bool false, .int .i64 0, .int .i64 0, .int .i64 0, .slice none 0 0] : List Value).getD j undef) ∧ Hid (StepsUpTo (w.heap.size + 1) wr vs es k) ∧ Hid (w.heap.size + 1 ≤ wr.heap.size) ∧ Below w.heap.size w wr) (fun i _ => es.length - (intOf i).toNat)
  case atStart => exact ⟨0, f1, fun _ => .slice none 0 0, Nat.zero_le _, rfl, hide hr1, hide (fun _ _ h => absurd h (Nat.not_lt_zero _)), hide (fun i j _ hj => (unhide HZ) i j hj), hide (StepsUpTo.zero _ _ _ _), hide (by have := unhide HS1; omega), hb1⟩
  case round =>
    obtain ⟨k, f, vs, hk, rfl, HROW, HF, HZF, HIN, HSZ, hb⟩ := hrel
    clear hr1 HZ
    by_cases hlt : k < es.length
    · obtain ⟨b, off, vd, had, hc, hp⟩ := ((unhide HC).on hb).row hlt
      have hkI : (k : Int) < (es.length : Int) := by omega
      have hk0 : (0 : Int) ≤ (k : Int) := by omega
      subst had
      have HP := hide hp
      obtain ⟨ea, ec, rfl⟩ := hp.sliced
      have hlk := (unhide HL) es[k] (List.getElem_mem hlt)
      have hlt2 := (unhide HROW).lt
      clear hp
      obtain ⟨z, hz⟩ : ∃ z, z = es[k] := ⟨_, rfl⟩
      rw [← hz] at hc hlk HP
      have HZE := hide hz
      clear hz
      have q0 : wr.cell? ⟨b, off + k * 5, none⟩ = some (.bool z.sec) := hc 0 (by simp)
      have q1 : wr.cell? ⟨b, off + k * 5 + 1, none⟩ = some (.int .i64 z.sct) := hc 1 (by simp)
      have q2 : wr.cell? ⟨b, off + k * 5 + 2, none⟩ = some (.int .i64 z.num) := hc 2 (by simp)
      have q3 : wr.cell? ⟨b, off + k * 5 + 3, none⟩ = some (.int .i64 z.cnt) := hc 3 (by simp)
      have q4 : wr.cell? ⟨b, off + k * 5 + 4, none⟩ = some (.slice ea z.data.length ec) := hc 4 (by simp)
      clear hc
      go_wp2_with fail
      refine (toSlotStep_any z _ wr (unhide HP) hlk).mono ?_
      rintro e w2 ⟨v2, rfl, hf2, hb2⟩
      obtain ⟨ga, gc, hgv⟩ := RowsFr_sliced hf2
      rw [List.length_map] at hgv
      subst hgv
      have hrow2 := (unhide HROW).of_block (hb2.block w.heap.size hlt2)
      have p0 : w2.cell? ⟨w.heap.size, k * 5, none⟩ = some (.bool false) := by have x := hrow2.cell (i := k * 5 + 0) (mul_place hlt (by omega)); rw [(unhide HZF) k 0 (Nat.le_refl _) (by omega)] at x; exact x
      have p1 : w2.cell? ⟨w.heap.size, k * 5 + 1, none⟩ = some (.int .i64 0) := by have x := hrow2.cell (i := k * 5 + 1) (mul_place hlt (by omega)); rw [(unhide HZF) k 1 (Nat.le_refl _) (by omega)] at x; exact x
      have p2 : w2.cell? ⟨w.heap.size, k * 5 + 2, none⟩ = some (.int .i64 0) := by have x := hrow2.cell (i := k * 5 + 2) (mul_place hlt (by omega)); rw [(unhide HZF) k 2 (Nat.le_refl _) (by omega)] at x; exact x
      have p3 : w2.cell? ⟨w.heap.size, k * 5 + 3, none⟩ = some (.int .i64 0) := by have x := hrow2.cell (i := k * 5 + 3) (mul_place hlt (by omega)); rw [(unhide HZF) k 3 (Nat.le_refl _) (by omega)] at x; exact x
      have p4 : w2.cell? ⟨w.heap.size, k * 5 + 4, none⟩ = some (.slice none 0 0) := by have x := hrow2.cell (i := k * 5 + 4) (mul_place hlt (by omega)); rw [(unhide HZF) k 4 (Nat.le_refl _) (by omega)] at x; exact x
      have z0 : w2.frozen? ⟨w.heap.size, k * 5, none⟩ = false := hrow2.frozen (k * 5)
      have z1 : w2.frozen? ⟨w.heap.size, k * 5 + 1, none⟩ = false := hrow2.frozen (k * 5 + 1)
      have z2 : w2.frozen? ⟨w.heap.size, k * 5 + 2, none⟩ = false := hrow2.frozen (k * 5 + 2)
      have z3 : w2.frozen? ⟨w.heap.size, k * 5 + 3, none⟩ = false := hrow2.frozen (k * 5 + 3)
      have z4 : w2.frozen? ⟨w.heap.size, k * 5 + 4, none⟩ = false := hrow2.frozen (k * 5 + 4)
      have HROW2 := hide hrow2
      have HF2 := hide (hf2.less (show wr.heap.size ≤ wr.heap.size + 3 by omega))
      have HB2 := hide hb2
      clear hf2 hb2 hrow2 q0 q1 q2 q3 q4 hlt2
      go_wp2_with fail
      go_roundw
      case rel =>
        have hf := unhide HF2
        have hn := (unhide HIN).next (q := w.heap.size) (o := k * 5) (cs := stepCells z (.slice ga z.data.length gc)) (v := .slice ga z.data.length gc) hlt (unhide HB2) (unhide HSZ) (by rw [unhide HZE] at hf ⊢; exact hf) (by omega)
        have hr2 := setVals_row (stepCells z (.slice ga z.data.length gc)) (k * 5) w2 f (unhide HROW2)
        refine ⟨k + 1, _, setF vs k (.slice ga z.data.length gc), by omega, by go_num, hide hr2, hide ?_, hide ?_, hide hn, hide (by have h1 := unhide HSZ; have h2 := (unhide HB2).size; simp; omega), setVals_below (stepCells z (.slice ga z.data.length gc)) (k * 5) w2 (hb.trans ((unhide HB2).mono (by have := unhide HSZ; omega))) (Nat.le_refl _)⟩
        · intro i hi hik j hj
          by_cases e : i = k
          · subst e
            have hj2 : j < (stepCells z (.slice ga z.data.length gc)).length := hj
            show (if i * 5 ≤ i * 5 + j ∧ i * 5 + j < i * 5 + 5 then (stepCells z (.slice ga z.data.length gc)).getD (i * 5 + j - i * 5) undef else f (i * 5 + j)) = _
            rw [if_pos (by omega), Nat.add_sub_cancel_left, List.getD_eq_getElem?_getD, List.getElem?_eq_getElem hj2, Option.getD_some]
            simp only [setF, if_pos, unhide HZE]
          · have := mul_place (show i < k by omega) hj
            show (if k * 5 ≤ i * 5 + j ∧ i * 5 + j < k * 5 + 5 then _ else f (i * 5 + j)) = _
            rw [if_neg (by omega), (unhide HF) i hi (by omega) j hj]
            simp only [setF, if_neg e]
        · intro i j hi hj
          show (if k * 5 ≤ i * 5 + j ∧ i * 5 + j < k * 5 + 5 then _ else f (i * 5 + j)) = _
          rw [if_neg (by omega)]
          exact (unhide HZF) i j (by omega) hj
      case measure => (simp [intOf]; try omega)
    · have hke : k = es.length := by omega
      subst hke
      go_wp2_with fail
      go_ret
      refine ⟨vs, rfl, ⟨Or.inr ⟨w.heap.size, es.length, f, rfl, Nat.le_refl _, Nat.le_refl _, unhide HMX, unhide HROW, fun i hi j hj => (unhide HF) i hi hi j hj⟩, fun i hi => ((unhide HIN).rows i hi hi).less (by omega), fun i hi g h1 h2 => ?_, fun i j hij hj => (unhide HIN).sep i j hij hj hj⟩, hb⟩
      have h3 := (((unhide HIN).rows i hi hi).blk g h1).1
      have e : w.heap.size = g := by simpa [Value.ownBlock] using h2
      omega
end Go.Proofs.Ytocgfngcgekciaa
