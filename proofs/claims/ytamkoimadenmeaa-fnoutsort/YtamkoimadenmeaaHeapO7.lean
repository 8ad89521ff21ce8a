/- impl's heap of things let out: put. -/
import Derived.Test.YtamkoimadenmeaaHeapO6
import Derived.Test.YtamkoimadenmeaaHeld
namespace Go.Proofs.Ytamkoimadenmeaa
open Go.RowKit
set_option linter.unusedVariables false
set_option linter.unusedSimpArgs false

theorem outRow_len (os : List OutV) : ∀ r ∈ os.map outRow, r.length = 5 := fun r hr => by
  obtain ⟨o, _, rfl⟩ := List.mem_map.1 hr; rfl

theorem slice_OutT : Try.prog.underlying 29 = some (.slice 24) := by kernel_rfl
theorem infoT_Out : (Try.prog.info? 24).map (fun i => (i.zero, i.size, i.bytes)) = some (some (.agg #[.int .i64 0, .int .i64 0, .int .i64 0, .int .i64 0, .int .i64 0]), 5, 40) := by kernel_rfl
/-- The heap when something was appended to its list. -/
theorem heapOut_grown {N q : Nat} {W A w1 : World} {v : Value} {os : List OutV} {gg cap : Nat} {x : OutV} (hR : HeapM N 24 q v W os) (hbA : Below W.heap.size W A) (hgrow : A.grownBy w1 v.ownBlock)
    (hown1 : w1.ownsRow N 24 5 (.slice (some ⟨gg, 0, none⟩) (os.length + 1) cap) (os.length + 1) (flatCells (os.map outRow) ++ outCells x)) (hat : v.ownBlock = some gg ∨ gg = A.heap.size) :
    HeapM N 24 q (.slice (some ⟨gg, 0, none⟩) (os.length + 1) cap) (w1.setCell ⟨q, 0, none⟩ (.slice (some ⟨gg, 0, none⟩) (os.length + 1) cap)) (os ++ [x]) ∧
    Both q v W (w1.setCell ⟨q, 0, none⟩ (.slice (some ⟨gg, 0, none⟩) (os.length + 1) cap)) := by
  have hq : q < W.heap.size := World.block_lt_of_cell? W ⟨q, 0, none⟩ hR.c0
  have hs := hbA.size
  have hqr : ∀ i : Nat, some (⟨q, i, none⟩ : Addr).block ≠ v.ownBlock := fun i e => hR.ne e.symm
  have k : ∀ {i : Nat} {u : Value}, W.cell? ⟨q, i, none⟩ = some u → w1.cell? ⟨q, i, none⟩ = some u := fun {i u} h => hgrow.cell (cell_on hbA h) (hqr i)
  have hgq : gg ≠ q := fun e => by
    subst e
    rcases hat with h | h
    · exact hR.ne h
    · omega
  have hr : RowsFr N 24 5 w1 (.slice (some ⟨gg, 0, none⟩) (os.length + 1) cap) ((os ++ [x]).map outRow) := by
    refine RowsFr.of_owns (outRow_len _) ?_
    have e1 : flatCells ((os ++ [x]).map outRow) = flatCells (os.map outRow) ++ outCells x := by
      rw [List.map_append, List.map_singleton, flatCells_snoc]; rfl
    rw [e1, List.length_map, List.length_append]
    exact hown1
  refine ⟨⟨hr.block (fun g hg _ => ?_), ?_, by simp [go_sem, k hR.c0], by simp [go_sem, k hR.c1]⟩, (Both.grown hbA hgrow (fun g hg => (hR.rows.blk g hg).2)).set⟩
  · have : g = gg := by simpa [Value.ownBlock] using hg.symm
    subst this
    exact Below.heap_setCell w1 ⟨q, 0, none⟩ _ g hgq
  · simpa [Value.ownBlock] using hgq

set_option maxRecDepth 100000 in
set_option maxHeartbeats 1000000 in
theorem putOut_any (S : Strict outLess) (N q : Nat) (v : Value) (os : List OutV) (x : OutV) (w : World) (h : HeapM N 24 q v w os) (hfz : ∀ i, w.frozen? ⟨q, i, none⟩ = false) (hH : Heap outLess os) (hN : N ≤ w.heap.size) (hx : os.length < 1000000000) :
    Calls Try.prog 20 #[.pointer (some ⟨q, 0, none⟩), outAgg x] w fun e w' => e = .returned (.tuple #[]) ∧ ∃ v' os', os'.Perm (os ++ [x]) ∧ Heap outLess os' ∧ HeapM N 24 q v' w' os' ∧ Both q v w w' ∧ (∀ g, v'.ownBlock = some g → v.ownBlock = some g ∨ w.heap.size ≤ g) ∧ (∀ i, w'.frozen? ⟨q, i, none⟩ = false) ∧ ∀ o u, o ≠ 0 → w.cell? ⟨q, o, none⟩ = some u → w'.cell? ⟨q, o, none⟩ = some u := by
  obtain ⟨i7, hi7, hz70, hz71, hz72⟩ := infoT_parts infoT_Out
  have hq : q < w.heap.size := World.block_lt_of_cell? w ⟨q, 0, none⟩ h.c0
  obtain ⟨qa, qc, hvq⟩ : ∃ a c, v = .slice a os.length c := by
    rcases h.rows with ⟨h1, h2⟩ | ⟨g, cap, _, h1, _⟩
    · rw [List.map_eq_nil_iff] at h2; subst h2; exact ⟨none, 0, h1⟩
    · rw [List.length_map] at h1; exact ⟨_, _, h1⟩
  subst hvq
  have c0 := h.c0
  have hne := h.ne
  have HH := hide h
  have HHP := hide hH
  have HFZ := hide hfz
  have hb0 : Below w.heap.size w (w.alloc (.cells #[.int .i64 x.time, .int .i64 x.proc, .int .i64 x.count, .int .i64 x.n, .int .i64 x.value] 24)) := (Below.refl _ _).alloc (Nat.le_refl _) _
  have b0 : ∀ j, j < 5 → (w.alloc (.cells #[.int .i64 x.time, .int .i64 x.proc, .int .i64 x.count, .int .i64 x.n, .int .i64 x.value] 24)).cell? ⟨w.heap.size, j, none⟩ = some (.int .i64 ((outRow x).getD j 0)) := fun j hj => by
    match j, hj with
    | 0, _ => simp [go_sem, outRow]
    | 1, _ => simp [go_sem, outRow]
    | 2, _ => simp [go_sem, outRow]
    | 3, _ => simp [go_sem, outRow]
    | 4, _ => simp [go_sem, outRow]
  have hs0 : (w.alloc (.cells #[.int .i64 x.time, .int .i64 x.proc, .int .i64 x.count, .int .i64 x.n, .int .i64 x.value] 24)).heap.size = w.heap.size + 1 := by simp
  have HB0 := hide hb0
  have HBX := hide b0
  have HS0 := hide hs0
  clear h hH hfz hb0 b0 hs0
  go_enter Try.func20, Try.ntmps20
  go_upto_region 1 with fail
  generalize (w.alloc (.cells #[.int .i64 x.time, .int .i64 x.proc, .int .i64 x.count, .int .i64 x.n, .int .i64 x.value] 24)) = W0 at *
  refine wp_region_last (L := 10) (S := fun w' : World => w'.cell? ⟨q, 0, none⟩ = some (.slice qa os.length qc) ∧ w'.cell? ⟨w.heap.size, 0, none⟩ = some (.int .i64 x.time) ∧ w'.cell? ⟨w.heap.size, 1, none⟩ = some (.int .i64 x.proc) ∧ w'.cell? ⟨w.heap.size, 2, none⟩ = some (.int .i64 x.count) ∧ w'.cell? ⟨w.heap.size, 3, none⟩ = some (.int .i64 x.n) ∧ w'.cell? ⟨w.heap.size, 4, none⟩ = some (.int .i64 x.value)) (by kernel_rfl) ?_
  have hHeld : (fun w' : World => w'.cell? ⟨q, 0, none⟩ = some (.slice qa os.length qc) ∧ w'.cell? ⟨w.heap.size, 0, none⟩ = some (.int .i64 x.time) ∧ w'.cell? ⟨w.heap.size, 1, none⟩ = some (.int .i64 x.proc) ∧ w'.cell? ⟨w.heap.size, 2, none⟩ = some (.int .i64 x.count) ∧ w'.cell? ⟨w.heap.size, 3, none⟩ = some (.int .i64 x.n) ∧ w'.cell? ⟨w.heap.size, 4, none⟩ = some (.int .i64 x.value)) (World.drew W0) :=
    ⟨cell_on (unhide HB0).drew c0, (unhide HBX) 0 (by omega), (unhide HBX) 1 (by omega), (unhide HBX) 2 (by omega), (unhide HBX) 3 (by omega), (unhide HBX) 4 (by omega)⟩
  refine wpAnyL_take (i := 0) (v := ?_) (by kernel_rfl) rfl (by kernel_rfl) (by kernel_rfl) (by kernel_rfl) (fun _ _ _ h => h) hHeld (Or.inl ⟨by kernel_rfl, ?_⟩) ?_
  rotate_left
  · (intro w hSw; (try dsimp only at hSw); obtain ⟨s0, s1, s2, s3, s4, s5⟩ := hSw; go_simp; try with_reducible rfl)
  refine wpAnyL_take (i := 1) (v := ?_) (by kernel_rfl) rfl (by kernel_rfl) (by kernel_rfl) (by kernel_rfl) (fun _ _ _ h => h) hHeld (Or.inl ⟨by kernel_rfl, ?_⟩) ?_
  rotate_left
  · (intro w hSw; (try dsimp only at hSw); obtain ⟨s0, s1, s2, s3, s4, s5⟩ := hSw; go_simp; try with_reducible rfl)
  refine wpAnyL_take (i := 2) (v := ?_) (by kernel_rfl) rfl (by kernel_rfl) (by kernel_rfl) (by kernel_rfl) (fun _ _ _ h => h) hHeld (Or.inl ⟨by kernel_rfl, ?_⟩) ?_
  rotate_left
  · (intro w hSw; (try dsimp only at hSw); obtain ⟨s0, s1, s2, s3, s4, s5⟩ := hSw; go_simp; try with_reducible rfl)
  refine wpAnyL_take (i := 3) (v := ?_) (by kernel_rfl) rfl (by kernel_rfl) (by kernel_rfl) (by kernel_rfl) (fun _ _ _ h => h) hHeld (Or.inl ⟨by kernel_rfl, ?_⟩) ?_
  rotate_left
  · (intro w hSw; (try dsimp only at hSw); obtain ⟨s0, s1, s2, s3, s4, s5⟩ := hSw; go_simp; try with_reducible rfl)
  refine wpAnyL_take (i := 4) (v := ?_) (by kernel_rfl) rfl (by kernel_rfl) (by kernel_rfl) (by kernel_rfl) (fun _ _ _ h => h) hHeld (Or.inl ⟨by kernel_rfl, ?_⟩) ?_
  rotate_left
  · (intro w hSw; (try dsimp only at hSw); obtain ⟨s0, s1, s2, s3, s4, s5⟩ := hSw; go_simp; try with_reducible rfl)
  refine wpAnyL_take (i := 5) (v := ?_) (by kernel_rfl) rfl (by kernel_rfl) (by kernel_rfl) (by kernel_rfl) (fun _ _ _ h => h) hHeld (Or.inl ⟨by kernel_rfl, ?_⟩) ?_
  rotate_left
  · (intro w hSw; (try dsimp only at hSw); obtain ⟨s0, s1, s2, s3, s4, s5⟩ := hSw; go_simp; try with_reducible rfl)
  refine wpAnyL_one (i := 6) (by kernel_rfl) rfl (fun K hK => ?_)
  go_simp
  have hbX : Below W0.heap.size W0 (W0.alloc (.cells #[.int .i64 x.time, .int .i64 x.proc, .int .i64 x.count, .int .i64 x.n, .int .i64 x.value] 24)).drew := ((Below.refl _ _).alloc (Nat.le_refl _) _).drew
  have hbA : Below w.heap.size w (W0.alloc (.cells #[.int .i64 x.time, .int .i64 x.proc, .int .i64 x.count, .int .i64 x.n, .int .i64 x.value] 24)).drew := below_then (unhide HB0) hbX
  have hsA : W0.heap.size = w.heap.size + 1 := unhide HS0
  refine held_on hK ?_ (fun hHeld => ?_)
  · exact ⟨cell_on hbA c0, cell_on hbX ((unhide HBX) 0 (by omega)), cell_on hbX ((unhide HBX) 1 (by omega)), cell_on hbX ((unhide HBX) 2 (by omega)), cell_on hbX ((unhide HBX) 3 (by omega)), cell_on hbX ((unhide HBX) 4 (by omega))⟩
  clear hK K
  have hownA : (W0.alloc (.cells #[.int .i64 x.time, .int .i64 x.proc, .int .i64 x.count, .int .i64 x.n, .int .i64 x.value] 24)).drew.ownsRow N 24 5 (.slice qa os.length qc) os.length (flatCells (os.map outRow)) := by
    have e := ownsOn hbA ((unhide HH).rows.owns (by omega) (outRow_len os))
    rwa [List.length_map] at e
  refine wpAnyL_one (i := 7) (by kernel_rfl) rfl (fun K hK => ?_)
  refine step_append_lies _ (by rfl) _ _ _ (by rfl) N 24 i7 _ 5 40 slice_OutT hi7 hz70 hz71 hz72 (by rfl) (by omega) (.slice qa os.length qc) os.length (flatCells (os.map outRow)) (by rfl) hownA ⟨W0.heap.size, 0, none⟩ 1 1 (outCells x) (by rfl) (by rfl) (World.news_of_block (cs := #[.int .i64 x.time, .int .i64 x.proc, .int .i64 x.count, .int .i64 x.n, .int .i64 x.value]) (t := 24) (fr := (0, 0)) (heap_alloc_new W0 _)) (by simp [Value.oneCell']) (by omega) (by unfold maxLen; omega) (by omega) (by simp; omega) (W0.heap.size + 1) (by simp) ?_
  intro g2 cap2 w7 hown7 hgrow7 hat7 hlt7
  have hs7 := heapOut_grown (x := x) (unhide HH) hbA hgrow7 hown7 (by rcases hat7 with h | h <;> simp [h])
  have kc := hgrow7.cell (cell_on hbA c0) (fun e => hne e.symm)
  have kf : ∀ i, w7.frozen? ⟨q, i, none⟩ = false := fun i => by (rw [hgrow7.frozen_far ⟨q, i, none⟩ (show q < _ by simp; omega) (fun e => hne e.symm), hbA.frozen (p := ⟨q, i, none⟩) hq]; exact (unhide HFZ) i)
  have kf0 := kf 0
  have HM7 := hide hs7
  have HKQ : Hid (∀ o u, o ≠ 0 → w.cell? ⟨q, o, none⟩ = some u → (w7.setCell ⟨q, 0, none⟩ (.slice (some ⟨g2, 0, none⟩) (os.length + 1) cap2)).cell? ⟨q, o, none⟩ = some u) := hide (fun o u ho hu => by
    have e := hgrow7.cell (cell_on hbA hu) (fun e => hne e.symm)
    have ho' : ¬ 0 = o := fun h => ho h.symm
    simp [go_sem, ho, ho', e])
  have HKF := hide kf
  have HAT : Hid (∀ g, (Value.slice (some ⟨g2, 0, none⟩) (os.length + 1) cap2).ownBlock = some g → (Value.slice qa os.length qc).ownBlock = some g ∨ w.heap.size ≤ g) := hide (fun g hg => by
    have e : g2 = g := by simpa [Value.ownBlock] using hg
    subst e
    rcases hat7 with h | h
    · exact Or.inl h
    · right; omega)
  refine held_on hK ?_ (fun hHeld => ?_)
  · refine ⟨kc, ?_, ?_, ?_, ?_, ?_⟩
    · refine hgrow7.cell (cell_on hbX ((unhide HBX) 0 (by omega))) (fun e => ?_); have h9 := ((unhide HH).rows.blk _ e.symm).2; simp at h9
    · refine hgrow7.cell (cell_on hbX ((unhide HBX) 1 (by omega))) (fun e => ?_); have h9 := ((unhide HH).rows.blk _ e.symm).2; simp at h9
    · refine hgrow7.cell (cell_on hbX ((unhide HBX) 2 (by omega))) (fun e => ?_); have h9 := ((unhide HH).rows.blk _ e.symm).2; simp at h9
    · refine hgrow7.cell (cell_on hbX ((unhide HBX) 3 (by omega))) (fun e => ?_); have h9 := ((unhide HH).rows.blk _ e.symm).2; simp at h9
    · refine hgrow7.cell (cell_on hbX ((unhide HBX) 4 (by omega))) (fun e => ?_); have h9 := ((unhide HH).rows.blk _ e.symm).2; simp at h9
  clear hK K hs7 hown7 hat7 hlt7 hgrow7 kf hownA
  refine wpAnyL_one (i := 8) (by kernel_rfl) rfl (fun K hK => ?_)
  go_simp
  refine held_on hK ?_ (fun hHeld => ?_)
  · exact hHeld
  clear hK K
  refine wpAnyL_one (i := 9) (by kernel_rfl) rfl (fun K hK => ?_)
  go_simp
  refine held_on hK ?_ (fun hHeld => ?_)
  · exact hHeld
  clear hK K
  refine wpAnyL_end (by kernel_rfl) rfl (fun K hK => ?_)
  go_simp
  refine hK.out _ _ ?_
  clear hK K
  refine wpAnyL_done (by kernel_rfl) ?_ _
  have c9 := (unhide HM7).1.c0
  have HC9 := hide c9
  go_wp2_with fail
  refine (riseOut_any S N 24 q os.length _ (os ++ [x]) _ (unhide HM7).1 (heap_put (unhide HHP) x)).mono ?_
  rintro e w9 ⟨rfl, os', hp, hh, hm, hg⟩
  go_wp2_with fail
  (try simp only [Exit.inBlock, Exit.then])
  refine bodyPost_end (results_none rfl _ _ _) rfl ?_
  exact ⟨rfl, _, os', hp, hh, hm, (unhide HM7).2.then (Both.ofGrow hg) (unhide HAT), unhide HAT, hg.fz (unhide HM7).1.ne (World.block_lt_of_cell? _ ⟨q, 0, none⟩ (unhide HM7).1.c0) (fun i => by simpa [go_sem] using (unhide HKF) i), fun o u ho hu => hg.cell (unhide HM7).1.ne ((unhide HKQ) o u ho hu)⟩
end Go.Proofs.Ytamkoimadenmeaa
