/- Contracts of spec's l1Run.op: send and out. -/
import Derived.Test.YtjbgiepaehefpaaDoorRun2
import Derived.Test.YtjbgiepaehefpaaDoorHeld
namespace Go.Proofs.YtjbgiepaehefpaaDoor
open Go.RowKit
set_option linter.unusedVariables false

theorem info_event : (Tryd.prog.info? 38).map (fun i => (i.zero, i.size, i.bytes)) = some (some (.agg #[.int .i64 0, .int .i64 0, .int .i64 0, .int .i64 0, .int .i64 0, .int .i64 0, .int .i64 0]), 7, 56) := by kernel_rfl
theorem slice_outT : Tryd.prog.underlying 42 = some (.slice 48) := by kernel_rfl
theorem slice_eventT : Tryd.prog.underlying 41 = some (.slice 38) := by kernel_rfl
theorem info_out : (Tryd.prog.info? 48).map (fun i => (i.zero, i.size, i.bytes)) = some (some (.agg #[.int .i64 0, .int .i64 0, .int .i64 0, .int .i64 0, .int .i64 0]), 5, 40) := by kernel_rfl

theorem outCells_snoc (l : List OutV) (x : OutV) : outsCells (l ++ [x]) = outsCells l ++ outCells x := by simp [outsCells, List.flatMap_append]

theorem run_out {W w1 : World} {q : Nat} {s : StV} {ev : EvV} {vs vo : Value} {sends : List EvV} {outs : List OutV} {o : Obj} {gg cap : Nat} {x : OutV} (hR : RunMem W q s ev vs vo sends outs) (hgrow : ((W.alloc o).drew).grownBy w1 vo.ownBlock)
    (hown1 : w1.ownsRow (q - 2) 48 5 (.slice (some ⟨gg, 0, none⟩) (outs.length + 1) cap) (outs.length + 1) (outsCells outs ++ outCells x)) (hat : vo.ownBlock = some gg ∨ gg = W.heap.size + 1) :
    RunMem (w1.setCell ⟨q, 11, none⟩ (.slice (some ⟨gg, 0, none⟩) (outs.length + 1) cap)) q s ev vs (.slice (some ⟨gg, 0, none⟩) (outs.length + 1) cap) sends (outs ++ [x]) ∧ Below (q - 2) W (w1.setCell ⟨q, 11, none⟩ (.slice (some ⟨gg, 0, none⟩) (outs.length + 1) cap)) := by
  have hq : q < W.heap.size := World.block_lt_of_cell? W ⟨q, 0, none⟩ hR.x0
  have hlt := hR.oo.lt
  have hlo := hR.os.lt
  have hbA : Below W.heap.size W ((W.alloc o).drew) := ((Below.refl _ _).alloc (Nat.le_refl _) o).drew
  have hne : ∀ k, vo.ownBlock = some k → q - 2 ≤ k := fun k hk => (hlt k hk).1
  have hqr : ∀ i : Nat, some (⟨q, i, none⟩ : Addr).block ≠ vo.ownBlock := fun i e => hR.no e.symm
  have k : ∀ {i : Nat} {v : Value}, W.cell? ⟨q, i, none⟩ = some v → w1.cell? ⟨q, i, none⟩ = some v := fun {i v} h => hgrow.cell (cell_on hbA h) (hqr i)
  have hfz : ∀ i, w1.frozen? ⟨q, i, none⟩ = false := fun i => by
    rw [hgrow.frozen_far ⟨q, i, none⟩ (show q < ((W.alloc o).drew).heap.size by have := hbA.size; omega) (hqr i), hbA.frozen (p := ⟨q, i, none⟩) hq]
    exact hR.fz i
  have hoth : w1.ownsRow (q - 2) 38 7 vs sends.length (evsCells sends) := (ownsRow_on hbA hR.os).kept hgrow (by
    rcases hR.ne with h | h
    · exact Or.inl h
    · exact Or.inr h)
  have hgq : (Value.slice (some ⟨gg, 0, none⟩) (outs.length + 1) cap).ownBlock ≠ some q := fun e => by
    have e' : gg = q := by simpa [Value.ownBlock] using e
    subst e'
    rcases hat with h | h
    · exact hR.no h
    · omega
  refine ⟨⟨by simp [go_sem, k hR.x0], by simp [go_sem, k hR.x1], by simp [go_sem, k hR.x2], by simp [go_sem, k hR.e0], by simp [go_sem, k hR.e1], by simp [go_sem, k hR.e6], by simp [go_sem, k hR.cs], by simp [go_sem, k hR.co], fun i => by simpa [go_sem] using hfz i, ?_, ?_, ?_, hR.ns, hgq⟩, ?_⟩
  · exact ownsRow_setCell_other hoth hR.ns _
  · rw [List.length_append, outCells_snoc]; exact ownsRow_setCell_other hown1 hgq _
  · cases hv : vs.ownBlock with
    | none => exact Or.inl rfl
    | some b =>
      refine Or.inr (fun e => ?_)
      have e' : b = gg := by simpa [Value.ownBlock] using e
      subst e'
      rcases hat with h | h
      · rcases hR.ne with h2 | h2
        · rw [h2] at hv; cases hv
        · exact h2 (hv.trans h.symm)
      · have := (hlo b hv).2; omega
  · exact (Below.grown (((Below.refl _ _).alloc (by omega) o).drew) hgrow (by have := hbA.size; omega) hne).setCell (Nat.sub_le q 2) _

set_option maxRecDepth 100000 in
set_option maxHeartbeats 3200000 in
theorem specOp_out (a : Int) (ha : a = 0 ∨ a = 1) : SpecOp ⟨7, a, 0, 0, 0⟩ := by
  intro q s ev vs vo sends outs w hR hs ha0 ha1 ht0 ht1 hls hlo
  have hq : q < w.heap.size := World.block_lt_of_cell? w ⟨q, 0, none⟩ hR.x0
  have hbx : Below w.heap.size w (w.alloc (.cells #[.int .i64 7, .int .i64 a, .int .i64 0, .int .i64 0, .int .i64 0] 77)) := (Below.refl _ _).alloc (Nat.le_refl _) _
  have hbq : Below (q - 2) w (w.alloc (.cells #[.int .i64 7, .int .i64 a, .int .i64 0, .int .i64 0, .int .i64 0] 77)) := below_q hq _
  have d1 : (w.alloc (.cells #[.int .i64 7, .int .i64 a, .int .i64 0, .int .i64 0, .int .i64 0] 77)).cell? ⟨w.heap.size, 1, none⟩ = some (.int .i64 a) := by simp [go_sem]
  have hqs : ¬ q = w.heap.size := by omega
  have hqs2 : ¬ w.heap.size = q := by omega
  have HR := hide (hR.on hbx)
  have hrl : ∀ k, vo.ownBlock = some k → q ≠ k ∧ k < w.heap.size := fun k h => ⟨fun e => hR.no (by rw [h, e]), (hR.oo.lt k h).2⟩
  clear hR hbx
  obtain ⟨oa, oc, rfl⟩ : ∃ oa oc, vo = .slice oa outs.length oc := by
    obtain ⟨_, ⟨h, hn⟩ | ⟨g, cap, _, h, _⟩⟩ := (unhide HR).oo
    · exact ⟨none, 0, by rw [h, hn]⟩
    · exact ⟨_, _, h⟩
  obtain ⟨i0, hi0, hz0, hz1, hz2⟩ := info_parts info_out
  go_enter Tryd.func59, Tryd.ntmps59
  go_wp2_with fail
  have hWz : (w.alloc (.cells #[.int .i64 7, .int .i64 a, .int .i64 0, .int .i64 0, .int .i64 0] 77)).heap.size = w.heap.size + 1 := by simp
  generalize w.alloc (.cells #[.int .i64 7, .int .i64 a, .int .i64 0, .int .i64 0, .int .i64 0] 77) = W at *
  have HWZ := hide hWz
  clear hWz
  have hWq : q + 1 ≤ W.heap.size := by have := unhide HWZ; omega
  have x2 := (unhide HR).x2
  have e0 := (unhide HR).e0
  have e1 := (unhide HR).e1
  have co := (unhide HR).co
  have hbA : ∀ o, Below W.heap.size W ((W.alloc o).drew) := fun o => ((Below.refl _ _).alloc (Nat.le_refl _) o).drew
  have hown0 : ∀ o, ((W.alloc o).drew).ownsRow (q - 2) 48 5 (.slice oa outs.length oc) outs.length (outsCells outs) := fun o => ((unhide HR).oo.alloc o)
  refine wp_region_last (L := 34) (S := fun w' : World => w'.cell? ⟨w.heap.size, 1, none⟩ = some (.int .i64 a) ∧ w'.cell? ⟨q, 2, none⟩ = some (.int .i64 s.c) ∧ w'.cell? ⟨q, 3, none⟩ = some (.int .i64 ev.time) ∧ w'.cell? ⟨q, 4, none⟩ = some (.int .i64 ev.to) ∧ w'.cell? ⟨q, 11, none⟩ = some (.slice oa outs.length oc)) (by kernel_rfl) ?_
  have hHeld : (fun w' : World => w'.cell? ⟨w.heap.size, 1, none⟩ = some (.int .i64 a) ∧ w'.cell? ⟨q, 2, none⟩ = some (.int .i64 s.c) ∧ w'.cell? ⟨q, 3, none⟩ = some (.int .i64 ev.time) ∧ w'.cell? ⟨q, 4, none⟩ = some (.int .i64 ev.to) ∧ w'.cell? ⟨q, 11, none⟩ = some (.slice oa outs.length oc)) (World.drew _) := ⟨d1, x2, e0, e1, co⟩
  refine wpAnyL_take (i := 0) (v := ?_) (by kernel_rfl) rfl (by kernel_rfl) (by kernel_rfl) (by kernel_rfl) (fun _ _ _ h => h) hHeld (Or.inl ⟨by kernel_rfl, ?_⟩) ?_
  rotate_left
  · (intro w hSw; (try dsimp only at hSw); go_simp; try with_reducible rfl)
  refine wpAnyL_take (i := 1) (v := ?_) (by kernel_rfl) rfl (by kernel_rfl) (by kernel_rfl) (by kernel_rfl) (fun _ _ _ h => h) hHeld (Or.inl ⟨by kernel_rfl, ?_⟩) ?_
  rotate_left
  · (intro w hSw; (try dsimp only at hSw); go_simp; try with_reducible rfl)
  refine wpAnyL_take (i := 2) (v := ?_) (by kernel_rfl) rfl (by kernel_rfl) (by kernel_rfl) (by kernel_rfl) (fun _ _ _ h => h) hHeld (Or.inl ⟨by kernel_rfl, ?_⟩) ?_
  rotate_left
  · (intro w hSw; (try dsimp only at hSw); go_simp; try with_reducible rfl)
  refine wpAnyL_take (i := 3) (v := ?_) (by kernel_rfl) rfl (by kernel_rfl) (by kernel_rfl) (by kernel_rfl) (fun _ _ _ h => h) hHeld (Or.inl ⟨by kernel_rfl, ?_⟩) ?_
  rotate_left
  · (intro w hSw; (try dsimp only at hSw); go_simp; try with_reducible rfl)
  refine wpAnyL_take (i := 4) (v := ?_) (by kernel_rfl) rfl (by kernel_rfl) (by kernel_rfl) (by kernel_rfl) (fun _ _ _ h => h) hHeld (Or.inl ⟨by kernel_rfl, ?_⟩) ?_
  rotate_left
  · (intro w hSw; (try dsimp only at hSw); go_simp; try with_reducible rfl)
  refine wpAnyL_take (i := 5) (v := ?_) (by kernel_rfl) rfl (by kernel_rfl) (by kernel_rfl) (by kernel_rfl) (fun _ _ _ h => h) hHeld (Or.inl ⟨by kernel_rfl, ?_⟩) ?_
  rotate_left
  · (intro w hSw; (try dsimp only at hSw); go_simp; try with_reducible rfl)
  refine wpAnyL_take (i := 6) (v := ?_) (by kernel_rfl) rfl (by kernel_rfl) (by kernel_rfl) (by kernel_rfl) (fun _ _ _ h => h) hHeld (Or.inl ⟨by kernel_rfl, ?_⟩) ?_
  rotate_left
  · (intro w hSw; (try dsimp only at hSw); go_simp; try with_reducible rfl)
  refine wpAnyL_take (i := 7) (v := ?_) (by kernel_rfl) rfl (by kernel_rfl) (by kernel_rfl) (by kernel_rfl) (fun _ _ _ h => h) hHeld (Or.inl ⟨by kernel_rfl, ?_⟩) ?_
  rotate_left
  · (intro w hSw; (try dsimp only at hSw); go_simp; try with_reducible rfl)
  refine wpAnyL_take (i := 8) (v := ?_) (by kernel_rfl) rfl (by kernel_rfl) (by kernel_rfl) (by kernel_rfl) (fun _ _ _ h => h) hHeld (Or.inl ⟨by kernel_rfl, ?_⟩) ?_
  rotate_left
  · (intro w hSw; (try dsimp only at hSw); go_simp; try with_reducible rfl)
  refine wpAnyL_take (i := 9) (v := ?_) (by kernel_rfl) rfl (by kernel_rfl) (by kernel_rfl) (by kernel_rfl) (fun _ _ _ h => h) hHeld (Or.inl ⟨by kernel_rfl, ?_⟩) ?_
  rotate_left
  · (intro w hSw; (try dsimp only at hSw); go_simp; try with_reducible rfl)
  refine wpAnyL_take (i := 10) (v := ?_) (by kernel_rfl) rfl (by kernel_rfl) (by kernel_rfl) (by kernel_rfl) (fun _ _ _ h => h) hHeld (Or.inl ⟨by kernel_rfl, ?_⟩) ?_
  rotate_left
  · (intro w hSw; (try dsimp only at hSw); go_simp; try with_reducible rfl)
  refine wpAnyL_take (i := 11) (v := ?_) (by kernel_rfl) rfl (by kernel_rfl) (by kernel_rfl) (by kernel_rfl) (fun _ _ _ h => h) hHeld (Or.inl ⟨by kernel_rfl, ?_⟩) ?_
  rotate_left
  · (intro w hSw; (try dsimp only at hSw); go_simp; try with_reducible rfl)
  refine wpAnyL_take (i := 12) (v := ?_) (by kernel_rfl) rfl (by kernel_rfl) (by kernel_rfl) (by kernel_rfl) (fun _ _ _ h => h) hHeld (Or.inl ⟨by kernel_rfl, ?_⟩) ?_
  rotate_left
  · (intro w hSw; (try dsimp only at hSw); go_simp; try with_reducible rfl)
  refine wpAnyL_take (i := 13) (v := ?_) (by kernel_rfl) rfl (by kernel_rfl) (by kernel_rfl) (by kernel_rfl) (fun _ _ _ h => h) hHeld (Or.inl ⟨by kernel_rfl, ?_⟩) ?_
  rotate_left
  · (intro w hSw; (try dsimp only at hSw); go_simp; try with_reducible rfl)
  refine wpAnyL_take (i := 14) (v := ?_) (by kernel_rfl) rfl (by kernel_rfl) (by kernel_rfl) (by kernel_rfl) (fun _ _ _ h => h) hHeld (Or.inl ⟨by kernel_rfl, ?_⟩) ?_
  rotate_left
  · (intro w hSw; (try dsimp only at hSw); go_simp; try with_reducible rfl)
  refine wpAnyL_take (i := 15) (v := ?_) (by kernel_rfl) rfl (by kernel_rfl) (by kernel_rfl) (by kernel_rfl) (fun _ _ _ h => h) hHeld (Or.inl ⟨by kernel_rfl, ?_⟩) ?_
  rotate_left
  · (intro w hSw; (try dsimp only at hSw); go_simp; try with_reducible rfl)
  refine wpAnyL_take (i := 16) (v := ?_) (by kernel_rfl) rfl (by kernel_rfl) (by kernel_rfl) (by kernel_rfl) (fun _ _ _ h => h) hHeld (Or.inl ⟨by kernel_rfl, ?_⟩) ?_
  rotate_left
  · (intro w hSw; (try dsimp only at hSw); go_simp; try with_reducible rfl)
  refine wpAnyL_take (i := 17) (v := ?_) (by kernel_rfl) rfl (by kernel_rfl) (by kernel_rfl) (by kernel_rfl) (fun _ _ _ h => h) hHeld (Or.inl ⟨by kernel_rfl, ?_⟩) ?_
  rotate_left
  · (intro w hSw; (try dsimp only at hSw); go_simp; try with_reducible rfl)
  refine wpAnyL_take (i := 18) (v := ?_) (by kernel_rfl) rfl (by kernel_rfl) (by kernel_rfl) (by kernel_rfl) (fun _ _ _ h => h) hHeld (Or.inl ⟨by kernel_rfl, ?_⟩) ?_
  rotate_left
  · (intro w hSw; (try dsimp only at hSw); go_simp; try with_reducible rfl)
  refine wpAnyL_take (i := 19) (v := ?_) (by kernel_rfl) rfl (by kernel_rfl) (by kernel_rfl) (by kernel_rfl) (fun _ _ _ h => h) hHeld (Or.inl ⟨by kernel_rfl, ?_⟩) ?_
  rotate_left
  · (intro w hSw; (try dsimp only at hSw); go_simp; try with_reducible rfl)
  refine wpAnyL_take (i := 20) (v := ?_) (by kernel_rfl) rfl (by kernel_rfl) (by kernel_rfl) (by kernel_rfl) (fun _ _ _ h => h) hHeld (Or.inl ⟨by kernel_rfl, ?_⟩) ?_
  rotate_left
  · (intro w hSw; (try dsimp only at hSw); go_simp; try with_reducible rfl)
  refine wpAnyL_take (i := 21) (v := ?_) (by kernel_rfl) rfl (by kernel_rfl) (by kernel_rfl) (by kernel_rfl) (fun _ _ _ h => h) hHeld (Or.inl ⟨by kernel_rfl, ?_⟩) ?_
  rotate_left
  · (intro w hSw; (try dsimp only at hSw); go_simp; try with_reducible rfl)
  refine wpAnyL_take (i := 22) (v := ?_) (by kernel_rfl) rfl (by kernel_rfl) (by kernel_rfl) (by kernel_rfl) (fun _ _ _ h => h) hHeld (Or.inl ⟨by kernel_rfl, ?_⟩) ?_
  rotate_left
  · (intro w hSw; (try dsimp only at hSw); go_simp; try with_reducible rfl)
  refine wpAnyL_take (i := 23) (v := ?_) (by kernel_rfl) rfl (by kernel_rfl) (by kernel_rfl) (by kernel_rfl) (fun _ _ _ h => h) hHeld (Or.inl ⟨by kernel_rfl, ?_⟩) ?_
  rotate_left
  · (intro w hSw; (try dsimp only at hSw); go_simp; try with_reducible rfl)
  refine wpAnyL_take (i := 24) (v := ?_) (by kernel_rfl) rfl (by kernel_rfl) (by kernel_rfl) (by kernel_rfl) (fun _ _ _ h => h) hHeld (Or.inl ⟨by kernel_rfl, ?_⟩) ?_
  rotate_left
  · (intro w hSw; (try dsimp only at hSw); go_simp; try with_reducible rfl)
  refine wpAnyL_take (i := 25) (v := ?_) (by kernel_rfl) rfl (by kernel_rfl) (by kernel_rfl) (by kernel_rfl) (fun _ _ _ h => h) hHeld (Or.inl ⟨by kernel_rfl, ?_⟩) ?_
  rotate_left
  · (intro w hSw; (try dsimp only at hSw); go_simp; try with_reducible rfl)
  refine wpAnyL_take (i := 26) (v := ?_) (by kernel_rfl) rfl (by kernel_rfl) (by kernel_rfl) (by kernel_rfl) (fun _ _ _ h => h) hHeld (Or.inl ⟨by kernel_rfl, ?_⟩) ?_
  rotate_left
  · (intro w hSw; (try dsimp only at hSw); go_simp; try with_reducible rfl)
  refine wpAnyL_take (i := 27) (v := ?_) (by kernel_rfl) rfl (by kernel_rfl) (by kernel_rfl) (by kernel_rfl) (fun _ _ _ h => h) hHeld (Or.inl ⟨by kernel_rfl, ?_⟩) ?_
  rotate_left
  · (intro w hSw; (try dsimp only at hSw); go_simp; try with_reducible rfl)
  refine wpAnyL_one (i := 28) (by kernel_rfl) rfl (fun K hK => ?_)
  go_simp
  refine (get_any q s a ha _ ?_ ?_).mono ?_
  · exact (unhide HR).x0
  · exact (unhide HR).x1
  rintro e w' ⟨rfl, rfl⟩
  go_wp2_with fail
  refine held_on hK ?_ (fun hHeld => ?_)
  · exact hHeld
  clear hK K
  refine wpAnyL_take (i := 29) (v := ?_) (by kernel_rfl) rfl (by kernel_rfl) (by kernel_rfl) (by kernel_rfl) (fun _ _ _ h => h) hHeld (Or.inl ⟨by kernel_rfl, ?_⟩) ?_
  rotate_left
  · (intro w hSw; (try dsimp only at hSw); go_simp; try with_reducible rfl)
  refine wpAnyL_one (i := 30) (by kernel_rfl) rfl (fun K hK => ?_)
  go_simp
  refine held_on hK ?_ (fun hHeld => ?_)
  · exact ⟨cell_on (hbA _) d1, cell_on (hbA _) x2, cell_on (hbA _) e0, cell_on (hbA _) e1, cell_on (hbA _) co⟩
  clear hK K
  refine wpAnyL_one (i := 31) (by kernel_rfl) rfl (fun K hK => ?_)
  refine step_append_lies _ (by rfl) _ _ _ (by rfl) (q - 2) 48 i0 _ 5 40 slice_outT hi0 hz0 hz1 hz2 rfl (by omega) (.slice oa outs.length oc) outs.length (outsCells outs) (by rfl) (hown0 _) ⟨W.heap.size, 0, none⟩ 1 1 [.int .i64 ev.time, .int .i64 ev.to, .int .i64 s.c, .int .i64 outs.length, .int .i64 (getR s a)] (by rfl) (by rfl) (World.news_of_block (cs := #[.int .i64 ev.time, .int .i64 ev.to, .int .i64 s.c, .int .i64 outs.length, .int .i64 (getR s a)]) (t := 48) (fr := (0, 0)) (heap_alloc_new W _)) (by simp [Value.oneCell']) (by omega) (by unfold maxLen; omega) (by omega) (by simp; omega) (W.heap.size + 1) (by simp) ?_
  intro gg cap w1 hown1 hgrow hat hlt
  have kq : ∀ {i : Nat} {v : Value}, W.cell? ⟨q, i, none⟩ = some v → w1.cell? ⟨q, i, none⟩ = some v := fun {i v} h => hgrow.cell (cell_on (hbA _) h) (fun e => (hrl q e.symm).1 rfl)
  have kd1 : w1.cell? ⟨w.heap.size, 1, none⟩ = some (.int .i64 a) := hgrow.cell (cell_on (hbA _) d1) (fun e => absurd (hrl _ e.symm).2 (Nat.lt_irrefl _))
  have kx2 := kq x2
  have ke0 := kq e0
  have ke1 := kq e1
  have kco := kq co
  have kf : w1.frozen? ⟨q, 11, none⟩ = false := by
    rw [hgrow.frozen_far ⟨q, 11, none⟩ (show q < _ by simp; omega) (fun e => (hrl q e.symm).1 rfl), (hbA _).frozen (p := ⟨q, 11, none⟩) (show q < W.heap.size by omega)]
    exact (unhide HR).fz 11
  have HFIN := hide (run_out (x := ⟨ev.time, ev.to, s.c, outs.length, getR s a⟩) (unhide HR) hgrow hown1 hat)
  clear hown1 hat
  refine held_on hK ?_ (fun hHeld => ?_)
  · exact ⟨kd1, kx2, ke0, ke1, kco⟩
  clear hK K
  refine wpAnyL_one (i := 32) (by kernel_rfl) rfl (fun K hK => ?_)
  go_simp
  refine held_on hK ?_ (fun hHeld => ?_)
  · exact hHeld
  clear hK K
  refine wpAnyL_one (i := 33) (by kernel_rfl) rfl (fun K hK => ?_)
  go_simp
  refine held_on hK ?_ (fun hHeld => ?_)
  · exact hHeld
  clear hK K
  refine wpAnyL_end (by kernel_rfl) rfl (fun K hK => ?_)
  go_simp
  refine hK.out _ _ ?_
  clear hK K
  refine wpAnyL_done (by kernel_rfl) ?_ _
  go_wp2_with fail
  go_ret
  exact ⟨vs, _, rfl, (unhide HFIN).1, hbq.trans (unhide HFIN).2⟩

theorem sendCells_snoc (l : List EvV) (x : EvV) : evsCells (l ++ [x]) = evsCells l ++ evCells x := by simp [evsCells, List.flatMap_append]

theorem run_send {W w1 : World} {q : Nat} {s : StV} {ev : EvV} {vs vo : Value} {sends : List EvV} {outs : List OutV} {o : Obj} {gg cap : Nat} {x : EvV} (hR : RunMem W q s ev vs vo sends outs) (hgrow : ((W.alloc o).drew).grownBy w1 vs.ownBlock)
    (hown1 : w1.ownsRow (q - 2) 38 7 (.slice (some ⟨gg, 0, none⟩) (sends.length + 1) cap) (sends.length + 1) (evsCells sends ++ evCells x)) (hat : vs.ownBlock = some gg ∨ gg = W.heap.size + 1) :
    RunMem (w1.setCell ⟨q, 10, none⟩ (.slice (some ⟨gg, 0, none⟩) (sends.length + 1) cap)) q s ev (.slice (some ⟨gg, 0, none⟩) (sends.length + 1) cap) vo (sends ++ [x]) outs ∧ Below (q - 2) W (w1.setCell ⟨q, 10, none⟩ (.slice (some ⟨gg, 0, none⟩) (sends.length + 1) cap)) := by
  have hq : q < W.heap.size := World.block_lt_of_cell? W ⟨q, 0, none⟩ hR.x0
  have hlt := hR.os.lt
  have hlo := hR.oo.lt
  have hbA : Below W.heap.size W ((W.alloc o).drew) := ((Below.refl _ _).alloc (Nat.le_refl _) o).drew
  have hne : ∀ k, vs.ownBlock = some k → q - 2 ≤ k := fun k hk => (hlt k hk).1
  have hqr : ∀ i : Nat, some (⟨q, i, none⟩ : Addr).block ≠ vs.ownBlock := fun i e => hR.ns e.symm
  have k : ∀ {i : Nat} {v : Value}, W.cell? ⟨q, i, none⟩ = some v → w1.cell? ⟨q, i, none⟩ = some v := fun {i v} h => hgrow.cell (cell_on hbA h) (hqr i)
  have hfz : ∀ i, w1.frozen? ⟨q, i, none⟩ = false := fun i => by
    rw [hgrow.frozen_far ⟨q, i, none⟩ (show q < ((W.alloc o).drew).heap.size by have := hbA.size; omega) (hqr i), hbA.frozen (p := ⟨q, i, none⟩) hq]
    exact hR.fz i
  have hoth : w1.ownsRow (q - 2) 48 5 vo outs.length (outsCells outs) := (ownsRow_on hbA hR.oo).kept hgrow (by
    cases hv : vo.ownBlock with
    | none => exact Or.inl rfl
    | some b =>
      refine Or.inr (fun e => ?_)
      rcases hR.ne with h | h
      · rw [h] at e; cases e
      · exact h (e.symm.trans hv.symm))
  have hgq : (Value.slice (some ⟨gg, 0, none⟩) (sends.length + 1) cap).ownBlock ≠ some q := fun e => by
    have e' : gg = q := by simpa [Value.ownBlock] using e
    subst e'
    rcases hat with h | h
    · exact hR.ns h
    · omega
  refine ⟨⟨by simp [go_sem, k hR.x0], by simp [go_sem, k hR.x1], by simp [go_sem, k hR.x2], by simp [go_sem, k hR.e0], by simp [go_sem, k hR.e1], by simp [go_sem, k hR.e6], by simp [go_sem, k hR.cs], by simp [go_sem, k hR.co], fun i => by simpa [go_sem] using hfz i, ?_, ?_, ?_, hgq, hR.no⟩, ?_⟩
  · rw [List.length_append, sendCells_snoc]; exact ownsRow_setCell_other hown1 hgq _
  · exact ownsRow_setCell_other hoth hR.no _
  · refine Or.inr (fun e => ?_)
    have e' : vo.ownBlock = some gg := by simpa [Value.ownBlock] using e.symm
    rcases hat with h | h
    · rcases hR.ne with h2 | h2
      · rw [h2] at h; cases h
      · exact h2 (h.trans e'.symm)
    · have := (hlo gg e').2; omega
  · exact (Below.grown (((Below.refl _ _).alloc (by omega) o).drew) hgrow (by have := hbA.size; omega) hne).setCell (Nat.sub_le q 2) _

set_option maxRecDepth 100000 in
set_option maxHeartbeats 3200000 in
theorem specOp_late (a b c e : Int) (hc : 1 ≤ c) (hc2 : c ≤ 40) : ∀ (q : Nat) (s : StV) (ev : EvV) (vs vo : Value) (sends : List EvV) (outs : List OutV) (w : World), RunMem w q s ev vs vo sends outs → stIn s → 0 ≤ ev.arg → ev.arg ≤ 999 → 0 ≤ ev.time → ev.time ≤ 40 → sends.length ≤ 100 → outs.length ≤ 100 → 40 < ev.time + c →
  Calls Tryd.prog 59 #[.pointer (some ⟨q, 0, none⟩), opAgg ⟨6, a, b, c, e⟩] w fun r w' => r = .returned (.int .i64 0) ∧ RunMem w' q s ev vs vo sends outs ∧ Below (q - 2) w w' := by
  intro q s ev vs vo sends outs w hR hs ha0 ha1 ht0 ht1 hls hlo
  have hq : q < w.heap.size := World.block_lt_of_cell? w ⟨q, 0, none⟩ hR.x0
  have hbx : Below w.heap.size w (w.alloc (.cells #[.int .i64 6, .int .i64 a, .int .i64 b, .int .i64 c, .int .i64 e] 77)) := (Below.refl _ _).alloc (Nat.le_refl _) _
  have hbq : Below (q - 2) w (w.alloc (.cells #[.int .i64 6, .int .i64 a, .int .i64 b, .int .i64 c, .int .i64 e] 77)) := below_q hq _
  have d1 : (w.alloc (.cells #[.int .i64 6, .int .i64 a, .int .i64 b, .int .i64 c, .int .i64 e] 77)).cell? ⟨w.heap.size, 1, none⟩ = some (.int .i64 a) := by simp [go_sem]
  have d2 : (w.alloc (.cells #[.int .i64 6, .int .i64 a, .int .i64 b, .int .i64 c, .int .i64 e] 77)).cell? ⟨w.heap.size, 2, none⟩ = some (.int .i64 b) := by simp [go_sem]
  have d3 : (w.alloc (.cells #[.int .i64 6, .int .i64 a, .int .i64 b, .int .i64 c, .int .i64 e] 77)).cell? ⟨w.heap.size, 3, none⟩ = some (.int .i64 c) := by simp [go_sem]
  have d4 : (w.alloc (.cells #[.int .i64 6, .int .i64 a, .int .i64 b, .int .i64 c, .int .i64 e] 77)).cell? ⟨w.heap.size, 4, none⟩ = some (.int .i64 e) := by simp [go_sem]
  have hqs : ¬ q = w.heap.size := by omega
  have hqs2 : ¬ w.heap.size = q := by omega
  have HR := hide (hR.on hbx)
  have hrl : ∀ k, vs.ownBlock = some k → q ≠ k ∧ k < w.heap.size := fun k h => ⟨fun e => hR.ns (by rw [h, e]), (hR.os.lt k h).2⟩
  clear hR hbx
  intro hlate
  have hl2 : ¬ ev.time + c ≤ 40 := by omega
  go_enter Tryd.func59, Tryd.ntmps59
  go_wp2_with fail
  have hWz : (w.alloc (.cells #[.int .i64 6, .int .i64 a, .int .i64 b, .int .i64 c, .int .i64 e] 77)).heap.size = w.heap.size + 1 := by simp
  generalize w.alloc (.cells #[.int .i64 6, .int .i64 a, .int .i64 b, .int .i64 c, .int .i64 e] 77) = W at *
  have HWZ := hide hWz
  clear hWz
  have hWq : q + 1 ≤ W.heap.size := by have := unhide HWZ; omega
  have x2 := (unhide HR).x2
  have e0 := (unhide HR).e0
  have e1 := (unhide HR).e1
  have d3' : ∀ y : On W, y.y.cell? ⟨w.heap.size, 3, none⟩ = some (.int .i64 c) := fun y => cell_on y.h d3
  have e0' : ∀ y : On W, y.y.cell? ⟨q, 3, none⟩ = some (.int .i64 ev.time) := fun y => cell_on y.h e0
  have hne : Nonempty (On W) := ⟨⟨W, Below.refl _ _⟩⟩
  refine wp_region_on (by kernel_rfl) (by kernel_rfl) ?_
  repeat (first | go_big_quiet_step (fail) | quiet_step (fail))
  refine wpQuiet_nil ?_
  intro _ hw'
  obtain ⟨nq, hw''⟩ := hw'
  subst hw''
  go_wp2_with fail
  go_ret
  exact ⟨rfl, (unhide HR).on nq.h, hbq.trans (nq.h.mono (by omega))⟩

set_option maxRecDepth 100000 in
set_option maxHeartbeats 3200000 in
theorem specOp_sent (a b c e : Int) (he : e = 0 ∨ e = 1) (hc : 1 ≤ c) (hc2 : c ≤ 40) : ∀ (q : Nat) (s : StV) (ev : EvV) (vs vo : Value) (sends : List EvV) (outs : List OutV) (w : World), RunMem w q s ev vs vo sends outs → stIn s → 0 ≤ ev.arg → ev.arg ≤ 999 → 0 ≤ ev.time → ev.time ≤ 40 → sends.length ≤ 100 → outs.length ≤ 100 → ev.time + c ≤ 40 →
  Calls Tryd.prog 59 #[.pointer (some ⟨q, 0, none⟩), opAgg ⟨6, a, b, c, e⟩] w fun r w' => ∃ vs', r = .returned (.int .i64 0) ∧ RunMem w' q s ev vs' vo (sends ++ [⟨ev.time + c, a, ev.to, s.c, sends.length, b, getR s e⟩]) outs ∧ Below (q - 2) w w' := by
  intro q s ev vs vo sends outs w hR hs ha0 ha1 ht0 ht1 hls hlo
  have hq : q < w.heap.size := World.block_lt_of_cell? w ⟨q, 0, none⟩ hR.x0
  have hbx : Below w.heap.size w (w.alloc (.cells #[.int .i64 6, .int .i64 a, .int .i64 b, .int .i64 c, .int .i64 e] 77)) := (Below.refl _ _).alloc (Nat.le_refl _) _
  have hbq : Below (q - 2) w (w.alloc (.cells #[.int .i64 6, .int .i64 a, .int .i64 b, .int .i64 c, .int .i64 e] 77)) := below_q hq _
  have d1 : (w.alloc (.cells #[.int .i64 6, .int .i64 a, .int .i64 b, .int .i64 c, .int .i64 e] 77)).cell? ⟨w.heap.size, 1, none⟩ = some (.int .i64 a) := by simp [go_sem]
  have d2 : (w.alloc (.cells #[.int .i64 6, .int .i64 a, .int .i64 b, .int .i64 c, .int .i64 e] 77)).cell? ⟨w.heap.size, 2, none⟩ = some (.int .i64 b) := by simp [go_sem]
  have d3 : (w.alloc (.cells #[.int .i64 6, .int .i64 a, .int .i64 b, .int .i64 c, .int .i64 e] 77)).cell? ⟨w.heap.size, 3, none⟩ = some (.int .i64 c) := by simp [go_sem]
  have d4 : (w.alloc (.cells #[.int .i64 6, .int .i64 a, .int .i64 b, .int .i64 c, .int .i64 e] 77)).cell? ⟨w.heap.size, 4, none⟩ = some (.int .i64 e) := by simp [go_sem]
  have hqs : ¬ q = w.heap.size := by omega
  have hqs2 : ¬ w.heap.size = q := by omega
  have HR := hide (hR.on hbx)
  have hrl : ∀ k, vs.ownBlock = some k → q ≠ k ∧ k < w.heap.size := fun k h => ⟨fun e => hR.ns (by rw [h, e]), (hR.os.lt k h).2⟩
  clear hR hbx
  intro hintime
  obtain ⟨oa, oc, rfl⟩ : ∃ oa oc, vs = .slice oa sends.length oc := by
    obtain ⟨_, ⟨h, hn⟩ | ⟨g, cap, _, h, _⟩⟩ := (unhide HR).os
    · exact ⟨none, 0, by rw [h, hn]⟩
    · exact ⟨_, _, h⟩
  obtain ⟨i0, hi0, hz0, hz1, hz2⟩ := info_parts info_event
  have hwr : IntKind.i64.wrap (ev.time + c) = ev.time + c := by rw [IntKind.wrap_i64]; omega
  go_enter Tryd.func59, Tryd.ntmps59
  go_wp2_with fail
  have hWz : (w.alloc (.cells #[.int .i64 6, .int .i64 a, .int .i64 b, .int .i64 c, .int .i64 e] 77)).heap.size = w.heap.size + 1 := by simp
  generalize w.alloc (.cells #[.int .i64 6, .int .i64 a, .int .i64 b, .int .i64 c, .int .i64 e] 77) = W at *
  have HWZ := hide hWz
  clear hWz
  have hWq : q + 1 ≤ W.heap.size := by have := unhide HWZ; omega
  have x2 := (unhide HR).x2
  have e0 := (unhide HR).e0
  have e1 := (unhide HR).e1
  have d3' : ∀ y : On W, y.y.cell? ⟨w.heap.size, 3, none⟩ = some (.int .i64 c) := fun y => cell_on y.h d3
  have e0' : ∀ y : On W, y.y.cell? ⟨q, 3, none⟩ = some (.int .i64 ev.time) := fun y => cell_on y.h e0
  have hne : Nonempty (On W) := ⟨⟨W, Below.refl _ _⟩⟩
  refine wp_region_on (by kernel_rfl) (by kernel_rfl) ?_
  repeat (first | go_big_quiet_step (fail) | quiet_step (fail))
  refine wpQuiet_nil ?_
  intro _ hw'
  obtain ⟨nq, hw''⟩ := hw'
  subst hw''
  have hWn : Below W.heap.size W nq.y := nq.h
  have hbq2 : Below (q - 2) w nq.y := hbq.trans (nq.h.mono (by omega))
  have d1n := cell_on nq.h d1
  have d2n := cell_on nq.h d2
  have d3n := cell_on nq.h d3
  have d4n := cell_on nq.h d4
  have HRn := hide ((unhide HR).on nq.h)
  have hzn : q + 1 ≤ nq.y.heap.size := by have := nq.h.size; omega
  clear HR d1 d2 d3 d4 d3' e0' x2 e0 e1 hne hbq hWq HWZ
  go_wp2_with fail
  obtain ⟨W2, hn⟩ := nq
  simp only at *
  clear hn hWn
  clear W
  obtain ⟨W, rfl⟩ : ∃ W : World, W = W2 := ⟨_, rfl⟩
  have HR := HRn
  have d1 := d1n
  have d2 := d2n
  have d3 := d3n
  have d4 := d4n
  have hWq := hzn
  have hbq := hbq2
  clear HRn d1n d2n d3n d4n hzn hbq2
  have x2 := (unhide HR).x2
  have e0 := (unhide HR).e0
  have e1 := (unhide HR).e1
  have co := (unhide HR).cs
  have hbA : ∀ o, Below W.heap.size W ((W.alloc o).drew) := fun o => ((Below.refl _ _).alloc (Nat.le_refl _) o).drew
  have hown0 : ∀ o, ((W.alloc o).drew).ownsRow (q - 2) 38 7 (.slice oa sends.length oc) sends.length (evsCells sends) := fun o => ((unhide HR).os.alloc o)
  refine wp_region_last (L := 41) (S := fun w' : World => w'.cell? ⟨w.heap.size, 1, none⟩ = some (.int .i64 a) ∧ w'.cell? ⟨w.heap.size, 2, none⟩ = some (.int .i64 b) ∧ w'.cell? ⟨w.heap.size, 3, none⟩ = some (.int .i64 c) ∧ w'.cell? ⟨w.heap.size, 4, none⟩ = some (.int .i64 e) ∧ w'.cell? ⟨q, 2, none⟩ = some (.int .i64 s.c) ∧ w'.cell? ⟨q, 3, none⟩ = some (.int .i64 ev.time) ∧ w'.cell? ⟨q, 4, none⟩ = some (.int .i64 ev.to) ∧ w'.cell? ⟨q, 10, none⟩ = some (.slice oa sends.length oc)) (by kernel_rfl) ?_
  have hHeld : (fun w' : World => w'.cell? ⟨w.heap.size, 1, none⟩ = some (.int .i64 a) ∧ w'.cell? ⟨w.heap.size, 2, none⟩ = some (.int .i64 b) ∧ w'.cell? ⟨w.heap.size, 3, none⟩ = some (.int .i64 c) ∧ w'.cell? ⟨w.heap.size, 4, none⟩ = some (.int .i64 e) ∧ w'.cell? ⟨q, 2, none⟩ = some (.int .i64 s.c) ∧ w'.cell? ⟨q, 3, none⟩ = some (.int .i64 ev.time) ∧ w'.cell? ⟨q, 4, none⟩ = some (.int .i64 ev.to) ∧ w'.cell? ⟨q, 10, none⟩ = some (.slice oa sends.length oc)) (World.drew _) := ⟨d1, d2, d3, d4, x2, e0, e1, co⟩
  refine wpAnyL_take (i := 0) (v := ?_) (by kernel_rfl) rfl (by kernel_rfl) (by kernel_rfl) (by kernel_rfl) (fun _ _ _ h => h) hHeld (Or.inl ⟨by kernel_rfl, ?_⟩) ?_
  rotate_left
  · (intro w hSw; (try dsimp only at hSw); go_simp; try with_reducible rfl)
  refine wpAnyL_take (i := 1) (v := ?_) (by kernel_rfl) rfl (by kernel_rfl) (by kernel_rfl) (by kernel_rfl) (fun _ _ _ h => h) hHeld (Or.inl ⟨by kernel_rfl, ?_⟩) ?_
  rotate_left
  · (intro w hSw; (try dsimp only at hSw); go_simp; try with_reducible rfl)
  refine wpAnyL_take (i := 2) (v := ?_) (by kernel_rfl) rfl (by kernel_rfl) (by kernel_rfl) (by kernel_rfl) (fun _ _ _ h => h) hHeld (Or.inl ⟨by kernel_rfl, ?_⟩) ?_
  rotate_left
  · (intro w hSw; (try dsimp only at hSw); go_simp; try with_reducible rfl)
  refine wpAnyL_take (i := 3) (v := ?_) (by kernel_rfl) rfl (by kernel_rfl) (by kernel_rfl) (by kernel_rfl) (fun _ _ _ h => h) hHeld (Or.inl ⟨by kernel_rfl, ?_⟩) ?_
  rotate_left
  · (intro w hSw; (try dsimp only at hSw); go_simp; try with_reducible rfl)
  refine wpAnyL_take (i := 4) (v := ?_) (by kernel_rfl) rfl (by kernel_rfl) (by kernel_rfl) (by kernel_rfl) (fun _ _ _ h => h) hHeld (Or.inl ⟨by kernel_rfl, ?_⟩) ?_
  rotate_left
  · (intro w hSw; (try dsimp only at hSw); go_simp; try with_reducible rfl)
  refine wpAnyL_take (i := 5) (v := ?_) (by kernel_rfl) rfl (by kernel_rfl) (by kernel_rfl) (by kernel_rfl) (fun _ _ _ h => h) hHeld (Or.inl ⟨by kernel_rfl, ?_⟩) ?_
  rotate_left
  · (intro w hSw; (try dsimp only at hSw); go_simp; try with_reducible rfl)
  refine wpAnyL_take (i := 6) (v := ?_) (by kernel_rfl) rfl (by kernel_rfl) (by kernel_rfl) (by kernel_rfl) (fun _ _ _ h => h) hHeld (Or.inl ⟨by kernel_rfl, ?_⟩) ?_
  rotate_left
  · (intro w hSw; (try dsimp only at hSw); go_simp; try with_reducible rfl)
  refine wpAnyL_take (i := 7) (v := ?_) (by kernel_rfl) rfl (by kernel_rfl) (by kernel_rfl) (by kernel_rfl) (fun _ _ _ h => h) hHeld (Or.inl ⟨by kernel_rfl, ?_⟩) ?_
  rotate_left
  · (intro w hSw; (try dsimp only at hSw); go_simp; try with_reducible rfl)
  refine wpAnyL_take (i := 8) (v := ?_) (by kernel_rfl) rfl (by kernel_rfl) (by kernel_rfl) (by kernel_rfl) (fun _ _ _ h => h) hHeld (Or.inl ⟨by kernel_rfl, ?_⟩) ?_
  rotate_left
  · (intro w hSw; (try dsimp only at hSw); go_simp; try with_reducible rfl)
  refine wpAnyL_take (i := 9) (v := ?_) (by kernel_rfl) rfl (by kernel_rfl) (by kernel_rfl) (by kernel_rfl) (fun _ _ _ h => h) hHeld (Or.inl ⟨by kernel_rfl, ?_⟩) ?_
  rotate_left
  · (intro w hSw; (try dsimp only at hSw); go_simp; try with_reducible rfl)
  refine wpAnyL_take (i := 10) (v := ?_) (by kernel_rfl) rfl (by kernel_rfl) (by kernel_rfl) (by kernel_rfl) (fun _ _ _ h => h) hHeld (Or.inl ⟨by kernel_rfl, ?_⟩) ?_
  rotate_left
  · (intro w hSw; (try dsimp only at hSw); go_simp; try with_reducible rfl)
  refine wpAnyL_take (i := 11) (v := ?_) (by kernel_rfl) rfl (by kernel_rfl) (by kernel_rfl) (by kernel_rfl) (fun _ _ _ h => h) hHeld (Or.inl ⟨by kernel_rfl, ?_⟩) ?_
  rotate_left
  · (intro w hSw; (try dsimp only at hSw); go_simp; try with_reducible rfl)
  refine wpAnyL_take (i := 12) (v := ?_) (by kernel_rfl) rfl (by kernel_rfl) (by kernel_rfl) (by kernel_rfl) (fun _ _ _ h => h) hHeld (Or.inl ⟨by kernel_rfl, ?_⟩) ?_
  rotate_left
  · (intro w hSw; (try dsimp only at hSw); go_simp; try with_reducible rfl)
  refine wpAnyL_take (i := 13) (v := ?_) (by kernel_rfl) rfl (by kernel_rfl) (by kernel_rfl) (by kernel_rfl) (fun _ _ _ h => h) hHeld (Or.inl ⟨by kernel_rfl, ?_⟩) ?_
  rotate_left
  · (intro w hSw; (try dsimp only at hSw); go_simp; try with_reducible rfl)
  refine wpAnyL_take (i := 14) (v := ?_) (by kernel_rfl) rfl (by kernel_rfl) (by kernel_rfl) (by kernel_rfl) (fun _ _ _ h => h) hHeld (Or.inl ⟨by kernel_rfl, ?_⟩) ?_
  rotate_left
  · (intro w hSw; (try dsimp only at hSw); go_simp; try with_reducible rfl)
  refine wpAnyL_take (i := 15) (v := ?_) (by kernel_rfl) rfl (by kernel_rfl) (by kernel_rfl) (by kernel_rfl) (fun _ _ _ h => h) hHeld (Or.inl ⟨by kernel_rfl, ?_⟩) ?_
  rotate_left
  · (intro w hSw; (try dsimp only at hSw); go_simp; try with_reducible rfl)
  refine wpAnyL_take (i := 16) (v := ?_) (by kernel_rfl) rfl (by kernel_rfl) (by kernel_rfl) (by kernel_rfl) (fun _ _ _ h => h) hHeld (Or.inl ⟨by kernel_rfl, ?_⟩) ?_
  rotate_left
  · (intro w hSw; (try dsimp only at hSw); go_simp; try with_reducible rfl)
  refine wpAnyL_take (i := 17) (v := ?_) (by kernel_rfl) rfl (by kernel_rfl) (by kernel_rfl) (by kernel_rfl) (fun _ _ _ h => h) hHeld (Or.inl ⟨by kernel_rfl, ?_⟩) ?_
  rotate_left
  · (intro w hSw; (try dsimp only at hSw); go_simp; try with_reducible rfl)
  refine wpAnyL_take (i := 18) (v := ?_) (by kernel_rfl) rfl (by kernel_rfl) (by kernel_rfl) (by kernel_rfl) (fun _ _ _ h => h) hHeld (Or.inl ⟨by kernel_rfl, ?_⟩) ?_
  rotate_left
  · (intro w hSw; (try dsimp only at hSw); go_simp; try with_reducible rfl)
  refine wpAnyL_take (i := 19) (v := ?_) (by kernel_rfl) rfl (by kernel_rfl) (by kernel_rfl) (by kernel_rfl) (fun _ _ _ h => h) hHeld (Or.inl ⟨by kernel_rfl, ?_⟩) ?_
  rotate_left
  · (intro w hSw; (try dsimp only at hSw); go_simp; try with_reducible rfl)
  refine wpAnyL_take (i := 20) (v := ?_) (by kernel_rfl) rfl (by kernel_rfl) (by kernel_rfl) (by kernel_rfl) (fun _ _ _ h => h) hHeld (Or.inl ⟨by kernel_rfl, ?_⟩) ?_
  rotate_left
  · (intro w hSw; (try dsimp only at hSw); go_simp; try with_reducible rfl)
  refine wpAnyL_take (i := 21) (v := ?_) (by kernel_rfl) rfl (by kernel_rfl) (by kernel_rfl) (by kernel_rfl) (fun _ _ _ h => h) hHeld (Or.inl ⟨by kernel_rfl, ?_⟩) ?_
  rotate_left
  · (intro w hSw; (try dsimp only at hSw); go_simp; try with_reducible rfl)
  refine wpAnyL_take (i := 22) (v := ?_) (by kernel_rfl) rfl (by kernel_rfl) (by kernel_rfl) (by kernel_rfl) (fun _ _ _ h => h) hHeld (Or.inl ⟨by kernel_rfl, ?_⟩) ?_
  rotate_left
  · (intro w hSw; (try dsimp only at hSw); go_simp; try with_reducible rfl)
  refine wpAnyL_take (i := 23) (v := ?_) (by kernel_rfl) rfl (by kernel_rfl) (by kernel_rfl) (by kernel_rfl) (fun _ _ _ h => h) hHeld (Or.inl ⟨by kernel_rfl, ?_⟩) ?_
  rotate_left
  · (intro w hSw; (try dsimp only at hSw); go_simp; try with_reducible rfl)
  refine wpAnyL_take (i := 24) (v := ?_) (by kernel_rfl) rfl (by kernel_rfl) (by kernel_rfl) (by kernel_rfl) (fun _ _ _ h => h) hHeld (Or.inl ⟨by kernel_rfl, ?_⟩) ?_
  rotate_left
  · (intro w hSw; (try dsimp only at hSw); go_simp; try with_reducible rfl)
  refine wpAnyL_take (i := 25) (v := ?_) (by kernel_rfl) rfl (by kernel_rfl) (by kernel_rfl) (by kernel_rfl) (fun _ _ _ h => h) hHeld (Or.inl ⟨by kernel_rfl, ?_⟩) ?_
  rotate_left
  · (intro w hSw; (try dsimp only at hSw); go_simp; try with_reducible rfl)
  refine wpAnyL_take (i := 26) (v := ?_) (by kernel_rfl) rfl (by kernel_rfl) (by kernel_rfl) (by kernel_rfl) (fun _ _ _ h => h) hHeld (Or.inl ⟨by kernel_rfl, ?_⟩) ?_
  rotate_left
  · (intro w hSw; (try dsimp only at hSw); go_simp; try with_reducible rfl)
  refine wpAnyL_take (i := 27) (v := ?_) (by kernel_rfl) rfl (by kernel_rfl) (by kernel_rfl) (by kernel_rfl) (fun _ _ _ h => h) hHeld (Or.inl ⟨by kernel_rfl, ?_⟩) ?_
  rotate_left
  · (intro w hSw; (try dsimp only at hSw); go_simp; try with_reducible rfl)
  refine wpAnyL_take (i := 28) (v := ?_) (by kernel_rfl) rfl (by kernel_rfl) (by kernel_rfl) (by kernel_rfl) (fun _ _ _ h => h) hHeld (Or.inl ⟨by kernel_rfl, ?_⟩) ?_
  rotate_left
  · (intro w hSw; (try dsimp only at hSw); go_simp; try with_reducible rfl)
  refine wpAnyL_take (i := 29) (v := ?_) (by kernel_rfl) rfl (by kernel_rfl) (by kernel_rfl) (by kernel_rfl) (fun _ _ _ h => h) hHeld (Or.inl ⟨by kernel_rfl, ?_⟩) ?_
  rotate_left
  · (intro w hSw; (try dsimp only at hSw); go_simp; try with_reducible rfl)
  refine wpAnyL_take (i := 30) (v := ?_) (by kernel_rfl) rfl (by kernel_rfl) (by kernel_rfl) (by kernel_rfl) (fun _ _ _ h => h) hHeld (Or.inl ⟨by kernel_rfl, ?_⟩) ?_
  rotate_left
  · (intro w hSw; (try dsimp only at hSw); go_simp; try with_reducible rfl)
  refine wpAnyL_take (i := 31) (v := ?_) (by kernel_rfl) rfl (by kernel_rfl) (by kernel_rfl) (by kernel_rfl) (fun _ _ _ h => h) hHeld (Or.inl ⟨by kernel_rfl, ?_⟩) ?_
  rotate_left
  · (intro w hSw; (try dsimp only at hSw); go_simp; try with_reducible rfl)
  refine wpAnyL_take (i := 32) (v := ?_) (by kernel_rfl) rfl (by kernel_rfl) (by kernel_rfl) (by kernel_rfl) (fun _ _ _ h => h) hHeld (Or.inl ⟨by kernel_rfl, ?_⟩) ?_
  rotate_left
  · (intro w hSw; (try dsimp only at hSw); go_simp; try with_reducible rfl)
  refine wpAnyL_take (i := 33) (v := ?_) (by kernel_rfl) rfl (by kernel_rfl) (by kernel_rfl) (by kernel_rfl) (fun _ _ _ h => h) hHeld (Or.inl ⟨by kernel_rfl, ?_⟩) ?_
  rotate_left
  · (intro w hSw; (try dsimp only at hSw); go_simp; try with_reducible rfl)
  refine wpAnyL_take (i := 34) (v := ?_) (by kernel_rfl) rfl (by kernel_rfl) (by kernel_rfl) (by kernel_rfl) (fun _ _ _ h => h) hHeld (Or.inl ⟨by kernel_rfl, ?_⟩) ?_
  rotate_left
  · (intro w hSw; (try dsimp only at hSw); go_simp; try with_reducible rfl)
  refine wpAnyL_one (i := 35) (by kernel_rfl) rfl (fun K hK => ?_)
  go_simp
  refine (get_any q s e he _ ?_ ?_).mono ?_
  · exact (unhide HR).x0
  · exact (unhide HR).x1
  rintro e w' ⟨rfl, rfl⟩
  go_wp2_with fail
  refine held_on hK ?_ (fun hHeld => ?_)
  · exact hHeld
  clear hK K
  refine wpAnyL_take (i := 36) (v := ?_) (by kernel_rfl) rfl (by kernel_rfl) (by kernel_rfl) (by kernel_rfl) (fun _ _ _ h => h) hHeld (Or.inl ⟨by kernel_rfl, ?_⟩) ?_
  rotate_left
  · (intro w hSw; (try dsimp only at hSw); go_simp; try with_reducible rfl)
  refine wpAnyL_one (i := 37) (by kernel_rfl) rfl (fun K hK => ?_)
  go_simp
  refine held_on hK ?_ (fun hHeld => ?_)
  · exact ⟨cell_on (hbA _) d1, cell_on (hbA _) d2, cell_on (hbA _) d3, cell_on (hbA _) d4, cell_on (hbA _) x2, cell_on (hbA _) e0, cell_on (hbA _) e1, cell_on (hbA _) co⟩
  clear hK K
  refine wpAnyL_one (i := 38) (by kernel_rfl) rfl (fun K hK => ?_)
  refine step_append_lies _ (by rfl) _ _ _ (by rfl) (q - 2) 38 i0 _ 7 56 slice_eventT hi0 hz0 hz1 hz2 rfl (by omega) (.slice oa sends.length oc) sends.length (evsCells sends) (by rfl) (hown0 _) ⟨W.heap.size, 0, none⟩ 1 1 [.int .i64 (ev.time + c), .int .i64 a, .int .i64 ev.to, .int .i64 s.c, .int .i64 sends.length, .int .i64 b, .int .i64 (getR s e)] (by rfl) (by rfl) (World.news_of_block (cs := #[.int .i64 (ev.time + c), .int .i64 a, .int .i64 ev.to, .int .i64 s.c, .int .i64 sends.length, .int .i64 b, .int .i64 (getR s e)]) (t := 38) (fr := (0, 0)) (heap_alloc_new W _)) (by simp [Value.oneCell']) (by omega) (by unfold maxLen; omega) (by omega) (by simp; omega) (W.heap.size + 1) (by simp) ?_
  intro gg cap w1 hown1 hgrow hat hlt
  have kq : ∀ {i : Nat} {v : Value}, W.cell? ⟨q, i, none⟩ = some v → w1.cell? ⟨q, i, none⟩ = some v := fun {i v} h => hgrow.cell (cell_on (hbA _) h) (fun e => (hrl q e.symm).1 rfl)
  have kd : ∀ {i : Nat} {v : Value}, W.cell? ⟨w.heap.size, i, none⟩ = some v → w1.cell? ⟨w.heap.size, i, none⟩ = some v := fun {i v} h => hgrow.cell (cell_on (hbA _) h) (fun e => absurd (hrl _ e.symm).2 (Nat.lt_irrefl _))
  have kf : w1.frozen? ⟨q, 10, none⟩ = false := by
    rw [hgrow.frozen_far ⟨q, 10, none⟩ (show q < _ by simp; omega) (fun e => (hrl q e.symm).1 rfl), (hbA _).frozen (p := ⟨q, 10, none⟩) (show q < W.heap.size by omega)]
    exact (unhide HR).fz 10
  have kco := kq co
  have HFIN := hide (run_send (x := ⟨ev.time + c, a, ev.to, s.c, sends.length, b, getR s e⟩) (unhide HR) hgrow hown1 hat)
  clear hown1 hat
  refine held_on hK ?_ (fun hHeld => ?_)
  · exact ⟨kd d1, kd d2, kd d3, kd d4, kq x2, kq e0, kq e1, kq co⟩
  clear hK K
  refine wpAnyL_one (i := 39) (by kernel_rfl) rfl (fun K hK => ?_)
  go_simp
  refine held_on hK ?_ (fun hHeld => ?_)
  · exact hHeld
  clear hK K
  refine wpAnyL_one (i := 40) (by kernel_rfl) rfl (fun K hK => ?_)
  go_simp
  refine held_on hK ?_ (fun hHeld => ?_)
  · exact hHeld
  clear hK K
  refine wpAnyL_end (by kernel_rfl) rfl (fun K hK => ?_)
  go_simp
  refine hK.out _ _ ?_
  clear hK K
  refine wpAnyL_done (by kernel_rfl) ?_ _
  go_wp2_with fail
  go_ret
  exact ⟨_, rfl, (unhide HFIN).1, hbq.trans (unhide HFIN).2⟩

end Go.Proofs.YtjbgiepaehefpaaDoor
