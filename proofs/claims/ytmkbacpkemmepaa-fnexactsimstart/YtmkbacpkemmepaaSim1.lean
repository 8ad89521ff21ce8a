/- A machine in the making: SimStart's struct in memory. -/
import Derived.Test.YtmkbacpkemmepaaSimH
import Derived.Test.YtmkbacpkemmepaaEv
import Derived.Test.YtmkbacpkemmepaaHeld
import Derived.Deep.AppendLies
import Derived.OneCell
import Derived.StillTactics
import Derived.OwnWalk
namespace Go.Proofs.Ytmkbacpkemmepaa
open Go.RowKit
set_option linter.unusedVariables false

theorem ownsRow_on {w w' : World} {base : Nat} {e : TypeId} {size : Nat} {v : Value} {n : Nat} {xs : List Value} (hb : Below w.heap.size w w') (h : w.ownsRow base e size v n xs) : w'.ownsRow base e size v n xs := by
  obtain ⟨hl, h | ⟨g, cap, cur, h1, h2, h3, h4⟩⟩ := h
  · exact ⟨hl, Or.inl h⟩
  · refine ⟨hl, Or.inr ⟨g, cap, cur, h1, h2, ?_, h4⟩⟩
    rw [hb.block g (Array.getElem?_eq_some_iff.1 h3).1]
    exact h3

theorem evs_snoc (l : List EvV) (x : EvV) : evsCells (l ++ [x]) = evsCells l ++ evCells x := by simp [evsCells, List.flatMap_append]
theorem sts_snoc (l : List StV) (x : StV) : stsCells (l ++ [x]) = stsCells l ++ stCells x := by simp [stsCells, List.flatMap_append]

structure SimMem (B q : Nat) (w : World) (vs vq : Value) (ss : List StV) (qs : List EvV) : Prop where
  c0 : w.cell? ⟨q, 0, none⟩ = some vs
  c1 : w.cell? ⟨q, 1, none⟩ = some vq
  c2 : w.cell? ⟨q, 2, none⟩ = some (.slice none 0 0)
  fz : ∀ i, w.frozen? ⟨q, i, none⟩ = false
  os : w.ownsRow B 77 3 vs ss.length (stsCells ss)
  oq : w.ownsRow B 24 7 vq qs.length (evsCells qs)
  ne : vs.ownBlock = none ∨ vs.ownBlock ≠ vq.ownBlock
  ns : vs.ownBlock ≠ some q
  nq : vq.ownBlock ≠ some q
  hB : B ≤ q

theorem SimMem.on {B q : Nat} {w w' : World} {vs vq : Value} {ss : List StV} {qs : List EvV} (hb : Below w.heap.size w w') (h : SimMem B q w vs vq ss qs) : SimMem B q w' vs vq ss qs :=
  ⟨cell_on hb h.c0, cell_on hb h.c1, cell_on hb h.c2, fun i => by rw [hb.frozen (p := ⟨q, i, none⟩) (show q < w.heap.size from World.block_lt_of_cell? w ⟨q, 0, none⟩ h.c0)]; exact h.fz i, ownsRow_on hb h.os, ownsRow_on hb h.oq, h.ne, h.ns, h.nq, h.hB⟩

theorem infoT_State : (Try.prog.info? 77).map (fun i => (i.zero, i.size, i.bytes)) = some (some (.agg #[.int .i64 0, .int .i64 0, .int .i64 0]), 3, 24) := by kernel_rfl
theorem infoT_Event : (Try.prog.info? 24).map (fun i => (i.zero, i.size, i.bytes)) = some (some (.agg #[.int .i64 0, .int .i64 0, .int .i64 0, .int .i64 0, .int .i64 0, .int .i64 0, .int .i64 0]), 7, 56) := by kernel_rfl
theorem slice_StateT : Try.prog.underlying 42 = some (.slice 77) := by kernel_rfl
theorem slice_EventT : Try.prog.underlying 29 = some (.slice 24) := by kernel_rfl
theorem info_parts {P : Program} {t : TypeId} {z : Value} {size bytes : Nat} (h : (P.info? t).map (fun i => (i.zero, i.size, i.bytes)) = some (some z, size, bytes)) : ∃ i, P.info? t = some i ∧ i.zero = some z ∧ i.size = size ∧ i.bytes = bytes := by
  obtain ⟨i, hi, hzz⟩ := Option.map_eq_some_iff.1 h
  simp only [Prod.mk.injEq] at hzz
  exact ⟨i, hi, hzz.1, hzz.2.1, hzz.2.2⟩

theorem sim_queue {B q : Nat} {W A w1 : World} {vs vq : Value} {ss : List StV} {qs : List EvV} {gg cap : Nat} {x : EvV} (hR : SimMem B q W vs vq ss qs) (hbA : Below W.heap.size W A) (hgrow : A.grownBy w1 vq.ownBlock)
    (hown1 : w1.ownsRow B 24 7 (.slice (some ⟨gg, 0, none⟩) (qs.length + 1) cap) (qs.length + 1) (evsCells qs ++ evCells x)) (hat : vq.ownBlock = some gg ∨ gg = A.heap.size) :
    SimMem B q (w1.setCell ⟨q, 1, none⟩ (.slice (some ⟨gg, 0, none⟩) (qs.length + 1) cap)) vs (.slice (some ⟨gg, 0, none⟩) (qs.length + 1) cap) ss (qs ++ [x]) ∧ Below B W (w1.setCell ⟨q, 1, none⟩ (.slice (some ⟨gg, 0, none⟩) (qs.length + 1) cap)) := by
  have hq : q < W.heap.size := World.block_lt_of_cell? W ⟨q, 0, none⟩ hR.c0
  have hB := hR.hB
  have hs := hbA.size
  have hlt := hR.oq.lt
  have hlo := hR.os.lt
  have hne : ∀ k, vq.ownBlock = some k → B ≤ k := fun k hk => (hlt k hk).1
  have hqr : ∀ i : Nat, some (⟨q, i, none⟩ : Addr).block ≠ vq.ownBlock := fun i e => hR.nq e.symm
  have k : ∀ {i : Nat} {v : Value}, W.cell? ⟨q, i, none⟩ = some v → w1.cell? ⟨q, i, none⟩ = some v := fun {i v} h => hgrow.cell (cell_on hbA h) (hqr i)
  have hfz : ∀ i, w1.frozen? ⟨q, i, none⟩ = false := fun i => by
    rw [hgrow.frozen_far ⟨q, i, none⟩ (show q < A.heap.size by omega) (hqr i), hbA.frozen (p := ⟨q, i, none⟩) hq]
    exact hR.fz i
  have hoth : w1.ownsRow B 77 3 vs ss.length (stsCells ss) := (ownsRow_on hbA hR.os).kept hgrow (by
    cases hv : vs.ownBlock with
    | none => exact Or.inl rfl
    | some b =>
      refine Or.inr (fun e => ?_)
      rcases (ne_turn hR.ne) with h | h
      · rw [h] at e; cases e
      · exact h (e.symm.trans hv.symm))
  have hgq : (Value.slice (some ⟨gg, 0, none⟩) (qs.length + 1) cap).ownBlock ≠ some q := fun e => by
    have e' : gg = q := by simpa [Value.ownBlock] using e
    subst e'
    rcases hat with h | h
    · exact hR.nq h
    · omega
  have hgo : (Value.slice (some ⟨gg, 0, none⟩) (qs.length + 1) cap).ownBlock ≠ vs.ownBlock := fun e => by
    have e' : vs.ownBlock = some gg := by simpa [Value.ownBlock] using e.symm
    rcases hat with h | h
    · rcases (ne_turn hR.ne) with h2 | h2
      · rw [h2] at h; cases h
      · exact h2 (h.trans e'.symm)
    · have := (hlo gg e').2; omega
  refine ⟨⟨by simp [go_sem, k hR.c0], by simp [go_sem, k hR.c1], by simp [go_sem, k hR.c2], fun i => by simpa [go_sem] using hfz i, ?_, ?_, ne_turn (Or.inr hgo), hR.ns, hgq, hB⟩, ?_⟩
  · exact ownsRow_setCell_other hoth hR.ns _
  · rw [List.length_append, evs_snoc]; exact ownsRow_setCell_other hown1 hgq _
  · exact (Below.grown (hbA.mono (by omega)) hgrow (by omega) hne).setCell (show B ≤ q from hB) _

theorem sim_states {B q : Nat} {W A w1 : World} {vs vq : Value} {ss : List StV} {qs : List EvV} {gg cap : Nat} {x : StV} (hR : SimMem B q W vs vq ss qs) (hbA : Below W.heap.size W A) (hgrow : A.grownBy w1 vs.ownBlock)
    (hown1 : w1.ownsRow B 77 3 (.slice (some ⟨gg, 0, none⟩) (ss.length + 1) cap) (ss.length + 1) (stsCells ss ++ stCells x)) (hat : vs.ownBlock = some gg ∨ gg = A.heap.size) :
    SimMem B q (w1.setCell ⟨q, 0, none⟩ (.slice (some ⟨gg, 0, none⟩) (ss.length + 1) cap)) (.slice (some ⟨gg, 0, none⟩) (ss.length + 1) cap) vq (ss ++ [x]) qs ∧ Below B W (w1.setCell ⟨q, 0, none⟩ (.slice (some ⟨gg, 0, none⟩) (ss.length + 1) cap)) := by
  have hq : q < W.heap.size := World.block_lt_of_cell? W ⟨q, 0, none⟩ hR.c0
  have hB := hR.hB
  have hs := hbA.size
  have hlt := hR.os.lt
  have hlo := hR.oq.lt
  have hne : ∀ k, vs.ownBlock = some k → B ≤ k := fun k hk => (hlt k hk).1
  have hqr : ∀ i : Nat, some (⟨q, i, none⟩ : Addr).block ≠ vs.ownBlock := fun i e => hR.ns e.symm
  have k : ∀ {i : Nat} {v : Value}, W.cell? ⟨q, i, none⟩ = some v → w1.cell? ⟨q, i, none⟩ = some v := fun {i v} h => hgrow.cell (cell_on hbA h) (hqr i)
  have hfz : ∀ i, w1.frozen? ⟨q, i, none⟩ = false := fun i => by
    rw [hgrow.frozen_far ⟨q, i, none⟩ (show q < A.heap.size by omega) (hqr i), hbA.frozen (p := ⟨q, i, none⟩) hq]
    exact hR.fz i
  have hoth : w1.ownsRow B 24 7 vq qs.length (evsCells qs) := (ownsRow_on hbA hR.oq).kept hgrow (by
    cases hv : vq.ownBlock with
    | none => exact Or.inl rfl
    | some b =>
      refine Or.inr (fun e => ?_)
      rcases hR.ne with h | h
      · rw [h] at e; cases e
      · exact h (e.symm.trans hv.symm))
  have hgq : (Value.slice (some ⟨gg, 0, none⟩) (ss.length + 1) cap).ownBlock ≠ some q := fun e => by
    have e' : gg = q := by simpa [Value.ownBlock] using e
    subst e'
    rcases hat with h | h
    · exact hR.ns h
    · omega
  have hgo : (Value.slice (some ⟨gg, 0, none⟩) (ss.length + 1) cap).ownBlock ≠ vq.ownBlock := fun e => by
    have e' : vq.ownBlock = some gg := by simpa [Value.ownBlock] using e.symm
    rcases hat with h | h
    · rcases hR.ne with h2 | h2
      · rw [h2] at h; cases h
      · exact h2 (h.trans e'.symm)
    · have := (hlo gg e').2; omega
  refine ⟨⟨by simp [go_sem, k hR.c0], by simp [go_sem, k hR.c1], by simp [go_sem, k hR.c2], fun i => by simpa [go_sem] using hfz i, ?_, ?_, Or.inr hgo, hgq, hR.nq, hB⟩, ?_⟩
  · rw [List.length_append, sts_snoc]; exact ownsRow_setCell_other hown1 hgq _
  · exact ownsRow_setCell_other hoth hR.nq _
  · exact (Below.grown (hbA.mono (by omega)) hgrow (by omega) hne).setCell (show B ≤ q from hB) _

end Go.Proofs.Ytmkbacpkemmepaa
