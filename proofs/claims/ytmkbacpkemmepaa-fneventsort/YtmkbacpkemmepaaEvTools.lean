/- laws.ltEvents at two lists of the same events; a reader under an append. -/
import Derived.Test.YtmkbacpkemmepaaSortE
import Derived.Test.YtmkbacpkemmepaaDrawEv
namespace Go.Proofs.Ytmkbacpkemmepaa.E
open Go.RowKit
set_option linter.unusedVariables false
set_option linter.unusedSimpArgs false

theorem Reader_grown {w0 A w' : World} {q : Nat} {v : Value} {zs : List Int} {p : Int} {row : Option Nat} (h : Reader w0 A q v zs p) (hg : A.grownBy w' row) (hne : some q ≠ row) (hr : ∀ k, row = some k → w0.heap.size ≤ k) : Reader w0 w' q v zs p := by
  have hq : q < A.heap.size := World.block_lt_of_cell? A ⟨q, 0, none⟩ h.rd.c0
  have e := hg.block q hq hne
  exact ⟨h.bytes, h.few, h.q0, Below.grown h.below hg h.below.size hr, ⟨(World.cell?_of_block (a := ⟨q, 0, none⟩) e).trans h.rd.c0, (World.cell?_of_block (a := ⟨q, 1, none⟩) e).trans h.rd.c1, frozen_block e h.rd.fz⟩, h.p0⟩

theorem OnlyB_grown {q : Nat} {w A w' : World} {row : Option Nat} (h : OnlyB q w A) (hg : A.grownBy w' row) (hr : ∀ k, row = some k → w.heap.size ≤ k) (hq : q < w.heap.size) : OnlyB q w w' :=
  ⟨Nat.le_trans h.size hg.size, fun b hb hl => (hg.block b (Nat.lt_of_lt_of_le hl h.size) (fun e => by have := hr b e.symm; omega)).trans (h.other b hb hl), Below.grown h.below hg (by have := h.size; omega) (fun k hk => by have := hr k hk; omega)⟩

theorem EvOwn.only {B g cap q : Nat} {w w' : World} {ys : List EvV} (h : EvOwn B w g cap ys) (ho : OnlyB q w w') (hne : g ≠ q) : EvOwn B w' g cap ys :=
  RowsFr.block (fun k hk hlt => ho.other k (by have : g = k := by simpa [Value.ownBlock] using hk
                                               omega) hlt) h

set_option maxRecDepth 100000 in
set_option maxHeartbeats 1000000 in
theorem ltEvents_any (v1 v2 : Value) (es : List EvV) (w : World) (h1 : RowsAt 7 w v1 (es.map evRow)) (h2 : RowsAt 7 w v2 (es.map evRow)) :
    Calls Try.prog 15 #[v1, v2] w fun e w' => e = .returned (.bool true) ∧ Below w.heap.size w w' := by
  obtain ⟨ad1, cap1, rfl, hl1, hm, hc1⟩ := h1
  obtain ⟨ad2, cap2, rfl, hl2, _, hc2⟩ := h2
  rw [List.length_map] at *
  unfold maxLen at hm
  have hne0 : ((es.length : Int) != (es.length : Int)) = false := by simp
  have H1 := hide hc1
  have H2 := hide hc2
  clear hc1 hc2
  go_enter Try.func15, Try.ntmps15
  go_wp2_with fail
  go_loopw [5] (fun i wr => ∃ k : Nat, k ≤ es.length ∧ i = .int .i64 k ∧ Below w.heap.size w wr) (fun i _ => es.length - (intOf i).toNat)
  case atStart => exact ⟨0, Nat.zero_le _, rfl, Below.refl _ _⟩
  case round =>
    obtain ⟨k, hk, rfl, hb⟩ := hrel
    by_cases hlt : k < es.length
    · obtain ⟨b1, off1, had1, hc1⟩ : ∃ b off, ad1 = some ⟨b, off, none⟩ ∧ ∀ j, j < 7 → wr.cell? ⟨b, off + k * 7 + j, none⟩ = some (.int .i64 ((evRow es[k]).getD j 0)) := by
        rcases unhide H1 with h | ⟨b, off, h1, h2⟩
        · rw [List.map_eq_nil_iff] at h; subst h; simp at hlt
        · refine ⟨b, off, h1, fun j hj => ?_⟩
          have := cell_on hb (h2 k (by rw [List.length_map]; exact hlt) j hj)
          rwa [List.getElem_map] at this
      obtain ⟨b2, off2, had2, hc2⟩ : ∃ b off, ad2 = some ⟨b, off, none⟩ ∧ ∀ j, j < 7 → wr.cell? ⟨b, off + k * 7 + j, none⟩ = some (.int .i64 ((evRow es[k]).getD j 0)) := by
        rcases unhide H2 with h | ⟨b, off, h1, h2⟩
        · rw [List.map_eq_nil_iff] at h; subst h; simp at hlt
        · refine ⟨b, off, h1, fun j hj => ?_⟩
          have := cell_on hb (h2 k (by rw [List.length_map]; exact hlt) j hj)
          rwa [List.getElem_map] at this
      have hkI : (k : Int) < (es.length : Int) := by omega
      have hk0 : (0 : Int) ≤ (k : Int) := by omega
      subst had1 had2
      generalize es[k] = x at *
      have p0 := hc1 0 (by omega)
      have p1 := hc1 1 (by omega)
      have p2 := hc1 2 (by omega)
      have p3 := hc1 3 (by omega)
      have p4 := hc1 4 (by omega)
      have p5 := hc1 5 (by omega)
      have p6 := hc1 6 (by omega)
      have r0 := hc2 0 (by omega)
      have r1 := hc2 1 (by omega)
      have r2 := hc2 2 (by omega)
      have r3 := hc2 3 (by omega)
      have r4 := hc2 4 (by omega)
      have r5 := hc2 5 (by omega)
      have r6 := hc2 6 (by omega)
      simp [evRow] at p0 p1 p2 p3 p4 p5 p6 r0 r1 r2 r3 r4 r5 r6
      clear hc1 hc2
      obtain ⟨r, hr⟩ := eq_event x x
      have hrt : r = true := hr.iff.2 rfl
      subst hrt
      have hg1 := guard_ev
      have he1 : ∀ w, (binOp .neq 24 (.agg #[.int .i64 x.time, .int .i64 x.to, .int .i64 x.src, .int .i64 x.count, .int .i64 x.n, .int .i64 x.kind, .int .i64 x.arg]) (.agg #[.int .i64 x.time, .int .i64 x.to, .int .i64 x.src, .int .i64 x.count, .int .i64 x.n, .int .i64 x.kind, .int .i64 x.arg])).run Try.prog w = .ok (.bool false) w := hr.neq
      clear hr
      go_upto_region 6 with fail
      go_quiet (fail)
      go_wp2_with fail
      go_roundw
      case rel => exact ⟨k + 1, by omega, by simp, below_then hb (below_drewN (Below.refl _ _) _)⟩
      case measure => simp [intOf]; omega
    · go_wp2_with fail
      go_ret
      exact ⟨rfl, hb⟩
end Go.Proofs.Ytmkbacpkemmepaa.E
