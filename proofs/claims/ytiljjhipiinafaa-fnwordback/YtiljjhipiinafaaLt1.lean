/- laws.ltEvents, ltOuts, ltInts at two lists of the same. -/
import Derived.Test.YtiljjhipiinafaaEqEv
import Derived.Test.YtiljjhipiinafaaEqOu
import Derived.Test.YtiljjhipiinafaaEqSt
import Derived.Test.YtiljjhipiinafaaFlat
import Derived.WalkSmall
import Derived.Deep.QuietTactic
import Derived.BigQuiet
import Derived.Deep.Cut
namespace Go.Proofs.Ytiljjhipiinafaa.L
open Go.RowKit
set_option linter.unusedVariables false
set_option linter.unusedSimpArgs false

set_option maxRecDepth 100000 in
set_option maxHeartbeats 1000000 in
theorem ltEvents_any (v1 v2 : Value) (es : List EvV) (w : World) (h1 : RowsAt 7 w v1 (es.map evRow)) (h2 : RowsAt 7 w v2 (es.map evRow)) :
    Calls Try.prog 60 #[v1, v2] w fun e w' => e = .returned (.bool true) ∧ Below w.heap.size w w' := by
  obtain ⟨ad1, cap1, rfl, hl1, hm, hc1⟩ := h1
  obtain ⟨ad2, cap2, rfl, hl2, _, hc2⟩ := h2
  rw [List.length_map] at *
  unfold maxLen at hm
  have hne0 : ((es.length : Int) != (es.length : Int)) = false := by simp
  have H1 := hide hc1
  have H2 := hide hc2
  clear hc1 hc2
  go_enter Try.func60, Try.ntmps60
  go_wp2_with fail
  go_loopw [5] (fun i wr => ∃ k : Nat, k ≤ es.length ∧ i = .int .i64 k ∧ Below w.heap.size w wr) (fun i _ => es.length - (intOf i).toNat)
  case atStart => exact ⟨0, Nat.zero_le _, rfl, Below.refl _ _⟩
  case round =>
    obtain ⟨k, hk, rfl, hb⟩ := hrel
    by_cases hlt : k < es.length
    · obtain ⟨b1, off1, had1, hc1⟩ : ∃ b off, ad1 = some ⟨b, off, none⟩ ∧ ∀ j, j < 7 → wr.cell? ⟨b, off + k * 7 + j, none⟩ = some (.int .i64 ((evRow es[k]).getD j 0)) := by
        rcases unhide H1 with h | ⟨b, off, h1, h2⟩
        · rw [List.map_eq_nil_iff] at h; subst h; simp at hlt
        · refine ⟨b, off, h1, fun j hj => ?_⟩
          have := cell_on hb (h2 k (by rw [List.length_map]; exact hlt) j hj)
          rwa [List.getElem_map] at this
      obtain ⟨b2, off2, had2, hc2⟩ : ∃ b off, ad2 = some ⟨b, off, none⟩ ∧ ∀ j, j < 7 → wr.cell? ⟨b, off + k * 7 + j, none⟩ = some (.int .i64 ((evRow es[k]).getD j 0)) := by
        rcases unhide H2 with h | ⟨b, off, h1, h2⟩
        · rw [List.map_eq_nil_iff] at h; subst h; simp at hlt
        · refine ⟨b, off, h1, fun j hj => ?_⟩
          have := cell_on hb (h2 k (by rw [List.length_map]; exact hlt) j hj)
          rwa [List.getElem_map] at this
      have hkI : (k : Int) < (es.length : Int) := by omega
      have hk0 : (0 : Int) ≤ (k : Int) := by omega
      subst had1 had2
      generalize es[k] = x at *
      have p0 := hc1 0 (by omega)
      have r0 := hc2 0 (by omega)
      have p1 := hc1 1 (by omega)
      have r1 := hc2 1 (by omega)
      have p2 := hc1 2 (by omega)
      have r2 := hc2 2 (by omega)
      have p3 := hc1 3 (by omega)
      have r3 := hc2 3 (by omega)
      have p4 := hc1 4 (by omega)
      have r4 := hc2 4 (by omega)
      have p5 := hc1 5 (by omega)
      have r5 := hc2 5 (by omega)
      have p6 := hc1 6 (by omega)
      have r6 := hc2 6 (by omega)
      simp [evRow] at p0 r0 p1 r1 p2 r2 p3 r3 p4 r4 p5 r5 p6 r6
      clear hc1 hc2
      obtain ⟨r, hr⟩ := E.eq_event x x
      have hrt : r = true := hr.iff.2 rfl
      subst hrt
      have hg1 := E.guard_ev
      have he1 : ∀ w, (binOp .neq 53 (.agg #[.int .i64 x.time, .int .i64 x.to, .int .i64 x.src, .int .i64 x.count, .int .i64 x.n, .int .i64 x.kind, .int .i64 x.arg]) (.agg #[.int .i64 x.time, .int .i64 x.to, .int .i64 x.src, .int .i64 x.count, .int .i64 x.n, .int .i64 x.kind, .int .i64 x.arg])).run Try.prog w = .ok (.bool false) w := fun w => hr.neq w
      clear hr
      go_upto_region 6 with fail
      go_quiet (fail)
      go_wp2_with fail
      go_roundw
      case rel => exact ⟨k + 1, by omega, by simp, below_then hb (below_drewN (Below.refl _ _) _)⟩
      case measure => simp [intOf]; omega
    · go_wp2_with fail
      go_ret
      exact ⟨rfl, hb⟩

set_option maxRecDepth 100000 in
set_option maxHeartbeats 1000000 in
theorem ltOuts_any (v1 v2 : Value) (es : List OutV) (w : World) (h1 : RowsAt 5 w v1 (es.map outRow)) (h2 : RowsAt 5 w v2 (es.map outRow)) :
    Calls Try.prog 61 #[v1, v2] w fun e w' => e = .returned (.bool true) ∧ Below w.heap.size w w' := by
  obtain ⟨ad1, cap1, rfl, hl1, hm, hc1⟩ := h1
  obtain ⟨ad2, cap2, rfl, hl2, _, hc2⟩ := h2
  rw [List.length_map] at *
  unfold maxLen at hm
  have hne0 : ((es.length : Int) != (es.length : Int)) = false := by simp
  have H1 := hide hc1
  have H2 := hide hc2
  clear hc1 hc2
  go_enter Try.func61, Try.ntmps61
  go_wp2_with fail
  go_loopw [5] (fun i wr => ∃ k : Nat, k ≤ es.length ∧ i = .int .i64 k ∧ Below w.heap.size w wr) (fun i _ => es.length - (intOf i).toNat)
  case atStart => exact ⟨0, Nat.zero_le _, rfl, Below.refl _ _⟩
  case round =>
    obtain ⟨k, hk, rfl, hb⟩ := hrel
    by_cases hlt : k < es.length
    · obtain ⟨b1, off1, had1, hc1⟩ : ∃ b off, ad1 = some ⟨b, off, none⟩ ∧ ∀ j, j < 5 → wr.cell? ⟨b, off + k * 5 + j, none⟩ = some (.int .i64 ((outRow es[k]).getD j 0)) := by
        rcases unhide H1 with h | ⟨b, off, h1, h2⟩
        · rw [List.map_eq_nil_iff] at h; subst h; simp at hlt
        · refine ⟨b, off, h1, fun j hj => ?_⟩
          have := cell_on hb (h2 k (by rw [List.length_map]; exact hlt) j hj)
          rwa [List.getElem_map] at this
      obtain ⟨b2, off2, had2, hc2⟩ : ∃ b off, ad2 = some ⟨b, off, none⟩ ∧ ∀ j, j < 5 → wr.cell? ⟨b, off + k * 5 + j, none⟩ = some (.int .i64 ((outRow es[k]).getD j 0)) := by
        rcases unhide H2 with h | ⟨b, off, h1, h2⟩
        · rw [List.map_eq_nil_iff] at h; subst h; simp at hlt
        · refine ⟨b, off, h1, fun j hj => ?_⟩
          have := cell_on hb (h2 k (by rw [List.length_map]; exact hlt) j hj)
          rwa [List.getElem_map] at this
      have hkI : (k : Int) < (es.length : Int) := by omega
      have hk0 : (0 : Int) ≤ (k : Int) := by omega
      subst had1 had2
      generalize es[k] = x at *
      have p0 := hc1 0 (by omega)
      have r0 := hc2 0 (by omega)
      have p1 := hc1 1 (by omega)
      have r1 := hc2 1 (by omega)
      have p2 := hc1 2 (by omega)
      have r2 := hc2 2 (by omega)
      have p3 := hc1 3 (by omega)
      have r3 := hc2 3 (by omega)
      have p4 := hc1 4 (by omega)
      have r4 := hc2 4 (by omega)
      simp [outRow] at p0 r0 p1 r1 p2 r2 p3 r3 p4 r4
      clear hc1 hc2
      obtain ⟨r, hr⟩ := O.eq_ou x x
      have hrt : r = true := hr.iff.2 rfl
      subst hrt
      have hg1 := O.guard_ou
      have he1 : ∀ w, (binOp .neq 56 (.agg #[.int .i64 x.time, .int .i64 x.proc, .int .i64 x.count, .int .i64 x.n, .int .i64 x.value]) (.agg #[.int .i64 x.time, .int .i64 x.proc, .int .i64 x.count, .int .i64 x.n, .int .i64 x.value])).run Try.prog w = .ok (.bool false) w := fun w => hr.neq w
      clear hr
      go_upto_region 6 with fail
      go_quiet (fail)
      go_wp2_with fail
      go_roundw
      case rel => exact ⟨k + 1, by omega, by simp, below_then hb (below_drewN (Below.refl _ _) _)⟩
      case measure => simp [intOf]; omega
    · go_wp2_with fail
      go_ret
      exact ⟨rfl, hb⟩

set_option maxRecDepth 100000 in
set_option maxHeartbeats 1000000 in
theorem ltInts_any (v1 v2 : Value) (zs : List Int) (w : World) (h1 : RowsAt 1 w v1 (zs.map fun z => [z])) (h2 : RowsAt 1 w v2 (zs.map fun z => [z])) :
    Calls Try.prog 59 #[v1, v2] w fun e w' => e = .returned (.bool true) ∧ Below w.heap.size w w' := by
  obtain ⟨ad1, cap1, rfl, hl1, hm, hc1⟩ := h1
  obtain ⟨ad2, cap2, rfl, hl2, _, hc2⟩ := h2
  rw [List.length_map] at *
  unfold maxLen at hm
  have hne0 : ((zs.length : Int) != (zs.length : Int)) = false := by simp
  have hqm : ∀ z : Int, (z != z) = false := by intro z; simp
  have H1 := hide hc1
  have H2 := hide hc2
  clear hc1 hc2
  go_enter Try.func59, Try.ntmps59
  go_wp2_with fail
  go_loopw [5] (fun i wr => ∃ k : Nat, k ≤ zs.length ∧ i = .int .i64 k ∧ Below w.heap.size w wr) (fun i _ => zs.length - (intOf i).toNat)
  case atStart => exact ⟨0, Nat.zero_le _, rfl, Below.refl _ _⟩
  case round =>
    obtain ⟨k, hk, rfl, hb⟩ := hrel
    by_cases hlt : k < zs.length
    · obtain ⟨b1, off1, had1, p0⟩ : ∃ b off, ad1 = some ⟨b, off, none⟩ ∧ wr.cell? ⟨b, off + k, none⟩ = some (.int .i64 zs[k]) := by
        rcases unhide H1 with h | ⟨b, off, h1, h2⟩
        · rw [List.map_eq_nil_iff] at h; subst h; simp at hlt
        · refine ⟨b, off, h1, ?_⟩
          have := cell_on hb (h2 k (by rw [List.length_map]; exact hlt) 0 (by omega))
          simpa using this
      obtain ⟨b2, off2, had2, q0⟩ : ∃ b off, ad2 = some ⟨b, off, none⟩ ∧ wr.cell? ⟨b, off + k, none⟩ = some (.int .i64 zs[k]) := by
        rcases unhide H2 with h | ⟨b, off, h1, h2⟩
        · rw [List.map_eq_nil_iff] at h; subst h; simp at hlt
        · refine ⟨b, off, h1, ?_⟩
          have := cell_on hb (h2 k (by rw [List.length_map]; exact hlt) 0 (by omega))
          simpa using this
      have hkI : (k : Int) < (zs.length : Int) := by omega
      have hk0 : (0 : Int) ≤ (k : Int) := by omega
      subst had1 had2
      generalize zs[k] = x at *
      go_upto_region 6 with fail
      go_quiet (fail)
      go_wp2_with fail
      go_roundw
      case rel => exact ⟨k + 1, by omega, by go_num, below_then hb (below_drewN (Below.refl _ _) _)⟩
      case measure => (simp [intOf]; try omega)
    · have hkI : ¬ (k : Int) < (zs.length : Int) := by omega
      go_wp2_with fail
      go_ret
      exact ⟨rfl, hb⟩
end Go.Proofs.Ytiljjhipiinafaa.L
