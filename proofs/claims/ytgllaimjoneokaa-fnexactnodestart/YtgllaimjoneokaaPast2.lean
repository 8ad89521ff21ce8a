/- Lists of what was done: the exact laws' eq and sz; lanes. -/
import Derived.Test.YtgllaimjoneokaaPast1
namespace Go.Proofs.Ytgllaimjoneokaa
open Go.RowKit
set_option linter.unusedVariables false
set_option linter.unusedSimpArgs false

set_option maxRecDepth 100000 in
set_option maxHeartbeats 1000000 in
theorem eqPastS_any (v1 v2 : Value) (ps : List PastV) (w : World) (h1 : PastsAt w v1 ps) (h2 : PastsAt w v2 ps) :
    Calls Try.prog 118 #[v1, v2] w fun e w' => e = .returned (.bool true) ∧ Below w.heap.size w w' := by
  obtain ⟨ad1, cap1, rfl, hl1, hm, hc1⟩ := h1
  obtain ⟨ad2, cap2, rfl, hl2, _, hc2⟩ := h2
  unfold maxLen at hm
  have hne0 : ((ps.length : Int) != (ps.length : Int)) = false := by simp
  have H1 := hide hc1
  have H2 := hide hc2
  clear hc1 hc2
  go_enter Try.func118, Try.ntmps118
  go_wp2_with fail
  go_loopw [5] (fun i wr => ∃ k : Nat, k ≤ ps.length ∧ i = .int .i64 k ∧ Below w.heap.size w wr) (fun i _ => ps.length - (intOf i).toNat)
  case atStart => exact ⟨0, Nat.zero_le _, rfl, Below.refl _ _⟩
  case round =>
    obtain ⟨k, hk, rfl, hb⟩ := hrel
    by_cases hlt : k < ps.length
    · obtain ⟨b1, off1, vs1, vo1, had1, hc1, hp1⟩ : ∃ b off vs vo, ad1 = some ⟨b, off, none⟩ ∧ CellsAt wr b (off + k * 12) (pastCells ps[k] vs vo) ∧ PastAt wr vs vo ps[k] := by
        rcases unhide H1 with h | ⟨b, off, h1, h2⟩
        · rw [h] at hlt; exact absurd hlt (Nat.not_lt_zero _)
        · obtain ⟨vs, vo, h3, h4⟩ := h2 k hlt
          exact ⟨b, off, vs, vo, h1, h3.on hb, h4.on hb⟩
      obtain ⟨b2, off2, vs2, vo2, had2, hc2, hp2⟩ : ∃ b off vs vo, ad2 = some ⟨b, off, none⟩ ∧ CellsAt wr b (off + k * 12) (pastCells ps[k] vs vo) ∧ PastAt wr vs vo ps[k] := by
        rcases unhide H2 with h | ⟨b, off, h1, h2⟩
        · rw [h] at hlt; exact absurd hlt (Nat.not_lt_zero _)
        · obtain ⟨vs, vo, h3, h4⟩ := h2 k hlt
          exact ⟨b, off, vs, vo, h1, h3.on hb, h4.on hb⟩
      have hkI : (k : Int) < (ps.length : Int) := by omega
      have hk0 : (0 : Int) ≤ (k : Int) := by omega
      subst had1 had2
      generalize ps[k] = p at *
      have q10 : ∀ y : On wr, y.y.cell? ⟨b1, off1 + k * 12, none⟩ = some (.int .i64 p.ev.time) := fun y => cell_on y.h (hc1 0 (by simp))
      have q11 : ∀ y : On wr, y.y.cell? ⟨b1, off1 + k * 12 + 1, none⟩ = some (.int .i64 p.ev.to) := fun y => cell_on y.h (hc1 1 (by simp))
      have q12 : ∀ y : On wr, y.y.cell? ⟨b1, off1 + k * 12 + 2, none⟩ = some (.int .i64 p.ev.src) := fun y => cell_on y.h (hc1 2 (by simp))
      have q13 : ∀ y : On wr, y.y.cell? ⟨b1, off1 + k * 12 + 3, none⟩ = some (.int .i64 p.ev.count) := fun y => cell_on y.h (hc1 3 (by simp))
      have q14 : ∀ y : On wr, y.y.cell? ⟨b1, off1 + k * 12 + 4, none⟩ = some (.int .i64 p.ev.n) := fun y => cell_on y.h (hc1 4 (by simp))
      have q15 : ∀ y : On wr, y.y.cell? ⟨b1, off1 + k * 12 + 5, none⟩ = some (.int .i64 p.ev.kind) := fun y => cell_on y.h (hc1 5 (by simp))
      have q16 : ∀ y : On wr, y.y.cell? ⟨b1, off1 + k * 12 + 6, none⟩ = some (.int .i64 p.ev.arg) := fun y => cell_on y.h (hc1 6 (by simp))
      have q17 : ∀ y : On wr, y.y.cell? ⟨b1, off1 + k * 12 + 7, none⟩ = some (.int .i64 p.st.x) := fun y => cell_on y.h (hc1 7 (by simp))
      have q18 : ∀ y : On wr, y.y.cell? ⟨b1, off1 + k * 12 + 8, none⟩ = some (.int .i64 p.st.y) := fun y => cell_on y.h (hc1 8 (by simp))
      have q19 : ∀ y : On wr, y.y.cell? ⟨b1, off1 + k * 12 + 9, none⟩ = some (.int .i64 p.st.c) := fun y => cell_on y.h (hc1 9 (by simp))
      have q110 : ∀ y : On wr, y.y.cell? ⟨b1, off1 + k * 12 + 10, none⟩ = some (vs1) := fun y => cell_on y.h (hc1 10 (by simp))
      have q111 : ∀ y : On wr, y.y.cell? ⟨b1, off1 + k * 12 + 11, none⟩ = some (vo1) := fun y => cell_on y.h (hc1 11 (by simp))
      have q20 : ∀ y : On wr, y.y.cell? ⟨b2, off2 + k * 12, none⟩ = some (.int .i64 p.ev.time) := fun y => cell_on y.h (hc2 0 (by simp))
      have q21 : ∀ y : On wr, y.y.cell? ⟨b2, off2 + k * 12 + 1, none⟩ = some (.int .i64 p.ev.to) := fun y => cell_on y.h (hc2 1 (by simp))
      have q22 : ∀ y : On wr, y.y.cell? ⟨b2, off2 + k * 12 + 2, none⟩ = some (.int .i64 p.ev.src) := fun y => cell_on y.h (hc2 2 (by simp))
      have q23 : ∀ y : On wr, y.y.cell? ⟨b2, off2 + k * 12 + 3, none⟩ = some (.int .i64 p.ev.count) := fun y => cell_on y.h (hc2 3 (by simp))
      have q24 : ∀ y : On wr, y.y.cell? ⟨b2, off2 + k * 12 + 4, none⟩ = some (.int .i64 p.ev.n) := fun y => cell_on y.h (hc2 4 (by simp))
      have q25 : ∀ y : On wr, y.y.cell? ⟨b2, off2 + k * 12 + 5, none⟩ = some (.int .i64 p.ev.kind) := fun y => cell_on y.h (hc2 5 (by simp))
      have q26 : ∀ y : On wr, y.y.cell? ⟨b2, off2 + k * 12 + 6, none⟩ = some (.int .i64 p.ev.arg) := fun y => cell_on y.h (hc2 6 (by simp))
      have q27 : ∀ y : On wr, y.y.cell? ⟨b2, off2 + k * 12 + 7, none⟩ = some (.int .i64 p.st.x) := fun y => cell_on y.h (hc2 7 (by simp))
      have q28 : ∀ y : On wr, y.y.cell? ⟨b2, off2 + k * 12 + 8, none⟩ = some (.int .i64 p.st.y) := fun y => cell_on y.h (hc2 8 (by simp))
      have q29 : ∀ y : On wr, y.y.cell? ⟨b2, off2 + k * 12 + 9, none⟩ = some (.int .i64 p.st.c) := fun y => cell_on y.h (hc2 9 (by simp))
      have q210 : ∀ y : On wr, y.y.cell? ⟨b2, off2 + k * 12 + 10, none⟩ = some (vs2) := fun y => cell_on y.h (hc2 10 (by simp))
      have q211 : ∀ y : On wr, y.y.cell? ⟨b2, off2 + k * 12 + 11, none⟩ = some (vo2) := fun y => cell_on y.h (hc2 11 (by simp))
      have HP1 := hide hp1
      have HP2 := hide hp2
      clear hc1 hc2 hp1 hp2
      go_wp2_with fail
      have hne : Nonempty (On wr) := ⟨⟨wr, Below.refl _ _⟩⟩
      refine wp_region_on (by kernel_rfl) (by kernel_rfl) ?_
      repeat (first | go_big_quiet_step ((go_at_call 120; exact calls_on (eqPast_any p vs1 vo1 vs2 vo2 _ ((unhide HP1).on (On.h _)) ((unhide HP2).on (On.h _))))) | quiet_step ((go_at_call 120; exact calls_on (eqPast_any p vs1 vo1 vs2 vo2 _ ((unhide HP1).on (On.h _)) ((unhide HP2).on (On.h _))))))
      refine wpQuiet_nil ?_
      intro _ hw'
      obtain ⟨nq, hw''⟩ := hw'
      subst hw''
      go_wp2_with fail
      go_roundw
      case rel => exact ⟨k + 1, by omega, by simp, below_then hb nq.h⟩
      case measure => (simp [intOf]; try omega)
    · go_wp2_with fail
      go_ret
      exact ⟨rfl, hb⟩

abbrev laneCells (proc : Int) (s : StV) (vd : Value) : List Value := [.int .i64 proc, .int .i64 s.x, .int .i64 s.y, .int .i64 s.c, vd]
abbrev laneAgg (proc : Int) (s : StV) (vd : Value) : Value := .agg #[.int .i64 proc, .int .i64 s.x, .int .i64 s.y, .int .i64 s.c, vd]

set_option maxRecDepth 100000 in
theorem eqLane_any (proc : Int) (s : StV) (v1 v2 : Value) (ps : List PastV) (w : World) (h1 : PastsAt w v1 ps) (h2 : PastsAt w v2 ps) :
    Calls Try.prog 100 #[laneAgg proc s v1, laneAgg proc s v2] w fun e w' => e = .returned (.bool true) ∧ Below w.heap.size w w' := by
  have H1 := hide h1
  have H2 := hide h2
  obtain ⟨a1, c1, e1, _⟩ := h1
  obtain ⟨a2, c2, e2, _⟩ := h2
  subst e1 e2
  have hne0 : (proc != proc) = false := by simp
  go_enter Try.func100, Try.ntmps100
  have hb0 : Below w.heap.size w ((w.alloc (.cells #[.int .i64 proc, .int .i64 s.x, .int .i64 s.y, .int .i64 s.c, .slice a1 ps.length c1] 37)).alloc (.cells #[.int .i64 proc, .int .i64 s.x, .int .i64 s.y, .int .i64 s.c, .slice a2 ps.length c2] 37)) := ((Below.refl _ _).alloc (Nat.le_refl _) _).alloc (by simp) _
  have k4 : ((w.alloc (.cells #[.int .i64 proc, .int .i64 s.x, .int .i64 s.y, .int .i64 s.c, .slice a1 ps.length c1] 37)).alloc (.cells #[.int .i64 proc, .int .i64 s.x, .int .i64 s.y, .int .i64 s.c, .slice a2 ps.length c2] 37)).cell? ⟨w.heap.size, 4, none⟩ = some (.slice a1 ps.length c1) := by simp [go_sem]
  have l4 : ((w.alloc (.cells #[.int .i64 proc, .int .i64 s.x, .int .i64 s.y, .int .i64 s.c, .slice a1 ps.length c1] 37)).alloc (.cells #[.int .i64 proc, .int .i64 s.x, .int .i64 s.y, .int .i64 s.c, .slice a2 ps.length c2] 37)).cell? ⟨w.heap.size + 1, 4, none⟩ = some (.slice a2 ps.length c2) := by simp [go_sem]
  have K4 := hide k4
  have L4 := hide l4
  have HB0 := hide hb0
  clear hb0 k4 l4
  go_wp2_with fail
  refine (eqState_any _ _ _ _).mono ?_
  rintro e w2 ⟨rfl, hb2⟩
  have k4 := cell_on hb2 (unhide K4)
  have l4 := cell_on hb2 (unhide L4)
  have hB2 := below_then (unhide HB0) hb2
  go_wp2_with fail
  refine (eqPastS_any _ _ ps w2 ((unhide H1).on hB2) ((unhide H2).on hB2)).mono ?_
  rintro e w3 ⟨rfl, hb3⟩
  go_wp2_with fail
  go_ret
  exact ⟨rfl, below_then hB2 hb3⟩

end Go.Proofs.Ytgllaimjoneokaa
