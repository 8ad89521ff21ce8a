/- Lists of what was done: the exact laws' eq and sz; lanes. -/
import Derived.Test.YtjdaedcpjfcpjaaPast1
namespace Go.Proofs.Ytjdaedcpjfcpjaa
open Go.RowKit
set_option linter.unusedVariables false
set_option linter.unusedSimpArgs false

set_option maxRecDepth 100000 in
set_option maxHeartbeats 1000000 in
theorem eqPastS_any (v1 v2 : Value) (ps : List PastV) (w : World) (h1 : PastsAt w v1 ps) (h2 : PastsAt w v2 ps) :
    Calls Try.prog 48 #[v1, v2] w fun e w' => e = .returned (.bool true) ∧ Below w.heap.size w w' := by
  obtain ⟨ad1, cap1, rfl, hl1, hm, hc1⟩ := h1
  obtain ⟨ad2, cap2, rfl, hl2, _, hc2⟩ := h2
  unfold maxLen at hm
  have hne0 : ((ps.length : Int) != (ps.length : Int)) = false := by simp
  have H1 := hide hc1
  have H2 := hide hc2
  clear hc1 hc2
  go_enter Try.func48, Try.ntmps48
  go_wp2_with fail
  go_loopw [5] (fun i wr => ∃ k : Nat, k ≤ ps.length ∧ i = .int .i64 k ∧ Below w.heap.size w wr) (fun i _ => ps.length - (intOf i).toNat)
  case atStart => exact ⟨0, Nat.zero_le _, rfl, Below.refl _ _⟩
  case round =>
    obtain ⟨k, hk, rfl, hb⟩ := hrel
    by_cases hlt : k < ps.length
    · obtain ⟨b1, off1, vs1, vo1, had1, hc1, hp1⟩ : ∃ b off vs vo, ad1 = some ⟨b, off, none⟩ ∧ CellsAt wr b (off + k * 12) (pastCells ps[k] vs vo) ∧ PastAt wr vs vo ps[k] := by
        rcases unhide H1 with h | ⟨b, off, h1, h2⟩
        · rw [h] at hlt; exact absurd hlt (Nat.not_lt_zero _)
        · obtain ⟨vs, vo, h3, h4⟩ := h2 k hlt
          exact ⟨b, off, vs, vo, h1, h3.on hb, h4.on hb⟩
      obtain ⟨b2, off2, vs2, vo2, had2, hc2, hp2⟩ : ∃ b off vs vo, ad2 = some ⟨b, off, none⟩ ∧ CellsAt wr b (off + k * 12) (pastCells ps[k] vs vo) ∧ PastAt wr vs vo ps[k] := by
        rcases unhide H2 with h | ⟨b, off, h1, h2⟩
        · rw [h] at hlt; exact absurd hlt (Nat.not_lt_zero _)
        · obtain ⟨vs, vo, h3, h4⟩ := h2 k hlt
          exact ⟨b, off, vs, vo, h1, h3.on hb, h4.on hb⟩
      have hkI : (k : Int) < (ps.length : Int) := by omega
      have hk0 : (0 : Int) ≤ (k : Int) := by omega
      subst had1 had2
      generalize ps[k] = p at *
      have q10 : ∀ y : On wr, y.y.cell? ⟨b1, off1 + k * 12, none⟩ = some (.int .i64 p.ev.time) := fun y => cell_on y.h (hc1 0 (by simp))
      have q11 : ∀ y : On wr, y.y.cell? ⟨b1, off1 + k * 12 + 1, none⟩ = some (.int .i64 p.ev.to) := fun y => cell_on y.h (hc1 1 (by simp))
      have q12 : ∀ y : On wr, y.y.cell? ⟨b1, off1 + k * 12 + 2, none⟩ = some (.int .i64 p.ev.src) := fun y => cell_on y.h (hc1 2 (by simp))
      have q13 : ∀ y : On wr, y.y.cell? ⟨b1, off1 + k * 12 + 3, none⟩ = some (.int .i64 p.ev.count) := fun y => cell_on y.h (hc1 3 (by simp))
      have q14 : ∀ y : On wr, y.y.cell? ⟨b1, off1 + k * 12 + 4, none⟩ = some (.int .i64 p.ev.n) := fun y => cell_on y.h (hc1 4 (by simp))
      have q15 : ∀ y : On wr, y.y.cell? ⟨b1, off1 + k * 12 + 5, none⟩ = some (.int .i64 p.ev.kind) := fun y => cell_on y.h (hc1 5 (by simp))
      have q16 : ∀ y : On wr, y.y.cell? ⟨b1, off1 + k * 12 + 6, none⟩ = some (.int .i64 p.ev.arg) := fun y => cell_on y.h (hc1 6 (by simp))
      have q17 : ∀ y : On wr, y.y.cell? ⟨b1, off1 + k * 12 + 7, none⟩ = some (.int .i64 p.st.x) := fun y => cell_on y.h (hc1 7 (by simp))
      have q18 : ∀ y : On wr, y.y.cell? ⟨b1, off1 + k * 12 + 8, none⟩ = some (.int .i64 p.st.y) := fun y => cell_on y.h (hc1 8 (by simp))
      have q19 : ∀ y : On wr, y.y.cell? ⟨b1, off1 + k * 12 + 9, none⟩ = some (.int .i64 p.st.c) := fun y => cell_on y.h (hc1 9 (by simp))
      have q110 : ∀ y : On wr, y.y.cell? ⟨b1, off1 + k * 12 + 10, none⟩ = some (vs1) := fun y => cell_on y.h (hc1 10 (by simp))
      have q111 : ∀ y : On wr, y.y.cell? ⟨b1, off1 + k * 12 + 11, none⟩ = some (vo1) := fun y => cell_on y.h (hc1 11 (by simp))
      have q20 : ∀ y : On wr, y.y.cell? ⟨b2, off2 + k * 12, none⟩ = some (.int .i64 p.ev.time) := fun y => cell_on y.h (hc2 0 (by simp))
      have q21 : ∀ y : On wr, y.y.cell? ⟨b2, off2 + k * 12 + 1, none⟩ = some (.int .i64 p.ev.to) := fun y => cell_on y.h (hc2 1 (by simp))
      have q22 : ∀ y : On wr, y.y.cell? ⟨b2, off2 + k * 12 + 2, none⟩ = some (.int .i64 p.ev.src) := fun y => cell_on y.h (hc2 2 (by simp))
      have q23 : ∀ y : On wr, y.y.cell? ⟨b2, off2 + k * 12 + 3, none⟩ = some (.int .i64 p.ev.count) := fun y => cell_on y.h (hc2 3 (by simp))
      have q24 : ∀ y : On wr, y.y.cell? ⟨b2, off2 + k * 12 + 4, none⟩ = some (.int .i64 p.ev.n) := fun y => cell_on y.h (hc2 4 (by simp))
      have q25 : ∀ y : On wr, y.y.cell? ⟨b2, off2 + k * 12 + 5, none⟩ = some (.int .i64 p.ev.kind) := fun y => cell_on y.h (hc2 5 (by simp))
      have q26 : ∀ y : On wr, y.y.cell? ⟨b2, off2 + k * 12 + 6, none⟩ = some (.int .i64 p.ev.arg) := fun y => cell_on y.h (hc2 6 (by simp))
      have q27 : ∀ y : On wr, y.y.cell? ⟨b2, off2 + k * 12 + 7, none⟩ = some (.int .i64 p.st.x) := fun y => cell_on y.h (hc2 7 (by simp))
      have q28 : ∀ y : On wr, y.y.cell? ⟨b2, off2 + k * 12 + 8, none⟩ = some (.int .i64 p.st.y) := fun y => cell_on y.h (hc2 8 (by simp))
      have q29 : ∀ y : On wr, y.y.cell? ⟨b2, off2 + k * 12 + 9, none⟩ = some (.int .i64 p.st.c) := fun y => cell_on y.h (hc2 9 (by simp))
      have q210 : ∀ y : On wr, y.y.cell? ⟨b2, off2 + k * 12 + 10, none⟩ = some (vs2) := fun y => cell_on y.h (hc2 10 (by simp))
      have q211 : ∀ y : On wr, y.y.cell? ⟨b2, off2 + k * 12 + 11, none⟩ = some (vo2) := fun y => cell_on y.h (hc2 11 (by simp))
      have HP1 := hide hp1
      have HP2 := hide hp2
      clear hc1 hc2 hp1 hp2
      go_wp2_with fail
      have hne : Nonempty (On wr) := ⟨⟨wr, Below.refl _ _⟩⟩
      refine wp_region_on (by kernel_rfl) (by kernel_rfl) ?_
      repeat (first | go_big_quiet_step ((go_at_call 80; exact calls_on (eqPast_any p vs1 vo1 vs2 vo2 _ ((unhide HP1).on (On.h _)) ((unhide HP2).on (On.h _))))) | quiet_step ((go_at_call 80; exact calls_on (eqPast_any p vs1 vo1 vs2 vo2 _ ((unhide HP1).on (On.h _)) ((unhide HP2).on (On.h _))))))
      refine wpQuiet_nil ?_
      intro _ hw'
      obtain ⟨nq, hw''⟩ := hw'
      subst hw''
      go_wp2_with fail
      go_roundw
      case rel => exact ⟨k + 1, by omega, by simp, below_then hb nq.h⟩
      case measure => (simp [intOf]; try omega)
    · go_wp2_with fail
      go_ret
      exact ⟨rfl, hb⟩

abbrev laneCells (proc : Int) (s : StV) (vd : Value) : List Value := [.int .i64 proc, .int .i64 s.x, .int .i64 s.y, .int .i64 s.c, vd]
abbrev laneAgg (proc : Int) (s : StV) (vd : Value) : Value := .agg #[.int .i64 proc, .int .i64 s.x, .int .i64 s.y, .int .i64 s.c, vd]

set_option maxRecDepth 100000 in
theorem eqLane_any (proc : Int) (s : StV) (v1 v2 : Value) (ps : List PastV) (w : World) (h1 : PastsAt w v1 ps) (h2 : PastsAt w v2 ps) :
    Calls Try.prog 12 #[laneAgg proc s v1, laneAgg proc s v2] w fun e w' => e = .returned (.bool true) ∧ Below w.heap.size w w' := by
  have H1 := hide h1
  have H2 := hide h2
  obtain ⟨a1, c1, e1, _⟩ := h1
  obtain ⟨a2, c2, e2, _⟩ := h2
  subst e1 e2
  have hne0 : (proc != proc) = false := by simp
  go_enter Try.func12, Try.ntmps12
  have hb0 : Below w.heap.size w ((w.alloc (.cells #[.int .i64 proc, .int .i64 s.x, .int .i64 s.y, .int .i64 s.c, .slice a1 ps.length c1] 32)).alloc (.cells #[.int .i64 proc, .int .i64 s.x, .int .i64 s.y, .int .i64 s.c, .slice a2 ps.length c2] 32)) := ((Below.refl _ _).alloc (Nat.le_refl _) _).alloc (by simp) _
  have k4 : ((w.alloc (.cells #[.int .i64 proc, .int .i64 s.x, .int .i64 s.y, .int .i64 s.c, .slice a1 ps.length c1] 32)).alloc (.cells #[.int .i64 proc, .int .i64 s.x, .int .i64 s.y, .int .i64 s.c, .slice a2 ps.length c2] 32)).cell? ⟨w.heap.size, 4, none⟩ = some (.slice a1 ps.length c1) := by simp [go_sem]
  have l4 : ((w.alloc (.cells #[.int .i64 proc, .int .i64 s.x, .int .i64 s.y, .int .i64 s.c, .slice a1 ps.length c1] 32)).alloc (.cells #[.int .i64 proc, .int .i64 s.x, .int .i64 s.y, .int .i64 s.c, .slice a2 ps.length c2] 32)).cell? ⟨w.heap.size + 1, 4, none⟩ = some (.slice a2 ps.length c2) := by simp [go_sem]
  have K4 := hide k4
  have L4 := hide l4
  have HB0 := hide hb0
  clear hb0 k4 l4
  go_wp2_with fail
  refine (eqState_any _ _ _ _).mono ?_
  rintro e w2 ⟨rfl, hb2⟩
  have k4 := cell_on hb2 (unhide K4)
  have l4 := cell_on hb2 (unhide L4)
  have hB2 := below_then (unhide HB0) hb2
  go_wp2_with fail
  refine (eqPastS_any _ _ ps w2 ((unhide H1).on hB2) ((unhide H2).on hB2)).mono ?_
  rintro e w3 ⟨rfl, hb3⟩
  go_wp2_with fail
  go_ret
  exact ⟨rfl, below_then hB2 hb3⟩

set_option maxRecDepth 100000 in
set_option maxHeartbeats 400000 in
theorem szPast_any (p : PastV) (vs vo : Value) (left : Int) (w : World) (h : PastAt w vs vo p) (h0 : 0 ≤ left) (h1 : left ≤ 1048576) :
    Calls Try.prog 67 #[pastAgg p vs vo, .int .i64 left] w fun e w' => ∃ r, e = .returned (.int .i64 r) ∧ (r = -1 ∨ 0 ≤ r ∧ r ≤ left ∧ (p.sends.length : Int) ≤ left ∧ (p.outs.length : Int) ≤ left) ∧ Below w.heap.size w w' := by
  have H := hide h
  obtain ⟨a1, c1, e1, _⟩ := h.s
  obtain ⟨a2, c2, e2, _⟩ := h.o
  rw [List.length_map] at e1 e2
  subst e1 e2
  clear h
  have hb0 : Below w.heap.size w (w.alloc (.cells #[.int .i64 p.ev.time, .int .i64 p.ev.to, .int .i64 p.ev.src, .int .i64 p.ev.count, .int .i64 p.ev.n, .int .i64 p.ev.kind, .int .i64 p.ev.arg, .int .i64 p.st.x, .int .i64 p.st.y, .int .i64 p.st.c, .slice a1 p.sends.length c1, .slice a2 p.outs.length c2] 96)) := (Below.refl _ _).alloc (Nat.le_refl _) _
  have k10 : (w.alloc (.cells #[.int .i64 p.ev.time, .int .i64 p.ev.to, .int .i64 p.ev.src, .int .i64 p.ev.count, .int .i64 p.ev.n, .int .i64 p.ev.kind, .int .i64 p.ev.arg, .int .i64 p.st.x, .int .i64 p.st.y, .int .i64 p.st.c, .slice a1 p.sends.length c1, .slice a2 p.outs.length c2] 96)).cell? ⟨w.heap.size, 10, none⟩ = some (.slice a1 p.sends.length c1) := by simp [go_sem]
  have k11 : (w.alloc (.cells #[.int .i64 p.ev.time, .int .i64 p.ev.to, .int .i64 p.ev.src, .int .i64 p.ev.count, .int .i64 p.ev.n, .int .i64 p.ev.kind, .int .i64 p.ev.arg, .int .i64 p.st.x, .int .i64 p.st.y, .int .i64 p.st.c, .slice a1 p.sends.length c1, .slice a2 p.outs.length c2] 96)).cell? ⟨w.heap.size, 11, none⟩ = some (.slice a2 p.outs.length c2) := by simp [go_sem]
  have HB0 := hide hb0
  have K10 := hide k10
  have K11 := hide k11
  clear hb0 k10 k11
  go_enter Try.func67, Try.ntmps67
  go_upto_region 1 with fail
  generalize (w.alloc (.cells #[.int .i64 p.ev.time, .int .i64 p.ev.to, .int .i64 p.ev.src, .int .i64 p.ev.count, .int .i64 p.ev.n, .int .i64 p.ev.kind, .int .i64 p.ev.arg, .int .i64 p.st.x, .int .i64 p.st.y, .int .i64 p.st.c, .slice a1 p.sends.length c1, .slice a2 p.outs.length c2] 96)) = W at *
  have k10 := unhide K10
  have k11 := unhide K11
  go_wp2_with fail
  refine (szEventS_any _ _ left W ((unhide H).s.on (unhide HB0)) h0 h1).mono ?_
  rintro e w1 ⟨r1, rfl, hr1, hw1⟩
  obtain rfl := hw1.symm
  rw [List.length_map] at hr1
  rcases hr1 with ⟨rfl, _⟩ | ⟨hr0, hr1⟩
  · go_wp2_with fail
    go_ret
    exact ⟨-1, rfl, Or.inl rfl, unhide HB0⟩
  have hr11 : r1 ≤ left := by omega
  have hr12 : (p.sends.length : Int) ≤ left := by omega
  clear hr1
  go_wp2_with fail
  refine (szOutS_any _ _ r1 W ((unhide H).o.on (unhide HB0)) hr0 (by omega)).mono ?_
  rintro e w2 ⟨r2, rfl, hr2, hw2⟩
  obtain rfl := hw2.symm
  rw [List.length_map] at hr2
  rcases hr2 with ⟨rfl, _⟩ | ⟨hr20, hr21⟩
  · go_wp2_with fail
    go_ret
    exact ⟨-1, rfl, Or.inl rfl, unhide HB0⟩
  have hr22 : r2 ≤ left := by omega
  have hr23 : (p.outs.length : Int) ≤ left := by omega
  clear hr21
  go_wp2_with fail
  go_ret
  exact ⟨r2, rfl, Or.inr ⟨hr20, by omega, by omega, by omega⟩, unhide HB0⟩

set_option maxRecDepth 100000 in
set_option maxHeartbeats 1000000 in
theorem szPastS_any (v : Value) (ps : List PastV) (left : Int) (w : World) (h : PastsAt w v ps) (h0 : 0 ≤ left) (h1 : left ≤ 1048576) :
    Calls Try.prog 33 #[v, .int .i64 left] w fun e w' => ∃ r, e = .returned (.int .i64 r) ∧ (r = -1 ∨ 0 ≤ r ∧ r ≤ left ∧ (ps.length : Int) ≤ left ∧ ∀ p ∈ ps, (p.sends.length : Int) ≤ left ∧ (p.outs.length : Int) ≤ left) ∧ Below w.heap.size w w' := by
  obtain ⟨ad, cap, rfl, hlc, hm, hc⟩ := h
  unfold maxLen at hm
  have HC := hide hc
  clear hc
  by_cases hbig : left < (ps.length : Int)
  · have hb1 : left - (ps.length : Int) < 0 := by omega
    go_enter Try.func33, Try.ntmps33
    go_wp2_with fail
    go_ret
    exact ⟨-1, rfl, Or.inl rfl, Below.refl _ _⟩
  have hb1 : ¬ left - (ps.length : Int) < 0 := by omega
  go_enter Try.func33, Try.ntmps33
  go_wp2_with fail
  go_loopw [1, 5] (fun l i wr => ∃ (k : Nat) (r : Int), k ≤ ps.length ∧ i = .int .i64 k ∧ l = .int .i64 r ∧ 0 ≤ r ∧ r ≤ left ∧ Hid (∀ i (h : i < ps.length), i < k → (ps[i].sends.length : Int) ≤ left ∧ (ps[i].outs.length : Int) ≤ left) ∧ Hid (Below w.heap.size w wr)) (fun _ i _ => ps.length - (intOf i).toNat)
  case atStart => exact ⟨0, left - ps.length, Nat.zero_le _, rfl, rfl, by omega, by omega, hide (fun i _ h => absurd h (Nat.not_lt_zero _)), hide (Below.refl _ _)⟩
  case round =>
    obtain ⟨k, r, hk, rfl, rfl, hr0, hr1, HL, HB⟩ := hrel
    by_cases hlt : k < ps.length
    · obtain ⟨b, off, vs, vo, had, hc, hp⟩ : ∃ b off vs vo, ad = some ⟨b, off, none⟩ ∧ CellsAt wr b (off + k * 12) (pastCells ps[k] vs vo) ∧ PastAt wr vs vo ps[k] := by
        rcases unhide HC with h | ⟨b, off, h1, h2⟩
        · rw [h] at hlt; exact absurd hlt (Nat.not_lt_zero _)
        · obtain ⟨vs, vo, h3, h4⟩ := h2 k hlt
          exact ⟨b, off, vs, vo, h1, h3.on (unhide HB), h4.on (unhide HB)⟩
      have hkI : (k : Int) < (ps.length : Int) := by omega
      have hk0 : (0 : Int) ≤ (k : Int) := by omega
      subst had
      obtain ⟨p, hpe⟩ : ∃ p, p = ps[k] := ⟨_, rfl⟩
      rw [← hpe] at hc hp
      have HPE := hide hpe
      clear hpe
      have q0 : wr.cell? ⟨b, off + k * 12, none⟩ = some (.int .i64 p.ev.time) := hc 0 (by simp)
      have q1 : wr.cell? ⟨b, off + k * 12 + 1, none⟩ = some (.int .i64 p.ev.to) := hc 1 (by simp)
      have q2 : wr.cell? ⟨b, off + k * 12 + 2, none⟩ = some (.int .i64 p.ev.src) := hc 2 (by simp)
      have q3 : wr.cell? ⟨b, off + k * 12 + 3, none⟩ = some (.int .i64 p.ev.count) := hc 3 (by simp)
      have q4 : wr.cell? ⟨b, off + k * 12 + 4, none⟩ = some (.int .i64 p.ev.n) := hc 4 (by simp)
      have q5 : wr.cell? ⟨b, off + k * 12 + 5, none⟩ = some (.int .i64 p.ev.kind) := hc 5 (by simp)
      have q6 : wr.cell? ⟨b, off + k * 12 + 6, none⟩ = some (.int .i64 p.ev.arg) := hc 6 (by simp)
      have q7 : wr.cell? ⟨b, off + k * 12 + 7, none⟩ = some (.int .i64 p.st.x) := hc 7 (by simp)
      have q8 : wr.cell? ⟨b, off + k * 12 + 8, none⟩ = some (.int .i64 p.st.y) := hc 8 (by simp)
      have q9 : wr.cell? ⟨b, off + k * 12 + 9, none⟩ = some (.int .i64 p.st.c) := hc 9 (by simp)
      have q10 : wr.cell? ⟨b, off + k * 12 + 10, none⟩ = some (vs) := hc 10 (by simp)
      have q11 : wr.cell? ⟨b, off + k * 12 + 11, none⟩ = some (vo) := hc 11 (by simp)
      have HP := hide hp
      clear hc hp
      go_wp2_with fail
      refine (szPast_any p vs vo r wr (unhide HP) hr0 (by omega)).mono ?_
      rintro e w3 ⟨r3, rfl, hr3, hb3⟩
      have hB3 := below_then (unhide HB) hb3
      rcases hr3 with rfl | ⟨h30, h31, h32, h33⟩
      · go_wp2_with fail
        go_ret
        exact ⟨-1, rfl, Or.inl rfl, hB3⟩
      · go_wp2_with fail
        go_roundw
        case rel =>
          refine ⟨k + 1, r3, by omega, by simp, rfl, h30, by omega, hide (fun i hi hik => ?_), hide hB3⟩
          by_cases e : i = k
          · subst e; rw [← unhide HPE]; exact ⟨by omega, by omega⟩
          · exact (unhide HL) i hi (by omega)
        case measure => (simp [intOf]; try omega)
    · have hke : k = ps.length := by omega
      go_wp2_with fail
      go_ret
      refine ⟨r, rfl, Or.inr ⟨hr0, hr1, by omega, fun p hp => ?_⟩, unhide HB⟩
      obtain ⟨i, hi, rfl⟩ := List.getElem_of_mem hp
      exact (unhide HL) i hi (by omega)

set_option maxRecDepth 100000 in
theorem szLane_any (proc : Int) (s : StV) (v : Value) (ps : List PastV) (left : Int) (w : World) (h : PastsAt w v ps) (h0 : 0 ≤ left) (h1 : left ≤ 1048576) :
    Calls Try.prog 8 #[laneAgg proc s v, .int .i64 left] w fun e w' => ∃ r, e = .returned (.int .i64 r) ∧ (r = -1 ∨ 0 ≤ r ∧ r ≤ left ∧ (ps.length : Int) ≤ left ∧ ∀ p ∈ ps, (p.sends.length : Int) ≤ left ∧ (p.outs.length : Int) ≤ left) ∧ Below w.heap.size w w' := by
  have H := hide h
  obtain ⟨a1, c1, e1, _⟩ := h
  subst e1
  have hb0 : Below w.heap.size w (w.alloc (.cells #[.int .i64 proc, .int .i64 s.x, .int .i64 s.y, .int .i64 s.c, .slice a1 ps.length c1] 26)) := (Below.refl _ _).alloc (Nat.le_refl _) _
  go_enter Try.func8, Try.ntmps8
  go_wp2_with fail
  refine (szPastS_any _ ps left _ ((unhide H).on hb0) h0 h1).mono ?_
  rintro e w2 ⟨r, rfl, hr, hb2⟩
  have hB2 := below_then hb0 hb2
  rcases hr with rfl | ⟨hr0, hr1, hr2, hr3⟩
  · go_wp2_with fail
    go_ret
    exact ⟨-1, rfl, Or.inl rfl, hB2⟩
  · have HR3 := hide hr3
    clear hr3
    go_wp2_with fail
    go_ret
    exact ⟨r, rfl, Or.inr ⟨hr0, hr1, hr2, unhide HR3⟩, hB2⟩
end Go.Proofs.Ytjdaedcpjfcpjaa
