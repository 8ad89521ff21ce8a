/- Contracts of the exact laws' functions over lists of Out: eq, sz, to, mark, held. -/
import Derived.Test.YtiljjhipiinafaaFlatEvent
namespace Go.Proofs.Ytiljjhipiinafaa
open Go.RowKit
set_option linter.unusedVariables false

theorem eqOut_any (x0 x1 x2 x3 x4 : Int) (w : World) :
    Calls Try.prog 107 #[.agg #[.int .i64 x0, .int .i64 x1, .int .i64 x2, .int .i64 x3, .int .i64 x4], .agg #[.int .i64 x0, .int .i64 x1, .int .i64 x2, .int .i64 x3, .int .i64 x4]] w fun e w' => e = .returned (.bool true) ∧ Below w.heap.size w w' := by
  have e1 : ∀ x : Int, (x != x) = false := by intro x; simp
  go_enter Try.func107, Try.ntmps107
  go_wp2
  go_ret
  exact ⟨rfl, ((Below.refl _ _).alloc (Nat.le_refl _) _).alloc (by simp) _⟩

set_option maxRecDepth 100000 in
set_option maxHeartbeats 1000000 in
theorem eqOutS_any (v1 v2 : Value) (rs : List (List Int)) (w : World) (h1 : RowsAt 5 w v1 rs) (h2 : RowsAt 5 w v2 rs) :
    Calls Try.prog 70 #[v1, v2] w fun e w' => e = .returned (.bool true) ∧ Below w.heap.size w w' := by
  obtain ⟨ad1, cap1, rfl, hl1, hm, hc1⟩ := h1
  obtain ⟨ad2, cap2, rfl, hl2, _, hc2⟩ := h2
  unfold maxLen at hm
  have hne0 : ((rs.length : Int) != (rs.length : Int)) = false := by simp
  have H1 := hide hc1
  have H2 := hide hc2
  clear hc1 hc2
  go_enter Try.func70, Try.ntmps70
  go_wp2_with fail
  go_loopw [5] (fun i wr => ∃ k : Nat, k ≤ rs.length ∧ i = .int .i64 k ∧ Below w.heap.size w wr) (fun i _ => rs.length - (intOf i).toNat)
  case atStart => exact ⟨0, Nat.zero_le _, rfl, Below.refl _ _⟩
  case round =>
    obtain ⟨k, hk, rfl, hb⟩ := hrel
    by_cases hlt : k < rs.length
    · obtain ⟨b1, off1, had1, hc1⟩ : ∃ b off, ad1 = some ⟨b, off, none⟩ ∧ ∀ j, j < 5 → wr.cell? ⟨b, off + k * 5 + j, none⟩ = some (.int .i64 (rs[k].getD j 0)) := by
        rcases unhide H1 with h | ⟨b, off, h1, h2⟩
        · rw [h] at hlt; exact absurd hlt (Nat.not_lt_zero _)
        · exact ⟨b, off, h1, fun j hj => cell_on hb (h2 k hlt j hj)⟩
      obtain ⟨b2, off2, had2, hc2⟩ : ∃ b off, ad2 = some ⟨b, off, none⟩ ∧ ∀ j, j < 5 → wr.cell? ⟨b, off + k * 5 + j, none⟩ = some (.int .i64 (rs[k].getD j 0)) := by
        rcases unhide H2 with h | ⟨b, off, h1, h2⟩
        · rw [h] at hlt; exact absurd hlt (Nat.not_lt_zero _)
        · exact ⟨b, off, h1, fun j hj => cell_on hb (h2 k hlt j hj)⟩
      have hkI : (k : Int) < (rs.length : Int) := by omega
      have hk0 : (0 : Int) ≤ (k : Int) := by omega
      subst had1 had2
      have p0 := hc1 0 (by omega)
      have r0 := hc2 0 (by omega)
      have p1 := hc1 1 (by omega)
      have r1 := hc2 1 (by omega)
      have p2 := hc1 2 (by omega)
      have r2 := hc2 2 (by omega)
      have p3 := hc1 3 (by omega)
      have r3 := hc2 3 (by omega)
      have p4 := hc1 4 (by omega)
      have r4 := hc2 4 (by omega)
      clear hc1 hc2
      simp only [Nat.add_zero] at p0 r0
      generalize rs[k].getD 0 0 = x0 at p0 r0
      generalize rs[k].getD 1 0 = x1 at p1 r1
      generalize rs[k].getD 2 0 = x2 at p2 r2
      generalize rs[k].getD 3 0 = x3 at p3 r3
      generalize rs[k].getD 4 0 = x4 at p4 r4
      have q10 : ∀ y : On wr, y.y.cell? ⟨b1, off1 + k * 5, none⟩ = some (.int .i64 x0) := fun y => cell_on y.h p0
      have q20 : ∀ y : On wr, y.y.cell? ⟨b2, off2 + k * 5, none⟩ = some (.int .i64 x0) := fun y => cell_on y.h r0
      have q11 : ∀ y : On wr, y.y.cell? ⟨b1, off1 + k * 5 + 1, none⟩ = some (.int .i64 x1) := fun y => cell_on y.h p1
      have q21 : ∀ y : On wr, y.y.cell? ⟨b2, off2 + k * 5 + 1, none⟩ = some (.int .i64 x1) := fun y => cell_on y.h r1
      have q12 : ∀ y : On wr, y.y.cell? ⟨b1, off1 + k * 5 + 2, none⟩ = some (.int .i64 x2) := fun y => cell_on y.h p2
      have q22 : ∀ y : On wr, y.y.cell? ⟨b2, off2 + k * 5 + 2, none⟩ = some (.int .i64 x2) := fun y => cell_on y.h r2
      have q13 : ∀ y : On wr, y.y.cell? ⟨b1, off1 + k * 5 + 3, none⟩ = some (.int .i64 x3) := fun y => cell_on y.h p3
      have q23 : ∀ y : On wr, y.y.cell? ⟨b2, off2 + k * 5 + 3, none⟩ = some (.int .i64 x3) := fun y => cell_on y.h r3
      have q14 : ∀ y : On wr, y.y.cell? ⟨b1, off1 + k * 5 + 4, none⟩ = some (.int .i64 x4) := fun y => cell_on y.h p4
      have q24 : ∀ y : On wr, y.y.cell? ⟨b2, off2 + k * 5 + 4, none⟩ = some (.int .i64 x4) := fun y => cell_on y.h r4
      clear p0 r0 p1 r1 p2 r2 p3 r3 p4 r4
      go_wp2_with fail
      have hne : Nonempty (On wr) := ⟨⟨wr, Below.refl _ _⟩⟩
      refine wp_region_on (by kernel_rfl) (by kernel_rfl) ?_
      repeat (first | go_big_quiet_step ((go_at_call 107; exact calls_on (eqOut_any x0 x1 x2 x3 x4 _))) | quiet_step ((go_at_call 107; exact calls_on (eqOut_any x0 x1 x2 x3 x4 _))))
      refine wpQuiet_nil ?_
      intro _ hw'
      obtain ⟨nq, hw''⟩ := hw'
      subst hw''
      go_wp2_with fail
      go_roundw
      case rel => exact ⟨k + 1, by omega, by go_num, below_then hb nq.h⟩
      case measure => simp [intOf]; omega
    · go_wp2_with fail
      go_ret
      exact ⟨rfl, hb⟩

theorem szOutS_any (v : Value) (rs : List (List Int)) (left : Int) (w : World) (h : RowsAt 5 w v rs) (h0 : 0 ≤ left) (h1 : left ≤ 1048576) :
    Calls Try.prog 64 #[v, .int .i64 left] w fun e w' => ∃ r, e = .returned (.int .i64 r) ∧ (r = -1 ∧ left < rs.length ∨ 0 ≤ r ∧ r = left - rs.length) ∧ w' = w := by
  obtain ⟨ad, cap, rfl, hlc, hm, _⟩ := h
  unfold maxLen at hm
  rcases Int.lt_or_le left (rs.length : Int) with h | h
  · go_enter Try.func64, Try.ntmps64
    go_wp2
    go_ret
    exact ⟨-1, rfl, Or.inl ⟨rfl, h⟩, rfl⟩
  · go_enter Try.func64, Try.ntmps64
    go_wp2
    go_ret
    exact ⟨_, rfl, Or.inr ⟨by omega, rfl⟩, rfl⟩

theorem toOut_any (x0 x1 x2 x3 x4 : Int) (w : World) :
    Calls Try.prog 105 #[.agg #[.int .i64 x0, .int .i64 x1, .int .i64 x2, .int .i64 x3, .int .i64 x4]] w fun e w' => e = .returned (.agg #[.int .i64 x0, .int .i64 x1, .int .i64 x2, .int .i64 x3, .int .i64 x4]) ∧ Below w.heap.size w w' := by
  go_enter Try.func105, Try.ntmps105
  go_wp2
  exact bodyPost_ret (v := .agg #[.int .i64 x0, .int .i64 x1, .int .i64 x2, .int .i64 x3, .int .i64 x4]) (by simp [results, Try.results105, go_sem]) rfl ⟨rfl, (((Below.refl _ _).alloc (Nat.le_refl _) _).alloc (by simp) _).alloc (by simp; omega) _⟩

theorem slice_Out : Try.prog.underlying 25 = some (.slice 56) := by kernel_rfl
theorem info_Out : (Try.prog.info? 56).map (fun i => (i.zero, i.size, i.bytes)) = some (some (.agg #[.int .i64 0, .int .i64 0, .int .i64 0, .int .i64 0, .int .i64 0]), 5, 40) := by kernel_rfl

set_option maxRecDepth 100000 in
set_option maxHeartbeats 1000000 in
theorem toOutS_any (v : Value) (rs : List (List Int)) (w : World) (h : RowsAt 5 w v rs) (hlen : rs.length ≤ 1048576) :
    Calls Try.prog 67 #[v] w fun e w' => ∃ v', e = .returned v' ∧ RowsFr w.heap.size 56 5 w' v' rs ∧ Below w.heap.size w w' := by
  obtain ⟨ad, cap, rfl, hlc, hm, hcells⟩ := h
  have HMX := hide hm
  clear hm
  have hmk := run_make_n (P := Try.prog) 25 56 _ 5 40 slice_Out info_Out rs.length (by omega) (by omega)
  have HC := hide hcells
  clear hcells
  go_enter Try.func67, Try.ntmps67
  go_wp2_with fail
  have hb1 : Below w.heap.size w (w.alloc (.cells (madeCells #[.int .i64 0, .int .i64 0, .int .i64 0, .int .i64 0, .int .i64 0] (rs.length * 5)) 56)) := (Below.refl _ _).alloc (Nat.le_refl _) _
  have hr1 := row_made w #[.int .i64 0, .int .i64 0, .int .i64 0, .int .i64 0, .int .i64 0] (rs.length * 5) 56
  clear hmk
  generalize w.alloc (.cells (madeCells #[.int .i64 0, .int .i64 0, .int .i64 0, .int .i64 0, .int .i64 0] (rs.length * 5)) 56) = w1 at *
  go_loopw [4] (fun i wr => ∃ (k : Nat) (f : Nat → Value), k ≤ rs.length ∧ i = .int .i64 k ∧ wr.rowIs w.heap.size 56 (rs.length * 5) f ∧ RowsIn 5 f rs k ∧ Below w.heap.size w wr) (fun i _ => rs.length - (intOf i).toNat)
  case atStart => exact ⟨0, _, Nat.zero_le _, rfl, hr1, fun j _ h => absurd h (Nat.not_lt_zero _), hb1⟩
  case round =>
    obtain ⟨k, f, hk, rfl, hrow, hin, hb⟩ := hrel
    have HROW := hide hrow
    have HIN := hide hin
    clear hrow hin hr1
    by_cases hlt : k < rs.length
    · obtain ⟨b, off, had, hc⟩ : ∃ b off, ad = some ⟨b, off, none⟩ ∧ ∀ j, j < 5 → wr.cell? ⟨b, off + k * 5 + j, none⟩ = some (.int .i64 (rs[k].getD j 0)) := by
        rcases unhide HC with h | ⟨b, off, h1, h2⟩
        · rw [h] at hlt; exact absurd hlt (Nat.not_lt_zero _)
        · exact ⟨b, off, h1, fun j hj => cell_on hb (h2 k hlt j hj)⟩
      subst had
      have c0 := hc 0 (by omega)
      have c1 := hc 1 (by omega)
      have c2 := hc 2 (by omega)
      have c3 := hc 3 (by omega)
      have c4 := hc 4 (by omega)
      clear hc
      simp only [Nat.add_zero] at c0
      obtain ⟨x0, e0⟩ : ∃ x, x = rs[k].getD 0 0 := ⟨_, rfl⟩
      rw [← e0] at c0
      obtain ⟨x1, e1⟩ : ∃ x, x = rs[k].getD 1 0 := ⟨_, rfl⟩
      rw [← e1] at c1
      obtain ⟨x2, e2⟩ : ∃ x, x = rs[k].getD 2 0 := ⟨_, rfl⟩
      rw [← e2] at c2
      obtain ⟨x3, e3⟩ : ∃ x, x = rs[k].getD 3 0 := ⟨_, rfl⟩
      rw [← e3] at c3
      obtain ⟨x4, e4⟩ : ∃ x, x = rs[k].getD 4 0 := ⟨_, rfl⟩
      rw [← e4] at c4
      have HX : Hid (x0 = rs[k].getD 0 0 ∧ x1 = rs[k].getD 1 0 ∧ x2 = rs[k].getD 2 0 ∧ x3 = rs[k].getD 3 0 ∧ x4 = rs[k].getD 4 0) := hide ⟨e0, e1, e2, e3, e4⟩
      clear e0 e1 e2 e3 e4
      go_wp2_with fail
      refine (toOut_any x0 x1 x2 x3 x4 _).mono ?_
      rintro e w3 ⟨rfl, hb3⟩
      have hr3 := (unhide HROW).of_block (hb3.block _ (unhide HROW).lt)
      have g0 := hr3.cell (i := k * 5) (by omega)
      have z0 := hr3.frozen (k * 5)
      have g1 := hr3.cell (i := k * 5 + 1) (by omega)
      have z1 := hr3.frozen (k * 5 + 1)
      have g2 := hr3.cell (i := k * 5 + 2) (by omega)
      have z2 := hr3.frozen (k * 5 + 2)
      have g3 := hr3.cell (i := k * 5 + 3) (by omega)
      have z3 := hr3.frozen (k * 5 + 3)
      have g4 := hr3.cell (i := k * 5 + 4) (by omega)
      have z4 := hr3.frozen (k * 5 + 4)
      have HR3 := hide hr3
      clear hr3 c0 c1 c2 c3 c4
      go_wp2_with fail
      go_roundw
      case rel =>
        obtain ⟨f', q1, q2⟩ := row_step (n := 5) hlt [x0, x1, x2, x3, x4] rfl (fun j hj => by
          match j, hj with
          | 0, _ => exact (unhide HX).1
          | 1, _ => exact (unhide HX).2.1
          | 2, _ => exact (unhide HX).2.2.1
          | 3, _ => exact (unhide HX).2.2.2.1
          | 4, _ => exact (unhide HX).2.2.2.2
          ) (unhide HR3) (unhide HIN)
        exact ⟨k + 1, f', by omega, by go_num, q1, q2, setRow_below [x0, x1, x2, x3, x4] (k * 5) _ (below_then hb hb3) (Nat.le_refl _)⟩
      case measure => simp [intOf]; omega
    · have hke : k = rs.length := by omega
      subst hke
      go_wp2_with fail
      go_ret
      exact ⟨_, rfl, Or.inr ⟨_, _, f, rfl, Nat.le_refl _, Nat.le_refl _, unhide HMX, unhide HROW, unhide HIN⟩, hb⟩

set_option maxRecDepth 100000 in
set_option maxHeartbeats 2000000 in
theorem markOutS_any (N t : Nat) (v : Value) (len : Nat) (k0 : Int) (w : World) (h : RoomFr N t 5 w v len) (hlen : len ≤ 1000000000) (h0 : 0 ≤ k0) (h1 : k0 ≤ 1000000000000000) :
    Calls Try.prog 73 #[v, .int .i64 k0] w fun e w' => e = .returned (.int .i64 (k0 + 5 * len)) ∧ RowsFr N t 5 w' v (markRows 5 k0 len) ∧ OnlyOf v w w' := by
  rcases h with ⟨rfl, rfl⟩ | ⟨g, cap, f0, rfl, hN, hl, hm, hr⟩
  · go_enter Try.func73, Try.ntmps73
    go_wp2_with fail
    go_loop [1, 5] (fun a i => a = .int .i64 k0 ∧ i = .int .i64 0) (fun _ _ => 0)
    case atStart => exact ⟨rfl, rfl⟩
    case round =>
      obtain ⟨rfl, rfl⟩ := hrel
      go_wp2
      go_ret
      exact ⟨ret_int (by simp), Or.inl ⟨rfl, rfl⟩, OnlyOf.refl _ _⟩
  · have HMX := hide hm
    unfold maxLen at hm
    have HR := hide hr
    have HN := hide hN
    clear hr hN
    have hcap : len ≤ cap := hl
    go_enter Try.func73, Try.ntmps73
    go_wp2_with fail
    go_loopw [1, 5] (fun a i wr => ∃ (k : Nat) (m : Int) (f : Nat → Value), k ≤ len ∧ i = .int .i64 k ∧ a = .int .i64 m ∧ Hid (m = k0 + ((5 * k : Nat) : Int)) ∧ 0 ≤ m ∧ m ≤ 1000000000000000 + 5 * 1000000000 ∧ Hid (wr.rowIs g t (cap * 5) f) ∧ Hid (RowsIn 5 f (markRows 5 k0 len) k) ∧ Hid (OnlyOf (.slice (some ⟨g, 0, none⟩) len cap) w wr)) (fun _ i _ => len - (intOf i).toNat)
    case atStart => exact ⟨0, k0, f0, Nat.zero_le _, rfl, rfl, hide (by simp), h0, by omega, hide (unhide HR), hide (fun j _ h => absurd h (Nat.not_lt_zero _)), hide (OnlyOf.refl _ _)⟩
    case round =>
      obtain ⟨k, m, f, hk, rfl, rfl, HM, hm0, hm1, HROW, HIN, HO⟩ := hrel
      by_cases hlt : k < len
      · have hrow := unhide HROW
        have hkI : (k : Int) < (len : Int) := by omega
        have g0 := hrow.cell (i := k * 5) (by omega)
        have z0 := hrow.frozen (k * 5)
        have g1 := hrow.cell (i := k * 5 + 1) (by omega)
        have z1 := hrow.frozen (k * 5 + 1)
        have g2 := hrow.cell (i := k * 5 + 2) (by omega)
        have z2 := hrow.frozen (k * 5 + 2)
        have g3 := hrow.cell (i := k * 5 + 3) (by omega)
        have z3 := hrow.frozen (k * 5 + 3)
        have g4 := hrow.cell (i := k * 5 + 4) (by omega)
        have z4 := hrow.frozen (k * 5 + 4)
        clear hrow
        have hm2 : m + 5 ≤ 1000000000000000 + 5 * 1000000000 := by have := unhide HM; omega
        go_wp2_with fail
        go_roundw
        case rel =>
          obtain ⟨f', q1, q2⟩ := row_step (n := 5) (rs := markRows 5 k0 len) (by rw [markRows_length]; exact hlt) [m, m + 1, m + 1 + 1, m + 1 + 1 + 1, m + 1 + 1 + 1 + 1] rfl (fun j hj => by
          rw [markRows_at 5 k0 len k (by rw [markRows_length]; exact hlt) j hj]
          have := unhide HM
          match j, hj with
          | 0, _ => simp; omega
          | 1, _ => simp; omega
          | 2, _ => simp; omega
          | 3, _ => simp; omega
          | 4, _ => simp; omega
          ) (unhide HROW) (unhide HIN)
          exact ⟨k + 1, m + 5, f', by omega, by go_num, by go_num, hide (by have := unhide HM; omega), by omega, by omega, hide q1, hide q2, hide ((unhide HO).row (k * 5) [m, m + 1, m + 1 + 1, m + 1 + 1 + 1, m + 1 + 1 + 1 + 1])⟩
        case measure => simp [intOf]; omega
      · have hke : k = len := by omega
        subst hke
        go_wp2_with fail
        go_ret
        exact ⟨ret_int (by have := unhide HM; omega), Or.inr ⟨g, cap, f, by rw [markRows_length], unhide HN, by rw [markRows_length]; exact hl, unhide HMX, unhide HROW, by rw [markRows_length]; exact unhide HIN⟩, unhide HO⟩

set_option maxRecDepth 100000 in
set_option maxHeartbeats 2000000 in
theorem heldOutS_any (v : Value) (len : Nat) (k0 : Int) (w : World) (h : RowsAt 5 w v (markRows 5 k0 len)) (hlen : len ≤ 1000000000) (h0 : 0 ≤ k0) (h1 : k0 ≤ 1000000000000000) :
    Calls Try.prog 77 #[v, .int .i64 k0] w fun e w' => e = .returned (.int .i64 (k0 + 5 * len)) ∧ w' = w := by
  obtain ⟨ad, cap, rfl, hl, hm, hc⟩ := h
  rw [markRows_length] at hl hm ⊢
  have HC := hide hc
  clear hc
  unfold maxLen at hm
  have hne : ∀ x : Int, (x != x) = false := by intro x; simp
  go_enter Try.func77, Try.ntmps77
  go_wp2_with fail
  go_loop [1, 5] (fun a i => ∃ (k : Nat) (m : Int), k ≤ len ∧ i = .int .i64 k ∧ a = .int .i64 m ∧ Hid (m = k0 + ((5 * k : Nat) : Int)) ∧ 0 ≤ m ∧ m ≤ 1000000000000000 + 5 * 1000000000) (fun _ i => len - (intOf i).toNat)
  case atStart => exact ⟨0, k0, Nat.zero_le _, rfl, rfl, hide (by simp), h0, by omega⟩
  case round =>
    obtain ⟨k, m, hk, rfl, rfl, HM, hm0, hm1⟩ := hrel
    by_cases hlt : k < len
    · obtain ⟨b, off, had, hcc⟩ : ∃ b off, ad = some ⟨b, off, none⟩ ∧ ∀ j, j < 5 → w.cell? ⟨b, off + k * 5 + j, none⟩ = some (.int .i64 (m + (j : Int))) := by
        rcases unhide HC with h | ⟨b, off, h1, h2⟩
        · have := congrArg List.length h
          rw [markRows_length] at this
          simp at this; omega
        · refine ⟨b, off, h1, fun j hj => ?_⟩
          rw [h2 k (by rw [markRows_length]; exact hlt) j hj, markRows_at 5 k0 len k (by rw [markRows_length]; exact hlt) j hj]
          have := unhide HM
          congr 2
          omega
      subst had
      have hkI : (k : Int) < (len : Int) := by omega
      have c0 : w.cell? ⟨b, off + k * 5, none⟩ = some (.int .i64 (m)) := by simpa using hcc 0 (by omega)
      have c1 : w.cell? ⟨b, off + k * 5 + 1, none⟩ = some (.int .i64 (m + 1)) := by simpa using hcc 1 (by omega)
      have c2 : w.cell? ⟨b, off + k * 5 + 2, none⟩ = some (.int .i64 (m + 2)) := by simpa using hcc 2 (by omega)
      have c3 : w.cell? ⟨b, off + k * 5 + 3, none⟩ = some (.int .i64 (m + 3)) := by simpa using hcc 3 (by omega)
      have c4 : w.cell? ⟨b, off + k * 5 + 4, none⟩ = some (.int .i64 (m + 4)) := by simpa using hcc 4 (by omega)
      clear hcc
      have hm2 : m + 5 ≤ 1000000000000000 + 5 * 1000000000 := by have := unhide HM; omega
      go_wp2
      go_round
      case rel => exact ⟨k + 1, m + 5, by omega, by go_num, by go_num, hide (by have := unhide HM; omega), by omega, by omega⟩
      case measure => simp [intOf]; omega
    · have hke : k = len := by omega
      subst hke
      go_wp2
      go_ret
      exact ⟨ret_int (by have := unhide HM; omega), rfl⟩

end Go.Proofs.Ytiljjhipiinafaa
