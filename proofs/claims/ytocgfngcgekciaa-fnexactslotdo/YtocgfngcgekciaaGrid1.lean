/- Lists of lists of numbers, slots, disks, as they lie in memory; the exact laws' eq of them. -/
import Derived.Test.YtocgfngcgekciaaSCopy
namespace Go.Proofs.Ytocgfngcgekciaa
open Go.RowKit
set_option linter.unusedVariables false
set_option linter.unusedSimpArgs false


/-- A list of lists of numbers, wherever it lies. -/
def GridAt (w : World) (v : Value) (ls : List (List Int)) : Prop :=
  ∃ (ad : Option Addr) (cap : Nat), v = .slice ad ls.length cap ∧ ls.length ≤ cap ∧ ls.length ≤ maxLen ∧
    (ls = [] ∨ ∃ b off, ad = some ⟨b, off, none⟩ ∧ ∀ i (h : i < ls.length), ∃ vd, w.cell? ⟨b, off + i, none⟩ = some vd ∧ NumsAt w vd ls[i])

theorem GridAt.on {w w' : World} {v : Value} {ls : List (List Int)} (hb : Below w.heap.size w w') (h : GridAt w v ls) : GridAt w' v ls := by
  obtain ⟨ad, cap, hv, hl, hm, h⟩ := h
  refine ⟨ad, cap, hv, hl, hm, ?_⟩
  rcases h with h | ⟨b, off, had, hc⟩
  · exact Or.inl h
  · refine Or.inr ⟨b, off, had, fun i hi => ?_⟩
    obtain ⟨vd, h1, h2⟩ := hc i hi
    exact ⟨vd, cell_on hb h1, h2.on hb⟩

theorem GridAt.sliced {w : World} {v : Value} {ls : List (List Int)} (h : GridAt w v ls) : ∃ a c, v = .slice a ls.length c := by
  obtain ⟨ad, cap, hv, _⟩ := h; exact ⟨ad, cap, hv⟩

theorem GridAt.row {w : World} {ad : Option Addr} {c n : Nat} {ls : List (List Int)} (h : GridAt w (.slice ad n c) ls) {i : Nat} (hi : i < ls.length) :
    ∃ b off vd, ad = some ⟨b, off, none⟩ ∧ w.cell? ⟨b, off + i, none⟩ = some vd ∧ NumsAt w vd ls[i] := by
  obtain ⟨ad', cap, hv, hl, hm, h⟩ := h
  simp only [Value.slice.injEq] at hv
  obtain ⟨rfl, _, _⟩ := hv
  rcases h with h | ⟨b, off, had, hc⟩
  · rw [h] at hi; exact absurd hi (Nat.not_lt_zero _)
  · obtain ⟨vd, h1, h2⟩ := hc i hi
    exact ⟨b, off, vd, had, h1, h2⟩

theorem GridAt.len {w : World} {v : Value} {ls : List (List Int)} (h : GridAt w v ls) : ls.length ≤ maxLen := by
  obtain ⟨_, _, _, _, h, _⟩ := h; exact h

set_option maxRecDepth 100000 in
set_option maxHeartbeats 1000000 in
theorem eqIntSS_any (v1 v2 : Value) (ls : List (List Int)) (w : World) (h1 : GridAt w v1 ls) (h2 : GridAt w v2 ls) :
    Calls Try.prog 84 #[v1, v2] w fun e w' => e = .returned (.bool true) ∧ Below w.heap.size w w' := by
  have hm := h1.len
  obtain ⟨ad1, cap1, rfl⟩ := h1.sliced
  obtain ⟨ad2, cap2, rfl⟩ := h2.sliced
  unfold maxLen at hm
  have hne0 : ((ls.length : Int) != (ls.length : Int)) = false := by simp
  have H1 := hide h1
  have H2 := hide h2
  clear h1 h2
  go_enter Try.func84, Try.ntmps84
  go_wp2_with fail
  go_loopw [5] (fun i wr => ∃ k : Nat, k ≤ ls.length ∧ i = .int .i64 k ∧ Below w.heap.size w wr) (fun i _ => ls.length - (intOf i).toNat)
  case atStart => exact ⟨0, Nat.zero_le _, rfl, Below.refl _ _⟩
  case round =>
    obtain ⟨k, hk, rfl, hb⟩ := hrel
    by_cases hlt : k < ls.length
    · obtain ⟨b1, off1, vd1, had1, hc1, hp1⟩ := ((unhide H1).on hb).row hlt
      obtain ⟨b2, off2, vd2, had2, hc2, hp2⟩ := ((unhide H2).on hb).row hlt
      have hkI : (k : Int) < (ls.length : Int) := by omega
      have hk0 : (0 : Int) ≤ (k : Int) := by omega
      subst had1 had2
      generalize ls[k] = l at *
      have q1 : ∀ y : On wr, y.y.cell? ⟨b1, off1 + k, none⟩ = some vd1 := fun y => cell_on y.h hc1
      have q2 : ∀ y : On wr, y.y.cell? ⟨b2, off2 + k, none⟩ = some vd2 := fun y => cell_on y.h hc2
      have HP1 := hide hp1
      have HP2 := hide hp2
      clear hc1 hc2 hp1 hp2
      go_wp2_with fail
      have hne : Nonempty (On wr) := ⟨⟨wr, Below.refl _ _⟩⟩
      refine wp_region_on (by kernel_rfl) (by kernel_rfl) ?_
      repeat (first | go_big_quiet_step ((go_at_call 31; exact calls_on (eqIntS_any vd1 vd2 l _ ((unhide HP1).on (On.h _)) ((unhide HP2).on (On.h _))))) | quiet_step ((go_at_call 31; exact calls_on (eqIntS_any vd1 vd2 l _ ((unhide HP1).on (On.h _)) ((unhide HP2).on (On.h _))))))
      refine wpQuiet_nil ?_
      intro _ hw'
      obtain ⟨nq, hw''⟩ := hw'
      subst hw''
      go_wp2_with fail
      go_roundw
      case rel => exact ⟨k + 1, by omega, by simp, below_then hb nq.h⟩
      case measure => (simp [intOf]; try omega)
    · go_wp2_with fail
      go_ret
      exact ⟨rfl, hb⟩

/-! Slots and disks. -/
structure SlotV where
  num : Int
  cnt : Int
  rows : List (List Int)
structure DiskV where
  a : SlotV
  b : SlotV

abbrev slotCells (s : SlotV) (v : Value) : List Value := [.int .i64 s.num, .int .i64 s.cnt, v]
abbrev slotAgg (s : SlotV) (v : Value) : Value := .agg #[.int .i64 s.num, .int .i64 s.cnt, v]
abbrev diskCells (d : DiskV) (va vb : Value) : List Value := [.int .i64 d.a.num, .int .i64 d.a.cnt, va, .int .i64 d.b.num, .int .i64 d.b.cnt, vb]
abbrev diskAgg (d : DiskV) (va vb : Value) : Value := .agg #[.int .i64 d.a.num, .int .i64 d.a.cnt, va, .int .i64 d.b.num, .int .i64 d.b.cnt, vb]

/-- The lists of a disk. -/
structure DiskAt (w : World) (d : DiskV) (va vb : Value) : Prop where
  a : GridAt w va d.a.rows
  b : GridAt w vb d.b.rows
theorem DiskAt.on {w w' : World} {d : DiskV} {va vb : Value} (hb : Below w.heap.size w w') (h : DiskAt w d va vb) : DiskAt w' d va vb := ⟨h.a.on hb, h.b.on hb⟩

set_option maxRecDepth 100000 in
theorem eqSlot_any (s : SlotV) (v1 v2 : Value) (w : World) (h1 : GridAt w v1 s.rows) (h2 : GridAt w v2 s.rows) :
    Calls Try.prog 59 #[slotAgg s v1, slotAgg s v2] w fun e w' => e = .returned (.bool true) ∧ Below w.heap.size w w' := by
  have H1 := hide h1
  have H2 := hide h2
  obtain ⟨a1, c1, e1⟩ := h1.sliced
  obtain ⟨a2, c2, e2⟩ := h2.sliced
  subst e1 e2
  have hqm : ∀ z : Int, (z != z) = false := by intro z; simp
  go_enter Try.func59, Try.ntmps59
  have hb0 : Below w.heap.size w ((w.alloc (.cells #[.int .i64 s.num, .int .i64 s.cnt, .slice a1 s.rows.length c1] 25)).alloc (.cells #[.int .i64 s.num, .int .i64 s.cnt, .slice a2 s.rows.length c2] 25)) := ((Below.refl _ _).alloc (Nat.le_refl _) _).alloc (by simp) _
  have HB0 := hide hb0
  clear hb0
  go_wp2_with fail
  refine (eqIntSS_any _ _ s.rows _ ((unhide H1).on (unhide HB0)) ((unhide H2).on (unhide HB0))).mono ?_
  rintro e w3 ⟨rfl, hb3⟩
  have hB3 := below_then (unhide HB0) hb3
  go_wp2_with fail
  go_ret
  exact ⟨rfl, hB3⟩

set_option maxRecDepth 100000 in
set_option maxHeartbeats 1000000 in
theorem eqSlotDisk_any (d : DiskV) (va vb ua ub : Value) (w : World) (h1 : DiskAt w d va vb) (h2 : DiskAt w d ua ub) :
    Calls Try.prog 25 #[diskAgg d va vb, diskAgg d ua ub] w fun e w' => e = .returned (.bool true) ∧ Below w.heap.size w w' := by
  have H1 := hide h1
  have H2 := hide h2
  obtain ⟨a1, c1, e1⟩ := h1.a.sliced
  obtain ⟨a2, c2, e2⟩ := h1.b.sliced
  obtain ⟨a3, c3, e3⟩ := h2.a.sliced
  obtain ⟨a4, c4, e4⟩ := h2.b.sliced
  subst e1 e2 e3 e4
  have hb0 : Below w.heap.size w ((w.alloc (.cells (diskCells d (.slice a1 d.a.rows.length c1) (.slice a2 d.b.rows.length c2)).toArray 27)).alloc (.cells (diskCells d (.slice a3 d.a.rows.length c3) (.slice a4 d.b.rows.length c4)).toArray 27)) := ((Below.refl _ _).alloc (Nat.le_refl _) _).alloc (by simp) _
  have k1 := (cellsAt_new w (diskCells d (.slice a1 d.a.rows.length c1) (.slice a2 d.b.rows.length c2)) 27)
  have k1' := k1.on ((Below.refl _ _).alloc (Nat.le_refl _) (.cells (diskCells d (.slice a3 d.a.rows.length c3) (.slice a4 d.b.rows.length c4)).toArray 27))
  have k2 := cellsAt_new (w.alloc (.cells (diskCells d (.slice a1 d.a.rows.length c1) (.slice a2 d.b.rows.length c2)).toArray 27)) (diskCells d (.slice a3 d.a.rows.length c3) (.slice a4 d.b.rows.length c4)) 27
  rw [World.size_alloc] at k2
  have HB0 := hide hb0
  have K1 := hide k1'
  have K2 := hide k2
  clear hb0 k1 k1' k2
  go_enter Try.func25, Try.ntmps25
  go_upto_region 1 with fail
  change Code.wp _ _ _ _ ((w.alloc (.cells (diskCells d (.slice a1 d.a.rows.length c1) (.slice a2 d.b.rows.length c2)).toArray 27)).alloc (.cells (diskCells d (.slice a3 d.a.rows.length c3) (.slice a4 d.b.rows.length c4)).toArray 27))
  generalize ((w.alloc (.cells (diskCells d (.slice a1 d.a.rows.length c1) (.slice a2 d.b.rows.length c2)).toArray 27)).alloc (.cells (diskCells d (.slice a3 d.a.rows.length c3) (.slice a4 d.b.rows.length c4)).toArray 27)) = W at *
  have m0 : W.cell? ⟨w.heap.size, 0, none⟩ = some (.int .i64 d.a.num) := (unhide K1) 0 (by simp)
  have m1 : W.cell? ⟨w.heap.size, 1, none⟩ = some (.int .i64 d.a.cnt) := (unhide K1) 1 (by simp)
  have m2 : W.cell? ⟨w.heap.size, 2, none⟩ = some (.slice a1 d.a.rows.length c1) := (unhide K1) 2 (by simp)
  have l0 : W.cell? ⟨w.heap.size + 1, 0, none⟩ = some (.int .i64 d.a.num) := (unhide K2) 0 (by simp)
  have l1 : W.cell? ⟨w.heap.size + 1, 1, none⟩ = some (.int .i64 d.a.cnt) := (unhide K2) 1 (by simp)
  have l2 : W.cell? ⟨w.heap.size + 1, 2, none⟩ = some (.slice a3 d.a.rows.length c3) := (unhide K2) 2 (by simp)
  go_wp2_with fail
  refine (eqSlot_any d.a _ _ _ ((unhide H1).a.on (unhide HB0)) ((unhide H2).a.on (unhide HB0))).mono ?_
  rintro e w2 ⟨rfl, hb2⟩
  clear m0 m1 m2 l0 l1 l2
  have hB2 := below_then (unhide HB0) hb2
  have K1' := (unhide K1).on hb2
  have K2' := (unhide K2).on hb2
  have m0 : w2.cell? ⟨w.heap.size, 3, none⟩ = some (.int .i64 d.b.num) := K1' 3 (by simp)
  have m1 : w2.cell? ⟨w.heap.size, 4, none⟩ = some (.int .i64 d.b.cnt) := K1' 4 (by simp)
  have m2 : w2.cell? ⟨w.heap.size, 5, none⟩ = some (.slice a2 d.b.rows.length c2) := K1' 5 (by simp)
  have l0 : w2.cell? ⟨w.heap.size + 1, 3, none⟩ = some (.int .i64 d.b.num) := K2' 3 (by simp)
  have l1 : w2.cell? ⟨w.heap.size + 1, 4, none⟩ = some (.int .i64 d.b.cnt) := K2' 4 (by simp)
  have l2 : w2.cell? ⟨w.heap.size + 1, 5, none⟩ = some (.slice a4 d.b.rows.length c4) := K2' 5 (by simp)
  have HB2 := hide hB2
  clear K1' K2' hB2 hb2
  go_wp2_with fail
  refine (eqSlot_any d.b _ _ _ ((unhide H1).b.on (unhide HB2)) ((unhide H2).b.on (unhide HB2))).mono ?_
  rintro e w3 ⟨rfl, hb3⟩
  go_wp2_with fail
  go_ret
  exact ⟨rfl, below_then (unhide HB2) hb3⟩
end Go.Proofs.Ytocgfngcgekciaa
