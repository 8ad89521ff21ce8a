/- Views, lists of views, lists of numbers, as they lie in memory; the exact laws' eq of them. -/
import Derived.Test.YtgllaimjoneokaaFlatEvent
import Derived.Test.YtgllaimjoneokaaPast1
import Derived.Test.YtgllaimjoneokaaBox
namespace Go.Proofs.Ytgllaimjoneokaa
open Go.RowKit
set_option linter.unusedVariables false
set_option linter.unusedSimpArgs false

structure ViewV where
  inc : Int
  ver : Int
  es : List EvV

abbrev viewCells (i r : Int) (v : Value) : List Value := [.int .i64 i, .int .i64 r, v]
abbrev viewAgg (i r : Int) (v : Value) : Value := .agg #[.int .i64 i, .int .i64 r, v]

set_option maxRecDepth 100000 in
theorem eqView_any (i r : Int) (v1 v2 : Value) (es : List EvV) (w : World) (h1 : RowsAt 7 w v1 (es.map evRow)) (h2 : RowsAt 7 w v2 (es.map evRow)) :
    Calls Try.prog 103 #[viewAgg i r v1, viewAgg i r v2] w fun e w' => e = .returned (.bool true) ∧ Below w.heap.size w w' := by
  have H1 := hide h1
  have H2 := hide h2
  obtain ⟨a1, c1, e1, _⟩ := h1
  obtain ⟨a2, c2, e2, _⟩ := h2
  rw [List.length_map] at e1 e2
  subst e1 e2
  have hqm : ∀ z : Int, (z != z) = false := by intro z; simp
  go_enter Try.func103, Try.ntmps103
  have hb0 : Below w.heap.size w ((w.alloc (.cells #[.int .i64 i, .int .i64 r, .slice a1 es.length c1] 104)).alloc (.cells #[.int .i64 i, .int .i64 r, .slice a2 es.length c2] 104)) := ((Below.refl _ _).alloc (Nat.le_refl _) _).alloc (by simp) _
  have HB0 := hide hb0
  clear hb0
  go_wp2_with fail
  refine (eqEventS_any _ _ (es.map evRow) _ ((unhide H1).on (unhide HB0)) ((unhide H2).on (unhide HB0))).mono ?_
  rintro e w3 ⟨rfl, hb3⟩
  have hB3 := below_then (unhide HB0) hb3
  go_wp2_with fail
  go_ret
  exact ⟨rfl, hB3⟩

/-- A list of such, wherever it lies. -/
def ViewsAt (w : World) (v : Value) (ls : List ViewV) : Prop :=
  ∃ (ad : Option Addr) (cap : Nat), v = .slice ad ls.length cap ∧ ls.length ≤ cap ∧ ls.length ≤ maxLen ∧
    (ls = [] ∨ ∃ b off, ad = some ⟨b, off, none⟩ ∧ ∀ i (h : i < ls.length), ∃ vd, CellsAt w b (off + i * 3) (viewCells ls[i].inc ls[i].ver vd) ∧ RowsAt 7 w vd (ls[i].es.map evRow))

theorem ViewsAt.on {w w' : World} {v : Value} {ls : List ViewV} (hb : Below w.heap.size w w') (h : ViewsAt w v ls) : ViewsAt w' v ls := by
  obtain ⟨ad, cap, hv, hl, hm, h⟩ := h
  refine ⟨ad, cap, hv, hl, hm, ?_⟩
  rcases h with h | ⟨b, off, had, hc⟩
  · exact Or.inl h
  · refine Or.inr ⟨b, off, had, fun i hi => ?_⟩
    obtain ⟨vd, h1, h2⟩ := hc i hi
    exact ⟨vd, h1.on hb, h2.on hb⟩

theorem ViewsAt.sliced {w : World} {v : Value} {ls : List ViewV} (h : ViewsAt w v ls) : ∃ a c, v = .slice a ls.length c := by
  obtain ⟨ad, cap, hv, _⟩ := h; exact ⟨ad, cap, hv⟩

set_option maxRecDepth 100000 in
set_option maxHeartbeats 1000000 in
theorem eqViewS_any (v1 v2 : Value) (ls : List ViewV) (w : World) (h1 : ViewsAt w v1 ls) (h2 : ViewsAt w v2 ls) :
    Calls Try.prog 54 #[v1, v2] w fun e w' => e = .returned (.bool true) ∧ Below w.heap.size w w' := by
  obtain ⟨ad1, cap1, rfl, hl1, hm, hc1⟩ := h1
  obtain ⟨ad2, cap2, rfl, hl2, _, hc2⟩ := h2
  unfold maxLen at hm
  have hne0 : ((ls.length : Int) != (ls.length : Int)) = false := by simp
  have H1 := hide hc1
  have H2 := hide hc2
  clear hc1 hc2
  go_enter Try.func54, Try.ntmps54
  go_wp2_with fail
  go_loopw [5] (fun i wr => ∃ k : Nat, k ≤ ls.length ∧ i = .int .i64 k ∧ Below w.heap.size w wr) (fun i _ => ls.length - (intOf i).toNat)
  case atStart => exact ⟨0, Nat.zero_le _, rfl, Below.refl _ _⟩
  case round =>
    obtain ⟨k, hk, rfl, hb⟩ := hrel
    by_cases hlt : k < ls.length
    · obtain ⟨b1, off1, vd1, had1, hc1, hp1⟩ : ∃ b off vd, ad1 = some ⟨b, off, none⟩ ∧ CellsAt wr b (off + k * 3) (viewCells ls[k].inc ls[k].ver vd) ∧ RowsAt 7 wr vd (ls[k].es.map evRow) := by
        rcases unhide H1 with h | ⟨b, off, h1, h2⟩
        · rw [h] at hlt; exact absurd hlt (Nat.not_lt_zero _)
        · obtain ⟨vd, h3, h4⟩ := h2 k hlt
          exact ⟨b, off, vd, h1, h3.on hb, h4.on hb⟩
      obtain ⟨b2, off2, vd2, had2, hc2, hp2⟩ : ∃ b off vd, ad2 = some ⟨b, off, none⟩ ∧ CellsAt wr b (off + k * 3) (viewCells ls[k].inc ls[k].ver vd) ∧ RowsAt 7 wr vd (ls[k].es.map evRow) := by
        rcases unhide H2 with h | ⟨b, off, h1, h2⟩
        · rw [h] at hlt; exact absurd hlt (Nat.not_lt_zero _)
        · obtain ⟨vd, h3, h4⟩ := h2 k hlt
          exact ⟨b, off, vd, h1, h3.on hb, h4.on hb⟩
      have hkI : (k : Int) < (ls.length : Int) := by omega
      have hk0 : (0 : Int) ≤ (k : Int) := by omega
      subst had1 had2
      generalize ls[k] = l at *
      have q10 : ∀ y : On wr, y.y.cell? ⟨b1, off1 + k * 3, none⟩ = some (.int .i64 l.inc) := fun y => cell_on y.h (hc1 0 (by simp))
      have q11 : ∀ y : On wr, y.y.cell? ⟨b1, off1 + k * 3 + 1, none⟩ = some (.int .i64 l.ver) := fun y => cell_on y.h (hc1 1 (by simp))
      have q12 : ∀ y : On wr, y.y.cell? ⟨b1, off1 + k * 3 + 2, none⟩ = some (vd1) := fun y => cell_on y.h (hc1 2 (by simp))
      have q20 : ∀ y : On wr, y.y.cell? ⟨b2, off2 + k * 3, none⟩ = some (.int .i64 l.inc) := fun y => cell_on y.h (hc2 0 (by simp))
      have q21 : ∀ y : On wr, y.y.cell? ⟨b2, off2 + k * 3 + 1, none⟩ = some (.int .i64 l.ver) := fun y => cell_on y.h (hc2 1 (by simp))
      have q22 : ∀ y : On wr, y.y.cell? ⟨b2, off2 + k * 3 + 2, none⟩ = some (vd2) := fun y => cell_on y.h (hc2 2 (by simp))
      have HP1 := hide hp1
      have HP2 := hide hp2
      clear hc1 hc2 hp1 hp2
      go_wp2_with fail
      have hne : Nonempty (On wr) := ⟨⟨wr, Below.refl _ _⟩⟩
      refine wp_region_on (by kernel_rfl) (by kernel_rfl) ?_
      repeat (first | go_big_quiet_step ((go_at_call 103; exact calls_on (eqView_any l.inc l.ver vd1 vd2 l.es _ ((unhide HP1).on (On.h _)) ((unhide HP2).on (On.h _))))) | quiet_step ((go_at_call 103; exact calls_on (eqView_any l.inc l.ver vd1 vd2 l.es _ ((unhide HP1).on (On.h _)) ((unhide HP2).on (On.h _))))))
      refine wpQuiet_nil ?_
      intro _ hw'
      obtain ⟨nq, hw''⟩ := hw'
      subst hw''
      go_wp2_with fail
      go_roundw
      case rel => exact ⟨k + 1, by omega, by simp, below_then hb nq.h⟩
      case measure => (simp [intOf]; try omega)
    · go_wp2_with fail
      go_ret
      exact ⟨rfl, hb⟩

/-- A list of numbers. -/
abbrev NumsAt (w : World) (v : Value) (zs : List Int) : Prop := RowsAt 1 w v (zs.map fun z => [z])

set_option maxRecDepth 100000 in
set_option maxHeartbeats 1000000 in
theorem eqIntS_any (v1 v2 : Value) (zs : List Int) (w : World) (h1 : NumsAt w v1 zs) (h2 : NumsAt w v2 zs) :
    Calls Try.prog 55 #[v1, v2] w fun e w' => e = .returned (.bool true) ∧ Below w.heap.size w w' := by
  obtain ⟨ad1, cap1, e1, hl1, hm, hc1⟩ := h1
  obtain ⟨ad2, cap2, e2, hl2, _, hc2⟩ := h2
  rw [List.length_map] at e1 e2 hl1 hl2 hm
  subst e1 e2
  unfold maxLen at hm
  have hqm : ∀ z : Int, (z != z) = false := by intro z; simp
  have H1 := hide hc1
  have H2 := hide hc2
  clear hc1 hc2
  go_enter Try.func55, Try.ntmps55
  go_wp2_with fail
  go_loopw [5] (fun i wr => ∃ k : Nat, k ≤ zs.length ∧ i = .int .i64 k ∧ Below w.heap.size w wr) (fun i _ => zs.length - (intOf i).toNat)
  case atStart => exact ⟨0, Nat.zero_le _, rfl, Below.refl _ _⟩
  case round =>
    obtain ⟨k, hk, rfl, hb⟩ := hrel
    by_cases hlt : k < zs.length
    · obtain ⟨b1, off1, had1, p1⟩ : ∃ b off, ad1 = some ⟨b, off, none⟩ ∧ wr.cell? ⟨b, off + k, none⟩ = some (.int .i64 zs[k]) := by
        rcases unhide H1 with h | ⟨b, off, h1, h2⟩
        · have : zs = [] := by simpa using h
          rw [this] at hlt; exact absurd hlt (Nat.not_lt_zero _)
        · have h3 := cell_on hb (h2 k (by simpa using hlt) 0 (by omega))
          simp at h3
          exact ⟨b, off, h1, h3⟩
      obtain ⟨b2, off2, had2, p2⟩ : ∃ b off, ad2 = some ⟨b, off, none⟩ ∧ wr.cell? ⟨b, off + k, none⟩ = some (.int .i64 zs[k]) := by
        rcases unhide H2 with h | ⟨b, off, h1, h2⟩
        · have : zs = [] := by simpa using h
          rw [this] at hlt; exact absurd hlt (Nat.not_lt_zero _)
        · have h3 := cell_on hb (h2 k (by simpa using hlt) 0 (by omega))
          simp at h3
          exact ⟨b, off, h1, h3⟩
      have hkI : (k : Int) < (zs.length : Int) := by omega
      have hk0 : (0 : Int) ≤ (k : Int) := by omega
      subst had1 had2
      generalize zs[k] = z at *
      have q1 : ∀ y : On wr, y.y.cell? ⟨b1, off1 + k, none⟩ = some (.int .i64 z) := fun y => cell_on y.h p1
      have q2 : ∀ y : On wr, y.y.cell? ⟨b2, off2 + k, none⟩ = some (.int .i64 z) := fun y => cell_on y.h p2
      clear p1 p2
      go_wp2_with fail
      have hne : Nonempty (On wr) := ⟨⟨wr, Below.refl _ _⟩⟩
      refine wp_region_on (by kernel_rfl) (by kernel_rfl) ?_
      repeat (first | go_big_quiet_step (fail) | quiet_step (fail))
      refine wpQuiet_nil ?_
      intro _ hw'
      obtain ⟨nq, hw''⟩ := hw'
      subst hw''
      go_wp2_with fail
      go_roundw
      case rel => exact ⟨k + 1, by omega, by simp, below_then hb nq.h⟩
      case measure => (simp [intOf]; try omega)
    · go_wp2_with fail
      go_ret
      exact ⟨rfl, hb⟩
end Go.Proofs.Ytgllaimjoneokaa
