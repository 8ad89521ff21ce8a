/- Lists of lanes, as they lie in memory; the exact laws' eq of them. -/
import Derived.Test.YtgllaimjoneokaaPast2
import Derived.Test.YtgllaimjoneokaaBox
namespace Go.Proofs.Ytgllaimjoneokaa
open Go.RowKit
set_option linter.unusedVariables false
set_option linter.unusedSimpArgs false

structure LaneV where
  proc : Int
  s : StV
  ps : List PastV

/-- A list of such, wherever it lies. -/
def LanesAt (w : World) (v : Value) (ls : List LaneV) : Prop :=
  ∃ (ad : Option Addr) (cap : Nat), v = .slice ad ls.length cap ∧ ls.length ≤ cap ∧ ls.length ≤ maxLen ∧
    (ls = [] ∨ ∃ b off, ad = some ⟨b, off, none⟩ ∧ ∀ i (h : i < ls.length), ∃ vd, CellsAt w b (off + i * 5) (laneCells ls[i].proc ls[i].s vd) ∧ PastsAt w vd ls[i].ps)

theorem LanesAt.on {w w' : World} {v : Value} {ls : List LaneV} (hb : Below w.heap.size w w') (h : LanesAt w v ls) : LanesAt w' v ls := by
  obtain ⟨ad, cap, hv, hl, hm, h⟩ := h
  refine ⟨ad, cap, hv, hl, hm, ?_⟩
  rcases h with h | ⟨b, off, had, hc⟩
  · exact Or.inl h
  · refine Or.inr ⟨b, off, had, fun i hi => ?_⟩
    obtain ⟨vd, h1, h2⟩ := hc i hi
    exact ⟨vd, h1.on hb, h2.on hb⟩

theorem LanesAt.sliced {w : World} {v : Value} {ls : List LaneV} (h : LanesAt w v ls) : ∃ a c, v = .slice a ls.length c := by
  obtain ⟨ad, cap, hv, _⟩ := h; exact ⟨ad, cap, hv⟩

set_option maxRecDepth 100000 in
set_option maxHeartbeats 1000000 in
theorem eqLaneS_any (v1 v2 : Value) (ls : List LaneV) (w : World) (h1 : LanesAt w v1 ls) (h2 : LanesAt w v2 ls) :
    Calls Try.prog 51 #[v1, v2] w fun e w' => e = .returned (.bool true) ∧ Below w.heap.size w w' := by
  obtain ⟨ad1, cap1, rfl, hl1, hm, hc1⟩ := h1
  obtain ⟨ad2, cap2, rfl, hl2, _, hc2⟩ := h2
  unfold maxLen at hm
  have hne0 : ((ls.length : Int) != (ls.length : Int)) = false := by simp
  have H1 := hide hc1
  have H2 := hide hc2
  clear hc1 hc2
  go_enter Try.func51, Try.ntmps51
  go_wp2_with fail
  go_loopw [5] (fun i wr => ∃ k : Nat, k ≤ ls.length ∧ i = .int .i64 k ∧ Below w.heap.size w wr) (fun i _ => ls.length - (intOf i).toNat)
  case atStart => exact ⟨0, Nat.zero_le _, rfl, Below.refl _ _⟩
  case round =>
    obtain ⟨k, hk, rfl, hb⟩ := hrel
    by_cases hlt : k < ls.length
    · obtain ⟨b1, off1, vd1, had1, hc1, hp1⟩ : ∃ b off vd, ad1 = some ⟨b, off, none⟩ ∧ CellsAt wr b (off + k * 5) (laneCells ls[k].proc ls[k].s vd) ∧ PastsAt wr vd ls[k].ps := by
        rcases unhide H1 with h | ⟨b, off, h1, h2⟩
        · rw [h] at hlt; exact absurd hlt (Nat.not_lt_zero _)
        · obtain ⟨vd, h3, h4⟩ := h2 k hlt
          exact ⟨b, off, vd, h1, h3.on hb, h4.on hb⟩
      obtain ⟨b2, off2, vd2, had2, hc2, hp2⟩ : ∃ b off vd, ad2 = some ⟨b, off, none⟩ ∧ CellsAt wr b (off + k * 5) (laneCells ls[k].proc ls[k].s vd) ∧ PastsAt wr vd ls[k].ps := by
        rcases unhide H2 with h | ⟨b, off, h1, h2⟩
        · rw [h] at hlt; exact absurd hlt (Nat.not_lt_zero _)
        · obtain ⟨vd, h3, h4⟩ := h2 k hlt
          exact ⟨b, off, vd, h1, h3.on hb, h4.on hb⟩
      have hkI : (k : Int) < (ls.length : Int) := by omega
      have hk0 : (0 : Int) ≤ (k : Int) := by omega
      subst had1 had2
      generalize ls[k] = l at *
      have q10 : ∀ y : On wr, y.y.cell? ⟨b1, off1 + k * 5, none⟩ = some (.int .i64 l.proc) := fun y => cell_on y.h (hc1 0 (by simp))
      have q11 : ∀ y : On wr, y.y.cell? ⟨b1, off1 + k * 5 + 1, none⟩ = some (.int .i64 l.s.x) := fun y => cell_on y.h (hc1 1 (by simp))
      have q12 : ∀ y : On wr, y.y.cell? ⟨b1, off1 + k * 5 + 2, none⟩ = some (.int .i64 l.s.y) := fun y => cell_on y.h (hc1 2 (by simp))
      have q13 : ∀ y : On wr, y.y.cell? ⟨b1, off1 + k * 5 + 3, none⟩ = some (.int .i64 l.s.c) := fun y => cell_on y.h (hc1 3 (by simp))
      have q14 : ∀ y : On wr, y.y.cell? ⟨b1, off1 + k * 5 + 4, none⟩ = some (vd1) := fun y => cell_on y.h (hc1 4 (by simp))
      have q20 : ∀ y : On wr, y.y.cell? ⟨b2, off2 + k * 5, none⟩ = some (.int .i64 l.proc) := fun y => cell_on y.h (hc2 0 (by simp))
      have q21 : ∀ y : On wr, y.y.cell? ⟨b2, off2 + k * 5 + 1, none⟩ = some (.int .i64 l.s.x) := fun y => cell_on y.h (hc2 1 (by simp))
      have q22 : ∀ y : On wr, y.y.cell? ⟨b2, off2 + k * 5 + 2, none⟩ = some (.int .i64 l.s.y) := fun y => cell_on y.h (hc2 2 (by simp))
      have q23 : ∀ y : On wr, y.y.cell? ⟨b2, off2 + k * 5 + 3, none⟩ = some (.int .i64 l.s.c) := fun y => cell_on y.h (hc2 3 (by simp))
      have q24 : ∀ y : On wr, y.y.cell? ⟨b2, off2 + k * 5 + 4, none⟩ = some (vd2) := fun y => cell_on y.h (hc2 4 (by simp))
      have HP1 := hide hp1
      have HP2 := hide hp2
      clear hc1 hc2 hp1 hp2
      go_wp2_with fail
      have hne : Nonempty (On wr) := ⟨⟨wr, Below.refl _ _⟩⟩
      refine wp_region_on (by kernel_rfl) (by kernel_rfl) ?_
      repeat (first | go_big_quiet_step ((go_at_call 100; exact calls_on (eqLane_any l.proc l.s vd1 vd2 l.ps _ ((unhide HP1).on (On.h _)) ((unhide HP2).on (On.h _))))) | quiet_step ((go_at_call 100; exact calls_on (eqLane_any l.proc l.s vd1 vd2 l.ps _ ((unhide HP1).on (On.h _)) ((unhide HP2).on (On.h _))))))
      refine wpQuiet_nil ?_
      intro _ hw'
      obtain ⟨nq, hw''⟩ := hw'
      subst hw''
      go_wp2_with fail
      go_roundw
      case rel => exact ⟨k + 1, by omega, by simp, below_then hb nq.h⟩
      case measure => (simp [intOf]; try omega)
    · go_wp2_with fail
      go_ret
      exact ⟨rfl, hb⟩
end Go.Proofs.Ytgllaimjoneokaa
