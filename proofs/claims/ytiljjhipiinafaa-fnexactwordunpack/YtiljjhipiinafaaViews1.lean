/- Views, lists of views, lists of numbers, as they lie in memory; the exact laws' eq of them. -/
import Derived.Test.YtiljjhipiinafaaFlatEvent
import Derived.Test.YtiljjhipiinafaaPast1
import Derived.Test.YtiljjhipiinafaaBox
namespace Go.Proofs.Ytiljjhipiinafaa
open Go.RowKit
set_option linter.unusedVariables false
set_option linter.unusedSimpArgs false

structure ViewV where
  inc : Int
  ver : Int
  es : List EvV

abbrev viewCells (i r : Int) (v : Value) : List Value := [.int .i64 i, .int .i64 r, v]
abbrev viewAgg (i r : Int) (v : Value) : Value := .agg #[.int .i64 i, .int .i64 r, v]

/-- A list of such, wherever it lies. -/
def ViewsAt (w : World) (v : Value) (ls : List ViewV) : Prop :=
  ∃ (ad : Option Addr) (cap : Nat), v = .slice ad ls.length cap ∧ ls.length ≤ cap ∧ ls.length ≤ maxLen ∧
    (ls = [] ∨ ∃ b off, ad = some ⟨b, off, none⟩ ∧ ∀ i (h : i < ls.length), ∃ vd, CellsAt w b (off + i * 3) (viewCells ls[i].inc ls[i].ver vd) ∧ RowsAt 7 w vd (ls[i].es.map evRow))

theorem ViewsAt.on {w w' : World} {v : Value} {ls : List ViewV} (hb : Below w.heap.size w w') (h : ViewsAt w v ls) : ViewsAt w' v ls := by
  obtain ⟨ad, cap, hv, hl, hm, h⟩ := h
  refine ⟨ad, cap, hv, hl, hm, ?_⟩
  rcases h with h | ⟨b, off, had, hc⟩
  · exact Or.inl h
  · refine Or.inr ⟨b, off, had, fun i hi => ?_⟩
    obtain ⟨vd, h1, h2⟩ := hc i hi
    exact ⟨vd, h1.on hb, h2.on hb⟩

theorem ViewsAt.sliced {w : World} {v : Value} {ls : List ViewV} (h : ViewsAt w v ls) : ∃ a c, v = .slice a ls.length c := by
  obtain ⟨ad, cap, hv, _⟩ := h; exact ⟨ad, cap, hv⟩

/-- A list of numbers. -/
abbrev NumsAt (w : World) (v : Value) (zs : List Int) : Prop := RowsAt 1 w v (zs.map fun z => [z])

set_option maxRecDepth 100000 in
set_option maxHeartbeats 1000000 in
theorem eqIntS_any (v1 v2 : Value) (zs : List Int) (w : World) (h1 : NumsAt w v1 zs) (h2 : NumsAt w v2 zs) :
    Calls Try.prog 68 #[v1, v2] w fun e w' => e = .returned (.bool true) ∧ Below w.heap.size w w' := by
  obtain ⟨ad1, cap1, e1, hl1, hm, hc1⟩ := h1
  obtain ⟨ad2, cap2, e2, hl2, _, hc2⟩ := h2
  rw [List.length_map] at e1 e2 hl1 hl2 hm
  subst e1 e2
  unfold maxLen at hm
  have hqm : ∀ z : Int, (z != z) = false := by intro z; simp
  have H1 := hide hc1
  have H2 := hide hc2
  clear hc1 hc2
  go_enter Try.func68, Try.ntmps68
  go_wp2_with fail
  go_loopw [5] (fun i wr => ∃ k : Nat, k ≤ zs.length ∧ i = .int .i64 k ∧ Below w.heap.size w wr) (fun i _ => zs.length - (intOf i).toNat)
  case atStart => exact ⟨0, Nat.zero_le _, rfl, Below.refl _ _⟩
  case round =>
    obtain ⟨k, hk, rfl, hb⟩ := hrel
    by_cases hlt : k < zs.length
    · obtain ⟨b1, off1, had1, p1⟩ : ∃ b off, ad1 = some ⟨b, off, none⟩ ∧ wr.cell? ⟨b, off + k, none⟩ = some (.int .i64 zs[k]) := by
        rcases unhide H1 with h | ⟨b, off, h1, h2⟩
        · have : zs = [] := by simpa using h
          rw [this] at hlt; exact absurd hlt (Nat.not_lt_zero _)
        · have h3 := cell_on hb (h2 k (by simpa using hlt) 0 (by omega))
          simp at h3
          exact ⟨b, off, h1, h3⟩
      obtain ⟨b2, off2, had2, p2⟩ : ∃ b off, ad2 = some ⟨b, off, none⟩ ∧ wr.cell? ⟨b, off + k, none⟩ = some (.int .i64 zs[k]) := by
        rcases unhide H2 with h | ⟨b, off, h1, h2⟩
        · have : zs = [] := by simpa using h
          rw [this] at hlt; exact absurd hlt (Nat.not_lt_zero _)
        · have h3 := cell_on hb (h2 k (by simpa using hlt) 0 (by omega))
          simp at h3
          exact ⟨b, off, h1, h3⟩
      have hkI : (k : Int) < (zs.length : Int) := by omega
      have hk0 : (0 : Int) ≤ (k : Int) := by omega
      subst had1 had2
      generalize zs[k] = z at *
      have q1 : ∀ y : On wr, y.y.cell? ⟨b1, off1 + k, none⟩ = some (.int .i64 z) := fun y => cell_on y.h p1
      have q2 : ∀ y : On wr, y.y.cell? ⟨b2, off2 + k, none⟩ = some (.int .i64 z) := fun y => cell_on y.h p2
      clear p1 p2
      go_wp2_with fail
      have hne : Nonempty (On wr) := ⟨⟨wr, Below.refl _ _⟩⟩
      refine wp_region_on (by kernel_rfl) (by kernel_rfl) ?_
      repeat (first | go_big_quiet_step (fail) | quiet_step (fail))
      refine wpQuiet_nil ?_
      intro _ hw'
      obtain ⟨nq, hw''⟩ := hw'
      subst hw''
      go_wp2_with fail
      go_roundw
      case rel => exact ⟨k + 1, by omega, by simp, below_then hb nq.h⟩
      case measure => (simp [intOf]; try omega)
    · go_wp2_with fail
      go_ret
      exact ⟨rfl, hb⟩
end Go.Proofs.Ytiljjhipiinafaa
