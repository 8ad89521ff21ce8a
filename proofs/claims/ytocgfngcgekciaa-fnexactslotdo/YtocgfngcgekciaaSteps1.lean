/- Steps of a save, lists of them, as they lie in memory; the exact laws' eq and sz of them. -/
import Derived.Test.YtocgfngcgekciaaSTo
namespace Go.Proofs.Ytocgfngcgekciaa
open Go.RowKit
set_option linter.unusedVariables false
set_option linter.unusedSimpArgs false


structure StepV where
  sec : Bool
  sct : Int
  num : Int
  cnt : Int
  data : List Int

abbrev stepCells (e : StepV) (v : Value) : List Value := [.bool e.sec, .int .i64 e.sct, .int .i64 e.num, .int .i64 e.cnt, v]
abbrev stepAgg (e : StepV) (v : Value) : Value := .agg #[.bool e.sec, .int .i64 e.sct, .int .i64 e.num, .int .i64 e.cnt, v]

/-- A list of steps, wherever it lies. -/
def StepsAt (w : World) (v : Value) (es : List StepV) : Prop :=
  ∃ (ad : Option Addr) (cap : Nat), v = .slice ad es.length cap ∧ es.length ≤ cap ∧ es.length ≤ maxLen ∧
    (es = [] ∨ ∃ b off, ad = some ⟨b, off, none⟩ ∧ ∀ i (h : i < es.length), ∃ vd, CellsAt w b (off + i * 5) (stepCells es[i] vd) ∧ NumsAt w vd es[i].data)

theorem StepsAt.on {w w' : World} {v : Value} {es : List StepV} (hb : Below w.heap.size w w') (h : StepsAt w v es) : StepsAt w' v es := by
  obtain ⟨ad, cap, hv, hl, hm, h⟩ := h
  refine ⟨ad, cap, hv, hl, hm, ?_⟩
  rcases h with h | ⟨b, off, had, hc⟩
  · exact Or.inl h
  · refine Or.inr ⟨b, off, had, fun i hi => ?_⟩
    obtain ⟨vd, h1, h2⟩ := hc i hi
    exact ⟨vd, h1.on hb, h2.on hb⟩
theorem StepsAt.sliced {w : World} {v : Value} {es : List StepV} (h : StepsAt w v es) : ∃ a c, v = .slice a es.length c := by
  obtain ⟨ad, cap, hv, _⟩ := h; exact ⟨ad, cap, hv⟩
theorem StepsAt.len {w : World} {v : Value} {es : List StepV} (h : StepsAt w v es) : es.length ≤ maxLen := by
  obtain ⟨_, _, _, _, h, _⟩ := h; exact h
theorem StepsAt.caps {w : World} {a : Option Addr} {n c : Nat} {es : List StepV} (h : StepsAt w (.slice a n c) es) : es.length ≤ c := by
  obtain ⟨_, _, hv, h, _⟩ := h
  simp only [Value.slice.injEq] at hv
  omega
theorem StepsAt.row {w : World} {ad : Option Addr} {c n : Nat} {es : List StepV} (h : StepsAt w (.slice ad n c) es) {i : Nat} (hi : i < es.length) :
    ∃ b off vd, ad = some ⟨b, off, none⟩ ∧ CellsAt w b (off + i * 5) (stepCells es[i] vd) ∧ NumsAt w vd es[i].data := by
  obtain ⟨ad', cap, hv, hl, hm, h⟩ := h
  simp only [Value.slice.injEq] at hv
  obtain ⟨rfl, _, _⟩ := hv
  rcases h with h | ⟨b, off, had, hc⟩
  · rw [h] at hi; exact absurd hi (Nat.not_lt_zero _)
  · obtain ⟨vd, h1, h2⟩ := hc i hi
    exact ⟨b, off, vd, had, h1, h2⟩

set_option maxRecDepth 100000 in
set_option maxHeartbeats 1000000 in
theorem eqSlotStep_any (e : StepV) (v1 v2 : Value) (w : World) (h1 : NumsAt w v1 e.data) (h2 : NumsAt w v2 e.data) :
    Calls Try.prog 65 #[stepAgg e v1, stepAgg e v2] w fun r w' => r = .returned (.bool true) ∧ Below w.heap.size w w' := by
  have H1 := hide h1
  have H2 := hide h2
  obtain ⟨a1, c1, e1⟩ := h1.sliced
  obtain ⟨a2, c2, e2⟩ := h2.sliced
  subst e1 e2
  have hqm : ∀ z : Int, (z != z) = false := by intro z; simp
  have hqb : ∀ z : Bool, (z != z) = false := by intro z; simp
  go_enter Try.func65, Try.ntmps65
  have hb0 : Below w.heap.size w ((w.alloc (.cells #[.bool e.sec, .int .i64 e.sct, .int .i64 e.num, .int .i64 e.cnt, .slice a1 e.data.length c1] 45)).alloc (.cells #[.bool e.sec, .int .i64 e.sct, .int .i64 e.num, .int .i64 e.cnt, .slice a2 e.data.length c2] 45)) := ((Below.refl _ _).alloc (Nat.le_refl _) _).alloc (by simp) _
  have HB0 := hide hb0
  clear hb0
  go_wp2_with fail
  refine (eqIntS_any _ _ e.data _ ((unhide H1).on (unhide HB0)) ((unhide H2).on (unhide HB0))).mono ?_
  rintro r w3 ⟨rfl, hb3⟩
  have hB3 := below_then (unhide HB0) hb3
  go_wp2_with fail
  go_ret
  exact ⟨rfl, hB3⟩

set_option maxRecDepth 100000 in
set_option maxHeartbeats 1000000 in
theorem eqSlotStepS_any (v1 v2 : Value) (es : List StepV) (w : World) (h1 : StepsAt w v1 es) (h2 : StepsAt w v2 es) :
    Calls Try.prog 35 #[v1, v2] w fun e w' => e = .returned (.bool true) ∧ Below w.heap.size w w' := by
  have hm := h1.len
  obtain ⟨ad1, cap1, rfl⟩ := h1.sliced
  obtain ⟨ad2, cap2, rfl⟩ := h2.sliced
  unfold maxLen at hm
  have hne0 : ((es.length : Int) != (es.length : Int)) = false := by simp
  have H1 := hide h1
  have H2 := hide h2
  clear h1 h2
  go_enter Try.func35, Try.ntmps35
  go_wp2_with fail
  go_loopw [5] (fun i wr => ∃ k : Nat, k ≤ es.length ∧ i = .int .i64 k ∧ Below w.heap.size w wr) (fun i _ => es.length - (intOf i).toNat)
  case atStart => exact ⟨0, Nat.zero_le _, rfl, Below.refl _ _⟩
  case round =>
    obtain ⟨k, hk, rfl, hb⟩ := hrel
    by_cases hlt : k < es.length
    · obtain ⟨b1, off1, vd1, had1, hc1, hp1⟩ := ((unhide H1).on hb).row hlt
      obtain ⟨b2, off2, vd2, had2, hc2, hp2⟩ := ((unhide H2).on hb).row hlt
      have hkI : (k : Int) < (es.length : Int) := by omega
      have hk0 : (0 : Int) ≤ (k : Int) := by omega
      subst had1 had2
      generalize es[k] = l at *
      have q10 : ∀ y : On wr, y.y.cell? ⟨b1, off1 + k * 5, none⟩ = some (.bool l.sec) := fun y => cell_on y.h (hc1 0 (by simp))
      have q11 : ∀ y : On wr, y.y.cell? ⟨b1, off1 + k * 5 + 1, none⟩ = some (.int .i64 l.sct) := fun y => cell_on y.h (hc1 1 (by simp))
      have q12 : ∀ y : On wr, y.y.cell? ⟨b1, off1 + k * 5 + 2, none⟩ = some (.int .i64 l.num) := fun y => cell_on y.h (hc1 2 (by simp))
      have q13 : ∀ y : On wr, y.y.cell? ⟨b1, off1 + k * 5 + 3, none⟩ = some (.int .i64 l.cnt) := fun y => cell_on y.h (hc1 3 (by simp))
      have q14 : ∀ y : On wr, y.y.cell? ⟨b1, off1 + k * 5 + 4, none⟩ = some vd1 := fun y => cell_on y.h (hc1 4 (by simp))
      have q20 : ∀ y : On wr, y.y.cell? ⟨b2, off2 + k * 5, none⟩ = some (.bool l.sec) := fun y => cell_on y.h (hc2 0 (by simp))
      have q21 : ∀ y : On wr, y.y.cell? ⟨b2, off2 + k * 5 + 1, none⟩ = some (.int .i64 l.sct) := fun y => cell_on y.h (hc2 1 (by simp))
      have q22 : ∀ y : On wr, y.y.cell? ⟨b2, off2 + k * 5 + 2, none⟩ = some (.int .i64 l.num) := fun y => cell_on y.h (hc2 2 (by simp))
      have q23 : ∀ y : On wr, y.y.cell? ⟨b2, off2 + k * 5 + 3, none⟩ = some (.int .i64 l.cnt) := fun y => cell_on y.h (hc2 3 (by simp))
      have q24 : ∀ y : On wr, y.y.cell? ⟨b2, off2 + k * 5 + 4, none⟩ = some vd2 := fun y => cell_on y.h (hc2 4 (by simp))
      have HP1 := hide hp1
      have HP2 := hide hp2
      clear hc1 hc2 hp1 hp2
      go_wp2_with fail
      have hne : Nonempty (On wr) := ⟨⟨wr, Below.refl _ _⟩⟩
      refine wp_region_on (by kernel_rfl) (by kernel_rfl) ?_
      repeat (first | go_big_quiet_step ((go_at_call 65; exact calls_on (eqSlotStep_any l vd1 vd2 _ ((unhide HP1).on (On.h _)) ((unhide HP2).on (On.h _))))) | quiet_step ((go_at_call 65; exact calls_on (eqSlotStep_any l vd1 vd2 _ ((unhide HP1).on (On.h _)) ((unhide HP2).on (On.h _))))))
      refine wpQuiet_nil ?_
      intro _ hw'
      obtain ⟨nq, hw''⟩ := hw'
      subst hw''
      go_wp2_with fail
      go_roundw
      case rel => exact ⟨k + 1, by omega, by simp, below_then hb nq.h⟩
      case measure => (simp [intOf]; try omega)
    · go_wp2_with fail
      go_ret
      exact ⟨rfl, hb⟩

set_option maxRecDepth 100000 in
theorem szSlotStep_any (e : StepV) (v : Value) (left : Int) (w : World) (h : NumsAt w v e.data) (h0 : 0 ≤ left) (h1 : left ≤ 1048576) :
    Calls Try.prog 66 #[stepAgg e v, .int .i64 left] w fun r w' => ∃ n, r = .returned (.int .i64 n) ∧ (n = -1 ∨ 0 ≤ n ∧ n = left - e.data.length) ∧ Below w.heap.size w w' := by
  obtain ⟨a1, c1, rfl⟩ := h.sliced
  have hb0 : Below w.heap.size w (w.alloc (.cells #[.bool e.sec, .int .i64 e.sct, .int .i64 e.num, .int .i64 e.cnt, .slice a1 e.data.length c1] 94)) := (Below.refl _ _).alloc (Nat.le_refl _) _
  have K := hide (cellsAt_new w (stepCells e (.slice a1 e.data.length c1)) 94)
  have H := hide (h.on hb0)
  have HB := hide hb0
  clear h hb0
  go_enter Try.func66, Try.ntmps66
  go_upto_region 1 with fail
  generalize (w.alloc (.cells #[.bool e.sec, .int .i64 e.sct, .int .i64 e.num, .int .i64 e.cnt, .slice a1 e.data.length c1] 94)) = W at *
  have m4 : W.cell? ⟨w.heap.size, 4, none⟩ = some (.slice a1 e.data.length c1) := (unhide K) 4 (by simp)
  go_wp2_with fail
  refine (szIntS_any _ e.data left W (unhide H) h0 h1).mono ?_
  rintro r w' ⟨n, rfl, hr, hw⟩
  obtain rfl := hw.symm
  rcases hr with ⟨rfl, _⟩ | ⟨hr0, hr1⟩
  · go_wp2_with fail
    go_ret
    exact ⟨-1, rfl, Or.inl rfl, unhide HB⟩
  · have hrn : ¬ n < 0 := by omega
    have HR := hide hr1
    clear hr1
    go_wp2_with fail
    go_ret
    exact ⟨n, rfl, Or.inr ⟨hr0, unhide HR⟩, unhide HB⟩

def szT (e : StepV) : Int := (e.data.length : Int)
theorem szT_pos (e : StepV) : 0 ≤ szT e := by unfold szT; omega

set_option maxRecDepth 100000 in
set_option maxHeartbeats 1000000 in
theorem szSlotStepS_any (v : Value) (es : List StepV) (left : Int) (w : World) (h : StepsAt w v es) (h0 : 0 ≤ left) (h1 : left ≤ 1048576) :
    Calls Try.prog 38 #[v, .int .i64 left] w fun e w' => ∃ r, e = .returned (.int .i64 r) ∧ (r = -1 ∨ 0 ≤ r ∧ r = left - (es.length : Int) - gSz szT es) ∧ Below w.heap.size w w' := by
  have hm := h.len
  obtain ⟨ad, cap, rfl⟩ := h.sliced
  unfold maxLen at hm
  have HC := hide h
  clear h
  rcases Int.lt_or_le left (es.length : Int) with hx | hx
  · go_enter Try.func38, Try.ntmps38
    go_wp2
    go_ret
    exact ⟨-1, rfl, Or.inl rfl, Below.refl _ _⟩
  go_enter Try.func38, Try.ntmps38
  go_wp2_with fail
  go_loopw [1, 5] (fun a i wr => ∃ (k : Nat) (m : Int), k ≤ es.length ∧ i = .int .i64 k ∧ a = .int .i64 m ∧ Hid (m = left - (es.length : Int) - gSz szT (es.take k)) ∧ 0 ≤ m ∧ m ≤ 1048576 ∧ Hid (Below w.heap.size w wr)) (fun _ i _ => es.length - (intOf i).toNat)
  case atStart => exact ⟨0, _, Nat.zero_le _, rfl, rfl, hide (by simp [gSz]), by omega, by omega, hide (Below.refl _ _)⟩
  case round =>
    obtain ⟨k, m, hk, rfl, rfl, HM, hm0, hm1, HB⟩ := hrel
    by_cases hlt : k < es.length
    · obtain ⟨b, off, vd, had, hc, hp⟩ := ((unhide HC).on (unhide HB)).row hlt
      have hkI : (k : Int) < (es.length : Int) := by omega
      have hk0 : (0 : Int) ≤ (k : Int) := by omega
      subst had
      have HP := hide hp
      obtain ⟨ea, ec, rfl⟩ := hp.sliced
      have HT := hide (show gSz szT (es.take (k + 1)) = gSz szT (es.take k) + (es[k].data.length : Int) by rw [take_more es k hlt, gSz_snoc]; rfl)
      clear hp
      generalize es[k] = z at *
      have q0 : wr.cell? ⟨b, off + k * 5, none⟩ = some (.bool z.sec) := hc 0 (by simp)
      have q1 : wr.cell? ⟨b, off + k * 5 + 1, none⟩ = some (.int .i64 z.sct) := hc 1 (by simp)
      have q2 : wr.cell? ⟨b, off + k * 5 + 2, none⟩ = some (.int .i64 z.num) := hc 2 (by simp)
      have q3 : wr.cell? ⟨b, off + k * 5 + 3, none⟩ = some (.int .i64 z.cnt) := hc 3 (by simp)
      have q4 : wr.cell? ⟨b, off + k * 5 + 4, none⟩ = some (.slice ea z.data.length ec) := hc 4 (by simp)
      clear hc
      go_wp2_with fail
      refine (szSlotStep_any z _ m _ (unhide HP) hm0 hm1).mono ?_
      rintro e w2 ⟨r, rfl, hr, hb2⟩
      have HB2 := hide (below_then (unhide HB) hb2)
      clear q0 q1 q2 q3 q4 hb2
      rcases hr with rfl | ⟨hr0, hr1⟩
      · go_wp2_with fail
        go_ret
        exact ⟨-1, rfl, Or.inl rfl, unhide HB2⟩
      · have hrn : ¬ r < 0 := by omega
        have HR := hide hr1
        clear hr1
        go_wp2_with fail
        go_roundw
        case rel => exact ⟨k + 1, r, by omega, by go_num, rfl, hide (by rw [unhide HT, unhide HR, unhide HM]; omega), hr0, by have := unhide HR; omega, HB2⟩
        case measure => (simp [intOf]; try omega)
    · have hke : k = es.length := by omega
      subst hke
      go_wp2_with fail
      go_ret
      exact ⟨m, rfl, Or.inr ⟨hm0, by have := unhide HM; rw [List.take_length] at this; exact this⟩, unhide HB⟩
end Go.Proofs.Ytocgfngcgekciaa
