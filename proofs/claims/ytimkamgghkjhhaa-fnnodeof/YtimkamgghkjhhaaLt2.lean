/- laws.ltPasts, ltLane at two of the same. -/
import Derived.Test.YtimkamgghkjhhaaLt1
import Derived.Test.YtimkamgghkjhhaaPast2
import Derived.Test.YtimkamgghkjhhaaBox
namespace Go.Proofs.Ytimkamgghkjhhaa.L
open Go.RowKit
set_option linter.unusedVariables false
set_option linter.unusedSimpArgs false

set_option maxRecDepth 100000 in
set_option maxHeartbeats 4000000 in
theorem ltPasts_any (v1 v2 : Value) (ps : List PastV) (w : World) (h1 : PastsAt w v1 ps) (h2 : PastsAt w v2 ps) :
    Calls Try.prog 100 #[v1, v2] w fun e w' => e = .returned (.bool true) ∧ Below w.heap.size w w' := by
  obtain ⟨ad1, cap1, rfl, hl1, hm, hc1⟩ := h1
  obtain ⟨ad2, cap2, rfl, hl2, _, hc2⟩ := h2
  unfold maxLen at hm
  have hne0 : ((ps.length : Int) != (ps.length : Int)) = false := by simp
  have H1 := hide hc1
  have H2 := hide hc2
  clear hc1 hc2
  go_enter Try.func100, Try.ntmps100
  go_wp2_with fail
  go_loopw [5] (fun i wr => ∃ k : Nat, k ≤ ps.length ∧ i = .int .i64 k ∧ Below w.heap.size w wr) (fun i _ => ps.length - (intOf i).toNat)
  case atStart => exact ⟨0, Nat.zero_le _, rfl, Below.refl _ _⟩
  case round =>
    obtain ⟨k, hk, rfl, hb⟩ := hrel
    by_cases hlt : k < ps.length
    · obtain ⟨b1, off1, vs1, vo1, had1, hc1, hp1⟩ : ∃ b off vs vo, ad1 = some ⟨b, off, none⟩ ∧ CellsAt wr b (off + k * 12) (pastCells ps[k] vs vo) ∧ PastAt wr vs vo ps[k] := by
        rcases unhide H1 with h | ⟨b, off, h1, h2⟩
        · rw [h] at hlt; exact absurd hlt (Nat.not_lt_zero _)
        · obtain ⟨vs, vo, h3, h4⟩ := h2 k hlt
          exact ⟨b, off, vs, vo, h1, h3.on hb, h4.on hb⟩
      obtain ⟨b2, off2, vs2, vo2, had2, hc2, hp2⟩ : ∃ b off vs vo, ad2 = some ⟨b, off, none⟩ ∧ CellsAt wr b (off + k * 12) (pastCells ps[k] vs vo) ∧ PastAt wr vs vo ps[k] := by
        rcases unhide H2 with h | ⟨b, off, h1, h2⟩
        · rw [h] at hlt; exact absurd hlt (Nat.not_lt_zero _)
        · obtain ⟨vs, vo, h3, h4⟩ := h2 k hlt
          exact ⟨b, off, vs, vo, h1, h3.on hb, h4.on hb⟩
      have hkI : (k : Int) < (ps.length : Int) := by omega
      have hk0 : (0 : Int) ≤ (k : Int) := by omega
      subst had1 had2
      generalize ps[k] = p at *
      have q10 : ∀ y : On wr, y.y.cell? ⟨b1, off1 + k * 12, none⟩ = some (.int .i64 p.ev.time) := fun y => cell_on y.h (hc1 0 (by simp))
      have q11 : ∀ y : On wr, y.y.cell? ⟨b1, off1 + k * 12 + 1, none⟩ = some (.int .i64 p.ev.to) := fun y => cell_on y.h (hc1 1 (by simp))
      have q12 : ∀ y : On wr, y.y.cell? ⟨b1, off1 + k * 12 + 2, none⟩ = some (.int .i64 p.ev.src) := fun y => cell_on y.h (hc1 2 (by simp))
      have q13 : ∀ y : On wr, y.y.cell? ⟨b1, off1 + k * 12 + 3, none⟩ = some (.int .i64 p.ev.count) := fun y => cell_on y.h (hc1 3 (by simp))
      have q14 : ∀ y : On wr, y.y.cell? ⟨b1, off1 + k * 12 + 4, none⟩ = some (.int .i64 p.ev.n) := fun y => cell_on y.h (hc1 4 (by simp))
      have q15 : ∀ y : On wr, y.y.cell? ⟨b1, off1 + k * 12 + 5, none⟩ = some (.int .i64 p.ev.kind) := fun y => cell_on y.h (hc1 5 (by simp))
      have q16 : ∀ y : On wr, y.y.cell? ⟨b1, off1 + k * 12 + 6, none⟩ = some (.int .i64 p.ev.arg) := fun y => cell_on y.h (hc1 6 (by simp))
      have q17 : ∀ y : On wr, y.y.cell? ⟨b1, off1 + k * 12 + 7, none⟩ = some (.int .i64 p.st.x) := fun y => cell_on y.h (hc1 7 (by simp))
      have q18 : ∀ y : On wr, y.y.cell? ⟨b1, off1 + k * 12 + 8, none⟩ = some (.int .i64 p.st.y) := fun y => cell_on y.h (hc1 8 (by simp))
      have q19 : ∀ y : On wr, y.y.cell? ⟨b1, off1 + k * 12 + 9, none⟩ = some (.int .i64 p.st.c) := fun y => cell_on y.h (hc1 9 (by simp))
      have q110 : ∀ y : On wr, y.y.cell? ⟨b1, off1 + k * 12 + 10, none⟩ = some (vs1) := fun y => cell_on y.h (hc1 10 (by simp))
      have q111 : ∀ y : On wr, y.y.cell? ⟨b1, off1 + k * 12 + 11, none⟩ = some (vo1) := fun y => cell_on y.h (hc1 11 (by simp))
      have q20 : ∀ y : On wr, y.y.cell? ⟨b2, off2 + k * 12, none⟩ = some (.int .i64 p.ev.time) := fun y => cell_on y.h (hc2 0 (by simp))
      have q21 : ∀ y : On wr, y.y.cell? ⟨b2, off2 + k * 12 + 1, none⟩ = some (.int .i64 p.ev.to) := fun y => cell_on y.h (hc2 1 (by simp))
      have q22 : ∀ y : On wr, y.y.cell? ⟨b2, off2 + k * 12 + 2, none⟩ = some (.int .i64 p.ev.src) := fun y => cell_on y.h (hc2 2 (by simp))
      have q23 : ∀ y : On wr, y.y.cell? ⟨b2, off2 + k * 12 + 3, none⟩ = some (.int .i64 p.ev.count) := fun y => cell_on y.h (hc2 3 (by simp))
      have q24 : ∀ y : On wr, y.y.cell? ⟨b2, off2 + k * 12 + 4, none⟩ = some (.int .i64 p.ev.n) := fun y => cell_on y.h (hc2 4 (by simp))
      have q25 : ∀ y : On wr, y.y.cell? ⟨b2, off2 + k * 12 + 5, none⟩ = some (.int .i64 p.ev.kind) := fun y => cell_on y.h (hc2 5 (by simp))
      have q26 : ∀ y : On wr, y.y.cell? ⟨b2, off2 + k * 12 + 6, none⟩ = some (.int .i64 p.ev.arg) := fun y => cell_on y.h (hc2 6 (by simp))
      have q27 : ∀ y : On wr, y.y.cell? ⟨b2, off2 + k * 12 + 7, none⟩ = some (.int .i64 p.st.x) := fun y => cell_on y.h (hc2 7 (by simp))
      have q28 : ∀ y : On wr, y.y.cell? ⟨b2, off2 + k * 12 + 8, none⟩ = some (.int .i64 p.st.y) := fun y => cell_on y.h (hc2 8 (by simp))
      have q29 : ∀ y : On wr, y.y.cell? ⟨b2, off2 + k * 12 + 9, none⟩ = some (.int .i64 p.st.c) := fun y => cell_on y.h (hc2 9 (by simp))
      have q210 : ∀ y : On wr, y.y.cell? ⟨b2, off2 + k * 12 + 10, none⟩ = some (vs2) := fun y => cell_on y.h (hc2 10 (by simp))
      have q211 : ∀ y : On wr, y.y.cell? ⟨b2, off2 + k * 12 + 11, none⟩ = some (vo2) := fun y => cell_on y.h (hc2 11 (by simp))
      have HP1 := hide hp1
      have HP2 := hide hp2
      clear hc1 hc2 hp1 hp2
      obtain ⟨rhev, hrhev⟩ := E.eq_event p.ev p.ev
      have hrthev : rhev = true := hrhev.iff.2 rfl
      subst hrthev
      have hghev := E.guard_ev
      have hev : ∀ w, (binOp .neq 65 (.agg #[.int .i64 p.ev.time, .int .i64 p.ev.to, .int .i64 p.ev.src, .int .i64 p.ev.count, .int .i64 p.ev.n, .int .i64 p.ev.kind, .int .i64 p.ev.arg]) (.agg #[.int .i64 p.ev.time, .int .i64 p.ev.to, .int .i64 p.ev.src, .int .i64 p.ev.count, .int .i64 p.ev.n, .int .i64 p.ev.kind, .int .i64 p.ev.arg])).run Try.prog w = .ok (.bool false) w := fun w => hrhev.neq w
      clear hrhev
      obtain ⟨rhst, hrhst⟩ := S.eq_st p.st p.st
      have hrthst : rhst = true := hrhst.iff.2 rfl
      subst hrthst
      have hghst := S.guard_st
      have hst : ∀ w, (binOp .neq 34 (.agg #[.int .i64 p.st.x, .int .i64 p.st.y, .int .i64 p.st.c]) (.agg #[.int .i64 p.st.x, .int .i64 p.st.y, .int .i64 p.st.c])).run Try.prog w = .ok (.bool false) w := fun w => hrhst.neq w
      clear hrhst
      have ke : ∀ y : On wr, Calls Try.prog 66 #[vs1, vs2] y.y fun e w' => e = .returned (.bool true) ∧ Below y.y.heap.size y.y w' := fun y => ltEvents_any _ _ p.sends y.y ((unhide HP1).s.on y.h) ((unhide HP2).s.on y.h)
      have ko : ∀ y : On wr, Calls Try.prog 67 #[vo1, vo2] y.y fun e w' => e = .returned (.bool true) ∧ Below y.y.heap.size y.y w' := fun y => ltOuts_any _ _ p.outs y.y ((unhide HP1).o.on y.h) ((unhide HP2).o.on y.h)
      have hne : Nonempty (On wr) := ⟨⟨wr, Below.refl _ _⟩⟩
      go_upto_region 6 with fail
      refine wp_region_on (by kernel_rfl) (by kernel_rfl) ?_
      repeat (first | go_big_quiet_step ((first | (go_at_call 66; exact calls_on (ke _)) | (go_at_call 67; exact calls_on (ko _)))) | quiet_step ((first | (go_at_call 66; exact calls_on (ke _)) | (go_at_call 67; exact calls_on (ko _)))))
      refine wpQuiet_nil ?_
      intro _ hw'
      obtain ⟨nq, hw''⟩ := hw'
      subst hw''
      go_wp2_with fail
      go_roundw
      case rel => exact ⟨k + 1, by omega, by simp, below_then hb nq.h⟩
      case measure => (simp [intOf]; try omega)
    · have hkI : ¬ (k : Int) < (ps.length : Int) := by omega
      go_wp2_with fail
      go_ret
      exact ⟨rfl, hb⟩

set_option maxRecDepth 100000 in
set_option maxHeartbeats 2000000 in
theorem ltLane_any (proc : Int) (s : StV) (v1 v2 : Value) (ps : List PastV) (w : World) (h1 : PastsAt w v1 ps) (h2 : PastsAt w v2 ps) :
    Calls Try.prog 68 #[laneAgg proc s v1, laneAgg proc s v2] w fun e w' => e = .returned (.bool true) ∧ Below w.heap.size w w' := by
  obtain ⟨a1, c1, rfl⟩ := h1.sliced
  obtain ⟨a2, c2, rfl⟩ := h2.sliced
  have hqm : (proc == proc) = true := by simp
  have hb0 : Below w.heap.size w ((w.alloc (.cells #[.int .i64 proc, .int .i64 s.x, .int .i64 s.y, .int .i64 s.c, .slice a1 ps.length c1] 37)).alloc (.cells #[.int .i64 proc, .int .i64 s.x, .int .i64 s.y, .int .i64 s.c, .slice a2 ps.length c2] 37)) := ((Below.refl _ _).alloc (Nat.le_refl _) _).alloc (by simp) _
  have cA : CellsAt ((w.alloc (.cells #[.int .i64 proc, .int .i64 s.x, .int .i64 s.y, .int .i64 s.c, .slice a1 ps.length c1] 37)).alloc (.cells #[.int .i64 proc, .int .i64 s.x, .int .i64 s.y, .int .i64 s.c, .slice a2 ps.length c2] 37)) w.heap.size 0 [.int .i64 proc, .int .i64 s.x, .int .i64 s.y, .int .i64 s.c, .slice a1 ps.length c1] := (cellsAt_new w [.int .i64 proc, .int .i64 s.x, .int .i64 s.y, .int .i64 s.c, .slice a1 ps.length c1] 37).on ((Below.refl _ _).alloc (Nat.le_refl _) _)
  have cB : CellsAt ((w.alloc (.cells #[.int .i64 proc, .int .i64 s.x, .int .i64 s.y, .int .i64 s.c, .slice a1 ps.length c1] 37)).alloc (.cells #[.int .i64 proc, .int .i64 s.x, .int .i64 s.y, .int .i64 s.c, .slice a2 ps.length c2] 37)) (w.heap.size + 1) 0 [.int .i64 proc, .int .i64 s.x, .int .i64 s.y, .int .i64 s.c, .slice a2 ps.length c2] := by
    have e := cellsAt_new (w.alloc (.cells #[.int .i64 proc, .int .i64 s.x, .int .i64 s.y, .int .i64 s.c, .slice a1 ps.length c1] 37)) [.int .i64 proc, .int .i64 s.x, .int .i64 s.y, .int .i64 s.c, .slice a2 ps.length c2] 37
    have hs : (w.alloc (.cells #[.int .i64 proc, .int .i64 s.x, .int .i64 s.y, .int .i64 s.c, .slice a1 ps.length c1] 37)).heap.size = w.heap.size + 1 := by simp
    rw [hs] at e
    exact e
  have H1 := hide (h1.on hb0)
  have H2 := hide (h2.on hb0)
  have HB0 := hide hb0
  have HA := hide cA
  have HC := hide cB
  clear hb0 cA cB h1 h2
  go_enter Try.func68, Try.ntmps68
  go_upto_region 1 with fail
  generalize ((w.alloc (.cells #[.int .i64 proc, .int .i64 s.x, .int .i64 s.y, .int .i64 s.c, .slice a1 ps.length c1] 37)).alloc (.cells #[.int .i64 proc, .int .i64 s.x, .int .i64 s.y, .int .i64 s.c, .slice a2 ps.length c2] 37)) = X at *
  have k0 : X.cell? ⟨w.heap.size, 0, none⟩ = some (.int .i64 proc) := (unhide HA) 0 (by simp)
  have k1 : X.cell? ⟨w.heap.size, 1, none⟩ = some (.int .i64 s.x) := (unhide HA) 1 (by simp)
  have k2 : X.cell? ⟨w.heap.size, 2, none⟩ = some (.int .i64 s.y) := (unhide HA) 2 (by simp)
  have k3 : X.cell? ⟨w.heap.size, 3, none⟩ = some (.int .i64 s.c) := (unhide HA) 3 (by simp)
  have k4 : X.cell? ⟨w.heap.size, 4, none⟩ = some (.slice a1 ps.length c1) := (unhide HA) 4 (by simp)
  have l0 : X.cell? ⟨w.heap.size + 1, 0, none⟩ = some (.int .i64 proc) := (unhide HC) 0 (by simp)
  have l1 : X.cell? ⟨w.heap.size + 1, 1, none⟩ = some (.int .i64 s.x) := (unhide HC) 1 (by simp)
  have l2 : X.cell? ⟨w.heap.size + 1, 2, none⟩ = some (.int .i64 s.y) := (unhide HC) 2 (by simp)
  have l3 : X.cell? ⟨w.heap.size + 1, 3, none⟩ = some (.int .i64 s.c) := (unhide HC) 3 (by simp)
  have l4 : X.cell? ⟨w.heap.size + 1, 4, none⟩ = some (.slice a2 ps.length c2) := (unhide HC) 4 (by simp)
  obtain ⟨rhst, hrhst⟩ := S.eq_st s s
  have hrthst : rhst = true := hrhst.iff.2 rfl
  subst hrthst
  have hghst := S.guard_st
  have hst : ∀ w, (binOp .eql 34 (.agg #[.int .i64 s.x, .int .i64 s.y, .int .i64 s.c]) (.agg #[.int .i64 s.x, .int .i64 s.y, .int .i64 s.c])).run Try.prog w = .ok (.bool true) w := fun w => hrhst.op w
  clear hrhst
  go_wp2_with fail
  refine (ltPasts_any _ _ ps _ (unhide H1) (unhide H2)).mono ?_
  rintro e w1 ⟨rfl, hb1⟩
  go_wp2_with fail
  go_ret
  exact ⟨rfl, below_then (unhide HB0) hb1⟩
end Go.Proofs.Ytimkamgghkjhhaa.L
