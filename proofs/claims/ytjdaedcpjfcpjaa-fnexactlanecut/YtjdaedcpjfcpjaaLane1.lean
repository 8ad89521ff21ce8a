/- Whether what was done is in form: impl.pastInForm, spec.l21PastOk. -/
import Derived.Test.YtjdaedcpjfcpjaaPast1
import Derived.Test.YtjdaedcpjfcpjaaHold4
import Derived.Deep.Cut
namespace Go.Proofs.Ytjdaedcpjfcpjaa
open Go.RowKit
set_option linter.unusedVariables false
set_option linter.unusedSimpArgs false

def pastOk (p : PastV) : Bool := evOk p.ev && (stOk p.st && (inOrder evOk evLess p.sends 2 && inOrder outOk outLess p.outs 2))

set_option maxRecDepth 100000 in
set_option maxHeartbeats 1000000 in
theorem pastInForm_any (p : PastV) (vs vo : Value) (w : World) (h : PastAt w vs vo p) :
    Calls Try.prog 42 #[pastAgg p vs vo] w fun e w' => e = .returned (.bool (pastOk p)) ∧ Below w.heap.size w w' := by
  have H := hide h
  obtain ⟨a1, c1, e1, _⟩ := h.s
  obtain ⟨a2, c2, e2, _⟩ := h.o
  rw [List.length_map] at e1 e2
  subst e1 e2
  clear h
  have hb0 : Below w.heap.size w (w.alloc (.cells #[.int .i64 p.ev.time, .int .i64 p.ev.to, .int .i64 p.ev.src, .int .i64 p.ev.count, .int .i64 p.ev.n, .int .i64 p.ev.kind, .int .i64 p.ev.arg, .int .i64 p.st.x, .int .i64 p.st.y, .int .i64 p.st.c, .slice a1 p.sends.length c1, .slice a2 p.outs.length c2] 65)) := (Below.refl _ _).alloc (Nat.le_refl _) _
  have cA : CellsAt (w.alloc (.cells #[.int .i64 p.ev.time, .int .i64 p.ev.to, .int .i64 p.ev.src, .int .i64 p.ev.count, .int .i64 p.ev.n, .int .i64 p.ev.kind, .int .i64 p.ev.arg, .int .i64 p.st.x, .int .i64 p.st.y, .int .i64 p.st.c, .slice a1 p.sends.length c1, .slice a2 p.outs.length c2] 65)) w.heap.size 0 (pastCells p (.slice a1 p.sends.length c1) (.slice a2 p.outs.length c2)) := fun j hj => by
    match j, hj with
    | 0, _ => simp [go_sem]
    | 1, _ => simp [go_sem]
    | 2, _ => simp [go_sem]
    | 3, _ => simp [go_sem]
    | 4, _ => simp [go_sem]
    | 5, _ => simp [go_sem]
    | 6, _ => simp [go_sem]
    | 7, _ => simp [go_sem]
    | 8, _ => simp [go_sem]
    | 9, _ => simp [go_sem]
    | 10, _ => simp [go_sem]
    | 11, _ => simp [go_sem]
  have HA := hide cA
  have HB0 := hide hb0
  clear hb0 cA
  go_enter Try.func42, Try.ntmps42
  go_upto_region 1 with fail
  generalize (w.alloc (.cells #[.int .i64 p.ev.time, .int .i64 p.ev.to, .int .i64 p.ev.src, .int .i64 p.ev.count, .int .i64 p.ev.n, .int .i64 p.ev.kind, .int .i64 p.ev.arg, .int .i64 p.st.x, .int .i64 p.st.y, .int .i64 p.st.c, .slice a1 p.sends.length c1, .slice a2 p.outs.length c2] 65)) = w0 at *
  have k0 : w0.cell? ⟨w.heap.size, 0, none⟩ = some (.int .i64 p.ev.time) := (unhide HA) 0 (by simp)
  have k1 : w0.cell? ⟨w.heap.size, 1, none⟩ = some (.int .i64 p.ev.to) := (unhide HA) 1 (by simp)
  have k2 : w0.cell? ⟨w.heap.size, 2, none⟩ = some (.int .i64 p.ev.src) := (unhide HA) 2 (by simp)
  have k3 : w0.cell? ⟨w.heap.size, 3, none⟩ = some (.int .i64 p.ev.count) := (unhide HA) 3 (by simp)
  have k4 : w0.cell? ⟨w.heap.size, 4, none⟩ = some (.int .i64 p.ev.n) := (unhide HA) 4 (by simp)
  have k5 : w0.cell? ⟨w.heap.size, 5, none⟩ = some (.int .i64 p.ev.kind) := (unhide HA) 5 (by simp)
  have k6 : w0.cell? ⟨w.heap.size, 6, none⟩ = some (.int .i64 p.ev.arg) := (unhide HA) 6 (by simp)
  have k7 : w0.cell? ⟨w.heap.size, 7, none⟩ = some (.int .i64 p.st.x) := (unhide HA) 7 (by simp)
  have k8 : w0.cell? ⟨w.heap.size, 8, none⟩ = some (.int .i64 p.st.y) := (unhide HA) 8 (by simp)
  have k9 : w0.cell? ⟨w.heap.size, 9, none⟩ = some (.int .i64 p.st.c) := (unhide HA) 9 (by simp)
  have k10 : w0.cell? ⟨w.heap.size, 10, none⟩ = some (.slice a1 p.sends.length c1) := (unhide HA) 10 (by simp)
  have k11 : w0.cell? ⟨w.heap.size, 11, none⟩ = some (.slice a2 p.outs.length c2) := (unhide HA) 11 (by simp)
  have hB0 := unhide HB0
  go_wp2_with fail
  refine (eventInForm_any p.ev w0).mono ?_
  rintro e w1 ⟨rfl, hb1⟩
  have hB1 := below_then hB0 hb1
  replace k0 := cell_on hb1 k0
  replace k1 := cell_on hb1 k1
  replace k2 := cell_on hb1 k2
  replace k3 := cell_on hb1 k3
  replace k4 := cell_on hb1 k4
  replace k5 := cell_on hb1 k5
  replace k6 := cell_on hb1 k6
  replace k7 := cell_on hb1 k7
  replace k8 := cell_on hb1 k8
  replace k9 := cell_on hb1 k9
  replace k10 := cell_on hb1 k10
  replace k11 := cell_on hb1 k11
  cases h0 : evOk p.ev
  · go_wp2_with fail
    go_ret
    exact ⟨ret_bool (by simp [pastOk, h0]), hB1⟩
  go_wp2_with fail
  refine (stateInForm_any p.st w1).mono ?_
  rintro e w2 ⟨rfl, hb2⟩
  have hB2 := below_then hB1 hb2
  replace k0 := cell_on hb2 k0
  replace k1 := cell_on hb2 k1
  replace k2 := cell_on hb2 k2
  replace k3 := cell_on hb2 k3
  replace k4 := cell_on hb2 k4
  replace k5 := cell_on hb2 k5
  replace k6 := cell_on hb2 k6
  replace k7 := cell_on hb2 k7
  replace k8 := cell_on hb2 k8
  replace k9 := cell_on hb2 k9
  replace k10 := cell_on hb2 k10
  replace k11 := cell_on hb2 k11
  cases h1 : stOk p.st
  · go_wp2_with fail
    go_ret
    exact ⟨ret_bool (by simp [pastOk, h1]), hB2⟩
  go_wp2_with fail
  refine (eventsInOrder_any _ p.sends 2 w2 ((unhide H).s.on hB2)).mono ?_
  rintro e w3 ⟨rfl, hb3⟩
  have hB3 := below_then hB2 hb3
  replace k0 := cell_on hb3 k0
  replace k1 := cell_on hb3 k1
  replace k2 := cell_on hb3 k2
  replace k3 := cell_on hb3 k3
  replace k4 := cell_on hb3 k4
  replace k5 := cell_on hb3 k5
  replace k6 := cell_on hb3 k6
  replace k7 := cell_on hb3 k7
  replace k8 := cell_on hb3 k8
  replace k9 := cell_on hb3 k9
  replace k10 := cell_on hb3 k10
  replace k11 := cell_on hb3 k11
  cases h2 : inOrder evOk evLess p.sends 2
  · go_wp2_with fail
    go_ret
    exact ⟨ret_bool (by simp [pastOk, h2]), hB3⟩
  go_wp2_with fail
  refine (outsInOrder_any _ p.outs 2 w3 ((unhide H).o.on hB3)).mono ?_
  rintro e w4 ⟨rfl, hb4⟩
  have hB4 := below_then hB3 hb4
  replace k0 := cell_on hb4 k0
  replace k1 := cell_on hb4 k1
  replace k2 := cell_on hb4 k2
  replace k3 := cell_on hb4 k3
  replace k4 := cell_on hb4 k4
  replace k5 := cell_on hb4 k5
  replace k6 := cell_on hb4 k6
  replace k7 := cell_on hb4 k7
  replace k8 := cell_on hb4 k8
  replace k9 := cell_on hb4 k9
  replace k10 := cell_on hb4 k10
  replace k11 := cell_on hb4 k11
  go_wp2_with fail
  go_ret
  exact ⟨ret_bool (by simp [pastOk, h0, h1, h2]), hB4⟩

set_option maxRecDepth 100000 in
set_option maxHeartbeats 1000000 in
theorem l21PastOk_any (p : PastV) (vs vo : Value) (proc : Int) (w : World) (h : PastAt w vs vo p) :
    Calls Try.prog 37 #[pastAgg p vs vo, .int .i64 proc] w fun e w' => e = .returned (.bool (decide (p.ev.to = proc) && pastOk p)) ∧ Below w.heap.size w w' := by
  have H := hide h
  obtain ⟨a1, c1, e1, _⟩ := h.s
  obtain ⟨a2, c2, e2, _⟩ := h.o
  rw [List.length_map] at e1 e2
  subst e1 e2
  clear h
  have hb0 : Below w.heap.size w (w.alloc (.cells #[.int .i64 p.ev.time, .int .i64 p.ev.to, .int .i64 p.ev.src, .int .i64 p.ev.count, .int .i64 p.ev.n, .int .i64 p.ev.kind, .int .i64 p.ev.arg, .int .i64 p.st.x, .int .i64 p.st.y, .int .i64 p.st.c, .slice a1 p.sends.length c1, .slice a2 p.outs.length c2] 65)) := (Below.refl _ _).alloc (Nat.le_refl _) _
  have cA : CellsAt (w.alloc (.cells #[.int .i64 p.ev.time, .int .i64 p.ev.to, .int .i64 p.ev.src, .int .i64 p.ev.count, .int .i64 p.ev.n, .int .i64 p.ev.kind, .int .i64 p.ev.arg, .int .i64 p.st.x, .int .i64 p.st.y, .int .i64 p.st.c, .slice a1 p.sends.length c1, .slice a2 p.outs.length c2] 65)) w.heap.size 0 (pastCells p (.slice a1 p.sends.length c1) (.slice a2 p.outs.length c2)) := fun j hj => by
    match j, hj with
    | 0, _ => simp [go_sem]
    | 1, _ => simp [go_sem]
    | 2, _ => simp [go_sem]
    | 3, _ => simp [go_sem]
    | 4, _ => simp [go_sem]
    | 5, _ => simp [go_sem]
    | 6, _ => simp [go_sem]
    | 7, _ => simp [go_sem]
    | 8, _ => simp [go_sem]
    | 9, _ => simp [go_sem]
    | 10, _ => simp [go_sem]
    | 11, _ => simp [go_sem]
  have HA := hide cA
  have HB0 := hide hb0
  clear hb0 cA
  go_enter Try.func37, Try.ntmps37
  go_upto_region 1 with fail
  generalize (w.alloc (.cells #[.int .i64 p.ev.time, .int .i64 p.ev.to, .int .i64 p.ev.src, .int .i64 p.ev.count, .int .i64 p.ev.n, .int .i64 p.ev.kind, .int .i64 p.ev.arg, .int .i64 p.st.x, .int .i64 p.st.y, .int .i64 p.st.c, .slice a1 p.sends.length c1, .slice a2 p.outs.length c2] 65)) = w0 at *
  have k0 : w0.cell? ⟨w.heap.size, 0, none⟩ = some (.int .i64 p.ev.time) := (unhide HA) 0 (by simp)
  have k1 : w0.cell? ⟨w.heap.size, 1, none⟩ = some (.int .i64 p.ev.to) := (unhide HA) 1 (by simp)
  have k2 : w0.cell? ⟨w.heap.size, 2, none⟩ = some (.int .i64 p.ev.src) := (unhide HA) 2 (by simp)
  have k3 : w0.cell? ⟨w.heap.size, 3, none⟩ = some (.int .i64 p.ev.count) := (unhide HA) 3 (by simp)
  have k4 : w0.cell? ⟨w.heap.size, 4, none⟩ = some (.int .i64 p.ev.n) := (unhide HA) 4 (by simp)
  have k5 : w0.cell? ⟨w.heap.size, 5, none⟩ = some (.int .i64 p.ev.kind) := (unhide HA) 5 (by simp)
  have k6 : w0.cell? ⟨w.heap.size, 6, none⟩ = some (.int .i64 p.ev.arg) := (unhide HA) 6 (by simp)
  have k7 : w0.cell? ⟨w.heap.size, 7, none⟩ = some (.int .i64 p.st.x) := (unhide HA) 7 (by simp)
  have k8 : w0.cell? ⟨w.heap.size, 8, none⟩ = some (.int .i64 p.st.y) := (unhide HA) 8 (by simp)
  have k9 : w0.cell? ⟨w.heap.size, 9, none⟩ = some (.int .i64 p.st.c) := (unhide HA) 9 (by simp)
  have k10 : w0.cell? ⟨w.heap.size, 10, none⟩ = some (.slice a1 p.sends.length c1) := (unhide HA) 10 (by simp)
  have k11 : w0.cell? ⟨w.heap.size, 11, none⟩ = some (.slice a2 p.outs.length c2) := (unhide HA) 11 (by simp)
  have hB0 := unhide HB0
  go_wp2_with fail
  refine (l1EventOk_any p.ev w0).mono ?_
  rintro e w1 ⟨rfl, hb1⟩
  have hB1 := below_then hB0 hb1
  replace k0 := cell_on hb1 k0
  replace k1 := cell_on hb1 k1
  replace k2 := cell_on hb1 k2
  replace k3 := cell_on hb1 k3
  replace k4 := cell_on hb1 k4
  replace k5 := cell_on hb1 k5
  replace k6 := cell_on hb1 k6
  replace k7 := cell_on hb1 k7
  replace k8 := cell_on hb1 k8
  replace k9 := cell_on hb1 k9
  replace k10 := cell_on hb1 k10
  replace k11 := cell_on hb1 k11
  cases h0 : evOk p.ev
  · go_wp2_with fail
    go_ret
    exact ⟨ret_bool (by simp [pastOk, h0]), hB1⟩
  by_cases h1 : p.ev.to = proc
  rotate_left
  · have hd : (p.ev.to == proc) = false := by simp [h1]
    go_wp2_with fail
    go_ret
    exact ⟨ret_bool (by simp [pastOk, h1]), hB1⟩
  have hd : (p.ev.to == proc) = true := by simp [h1]
  go_wp2_with fail
  refine (l1StateOk_any p.st w1).mono ?_
  rintro e w2 ⟨rfl, hb2⟩
  have hB2 := below_then hB1 hb2
  replace k0 := cell_on hb2 k0
  replace k1 := cell_on hb2 k1
  replace k2 := cell_on hb2 k2
  replace k3 := cell_on hb2 k3
  replace k4 := cell_on hb2 k4
  replace k5 := cell_on hb2 k5
  replace k6 := cell_on hb2 k6
  replace k7 := cell_on hb2 k7
  replace k8 := cell_on hb2 k8
  replace k9 := cell_on hb2 k9
  replace k10 := cell_on hb2 k10
  replace k11 := cell_on hb2 k11
  cases h2 : stOk p.st
  · go_wp2_with fail
    go_ret
    exact ⟨ret_bool (by simp [pastOk, h2]), hB2⟩
  go_wp2_with fail
  refine (l2Events_any _ p.sends 2 w2 ((unhide H).s.on hB2)).mono ?_
  rintro e w3 ⟨rfl, hb3⟩
  have hB3 := below_then hB2 hb3
  replace k0 := cell_on hb3 k0
  replace k1 := cell_on hb3 k1
  replace k2 := cell_on hb3 k2
  replace k3 := cell_on hb3 k3
  replace k4 := cell_on hb3 k4
  replace k5 := cell_on hb3 k5
  replace k6 := cell_on hb3 k6
  replace k7 := cell_on hb3 k7
  replace k8 := cell_on hb3 k8
  replace k9 := cell_on hb3 k9
  replace k10 := cell_on hb3 k10
  replace k11 := cell_on hb3 k11
  cases h3 : inOrder evOk evLess p.sends 2
  · go_wp2_with fail
    go_ret
    exact ⟨ret_bool (by simp [pastOk, h3]), hB3⟩
  go_wp2_with fail
  refine (l2Outs_any _ p.outs 2 w3 ((unhide H).o.on hB3)).mono ?_
  rintro e w4 ⟨rfl, hb4⟩
  have hB4 := below_then hB3 hb4
  replace k0 := cell_on hb4 k0
  replace k1 := cell_on hb4 k1
  replace k2 := cell_on hb4 k2
  replace k3 := cell_on hb4 k3
  replace k4 := cell_on hb4 k4
  replace k5 := cell_on hb4 k5
  replace k6 := cell_on hb4 k6
  replace k7 := cell_on hb4 k7
  replace k8 := cell_on hb4 k8
  replace k9 := cell_on hb4 k9
  replace k10 := cell_on hb4 k10
  replace k11 := cell_on hb4 k11
  go_wp2_with fail
  go_ret
  exact ⟨ret_bool (by simp [pastOk, h0, h1, h2, h3]), hB4⟩

end Go.Proofs.Ytjdaedcpjfcpjaa
