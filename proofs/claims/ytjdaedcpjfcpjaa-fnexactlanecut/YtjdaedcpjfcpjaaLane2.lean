/- impl.LaneOk. -/
import Derived.Test.YtjdaedcpjfcpjaaLane1
import Derived.Test.YtjdaedcpjfcpjaaPast2
import Derived.Deep.Cut
namespace Go.Proofs.Ytjdaedcpjfcpjaa
open Go.RowKit
set_option linter.unusedVariables false
set_option linter.unusedSimpArgs false

def oneOk (proc : Int) (p : PastV) : Bool := decide (p.ev.to = proc) && pastOk p
def pLess (a b : PastV) : Bool := evLess a.ev b.ev
def laneOk (proc : Int) (s : StV) (ps : List PastV) : Bool := inR 0 3 proc && (stOk s && (decide ((ps.length : Int) ≤ 100) && (ps.all (oneOk proc) && ascB pLess ps)))

set_option maxRecDepth 100000 in
set_option maxHeartbeats 1000000 in
theorem isOfLane_any (proc : Int) (r : Nat) (p : PastV) (vs vo : Value) (w : World) (h : PastAt w vs vo p) (hr : w.cell? ⟨r, 0, none⟩ = some (.int .i64 proc)) :
    Calls Try.prog 41 #[pastAgg p vs vo, .pointer (some ⟨r, 0, none⟩)] w fun e w' => e = .returned (.bool (oneOk proc p)) ∧ Below w.heap.size w w' := by
  have H := hide h
  obtain ⟨a1, c1, e1, _⟩ := h.s
  obtain ⟨a2, c2, e2, _⟩ := h.o
  rw [List.length_map] at e1 e2
  subst e1 e2
  clear h
  have hb0 : Below w.heap.size w (w.alloc (.cells #[.int .i64 p.ev.time, .int .i64 p.ev.to, .int .i64 p.ev.src, .int .i64 p.ev.count, .int .i64 p.ev.n, .int .i64 p.ev.kind, .int .i64 p.ev.arg, .int .i64 p.st.x, .int .i64 p.st.y, .int .i64 p.st.c, .slice a1 p.sends.length c1, .slice a2 p.outs.length c2] 65)) := (Below.refl _ _).alloc (Nat.le_refl _) _
  have cA : CellsAt (w.alloc (.cells #[.int .i64 p.ev.time, .int .i64 p.ev.to, .int .i64 p.ev.src, .int .i64 p.ev.count, .int .i64 p.ev.n, .int .i64 p.ev.kind, .int .i64 p.ev.arg, .int .i64 p.st.x, .int .i64 p.st.y, .int .i64 p.st.c, .slice a1 p.sends.length c1, .slice a2 p.outs.length c2] 65)) w.heap.size 0 (pastCells p (.slice a1 p.sends.length c1) (.slice a2 p.outs.length c2)) := fun j hj => by
    match j, hj with
    | 0, _ => simp [go_sem]
    | 1, _ => simp [go_sem]
    | 2, _ => simp [go_sem]
    | 3, _ => simp [go_sem]
    | 4, _ => simp [go_sem]
    | 5, _ => simp [go_sem]
    | 6, _ => simp [go_sem]
    | 7, _ => simp [go_sem]
    | 8, _ => simp [go_sem]
    | 9, _ => simp [go_sem]
    | 10, _ => simp [go_sem]
    | 11, _ => simp [go_sem]
  have HA := hide cA
  have HB0 := hide hb0
  have HK := hide (cell_on hb0 hr)
  clear hb0 cA hr
  go_enter Try.func41, Try.ntmps41
  go_upto_region 1 with fail
  generalize (w.alloc (.cells #[.int .i64 p.ev.time, .int .i64 p.ev.to, .int .i64 p.ev.src, .int .i64 p.ev.count, .int .i64 p.ev.n, .int .i64 p.ev.kind, .int .i64 p.ev.arg, .int .i64 p.st.x, .int .i64 p.st.y, .int .i64 p.st.c, .slice a1 p.sends.length c1, .slice a2 p.outs.length c2] 65)) = W at *
  have k0 : W.cell? ⟨w.heap.size, 0, none⟩ = some (.int .i64 p.ev.time) := (unhide HA) 0 (by simp)
  have k1 : W.cell? ⟨w.heap.size, 1, none⟩ = some (.int .i64 p.ev.to) := (unhide HA) 1 (by simp)
  have k2 : W.cell? ⟨w.heap.size, 2, none⟩ = some (.int .i64 p.ev.src) := (unhide HA) 2 (by simp)
  have k3 : W.cell? ⟨w.heap.size, 3, none⟩ = some (.int .i64 p.ev.count) := (unhide HA) 3 (by simp)
  have k4 : W.cell? ⟨w.heap.size, 4, none⟩ = some (.int .i64 p.ev.n) := (unhide HA) 4 (by simp)
  have k5 : W.cell? ⟨w.heap.size, 5, none⟩ = some (.int .i64 p.ev.kind) := (unhide HA) 5 (by simp)
  have k6 : W.cell? ⟨w.heap.size, 6, none⟩ = some (.int .i64 p.ev.arg) := (unhide HA) 6 (by simp)
  have k7 : W.cell? ⟨w.heap.size, 7, none⟩ = some (.int .i64 p.st.x) := (unhide HA) 7 (by simp)
  have k8 : W.cell? ⟨w.heap.size, 8, none⟩ = some (.int .i64 p.st.y) := (unhide HA) 8 (by simp)
  have k9 : W.cell? ⟨w.heap.size, 9, none⟩ = some (.int .i64 p.st.c) := (unhide HA) 9 (by simp)
  have k10 : W.cell? ⟨w.heap.size, 10, none⟩ = some (.slice a1 p.sends.length c1) := (unhide HA) 10 (by simp)
  have k11 : W.cell? ⟨w.heap.size, 11, none⟩ = some (.slice a2 p.outs.length c2) := (unhide HA) 11 (by simp)
  have hr := unhide HK
  by_cases hd : p.ev.to = proc
  · have hd1 : (p.ev.to == proc) = true := by simp [hd]
    have HD := hide hd
    clear hd
    go_wp2_with fail
    refine (pastInForm_any p _ _ W ((unhide H).on (unhide HB0))).mono ?_
    rintro e w1 ⟨rfl, hb1⟩
    go_wp2_with fail
    go_ret
    exact ⟨ret_bool (by simp [oneOk, unhide HD]), below_then (unhide HB0) hb1⟩
  · have hd1 : (p.ev.to == proc) = false := by simp [hd]
    go_wp2_with fail
    go_ret
    exact ⟨ret_bool (by simp [oneOk, hd]), unhide HB0⟩

set_option maxRecDepth 100000 in
set_option maxHeartbeats 1000000 in
theorem allHoldPast_any (proc : Int) (r : Nat) (v : Value) (ps : List PastV) (w : World) (h : PastsAt w v ps) (hr : w.cell? ⟨r, 0, none⟩ = some (.int .i64 proc)) :
    Calls Try.prog 45 #[v, .func (.func 41) #[] #[.pointer (some ⟨r, 0, none⟩)]] w fun e w' => e = .returned (.bool (ps.all (oneOk proc))) ∧ Below w.heap.size w w' := by
  obtain ⟨ad, cap, rfl, hlc, hm, hc⟩ := h
  unfold maxLen at hm
  have HC := hide hc
  have HR := hide hr
  clear hc hr
  go_enter Try.func45, Try.ntmps45
  go_wp2_with fail
  go_loopw [9] (fun i wr => ∃ k : Nat, k ≤ ps.length ∧ i = .int .i64 k ∧ Hid ((ps.take k).all (oneOk proc) = true) ∧ Hid (Below w.heap.size w wr)) (fun i _ => ps.length - (intOf i).toNat)
  case atStart => exact ⟨0, Nat.zero_le _, rfl, hide (by simp), hide (Below.refl _ _)⟩
  case round =>
    obtain ⟨k, hk, rfl, HA, HB⟩ := hrel
    by_cases hlt : k < ps.length
    · obtain ⟨b, off, vs, vo, had, hc, hp⟩ : ∃ b off vs vo, ad = some ⟨b, off, none⟩ ∧ CellsAt wr b (off + k * 12) (pastCells ps[k] vs vo) ∧ PastAt wr vs vo ps[k] := by
        rcases unhide HC with h | ⟨b, off, h1, h2⟩
        · rw [h] at hlt; exact absurd hlt (Nat.not_lt_zero _)
        · obtain ⟨vs, vo, h3, h4⟩ := h2 k hlt
          exact ⟨b, off, vs, vo, h1, h3.on (unhide HB), h4.on (unhide HB)⟩
      have hkI : (k : Int) < (ps.length : Int) := by omega
      have hk0 : (0 : Int) ≤ (k : Int) := by omega
      subst had
      have HY := hide (fun h => all_take_more (oneOk proc) ps k hlt (unhide HA) h)
      have HNO := hide (fun h => all_false_at (oneOk proc) ps k hlt h)
      obtain ⟨p, hpe⟩ : ∃ p, p = ps[k] := ⟨_, rfl⟩
      rw [← hpe] at hc hp HY HNO
      clear hpe
      obtain ⟨a1, c1, e1, _⟩ := hp.s
      obtain ⟨a2, c2, e2, _⟩ := hp.o
      rw [List.length_map] at e1 e2
      subst e1 e2
      have q0 : wr.cell? ⟨b, off + k * 12, none⟩ = some (.int .i64 p.ev.time) := hc 0 (by simp)
      have q1 : wr.cell? ⟨b, off + k * 12 + 1, none⟩ = some (.int .i64 p.ev.to) := hc 1 (by simp)
      have q2 : wr.cell? ⟨b, off + k * 12 + 2, none⟩ = some (.int .i64 p.ev.src) := hc 2 (by simp)
      have q3 : wr.cell? ⟨b, off + k * 12 + 3, none⟩ = some (.int .i64 p.ev.count) := hc 3 (by simp)
      have q4 : wr.cell? ⟨b, off + k * 12 + 4, none⟩ = some (.int .i64 p.ev.n) := hc 4 (by simp)
      have q5 : wr.cell? ⟨b, off + k * 12 + 5, none⟩ = some (.int .i64 p.ev.kind) := hc 5 (by simp)
      have q6 : wr.cell? ⟨b, off + k * 12 + 6, none⟩ = some (.int .i64 p.ev.arg) := hc 6 (by simp)
      have q7 : wr.cell? ⟨b, off + k * 12 + 7, none⟩ = some (.int .i64 p.st.x) := hc 7 (by simp)
      have q8 : wr.cell? ⟨b, off + k * 12 + 8, none⟩ = some (.int .i64 p.st.y) := hc 8 (by simp)
      have q9 : wr.cell? ⟨b, off + k * 12 + 9, none⟩ = some (.int .i64 p.st.c) := hc 9 (by simp)
      have q10 : wr.cell? ⟨b, off + k * 12 + 10, none⟩ = some (.slice a1 p.sends.length c1) := hc 10 (by simp)
      have q11 : wr.cell? ⟨b, off + k * 12 + 11, none⟩ = some (.slice a2 p.outs.length c2) := hc 11 (by simp)
      have HP := hide hp
      clear hc hp
      go_wp2_with fail
      have hbA : Below wr.heap.size wr (wr.alloc (.cells #[.int .i64 p.ev.time, .int .i64 p.ev.to, .int .i64 p.ev.src, .int .i64 p.ev.count, .int .i64 p.ev.n, .int .i64 p.ev.kind, .int .i64 p.ev.arg, .int .i64 p.st.x, .int .i64 p.st.y, .int .i64 p.st.c, .slice a1 p.sends.length c1, .slice a2 p.outs.length c2] 65)) := (Below.refl _ _).alloc (Nat.le_refl _) _
      refine (isOfLane_any proc r p _ _ _ ((unhide HP).on hbA) (cell_on hbA (cell_on (unhide HB) (unhide HR)))).mono ?_
      rintro e w2 ⟨rfl, hb2⟩
      have hB2 := below_then (unhide HB) (below_then hbA hb2)
      cases hok : oneOk proc p
      · go_wp2_with fail
        go_ret
        exact ⟨ret_bool ((unhide HNO) hok).symm, hB2⟩
      · go_wp2_with fail
        go_roundw
        case rel => exact ⟨k + 1, by omega, by simp, hide ((unhide HY) hok), hide hB2⟩
        case measure => (simp [intOf]; try omega)
    · have hke : k = ps.length := by omega
      subst hke
      go_wp2_with fail
      go_ret
      exact ⟨ret_bool (by have := unhide HA; rw [List.take_length] at this; exact this.symm), unhide HB⟩

set_option maxRecDepth 100000 in
set_option maxHeartbeats 1000000 in
theorem pastLess_any (p q : PastV) (vs vo us uo : Value) (w : World) :
    Calls Try.prog 47 #[pastAgg p vs vo, pastAgg q us uo] w fun e w' => e = .returned (.bool (pLess p q)) ∧ Below w.heap.size w w' := by
  have hb0 : Below w.heap.size w ((w.alloc (.cells #[.int .i64 p.ev.time, .int .i64 p.ev.to, .int .i64 p.ev.src, .int .i64 p.ev.count, .int .i64 p.ev.n, .int .i64 p.ev.kind, .int .i64 p.ev.arg, .int .i64 p.st.x, .int .i64 p.st.y, .int .i64 p.st.c, vs, vo] 65)).alloc (.cells #[.int .i64 q.ev.time, .int .i64 q.ev.to, .int .i64 q.ev.src, .int .i64 q.ev.count, .int .i64 q.ev.n, .int .i64 q.ev.kind, .int .i64 q.ev.arg, .int .i64 q.st.x, .int .i64 q.st.y, .int .i64 q.st.c, us, uo] 65)) := ((Below.refl _ _).alloc (Nat.le_refl _) _).alloc (by simp) _
  go_enter Try.func47, Try.ntmps47
  go_wp2_with fail
  refine (implEventLess_any p.ev q.ev _).mono ?_
  rintro e w1 ⟨rfl, hb1⟩
  go_wp2_with fail
  go_ret
  exact ⟨rfl, below_then hb0 hb1⟩

set_option maxRecDepth 100000 in
set_option maxHeartbeats 1000000 in
theorem ascendingPast_any (v : Value) (l : List PastV) (w : World) (h : PastsAt w v l) :
    Calls Try.prog 46 #[v, .func (.func 47) #[] #[]] w fun e w' => e = .returned (.bool (ascB pLess l)) ∧ Below w.heap.size w w' := by
  obtain ⟨ad, cap, rfl, hlc, hm, hc⟩ := h
  unfold maxLen at hm
  have HC := hide hc
  clear hc
  go_enter Try.func46, Try.ntmps46
  go_wp2_with fail
  go_loopw [5] (fun i wr => ∃ m : Nat, 1 ≤ m ∧ (m ≤ l.length ∨ m = 1) ∧ i = .int .i64 m ∧ Hid (∀ j (hj : j + 1 < l.length), j + 1 < m → pLess (l[j]'(by omega)) l[j + 1] = true) ∧ Hid (Below w.heap.size w wr)) (fun i _ => l.length - (intOf i).toNat)
  case atStart => exact ⟨1, by omega, Or.inr rfl, rfl, hide (fun j _ h => by omega), hide (Below.refl _ _)⟩
  case round =>
    obtain ⟨m, hm1, hm2, rfl, HA, HB⟩ := hrel
    by_cases hlt : m < l.length
    · obtain ⟨i, hi⟩ : ∃ i, m = i + 1 := ⟨m - 1, by omega⟩
      obtain ⟨b, off, had, hcc⟩ : ∃ b off, ad = some ⟨b, off, none⟩ ∧ ∀ k (hk : k < l.length), ∃ vs vo, CellsAt wr b (off + k * 12) (pastCells l[k] vs vo) := by
        rcases unhide HC with h | ⟨b, off, h1, h2⟩
        · rw [h] at hlt; exact absurd hlt (Nat.not_lt_zero _)
        · refine ⟨b, off, h1, fun k hk => ?_⟩
          obtain ⟨vs, vo, h3, _⟩ := h2 k hk
          exact ⟨vs, vo, h3.on (unhide HB)⟩
      subst had
      obtain ⟨vs, vo, hc1⟩ := hcc i (by omega)
      obtain ⟨us, uo, hc2⟩ := hcc m hlt
      have HY : Hid (pLess (l[i]'(by omega)) l[m] = true → ∀ j (hj : j + 1 < l.length), j + 1 < m + 1 → pLess (l[j]'(by omega)) l[j + 1] = true) := hide (fun h j hj hjm => by
        by_cases e : j = i
        · subst e; subst hi; exact h
        · exact (unhide HA) j hj (by omega))
      have HNO : Hid (pLess (l[i]'(by omega)) l[m] = false → ascB pLess l = false) := hide (fun h => by subst hi; exact ascB_no hlt h)
      clear hcc
      obtain ⟨p, hX⟩ : ∃ X, X = l[i]'(by omega) := ⟨_, rfl⟩
      obtain ⟨q, hY⟩ : ∃ Y, Y = l[m] := ⟨_, rfl⟩
      rw [← hX] at hc1 HY HNO
      rw [← hY] at hc2 HY HNO
      clear hX hY
      have hpI : (m : Int) - 1 = (i : Int) := by omega
      have hpl : (i : Int) < (l.length : Int) := by omega
      have hml : (m : Int) < (l.length : Int) := by omega
      clear hi
      have q10 : ∀ y : On wr, y.y.cell? ⟨b, off + i * 12, none⟩ = some (.int .i64 p.ev.time) := fun y => cell_on y.h (hc1 0 (by simp))
      have q11 : ∀ y : On wr, y.y.cell? ⟨b, off + i * 12 + 1, none⟩ = some (.int .i64 p.ev.to) := fun y => cell_on y.h (hc1 1 (by simp))
      have q12 : ∀ y : On wr, y.y.cell? ⟨b, off + i * 12 + 2, none⟩ = some (.int .i64 p.ev.src) := fun y => cell_on y.h (hc1 2 (by simp))
      have q13 : ∀ y : On wr, y.y.cell? ⟨b, off + i * 12 + 3, none⟩ = some (.int .i64 p.ev.count) := fun y => cell_on y.h (hc1 3 (by simp))
      have q14 : ∀ y : On wr, y.y.cell? ⟨b, off + i * 12 + 4, none⟩ = some (.int .i64 p.ev.n) := fun y => cell_on y.h (hc1 4 (by simp))
      have q15 : ∀ y : On wr, y.y.cell? ⟨b, off + i * 12 + 5, none⟩ = some (.int .i64 p.ev.kind) := fun y => cell_on y.h (hc1 5 (by simp))
      have q16 : ∀ y : On wr, y.y.cell? ⟨b, off + i * 12 + 6, none⟩ = some (.int .i64 p.ev.arg) := fun y => cell_on y.h (hc1 6 (by simp))
      have q17 : ∀ y : On wr, y.y.cell? ⟨b, off + i * 12 + 7, none⟩ = some (.int .i64 p.st.x) := fun y => cell_on y.h (hc1 7 (by simp))
      have q18 : ∀ y : On wr, y.y.cell? ⟨b, off + i * 12 + 8, none⟩ = some (.int .i64 p.st.y) := fun y => cell_on y.h (hc1 8 (by simp))
      have q19 : ∀ y : On wr, y.y.cell? ⟨b, off + i * 12 + 9, none⟩ = some (.int .i64 p.st.c) := fun y => cell_on y.h (hc1 9 (by simp))
      have q110 : ∀ y : On wr, y.y.cell? ⟨b, off + i * 12 + 10, none⟩ = some (vs) := fun y => cell_on y.h (hc1 10 (by simp))
      have q111 : ∀ y : On wr, y.y.cell? ⟨b, off + i * 12 + 11, none⟩ = some (vo) := fun y => cell_on y.h (hc1 11 (by simp))
      have q20 : ∀ y : On wr, y.y.cell? ⟨b, off + m * 12, none⟩ = some (.int .i64 q.ev.time) := fun y => cell_on y.h (hc2 0 (by simp))
      have q21 : ∀ y : On wr, y.y.cell? ⟨b, off + m * 12 + 1, none⟩ = some (.int .i64 q.ev.to) := fun y => cell_on y.h (hc2 1 (by simp))
      have q22 : ∀ y : On wr, y.y.cell? ⟨b, off + m * 12 + 2, none⟩ = some (.int .i64 q.ev.src) := fun y => cell_on y.h (hc2 2 (by simp))
      have q23 : ∀ y : On wr, y.y.cell? ⟨b, off + m * 12 + 3, none⟩ = some (.int .i64 q.ev.count) := fun y => cell_on y.h (hc2 3 (by simp))
      have q24 : ∀ y : On wr, y.y.cell? ⟨b, off + m * 12 + 4, none⟩ = some (.int .i64 q.ev.n) := fun y => cell_on y.h (hc2 4 (by simp))
      have q25 : ∀ y : On wr, y.y.cell? ⟨b, off + m * 12 + 5, none⟩ = some (.int .i64 q.ev.kind) := fun y => cell_on y.h (hc2 5 (by simp))
      have q26 : ∀ y : On wr, y.y.cell? ⟨b, off + m * 12 + 6, none⟩ = some (.int .i64 q.ev.arg) := fun y => cell_on y.h (hc2 6 (by simp))
      have q27 : ∀ y : On wr, y.y.cell? ⟨b, off + m * 12 + 7, none⟩ = some (.int .i64 q.st.x) := fun y => cell_on y.h (hc2 7 (by simp))
      have q28 : ∀ y : On wr, y.y.cell? ⟨b, off + m * 12 + 8, none⟩ = some (.int .i64 q.st.y) := fun y => cell_on y.h (hc2 8 (by simp))
      have q29 : ∀ y : On wr, y.y.cell? ⟨b, off + m * 12 + 9, none⟩ = some (.int .i64 q.st.c) := fun y => cell_on y.h (hc2 9 (by simp))
      have q210 : ∀ y : On wr, y.y.cell? ⟨b, off + m * 12 + 10, none⟩ = some (us) := fun y => cell_on y.h (hc2 10 (by simp))
      have q211 : ∀ y : On wr, y.y.cell? ⟨b, off + m * 12 + 11, none⟩ = some (uo) := fun y => cell_on y.h (hc2 11 (by simp))
      clear hc1 hc2
      go_wp2_with fail
      have hne : Nonempty (On wr) := ⟨⟨wr, Below.refl _ _⟩⟩
      refine wp_region_on (by kernel_rfl) (by kernel_rfl) ?_
      repeat (first | go_big_quiet_step ((go_at_call 47; exact calls_on (pastLess_any p q vs vo us uo _))) | quiet_step ((go_at_call 47; exact calls_on (pastLess_any p q vs vo us uo _))))
      refine wpQuiet_nil ?_
      intro _ hw'
      obtain ⟨nq, hw''⟩ := hw'
      subst hw''
      cases hok : pLess p q
      · go_wp2_with fail
        go_ret
        exact ⟨ret_bool ((unhide HNO) hok).symm, below_then (unhide HB) nq.h⟩
      · go_wp2_with fail
        go_roundw
        case rel => exact ⟨m + 1, by omega, Or.inl (by omega), by simp, hide ((unhide HY) hok), hide (below_then (unhide HB) nq.h)⟩
        case measure => (simp [intOf]; try omega)
    · have hml : ¬ (m : Int) < (l.length : Int) := by omega
      go_wp2_with fail
      go_ret
      exact ⟨ret_bool (ascB_upto (fun j hj => (unhide HA) j hj (by omega))).symm, unhide HB⟩

set_option maxRecDepth 100000 in
set_option maxHeartbeats 1000000 in
theorem implLaneOk_any (proc : Int) (s : StV) (v : Value) (ps : List PastV) (w : World) (h : PastsAt w v ps) :
    Calls Try.prog 11 #[laneAgg proc s v] w fun e w' => e = .returned (.bool (laneOk proc s ps)) ∧ Below w.heap.size w w' := by
  have H := hide h
  obtain ⟨a1, c1, e1, _, hm, _⟩ := h
  subst e1
  unfold maxLen at hm
  have hb0 : Below w.heap.size w (w.alloc (.cells #[.int .i64 proc, .int .i64 s.x, .int .i64 s.y, .int .i64 s.c, .slice a1 ps.length c1] 32)) := (Below.refl _ _).alloc (Nat.le_refl _) _
  have cA : CellsAt (w.alloc (.cells #[.int .i64 proc, .int .i64 s.x, .int .i64 s.y, .int .i64 s.c, .slice a1 ps.length c1] 32)) w.heap.size 0 (laneCells proc s (.slice a1 ps.length c1)) := fun j hj => by
    match j, hj with
    | 0, _ => simp [go_sem]
    | 1, _ => simp [go_sem]
    | 2, _ => simp [go_sem]
    | 3, _ => simp [go_sem]
    | 4, _ => simp [go_sem]
  have HA := hide cA
  have HB0 := hide hb0
  clear hb0 cA
  go_enter Try.func11, Try.ntmps11
  go_upto_region 2 with fail
  generalize (w.alloc (.cells #[.int .i64 proc, .int .i64 s.x, .int .i64 s.y, .int .i64 s.c, .slice a1 ps.length c1] 32)) = W at *
  have k0 : W.cell? ⟨w.heap.size, 0, none⟩ = some (.int .i64 proc) := (unhide HA) 0 (by simp)
  have k1 : W.cell? ⟨w.heap.size, 1, none⟩ = some (.int .i64 s.x) := (unhide HA) 1 (by simp)
  have k2 : W.cell? ⟨w.heap.size, 2, none⟩ = some (.int .i64 s.y) := (unhide HA) 2 (by simp)
  have k3 : W.cell? ⟨w.heap.size, 3, none⟩ = some (.int .i64 s.c) := (unhide HA) 3 (by simp)
  have k4 : W.cell? ⟨w.heap.size, 4, none⟩ = some (.slice a1 ps.length c1) := (unhide HA) 4 (by simp)
  go_wp2_with fail
  refine (isProc_any proc W).mono ?_
  rintro e w0 ⟨rfl, hw0⟩
  obtain rfl := hw0.symm
  cases h0 : inR 0 3 proc
  · go_wp2_with fail
    go_ret
    exact ⟨ret_bool (by simp [laneOk, h0]), unhide HB0⟩
  go_wp2_with fail
  refine (stateInForm_any s W).mono ?_
  rintro e w1 ⟨rfl, hb1⟩
  have hB1 := below_then (unhide HB0) hb1
  replace k0 := cell_on hb1 k0
  replace k4 := cell_on hb1 k4
  cases h1 : stOk s
  · go_wp2_with fail
    go_ret
    exact ⟨ret_bool (by simp [laneOk, h1]), hB1⟩
  by_cases h2 : (ps.length : Int) ≤ 100
  rotate_left
  · have h3 : ¬ (ps.length : Int) ≤ 100 := h2
    have h4 : decide ((ps.length : Int) ≤ 100) = false := decide_eq_false h2
    go_wp2_with fail
    go_ret
    exact ⟨ret_bool (by simp only [laneOk, h4, Bool.false_and, Bool.and_false]), hB1⟩
  have h4 : decide ((ps.length : Int) ≤ 100) = true := decide_eq_true h2
  go_wp2_with fail
  refine (allHoldPast_any proc w.heap.size _ ps w1 ((unhide H).on hB1) k0).mono ?_
  rintro e w2 ⟨rfl, hb2⟩
  have hB2 := below_then hB1 hb2
  replace k4 := cell_on hb2 k4
  cases h5 : ps.all (oneOk proc)
  · go_wp2_with fail
    go_ret
    exact ⟨ret_bool (by simp only [laneOk, h5, Bool.false_and, Bool.and_false]), hB2⟩
  go_wp2_with fail
  refine (ascendingPast_any _ ps w2 ((unhide H).on hB2)).mono ?_
  rintro e w3 ⟨rfl, hb3⟩
  go_wp2_with fail
  go_ret
  exact ⟨ret_bool (by simp only [laneOk, h0, h1, h4, h5, Bool.true_and]), below_then hB2 hb3⟩
end Go.Proofs.Ytjdaedcpjfcpjaa
