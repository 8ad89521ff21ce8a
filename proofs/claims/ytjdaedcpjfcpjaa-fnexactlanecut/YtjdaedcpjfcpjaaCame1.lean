/- What has come fits a lane: impl.cameFits, spec.l21Came. -/
import Derived.Test.YtjdaedcpjfcpjaaBox
import Derived.Test.YtjdaedcpjfcpjaaLane3
namespace Go.Proofs.Ytjdaedcpjfcpjaa
open Go.RowKit
set_option linter.unusedVariables false
set_option linter.unusedSimpArgs false

def forB (proc : Int) (e : EvV) : Bool := decide (e.to = proc)
def cameOk (proc : Int) (es : List EvV) : Bool := inOrder evOk evLess es 100 && es.all (forB proc)

theorem rows_ev {w : World} {v : Value} {l : List EvV} (h : RowsAt 7 w v (l.map evRow)) : ∃ ad cap, v = .slice ad l.length cap ∧ l.length ≤ cap ∧ l.length ≤ maxLen ∧ (0 < l.length → ∃ b off, ad = some ⟨b, off, none⟩ ∧ ∀ k (hk : k < l.length), CellsAt w b (off + k * 7) (evCells l[k])) := by
  obtain ⟨ad, cap, hv, hl, hm, h⟩ := h
  rw [List.length_map] at hv hl hm
  refine ⟨ad, cap, hv, hl, hm, fun h0 => ?_⟩
  rcases h with h | ⟨b, off, had, hc⟩
  · rw [List.map_eq_nil_iff] at h; rw [h] at h0; exact absurd h0 (Nat.lt_irrefl 0)
  · refine ⟨b, off, had, fun k hk j hj => ?_⟩
    have hj' : j < 7 := hj
    have h1 := hc k (by rw [List.length_map]; exact hk) j hj'
    rw [List.getElem_map] at h1
    rw [h1]
    match j, hj' with
    | 0, _ => rfl
    | 1, _ => rfl
    | 2, _ => rfl
    | 3, _ => rfl
    | 4, _ => rfl
    | 5, _ => rfl
    | 6, _ => rfl

set_option maxRecDepth 100000 in
theorem forProc_any (proc : Int) (r : Nat) (x : EvV) (w : World) (hr : w.cell? ⟨r, 0, none⟩ = some (.int .i64 proc)) :
    Calls Try.prog 81 #[evAgg x, .pointer (some ⟨r, 0, none⟩)] w fun e w' => e = .returned (.bool (forB proc x)) ∧ Below w.heap.size w w' := by
  have hb0 : Below w.heap.size w (w.alloc (.cells #[.int .i64 x.time, .int .i64 x.to, .int .i64 x.src, .int .i64 x.count, .int .i64 x.n, .int .i64 x.kind, .int .i64 x.arg] 41)) := (Below.refl _ _).alloc (Nat.le_refl _) _
  have hr2 := cell_on hb0 hr
  have hk : forB proc x = (x.to == proc) := by
    unfold forB
    by_cases h : x.to = proc <;> simp [h]
  have HK := hide hk
  have HB := hide hb0
  clear hb0 hr hk
  go_enter Try.func81, Try.ntmps81
  go_wp2_with fail
  go_ret
  exact ⟨ret_bool (unhide HK).symm, unhide HB⟩

set_option maxRecDepth 100000 in
set_option maxHeartbeats 1000000 in
theorem allForProc_any (proc : Int) (r : Nat) (v : Value) (es : List EvV) (w : World) (h : RowsAt 7 w v (es.map evRow)) (hr : w.cell? ⟨r, 0, none⟩ = some (.int .i64 proc)) :
    Calls Try.prog 82 #[v, .func (.func 81) #[] #[.pointer (some ⟨r, 0, none⟩)]] w fun e w' => e = .returned (.bool (es.all (forB proc))) ∧ Below w.heap.size w w' := by
  obtain ⟨ad, cap, rfl, hlc, hm, hc⟩ := rows_ev h
  unfold maxLen at hm
  have HC := hide hc
  have HR := hide hr
  clear hc hr h
  go_enter Try.func82, Try.ntmps82
  go_wp2_with fail
  go_loopw [9] (fun i wr => ∃ k : Nat, k ≤ es.length ∧ i = .int .i64 k ∧ Hid ((es.take k).all (forB proc) = true) ∧ Hid (Below w.heap.size w wr)) (fun i _ => es.length - (intOf i).toNat)
  case atStart => exact ⟨0, Nat.zero_le _, rfl, hide (by simp), hide (Below.refl _ _)⟩
  case round =>
    obtain ⟨k, hk, rfl, HA, HB⟩ := hrel
    by_cases hlt : k < es.length
    · obtain ⟨b, off, had, hcc⟩ := (unhide HC) (by omega)
      have hc := (hcc k hlt).on (unhide HB)
      clear hcc
      have hkI : (k : Int) < (es.length : Int) := by omega
      have hk0 : (0 : Int) ≤ (k : Int) := by omega
      subst had
      have HY := hide (fun h => all_take_more (forB proc) es k hlt (unhide HA) h)
      have HNO := hide (fun h => all_false_at (forB proc) es k hlt h)
      obtain ⟨x, hx⟩ : ∃ x, x = es[k] := ⟨_, rfl⟩
      rw [← hx] at hc HY HNO
      clear hx
      have q0 : wr.cell? ⟨b, off + k * 7, none⟩ = some (.int .i64 x.time) := (hc) 0 (by simp)
      have q1 : wr.cell? ⟨b, off + k * 7 + 1, none⟩ = some (.int .i64 x.to) := (hc) 1 (by simp)
      have q2 : wr.cell? ⟨b, off + k * 7 + 2, none⟩ = some (.int .i64 x.src) := (hc) 2 (by simp)
      have q3 : wr.cell? ⟨b, off + k * 7 + 3, none⟩ = some (.int .i64 x.count) := (hc) 3 (by simp)
      have q4 : wr.cell? ⟨b, off + k * 7 + 4, none⟩ = some (.int .i64 x.n) := (hc) 4 (by simp)
      have q5 : wr.cell? ⟨b, off + k * 7 + 5, none⟩ = some (.int .i64 x.kind) := (hc) 5 (by simp)
      have q6 : wr.cell? ⟨b, off + k * 7 + 6, none⟩ = some (.int .i64 x.arg) := (hc) 6 (by simp)
      clear hc
      go_wp2_with fail
      have hbA : Below wr.heap.size wr (wr.alloc (.cells #[.int .i64 x.time, .int .i64 x.to, .int .i64 x.src, .int .i64 x.count, .int .i64 x.n, .int .i64 x.kind, .int .i64 x.arg] 41)) := (Below.refl _ _).alloc (Nat.le_refl _) _
      refine (forProc_any proc r x _ (cell_on hbA (cell_on (unhide HB) (unhide HR)))).mono ?_
      rintro e w2 ⟨rfl, hb2⟩
      have hB2 := below_then (unhide HB) (below_then hbA hb2)
      cases hok : forB proc x
      · go_wp2_with fail
        go_ret
        exact ⟨ret_bool ((unhide HNO) hok).symm, hB2⟩
      · go_wp2_with fail
        go_roundw
        case rel => exact ⟨k + 1, by omega, by simp, hide ((unhide HY) hok), hide hB2⟩
        case measure => (simp [intOf]; try omega)
    · have hke : k = es.length := by omega
      subst hke
      go_wp2_with fail
      go_ret
      exact ⟨ret_bool (by have := unhide HA; rw [List.take_length] at this; exact this.symm), unhide HB⟩

set_option maxRecDepth 100000 in
set_option maxHeartbeats 1000000 in
theorem cameFits_any (proc : Int) (v : Value) (es : List EvV) (w : World) (h : RowsAt 7 w v (es.map evRow)) :
    Calls Try.prog 54 #[.int .i64 proc, v] w fun e w' => e = .returned (.bool (cameOk proc es)) ∧ Below w.heap.size w w' := by
  have hb0 : Below w.heap.size w (w.alloc (.cells #[.int .i64 proc] 3)) := (Below.refl _ _).alloc (Nat.le_refl _) _
  have k0 : (w.alloc (.cells #[.int .i64 proc] 3)).cell? ⟨w.heap.size, 0, none⟩ = some (.int .i64 proc) := by simp [go_sem]
  obtain ⟨ad, cap, rfl, -⟩ := rows_ev h
  have H := hide h
  have HB0 := hide hb0
  have K0 := hide k0
  clear h hb0 k0
  go_enter Try.func54, Try.ntmps54
  go_wp2_with fail
  generalize (w.alloc (.cells #[.int .i64 proc] 3)) = X at *
  refine (eventsInOrder_any _ es 100 X ((unhide H).on (unhide HB0))).mono ?_
  rintro e w1 ⟨rfl, hb1⟩
  have hB1 := below_then (unhide HB0) hb1
  cases h1 : inOrder evOk evLess es 100
  · go_wp2_with fail
    go_ret
    exact ⟨ret_bool (by simp [cameOk, h1]), hB1⟩
  go_wp2_with fail
  refine (allForProc_any proc w.heap.size _ es w1 ((unhide H).on hB1) (cell_on hb1 (unhide K0))).mono ?_
  rintro e w2 ⟨rfl, hb2⟩
  go_wp2_with fail
  go_ret
  exact ⟨ret_bool (by simp [cameOk, h1]), below_then hB1 hb2⟩

set_option maxRecDepth 100000 in
set_option maxHeartbeats 1000000 in
theorem l21Came_any (proc : Int) (s : StV) (vd : Value) (v : Value) (es : List EvV) (w : World) (h : RowsAt 7 w v (es.map evRow)) :
    Calls Try.prog 51 #[laneAgg proc s vd, v] w fun e w' => e = .returned (.bool (cameOk proc es)) ∧ Below w.heap.size w w' := by
  have hb0 : Below w.heap.size w (w.alloc (.cells #[.int .i64 proc, .int .i64 s.x, .int .i64 s.y, .int .i64 s.c, vd] 32)) := (Below.refl _ _).alloc (Nat.le_refl _) _
  have cA := cellsAt_new w (laneCells proc s vd) 32
  have H := hide h
  obtain ⟨ad, cap, rfl, hlc, hm, hc⟩ := rows_ev h
  unfold maxLen at hm
  have HC := hide hc
  have HB0 := hide hb0
  have HA := hide cA
  clear hb0 cA hc h
  go_enter Try.func51, Try.ntmps51
  go_wp2_with fail
  generalize (w.alloc (.cells #[.int .i64 proc, .int .i64 s.x, .int .i64 s.y, .int .i64 s.c, vd] 32)) = X at *
  refine (l2Most_one X).mono ?_
  rintro e w0 ⟨rfl, hw0⟩
  obtain rfl := hw0.symm
  go_wp2_with fail
  refine (l2Events_any _ es 100 X ((unhide H).on (unhide HB0))).mono ?_
  rintro e w1 ⟨rfl, hb1⟩
  have HB1 := hide (below_then (unhide HB0) hb1)
  have HA1 := hide ((unhide HA).on hb1)
  clear hb1
  cases h1 : inOrder evOk evLess es 100
  · go_wp2_with fail
    go_ret
    exact ⟨ret_bool (by simp [cameOk, h1]), unhide HB1⟩
  have H1 := hide h1
  clear h1
  go_wp2_with fail
  go_loopw [5] (fun i wr => ∃ k : Nat, k ≤ es.length ∧ i = .int .i64 k ∧ Hid ((es.take k).all (forB proc) = true) ∧ Hid (Below w1.heap.size w1 wr)) (fun i _ => es.length - (intOf i).toNat)
  case atStart => exact ⟨0, Nat.zero_le _, rfl, hide (by simp), hide (Below.refl _ _)⟩
  case round =>
    obtain ⟨k, hk, rfl, HL, HB⟩ := hrel
    by_cases hlt : k < es.length
    · obtain ⟨b, off, had, hcc⟩ := (unhide HC) (by omega)
      have hc := ((hcc k hlt).on (unhide HB1)).on (unhide HB)
      clear hcc
      have hkI : (k : Int) < (es.length : Int) := by omega
      have hk0 : (0 : Int) ≤ (k : Int) := by omega
      subst had
      have HY := hide (fun h => all_take_more (forB proc) es k hlt (unhide HL) h)
      have HNO := hide (fun h => all_false_at (forB proc) es k hlt h)
      obtain ⟨x, hx⟩ : ∃ x, x = es[k] := ⟨_, rfl⟩
      rw [← hx] at hc HY HNO
      clear hx
      have q1 : wr.cell? ⟨b, off + k * 7 + 1, none⟩ = some (.int .i64 x.to) := hc 1 (by simp)
      have r0 : wr.cell? ⟨w.heap.size, 0, none⟩ = some (.int .i64 proc) := ((unhide HA1).on (unhide HB)) 0 (by simp)
      clear hc
      go_upto_region 6 with fail
      go_quiet (fail)
      by_cases hto : x.to = proc
      · have hd : (x.to != proc) = false := by simp [hto]
        have HTO := hide hto
        clear hto
        go_wp2_with fail
        go_roundw
        case rel => exact ⟨k + 1, by omega, by simp, hide ((unhide HY) (by simp [forB, unhide HTO])), hide (below_then (unhide HB) (below_drewN (Below.refl _ _) _))⟩
        case measure => (simp [intOf]; try omega)
      · have hd : (x.to != proc) = true := by simp [hto]
        have HTO := hide hto
        clear hto
        go_wp2_with fail
        go_ret
        exact ⟨ret_bool (by rw [cameOk, unhide H1, (unhide HNO) (by simp [forB, unhide HTO])]; rfl), below_then (unhide HB1) (below_then (unhide HB) (below_drewN (Below.refl _ _) _))⟩
    · have hke : k = es.length := by omega
      have hkI : ¬ (k : Int) < (es.length : Int) := by omega
      go_wp2_with fail
      go_ret
      exact ⟨ret_bool (by have := unhide HL; rw [hke, List.take_length] at this; rw [cameOk, unhide H1, this]; rfl), below_then (unhide HB1) (unhide HB)⟩
end Go.Proofs.Ytjdaedcpjfcpjaa
