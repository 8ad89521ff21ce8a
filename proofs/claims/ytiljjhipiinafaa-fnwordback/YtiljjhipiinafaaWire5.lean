/- The writer of impl: events, what is let out, lists of them, the head of a word. -/
import Derived.Test.YtiljjhipiinafaaWire3
import Derived.Test.YtiljjhipiinafaaWire4
import Derived.Test.YtiljjhipiinafaaLess3
import Derived.Test.YtiljjhipiinafaaLess5
namespace Go.Proofs.Ytiljjhipiinafaa
open Go.RowKit
set_option linter.unusedVariables false
set_option linter.unusedSimpArgs false

theorem rowOfEventW_on (e : EvV) (w : World) : Calls Try.prog 88 #[evAgg e] w fun r w' => r = .returned (evAgg e) ∧ Below w.heap.size w w' :=
  (rowOfEvent_any e.time e.to e.src e.count e.n e.kind e.arg w).mono fun r w' ⟨h1, h2⟩ => ⟨h1, by subst h2; exact ((Below.refl _ _).alloc (Nat.le_refl _) _).alloc (by simp) _⟩
theorem rowOfOutW_on (e : OutV) (w : World) : Calls Try.prog 89 #[outAgg e] w fun r w' => r = .returned (outAgg e) ∧ Below w.heap.size w w' :=
  (rowOfOut_any e.time e.proc e.count e.n e.value w).mono fun r w' ⟨h1, h2⟩ => ⟨h1, by subst h2; exact ((Below.refl _ _).alloc (Nat.le_refl _) _).alloc (by simp) _⟩
theorem WrAt.nums {q B b : Nat} {v u : Value} {bs zs : List Int} {w W0 W : World} (h : WrAt q B v w bs) (hw : w.heap.size ≤ b) (hn : NumsAt W0 (.slice (some ⟨b, 0, none⟩) zs.length zs.length) zs) (hG : Gw q v u W0 W) : NumsAt W (.slice (some ⟨b, 0, none⟩) zs.length zs.length) zs :=
  hG.rows hn (fun c hc => by
    simp only [Value.ownBlock, Option.some.injEq] at hc
    subst hc
    refine ⟨by have := h.qB; have := h.Bs; omega, fun e => by have := (h.o.lt b e).2; omega⟩)

set_option maxRecDepth 100000 in
set_option maxHeartbeats 2000000 in
theorem eventW_any (q B : Nat) (v : Value) (bs : List Int) (e : EvV) (w : World) (h : WrAt q B v w bs) (h0 : ∀ z ∈ evRow e, -1 ≤ z ∧ z ≤ 9999) (hl : bs.length ≤ 900000) :
    Calls Try.prog 40 #[.pointer (some ⟨q, 0, none⟩), evAgg e] w fun r w' => r = .returned (.tuple #[]) ∧ ∃ v', WrAt q B v' w' (bs ++ packI (evRow e)) ∧ Gw q v v' w w' := by
  have H := hide h
  have H0 := hide h0
  clear h h0
  go_enter Try.func40, Try.ntmps40
  go_wp2_with fail
  have hbx : Below w.heap.size w (w.alloc (.cells #[.int .i64 e.time, .int .i64 e.to, .int .i64 e.src, .int .i64 e.count, .int .i64 e.n, .int .i64 e.kind, .int .i64 e.arg] 53)) := (Below.refl _ _).alloc (Nat.le_refl _) _
  have HBX := hide hbx
  clear hbx
  generalize w.alloc (.cells #[.int .i64 e.time, .int .i64 e.to, .int .i64 e.src, .int .i64 e.count, .int .i64 e.n, .int .i64 e.kind, .int .i64 e.arg] 53) = X0 at *
  refine (rowOfEventW_on e _).mono ?_
  rintro r w1 ⟨rfl, hb1⟩
  have HB1 := hide (below_then (unhide HBX) hb1)
  clear hb1 HBX
  go_wp2_with fail
  have hbA : Below w1.heap.size w1 (w1.alloc (.cells #[.int .i64 e.time, .int .i64 e.to, .int .i64 e.src, .int .i64 e.count, .int .i64 e.n, .int .i64 e.kind, .int .i64 e.arg] 113)) := (Below.refl _ _).alloc (Nat.le_refl _) _
  have HN := hide (nums_of_cells (zs := evRow e) (cellsAt_new w1 ((evRow e).map (Value.int .i64)) 113) (by unfold maxLen; simp [evRow]))
  change Hid (NumsAt (w1.alloc (.cells #[.int .i64 e.time, .int .i64 e.to, .int .i64 e.src, .int .i64 e.count, .int .i64 e.n, .int .i64 e.kind, .int .i64 e.arg] 113)) _ _) at HN
  have HBA := hide (below_then (unhide HB1) hbA)
  have HS1 := hide (unhide HB1).size
  clear hbA
  generalize w1.alloc (.cells #[.int .i64 e.time, .int .i64 e.to, .int .i64 e.src, .int .i64 e.count, .int .i64 e.n, .int .i64 e.kind, .int .i64 e.arg] 113) = X1 at *
  refine (rowW_any q B v _ bs (evRow e) _ ((unhide H).on (unhide HBA)) (fun u W hG => (unhide H).nums (unhide HS1) (unhide HN) hG) (unhide H0) (by simp [evRow]) hl).mono ?_
  rintro r w2 ⟨rfl, v2, hO, hG⟩
  have HO := hide hO
  have HG := hide ((Gw.ofBelow (unhide HBA)).trans hG)
  clear hO hG
  go_wp2_with fail
  go_end0
  exact ⟨rfl, v2, unhide HO, unhide HG⟩

set_option maxRecDepth 100000 in
set_option maxHeartbeats 2000000 in
theorem writeEvents_any (q B : Nat) (v vl : Value) (bs : List Int) (es : List EvV) (w : World) (h : WrAt q B v w bs) (hN : ∀ u W, Gw q v u w W → RowsAt 7 W vl (es.map evRow)) (h0 : ∀ e ∈ es, ∀ z ∈ evRow e, -1 ≤ z ∧ z ≤ 9999) (hz : es.length ≤ 100) (hl : bs.length ≤ 800000) :
    Calls Try.prog 39 #[.pointer (some ⟨q, 0, none⟩), vl, .func (.func 40) #[.pointer (some ⟨q, 0, none⟩)] #[]] w fun r w' => r = .returned (.tuple #[]) ∧ ∃ v', WrAt q B v' w' (bs ++ packI ((es.length : Int) :: es.flatMap evRow)) ∧ Gw q v v' w w' := by
  obtain ⟨a, c, rfl⟩ := rowsLen (hN v w (Gw.refl _ _ _))
  have HN := hide hN
  have H := hide h
  clear hN h
  go_enter Try.func39, Try.ntmps39
  go_wp2_with fail
  refine (number_any q B _ _ es.length _ (unhide H) (by omega) (by omega) (by omega)).mono ?_
  rintro r w1 ⟨rfl, v1, hO, hG⟩
  have HO1 := hide hO
  have HG1 := hide hG
  clear hO hG
  go_wp2_with fail
  go_loopw [14] (fun i wr => ∃ (k : Nat) (u : Value), k ≤ es.length ∧ i = .int .i64 k ∧ Hid (WrAt q B u wr (bs ++ (numI es.length ++ packI ((es.take k).flatMap evRow)))) ∧ Hid (Gw q v u w wr)) (fun i _ => es.length - (intOf i).toNat)
  case atStart => exact ⟨0, v1, Nat.zero_le _, rfl, by simpa [packI_nil] using HO1, HG1⟩
  case round =>
    obtain ⟨k, u, hk, rfl, HO, HG⟩ := hrel
    by_cases hlt : k < es.length
    · obtain ⟨hnn, hlc, _, b, off, ha, hp⟩ := rows_at ((unhide HN) _ _ (unhide HG)) k (by rw [List.length_map]; exact hlt)
      have hlc2 : es.length ≤ c := by rw [List.length_map] at hlc; exact hlc
      subst ha
      simp only [List.getElem_map] at hp
      have HEI := hide (h0 es[k] (List.getElem_mem hlt))
      have HT := hide (flatTo_more evRow es k hlt)
      have hll : (bs ++ (numI es.length ++ packI ((es.take k).flatMap evRow))).length ≤ 900000 := by
        have h1 := packI_len ((es.take k).flatMap evRow)
        have h2 := numI_len es.length
        have h3 := flatTo_len (f := evRow) (m := 7) (fun _ => rfl) (es.take k)
        rw [List.length_take] at h3
        rw [List.length_append, List.length_append]
        omega
      have HLL := hide hll
      clear hll
      have p0 := hp 0 (by omega)
      have p1 := hp 1 (by omega)
      have p2 := hp 2 (by omega)
      have p3 := hp 3 (by omega)
      have p4 := hp 4 (by omega)
      have p5 := hp 5 (by omega)
      have p6 := hp 6 (by omega)
      simp only [evRow, List.getD_cons_zero, List.getD_cons_succ, Nat.add_zero] at p0 p1 p2 p3 p4 p5 p6
      clear hp hnn hlc
      generalize es[k] = e at *
      have hkI : (k : Int) < (es.length : Int) := by omega
      have hk0 : (0 : Int) ≤ (k : Int) := by omega
      go_wp2_with fail
      clear p0 p1 p2 p3 p4 p5 p6
      have hbA : Below wr.heap.size wr (wr.alloc (.cells #[.int .i64 e.time, .int .i64 e.to, .int .i64 e.src, .int .i64 e.count, .int .i64 e.n, .int .i64 e.kind, .int .i64 e.arg] 53)) := (Below.refl _ _).alloc (Nat.le_refl _) _
      have HBA := hide hbA
      clear hbA
      generalize wr.alloc (.cells #[.int .i64 e.time, .int .i64 e.to, .int .i64 e.src, .int .i64 e.count, .int .i64 e.n, .int .i64 e.kind, .int .i64 e.arg] 53) = X1 at *
      refine (eventW_any q B _ _ e _ ((unhide HO).on (unhide HBA)) (unhide HEI) (unhide HLL)).mono ?_
      rintro r w3 ⟨rfl, v3, hO3, hG3⟩
      have HO3 := hide hO3
      have HG3 := hide (((unhide HG).trans (Gw.ofBelow (unhide HBA))).trans hG3)
      clear hO3 hG3
      go_wp2_with fail
      go_roundw
      case rel => exact ⟨k + 1, v3, by omega, by go_num, by rw [unhide HT, packI_app]; simpa using HO3, HG3⟩
      case measure => simp [intOf]; omega
    · have hke : k = es.length := by omega
      subst hke
      go_wp2_with fail
      go_end0
      exact ⟨rfl, _, by simpa [packI] using unhide HO, unhide HG⟩

set_option maxRecDepth 100000 in
set_option maxHeartbeats 2000000 in
theorem outW_any (q B : Nat) (v : Value) (bs : List Int) (e : OutV) (w : World) (h : WrAt q B v w bs) (h0 : ∀ z ∈ outRow e, -1 ≤ z ∧ z ≤ 9999) (hl : bs.length ≤ 900000) :
    Calls Try.prog 42 #[.pointer (some ⟨q, 0, none⟩), outAgg e] w fun r w' => r = .returned (.tuple #[]) ∧ ∃ v', WrAt q B v' w' (bs ++ packI (outRow e)) ∧ Gw q v v' w w' := by
  have H := hide h
  have H0 := hide h0
  clear h h0
  go_enter Try.func42, Try.ntmps42
  go_wp2_with fail
  have hbx : Below w.heap.size w (w.alloc (.cells #[.int .i64 e.time, .int .i64 e.proc, .int .i64 e.count, .int .i64 e.n, .int .i64 e.value] 56)) := (Below.refl _ _).alloc (Nat.le_refl _) _
  have HBX := hide hbx
  clear hbx
  generalize w.alloc (.cells #[.int .i64 e.time, .int .i64 e.proc, .int .i64 e.count, .int .i64 e.n, .int .i64 e.value] 56) = X0 at *
  refine (rowOfOutW_on e _).mono ?_
  rintro r w1 ⟨rfl, hb1⟩
  have HB1 := hide (below_then (unhide HBX) hb1)
  clear hb1 HBX
  go_wp2_with fail
  have hbA : Below w1.heap.size w1 (w1.alloc (.cells #[.int .i64 e.time, .int .i64 e.proc, .int .i64 e.count, .int .i64 e.n, .int .i64 e.value] 116)) := (Below.refl _ _).alloc (Nat.le_refl _) _
  have HN := hide (nums_of_cells (zs := outRow e) (cellsAt_new w1 ((outRow e).map (Value.int .i64)) 116) (by unfold maxLen; simp [outRow]))
  change Hid (NumsAt (w1.alloc (.cells #[.int .i64 e.time, .int .i64 e.proc, .int .i64 e.count, .int .i64 e.n, .int .i64 e.value] 116)) _ _) at HN
  have HBA := hide (below_then (unhide HB1) hbA)
  have HS1 := hide (unhide HB1).size
  clear hbA
  generalize w1.alloc (.cells #[.int .i64 e.time, .int .i64 e.proc, .int .i64 e.count, .int .i64 e.n, .int .i64 e.value] 116) = X1 at *
  refine (rowW_any q B v _ bs (outRow e) _ ((unhide H).on (unhide HBA)) (fun u W hG => (unhide H).nums (unhide HS1) (unhide HN) hG) (unhide H0) (by simp [outRow]) hl).mono ?_
  rintro r w2 ⟨rfl, v2, hO, hG⟩
  have HO := hide hO
  have HG := hide ((Gw.ofBelow (unhide HBA)).trans hG)
  clear hO hG
  go_wp2_with fail
  go_end0
  exact ⟨rfl, v2, unhide HO, unhide HG⟩

set_option maxRecDepth 100000 in
set_option maxHeartbeats 2000000 in
theorem writeOuts_any (q B : Nat) (v vl : Value) (bs : List Int) (es : List OutV) (w : World) (h : WrAt q B v w bs) (hN : ∀ u W, Gw q v u w W → RowsAt 5 W vl (es.map outRow)) (h0 : ∀ e ∈ es, ∀ z ∈ outRow e, -1 ≤ z ∧ z ≤ 9999) (hz : es.length ≤ 100) (hl : bs.length ≤ 800000) :
    Calls Try.prog 41 #[.pointer (some ⟨q, 0, none⟩), vl, .func (.func 42) #[.pointer (some ⟨q, 0, none⟩)] #[]] w fun r w' => r = .returned (.tuple #[]) ∧ ∃ v', WrAt q B v' w' (bs ++ packI ((es.length : Int) :: es.flatMap outRow)) ∧ Gw q v v' w w' := by
  obtain ⟨a, c, rfl⟩ := rowsLen (hN v w (Gw.refl _ _ _))
  have HN := hide hN
  have H := hide h
  clear hN h
  go_enter Try.func41, Try.ntmps41
  go_wp2_with fail
  refine (number_any q B _ _ es.length _ (unhide H) (by omega) (by omega) (by omega)).mono ?_
  rintro r w1 ⟨rfl, v1, hO, hG⟩
  have HO1 := hide hO
  have HG1 := hide hG
  clear hO hG
  go_wp2_with fail
  go_loopw [14] (fun i wr => ∃ (k : Nat) (u : Value), k ≤ es.length ∧ i = .int .i64 k ∧ Hid (WrAt q B u wr (bs ++ (numI es.length ++ packI ((es.take k).flatMap outRow)))) ∧ Hid (Gw q v u w wr)) (fun i _ => es.length - (intOf i).toNat)
  case atStart => exact ⟨0, v1, Nat.zero_le _, rfl, by simpa [packI_nil] using HO1, HG1⟩
  case round =>
    obtain ⟨k, u, hk, rfl, HO, HG⟩ := hrel
    by_cases hlt : k < es.length
    · obtain ⟨hnn, hlc, _, b, off, ha, hp⟩ := rows_at ((unhide HN) _ _ (unhide HG)) k (by rw [List.length_map]; exact hlt)
      have hlc2 : es.length ≤ c := by rw [List.length_map] at hlc; exact hlc
      subst ha
      simp only [List.getElem_map] at hp
      have HEI := hide (h0 es[k] (List.getElem_mem hlt))
      have HT := hide (flatTo_more outRow es k hlt)
      have hll : (bs ++ (numI es.length ++ packI ((es.take k).flatMap outRow))).length ≤ 900000 := by
        have h1 := packI_len ((es.take k).flatMap outRow)
        have h2 := numI_len es.length
        have h3 := flatTo_len (f := outRow) (m := 5) (fun _ => rfl) (es.take k)
        rw [List.length_take] at h3
        rw [List.length_append, List.length_append]
        omega
      have HLL := hide hll
      clear hll
      have p0 := hp 0 (by omega)
      have p1 := hp 1 (by omega)
      have p2 := hp 2 (by omega)
      have p3 := hp 3 (by omega)
      have p4 := hp 4 (by omega)
      simp only [outRow, List.getD_cons_zero, List.getD_cons_succ, Nat.add_zero] at p0 p1 p2 p3 p4
      clear hp hnn hlc
      generalize es[k] = e at *
      have hkI : (k : Int) < (es.length : Int) := by omega
      have hk0 : (0 : Int) ≤ (k : Int) := by omega
      go_wp2_with fail
      clear p0 p1 p2 p3 p4
      have hbA : Below wr.heap.size wr (wr.alloc (.cells #[.int .i64 e.time, .int .i64 e.proc, .int .i64 e.count, .int .i64 e.n, .int .i64 e.value] 56)) := (Below.refl _ _).alloc (Nat.le_refl _) _
      have HBA := hide hbA
      clear hbA
      generalize wr.alloc (.cells #[.int .i64 e.time, .int .i64 e.proc, .int .i64 e.count, .int .i64 e.n, .int .i64 e.value] 56) = X1 at *
      refine (outW_any q B _ _ e _ ((unhide HO).on (unhide HBA)) (unhide HEI) (unhide HLL)).mono ?_
      rintro r w3 ⟨rfl, v3, hO3, hG3⟩
      have HO3 := hide hO3
      have HG3 := hide (((unhide HG).trans (Gw.ofBelow (unhide HBA))).trans hG3)
      clear hO3 hG3
      go_wp2_with fail
      go_roundw
      case rel => exact ⟨k + 1, v3, by omega, by go_num, by rw [unhide HT, packI_app]; simpa using HO3, HG3⟩
      case measure => simp [intOf]; omega
    · have hke : k = es.length := by omega
      subst hke
      go_wp2_with fail
      go_end0
      exact ⟨rfl, _, by simpa [packI] using unhide HO, unhide HG⟩

def rowAgg7 (n : WordV) : Value := .agg #[.int .i64 n.kind, .int .i64 n.frm, .int .i64 n.dst, .int .i64 n.inc, .int .i64 n.ver, .int .i64 n.rd, .int .i64 n.g]
set_option maxRecDepth 100000 in
set_option maxHeartbeats 2000000 in
theorem headOfWord_any (n : WordV) (vi vv ve vo : Value) (w : World) :
    Calls Try.prog 35 #[wordAgg n vi vv ve vo] w fun r w' => r = .returned (.agg #[.int .i64 n.kind, .int .i64 n.frm, .int .i64 n.dst, .int .i64 n.inc, .int .i64 n.ver, .int .i64 n.rd, .int .i64 n.g]) ∧ Below w.heap.size w w' := by
  obtain ⟨x0, x1, x2, x3, x4, x5, x6, l0, l1, l2, l3⟩ := n
  go_enter Try.func35, Try.ntmps35
  go_wp2
  exact bodyPost_ret (v := .agg #[.int .i64 x0, .int .i64 x1, .int .i64 x2, .int .i64 x3, .int .i64 x4, .int .i64 x5, .int .i64 x6]) (by simp [results, Try.results35, go_sem]) rfl ⟨rfl, ((Below.refl _ _).alloc (Nat.le_refl _) _).alloc (by simp) _⟩
end Go.Proofs.Ytiljjhipiinafaa
