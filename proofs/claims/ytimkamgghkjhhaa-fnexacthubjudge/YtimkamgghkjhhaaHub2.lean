/- impl.HubOk. -/
import Derived.Test.YtimkamgghkjhhaaWords1
import Derived.Test.YtimkamgghkjhhaaWord2
namespace Go.Proofs.Ytimkamgghkjhhaa
open Go.RowKit
set_option linter.unusedVariables false
set_option linter.unusedSimpArgs false

def heardB (n : WordV) : Bool := decide (n.incs.length = 3) && decide (n.vers.length = 3)
def kindOk (kind : Int) (n : WordV) : Bool := (n.kind == kind) && (wordOk n && ((kind != 3) || heardB n))
def wLess (a b : WordV) : Bool := decide (a.frm < b.frm)
def keptOk (kind : Int) (ns : List WordV) : Bool := ns.all (kindOk kind) && ascB wLess ns
def hubOk (n : HubV) : Bool := inR 0 9999 n.rd && (keptOk 3 n.ones && (keptOk 5 n.twos && keptOk 7 n.outs))

set_option maxRecDepth 100000 in
set_option maxHeartbeats 1000000 in
theorem tellsHeard_any (n : WordV) (vi vv ve vo : Value) (w : World) (h : WordAt w n vi vv ve vo) :
    Calls Try.prog 90 #[wordAgg n vi vv ve vo] w fun e w' => e = .returned (.bool (heardB n)) ∧ Below w.heap.size w w' := by
  obtain ⟨⟨a0, ac0, e1⟩, ⟨a1, ac1, e2⟩, ⟨a2, ac2, e3⟩, ⟨a3, ac3, e4⟩⟩ := h.sliced
  subst e1 e2 e3 e4
  have hb0 : Below w.heap.size w (w.alloc (.cells #[.int .i64 n.kind, .int .i64 n.frm, .int .i64 n.dst, .int .i64 n.inc, .int .i64 n.ver, .int .i64 n.rd, .int .i64 n.g, .slice a0 n.incs.length ac0, .slice a1 n.vers.length ac1, .slice a2 n.evs.length ac2, .slice a3 n.outs.length ac3] 41)) := (Below.refl _ _).alloc (Nat.le_refl _) _
  have HA := hide (cellsAt_new w [.int .i64 n.kind, .int .i64 n.frm, .int .i64 n.dst, .int .i64 n.inc, .int .i64 n.ver, .int .i64 n.rd, .int .i64 n.g, .slice a0 n.incs.length ac0, .slice a1 n.vers.length ac1, .slice a2 n.evs.length ac2, .slice a3 n.outs.length ac3] 41)
  have HB0 := hide hb0
  clear hb0 h
  go_enter Try.func90, Try.ntmps90
  go_upto_region 1 with fail
  change Hid (CellsAt (w.alloc (.cells #[.int .i64 n.kind, .int .i64 n.frm, .int .i64 n.dst, .int .i64 n.inc, .int .i64 n.ver, .int .i64 n.rd, .int .i64 n.g, .slice a0 n.incs.length ac0, .slice a1 n.vers.length ac1, .slice a2 n.evs.length ac2, .slice a3 n.outs.length ac3] 41)) _ _ _) at HA
  generalize (w.alloc (.cells #[.int .i64 n.kind, .int .i64 n.frm, .int .i64 n.dst, .int .i64 n.inc, .int .i64 n.ver, .int .i64 n.rd, .int .i64 n.g, .slice a0 n.incs.length ac0, .slice a1 n.vers.length ac1, .slice a2 n.evs.length ac2, .slice a3 n.outs.length ac3] 41)) = X at *
  have k7 : X.cell? ⟨w.heap.size, 7, none⟩ = some (.slice a0 n.incs.length ac0) := (unhide HA) 7 (by simp)
  have k8 : X.cell? ⟨w.heap.size, 8, none⟩ = some (.slice a1 n.vers.length ac1) := (unhide HA) 8 (by simp)
  by_cases h0 : n.incs.length = 3
  · have e0 : ((n.incs.length : Int) == 3) = true := by rw [show (3 : Int) = ((3 : Nat) : Int) from rfl, len_is]; simp [h0]
    by_cases h3 : n.vers.length = 3
    · have e3 : ((n.vers.length : Int) == 3) = true := by rw [show (3 : Int) = ((3 : Nat) : Int) from rfl, len_is]; simp [h3]
      have HR := hide (show heardB n = true by simp [heardB, h0, h3])
      clear h0 h3
      go_wp2_with fail
      go_ret
      exact ⟨ret_bool (unhide HR).symm, unhide HB0⟩
    have e3 : ((n.vers.length : Int) == 3) = false := by rw [show (3 : Int) = ((3 : Nat) : Int) from rfl, len_is]; simp [h3]
    have HR := hide (show heardB n = false by simp [heardB, h3])
    clear h0 h3
    go_wp2_with fail
    go_ret
    exact ⟨ret_bool (unhide HR).symm, unhide HB0⟩
  have e0 : ((n.incs.length : Int) == 3) = false := by rw [show (3 : Int) = ((3 : Nat) : Int) from rfl, len_is]; simp [h0]
  have HR := hide (show heardB n = false by simp [heardB, h0])
  clear h0
  go_wp2_with fail
  go_ret
  exact ⟨ret_bool (unhide HR).symm, unhide HB0⟩

set_option maxRecDepth 100000 in
set_option maxHeartbeats 2000000 in
theorem isOfKind_any (kind : Int) (r : Nat) (n : WordV) (vi vv ve vo : Value) (w : World) (h : WordAt w n vi vv ve vo) (hr : w.cell? ⟨r, 0, none⟩ = some (.int .i64 kind)) :
    Calls Try.prog 89 #[wordAgg n vi vv ve vo, .pointer (some ⟨r, 0, none⟩)] w fun e w' => e = .returned (.bool (kindOk kind n)) ∧ Below w.heap.size w w' := by
  obtain ⟨⟨a0, ac0, e1⟩, ⟨a1, ac1, e2⟩, ⟨a2, ac2, e3⟩, ⟨a3, ac3, e4⟩⟩ := h.sliced
  subst e1 e2 e3 e4
  have hb0 : Below w.heap.size w (w.alloc (.cells #[.int .i64 n.kind, .int .i64 n.frm, .int .i64 n.dst, .int .i64 n.inc, .int .i64 n.ver, .int .i64 n.rd, .int .i64 n.g, .slice a0 n.incs.length ac0, .slice a1 n.vers.length ac1, .slice a2 n.evs.length ac2, .slice a3 n.outs.length ac3] 41)) := (Below.refl _ _).alloc (Nat.le_refl _) _
  have HA := hide (cellsAt_new w [.int .i64 n.kind, .int .i64 n.frm, .int .i64 n.dst, .int .i64 n.inc, .int .i64 n.ver, .int .i64 n.rd, .int .i64 n.g, .slice a0 n.incs.length ac0, .slice a1 n.vers.length ac1, .slice a2 n.evs.length ac2, .slice a3 n.outs.length ac3] 41)
  have HB0 := hide hb0
  have H := hide (h.on hb0)
  have HK := hide (cell_on hb0 hr)
  clear hb0 h hr
  go_enter Try.func89, Try.ntmps89
  go_upto_region 1 with fail
  change Hid (CellsAt (w.alloc (.cells #[.int .i64 n.kind, .int .i64 n.frm, .int .i64 n.dst, .int .i64 n.inc, .int .i64 n.ver, .int .i64 n.rd, .int .i64 n.g, .slice a0 n.incs.length ac0, .slice a1 n.vers.length ac1, .slice a2 n.evs.length ac2, .slice a3 n.outs.length ac3] 41)) _ _ _) at HA
  generalize (w.alloc (.cells #[.int .i64 n.kind, .int .i64 n.frm, .int .i64 n.dst, .int .i64 n.inc, .int .i64 n.ver, .int .i64 n.rd, .int .i64 n.g, .slice a0 n.incs.length ac0, .slice a1 n.vers.length ac1, .slice a2 n.evs.length ac2, .slice a3 n.outs.length ac3] 41)) = X at *
  have k0 : X.cell? ⟨w.heap.size, 0, none⟩ = some (.int .i64 n.kind) := (unhide HA) 0 (by simp)
  have k1 : X.cell? ⟨w.heap.size, 1, none⟩ = some (.int .i64 n.frm) := (unhide HA) 1 (by simp)
  have k2 : X.cell? ⟨w.heap.size, 2, none⟩ = some (.int .i64 n.dst) := (unhide HA) 2 (by simp)
  have k3 : X.cell? ⟨w.heap.size, 3, none⟩ = some (.int .i64 n.inc) := (unhide HA) 3 (by simp)
  have k4 : X.cell? ⟨w.heap.size, 4, none⟩ = some (.int .i64 n.ver) := (unhide HA) 4 (by simp)
  have k5 : X.cell? ⟨w.heap.size, 5, none⟩ = some (.int .i64 n.rd) := (unhide HA) 5 (by simp)
  have k6 : X.cell? ⟨w.heap.size, 6, none⟩ = some (.int .i64 n.g) := (unhide HA) 6 (by simp)
  have k7 : X.cell? ⟨w.heap.size, 7, none⟩ = some (.slice a0 n.incs.length ac0) := (unhide HA) 7 (by simp)
  have k8 : X.cell? ⟨w.heap.size, 8, none⟩ = some (.slice a1 n.vers.length ac1) := (unhide HA) 8 (by simp)
  have k9 : X.cell? ⟨w.heap.size, 9, none⟩ = some (.slice a2 n.evs.length ac2) := (unhide HA) 9 (by simp)
  have k10 : X.cell? ⟨w.heap.size, 10, none⟩ = some (.slice a3 n.outs.length ac3) := (unhide HA) 10 (by simp)
  have hr := unhide HK
  by_cases hk : n.kind = kind
  rotate_left
  · have hd : (n.kind == kind) = false := by simp [hk]
    have HR := hide (show kindOk kind n = false by simp [kindOk, hk])
    clear hk
    go_wp2_with fail
    go_ret
    exact ⟨ret_bool (unhide HR).symm, unhide HB0⟩
  have hd : (n.kind == kind) = true := by simp [hk]
  have HR := hide (show kindOk kind n = (wordOk n && ((kind != 3) || heardB n)) by simp [kindOk, hk])
  clear hk
  go_wp2_with fail
  refine (implWordOk_any n _ _ _ _ _ (unhide H)).mono ?_
  rintro e w1 ⟨rfl, hb1⟩
  have hB1 := below_then (unhide HB0) hb1
  replace k0 := cell_on hb1 k0
  replace k1 := cell_on hb1 k1
  replace k2 := cell_on hb1 k2
  replace k3 := cell_on hb1 k3
  replace k4 := cell_on hb1 k4
  replace k5 := cell_on hb1 k5
  replace k6 := cell_on hb1 k6
  replace k7 := cell_on hb1 k7
  replace k8 := cell_on hb1 k8
  replace k9 := cell_on hb1 k9
  replace k10 := cell_on hb1 k10
  replace hr := cell_on hb1 hr
  cases h1 : wordOk n
  · go_wp2_with fail
    go_ret
    exact ⟨ret_bool ((unhide HR).trans (by rw [h1]; rfl)).symm, hB1⟩
  by_cases h3 : kind = 3
  rotate_left
  · have e3 : (kind != 3) = true := by simp [h3]
    clear h3
    go_wp2_with fail
    go_ret
    exact ⟨ret_bool ((unhide HR).trans (by rw [h1, e3]; rfl)).symm, hB1⟩
  have e3 : (kind != 3) = false := by simp [h3]
  clear h3
  go_wp2_with fail
  refine (tellsHeard_any n _ _ _ _ _ ((unhide H).on hb1)).mono ?_
  rintro e w2 ⟨rfl, hb2⟩
  go_wp2_with fail
  go_ret
  exact ⟨ret_bool ((unhide HR).trans (by rw [h1, e3]; simp)).symm, below_then hB1 hb2⟩

set_option maxRecDepth 100000 in
set_option maxHeartbeats 1000000 in
theorem allHoldWord_any (kind : Int) (r : Nat) (v : Value) (ns : List WordV) (w : World) (h : WordsAt w v ns) (hr : w.cell? ⟨r, 0, none⟩ = some (.int .i64 kind)) :
    Calls Try.prog 92 #[v, .func (.func 89) #[] #[.pointer (some ⟨r, 0, none⟩)]] w fun e w' => e = .returned (.bool (ns.all (kindOk kind))) ∧ Below w.heap.size w w' := by
  obtain ⟨ad, cap, rfl, hlc, hm, hc⟩ := h
  unfold maxLen at hm
  have HC := hide hc
  have HR := hide hr
  clear hc hr
  go_enter Try.func92, Try.ntmps92
  go_wp2_with fail
  go_loopw [9] (fun i wr => ∃ k : Nat, k ≤ ns.length ∧ i = .int .i64 k ∧ Hid ((ns.take k).all (kindOk kind) = true) ∧ Hid (Below w.heap.size w wr)) (fun i _ => ns.length - (intOf i).toNat)
  case atStart => exact ⟨0, Nat.zero_le _, rfl, hide (by simp), hide (Below.refl _ _)⟩
  case round =>
    obtain ⟨k, hk, rfl, HA, HB⟩ := hrel
    by_cases hlt : k < ns.length
    · obtain ⟨b, off, vi, vv, ve, vo, had, hc, hp⟩ : ∃ b off vi vv ve vo, ad = some ⟨b, off, none⟩ ∧ CellsAt wr b (off + k * 11) (wordCells ns[k] vi vv ve vo) ∧ WordAt wr ns[k] vi vv ve vo := by
        rcases unhide HC with h | ⟨b, off, h1, h2⟩
        · rw [h] at hlt; exact absurd hlt (Nat.not_lt_zero _)
        · obtain ⟨vi, vv, ve, vo, h3, h4⟩ := h2 k hlt
          exact ⟨b, off, vi, vv, ve, vo, h1, h3.on (unhide HB), h4.on (unhide HB)⟩
      have hkI : (k : Int) < (ns.length : Int) := by omega
      have hk0 : (0 : Int) ≤ (k : Int) := by omega
      subst had
      have HY := hide (fun h => all_take_more (kindOk kind) ns k hlt (unhide HA) h)
      have HNO := hide (fun h => all_false_at (kindOk kind) ns k hlt h)
      obtain ⟨n, hpe⟩ : ∃ n, n = ns[k] := ⟨_, rfl⟩
      rw [← hpe] at hc hp HY HNO
      clear hpe
      obtain ⟨⟨a0, ac0, e1⟩, ⟨a1, ac1, e2⟩, ⟨a2, ac2, e3⟩, ⟨a3, ac3, e4⟩⟩ := hp.sliced
      subst e1 e2 e3 e4
      have q0 : wr.cell? ⟨b, off + k * 11, none⟩ = some (.int .i64 n.kind) := hc 0 (by simp)
      have q1 : wr.cell? ⟨b, off + k * 11 + 1, none⟩ = some (.int .i64 n.frm) := hc 1 (by simp)
      have q2 : wr.cell? ⟨b, off + k * 11 + 2, none⟩ = some (.int .i64 n.dst) := hc 2 (by simp)
      have q3 : wr.cell? ⟨b, off + k * 11 + 3, none⟩ = some (.int .i64 n.inc) := hc 3 (by simp)
      have q4 : wr.cell? ⟨b, off + k * 11 + 4, none⟩ = some (.int .i64 n.ver) := hc 4 (by simp)
      have q5 : wr.cell? ⟨b, off + k * 11 + 5, none⟩ = some (.int .i64 n.rd) := hc 5 (by simp)
      have q6 : wr.cell? ⟨b, off + k * 11 + 6, none⟩ = some (.int .i64 n.g) := hc 6 (by simp)
      have q7 : wr.cell? ⟨b, off + k * 11 + 7, none⟩ = some (.slice a0 n.incs.length ac0) := hc 7 (by simp)
      have q8 : wr.cell? ⟨b, off + k * 11 + 8, none⟩ = some (.slice a1 n.vers.length ac1) := hc 8 (by simp)
      have q9 : wr.cell? ⟨b, off + k * 11 + 9, none⟩ = some (.slice a2 n.evs.length ac2) := hc 9 (by simp)
      have q10 : wr.cell? ⟨b, off + k * 11 + 10, none⟩ = some (.slice a3 n.outs.length ac3) := hc 10 (by simp)
      have HP := hide hp
      clear hc hp
      go_wp2_with fail
      have hbA : Below wr.heap.size wr (wr.alloc (.cells #[.int .i64 n.kind, .int .i64 n.frm, .int .i64 n.dst, .int .i64 n.inc, .int .i64 n.ver, .int .i64 n.rd, .int .i64 n.g, .slice a0 n.incs.length ac0, .slice a1 n.vers.length ac1, .slice a2 n.evs.length ac2, .slice a3 n.outs.length ac3] 41)) := (Below.refl _ _).alloc (Nat.le_refl _) _
      refine (isOfKind_any kind r n _ _ _ _ _ ((unhide HP).on hbA) (cell_on hbA (cell_on (unhide HB) (unhide HR)))).mono ?_
      rintro e w2 ⟨rfl, hb2⟩
      have hB2 := below_then (unhide HB) (below_then hbA hb2)
      cases hok : kindOk kind n
      · go_wp2_with fail
        go_ret
        exact ⟨ret_bool ((unhide HNO) hok).symm, hB2⟩
      · go_wp2_with fail
        go_roundw
        case rel => exact ⟨k + 1, by omega, by simp, hide ((unhide HY) hok), hide hB2⟩
        case measure => (simp [intOf]; try omega)
    · have hke : k = ns.length := by omega
      subst hke
      go_wp2_with fail
      go_ret
      exact ⟨ret_bool (by have := unhide HA; rw [List.take_length] at this; exact this.symm), unhide HB⟩

set_option maxRecDepth 100000 in
set_option maxHeartbeats 1000000 in
theorem isAhead_any (n m : WordV) (vi vv ve vo ui uv ue uo : Value) (w : World) :
    Calls Try.prog 91 #[wordAgg n vi vv ve vo, wordAgg m ui uv ue uo] w fun e w' => e = .returned (.bool (wLess n m)) ∧ Below w.heap.size w w' := by
  have hb0 : Below w.heap.size w ((w.alloc (.cells #[.int .i64 n.kind, .int .i64 n.frm, .int .i64 n.dst, .int .i64 n.inc, .int .i64 n.ver, .int .i64 n.rd, .int .i64 n.g, vi, vv, ve, vo] 41)).alloc (.cells #[.int .i64 m.kind, .int .i64 m.frm, .int .i64 m.dst, .int .i64 m.inc, .int .i64 m.ver, .int .i64 m.rd, .int .i64 m.g, ui, uv, ue, uo] 41)) := ((Below.refl _ _).alloc (Nat.le_refl _) _).alloc (by simp) _
  go_enter Try.func91, Try.ntmps91
  go_wp2_with fail
  go_ret
  exact ⟨rfl, hb0⟩

set_option maxRecDepth 100000 in
set_option maxHeartbeats 1000000 in
theorem ascendingWord_any (v : Value) (l : List WordV) (w : World) (h : WordsAt w v l) :
    Calls Try.prog 93 #[v, .func (.func 91) #[] #[]] w fun e w' => e = .returned (.bool (ascB wLess l)) ∧ Below w.heap.size w w' := by
  obtain ⟨ad, cap, rfl, hlc, hm, hc⟩ := h
  unfold maxLen at hm
  have HC := hide hc
  clear hc
  go_enter Try.func93, Try.ntmps93
  go_wp2_with fail
  go_loopw [5] (fun i wr => ∃ m : Nat, 1 ≤ m ∧ (m ≤ l.length ∨ m = 1) ∧ i = .int .i64 m ∧ Hid (∀ j (hj : j + 1 < l.length), j + 1 < m → wLess (l[j]'(by omega)) l[j + 1] = true) ∧ Hid (Below w.heap.size w wr)) (fun i _ => l.length - (intOf i).toNat)
  case atStart => exact ⟨1, by omega, Or.inr rfl, rfl, hide (fun j _ h => by omega), hide (Below.refl _ _)⟩
  case round =>
    obtain ⟨m, hm1, hm2, rfl, HA, HB⟩ := hrel
    by_cases hlt : m < l.length
    · obtain ⟨i, hi⟩ : ∃ i, m = i + 1 := ⟨m - 1, by omega⟩
      obtain ⟨b, off, had, hcc⟩ : ∃ b off, ad = some ⟨b, off, none⟩ ∧ ∀ k (hk : k < l.length), ∃ vi vv ve vo, CellsAt wr b (off + k * 11) (wordCells l[k] vi vv ve vo) := by
        rcases unhide HC with h | ⟨b, off, h1, h2⟩
        · rw [h] at hlt; exact absurd hlt (Nat.not_lt_zero _)
        · refine ⟨b, off, h1, fun k hk => ?_⟩
          obtain ⟨vi, vv, ve, vo, h3, _⟩ := h2 k hk
          exact ⟨vi, vv, ve, vo, h3.on (unhide HB)⟩
      subst had
      obtain ⟨vi, vv, ve, vo, hc1⟩ := hcc i (by omega)
      obtain ⟨ui, uv, ue, uo, hc2⟩ := hcc m hlt
      have HY : Hid (wLess (l[i]'(by omega)) l[m] = true → ∀ j (hj : j + 1 < l.length), j + 1 < m + 1 → wLess (l[j]'(by omega)) l[j + 1] = true) := hide (fun h j hj hjm => by
        by_cases e : j = i
        · subst e; subst hi; exact h
        · exact (unhide HA) j hj (by omega))
      have HNO : Hid (wLess (l[i]'(by omega)) l[m] = false → ascB wLess l = false) := hide (fun h => by subst hi; exact ascB_no hlt h)
      clear hcc
      obtain ⟨p, hX⟩ : ∃ X, X = l[i]'(by omega) := ⟨_, rfl⟩
      obtain ⟨q, hY⟩ : ∃ Y, Y = l[m] := ⟨_, rfl⟩
      rw [← hX] at hc1 HY HNO
      rw [← hY] at hc2 HY HNO
      clear hX hY
      have hpI : (m : Int) - 1 = (i : Int) := by omega
      have hpl : (i : Int) < (l.length : Int) := by omega
      have hml : (m : Int) < (l.length : Int) := by omega
      clear hi
      have q10 : ∀ y : On wr, y.y.cell? ⟨b, off + i * 11, none⟩ = some (.int .i64 p.kind) := fun y => cell_on y.h (hc1 0 (by simp))
      have q11 : ∀ y : On wr, y.y.cell? ⟨b, off + i * 11 + 1, none⟩ = some (.int .i64 p.frm) := fun y => cell_on y.h (hc1 1 (by simp))
      have q12 : ∀ y : On wr, y.y.cell? ⟨b, off + i * 11 + 2, none⟩ = some (.int .i64 p.dst) := fun y => cell_on y.h (hc1 2 (by simp))
      have q13 : ∀ y : On wr, y.y.cell? ⟨b, off + i * 11 + 3, none⟩ = some (.int .i64 p.inc) := fun y => cell_on y.h (hc1 3 (by simp))
      have q14 : ∀ y : On wr, y.y.cell? ⟨b, off + i * 11 + 4, none⟩ = some (.int .i64 p.ver) := fun y => cell_on y.h (hc1 4 (by simp))
      have q15 : ∀ y : On wr, y.y.cell? ⟨b, off + i * 11 + 5, none⟩ = some (.int .i64 p.rd) := fun y => cell_on y.h (hc1 5 (by simp))
      have q16 : ∀ y : On wr, y.y.cell? ⟨b, off + i * 11 + 6, none⟩ = some (.int .i64 p.g) := fun y => cell_on y.h (hc1 6 (by simp))
      have q17 : ∀ y : On wr, y.y.cell? ⟨b, off + i * 11 + 7, none⟩ = some (vi) := fun y => cell_on y.h (hc1 7 (by simp))
      have q18 : ∀ y : On wr, y.y.cell? ⟨b, off + i * 11 + 8, none⟩ = some (vv) := fun y => cell_on y.h (hc1 8 (by simp))
      have q19 : ∀ y : On wr, y.y.cell? ⟨b, off + i * 11 + 9, none⟩ = some (ve) := fun y => cell_on y.h (hc1 9 (by simp))
      have q110 : ∀ y : On wr, y.y.cell? ⟨b, off + i * 11 + 10, none⟩ = some (vo) := fun y => cell_on y.h (hc1 10 (by simp))
      have q20 : ∀ y : On wr, y.y.cell? ⟨b, off + m * 11, none⟩ = some (.int .i64 q.kind) := fun y => cell_on y.h (hc2 0 (by simp))
      have q21 : ∀ y : On wr, y.y.cell? ⟨b, off + m * 11 + 1, none⟩ = some (.int .i64 q.frm) := fun y => cell_on y.h (hc2 1 (by simp))
      have q22 : ∀ y : On wr, y.y.cell? ⟨b, off + m * 11 + 2, none⟩ = some (.int .i64 q.dst) := fun y => cell_on y.h (hc2 2 (by simp))
      have q23 : ∀ y : On wr, y.y.cell? ⟨b, off + m * 11 + 3, none⟩ = some (.int .i64 q.inc) := fun y => cell_on y.h (hc2 3 (by simp))
      have q24 : ∀ y : On wr, y.y.cell? ⟨b, off + m * 11 + 4, none⟩ = some (.int .i64 q.ver) := fun y => cell_on y.h (hc2 4 (by simp))
      have q25 : ∀ y : On wr, y.y.cell? ⟨b, off + m * 11 + 5, none⟩ = some (.int .i64 q.rd) := fun y => cell_on y.h (hc2 5 (by simp))
      have q26 : ∀ y : On wr, y.y.cell? ⟨b, off + m * 11 + 6, none⟩ = some (.int .i64 q.g) := fun y => cell_on y.h (hc2 6 (by simp))
      have q27 : ∀ y : On wr, y.y.cell? ⟨b, off + m * 11 + 7, none⟩ = some (ui) := fun y => cell_on y.h (hc2 7 (by simp))
      have q28 : ∀ y : On wr, y.y.cell? ⟨b, off + m * 11 + 8, none⟩ = some (uv) := fun y => cell_on y.h (hc2 8 (by simp))
      have q29 : ∀ y : On wr, y.y.cell? ⟨b, off + m * 11 + 9, none⟩ = some (ue) := fun y => cell_on y.h (hc2 9 (by simp))
      have q210 : ∀ y : On wr, y.y.cell? ⟨b, off + m * 11 + 10, none⟩ = some (uo) := fun y => cell_on y.h (hc2 10 (by simp))
      clear hc1 hc2
      go_wp2_with fail
      have hne : Nonempty (On wr) := ⟨⟨wr, Below.refl _ _⟩⟩
      refine wp_region_on (by kernel_rfl) (by kernel_rfl) ?_
      repeat (first | go_big_quiet_step ((go_at_call 91; exact calls_on (isAhead_any p q vi vv ve vo ui uv ue uo _))) | quiet_step ((go_at_call 91; exact calls_on (isAhead_any p q vi vv ve vo ui uv ue uo _))))
      refine wpQuiet_nil ?_
      intro _ hw'
      obtain ⟨nq, hw''⟩ := hw'
      subst hw''
      cases hok : wLess p q
      · go_wp2_with fail
        go_ret
        exact ⟨ret_bool ((unhide HNO) hok).symm, below_then (unhide HB) nq.h⟩
      · go_wp2_with fail
        go_roundw
        case rel => exact ⟨m + 1, by omega, Or.inl (by omega), by simp, hide ((unhide HY) hok), hide (below_then (unhide HB) nq.h)⟩
        case measure => (simp [intOf]; try omega)
    · have hml : ¬ (m : Int) < (l.length : Int) := by omega
      go_wp2_with fail
      go_ret
      exact ⟨ret_bool (ascB_upto (fun j hj => (unhide HA) j hj (by omega))).symm, unhide HB⟩

set_option maxRecDepth 100000 in
set_option maxHeartbeats 1000000 in
theorem wordsInForm_any (kind : Int) (v : Value) (ns : List WordV) (w : World) (h : WordsAt w v ns) :
    Calls Try.prog 55 #[v, .int .i64 kind] w fun e w' => e = .returned (.bool (keptOk kind ns)) ∧ Below w.heap.size w w' := by
  have hb0 : Below w.heap.size w (w.alloc (.cells #[.int .i64 kind] 3)) := (Below.refl _ _).alloc (Nat.le_refl _) _
  have H := hide (h.on hb0)
  have HA := hide ((cellsAt_new w [.int .i64 kind] 3) 0 (by simp))
  have HB0 := hide hb0
  obtain ⟨a1, c1, rfl⟩ := h.sliced
  clear hb0 h
  go_enter Try.func55, Try.ntmps55
  go_upto_region 3 with fail
  change Hid ((w.alloc (.cells #[.int .i64 kind] 3)).cell? ⟨w.heap.size, 0, none⟩ = some (.int .i64 kind)) at HA
  generalize (w.alloc (.cells #[.int .i64 kind] 3)) = X at *
  go_wp2_with fail
  refine (allHoldWord_any kind w.heap.size _ ns _ (unhide H) (unhide HA)).mono ?_
  rintro e w1 ⟨rfl, hb1⟩
  have hB1 := below_then (unhide HB0) hb1
  cases h1 : ns.all (kindOk kind)
  · go_wp2_with fail
    go_ret
    exact ⟨ret_bool (by simp only [keptOk, h1, Bool.false_and]), hB1⟩
  go_wp2_with fail
  refine (ascendingWord_any _ ns _ ((unhide H).on hb1)).mono ?_
  rintro e w2 ⟨rfl, hb2⟩
  go_wp2_with fail
  go_ret
  exact ⟨ret_bool (by simp only [keptOk, h1, Bool.true_and]), below_then hB1 hb2⟩

set_option maxRecDepth 100000 in
set_option maxHeartbeats 1000000 in
theorem implHubOk_any (n : HubV) (v1 v2 v3 : Value) (w : World) (h : HubAt w n v1 v2 v3) :
    Calls Try.prog 19 #[hubAgg n v1 v2 v3] w fun e w' => e = .returned (.bool (hubOk n)) ∧ Below w.heap.size w w' := by
  obtain ⟨⟨a0, ac0, e1⟩, ⟨a1, ac1, e2⟩, ⟨a2, ac2, e3⟩⟩ := h.sliced
  subst e1 e2 e3
  have hb0 : Below w.heap.size w (w.alloc (.cells #[.int .i64 n.rd, .slice a0 n.ones.length ac0, .slice a1 n.twos.length ac1, .slice a2 n.outs.length ac2] 51)) := (Below.refl _ _).alloc (Nat.le_refl _) _
  have HA := hide (cellsAt_new w [.int .i64 n.rd, .slice a0 n.ones.length ac0, .slice a1 n.twos.length ac1, .slice a2 n.outs.length ac2] 51)
  have H := hide h
  have HB0 := hide hb0
  clear hb0 h
  obtain ⟨R, hR⟩ : ∃ R, R = hubOk n := ⟨_, rfl⟩
  have HR := hide hR
  rw [← hR]
  clear hR
  go_enter Try.func19, Try.ntmps19
  go_upto_region 1 with fail
  change Hid (CellsAt (w.alloc (.cells #[.int .i64 n.rd, .slice a0 n.ones.length ac0, .slice a1 n.twos.length ac1, .slice a2 n.outs.length ac2] 51)) _ _ _) at HA
  generalize (w.alloc (.cells #[.int .i64 n.rd, .slice a0 n.ones.length ac0, .slice a1 n.twos.length ac1, .slice a2 n.outs.length ac2] 51)) = X at *
  have k0 : X.cell? ⟨w.heap.size, 0, none⟩ = some (.int .i64 n.rd) := (unhide HA) 0 (by simp)
  have k1 : X.cell? ⟨w.heap.size, 1, none⟩ = some (.slice a0 n.ones.length ac0) := (unhide HA) 1 (by simp)
  have k2 : X.cell? ⟨w.heap.size, 2, none⟩ = some (.slice a1 n.twos.length ac1) := (unhide HA) 2 (by simp)
  have k3 : X.cell? ⟨w.heap.size, 3, none⟩ = some (.slice a2 n.outs.length ac2) := (unhide HA) 3 (by simp)
  have hB := unhide HB0
  go_wp2_with fail
  refine (isNumber_any n.rd _).mono ?_
  rintro e z0 ⟨rfl, hz⟩
  obtain rfl := hz.symm
  cases h0 : inR 0 9999 n.rd
  · go_wp2_with fail
    go_ret
    exact ⟨ret_bool ((unhide HR).trans (by simp [hubOk, h0])).symm, hB⟩
  go_wp2_with fail
  refine (wordsInForm_any 3 _ n.ones _ ((unhide H).a.on hB)).mono ?_
  rintro e z1 ⟨rfl, hb1⟩
  replace hB := below_then hB hb1
  replace k2 := cell_on hb1 k2
  replace k3 := cell_on hb1 k3
  clear hb1
  cases h1 : keptOk 3 n.ones
  · go_wp2_with fail
    go_ret
    exact ⟨ret_bool ((unhide HR).trans (by simp [hubOk, h1])).symm, hB⟩
  go_wp2_with fail
  refine (wordsInForm_any 5 _ n.twos _ ((unhide H).b.on hB)).mono ?_
  rintro e z2 ⟨rfl, hb2⟩
  replace hB := below_then hB hb2
  replace k3 := cell_on hb2 k3
  clear hb2
  cases h2 : keptOk 5 n.twos
  · go_wp2_with fail
    go_ret
    exact ⟨ret_bool ((unhide HR).trans (by simp [hubOk, h2])).symm, hB⟩
  go_wp2_with fail
  refine (wordsInForm_any 7 _ n.outs _ ((unhide H).c.on hB)).mono ?_
  rintro e z3 ⟨rfl, hb3⟩
  go_wp2_with fail
  go_ret
  exact ⟨ret_bool ((unhide HR).trans (by simp [hubOk, h0, h1, h2])).symm, below_then hB hb3⟩
end Go.Proofs.Ytimkamgghkjhhaa
