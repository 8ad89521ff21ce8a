/- spec.HubOk. -/
import Derived.Test.YtimkamgghkjhhaaHub2
import Derived.Test.YtimkamgghkjhhaaWord4
namespace Go.Proofs.Ytimkamgghkjhhaa
open Go.RowKit
set_option linter.unusedVariables false
set_option linter.unusedSimpArgs false

set_option maxRecDepth 100000 in
set_option maxHeartbeats 4000000 in
theorem l24Kept_any (kind : Int) (v : Value) (ns : List WordV) (w : World) (h : WordsAt w v ns) :
    Calls Try.prog 53 #[v, .int .i64 kind] w fun e w' => e = .returned (.bool (keptOk kind ns)) ∧ Below w.heap.size w w' := by
  obtain ⟨a1, c1, rfl, hlc, hm, hcc⟩ := h
  unfold maxLen at hm
  have HC := hide hcc
  clear hcc
  obtain ⟨R, hR⟩ : ∃ R, R = keptOk kind ns := ⟨_, rfl⟩
  rw [← hR]
  have HR := hide hR
  clear hR
  go_enter Try.func53, Try.ntmps53
  go_wp2_with fail
  go_loopw [5] (fun i wr => ∃ k : Nat, k ≤ ns.length ∧ i = .int .i64 k ∧ Hid (∀ j (hj : j < ns.length), j < k → kindOk kind ns[j] = true ∧ (∀ i (e : j = i + 1), wLess (ns[i]'(by omega)) ns[j] = true)) ∧ Hid (Below w.heap.size w wr)) (fun i _ => ns.length - (intOf i).toNat)
  case atStart => exact ⟨0, Nat.zero_le _, rfl, hide (fun j _ h => by omega), hide (Below.refl _ _)⟩
  case round =>
    obtain ⟨k, hk, rfl, HL, HB⟩ := hrel
    by_cases hlt : k < ns.length
    · obtain ⟨b, off, had, hall⟩ : ∃ b off, a1 = some ⟨b, off, none⟩ ∧ ∀ i (h : i < ns.length), ∃ vi vv ve vo, CellsAt wr b (off + i * 11) (wordCells ns[i] vi vv ve vo) ∧ WordAt wr ns[i] vi vv ve vo := by
        rcases unhide HC with h | ⟨b, off, h1, h2⟩
        · rw [h] at hlt; exact absurd hlt (Nat.not_lt_zero _)
        · refine ⟨b, off, h1, fun i hi => ?_⟩
          obtain ⟨vi, vv, ve, vo, h3, h4⟩ := h2 i hi
          exact ⟨vi, vv, ve, vo, h3.on (unhide HB), h4.on (unhide HB)⟩
      subst had
      obtain ⟨vi, vv, ve, vo, hc, hp⟩ := hall k hlt
      have hkI : (k : Int) < (ns.length : Int) := by omega
      have hk0 : (0 : Int) ≤ (k : Int) := by omega
      have HNF : Hid (kindOk kind ns[k] = false → R = false) := hide (fun h => by rw [unhide HR, keptOk, all_false_at (kindOk kind) ns k hlt h]; rfl)
      have HYF : Hid (kindOk kind ns[k] = true → (∀ i (e : k = i + 1), wLess (ns[i]'(by omega)) ns[k] = true) → ∀ j (hj : j < ns.length), j < k + 1 → kindOk kind ns[j] = true ∧ (∀ i (e : j = i + 1), wLess (ns[i]'(by omega)) ns[j] = true)) := hide (fun h1 h2 j hj hjk => by
        by_cases e : j = k
        · subst e; exact ⟨h1, h2⟩
        · exact (unhide HL) j hj (by omega))
      have HNL : Hid (∀ i (e : k = i + 1), wLess (ns[i]'(by omega)) ns[k] = false → R = false) := hide (fun i e h => by subst e; rw [unhide HR, keptOk, ascB_no hlt h]; simp)
      obtain ⟨n, hpe⟩ : ∃ n, n = ns[k] := ⟨_, rfl⟩
      rw [← hpe] at hc hp HNF HYF HNL
      clear hpe
      obtain ⟨⟨a0, ac0, e1⟩, ⟨a2, ac2, e2⟩, ⟨a3, ac3, e3⟩, ⟨a4, ac4, e4⟩⟩ := hp.sliced
      subst e1 e2 e3 e4
      have HP := hide hp
      clear hp
      have kk0 : ∀ y : On wr, Calls Try.prog 14 #[wordAgg n (.slice a0 n.incs.length ac0) (.slice a2 n.vers.length ac2) (.slice a3 n.evs.length ac3) (.slice a4 n.outs.length ac4)] y.y fun r w' => r = .returned (.bool (wordOk n)) ∧ Below y.y.heap.size y.y w' := fun y => specWordOk_any n _ _ _ _ y.y ((unhide HP).on y.h)
      have e0 : ∀ y : On wr, y.y.cell? ⟨b, off + k * 11, none⟩ = some (.int .i64 n.kind) := fun y => cell_on y.h (hc 0 (by simp))
      have e1 : ∀ y : On wr, y.y.cell? ⟨b, off + k * 11 + 1, none⟩ = some (.int .i64 n.frm) := fun y => cell_on y.h (hc 1 (by simp))
      have e2 : ∀ y : On wr, y.y.cell? ⟨b, off + k * 11 + 2, none⟩ = some (.int .i64 n.dst) := fun y => cell_on y.h (hc 2 (by simp))
      have e3 : ∀ y : On wr, y.y.cell? ⟨b, off + k * 11 + 3, none⟩ = some (.int .i64 n.inc) := fun y => cell_on y.h (hc 3 (by simp))
      have e4 : ∀ y : On wr, y.y.cell? ⟨b, off + k * 11 + 4, none⟩ = some (.int .i64 n.ver) := fun y => cell_on y.h (hc 4 (by simp))
      have e5 : ∀ y : On wr, y.y.cell? ⟨b, off + k * 11 + 5, none⟩ = some (.int .i64 n.rd) := fun y => cell_on y.h (hc 5 (by simp))
      have e6 : ∀ y : On wr, y.y.cell? ⟨b, off + k * 11 + 6, none⟩ = some (.int .i64 n.g) := fun y => cell_on y.h (hc 6 (by simp))
      have e7 : ∀ y : On wr, y.y.cell? ⟨b, off + k * 11 + 7, none⟩ = some (.slice a0 n.incs.length ac0) := fun y => cell_on y.h (hc 7 (by simp))
      have e8 : ∀ y : On wr, y.y.cell? ⟨b, off + k * 11 + 8, none⟩ = some (.slice a2 n.vers.length ac2) := fun y => cell_on y.h (hc 8 (by simp))
      have e9 : ∀ y : On wr, y.y.cell? ⟨b, off + k * 11 + 9, none⟩ = some (.slice a3 n.evs.length ac3) := fun y => cell_on y.h (hc 9 (by simp))
      have e10 : ∀ y : On wr, y.y.cell? ⟨b, off + k * 11 + 10, none⟩ = some (.slice a4 n.outs.length ac4) := fun y => cell_on y.h (hc 10 (by simp))
      clear hc
      cases hwo : wordOk n
      · have kk : ∀ y : On wr, Calls Try.prog 14 #[wordAgg n (.slice a0 n.incs.length ac0) (.slice a2 n.vers.length ac2) (.slice a3 n.evs.length ac3) (.slice a4 n.outs.length ac4)] y.y fun r w' => r = .returned (.bool false) ∧ Below y.y.heap.size y.y w' := fun y => by have := kk0 y; rwa [hwo] at this
        have HOK : Hid (kindOk kind n = false) := hide (by simp [kindOk, hwo])
        clear kk0 hwo
        go_upto_region 4 with fail
        have hne : Nonempty (On wr) := ⟨⟨wr, Below.refl _ _⟩⟩
        refine wp_region_on (by kernel_rfl) (by kernel_rfl) ?_
        repeat (first | go_big_quiet_step ((go_at_call 14; exact calls_on (kk _))) | quiet_step ((go_at_call 14; exact calls_on (kk _))))
        refine wpQuiet_nil ?_
        intro _ hw'
        obtain ⟨nq, hw''⟩ := hw'
        subst hw''
        go_wp2_with fail
        go_ret
        exact ⟨ret_bool ((unhide HNF) (unhide HOK)).symm, below_then (unhide HB) nq.h⟩
      have kk : ∀ y : On wr, Calls Try.prog 14 #[wordAgg n (.slice a0 n.incs.length ac0) (.slice a2 n.vers.length ac2) (.slice a3 n.evs.length ac3) (.slice a4 n.outs.length ac4)] y.y fun r w' => r = .returned (.bool true) ∧ Below y.y.heap.size y.y w' := fun y => by have := kk0 y; rwa [hwo] at this
      have HWO := hide hwo
      clear kk0 hwo
      by_cases hkd : n.kind = kind
      rotate_left
      · have hd : (n.kind != kind) = true := by simp [hkd]
        have HOK : Hid (kindOk kind n = false) := hide (by simp [kindOk, hkd])
        clear hkd
        go_upto_region 4 with fail
        have hne : Nonempty (On wr) := ⟨⟨wr, Below.refl _ _⟩⟩
        refine wp_region_on (by kernel_rfl) (by kernel_rfl) ?_
        repeat (first | go_big_quiet_step ((go_at_call 14; exact calls_on (kk _))) | quiet_step ((go_at_call 14; exact calls_on (kk _))))
        refine wpQuiet_nil ?_
        intro _ hw'
        obtain ⟨nq, hw''⟩ := hw'
        subst hw''
        go_wp2_with fail
        go_ret
        exact ⟨ret_bool ((unhide HNF) (unhide HOK)).symm, below_then (unhide HB) nq.h⟩
      have hd : (n.kind != kind) = false := by simp [hkd]
      have HKD : Hid ((n.kind == kind) = true) := hide (by simp [hkd])
      clear hkd
      by_cases hkz : k = 0
      · have HKZ := hide hkz
        have hz1 : decide ((0 : Int) < (k : Int)) = false := decide_eq_false (by omega)
        have hz2 : ((0 : Int) < (k : Int)) = False := eq_false (by omega)
        have hz3 : (0 < k) = False := eq_false (by omega)
        clear hkz
        go_upto_region 4 with fail
        have hne : Nonempty (On wr) := ⟨⟨wr, Below.refl _ _⟩⟩
        refine wp_region_on (by kernel_rfl) (by kernel_rfl) ?_
        repeat (first | go_big_quiet_step ((go_at_call 14; exact calls_on (kk _))) | quiet_step ((go_at_call 14; exact calls_on (kk _))))
        refine wpQuiet_nil ?_
        intro _ hw'
        obtain ⟨nq, hw''⟩ := hw'
        subst hw''
        have m7 := e7 nq
        have m8 := e8 nq
        clear e0 e1 e2 e3 e4 e5 e6 e7 e8 e9 e10 kk
        by_cases h3 : kind = 3
        rotate_left
        · have hd3 : (kind == 3) = false := by simp [h3]
          have HOK : Hid (kindOk kind n = true) := hide (by simp [kindOk, unhide HKD, unhide HWO, h3])
          clear h3
          go_wp2_with fail
          go_roundw
          case rel => exact ⟨k + 1, by omega, by simp, hide ((unhide HYF) (unhide HOK) (fun i e => by have := unhide HKZ; omega)), hide (below_then (unhide HB) nq.h)⟩
          case measure => (simp [intOf]; try omega)
        have hd3 : (kind == 3) = true := by simp [h3]
        by_cases i0 : n.incs.length = 3
        rotate_left
        · have di0 : ((n.incs.length : Int) != 3) = true := by rw [show (3 : Int) = ((3 : Nat) : Int) from rfl, len_not]; simp [i0]
          have HOK : Hid (kindOk kind n = false) := hide (by simp [kindOk, heardB, h3, i0])
          clear h3 i0
          go_wp2_with fail
          go_ret
          exact ⟨ret_bool ((unhide HNF) (unhide HOK)).symm, below_then (unhide HB) nq.h⟩
        have di0 : ((n.incs.length : Int) != 3) = false := by rw [show (3 : Int) = ((3 : Nat) : Int) from rfl, len_not]; simp [i0]
        by_cases i1 : n.vers.length = 3
        rotate_left
        · have di1 : ((n.vers.length : Int) != 3) = true := by rw [show (3 : Int) = ((3 : Nat) : Int) from rfl, len_not]; simp [i1]
          have HOK : Hid (kindOk kind n = false) := hide (by simp [kindOk, heardB, h3, i1])
          clear h3 i0 i1
          go_wp2_with fail
          go_ret
          exact ⟨ret_bool ((unhide HNF) (unhide HOK)).symm, below_then (unhide HB) nq.h⟩
        have di1 : ((n.vers.length : Int) != 3) = false := by rw [show (3 : Int) = ((3 : Nat) : Int) from rfl, len_not]; simp [i1]
        have HOK : Hid (kindOk kind n = true) := hide (by simp [kindOk, unhide HKD, unhide HWO, heardB, i0, i1])
        clear h3 i0 i1
        go_wp2_with fail
        go_roundw
        case rel => exact ⟨k + 1, by omega, by simp, hide ((unhide HYF) (unhide HOK) (fun i e => by have := unhide HKZ; omega)), hide (below_then (unhide HB) nq.h)⟩
        case measure => (simp [intOf]; try omega)
      obtain ⟨i, hi⟩ : ∃ i, k = i + 1 := ⟨k - 1, by omega⟩
      have hil : i < ns.length := by omega
      obtain ⟨ui, uv, ue, uo, hc2, _⟩ := hall i hil
      have HNL2 := hide ((unhide HNL) i hi)
      have HYL : Hid (wLess (ns[i]'hil) n = true → ∀ i' (e : k = i' + 1), wLess (ns[i']'(Nat.lt_of_lt_of_le (Nat.lt_of_lt_of_eq (Nat.lt_succ_self i') e.symm) hk)) n = true) := hide (fun h i' e => by
        obtain rfl : i' = i := by omega
        exact h)
      obtain ⟨q, hqe⟩ : ∃ q, q = ns[i]'hil := ⟨_, rfl⟩
      rw [← hqe] at hc2 HNL2 HYL
      clear hqe
      have d1 : ∀ y : On wr, y.y.cell? ⟨b, off + i * 11 + 1, none⟩ = some (.int .i64 q.frm) := fun y => cell_on y.h (hc2 1 (by simp))
      have hpI : (k : Int) - 1 = (i : Int) := by omega
      have hpl : (i : Int) < (ns.length : Int) := by omega
      have hi0 : (0 : Int) ≤ (i : Int) := by omega
      have hw1 : IntKind.i64.wrap ((k : Int) - 1) = (i : Int) := by rw [IntKind.wrap_i64]; omega
      have hz1 : decide ((0 : Int) < (k : Int)) = true := decide_eq_true (by omega)
      have hz2 : (0 : Int) < (k : Int) := by omega
      have hz3 : 0 < k := by omega
      clear hi hkz hc2 hall
      by_cases hle : n.frm ≤ q.frm
      · have hle2 : ¬ q.frm < n.frm := by omega
        have hle3 : decide (n.frm ≤ q.frm) = true := decide_eq_true hle
        have HW2 : Hid (wLess q n = false) := hide (by simp [wLess]; omega)
        go_upto_region 4 with fail
        have hne : Nonempty (On wr) := ⟨⟨wr, Below.refl _ _⟩⟩
        refine wp_region_on (by kernel_rfl) (by kernel_rfl) ?_
        repeat (first | go_big_quiet_step ((go_at_call 14; exact calls_on (kk _))) | quiet_step ((go_at_call 14; exact calls_on (kk _))))
        refine wpQuiet_nil ?_
        intro _ hw'
        obtain ⟨nq, hw''⟩ := hw'
        subst hw''
        go_wp2_with fail
        go_ret
        exact ⟨ret_bool ((unhide HNL2) (unhide HW2)).symm, below_then (unhide HB) nq.h⟩
      have hle2 : q.frm < n.frm := by omega
      have hle3 : decide (n.frm ≤ q.frm) = false := decide_eq_false hle
      have HW2 : Hid (wLess q n = true) := hide (by simp [wLess]; omega)
      go_upto_region 4 with fail
      have hne : Nonempty (On wr) := ⟨⟨wr, Below.refl _ _⟩⟩
      refine wp_region_on (by kernel_rfl) (by kernel_rfl) ?_
      repeat (first | go_big_quiet_step ((go_at_call 14; exact calls_on (kk _))) | quiet_step ((go_at_call 14; exact calls_on (kk _))))
      refine wpQuiet_nil ?_
      intro _ hw'
      obtain ⟨nq, hw''⟩ := hw'
      subst hw''
      have m7 := e7 nq
      have m8 := e8 nq
      clear e0 e1 e2 e3 e4 e5 e6 e7 e8 e9 e10 kk
      by_cases h3 : kind = 3
      rotate_left
      · have hd3 : (kind == 3) = false := by simp [h3]
        have HOK : Hid (kindOk kind n = true) := hide (by simp [kindOk, unhide HKD, unhide HWO, h3])
        clear h3
        go_wp2_with fail
        go_roundw
        case rel => exact ⟨k + 1, by omega, by simp, hide ((unhide HYF) (unhide HOK) ((unhide HYL) (unhide HW2))), hide (below_then (unhide HB) nq.h)⟩
        case measure => (simp [intOf]; try omega)
      have hd3 : (kind == 3) = true := by simp [h3]
      by_cases i0 : n.incs.length = 3
      rotate_left
      · have di0 : ((n.incs.length : Int) != 3) = true := by rw [show (3 : Int) = ((3 : Nat) : Int) from rfl, len_not]; simp [i0]
        have HOK : Hid (kindOk kind n = false) := hide (by simp [kindOk, heardB, h3, i0])
        clear h3 i0
        go_wp2_with fail
        go_ret
        exact ⟨ret_bool ((unhide HNF) (unhide HOK)).symm, below_then (unhide HB) nq.h⟩
      have di0 : ((n.incs.length : Int) != 3) = false := by rw [show (3 : Int) = ((3 : Nat) : Int) from rfl, len_not]; simp [i0]
      by_cases i1 : n.vers.length = 3
      rotate_left
      · have di1 : ((n.vers.length : Int) != 3) = true := by rw [show (3 : Int) = ((3 : Nat) : Int) from rfl, len_not]; simp [i1]
        have HOK : Hid (kindOk kind n = false) := hide (by simp [kindOk, heardB, h3, i1])
        clear h3 i0 i1
        go_wp2_with fail
        go_ret
        exact ⟨ret_bool ((unhide HNF) (unhide HOK)).symm, below_then (unhide HB) nq.h⟩
      have di1 : ((n.vers.length : Int) != 3) = false := by rw [show (3 : Int) = ((3 : Nat) : Int) from rfl, len_not]; simp [i1]
      have HOK : Hid (kindOk kind n = true) := hide (by simp [kindOk, unhide HKD, unhide HWO, heardB, i0, i1])
      clear h3 i0 i1
      go_wp2_with fail
      go_roundw
      case rel => exact ⟨k + 1, by omega, by simp, hide ((unhide HYF) (unhide HOK) ((unhide HYL) (unhide HW2))), hide (below_then (unhide HB) nq.h)⟩
      case measure => (simp [intOf]; try omega)
    · have hke : k = ns.length := by omega
      have hkI : ¬ (k : Int) < (ns.length : Int) := by omega
      go_wp2_with fail
      go_ret
      refine ⟨ret_bool ?_, unhide HB⟩
      rw [unhide HR, keptOk]
      have e1 : ns.all (kindOk kind) = true := List.all_eq_true.2 (fun x hx => by
        obtain ⟨j, hj, rfl⟩ := List.getElem_of_mem hx
        exact ((unhide HL) j hj (by omega)).1)
      have e2 : ascB wLess ns = true := ascB_upto (fun j hj => ((unhide HL) (j + 1) hj (by omega)).2 j rfl)
      rw [e1, e2]; rfl

end Go.Proofs.Ytimkamgghkjhhaa
