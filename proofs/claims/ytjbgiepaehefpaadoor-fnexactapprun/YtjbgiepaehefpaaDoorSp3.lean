/- Contract of spec.AppOk. -/
import Derived.Test.YtjbgiepaehefpaaDoorSp2
import Derived.Test.YtjbgiepaehefpaaDoorOk7
namespace Go.Proofs.YtjbgiepaehefpaaDoor
open Go.RowKit
set_option linter.unusedVariables false

theorem all_app_long (ps : List (List RuleV)) (k : Nat) (h : k < ps.length) (h2 : ¬ ps[k].length ≤ 4) : appsOk ps = false :=
  apps_stop ps (all_false_at appOk ps k h (app_long _ h2))
theorem all_app_stop (ps : List (List RuleV)) (k : Nat) (h : k < ps.length) (j : Nat) (hj : j < ps[k].length) (h2 : stepOk ps[k] j = false) : appsOk ps = false :=
  apps_stop ps (all_false_at appOk ps k h (app_stop _ j hj h2))
theorem stepOk_bad_kind (rs : List RuleV) (k : Nat) (h : k < rs.length) (hb : inR 0 3 rs[k].kind = false) : stepOk rs k = false :=
  stepOk_bad rs k h (by simp [kruleOk, hb])
theorem stepOk_bad_rule (rs : List RuleV) (k : Nat) (h : k < rs.length) (hb : ruleOk rs[k] = false) : stepOk rs k = false :=
  stepOk_bad rs k h (by simp [kruleOk, hb])

theorem l6In_is (n lo hi : Int) (b : Bool) (h : inR lo hi n = b) (w : World) :
    Calls Tryd.prog 46 #[.int .i64 n, .int .i64 lo, .int .i64 hi] w fun e w' => e = .returned (.bool b) ∧ w' = w := by
  rw [← h]; exact l6In_any n lo hi w
theorem l1RuleOk_is (r : RuleV) (v : Value) (b : Bool) (h : ruleOk r = b) (w : World) (ho : OpsAt w v r.ops) :
    Calls Tryd.prog 47 #[.agg #[.int .i64 r.kind, v]] w fun e w' => e = .returned (.bool b) ∧ Below w.heap.size w w' := by
  rw [← h]; exact l1RuleOk_any r v w ho

set_option maxRecDepth 100000 in
set_option maxHeartbeats 2000000 in
theorem specAppOk_any (ps : List (List RuleV)) (v : Value) (w : World) (ho : AppsAt w v ps) :
    Calls Tryd.prog 14 #[v] w fun e w' => e = .returned (.bool (appsOk ps)) ∧ Below w.heap.size w w' := by
  obtain ⟨ad, cap, rfl, hlc, hm, hcells⟩ := ho
  unfold maxLen at hm
  have KL := hide (apps_long ps)
  have K1 := hide (all_app_long ps)
  have K2 := hide (all_app_stop ps)
  have KA := hide (apps_all ps)
  generalize appsOk ps = ans at *
  have HC := hide hcells
  clear hcells
  by_cases hl : ps.length = 4
  · have hl' : ((ps.length : Int) != 4) = false := by simp; omega
    have HL := hide hl
    clear hl
    go_enter Tryd.func14, Tryd.ntmps14
    go_wp2_with fail
    go_loopw [3] (fun i wr => ∃ k : Nat, k ≤ ps.length ∧ i = .int .i64 k ∧ (ps.take k).all appOk = true ∧ Below w.heap.size w wr) (fun i _ => ps.length - (intOf i).toNat)
    case atStart => exact ⟨0, Nat.zero_le _, rfl, rfl, Below.refl _ _⟩
    case round =>
      obtain ⟨k, hk, rfl, hprev, hb⟩ := hrel
      have HP := hide hprev
      clear hprev
      by_cases hlt : k < ps.length
      · obtain ⟨b, off, had, hc⟩ : ∃ b off, ad = some ⟨b, off, none⟩ ∧ AppCell w b (off + k) ps[k] := by
          rcases unhide HC with h | ⟨b, off, h1, h2⟩
          · rw [h] at hlt; exact absurd hlt (Nat.not_lt_zero _)
          · exact ⟨b, off, h1, h2 k hlt⟩
        obtain ⟨rv, r0, hrs⟩ := hc.on hb
        obtain ⟨rad, rcap, hrv, hrl, hrm, hrc⟩ := hrs
        subst hrv
        unfold maxLen at hrm
        have hmore := fun h => all_take_more appOk ps k hlt (unhide HP) h
        have k1 := (unhide K1) k hlt
        have k2 := (unhide K2) k hlt
        clear hc
        generalize ps[k] = rs at *
        have HRC := hide hrc
        have HM := hide hmore
        have HK1 := hide k1
        have HK2 := hide k2
        clear hmore k1 k2 hrc
        subst had
        by_cases hl4 : rs.length ≤ 4
        · have hl4' : ¬ (4 : Int) < (rs.length : Int) := by omega
          go_wp2_with fail
          obtain ⟨wo, rfl⟩ : ∃ wo : World, wo = wr := ⟨_, rfl⟩
          go_loopw [5] (fun i wi => ∃ j : Nat, j ≤ rs.length ∧ i = .int .i64 j ∧ (List.range j).all (stepOk rs) = true ∧ Below wo.heap.size wo wi) (fun i _ => rs.length - (intOf i).toNat)
          case atStart => exact ⟨0, Nat.zero_le _, rfl, rfl, Below.refl _ _⟩
          case round =>
            obtain ⟨j, hj, rfl, hprev, hbi⟩ := hrel
            have HPJ := hide hprev
            clear hprev
            by_cases hjl : j < rs.length
            · obtain ⟨rb, roff, hrad, hrcell⟩ : ∃ b off, rad = some ⟨b, off, none⟩ ∧ ∀ i (h : i < rs.length), RuleCells wo b (off + i * 2) rs[i] := by
                rcases unhide HRC with h | ⟨b, off, h1, h2⟩
                · rw [h] at hjl; exact absurd hjl (Nat.not_lt_zero _)
                · exact ⟨b, off, h1, h2⟩
              have hcr := (hrcell j hjl).on hbi
              obtain ⟨r, hr⟩ : ∃ r, r = rs[j] := ⟨_, rfl⟩
              have HRK := hide hr
              rw [← hr] at hcr
              clear hr
              obtain ⟨kind, ops⟩ := r
              obtain ⟨q0, ov, q1, hops⟩ := hcr
              simp only at q0 hops
              obtain ⟨oad, ocap, rfl⟩ : ∃ oad ocap, ov = .slice oad ops.length ocap := by obtain ⟨x, y, h, _⟩ := hops; exact ⟨x, y, h⟩
              have HOP := hide hops
              have HCC := hide hrcell
              clear hops hrcell
              subst hrad
              have hjI : (j : Int) < (rs.length : Int) := by omega
              have hj0 : (0 : Int) ≤ (j : Int) := by omega
              have q0' : ∀ x : On wr, x.y.cell? ⟨rb, roff + j * 2, none⟩ = some (.int .i64 kind) := fun x => cell_on x.h q0
              have q1' : ∀ x : On wr, x.y.cell? ⟨rb, roff + j * 2 + 1, none⟩ = some (.slice oad ops.length ocap) := fun x => cell_on x.h q1
              cases hkd : inR 0 3 kind
              · have HF := hide ((unhide HK2) j hjl (stepOk_bad_kind rs j hjl (by rw [← unhide HRK]; exact hkd)))
                have hro : Hid True := trivial
                go_wp2_with fail
                have hne : Nonempty (On wr) := ⟨⟨wr, Below.refl _ _⟩⟩
                refine wp_region_on (by kernel_rfl) (by kernel_rfl) ?_
                repeat (first | go_big_quiet_step (first | (go_at_call 46; exact calls_on_same (l6In_is _ _ _ _ hkd _)) | (go_at_call 47; exact calls_on (l1RuleOk_is ⟨kind, ops⟩ _ _ hro _ ((unhide HOP).on (On.h _))))) | quiet_step (first | (go_at_call 46; exact calls_on_same (l6In_is _ _ _ _ hkd _)) | (go_at_call 47; exact calls_on (l1RuleOk_is ⟨kind, ops⟩ _ _ hro _ ((unhide HOP).on (On.h _))))))
                refine wpQuiet_nil ?_
                intro _ hw'
                obtain ⟨nq, hw''⟩ := hw'
                subst hw''
                go_wp2_with fail
                go_ret
                exact ⟨ret_bool (unhide HF).symm, below_then (below_then hb hbi) nq.h⟩
              · cases hro : ruleOk ⟨kind, ops⟩
                · have HF := hide ((unhide HK2) j hjl (stepOk_bad_rule rs j hjl (by rw [← unhide HRK]; exact hro)))
                  go_wp2_with fail
                  have hne : Nonempty (On wr) := ⟨⟨wr, Below.refl _ _⟩⟩
                  refine wp_region_on (by kernel_rfl) (by kernel_rfl) ?_
                  repeat (first | go_big_quiet_step (first | (go_at_call 46; exact calls_on_same (l6In_is _ _ _ _ hkd _)) | (go_at_call 47; exact calls_on (l1RuleOk_is ⟨kind, ops⟩ _ _ hro _ ((unhide HOP).on (On.h _))))) | quiet_step (first | (go_at_call 46; exact calls_on_same (l6In_is _ _ _ _ hkd _)) | (go_at_call 47; exact calls_on (l1RuleOk_is ⟨kind, ops⟩ _ _ hro _ ((unhide HOP).on (On.h _))))))
                  refine wpQuiet_nil ?_
                  intro _ hw'
                  obtain ⟨nq, hw''⟩ := hw'
                  subst hw''
                  go_wp2_with fail
                  go_ret
                  exact ⟨ret_bool (unhide HF).symm, below_then (below_then hb hbi) nq.h⟩
                · rcases Nat.eq_zero_or_pos j with rfl | hjp
                  · have HST : Hid (stepOk rs 0 = true) := by
                      apply hide
                      rw [stepOk_zero rs hjl, ← unhide HRK]
                      simp [kruleOk, hkd, hro]
                    simp only [Nat.zero_mul, Nat.add_zero] at q0' q1'
                    go_wp2_with fail
                    have hne : Nonempty (On wr) := ⟨⟨wr, Below.refl _ _⟩⟩
                    refine wp_region_on (by kernel_rfl) (by kernel_rfl) ?_
                    repeat (first | go_big_quiet_step (first | (go_at_call 46; exact calls_on_same (l6In_is _ _ _ _ hkd _)) | (go_at_call 47; exact calls_on (l1RuleOk_is ⟨kind, ops⟩ _ _ hro _ ((unhide HOP).on (On.h _))))) | quiet_step (first | (go_at_call 46; exact calls_on_same (l6In_is _ _ _ _ hkd _)) | (go_at_call 47; exact calls_on (l1RuleOk_is ⟨kind, ops⟩ _ _ hro _ ((unhide HOP).on (On.h _))))))
                    refine wpQuiet_nil ?_
                    intro _ hw'
                    obtain ⟨nq, hw''⟩ := hw'
                    subst hw''
                    go_wp2_with fail
                    go_roundw
                    case rel => exact ⟨1, by omega, by go_num, range_more _ 0 (unhide HPJ) (unhide HST), below_then hbi nq.h⟩
                    case measure => simp [intOf]; omega
                  · obtain ⟨m, rfl⟩ : ∃ m, j = m + 1 := ⟨j - 1, by omega⟩
                    have hmlt : m < rs.length := by omega
                    have hcm := ((unhide HCC) m hmlt).on hbi
                    obtain ⟨q, hq⟩ : ∃ q, q = rs[m] := ⟨_, rfl⟩
                    have HQ := hide hq
                    rw [← hq] at hcm
                    clear hq
                    obtain ⟨qk, qo⟩ := q
                    have e0 := hcm.1
                    simp only at e0
                    have e0' : ∀ x : On wr, x.y.cell? ⟨rb, roff + m * 2, none⟩ = some (.int .i64 qk) := fun x => cell_on x.h e0
                    clear hcm
                    have hstep : stepOk rs (m + 1) = decide (qk < kind) := by
                      rw [stepOk_more rs (m + 1) hjl (by omega)]
                      have h1 : rs[m + 1 - 1] = rs[m] := rfl
                      rw [h1, ← unhide HQ, ← unhide HRK]
                      simp [kruleOk, hkd, hro]
                    have HSTEP := hide hstep
                    clear hstep
                    have hm7 : (0 : Int) < (m : Int) + 1 := by omega
                    by_cases hlss : qk < kind
                    · have HDL : Hid (decide (qk < kind) = true) := by
                        apply hide
                        simp [hlss]
                      have hge : ¬ kind ≤ qk := by omega
                      clear hlss
                      go_wp2_with fail
                      have hne : Nonempty (On wr) := ⟨⟨wr, Below.refl _ _⟩⟩
                      refine wp_region_on (by kernel_rfl) (by kernel_rfl) ?_
                      repeat (first | go_big_quiet_step (first | (go_at_call 46; exact calls_on_same (l6In_is _ _ _ _ hkd _)) | (go_at_call 47; exact calls_on (l1RuleOk_is ⟨kind, ops⟩ _ _ hro _ ((unhide HOP).on (On.h _))))) | quiet_step (first | (go_at_call 46; exact calls_on_same (l6In_is _ _ _ _ hkd _)) | (go_at_call 47; exact calls_on (l1RuleOk_is ⟨kind, ops⟩ _ _ hro _ ((unhide HOP).on (On.h _))))))
                      refine wpQuiet_nil ?_
                      intro _ hw'
                      obtain ⟨nq, hw''⟩ := hw'
                      subst hw''
                      go_wp2_with fail
                      go_roundw
                      case rel => exact ⟨m + 1 + 1, by omega, by go_num, range_more _ _ (unhide HPJ) ((unhide HSTEP).trans (unhide HDL)), below_then hbi nq.h⟩
                      case measure => simp [intOf]; omega
                    · have hdl : decide (qk < kind) = false := by simp [hlss]
                      have HF := hide ((unhide HK2) (m + 1) hjl ((unhide HSTEP).trans hdl))
                      have hge : kind ≤ qk := by omega
                      clear hlss hdl
                      go_wp2_with fail
                      have hne : Nonempty (On wr) := ⟨⟨wr, Below.refl _ _⟩⟩
                      refine wp_region_on (by kernel_rfl) (by kernel_rfl) ?_
                      repeat (first | go_big_quiet_step (first | (go_at_call 46; exact calls_on_same (l6In_is _ _ _ _ hkd _)) | (go_at_call 47; exact calls_on (l1RuleOk_is ⟨kind, ops⟩ _ _ hro _ ((unhide HOP).on (On.h _))))) | quiet_step (first | (go_at_call 46; exact calls_on_same (l6In_is _ _ _ _ hkd _)) | (go_at_call 47; exact calls_on (l1RuleOk_is ⟨kind, ops⟩ _ _ hro _ ((unhide HOP).on (On.h _))))))
                      refine wpQuiet_nil ?_
                      intro _ hw'
                      obtain ⟨nq, hw''⟩ := hw'
                      subst hw''
                      go_wp2_with fail
                      go_ret
                      exact ⟨ret_bool (unhide HF).symm, below_then (below_then hb hbi) nq.h⟩
            · have hje : j = rs.length := by omega
              subst hje
              have HALL := hide ((unhide HM) (app_all rs hl4 (unhide HPJ)))
              go_wp2_with fail
              go_roundw
              case rel => exact ⟨k + 1, by omega, by go_num, unhide HALL, below_then hb hbi⟩
              case measure => simp [intOf]; omega
        · have hl4' : (4 : Int) < (rs.length : Int) := by omega
          have HF := hide ((unhide HK1) hl4)
          clear hl4
          go_wp2_with fail
          go_ret
          exact ⟨ret_bool (unhide HF).symm, hb⟩
      · have hke : k = ps.length := by omega
        subst hke
        have hall : ps.all appOk = true := by have := unhide HP; rwa [List.take_length] at this
        have HA := hide ((unhide KA) (unhide HL) hall)
        clear hall
        go_wp2_with fail
        go_ret
        exact ⟨ret_bool (unhide HA).symm, hb⟩
  · have hl' : ((ps.length : Int) != 4) = true := by simp; omega
    have HF := hide ((unhide KL) hl)
    clear hl
    go_enter Tryd.func14, Tryd.ntmps14
    go_wp2_with fail
    go_ret
    exact ⟨ret_bool (unhide HF).symm, Below.refl _ _⟩
end Go.Proofs.YtjbgiepaehefpaaDoor
