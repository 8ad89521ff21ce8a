/- Contract of impl.needApp: it returns where the program of a process is ok, and panics where it is not. -/
import Derived.Test.YtjbgiepaehefpaaDoorOk5
import Derived.Deep.QuietTactic
import Derived.BigQuiet
import Derived.Deep.RegionWith
namespace Go.Proofs.YtjbgiepaehefpaaDoor
open Go.RowKit
set_option linter.unusedVariables false

theorem app_long (rs : List RuleV) (h : ¬ rs.length ≤ 4) : appOk rs = false := by simp [appOk, h]
theorem app_stop (rs : List RuleV) (k : Nat) (h : k < rs.length) (hb : stepOk rs k = false) : appOk rs = false := by
  simp only [appOk, range_stop _ _ k h hb, Bool.and_false]
theorem app_all (rs : List RuleV) (h : rs.length ≤ 4) (h2 : (List.range rs.length).all (stepOk rs) = true) : appOk rs = true := by
  simp only [appOk, h2, h, decide_true, Bool.and_self]

set_option maxRecDepth 100000 in
set_option maxHeartbeats 1000000 in
theorem needApp_any (rs : List RuleV) (v : Value) (w : World) (hs : Shapes w 0) (ho : RulesAt w v rs) :
    Calls Tryd.prog 82 #[.agg #[v]] w fun e w' => Says (appOk rs) e ∧ Below w.heap.size w w' := by
  obtain ⟨ad, cap, rfl, hlc, hm, hcells⟩ := ho
  unfold maxLen at hm
  have KL := hide (app_long rs)
  have KS := hide (app_stop rs)
  have KA := hide (app_all rs)
  generalize appOk rs = ans at *
  have hb0 : Below w.heap.size w (w.alloc (.cells #[.slice ad rs.length cap] 34)) := (Below.refl _ _).alloc (Nat.le_refl _) _
  have HC := hide hcells
  have HS := hide (hs.on hb0)
  clear hcells hs
  by_cases hl : rs.length ≤ 4
  · have hl' : decide ((rs.length : Int) ≤ 4) = true := by simp; omega
    go_enter Tryd.func82, Tryd.ntmps82
    go_wp2_with fail
    refine (need_yes _ _).mono ?_; rintro e w' ⟨rfl, rfl⟩
    clear hl'
    go_wp2_with fail
    have c0 : (w.alloc (.cells #[.slice ad rs.length cap] 34)).cell? ⟨w.heap.size, 0, none⟩ = some (.slice ad rs.length cap) := by simp [go_sem]
    have hz1 : w.heap.size < (w.alloc (.cells #[.slice ad rs.length cap] 34)).heap.size := by simp
    generalize w.alloc (.cells #[.slice ad rs.length cap] 34) = w1 at *
    go_loopw [12] (fun i wr => ∃ k : Nat, k ≤ rs.length ∧ i = .int .i64 k ∧ (List.range k).all (stepOk rs) = true ∧ Below w1.heap.size w1 wr) (fun i _ => rs.length - (intOf i).toNat)
    case atStart => exact ⟨0, Nat.zero_le _, rfl, rfl, Below.refl _ _⟩
    case round =>
      obtain ⟨k, hk, rfl, hprev, hb⟩ := hrel
      have HP := hide hprev
      clear hprev
      by_cases hlt : k < rs.length
      · obtain ⟨b, off, had, hc⟩ : ∃ b off, ad = some ⟨b, off, none⟩ ∧ ∀ i (h : i < rs.length), RuleCells w b (off + i * 2) rs[i] := by
          rcases unhide HC with h | ⟨b, off, h1, h2⟩
          · rw [h] at hlt; exact absurd hlt (Nat.not_lt_zero _)
          · exact ⟨b, off, h1, h2⟩
        have hcr := (hc k hlt).on (below_then hb0 hb)
        have hsr := (unhide HS).on hb
        have hc0 := cell_on hb c0
        obtain ⟨r, hr⟩ : ∃ r, r = rs[k] := ⟨_, rfl⟩
        have HRK := hide hr
        rw [← hr] at hcr
        clear hr
        obtain ⟨kind, ops⟩ := r
        obtain ⟨r0, ov, r1, hops⟩ := hcr
        simp only at r0 hops
        obtain ⟨oad, ocap, rfl⟩ : ∃ oad ocap, ov = .slice oad ops.length ocap := by obtain ⟨x, y, h, _⟩ := hops; exact ⟨x, y, h⟩
        have HSR := hide hsr
        have HOP := hide hops
        have HCC := hide hc
        clear hsr hops hc
        subst had
        go_wp2_with fail
        have hbx : Below wr.heap.size wr (wr.alloc (.cells #[.int .i64 kind, .slice oad ops.length ocap] 51)) := (Below.refl _ _).alloc (Nat.le_refl _) _
        refine (needRule_any ⟨kind, ops⟩ _ _ ((unhide HSR).on hbx) ((unhide HOP).on hbx)).mono ?_
        rintro e w3 ⟨⟨hok, rfl⟩ | ⟨hok, u, pv, rfl⟩, hb3⟩
        · have hb4 : Below wr.heap.size wr w3 := below_then hbx hb3
          have d0 : w3.cell? ⟨wr.heap.size, 0, none⟩ = some (.int .i64 kind) := cell_on hb3 (by simp [go_sem])
          have d1 := cell_on hb4 hc0
          rcases Nat.eq_zero_or_pos k with rfl | hk0
          · have hst : stepOk rs 0 = true := by rw [stepOk_zero rs hlt, ← unhide HRK]; exact hok
            have HST := hide hst
            clear hst hok
            go_wp2_with fail
            go_quiet ((go_at_call 83; exact Calls.quiet_of_same (need_yes _ _)))
            go_wp2_with fail
            go_roundw
            case rel => exact ⟨1, by omega, by go_num, range_more _ 0 (unhide HP) (unhide HST), below_then hb (below_then hb4 (below_drewN (Below.refl _ _) _))⟩
            case measure => simp [intOf]; omega
          · obtain ⟨m, rfl⟩ : ∃ m, k = m + 1 := ⟨k - 1, by omega⟩
            have hmlt : m < rs.length := by omega
            have hcm := ((unhide HCC) m hmlt).on (below_then (below_then hb0 hb) hb4)
            obtain ⟨q, hq⟩ : ∃ q, q = rs[m] := ⟨_, rfl⟩
            have HQ := hide hq
            rw [← hq] at hcm
            clear hq
            obtain ⟨qk, qo⟩ := q
            have e0 := hcm.1
            simp only at e0
            clear hcm
            have hz : ((m : Int) + 1 == 0) = false := by simp; omega
            have hstep : stepOk rs (m + 1) = decide (qk < kind) := by
              rw [stepOk_more rs (m + 1) hlt (by omega)]
              have h1 : rs[m + 1 - 1] = rs[m] := rfl
              rw [h1, ← unhide HQ, ← unhide HRK, hok, Bool.true_and]
            have HSTEP := hide hstep
            clear hstep hok
            by_cases hlss : qk < kind
            · have hdl : decide (qk < kind) = true := by simp [hlss]
              have HDL := hide hdl
              clear hdl
              go_wp2_with fail
              go_quiet ((go_at_call 83; exact Calls.quiet_of_same (need_yes _ _)))
              go_wp2_with fail
              go_roundw
              case rel => exact ⟨m + 1 + 1, by omega, by go_num, range_more _ _ (unhide HP) ((unhide HSTEP).trans (unhide HDL)), below_then hb (below_then hb4 (below_drewN (Below.refl _ _) _))⟩
              case measure => simp [intOf]; omega
            · have hdl : decide (qk < kind) = false := by simp [hlss]
              have HK2 := hide ((unhide KS) (m + 1) hlt ((unhide HSTEP).trans hdl))
              have hm1 : (0 : Int) ≤ (m : Int) := by omega
              have hm2 : (m : Int) < (rs.length : Int) := by omega
              have hm3 : (m : Int) + 1 - 1 = (m : Int) := by omega
              have hm4 : ((m : Int) + 1 - 1).toNat = m := by omega
              have hm5 : IntKind.i64.wrap ((m : Int) + 1 - 1) = (m : Int) := by rw [IntKind.wrap_i64]; omega
              have hm6 : IntKind.i64.wrap (m : Int) = (m : Int) := by rw [IntKind.wrap_i64]; omega
              clear hlss HSTEP
              go_wp2_with fail
              refine wp_region_any (by kernel_rfl) ?_
              change wpAny _ _ _ _ _ _ _ (World.drew _)
              refine wpAny_take (i := 0) (v := ?_) rfl (by kernel_rfl) (by kernel_rfl) (by kernel_rfl) (fun _ _ _ h => h) (Or.inl ⟨by rfl, ?_⟩) ?_
              rotate_left
              · (intro w; go_simp; try with_reducible rfl)
              refine wpAny_take (i := 1) (v := ?_) rfl (by kernel_rfl) (by kernel_rfl) (by kernel_rfl) (fun _ _ _ h => h) (Or.inl ⟨by rfl, ?_⟩) ?_
              rotate_left
              · (intro w; go_simp; try with_reducible rfl)
              refine wpAny_take (i := 2) (v := ?_) rfl (by kernel_rfl) (by kernel_rfl) (by kernel_rfl) (fun _ _ _ h => h) (Or.inl ⟨by rfl, ?_⟩) ?_
              rotate_left
              · (intro w; go_simp; try with_reducible rfl)
              refine wpAny_take (i := 3) (v := ?_) rfl (by kernel_rfl) (by kernel_rfl) (by kernel_rfl) (fun _ _ _ h => h) (Or.inl ⟨by rfl, ?_⟩) ?_
              rotate_left
              · (intro w; go_simp; try with_reducible rfl)
              refine wpAny_take (i := 5) (v := ?_) rfl (by kernel_rfl) (by kernel_rfl) (by kernel_rfl) (fun _ _ _ h => h) (Or.inl ⟨by rfl, ?_⟩) ?_
              rotate_left
              · (intro w; go_simp; try with_reducible rfl)
              refine wpAny_take (i := 6) (v := ?_) rfl (by kernel_rfl) (by kernel_rfl) (by kernel_rfl) (fun _ _ _ h => h) (Or.inl ⟨by rfl, ?_⟩) ?_
              rotate_left
              · (intro w; go_simp; try with_reducible rfl)
              refine wpAny_take (i := 10) (v := ?_) rfl (by kernel_rfl) (by kernel_rfl) (by kernel_rfl) (fun _ _ _ h => h) (Or.inl ⟨by rfl, ?_⟩) ?_
              rotate_left
              · (intro w; go_simp; try with_reducible rfl)
              refine wpAny_ready (rs := [4, 11]) (by kernel_rfl) (by simp) ?_
              refine AllReady.cons rfl (fun K hK => ?_) ?_
              · go_simp
                refine hK _ _ ?_
                clear hK K
                refine wpAny_take (i := 7) (v := ?_) rfl (by kernel_rfl) (by kernel_rfl) (by kernel_rfl) (fun _ _ _ h => h) (Or.inl ⟨by rfl, ?_⟩) ?_
                rotate_left
                · (intro w; go_simp; try with_reducible rfl)
                refine wpAny_take (i := 8) (v := ?_) rfl (by kernel_rfl) (by kernel_rfl) (by kernel_rfl) (fun _ _ _ h => h) (Or.inl ⟨by rfl, ?_⟩) ?_
                rotate_left
                · (intro w; go_simp; try with_reducible rfl)
                refine wpAny_ready (rs := [9, 11]) (by kernel_rfl) (by simp) ?_
                refine AllReady.cons rfl (fun K hK => ?_) ?_
                · go_simp
                  refine hK _ _ ?_
                  clear hK K
                  refine wpAny_ready (rs := [11]) (by kernel_rfl) (by simp) ?_
                  refine AllReady.cons rfl (fun K hK => ?_) AllReady.nil
                  go_simp
                  refine hK _ _ ?_
                  clear hK K
                  refine wpAny_take (i := 12) (v := ?_) rfl (by kernel_rfl) (by kernel_rfl) (by kernel_rfl) (fun _ _ _ h => h) (Or.inl ⟨by rfl, ?_⟩) ?_
                  rotate_left
                  · (intro w; go_simp; try with_reducible rfl)
                  refine wpAny_take (i := 13) (v := ?_) rfl (by kernel_rfl) (by kernel_rfl) (by kernel_rfl) (fun _ _ _ h => h) (Or.inl ⟨by rfl, ?_⟩) ?_
                  rotate_left
                  · (intro w; go_simp; try with_reducible rfl)
                  refine wpAny_ready (rs := [14]) (by kernel_rfl) (by simp) ?_
                  refine AllReady.cons rfl (fun K hK => ?_) AllReady.nil
                  go_simp
                  go_wp2_with (go_at_call 83; refine (need_no _ _).mono ?_; rintro e w' ⟨⟨u, pv, rfl⟩, rfl⟩)
                  exact ⟨rfl, Or.inr ⟨unhide HK2, _, _, rfl⟩, (below_then hb0 (below_then hb hb4)).drew⟩
                refine AllReady.cons rfl (fun K hK => ?_) ?_
                · go_simp
                  refine hK _ _ ?_
                  clear hK K
                  refine wpAny_ready (rs := [9]) (by kernel_rfl) (by simp) ?_
                  refine AllReady.cons rfl (fun K hK => ?_) AllReady.nil
                  go_simp
                  refine hK _ _ ?_
                  clear hK K
                  refine wpAny_take (i := 12) (v := ?_) rfl (by kernel_rfl) (by kernel_rfl) (by kernel_rfl) (fun _ _ _ h => h) (Or.inl ⟨by rfl, ?_⟩) ?_
                  rotate_left
                  · (intro w; go_simp; try with_reducible rfl)
                  refine wpAny_take (i := 13) (v := ?_) rfl (by kernel_rfl) (by kernel_rfl) (by kernel_rfl) (fun _ _ _ h => h) (Or.inl ⟨by rfl, ?_⟩) ?_
                  rotate_left
                  · (intro w; go_simp; try with_reducible rfl)
                  refine wpAny_ready (rs := [14]) (by kernel_rfl) (by simp) ?_
                  refine AllReady.cons rfl (fun K hK => ?_) AllReady.nil
                  go_simp
                  go_wp2_with (go_at_call 83; refine (need_no _ _).mono ?_; rintro e w' ⟨⟨u, pv, rfl⟩, rfl⟩)
                  exact ⟨rfl, Or.inr ⟨unhide HK2, _, _, rfl⟩, (below_then hb0 (below_then hb hb4)).drew⟩
                exact AllReady.nil
              refine AllReady.cons rfl (fun K hK => ?_) ?_
              · go_simp
                refine hK _ _ ?_
                clear hK K
                refine wpAny_ready (rs := [4]) (by kernel_rfl) (by simp) ?_
                refine AllReady.cons rfl (fun K hK => ?_) AllReady.nil
                go_simp
                refine hK _ _ ?_
                clear hK K
                refine wpAny_take (i := 7) (v := ?_) rfl (by kernel_rfl) (by kernel_rfl) (by kernel_rfl) (fun _ _ _ h => h) (Or.inl ⟨by rfl, ?_⟩) ?_
                rotate_left
                · (intro w; go_simp; try with_reducible rfl)
                refine wpAny_take (i := 8) (v := ?_) rfl (by kernel_rfl) (by kernel_rfl) (by kernel_rfl) (fun _ _ _ h => h) (Or.inl ⟨by rfl, ?_⟩) ?_
                rotate_left
                · (intro w; go_simp; try with_reducible rfl)
                refine wpAny_ready (rs := [9]) (by kernel_rfl) (by simp) ?_
                refine AllReady.cons rfl (fun K hK => ?_) AllReady.nil
                go_simp
                refine hK _ _ ?_
                clear hK K
                refine wpAny_take (i := 12) (v := ?_) rfl (by kernel_rfl) (by kernel_rfl) (by kernel_rfl) (fun _ _ _ h => h) (Or.inl ⟨by rfl, ?_⟩) ?_
                rotate_left
                · (intro w; go_simp; try with_reducible rfl)
                refine wpAny_take (i := 13) (v := ?_) rfl (by kernel_rfl) (by kernel_rfl) (by kernel_rfl) (fun _ _ _ h => h) (Or.inl ⟨by rfl, ?_⟩) ?_
                rotate_left
                · (intro w; go_simp; try with_reducible rfl)
                refine wpAny_ready (rs := [14]) (by kernel_rfl) (by simp) ?_
                refine AllReady.cons rfl (fun K hK => ?_) AllReady.nil
                go_simp
                go_wp2_with (go_at_call 83; refine (need_no _ _).mono ?_; rintro e w' ⟨⟨u, pv, rfl⟩, rfl⟩)
                exact ⟨rfl, Or.inr ⟨unhide HK2, _, _, rfl⟩, (below_then hb0 (below_then hb hb4)).drew⟩
              exact AllReady.nil
        · have hb4 : Below w1.heap.size w1 w3 := below_then hb (below_then hbx hb3)
          have HK2 := hide ((unhide KS) k hlt (stepOk_bad rs k hlt (by rw [← unhide HRK]; exact hok)))
          clear hok
          go_wp2_with fail
          exact ⟨rfl, Or.inr ⟨unhide HK2, u, pv, rfl⟩, below_then hb0 hb4⟩
      · have hke : k = rs.length := by omega
        subst hke
        go_wp2_with fail
        go_end0
        exact ⟨Or.inl ⟨(unhide KA) hl (unhide HP), rfl⟩, below_then hb0 hb⟩
  · have hl' : decide ((rs.length : Int) ≤ 4) = false := by simp; omega
    have HL := hide hl
    clear hl
    go_enter Tryd.func82, Tryd.ntmps82
    go_wp2_with fail
    refine (need_no _ _).mono ?_; rintro e w' ⟨⟨u, pv, rfl⟩, rfl⟩
    go_wp2_with fail
    exact ⟨rfl, Or.inr ⟨(unhide KL) (unhide HL), u, pv, rfl⟩, hb0⟩
end Go.Proofs.YtjbgiepaehefpaaDoor
