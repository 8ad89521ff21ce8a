/- The walk of laws.FnExactAppOk: it answers true. -/
import Derived.Test.YtjbgiepaehefpaaDoorTo3
namespace Go.Proofs.YtjbgiepaehefpaaDoor
open Go.RowKit
set_option linter.unusedVariables false

theorem le_sum_of_mem {l : List Nat} {x : Nat} (h : x ∈ l) : x ≤ l.sum := by
  induction l with
  | nil => cases h
  | cons a t ih =>
    rw [List.sum_cons]
    rcases List.mem_cons.1 h with rfl | h
    · omega
    · have := ih h; omega

theorem rulesSz_fit (rs : List RuleV) (h : rulesSz rs ≤ 1048576) : rs.length ≤ 1048576 ∧ opsFit rs := by
  unfold rulesSz at h
  refine ⟨by omega, fun j hj => ?_⟩
  have := le_sum_of_mem (List.mem_map.2 ⟨rs[j], List.getElem_mem hj, rfl⟩ : rs[j].ops.length ∈ rs.map fun r => r.ops.length)
  omega

theorem appsSz_fit (ps : List (List RuleV)) (h : appsSz ps ≤ 1048576) : ps.length ≤ 1048576 ∧ rulesFit ps := by
  unfold appsSz at h
  refine ⟨by omega, fun j hj => rulesSz_fit _ ?_⟩
  have := le_sum_of_mem (List.mem_map.2 ⟨ps[j], List.getElem_mem hj, rfl⟩ : rulesSz ps[j] ∈ ps.map rulesSz)
  omega

set_option maxRecDepth 100000 in
set_option maxHeartbeats 1000000 in
theorem lawOk_walk (v : Value) (ps : List (List RuleV)) (w : World) (hs : Shapes w 0) (h : AppsAt w v ps) :
    Calls Tryd.prog 9 #[v] w fun e w' => e = .returned (.bool true) ∧ Below w.heap.size w w' := by
  have HS := hide hs
  have H := hide h
  clear hs h
  go_enter Tryd.func9, Tryd.ntmps9
  go_wp2_with fail
  refine (szAppS_any v ps _ _ (unhide H) (by omega) (by omega)).mono ?_
  rintro e w1 ⟨r, rfl, ⟨hr, hl⟩ | ⟨hr, hl⟩, hb1⟩
  · subst hr
    go_wp2_with fail
    go_ret
    exact ⟨rfl, hb1⟩
  · obtain ⟨hf1, hf2⟩ := appsSz_fit ps (by omega)
    have HF2 := hide hf2
    clear hf2 hl
    go_wp2_with fail
    refine (toAppS_any v ps _ ((unhide H).on hb1) hf1 (unhide HF2)).mono ?_
    rintro e w2 ⟨v2, rfl, hfr2, hb2⟩
    have HA2 := hide hfr2.at
    have hb02 := below_then hb1 hb2
    clear hfr2
    go_wp2_with fail
    refine (specAppOk_any ps v2 _ (unhide HA2)).mono ?_
    rintro e w3 ⟨rfl, hb3⟩
    have hb03 := below_then hb02 hb3
    go_wp2_with fail
    refine (toAppS_any v ps _ ((unhide H).on hb03) hf1 (unhide HF2)).mono ?_
    rintro e w4 ⟨v4, rfl, hfr4, hb4⟩
    have HA4 := hide hfr4.at
    have hb04 := below_then hb03 hb4
    clear hfr4
    go_wp2_with fail
    refine (AppOk_any ps v4 _ ((unhide HS).on hb04) (unhide HA4)).mono ?_
    rintro e w5 ⟨rfl, hb5⟩
    have hb05 := below_then hb04 hb5
    have hne : (appsOk ps != appsOk ps) = false := by simp
    go_wp2_with fail
    refine (toAppS_any v ps _ ((unhide H).on hb05) hf1 (unhide HF2)).mono ?_
    rintro e w6 ⟨v6, rfl, hfr6, hb6⟩
    have HA6 := hide hfr6.at
    have hb06 := below_then hb05 hb6
    clear hfr6
    go_wp2_with fail
    refine (eqAppS_any v4 v6 ps _ ((unhide HA4).on (below_then hb5 hb6)) (unhide HA6)).mono ?_
    rintro e w7 ⟨rfl, hb7⟩
    go_wp2_with fail
    go_ret
    exact ⟨rfl, below_then hb06 hb7⟩
end Go.Proofs.YtjbgiepaehefpaaDoor
