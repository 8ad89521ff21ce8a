/- Contracts of spec.l1OpOk, of every op, and spec.l1RuleOk. -/
import Derived.Test.YtjbgiepaehefpaaDoorSp1
namespace Go.Proofs.YtjbgiepaehefpaaDoor
open Go.RowKit
set_option linter.unusedVariables false

theorem opOk_none (o : OpV) (h : ¬ (1 ≤ o.d ∧ o.d ≤ 7)) : opOk o = false := by
  unfold opOk
  rw [if_neg (by omega), if_neg (by omega), if_neg (by omega), if_neg (by omega), if_neg (by omega)]

theorem l1OpOk_none (o : OpV) (w : World) (h : ¬ (1 ≤ o.d ∧ o.d ≤ 7)) :
    Calls Tryd.prog 68 #[opAgg o] w fun r w' => r = .returned (.bool (opOk o)) ∧ Below w.heap.size w w' := by
  rw [opOk_none o h]
  obtain ⟨d, a, b, c, e⟩ := o
  simp only at h
  have k1 : (d == 1) = false := by simp; omega
  have k2 : (d == 2) = false := by simp; omega
  have k3 : (d == 3) = false := by simp; omega
  have k4 : (d == 4) = false := by simp; omega
  have k5 : (d == 5) = false := by simp; omega
  have k6 : (d == 6) = false := by simp; omega
  have k7 : (d == 7) = false := by simp; omega
  clear h
  go_enter Tryd.func68, Tryd.ntmps68
  go_wp2
  go_ret
  exact ⟨rfl, (Below.refl _ _).alloc (Nat.le_refl _) _⟩

theorem l1OpOk_any (o : OpV) (w : World) :
    Calls Tryd.prog 68 #[opAgg o] w fun r w' => r = .returned (.bool (opOk o)) ∧ Below w.heap.size w w' := by
  by_cases h : 1 ≤ o.d ∧ o.d ≤ 7
  · obtain ⟨d, a, b, c, e⟩ := o
    simp only at h
    have h7 : d = 1 ∨ d = 2 ∨ d = 3 ∨ d = 4 ∨ d = 5 ∨ d = 6 ∨ d = 7 := by omega
    rcases h7 with rfl | rfl | rfl | rfl | rfl | rfl | rfl
    · exact l1OpOk_1 a b c e w
    · exact l1OpOk_2 a b c e w
    · exact l1OpOk_3 a b c e w
    · exact l1OpOk_4 a b c e w
    · exact l1OpOk_5 a b c e w
    · exact l1OpOk_6 a b c e w
    · exact l1OpOk_7 a b c e w
  · exact l1OpOk_none o w h

theorem rule_op (r : RuleV) (h : r.ops.all opOk = false) : ruleOk r = false := by simp [ruleOk, opsOk, h]
theorem rule_end (r : RuleV) (h : r.ops.all opOk = true) : ruleOk r = (decide ((r.ops.length : Int) ≤ 8) && decide ((countL r.ops 6 : Int) ≤ 2) && decide ((countL r.ops 7 : Int) ≤ 2)) := by
  have e1 : decide ((r.ops.length : Int) ≤ 8) = decide (r.ops.length ≤ 8) := by congr 1; simp; omega
  have e2 : decide ((countL r.ops 6 : Int) ≤ 2) = decide (countL r.ops 6 ≤ 2) := by congr 1; simp; omega
  have e3 : decide ((countL r.ops 7 : Int) ≤ 2) = decide (countL r.ops 7 ≤ 2) := by congr 1; simp; omega
  rw [e1, e2, e3]
  simp [ruleOk, opsOk, h]

set_option maxRecDepth 100000 in
set_option maxHeartbeats 1000000 in
theorem l1RuleOk_any (r : RuleV) (v : Value) (w : World) (ho : OpsAt w v r.ops) :
    Calls Tryd.prog 47 #[.agg #[.int .i64 r.kind, v]] w fun e w' => e = .returned (.bool (ruleOk r)) ∧ Below w.heap.size w w' := by
  obtain ⟨kind, ops⟩ := r
  simp only at ho
  obtain ⟨ad, cap, rfl, hlc, hm, hcells⟩ := ho
  unfold maxLen at hm
  have KO := hide (rule_op ⟨kind, ops⟩)
  have KE := hide (rule_end ⟨kind, ops⟩)
  generalize ruleOk ⟨kind, ops⟩ = ans at *
  have hb0 : Below w.heap.size w (w.alloc (.cells #[.int .i64 kind, .slice ad ops.length cap] 51)) := (Below.refl _ _).alloc (Nat.le_refl _) _
  have c1 : (w.alloc (.cells #[.int .i64 kind, .slice ad ops.length cap] 51)).cell? ⟨w.heap.size, 1, none⟩ = some (.slice ad ops.length cap) := by simp [go_sem]
  have HC := hide hcells
  clear hcells
  go_enter Tryd.func47, Tryd.ntmps47
  go_wp2_with fail
  generalize w.alloc (.cells #[.int .i64 kind, .slice ad ops.length cap] 51) = w1 at *
  go_loopw [3, 4, 5] (fun s o i wr => ∃ k : Nat, k ≤ ops.length ∧ i = .int .i64 k ∧ s = .int .i64 (countL (ops.take k) 6 : Nat) ∧ o = .int .i64 (countL (ops.take k) 7 : Nat) ∧ (ops.take k).all opOk = true ∧ Below w1.heap.size w1 wr) (fun _ _ i _ => ops.length - (intOf i).toNat)
  case atStart => exact ⟨0, Nat.zero_le _, rfl, rfl, rfl, rfl, Below.refl _ _⟩
  case round =>
    obtain ⟨k, hk, rfl, rfl, rfl, hprev, hb⟩ := hrel
    have HP := hide hprev
    have hc1 := cell_on hb c1
    clear hprev
    by_cases hlt : k < ops.length
    · obtain ⟨b, off, had, hc⟩ : ∃ b off, ad = some ⟨b, off, none⟩ ∧ OpCells w b (off + k * 5) ops[k] := by
        rcases unhide HC with h | ⟨b, off, h1, h2⟩
        · rw [h] at hlt; exact absurd hlt (Nat.not_lt_zero _)
        · exact ⟨b, off, h1, h2 k hlt⟩
      have hcr := hc.on (below_then hb0 hb)
      have hs6 := countL_snoc (ops.take k) ops[k] 6
      have hs7 := countL_snoc (ops.take k) ops[k] 7
      rw [← take_more ops k hlt] at hs6 hs7
      have hle6 := countL_le (ops.take k) 6
      have hle7 := countL_le (ops.take k) 7
      have hlk : (ops.take k).length ≤ k := List.length_take_le _ _
      have hmore := fun h => all_take_more opOk ops k hlt (unhide HP) h
      have hstop := fun h => all_false_at opOk ops k hlt h
      clear hc
      generalize ops[k] = o at hcr hs6 hs7 hmore hstop
      obtain ⟨x0, x1, x2, x3, x4⟩ := o
      obtain ⟨d0, d1, d2, d3, d4⟩ := hcr
      simp only at d0 d1 d2 d3 d4 hs6 hs7
      have H6 := hide hs6
      have H7 := hide hs7
      have HM := hide hmore
      have HT := hide hstop
      clear hs6 hs7 hmore hstop
      subst had
      go_wp2_with fail
      refine (l1OpOk_any ⟨x0, x1, x2, x3, x4⟩ _).mono ?_
      rintro e w3 ⟨rfl, hb3⟩
      have hb4 := below_then hb hb3
      have hc13 := cell_on hb3 hc1
      have d03 := cell_on hb3 d0
      clear d0 d1 d2 d3 d4 hc1
      cases hok : opOk ⟨x0, x1, x2, x3, x4⟩
      · have HF := hide ((unhide KO) ((unhide HT) hok))
        clear hok
        go_wp2_with fail
        go_ret
        exact ⟨ret_bool (unhide HF).symm, below_then hb0 hb4⟩
      · have HN := hide ((unhide HM) hok)
        clear hok
        rcases (show x0 = 6 ∨ x0 = 7 ∨ (¬ x0 = 6 ∧ ¬ x0 = 7) by omega) with rfl | rfl | ⟨n6, n7⟩
        · go_wp2_with fail
          go_roundw
          case rel => exact ⟨k + 1, by omega, by go_num, by rw [unhide H6, if_pos trivial]; go_num, by rw [unhide H7, if_neg (by decide)]; simp, unhide HN, hb4⟩
          case measure => simp [intOf]; omega
        · go_wp2_with fail
          go_roundw
          case rel => exact ⟨k + 1, by omega, by go_num, by rw [unhide H6, if_neg (by decide)]; simp, by rw [unhide H7, if_pos trivial]; go_num, unhide HN, hb4⟩
          case measure => simp [intOf]; omega
        · have q6 : (x0 == 6) = false := by simp [n6]
          have q7 : (x0 == 7) = false := by simp [n7]
          have N6 := hide n6
          have N7 := hide n7
          clear n6 n7
          go_wp2_with fail
          go_roundw
          case rel => exact ⟨k + 1, by omega, by go_num, by rw [unhide H6, if_neg (unhide N6)]; simp, by rw [unhide H7, if_neg (unhide N7)]; simp, unhide HN, hb4⟩
          case measure => simp [intOf]; omega
    · have hke : k = ops.length := by omega
      subst hke
      have hall : ops.all opOk = true := by have := unhide HP; rwa [List.take_length] at this
      have hfin := (unhide KE) hall
      simp only [List.take_length]
      have HFIN := hide hfin
      clear hfin hall
      cases t1 : decide ((ops.length : Int) ≤ 8)
      · go_wp2_with fail
        go_ret
        exact ⟨ret_bool (by rw [unhide HFIN, t1]; simp), below_then hb0 hb⟩
      · cases t2 : decide ((countL ops 6 : Int) ≤ 2)
        · go_wp2_with fail
          go_ret
          exact ⟨ret_bool (by rw [unhide HFIN, t1, t2]; simp), below_then hb0 hb⟩
        · go_wp2_with fail
          go_ret
          exact ⟨ret_bool (by rw [unhide HFIN, t1, t2]; simp), below_then hb0 hb⟩
end Go.Proofs.YtjbgiepaehefpaaDoor
