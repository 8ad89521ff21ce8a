/- Contract of impl.needRule: it returns where the rule is ok, and panics where it is not. -/
import Derived.Test.YtjbgiepaehefpaaDoorOk4
namespace Go.Proofs.YtjbgiepaehefpaaDoor
open Go.RowKit
set_option linter.unusedVariables false

theorem krule_kind (r : RuleV) (h : inR 0 3 r.kind = false) : kruleOk r = false := by simp [kruleOk, h]
theorem krule_long (r : RuleV) (h : ¬ r.ops.length ≤ 8) : kruleOk r = false := by simp [kruleOk, ruleOk, h]
theorem krule_op (r : RuleV) (h : r.ops.all opOk = false) : kruleOk r = false := by simp [kruleOk, ruleOk, opsOk, h]
theorem krule_six (r : RuleV) (h : ¬ countL r.ops 6 ≤ 2) : kruleOk r = false := by simp [kruleOk, ruleOk, h]
theorem krule_seven (r : RuleV) (h : ¬ countL r.ops 7 ≤ 2) : kruleOk r = false := by simp [kruleOk, ruleOk, h]
theorem krule_all (r : RuleV) (h1 : inR 0 3 r.kind = true) (h2 : r.ops.length ≤ 8) (h3 : r.ops.all opOk = true) (h4 : countL r.ops 6 ≤ 2) (h5 : countL r.ops 7 ≤ 2) : kruleOk r = true := by
  simp [kruleOk, ruleOk, opsOk, h1, h2, h3, h4, h5]

set_option maxRecDepth 100000 in
set_option maxHeartbeats 1000000 in
theorem needRule_any (r : RuleV) (v : Value) (w : World) (hs : Shapes w 0) (ho : OpsAt w v r.ops) :
    Calls Tryd.prog 101 #[.agg #[.int .i64 r.kind, v]] w fun e w' => Says (kruleOk r) e ∧ Below w.heap.size w w' := by
  obtain ⟨kind, ops⟩ := r
  simp only at ho
  have ho1 := ho
  obtain ⟨ad, cap, rfl, hlc, hm, hcells⟩ := ho
  unfold maxLen at hm
  have KK := hide (krule_kind ⟨kind, ops⟩)
  have KL := hide (krule_long ⟨kind, ops⟩)
  have KO := hide (krule_op ⟨kind, ops⟩)
  have K6 := hide (krule_six ⟨kind, ops⟩)
  have K7 := hide (krule_seven ⟨kind, ops⟩)
  have KA := hide (krule_all ⟨kind, ops⟩)
  generalize kruleOk ⟨kind, ops⟩ = ans at *
  have hb0 : Below w.heap.size w (w.alloc (.cells #[.int .i64 kind, .slice ad ops.length cap] 51)) := (Below.refl _ _).alloc (Nat.le_refl _) _
  have hz0 : w.heap.size < (w.alloc (.cells #[.int .i64 kind, .slice ad ops.length cap] 51)).heap.size := by simp
  have HC := hide hcells
  have HS := hide (hs.on hb0)
  have HO := hide (ho1.on hb0)
  clear hcells hs ho1
  go_enter Tryd.func101, Tryd.ntmps101
  go_wp2_with fail
  refine (isKind_any _ _).mono ?_; rintro e w' ⟨rfl, rfl⟩
  cases hk : inR 0 3 kind
  · go_wp2_with fail
    refine (need_no _ _).mono ?_; rintro e w' ⟨⟨u, pv, rfl⟩, rfl⟩
    go_wp2_with fail
    exact ⟨rfl, Or.inr ⟨(unhide KK) hk, u, pv, rfl⟩, hb0⟩
  · have HK := hide hk
    clear hk
    go_wp2_with fail
    refine (need_yes _ _).mono ?_; rintro e w' ⟨rfl, rfl⟩
    by_cases hl : ops.length ≤ 8
    · have hl' : decide ((ops.length : Int) ≤ 8) = true := by simp; omega
      go_wp2_with fail
      refine (need_yes _ _).mono ?_; rintro e w' ⟨rfl, rfl⟩
      clear hl'
      go_wp2_with fail
      have c1 : (w.alloc (.cells #[.int .i64 kind, .slice ad ops.length cap] 51)).cell? ⟨w.heap.size, 1, none⟩ = some (.slice ad ops.length cap) := by simp [go_sem]
      generalize w.alloc (.cells #[.int .i64 kind, .slice ad ops.length cap] 51) = w1 at *
      go_loopw [16] (fun i wr => ∃ k : Nat, k ≤ ops.length ∧ i = .int .i64 k ∧ (ops.take k).all opOk = true ∧ Below w1.heap.size w1 wr) (fun i _ => ops.length - (intOf i).toNat)
      case atStart => exact ⟨0, Nat.zero_le _, rfl, rfl, Below.refl _ _⟩
      case round =>
        obtain ⟨k, hk, rfl, hprev, hb⟩ := hrel
        have HP := hide hprev
        clear hprev
        by_cases hlt : k < ops.length
        · obtain ⟨b, off, hc⟩ : ∃ b off, ad = some ⟨b, off, none⟩ ∧ OpCells w b (off + k * 5) ops[k] := by
            rcases unhide HC with h | ⟨b, off, h1, h2⟩
            · rw [h] at hlt; exact absurd hlt (Nat.not_lt_zero _)
            · exact ⟨b, off, h1, h2 k hlt⟩
          obtain ⟨had, hc⟩ := hc
          have hcr := hc.on (below_then hb0 hb)
          have hsr := (unhide HS).on hb
          have hmore := fun h => all_take_more opOk ops k hlt (unhide HP) h
          have hstop := fun h => all_false_at opOk ops k hlt h
          clear hc
          generalize ops[k] = o at hcr hmore hstop
          obtain ⟨x0, x1, x2, x3, x4⟩ := o
          obtain ⟨c0, c1', c2, c3, c4⟩ := hcr
          simp only at c0 c1' c2 c3 c4
          have HM := hide hmore
          have HT := hide hstop
          have HSR := hide hsr
          clear hmore hstop hsr
          subst had
          go_wp2_with fail
          refine (needOp_any ⟨x0, x1, x2, x3, x4⟩ _ ((unhide HSR).on ((Below.refl _ _).alloc (Nat.le_refl _) _))).mono ?_
          rintro e w3 ⟨⟨hok, rfl⟩ | ⟨hok, u, pv, rfl⟩, hb3⟩
          · have hb4 : Below w1.heap.size w1 w3 := below_then hb (below_then ((Below.refl _ _).alloc (Nat.le_refl _) _) hb3)
            have HK2 := hide ((unhide HM) hok)
            clear hok
            go_wp2_with fail
            go_roundw
            case rel => exact ⟨k + 1, by omega, by go_num, unhide HK2, hb4⟩
            case measure => simp [intOf]; omega
          · have hb4 : Below w1.heap.size w1 w3 := below_then hb (below_then ((Below.refl _ _).alloc (Nat.le_refl _) _) hb3)
            have HK2 := hide ((unhide KO) ((unhide HT) hok))
            clear hok
            go_wp2_with fail
            exact ⟨rfl, Or.inr ⟨unhide HK2, u, pv, rfl⟩, below_then hb0 hb4⟩
        · have hke : k = ops.length := by omega
          subst hke
          have hall : ops.all opOk = true := by have := unhide HP; rwa [List.take_length] at this
          have HA := hide hall
          have hc1 := cell_on hb c1
          have hor := (unhide HO).on hb
          have HOR := hide hor
          clear hall hor c1
          go_wp2_with fail
          refine (countOps_any _ _ _ _ (unhide HOR)).mono ?_
          rintro e w3 ⟨rfl, hb3⟩
          have hc13 := cell_on hb3 hc1
          have HOR3 := hide ((unhide HOR).on hb3)
          have hb4 := below_then hb hb3
          clear hc1 HOR
          by_cases h6 : countL ops 6 ≤ 2
          · have h6' : decide ((countL ops 6 : Int) ≤ 2) = true := by simp; omega
            have H6 := hide h6
            clear h6
            go_wp2_with fail
            refine (need_yes _ _).mono ?_; rintro e w' ⟨rfl, rfl⟩
            clear h6'
            go_wp2_with fail
            refine (countOps_any _ _ _ _ (unhide HOR3)).mono ?_
            rintro e w5 ⟨rfl, hb5⟩
            have hb6 := below_then hb4 hb5
            by_cases h7 : countL ops 7 ≤ 2
            · have h7' : decide ((countL ops 7 : Int) ≤ 2) = true := by simp; omega
              have H7 := hide h7
              clear h7
              go_wp2_with fail
              refine (need_yes _ _).mono ?_; rintro e w' ⟨rfl, rfl⟩
              go_wp2_with fail
              go_end0
              exact ⟨Or.inl ⟨(unhide KA) (unhide HK) (by omega) (unhide HA) (unhide H6) (unhide H7), rfl⟩, below_then hb0 hb6⟩
            · have h7' : decide ((countL ops 7 : Int) ≤ 2) = false := by simp; omega
              have H7 := hide h7
              clear h7
              go_wp2_with fail
              refine (need_no _ _).mono ?_; rintro e w' ⟨⟨u, pv, rfl⟩, rfl⟩
              go_wp2_with fail
              exact ⟨rfl, Or.inr ⟨(unhide K7) (unhide H7), u, pv, rfl⟩, below_then hb0 hb6⟩
          · have h6' : decide ((countL ops 6 : Int) ≤ 2) = false := by simp; omega
            have H6 := hide h6
            clear h6
            go_wp2_with fail
            refine (need_no _ _).mono ?_; rintro e w' ⟨⟨u, pv, rfl⟩, rfl⟩
            go_wp2_with fail
            exact ⟨rfl, Or.inr ⟨(unhide K6) (unhide H6), u, pv, rfl⟩, below_then hb0 hb4⟩
    · have hl' : decide ((ops.length : Int) ≤ 8) = false := by simp; omega
      have HL := hide hl
      clear hl
      go_wp2_with fail
      refine (need_no _ _).mono ?_; rintro e w' ⟨⟨u, pv, rfl⟩, rfl⟩
      go_wp2_with fail
      exact ⟨rfl, Or.inr ⟨(unhide KL) (unhide HL), u, pv, rfl⟩, hb0⟩
end Go.Proofs.YtjbgiepaehefpaaDoor
