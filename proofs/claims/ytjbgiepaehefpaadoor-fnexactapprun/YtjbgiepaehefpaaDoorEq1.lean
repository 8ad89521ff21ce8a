/- Contracts of the exact laws' eq functions over programs: of two that read as the same they say true. -/
import Derived.Test.YtjbgiepaehefpaaDoorSp3
namespace Go.Proofs.YtjbgiepaehefpaaDoor
open Go.RowKit
set_option linter.unusedVariables false

theorem eqOp_any (o : OpV) (w : World) :
    Calls Tryd.prog 120 #[opAgg o, opAgg o] w fun e w' => e = .returned (.bool true) ∧ Below w.heap.size w w' := by
  obtain ⟨d, a, b, c, e⟩ := o
  have e1 : ∀ x : Int, (x != x) = false := by intro x; simp
  go_enter Tryd.func120, Tryd.ntmps120
  go_wp2
  go_ret
  exact ⟨rfl, ((Below.refl _ _).alloc (Nat.le_refl _) _).alloc (by simp) _⟩

set_option maxRecDepth 100000 in
set_option maxHeartbeats 1000000 in
theorem eqOpS_any (v1 v2 : Value) (xs : List OpV) (w : World) (h1 : OpsAt w v1 xs) (h2 : OpsAt w v2 xs) :
    Calls Tryd.prog 109 #[v1, v2] w fun e w' => e = .returned (.bool true) ∧ Below w.heap.size w w' := by
  obtain ⟨ad1, cap1, rfl, hl1, hm, hc1⟩ := h1
  obtain ⟨ad2, cap2, rfl, hl2, _, hc2⟩ := h2
  unfold maxLen at hm
  have hne0 : ((xs.length : Int) != (xs.length : Int)) = false := by simp
  have H1 := hide hc1
  have H2 := hide hc2
  clear hc1 hc2
  go_enter Tryd.func109, Tryd.ntmps109
  go_wp2_with fail
  go_loopw [5] (fun i wr => ∃ k : Nat, k ≤ xs.length ∧ i = .int .i64 k ∧ Below w.heap.size w wr) (fun i _ => xs.length - (intOf i).toNat)
  case atStart => exact ⟨0, Nat.zero_le _, rfl, Below.refl _ _⟩
  case round =>
    obtain ⟨k, hk, rfl, hb⟩ := hrel
    by_cases hlt : k < xs.length
    · obtain ⟨b1, off1, had1, hc1⟩ : ∃ b off, ad1 = some ⟨b, off, none⟩ ∧ OpCells w b (off + k * 5) xs[k] := by
        rcases unhide H1 with h | ⟨b, off, h1, h2⟩
        · rw [h] at hlt; exact absurd hlt (Nat.not_lt_zero _)
        · exact ⟨b, off, h1, h2 k hlt⟩
      obtain ⟨b2, off2, had2, hc2⟩ : ∃ b off, ad2 = some ⟨b, off, none⟩ ∧ OpCells w b (off + k * 5) xs[k] := by
        rcases unhide H2 with h | ⟨b, off, h1, h2⟩
        · rw [h] at hlt; exact absurd hlt (Nat.not_lt_zero _)
        · exact ⟨b, off, h1, h2 k hlt⟩
      have hc1 := hc1.on hb
      have hc2 := hc2.on hb
      generalize xs[k] = x at *
      have hkI : (k : Int) < (xs.length : Int) := by omega
      have hk0 : (0 : Int) ≤ (k : Int) := by omega
      subst had1 had2
      obtain ⟨x0, x1, x2, x3, x4⟩ := x
      have q10 : ∀ y : On wr, y.y.cell? ⟨b1, off1 + k * 5, none⟩ = some (.int .i64 x0) := fun y => cell_on y.h hc1.c0
      have q11 : ∀ y : On wr, y.y.cell? ⟨b1, off1 + k * 5 + 1, none⟩ = some (.int .i64 x1) := fun y => cell_on y.h hc1.c1
      have q12 : ∀ y : On wr, y.y.cell? ⟨b1, off1 + k * 5 + 2, none⟩ = some (.int .i64 x2) := fun y => cell_on y.h hc1.c2
      have q13 : ∀ y : On wr, y.y.cell? ⟨b1, off1 + k * 5 + 3, none⟩ = some (.int .i64 x3) := fun y => cell_on y.h hc1.c3
      have q14 : ∀ y : On wr, y.y.cell? ⟨b1, off1 + k * 5 + 4, none⟩ = some (.int .i64 x4) := fun y => cell_on y.h hc1.c4
      have q20 : ∀ y : On wr, y.y.cell? ⟨b2, off2 + k * 5, none⟩ = some (.int .i64 x0) := fun y => cell_on y.h hc2.c0
      have q21 : ∀ y : On wr, y.y.cell? ⟨b2, off2 + k * 5 + 1, none⟩ = some (.int .i64 x1) := fun y => cell_on y.h hc2.c1
      have q22 : ∀ y : On wr, y.y.cell? ⟨b2, off2 + k * 5 + 2, none⟩ = some (.int .i64 x2) := fun y => cell_on y.h hc2.c2
      have q23 : ∀ y : On wr, y.y.cell? ⟨b2, off2 + k * 5 + 3, none⟩ = some (.int .i64 x3) := fun y => cell_on y.h hc2.c3
      have q24 : ∀ y : On wr, y.y.cell? ⟨b2, off2 + k * 5 + 4, none⟩ = some (.int .i64 x4) := fun y => cell_on y.h hc2.c4
      clear hc1 hc2
      go_wp2_with fail
      have hne : Nonempty (On wr) := ⟨⟨wr, Below.refl _ _⟩⟩
      refine wp_region_on (by kernel_rfl) (by kernel_rfl) ?_
      repeat (first | go_big_quiet_step ((go_at_call 120; exact calls_on (eqOp_any ⟨x0, x1, x2, x3, x4⟩ _))) | quiet_step ((go_at_call 120; exact calls_on (eqOp_any ⟨x0, x1, x2, x3, x4⟩ _))))
      refine wpQuiet_nil ?_
      intro _ hw'
      obtain ⟨nq, hw''⟩ := hw'
      subst hw''
      go_wp2_with fail
      go_roundw
      case rel => exact ⟨k + 1, by omega, by go_num, below_then hb nq.h⟩
      case measure => simp [intOf]; omega
    · go_wp2_with fail
      go_ret
      exact ⟨rfl, hb⟩

theorem eqRule_any (kind : Int) (v1 v2 : Value) (ops : List OpV) (w : World) (h1 : OpsAt w v1 ops) (h2 : OpsAt w v2 ops) :
    Calls Tryd.prog 90 #[.agg #[.int .i64 kind, v1], .agg #[.int .i64 kind, v2]] w fun e w' => e = .returned (.bool true) ∧ Below w.heap.size w w' := by
  have e1 : ∀ x : Int, (x != x) = false := by intro x; simp
  obtain ⟨a1, c1, rfl⟩ : ∃ a c, v1 = .slice a ops.length c := by obtain ⟨x, y, h, _⟩ := h1; exact ⟨x, y, h⟩
  obtain ⟨a2, c2, rfl⟩ : ∃ a c, v2 = .slice a ops.length c := by obtain ⟨x, y, h, _⟩ := h2; exact ⟨x, y, h⟩
  have H1 := hide h1
  have H2 := hide h2
  clear h1 h2
  go_enter Tryd.func90, Tryd.ntmps90
  go_wp2_with fail
  have hb1 : Below w.heap.size w ((w.alloc (.cells #[.int .i64 kind, .slice a1 ops.length c1] 51)).alloc (.cells #[.int .i64 kind, .slice a2 ops.length c2] 51)) := ((Below.refl _ _).alloc (Nat.le_refl _) _).alloc (by simp) _
  refine (eqOpS_any _ _ ops _ ((unhide H1).on hb1) ((unhide H2).on hb1)).mono ?_
  rintro e w3 ⟨rfl, hb3⟩
  go_wp2_with fail
  go_ret
  exact ⟨rfl, below_then hb1 hb3⟩

set_option maxRecDepth 100000 in
set_option maxHeartbeats 1000000 in
theorem eqRuleS_any (v1 v2 : Value) (xs : List RuleV) (w : World) (h1 : RulesAt w v1 xs) (h2 : RulesAt w v2 xs) :
    Calls Tryd.prog 65 #[v1, v2] w fun e w' => e = .returned (.bool true) ∧ Below w.heap.size w w' := by
  obtain ⟨ad1, cap1, rfl, hl1, hm, hc1⟩ := h1
  obtain ⟨ad2, cap2, rfl, hl2, _, hc2⟩ := h2
  unfold maxLen at hm
  have hne0 : ((xs.length : Int) != (xs.length : Int)) = false := by simp
  have H1 := hide hc1
  have H2 := hide hc2
  clear hc1 hc2
  go_enter Tryd.func65, Tryd.ntmps65
  go_wp2_with fail
  go_loopw [5] (fun i wr => ∃ k : Nat, k ≤ xs.length ∧ i = .int .i64 k ∧ Below w.heap.size w wr) (fun i _ => xs.length - (intOf i).toNat)
  case atStart => exact ⟨0, Nat.zero_le _, rfl, Below.refl _ _⟩
  case round =>
    obtain ⟨k, hk, rfl, hb⟩ := hrel
    by_cases hlt : k < xs.length
    · obtain ⟨b1, off1, had1, hc1⟩ : ∃ b off, ad1 = some ⟨b, off, none⟩ ∧ RuleCells w b (off + k * 2) xs[k] := by
        rcases unhide H1 with h | ⟨b, off, h1, h2⟩
        · rw [h] at hlt; exact absurd hlt (Nat.not_lt_zero _)
        · exact ⟨b, off, h1, h2 k hlt⟩
      obtain ⟨b2, off2, had2, hc2⟩ : ∃ b off, ad2 = some ⟨b, off, none⟩ ∧ RuleCells w b (off + k * 2) xs[k] := by
        rcases unhide H2 with h | ⟨b, off, h1, h2⟩
        · rw [h] at hlt; exact absurd hlt (Nat.not_lt_zero _)
        · exact ⟨b, off, h1, h2 k hlt⟩
      have hc1 := hc1.on hb
      have hc2 := hc2.on hb
      generalize xs[k] = x at *
      have hkI : (k : Int) < (xs.length : Int) := by omega
      have hk0 : (0 : Int) ≤ (k : Int) := by omega
      subst had1 had2
      obtain ⟨kind, ops⟩ := x
      obtain ⟨r01, ov1, r11, hop1⟩ := hc1
      obtain ⟨r02, ov2, r12, hop2⟩ := hc2
      simp only at r01 r02 hop1 hop2
      obtain ⟨oa1, oc1, rfl⟩ : ∃ a c, ov1 = .slice a ops.length c := by obtain ⟨x, y, h, _⟩ := hop1; exact ⟨x, y, h⟩
      obtain ⟨oa2, oc2, rfl⟩ : ∃ a c, ov2 = .slice a ops.length c := by obtain ⟨x, y, h, _⟩ := hop2; exact ⟨x, y, h⟩
      have q10 : ∀ y : On wr, y.y.cell? ⟨b1, off1 + k * 2, none⟩ = some (.int .i64 kind) := fun y => cell_on y.h r01
      have q11 : ∀ y : On wr, y.y.cell? ⟨b1, off1 + k * 2 + 1, none⟩ = some (.slice oa1 ops.length oc1) := fun y => cell_on y.h r11
      have HO1 := hide hop1
      have q20 : ∀ y : On wr, y.y.cell? ⟨b2, off2 + k * 2, none⟩ = some (.int .i64 kind) := fun y => cell_on y.h r02
      have q21 : ∀ y : On wr, y.y.cell? ⟨b2, off2 + k * 2 + 1, none⟩ = some (.slice oa2 ops.length oc2) := fun y => cell_on y.h r12
      have HO2 := hide hop2
      clear hop1 hop2 r01 r02 r11 r12
      go_wp2_with fail
      have hne : Nonempty (On wr) := ⟨⟨wr, Below.refl _ _⟩⟩
      refine wp_region_on (by kernel_rfl) (by kernel_rfl) ?_
      repeat (first | go_big_quiet_step ((go_at_call 90; exact calls_on (eqRule_any kind _ _ ops _ ((unhide HO1).on (On.h _)) ((unhide HO2).on (On.h _))))) | quiet_step ((go_at_call 90; exact calls_on (eqRule_any kind _ _ ops _ ((unhide HO1).on (On.h _)) ((unhide HO2).on (On.h _))))))
      refine wpQuiet_nil ?_
      intro _ hw'
      obtain ⟨nq, hw''⟩ := hw'
      subst hw''
      go_wp2_with fail
      go_roundw
      case rel => exact ⟨k + 1, by omega, by go_num, below_then hb nq.h⟩
      case measure => simp [intOf]; omega
    · go_wp2_with fail
      go_ret
      exact ⟨rfl, hb⟩

theorem eqApp_any (v1 v2 : Value) (rs : List RuleV) (w : World) (h1 : RulesAt w v1 rs) (h2 : RulesAt w v2 rs) :
    Calls Tryd.prog 36 #[.agg #[v1], .agg #[v2]] w fun e w' => e = .returned (.bool true) ∧ Below w.heap.size w w' := by
  obtain ⟨a1, c1, rfl⟩ : ∃ a c, v1 = .slice a rs.length c := by obtain ⟨x, y, h, _⟩ := h1; exact ⟨x, y, h⟩
  obtain ⟨a2, c2, rfl⟩ : ∃ a c, v2 = .slice a rs.length c := by obtain ⟨x, y, h, _⟩ := h2; exact ⟨x, y, h⟩
  have H1 := hide h1
  have H2 := hide h2
  clear h1 h2
  go_enter Tryd.func36, Tryd.ntmps36
  go_wp2_with fail
  have hb1 : Below w.heap.size w ((w.alloc (.cells #[.slice a1 rs.length c1] 34)).alloc (.cells #[.slice a2 rs.length c2] 34)) := ((Below.refl _ _).alloc (Nat.le_refl _) _).alloc (by simp) _
  refine (eqRuleS_any _ _ rs _ ((unhide H1).on hb1) ((unhide H2).on hb1)).mono ?_
  rintro e w3 ⟨rfl, hb3⟩
  go_wp2_with fail
  go_ret
  exact ⟨rfl, below_then hb1 hb3⟩

set_option maxRecDepth 100000 in
set_option maxHeartbeats 1000000 in
theorem eqAppS_any (v1 v2 : Value) (xs : List (List RuleV)) (w : World) (h1 : AppsAt w v1 xs) (h2 : AppsAt w v2 xs) :
    Calls Tryd.prog 28 #[v1, v2] w fun e w' => e = .returned (.bool true) ∧ Below w.heap.size w w' := by
  obtain ⟨ad1, cap1, rfl, hl1, hm, hc1⟩ := h1
  obtain ⟨ad2, cap2, rfl, hl2, _, hc2⟩ := h2
  unfold maxLen at hm
  have hne0 : ((xs.length : Int) != (xs.length : Int)) = false := by simp
  have H1 := hide hc1
  have H2 := hide hc2
  clear hc1 hc2
  go_enter Tryd.func28, Tryd.ntmps28
  go_wp2_with fail
  go_loopw [5] (fun i wr => ∃ k : Nat, k ≤ xs.length ∧ i = .int .i64 k ∧ Below w.heap.size w wr) (fun i _ => xs.length - (intOf i).toNat)
  case atStart => exact ⟨0, Nat.zero_le _, rfl, Below.refl _ _⟩
  case round =>
    obtain ⟨k, hk, rfl, hb⟩ := hrel
    by_cases hlt : k < xs.length
    · obtain ⟨b1, off1, had1, hc1⟩ : ∃ b off, ad1 = some ⟨b, off, none⟩ ∧ AppCell w b (off + k) xs[k] := by
        rcases unhide H1 with h | ⟨b, off, h1, h2⟩
        · rw [h] at hlt; exact absurd hlt (Nat.not_lt_zero _)
        · exact ⟨b, off, h1, h2 k hlt⟩
      obtain ⟨b2, off2, had2, hc2⟩ : ∃ b off, ad2 = some ⟨b, off, none⟩ ∧ AppCell w b (off + k) xs[k] := by
        rcases unhide H2 with h | ⟨b, off, h1, h2⟩
        · rw [h] at hlt; exact absurd hlt (Nat.not_lt_zero _)
        · exact ⟨b, off, h1, h2 k hlt⟩
      have hc1 := hc1.on hb
      have hc2 := hc2.on hb
      generalize xs[k] = x at *
      have hkI : (k : Int) < (xs.length : Int) := by omega
      have hk0 : (0 : Int) ≤ (k : Int) := by omega
      subst had1 had2
      obtain ⟨rv1, r01, hr1⟩ := hc1
      obtain ⟨rv2, r02, hr2⟩ := hc2
      obtain ⟨ra1, rc1, rfl⟩ : ∃ a c, rv1 = .slice a x.length c := by obtain ⟨y, z, h, _⟩ := hr1; exact ⟨y, z, h⟩
      obtain ⟨ra2, rc2, rfl⟩ : ∃ a c, rv2 = .slice a x.length c := by obtain ⟨y, z, h, _⟩ := hr2; exact ⟨y, z, h⟩
      have q10 : ∀ y : On wr, y.y.cell? ⟨b1, off1 + k, none⟩ = some (.slice ra1 x.length rc1) := fun y => cell_on y.h r01
      have HO1 := hide hr1
      have q20 : ∀ y : On wr, y.y.cell? ⟨b2, off2 + k, none⟩ = some (.slice ra2 x.length rc2) := fun y => cell_on y.h r02
      have HO2 := hide hr2
      clear hr1 hr2 r01 r02
      go_wp2_with fail
      have hne : Nonempty (On wr) := ⟨⟨wr, Below.refl _ _⟩⟩
      refine wp_region_on (by kernel_rfl) (by kernel_rfl) ?_
      repeat (first | go_big_quiet_step ((go_at_call 36; exact calls_on (eqApp_any _ _ x _ ((unhide HO1).on (On.h _)) ((unhide HO2).on (On.h _))))) | quiet_step ((go_at_call 36; exact calls_on (eqApp_any _ _ x _ ((unhide HO1).on (On.h _)) ((unhide HO2).on (On.h _))))))
      refine wpQuiet_nil ?_
      intro _ hw'
      obtain ⟨nq, hw''⟩ := hw'
      subst hw''
      go_wp2_with fail
      go_roundw
      case rel => exact ⟨k + 1, by omega, by go_num, below_then hb nq.h⟩
      case measure => simp [intOf]; omega
    · go_wp2_with fail
      go_ret
      exact ⟨rfl, hb⟩

end Go.Proofs.YtjbgiepaehefpaaDoor
