/- Contracts of the exact laws' sz functions over programs: a number that is left tells how great all is. -/
import Derived.Test.YtjbgiepaehefpaaDoorEq1
namespace Go.Proofs.YtjbgiepaehefpaaDoor
open Go.RowKit
set_option linter.unusedVariables false

def rulesSz (rs : List RuleV) : Nat := rs.length + (rs.map fun r => r.ops.length).sum
def appsSz (ps : List (List RuleV)) : Nat := ps.length + (ps.map rulesSz).sum

theorem sum_take_more {α : Type} (f : α → Nat) (l : List α) (k : Nat) (h : k < l.length) : ((l.take (k + 1)).map f).sum = ((l.take k).map f).sum + f l[k] := by
  rw [take_more l k h, List.map_append, List.sum_append]
  simp only [List.map_cons, List.map_nil, List.sum_cons, List.sum_nil, Nat.add_zero]

/-- What a sz function tells: a number below 0, or what is left. -/
def Left (left : Int) (n : Nat) (r : Int) : Prop := r = -1 ∧ left < n ∨ 0 ≤ r ∧ r = left - n

theorem szOpS_any (v : Value) (ops : List OpV) (left : Int) (w : World) (h : OpsAt w v ops) (h0 : 0 ≤ left) (h1 : left ≤ 1048576) :
    Calls Tryd.prog 107 #[v, .int .i64 left] w fun e w' => ∃ r, e = .returned (.int .i64 r) ∧ Left left ops.length r ∧ Below w.heap.size w w' := by
  obtain ⟨ad, cap, rfl, hlc, hm, _⟩ := h
  unfold maxLen at hm
  rcases Int.lt_or_le left (ops.length : Int) with h | h
  · go_enter Tryd.func107, Tryd.ntmps107
    go_wp2
    go_ret
    exact ⟨-1, rfl, Or.inl ⟨rfl, h⟩, Below.refl _ _⟩
  · go_enter Tryd.func107, Tryd.ntmps107
    go_wp2
    go_ret
    exact ⟨_, rfl, Or.inr ⟨by omega, rfl⟩, Below.refl _ _⟩

theorem szRule_any (kind : Int) (v : Value) (ops : List OpV) (left : Int) (w : World) (h : OpsAt w v ops) (h0 : 0 ≤ left) (h1 : left ≤ 1048576) :
    Calls Tryd.prog 88 #[.agg #[.int .i64 kind, v], .int .i64 left] w fun e w' => ∃ r, e = .returned (.int .i64 r) ∧ Left left (ops.length) r ∧ Below w.heap.size w w' := by
  obtain ⟨a1, c1, rfl⟩ : ∃ a c, v = .slice a ops.length c := by obtain ⟨x, y, h, _⟩ := h; exact ⟨x, y, h⟩
  have H1 := hide h
  clear h
  go_enter Tryd.func88, Tryd.ntmps88
  go_wp2_with fail
  have hb1 : Below w.heap.size w (w.alloc (.cells #[.int .i64 kind, .slice a1 ops.length c1] 123)) := (Below.refl _ _).alloc (Nat.le_refl _) _
  refine (szOpS_any _ ops left _ ((unhide H1).on hb1) h0 h1).mono ?_
  rintro e w3 ⟨r, rfl, ⟨hr, hl⟩ | ⟨hr, hl⟩, hb3⟩
  · subst hr
    go_wp2_with fail
    go_ret
    exact ⟨-1, rfl, Or.inl ⟨rfl, hl⟩, below_then hb1 hb3⟩
  · have HL := hide hl
    clear hl
    go_wp2_with fail
    go_ret
    exact ⟨r, rfl, Or.inr ⟨hr, unhide HL⟩, below_then hb1 hb3⟩

set_option maxRecDepth 100000 in
set_option maxHeartbeats 1000000 in
theorem szRuleS_any (v : Value) (xs : List RuleV) (left : Int) (w : World) (h : RulesAt w v xs) (h0 : 0 ≤ left) (h1 : left ≤ 1048576) :
    Calls Tryd.prog 61 #[v, .int .i64 left] w fun e w' => ∃ r, e = .returned (.int .i64 r) ∧ Left left (rulesSz xs) r ∧ Below w.heap.size w w' := by
  obtain ⟨ad, cap, rfl, hlc, hm, hcells⟩ := h
  unfold maxLen at hm
  have HT : Hid (rulesSz xs = xs.length + (xs.map (fun r : RuleV => r.ops.length)).sum) := hide rfl
  have hle : ∀ k, (((xs.take k).map (fun r : RuleV => r.ops.length)).sum : Nat) ≤ (xs.map (fun r : RuleV => r.ops.length)).sum := by
    intro k
    have := List.take_append_drop k (xs.map (fun r : RuleV => r.ops.length))
    rw [← this, List.sum_append, List.map_take]
    omega
  have HLE := hide hle
  have HC := hide hcells
  clear hcells hle
  generalize rulesSz xs = tot at *
  rcases Int.lt_or_le left (xs.length : Int) with h | h
  · go_enter Tryd.func61, Tryd.ntmps61
    go_wp2
    go_ret
    exact ⟨-1, rfl, Or.inl ⟨rfl, by have := unhide HT; omega⟩, Below.refl _ _⟩
  · have hnl : ¬ left - (xs.length : Int) < 0 := by omega
    go_enter Tryd.func61, Tryd.ntmps61
    go_wp2_with fail
    go_loopw [1, 5] (fun l i wr => ∃ (k : Nat) (lf : Int), k ≤ xs.length ∧ i = .int .i64 k ∧ l = .int .i64 lf ∧ 0 ≤ lf ∧ lf ≤ 1048576 ∧ Hid (lf = left - xs.length - (((xs.take k).map (fun r : RuleV => r.ops.length)).sum : Nat)) ∧ Below w.heap.size w wr) (fun _ i _ => xs.length - (intOf i).toNat)
    case atStart => exact ⟨0, left - xs.length, Nat.zero_le _, rfl, rfl, by omega, by omega, hide (by simp), Below.refl _ _⟩
    case round =>
      obtain ⟨k, lf, hk, rfl, rfl, hf0, hf1, HF, hb⟩ := hrel
      by_cases hlt : k < xs.length
      · obtain ⟨b, off, had, hc⟩ : ∃ b off, ad = some ⟨b, off, none⟩ ∧ RuleCells w b (off + k * 2) xs[k] := by
          rcases unhide HC with h | ⟨b, off, h1, h2⟩
          · rw [h] at hlt; exact absurd hlt (Nat.not_lt_zero _)
          · exact ⟨b, off, h1, h2 k hlt⟩
        have hc := hc.on hb
        have HN := hide (sum_take_more (fun r : RuleV => r.ops.length) xs k hlt)
        generalize xs[k] = x at *
        subst had
        obtain ⟨kind, ops⟩ := x
        obtain ⟨r0, ov, r1, hop⟩ := hc
        simp only at r0 hop HN
        obtain ⟨oa, oc, rfl⟩ : ∃ a c, ov = .slice a ops.length c := by obtain ⟨x, y, h, _⟩ := hop; exact ⟨x, y, h⟩
        have HO := hide hop
        clear hop
        go_wp2_with fail
        refine (szRule_any kind _ ops lf _ (unhide HO) hf0 hf1).mono ?_
        rintro e w3 ⟨r, rfl, ⟨hr, hl⟩ | ⟨hr, hl⟩, hb3⟩
        · subst hr
          go_wp2_with fail
          go_ret
          refine ⟨-1, rfl, Or.inl ⟨rfl, ?_⟩, below_then hb hb3⟩
          have e1 := unhide HT
          have e2 := unhide HF
          have e3 := unhide HN
          have e4 := (unhide HLE) (k + 1)
          omega
        · have HL := hide hl
          have hr1 : r ≤ 1048576 := by omega
          clear hl
          go_wp2_with fail
          go_roundw
          case rel => exact ⟨k + 1, r, by omega, by go_num, rfl, hr, hr1, hide (by have e2 := unhide HF; have e3 := unhide HN; have e4 := unhide HL; rw [e3]; omega), below_then hb hb3⟩
          case measure => simp [intOf]; omega
      · have hke : k = xs.length := by omega
        subst hke
        go_wp2_with fail
        go_ret
        exact ⟨lf, rfl, Or.inr ⟨hf0, by have e1 := unhide HT; have e2 := unhide HF; rw [List.take_length] at e2; omega⟩, hb⟩

theorem szApp_any  (v : Value) (rs : List RuleV) (left : Int) (w : World) (h : RulesAt w v rs) (h0 : 0 ≤ left) (h1 : left ≤ 1048576) :
    Calls Tryd.prog 29 #[.agg #[v], .int .i64 left] w fun e w' => ∃ r, e = .returned (.int .i64 r) ∧ Left left (rulesSz rs) r ∧ Below w.heap.size w w' := by
  obtain ⟨a1, c1, rfl⟩ : ∃ a c, v = .slice a rs.length c := by obtain ⟨x, y, h, _⟩ := h; exact ⟨x, y, h⟩
  have H1 := hide h
  clear h
  go_enter Tryd.func29, Tryd.ntmps29
  go_wp2_with fail
  have hb1 : Below w.heap.size w (w.alloc (.cells #[.slice a1 rs.length c1] 58)) := (Below.refl _ _).alloc (Nat.le_refl _) _
  refine (szRuleS_any _ rs left _ ((unhide H1).on hb1) h0 h1).mono ?_
  rintro e w3 ⟨r, rfl, ⟨hr, hl⟩ | ⟨hr, hl⟩, hb3⟩
  · subst hr
    go_wp2_with fail
    go_ret
    exact ⟨-1, rfl, Or.inl ⟨rfl, hl⟩, below_then hb1 hb3⟩
  · have HL := hide hl
    clear hl
    go_wp2_with fail
    go_ret
    exact ⟨r, rfl, Or.inr ⟨hr, unhide HL⟩, below_then hb1 hb3⟩

set_option maxRecDepth 100000 in
set_option maxHeartbeats 1000000 in
theorem szAppS_any (v : Value) (xs : List (List RuleV)) (left : Int) (w : World) (h : AppsAt w v xs) (h0 : 0 ≤ left) (h1 : left ≤ 1048576) :
    Calls Tryd.prog 26 #[v, .int .i64 left] w fun e w' => ∃ r, e = .returned (.int .i64 r) ∧ Left left (appsSz xs) r ∧ Below w.heap.size w w' := by
  obtain ⟨ad, cap, rfl, hlc, hm, hcells⟩ := h
  unfold maxLen at hm
  have HT : Hid (appsSz xs = xs.length + (xs.map rulesSz).sum) := hide rfl
  have hle : ∀ k, (((xs.take k).map rulesSz).sum : Nat) ≤ (xs.map rulesSz).sum := by
    intro k
    have := List.take_append_drop k (xs.map rulesSz)
    rw [← this, List.sum_append, List.map_take]
    omega
  have HLE := hide hle
  have HC := hide hcells
  clear hcells hle
  generalize appsSz xs = tot at *
  rcases Int.lt_or_le left (xs.length : Int) with h | h
  · go_enter Tryd.func26, Tryd.ntmps26
    go_wp2
    go_ret
    exact ⟨-1, rfl, Or.inl ⟨rfl, by have := unhide HT; omega⟩, Below.refl _ _⟩
  · have hnl : ¬ left - (xs.length : Int) < 0 := by omega
    go_enter Tryd.func26, Tryd.ntmps26
    go_wp2_with fail
    go_loopw [1, 5] (fun l i wr => ∃ (k : Nat) (lf : Int), k ≤ xs.length ∧ i = .int .i64 k ∧ l = .int .i64 lf ∧ 0 ≤ lf ∧ lf ≤ 1048576 ∧ Hid (lf = left - xs.length - (((xs.take k).map rulesSz).sum : Nat)) ∧ Below w.heap.size w wr) (fun _ i _ => xs.length - (intOf i).toNat)
    case atStart => exact ⟨0, left - xs.length, Nat.zero_le _, rfl, rfl, by omega, by omega, hide (by simp), Below.refl _ _⟩
    case round =>
      obtain ⟨k, lf, hk, rfl, rfl, hf0, hf1, HF, hb⟩ := hrel
      by_cases hlt : k < xs.length
      · obtain ⟨b, off, had, hc⟩ : ∃ b off, ad = some ⟨b, off, none⟩ ∧ AppCell w b (off + k) xs[k] := by
          rcases unhide HC with h | ⟨b, off, h1, h2⟩
          · rw [h] at hlt; exact absurd hlt (Nat.not_lt_zero _)
          · exact ⟨b, off, h1, h2 k hlt⟩
        have hc := hc.on hb
        have HN := hide (sum_take_more rulesSz xs k hlt)
        generalize xs[k] = x at *
        subst had
        obtain ⟨rv, r0, hr⟩ := hc
        obtain ⟨ra, rc, rfl⟩ : ∃ a c, rv = .slice a x.length c := by obtain ⟨y, z, h, _⟩ := hr; exact ⟨y, z, h⟩
        have HO := hide hr
        clear hr
        go_wp2_with fail
        refine (szApp_any _ x lf _ (unhide HO) hf0 hf1).mono ?_
        rintro e w3 ⟨r, rfl, ⟨hr, hl⟩ | ⟨hr, hl⟩, hb3⟩
        · subst hr
          go_wp2_with fail
          go_ret
          refine ⟨-1, rfl, Or.inl ⟨rfl, ?_⟩, below_then hb hb3⟩
          have e1 := unhide HT
          have e2 := unhide HF
          have e3 := unhide HN
          have e4 := (unhide HLE) (k + 1)
          omega
        · have HL := hide hl
          have hr1 : r ≤ 1048576 := by omega
          clear hl
          go_wp2_with fail
          go_roundw
          case rel => exact ⟨k + 1, r, by omega, by go_num, rfl, hr, hr1, hide (by have e2 := unhide HF; have e3 := unhide HN; have e4 := unhide HL; rw [e3]; omega), below_then hb hb3⟩
          case measure => simp [intOf]; omega
      · have hke : k = xs.length := by omega
        subst hke
        go_wp2_with fail
        go_ret
        exact ⟨lf, rfl, Or.inr ⟨hf0, by have e1 := unhide HT; have e2 := unhide HF; rw [List.take_length] at e2; omega⟩, hb⟩

end Go.Proofs.YtjbgiepaehefpaaDoor
