/- Contracts of the exact laws' to functions over programs: rules, programs, all programs. -/
import Derived.Test.YtjbgiepaehefpaaDoorTo1
namespace Go.Proofs.YtjbgiepaehefpaaDoor
open Go.RowKit
set_option linter.unusedVariables false

set_option maxRecDepth 100000 in
set_option maxHeartbeats 1000000 in
theorem toRule_any (kind : Int) (v : Value) (ops : List OpV) (w : World) (h : OpsAt w v ops) (hlen : ops.length ≤ 1048576) :
    Calls Tryd.prog 89 #[.agg #[.int .i64 kind, v]] w fun e w' => ∃ v', e = .returned (.agg #[.int .i64 kind, v']) ∧ OpsFr w.heap.size w' v' ops ∧ Below w.heap.size w w' := by
  obtain ⟨a1, c1, rfl⟩ : ∃ a c, v = .slice a ops.length c := by obtain ⟨x, y, h, _⟩ := h; exact ⟨x, y, h⟩
  have H1 := hide h
  clear h
  go_enter Tryd.func89, Tryd.ntmps89
  go_wp2_with fail
  obtain ⟨W, hW⟩ : ∃ W, W = (((w.alloc (.cells #[.int .i64 kind, .slice a1 ops.length c1] 123)).alloc (.cells #[.int .i64 0, .slice none 0 0] 51)).alloc (.cells #[.int .i64 kind, .slice none 0 0] 51)) := ⟨_, rfl⟩
  have hbW : Below w.heap.size w W := by rw [hW]; exact (((Below.refl _ _).alloc (Nat.le_refl _) _).alloc (by simp) _).alloc (by simp; omega) _
  have hzW : W.heap.size = w.heap.size + 3 := by rw [hW]; simp
  have d0 : W.cell? ⟨w.heap.size + 1, 0, none⟩ = some (.int .i64 0) := by rw [hW]; simp [go_sem]
  have d1 : W.cell? ⟨w.heap.size + 1, 1, none⟩ = some (.slice none 0 0) := by rw [hW]; simp [go_sem]
  have d2 : W.cell? ⟨w.heap.size + 1 + 1, 0, none⟩ = some (.int .i64 kind) := by rw [hW]; simp [go_sem]
  have d3 : W.cell? ⟨w.heap.size + 1 + 1, 1, none⟩ = some (.slice none 0 0) := by rw [hW]; simp [go_sem]
  have z0 : ∀ i, W.frozen? ⟨w.heap.size + 1, i, none⟩ = false := by intro i; rw [hW]; simp [go_sem]
  have z1 : ∀ i, W.frozen? ⟨w.heap.size + 1 + 1, i, none⟩ = false := by intro i; rw [hW]; simp [go_sem]
  rw [← hW]
  clear hW
  refine (toOpS_any _ ops _ ((unhide H1).on hbW) hlen).mono ?_
  rintro e w3 ⟨v', rfl, hfr, hb3⟩
  obtain ⟨vb, rfl⟩ : ∃ vb, v' = .slice (some ⟨vb, 0, none⟩) ops.length ops.length := by obtain ⟨b, _, _, h, _⟩ := hfr; exact ⟨b, h⟩
  have e0 := cell_on hb3 d0
  have e1 := cell_on hb3 d1
  have e2 := cell_on hb3 d2
  have e3 := cell_on hb3 d3
  have y0 : ∀ i, w3.frozen? ⟨w.heap.size + 1, i, none⟩ = false := fun i => by rw [hb3.frozen (by show w.heap.size + 1 < _; omega)]; exact z0 i
  have y1 : ∀ i, w3.frozen? ⟨w.heap.size + 1 + 1, i, none⟩ = false := fun i => by rw [hb3.frozen (by show w.heap.size + 1 + 1 < _; omega)]; exact z1 i
  have HFR := hide hfr
  have HZ := hide hzW
  clear hfr d0 d1 d2 d3 z0 z1 H1 hzW
  go_wp2_with fail
  refine bodyPost_ret (v := .agg #[.int .i64 kind, .slice (some ⟨vb, 0, none⟩) ops.length ops.length]) (by simp [results, Tryd.results89, go_sem, e0, e1]) rfl ⟨_, rfl, ?_, ?_⟩
  · have hz := unhide HZ
    have h1 := (unhide HFR).keep (keep_set (w := w3) (a := ⟨w.heap.size + 1 + 1, 1, none⟩) (by show w.heap.size + 1 + 1 < _; omega) (.slice (some ⟨vb, 0, none⟩) ops.length ops.length))
    have h2 := h1.keep (keep_set (a := ⟨w.heap.size + 1, 0, none⟩) (by show w.heap.size + 1 < _; omega) (.int .i64 kind))
    have h3 := h2.keep (keep_set (a := ⟨w.heap.size + 1, 1, none⟩) (by show w.heap.size + 1 < _; omega) (.slice (some ⟨vb, 0, none⟩) ops.length ops.length))
    exact h3.less (by omega)
  · exact (((below_then hbW hb3).setCell (by show w.heap.size ≤ w.heap.size + 1 + 1; omega) _).setCell (by show w.heap.size ≤ w.heap.size + 1; omega) _).setCell (by show w.heap.size ≤ w.heap.size + 1; omega) _

def RulesIn (N : Nat) (w : World) (f : Nat → Value) (rs : List RuleV) (k : Nat) : Prop :=
  ∀ j (h : j < rs.length), j < k → f (j * 2) = .int .i64 rs[j].kind ∧ OpsFr N w (f (j * 2 + 1)) rs[j].ops

/-- A slice of rules that was made whole, in blocks from N on. -/
def RulesFr (N : Nat) (w : World) (v : Value) (rs : List RuleV) : Prop :=
  ∃ b t f, v = .slice (some ⟨b, 0, none⟩) rs.length rs.length ∧ N ≤ b ∧ rs.length ≤ maxLen ∧ w.rowIs b t (rs.length * 2) f ∧ RulesIn (b + 1) w f rs rs.length

theorem RulesFr.at {N : Nat} {w : World} {v : Value} {rs : List RuleV} (h : RulesFr N w v rs) : RulesAt w v rs := by
  obtain ⟨b, t, f, rfl, _, hm, hr, hf⟩ := h
  refine ⟨_, _, rfl, Nat.le_refl _, hm, Or.inr ⟨b, 0, rfl, fun i hi => ?_⟩⟩
  obtain ⟨f0, f1⟩ := hf i hi hi
  simp only [Nat.zero_add]
  exact ⟨by rw [hr.cell (by omega), f0], _, hr.cell (by omega), f1.at⟩

theorem RulesIn.keep {N : Nat} {w w' : World} {f : Nat → Value} {rs : List RuleV} {k : Nat} (hk : KeepFrom N w w') (h : RulesIn N w f rs k) : RulesIn N w' f rs k :=
  fun j hj hjk => ⟨(h j hj hjk).1, (h j hj hjk).2.keep hk⟩

theorem KeepFrom.less {N M : Nat} {w w' : World} (h : KeepFrom N w w') (hNM : N ≤ M) : KeepFrom M w w' := fun k h1 h2 => h k (Nat.le_trans hNM h1) h2

theorem RulesFr.keep {N : Nat} {w w' : World} {v : Value} {rs : List RuleV} (hk : KeepFrom N w w') (h : RulesFr N w v rs) : RulesFr N w' v rs := by
  obtain ⟨b, t, f, rfl, hN, hm, hr, hf⟩ := h
  exact ⟨b, t, f, rfl, hN, hm, hr.of_block (hk b hN hr.lt), hf.keep (hk.less (by omega))⟩

theorem RulesFr.less {N M : Nat} {w : World} {v : Value} {rs : List RuleV} (hNM : M ≤ N) (h : RulesFr N w v rs) : RulesFr M w v rs := by
  obtain ⟨b, t, f, rfl, hN, hm, hr, hf⟩ := h
  exact ⟨b, t, f, rfl, Nat.le_trans hNM hN, hm, hr, hf⟩

theorem rule_step {w wr w3 : World} {t : TypeId} {rs : List RuleV} {k : Nat} {f : Nat → Value} {ov : Value} (hk : k < rs.length) (kind : Int) (ops : List OpV) (hx : ⟨kind, ops⟩ = rs[k]) (hr : w3.rowIs w.heap.size t (rs.length * 2) f)
    (hin : RulesIn (w.heap.size + 1) wr f rs k) (hz : w.heap.size < wr.heap.size) (hb3 : Below wr.heap.size wr w3) (hfr : OpsFr wr.heap.size w3 ov ops) (hb : Below w.heap.size w w3) :
    ∃ f', ((w3.setCell ⟨w.heap.size, k * 2, none⟩ (.int .i64 kind)).setCell ⟨w.heap.size, k * 2 + 1, none⟩ ov).rowIs w.heap.size t (rs.length * 2) f' ∧
      RulesIn (w.heap.size + 1) ((w3.setCell ⟨w.heap.size, k * 2, none⟩ (.int .i64 kind)).setCell ⟨w.heap.size, k * 2 + 1, none⟩ ov) f' rs (k + 1) ∧
      Below w.heap.size w ((w3.setCell ⟨w.heap.size, k * 2, none⟩ (.int .i64 kind)).setCell ⟨w.heap.size, k * 2 + 1, none⟩ ov) := by
  have k1 : KeepFrom (w.heap.size + 1) w3 (w3.setCell ⟨w.heap.size, k * 2, none⟩ (.int .i64 kind)) := keep_set (by show w.heap.size < w.heap.size + 1; omega) _
  have k2 : KeepFrom (w.heap.size + 1) (w3.setCell ⟨w.heap.size, k * 2, none⟩ (.int .i64 kind)) ((w3.setCell ⟨w.heap.size, k * 2, none⟩ (.int .i64 kind)).setCell ⟨w.heap.size, k * 2 + 1, none⟩ ov) := keep_set (by show w.heap.size < w.heap.size + 1; omega) _
  refine ⟨_, (hr.set (k * 2) _).set (k * 2 + 1) _, ?_, (hb.setCell (Nat.le_refl _) _).setCell (Nat.le_refl _) _⟩
  intro j hj hjk
  rcases (show j = k ∨ j < k by omega) with rfl | hlt
  · simp only [show ¬ j * 2 = j * 2 + 1 by omega, if_false, if_true, ← hx]
    exact ⟨trivial, ((hfr.less (by omega)).keep k1).keep k2⟩
  · obtain ⟨f0, f1⟩ := hin j hj hlt
    simp only [show ¬ j * 2 = k * 2 + 1 by omega, show ¬ j * 2 = k * 2 by omega, show ¬ j * 2 + 1 = k * 2 + 1 by omega, show ¬ j * 2 + 1 = k * 2 by omega, if_false]
    exact ⟨f0, ((f1.keep (keep_below hb3)).keep k1).keep k2⟩

theorem slice_rules : Tryd.prog.underlying 32 = some (.slice 51) := by kernel_rfl
theorem info_rule : (Tryd.prog.info? 51).map (fun i => (i.zero, i.size, i.bytes)) = some (some (.agg #[.int .i64 0, .slice none 0 0]), 2, 32) := by kernel_rfl

def opsFit (rs : List RuleV) : Prop := ∀ j (h : j < rs.length), rs[j].ops.length ≤ 1048576

set_option maxRecDepth 100000 in
set_option maxHeartbeats 1000000 in
theorem toRuleS_any (v : Value) (rs : List RuleV) (w : World) (h : RulesAt w v rs) (hlen : rs.length ≤ 1048576) (hfit : opsFit rs) :
    Calls Tryd.prog 62 #[v] w fun e w' => ∃ v', e = .returned v' ∧ RulesFr w.heap.size w' v' rs ∧ Below w.heap.size w w' := by
  obtain ⟨ad, cap, rfl, hlc, hm, hcells⟩ := h
  have HMX := hide hm
  have HFIT := hide hfit
  clear hm hfit
  have hmk := run_make_n (P := Tryd.prog) 32 51 _ 2 32 slice_rules info_rule rs.length (by omega) (by omega)
  have HC := hide hcells
  clear hcells
  go_enter Tryd.func62, Tryd.ntmps62
  go_wp2_with fail
  have hb1 : Below w.heap.size w (w.alloc (.cells (madeCells #[.int .i64 0, .slice none 0 0] (rs.length * 2)) 51)) := (Below.refl _ _).alloc (Nat.le_refl _) _
  have hr1 := row_made w #[.int .i64 0, .slice none 0 0] (rs.length * 2) 51
  clear hmk
  generalize w.alloc (.cells (madeCells #[.int .i64 0, .slice none 0 0] (rs.length * 2)) 51) = w1 at *
  go_loopw [4] (fun i wr => ∃ (k : Nat) (f : Nat → Value), k ≤ rs.length ∧ i = .int .i64 k ∧ wr.rowIs w.heap.size 51 (rs.length * 2) f ∧ RulesIn (w.heap.size + 1) wr f rs k ∧ Below w.heap.size w wr) (fun i _ => rs.length - (intOf i).toNat)
  case atStart => exact ⟨0, _, Nat.zero_le _, rfl, hr1, fun j _ h => absurd h (Nat.not_lt_zero _), hb1⟩
  case round =>
    obtain ⟨k, f, hk, rfl, hrow, hin, hb⟩ := hrel
    have hzr := hrow.lt
    have HROW := hide hrow
    have HIN := hide hin
    clear hrow hin hr1
    by_cases hlt : k < rs.length
    · obtain ⟨b, off, had, hc⟩ : ∃ b off, ad = some ⟨b, off, none⟩ ∧ RuleCells w b (off + k * 2) rs[k] := by
        rcases unhide HC with h | ⟨b, off, h1, h2⟩
        · rw [h] at hlt; exact absurd hlt (Nat.not_lt_zero _)
        · exact ⟨b, off, h1, h2 k hlt⟩
      have hc := hc.on hb
      have hfk := (unhide HFIT) k hlt
      obtain ⟨x, hx⟩ : ∃ x, x = rs[k] := ⟨_, rfl⟩
      have HX := hide hx
      rw [← hx] at hc hfk
      clear hx
      obtain ⟨kind, ops⟩ := x
      obtain ⟨r0, ov, r1, hop⟩ := hc
      simp only at r0 hop hfk
      obtain ⟨oa, oc, rfl⟩ : ∃ a c, ov = .slice a ops.length c := by obtain ⟨x, y, h, _⟩ := hop; exact ⟨x, y, h⟩
      have HO := hide hop
      clear hop
      subst had
      go_wp2_with fail
      refine (toRule_any kind _ ops _ (unhide HO) hfk).mono ?_
      rintro e w3 ⟨v', rfl, hfr, hb3⟩
      obtain ⟨vb, rfl⟩ : ∃ vb, v' = .slice (some ⟨vb, 0, none⟩) ops.length ops.length := by obtain ⟨b, _, _, h, _⟩ := hfr; exact ⟨b, h⟩
      have hr3 := (unhide HROW).of_block (hb3.block _ (unhide HROW).lt)
      have g0 := hr3.cell (i := k * 2) (by omega)
      have g1 := hr3.cell (i := k * 2 + 1) (by omega)
      have z0 := hr3.frozen (k * 2)
      have z1 := hr3.frozen (k * 2 + 1)
      have HR3 := hide hr3
      have HFR := hide hfr
      clear hr3 hfr r0 r1
      go_wp2_with fail
      go_roundw
      case rel =>
        obtain ⟨f', q1, q2, q3⟩ := rule_step hlt kind ops (unhide HX) (unhide HR3) (unhide HIN) hzr hb3 (unhide HFR) (below_then hb hb3)
        exact ⟨k + 1, f', by omega, by go_num, q1, q2, q3⟩
      case measure => simp [intOf]; omega
    · have hke : k = rs.length := by omega
      subst hke
      go_wp2_with fail
      go_ret
      exact ⟨_, rfl, ⟨_, _, f, rfl, Nat.le_refl _, unhide HMX, unhide HROW, unhide HIN⟩, hb⟩
end Go.Proofs.YtjbgiepaehefpaaDoor
