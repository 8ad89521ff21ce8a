/- Contracts of the exact laws' to functions over programs: a program, all programs. -/
import Derived.Test.YtjbgiepaehefpaaDoorTo2
namespace Go.Proofs.YtjbgiepaehefpaaDoor
open Go.RowKit
set_option linter.unusedVariables false

set_option maxRecDepth 100000 in
set_option maxHeartbeats 1000000 in
theorem toApp_any (v : Value) (rs : List RuleV) (w : World) (h : RulesAt w v rs) (hlen : rs.length ≤ 1048576) (hfit : opsFit rs) :
    Calls Tryd.prog 30 #[.agg #[v]] w fun e w' => ∃ v', e = .returned (.agg #[v']) ∧ RulesFr w.heap.size w' v' rs ∧ Below w.heap.size w w' := by
  obtain ⟨a1, c1, rfl⟩ : ∃ a c, v = .slice a rs.length c := by obtain ⟨x, y, h, _⟩ := h; exact ⟨x, y, h⟩
  have H1 := hide h
  have HFIT := hide hfit
  clear h hfit
  go_enter Tryd.func30, Tryd.ntmps30
  go_wp2_with fail
  obtain ⟨W, hW⟩ : ∃ W, W = (((w.alloc (.cells #[.slice a1 rs.length c1] 58)).alloc (.cells #[.slice none 0 0] 34)).alloc (.cells #[.slice none 0 0] 34)) := ⟨_, rfl⟩
  have hbW : Below w.heap.size w W := by rw [hW]; exact (((Below.refl _ _).alloc (Nat.le_refl _) _).alloc (by simp) _).alloc (by simp; omega) _
  have hzW : W.heap.size = w.heap.size + 3 := by rw [hW]; simp
  have d0 : W.cell? ⟨w.heap.size + 1, 0, none⟩ = some (.slice none 0 0) := by rw [hW]; simp [go_sem]
  have d2 : W.cell? ⟨w.heap.size + 1 + 1, 0, none⟩ = some (.slice none 0 0) := by rw [hW]; simp [go_sem]
  have z0 : ∀ i, W.frozen? ⟨w.heap.size + 1, i, none⟩ = false := by intro i; rw [hW]; simp [go_sem]
  have z1 : ∀ i, W.frozen? ⟨w.heap.size + 1 + 1, i, none⟩ = false := by intro i; rw [hW]; simp [go_sem]
  rw [← hW]
  clear hW
  refine (toRuleS_any _ rs _ ((unhide H1).on hbW) hlen (unhide HFIT)).mono ?_
  rintro e w3 ⟨v', rfl, hfr, hb3⟩
  obtain ⟨vb, rfl⟩ : ∃ vb, v' = .slice (some ⟨vb, 0, none⟩) rs.length rs.length := by obtain ⟨b, _, _, h, _⟩ := hfr; exact ⟨b, h⟩
  have e0 := cell_on hb3 d0
  have e2 := cell_on hb3 d2
  have y0 : ∀ i, w3.frozen? ⟨w.heap.size + 1, i, none⟩ = false := fun i => by rw [hb3.frozen (by show w.heap.size + 1 < _; omega)]; exact z0 i
  have y1 : ∀ i, w3.frozen? ⟨w.heap.size + 1 + 1, i, none⟩ = false := fun i => by rw [hb3.frozen (by show w.heap.size + 1 + 1 < _; omega)]; exact z1 i
  have HFR := hide hfr
  have HZ := hide hzW
  clear hfr d0 d2 z0 z1 H1 hzW
  go_wp2_with fail
  refine bodyPost_ret (v := .agg #[.slice (some ⟨vb, 0, none⟩) rs.length rs.length]) (by simp [results, Tryd.results30, go_sem, e0]) rfl ⟨_, rfl, ?_, ?_⟩
  · have hz := unhide HZ
    have h1 := (unhide HFR).keep (keep_set (w := w3) (a := ⟨w.heap.size + 1 + 1, 0, none⟩) (by show w.heap.size + 1 + 1 < _; omega) (.slice (some ⟨vb, 0, none⟩) rs.length rs.length))
    have h2 := h1.keep (keep_set (a := ⟨w.heap.size + 1, 0, none⟩) (by show w.heap.size + 1 < _; omega) (.slice (some ⟨vb, 0, none⟩) rs.length rs.length))
    exact h2.less (by omega)
  · exact ((below_then hbW hb3).setCell (by show w.heap.size ≤ w.heap.size + 1 + 1; omega) _).setCell (by show w.heap.size ≤ w.heap.size + 1; omega) _

def AppsIn (N : Nat) (w : World) (f : Nat → Value) (ps : List (List RuleV)) (k : Nat) : Prop :=
  ∀ j (h : j < ps.length), j < k → RulesFr N w (f j) ps[j]

/-- A slice of programs that was made whole, in blocks from N on. -/
def AppsFr (N : Nat) (w : World) (v : Value) (ps : List (List RuleV)) : Prop :=
  ∃ b t f, v = .slice (some ⟨b, 0, none⟩) ps.length ps.length ∧ N ≤ b ∧ ps.length ≤ maxLen ∧ w.rowIs b t ps.length f ∧ AppsIn (b + 1) w f ps ps.length

theorem AppsFr.at {N : Nat} {w : World} {v : Value} {ps : List (List RuleV)} (h : AppsFr N w v ps) : AppsAt w v ps := by
  obtain ⟨b, t, f, rfl, _, hm, hr, hf⟩ := h
  refine ⟨_, _, rfl, Nat.le_refl _, hm, Or.inr ⟨b, 0, rfl, fun i hi => ?_⟩⟩
  simp only [Nat.zero_add]
  exact ⟨_, hr.cell hi, (hf i hi hi).at⟩

theorem app_step {w wr w3 : World} {t : TypeId} {ps : List (List RuleV)} {k : Nat} {f : Nat → Value} {rv : Value} (hk : k < ps.length) (rs : List RuleV) (hx : rs = ps[k]) (hr : w3.rowIs w.heap.size t ps.length f)
    (hin : AppsIn (w.heap.size + 1) wr f ps k) (hz : w.heap.size < wr.heap.size) (hb3 : Below wr.heap.size wr w3) (hfr : RulesFr wr.heap.size w3 rv rs) (hb : Below w.heap.size w w3) :
    ∃ f', (w3.setCell ⟨w.heap.size, k, none⟩ rv).rowIs w.heap.size t ps.length f' ∧ AppsIn (w.heap.size + 1) (w3.setCell ⟨w.heap.size, k, none⟩ rv) f' ps (k + 1) ∧ Below w.heap.size w (w3.setCell ⟨w.heap.size, k, none⟩ rv) := by
  have k1 : KeepFrom (w.heap.size + 1) w3 (w3.setCell ⟨w.heap.size, k, none⟩ rv) := keep_set (by show w.heap.size < w.heap.size + 1; omega) _
  refine ⟨_, hr.set k _, ?_, hb.setCell (Nat.le_refl _) _⟩
  intro j hj hjk
  rcases (show j = k ∨ j < k by omega) with rfl | hlt
  · simp only [if_true, ← hx]
    exact (hfr.less (by omega)).keep k1
  · simp only [show ¬ j = k by omega, if_false]
    exact ((hin j hj hlt).keep (keep_below hb3)).keep k1

theorem slice_apps : Tryd.prog.underlying 23 = some (.slice 34) := by kernel_rfl
theorem info_app : (Tryd.prog.info? 34).map (fun i => (i.zero, i.size, i.bytes)) = some (some (.agg #[.slice none 0 0]), 1, 24) := by kernel_rfl

def rulesFit (ps : List (List RuleV)) : Prop := ∀ j (h : j < ps.length), ps[j].length ≤ 1048576 ∧ opsFit ps[j]

set_option maxRecDepth 100000 in
set_option maxHeartbeats 1000000 in
theorem toAppS_any (v : Value) (ps : List (List RuleV)) (w : World) (h : AppsAt w v ps) (hlen : ps.length ≤ 1048576) (hfit : rulesFit ps) :
    Calls Tryd.prog 27 #[v] w fun e w' => ∃ v', e = .returned v' ∧ AppsFr w.heap.size w' v' ps ∧ Below w.heap.size w w' := by
  obtain ⟨ad, cap, rfl, hlc, hm, hcells⟩ := h
  have HMX := hide hm
  have HFIT := hide hfit
  clear hm hfit
  have hmk := run_make_n (P := Tryd.prog) 23 34 _ 1 24 slice_apps info_app ps.length (by omega) (by omega)
  rw [Nat.mul_one] at hmk
  have HC := hide hcells
  clear hcells
  go_enter Tryd.func27, Tryd.ntmps27
  go_wp2_with fail
  have hb1 : Below w.heap.size w (w.alloc (.cells (madeCells #[.slice none 0 0] ps.length) 34)) := (Below.refl _ _).alloc (Nat.le_refl _) _
  have hr1 := row_made w #[.slice none 0 0] ps.length 34
  clear hmk
  generalize w.alloc (.cells (madeCells #[.slice none 0 0] ps.length) 34) = w1 at *
  go_loopw [4] (fun i wr => ∃ (k : Nat) (f : Nat → Value), k ≤ ps.length ∧ i = .int .i64 k ∧ wr.rowIs w.heap.size 34 ps.length f ∧ AppsIn (w.heap.size + 1) wr f ps k ∧ Below w.heap.size w wr) (fun i _ => ps.length - (intOf i).toNat)
  case atStart => exact ⟨0, _, Nat.zero_le _, rfl, hr1, fun j _ h => absurd h (Nat.not_lt_zero _), hb1⟩
  case round =>
    obtain ⟨k, f, hk, rfl, hrow, hin, hb⟩ := hrel
    have hzr := hrow.lt
    have HROW := hide hrow
    have HIN := hide hin
    clear hrow hin hr1
    by_cases hlt : k < ps.length
    · obtain ⟨b, off, had, hc⟩ : ∃ b off, ad = some ⟨b, off, none⟩ ∧ AppCell w b (off + k) ps[k] := by
        rcases unhide HC with h | ⟨b, off, h1, h2⟩
        · rw [h] at hlt; exact absurd hlt (Nat.not_lt_zero _)
        · exact ⟨b, off, h1, h2 k hlt⟩
      have hc := hc.on hb
      have hfk := (unhide HFIT) k hlt
      obtain ⟨rs, hx⟩ : ∃ x, x = ps[k] := ⟨_, rfl⟩
      have HX := hide hx
      rw [← hx] at hc hfk
      clear hx
      obtain ⟨rv, r0, hrl⟩ := hc
      obtain ⟨hfk1, hfk2⟩ := hfk
      obtain ⟨oa, oc, rfl⟩ : ∃ a c, rv = .slice a rs.length c := by obtain ⟨x, y, h, _⟩ := hrl; exact ⟨x, y, h⟩
      have HO := hide hrl
      have HF2 := hide hfk2
      clear hrl hfk2
      subst had
      go_wp2_with fail
      refine (toApp_any _ rs _ (unhide HO) hfk1 (unhide HF2)).mono ?_
      rintro e w3 ⟨v', rfl, hfr, hb3⟩
      obtain ⟨vb, rfl⟩ : ∃ vb, v' = .slice (some ⟨vb, 0, none⟩) rs.length rs.length := by obtain ⟨b, _, _, h, _⟩ := hfr; exact ⟨b, h⟩
      have hr3 := (unhide HROW).of_block (hb3.block _ (unhide HROW).lt)
      have g0 := hr3.cell (i := k) hlt
      have z0 := hr3.frozen k
      have HR3 := hide hr3
      have HFR := hide hfr
      clear hr3 hfr r0
      go_wp2_with fail
      go_roundw
      case rel =>
        obtain ⟨f', q1, q2, q3⟩ := app_step hlt rs (unhide HX) (unhide HR3) (unhide HIN) hzr hb3 (unhide HFR) (below_then hb hb3)
        exact ⟨k + 1, f', by omega, by go_num, q1, q2, q3⟩
      case measure => simp [intOf]; omega
    · have hke : k = ps.length := by omega
      subst hke
      go_wp2_with fail
      go_ret
      exact ⟨_, rfl, ⟨_, _, f, rfl, Nat.le_refl _, unhide HMX, unhide HROW, unhide HIN⟩, hb⟩
end Go.Proofs.YtjbgiepaehefpaaDoor
