/- spec.AppRun, the way on which it does something. -/
import Derived.Test.YtjbgiepaehefpaaDoorRun6
namespace Go.Proofs.YtjbgiepaehefpaaDoor
open Go.RowKit
set_option linter.unusedVariables false
set_option linter.unusedSimpArgs false

theorem app_rule {rs : List RuleV} (h : appOk rs = true) (i : Nat) (hi : i < rs.length) : opsOk rs[i].ops = true ∧ rs[i].ops.length ≤ 8 := by
  have h2 : (List.range rs.length).all (stepOk rs) = true := by
    unfold appOk at h
    exact (Bool.and_eq_true_iff.1 h).2
  have h3 := List.all_eq_true.1 h2 i (List.mem_range.2 hi)
  unfold stepOk at h3
  rw [List.getElem?_eq_getElem hi] at h3
  have h4 := (Bool.and_eq_true_iff.1 h3).1
  unfold kruleOk ruleOk at h4
  simp only [Bool.and_eq_true, decide_eq_true_eq] at h4
  exact ⟨h4.2.1.1.1, h4.2.1.1.2⟩

theorem app_len {rs : List RuleV} (h : appOk rs = true) : rs.length ≤ 4 := by
  unfold appOk at h
  simpa using (Bool.and_eq_true_iff.1 h).1

theorem op_at {ops : List OpV} (h : opsOk ops = true) (i : Nat) (hi : i < ops.length) : opOk ops[i] = true :=
  List.all_eq_true.1 h _ (List.getElem_mem hi)

theorem runRules_at (ev : EvV) (rs : List RuleV) (R : RunV) (k : Nat) (h : k < rs.length) :
    runRules ev (rs.drop k) R = runRules ev (rs.drop (k + 1)) (if rs[k].kind = ev.kind then runOps ev rs[k].ops 0 R else R) := by
  rw [List.drop_eq_getElem_cons h, runRules]

theorem run_begin (W : World) (s : StV) (ev : EvV) (t : TypeId) :
    RunMem (((W.alloc (.cells #[] 38)).alloc (.cells #[] 48)).alloc (.cells #[.int .i64 s.x, .int .i64 s.y, .int .i64 s.c, .int .i64 ev.time, .int .i64 ev.to, .int .i64 ev.src, .int .i64 ev.count, .int .i64 ev.n, .int .i64 ev.kind, .int .i64 ev.arg, .slice (some ⟨W.heap.size, 0, none⟩) 0 0, .slice (some ⟨W.heap.size + 1, 0, none⟩) 0 0] t))
      (W.heap.size + 1 + 1) s ev (.slice (some ⟨W.heap.size, 0, none⟩) 0 0) (.slice (some ⟨W.heap.size + 1, 0, none⟩) 0 0) [] [] := by
  have hs : (W.alloc (.cells #[] 38)).heap.size = W.heap.size + 1 := by simp
  have h1 := ((World.ownsRow_made (base := W.heap.size + 1 + 1 - 2) (e := 38) (size := 7) W #[] 0 (by omega) (by simp [maxLen]) (by simp)).alloc (.cells #[] 48))
  have h2 := World.ownsRow_made (base := W.heap.size + 1 + 1 - 2) (e := 48) (size := 5) (W.alloc (.cells #[] 38)) #[] 0 (by simp) (by simp [maxLen]) (by simp)
  rw [hs] at h2
  refine ⟨?_, ?_, ?_, ?_, ?_, ?_, ?_, ?_, ?_, h1.alloc _, h2.alloc _, Or.inr (by simp [Value.ownBlock]), by (simp [Value.ownBlock]; omega), by simp [Value.ownBlock]⟩ <;> first | (intro i; simp [go_sem]; done) | simp [go_sem]

theorem begin_below (W : World) (t : TypeId) (cs : Array Value) : Below W.heap.size W (((W.alloc (.cells #[] 38)).alloc (.cells #[] 48)).alloc (.cells cs t)) :=
  (((Below.refl _ _).alloc (Nat.le_refl _) _).alloc (by simp) _).alloc (by simp; omega) _

theorem ownsRow_lower {w : World} {base b2 : Nat} {e : TypeId} {size : Nat} {v : Value} {n : Nat} {xs : List Value} (h : w.ownsRow base e size v n xs) (hb : b2 ≤ base) : w.ownsRow b2 e size v n xs := by
  obtain ⟨h1, h2 | ⟨g, cap, cur, h3, h4, h5⟩⟩ := h
  · exact ⟨h1, Or.inl h2⟩
  · exact ⟨h1, Or.inr ⟨g, cap, cur, h3, Nat.le_trans hb h4, h5⟩⟩

theorem cell_at {B : Nat} {w w' : World} {b i : Nat} {v : Value} (hb : Below B w w') (h : b < B) (hc : w.cell? ⟨b, i, none⟩ = some v) : w'.cell? ⟨b, i, none⟩ = some v := by
  rw [hb.cell (p := ⟨b, i, none⟩) h]; exact hc

theorem run_ends {w W : World} {q : Nat} {R : RunV} {ev : EvV} {vs vo : Value} (hR : RunMem W q R.st ev vs vo R.sends R.outs) (hq : w.heap.size + 6 ≤ q) (hB : Below w.heap.size w W) {a b c : Value} :
    Answers w ((((W.setCell ⟨q, 2, none⟩ (.int .i64 (R.st.c + 1))).setCell ⟨w.heap.size + 1 + 1 + 1, 0, none⟩ a).setCell ⟨w.heap.size + 1 + 1 + 1, 1, none⟩ b).setCell ⟨w.heap.size + 1 + 1 + 1, 2, none⟩ c).drew
      (.returned (.tuple #[.agg #[.int .i64 R.st.x, .int .i64 R.st.y, .int .i64 (R.st.c + 1)], vs, vo])) ⟨{ R.st with c := R.st.c + 1 }, R.sends, R.outs⟩ := by
  refine ⟨vs, vo, rfl, ?_, ?_, hR.ne, ?_⟩
  · have h := ownsRow_setCell_other hR.os (a := ⟨q, 2, none⟩) hR.ns (.int .i64 (R.st.c + 1))
    exact ownsRow_lower (ownsRow_setCell_below (ownsRow_setCell_below (ownsRow_setCell_below h (show w.heap.size + 1 + 1 + 1 < _ by omega) a) (show w.heap.size + 1 + 1 + 1 < _ by omega) b) (show w.heap.size + 1 + 1 + 1 < _ by omega) c) (by omega)
  · have h := ownsRow_setCell_other hR.oo (a := ⟨q, 2, none⟩) hR.no (.int .i64 (R.st.c + 1))
    exact ownsRow_lower (ownsRow_setCell_below (ownsRow_setCell_below (ownsRow_setCell_below h (show w.heap.size + 1 + 1 + 1 < _ by omega) a) (show w.heap.size + 1 + 1 + 1 < _ by omega) b) (show w.heap.size + 1 + 1 + 1 < _ by omega) c) (by omega)
  · exact ((((hB.setCell (show w.heap.size ≤ q by omega) _).setCell (show w.heap.size ≤ w.heap.size + 1 + 1 + 1 by omega) _).setCell (show w.heap.size ≤ w.heap.size + 1 + 1 + 1 by omega) _).setCell (show w.heap.size ≤ w.heap.size + 1 + 1 + 1 by omega) _).drew

theorem appRun_do {rs : List RuleV} {s : StV} {ev : EvV} (h1 : appOk rs = true) (h2 : stOk s = true) (h3 : evOk ev = true) (h : ¬ 12 ≤ s.c) :
    appRun rs s ev = ⟨{ (runRules ev rs ⟨s, [], []⟩).st with c := (runRules ev rs ⟨s, [], []⟩).st.c + 1 }, (runRules ev rs ⟨s, [], []⟩).sends, (runRules ev rs ⟨s, [], []⟩).outs⟩ := by simp [appRun, h1, h2, h3, h]

set_option maxRecDepth 100000 in
set_option maxHeartbeats 4000000 in
theorem specAppRun_do (rs : List RuleV) (rv : Value) (s : StV) (ev : EvV) (w : World) (ho : RulesAt w rv rs) (ha : appOk rs = true) (hs : stOk s = true) (he : evOk ev = true) (hc : ¬ 12 ≤ s.c) :
    Calls Tryd.prog 22 #[.agg #[rv], stAgg s, evAgg ev] w fun r w' => Answers w w' r (appRun rs s ev) := by
  rw [appRun_do ha hs he hc]
  generalize hRA0 : runRules ev rs ⟨s, [], []⟩ = RA
  have hRA := hRA0.symm
  clear hRA0
  have hst := stOk_in hs
  have hev := evOk_in he
  have hal := app_len ha
  have HAR := hide (app_rule ha)
  have HOW := hide ho
  have hap := boxed_apps w rv rs s ev ho
  have hbx := boxes_at w rv s ev
  have hbb := boxed_below w rv s ev
  have hbz := boxed_size w rv s ev
  have hN : w.heap.size + 4 ≤ (World.boxed w rv s ev).heap.size := by omega
  obtain ⟨x, y, c⟩ := s
  obtain ⟨time, to, src, count, n, kind, arg⟩ := ev
  clear hbz
  have HA := hide hap
  have HX := hide hbx
  have HN := hide hN
  clear hap hbx hN
  have hc' : ¬ (12 : Int) ≤ c := hc
  clear hc
  go_enter Tryd.func22, Tryd.ntmps22
  go_wp2_with fail
  unfold World.boxed at HA HX HN hbb
  go_at_call 14
  refine (specAppOk_any _ _ _ (unhide HA)).mono ?_
  rw [apps_one, ha]
  rintro e w' ⟨rfl, hb⟩
  have HX1 := hide ((unhide HX).on (unhide HN) hb)
  have HN1 : Hid (w.heap.size + 4 ≤ w'.heap.size) := hide (by have := unhide HN; have := hb.size; omega)
  have hB : Below w.heap.size w w' := below_then hbb hb
  clear HX HN HA hbb
  simp only
  clear hb
  have s0 := (unhide HX1).s0
  have s1 := (unhide HX1).s1
  have s2 := (unhide HX1).s2
  have v0 := (unhide HX1).v0
  have v1 := (unhide HX1).v1
  have v2 := (unhide HX1).v2
  have v3 := (unhide HX1).v3
  have v4 := (unhide HX1).v4
  have v5 := (unhide HX1).v5
  have v6 := (unhide HX1).v6
  simp only at s0 s1 s2 v0 v1 v2 v3 v4 v5 v6
  go_wp2_with fail
  go_at_call 57
  refine (l1StateOk_any ⟨x, y, c⟩ _).mono ?_
  rw [hs]
  rintro e w2 ⟨rfl, hb⟩
  have HX2 := hide ((unhide HX1).on (unhide HN1) hb)
  have HN2 : Hid (w.heap.size + 4 ≤ w2.heap.size) := hide (by have := unhide HN1; have := hb.size; omega)
  have hB2 : Below w.heap.size w w2 := below_then hB hb
  clear s0 s1 s2 v0 v1 v2 v3 v4 v5 v6 HX1 HN1 hB
  have HX1 := HX2
  have HN1 := HN2
  have hB := hB2
  clear hb HX2 HN2 hB2
  have s0 := (unhide HX1).s0
  have s1 := (unhide HX1).s1
  have s2 := (unhide HX1).s2
  have v0 := (unhide HX1).v0
  have v1 := (unhide HX1).v1
  have v2 := (unhide HX1).v2
  have v3 := (unhide HX1).v3
  have v4 := (unhide HX1).v4
  have v5 := (unhide HX1).v5
  have v6 := (unhide HX1).v6
  simp only at s0 s1 s2 v0 v1 v2 v3 v4 v5 v6
  go_wp2_with fail
  go_at_call 58
  refine (l1EventOk_any ⟨time, to, src, count, n, kind, arg⟩ _).mono ?_
  rw [he]
  rintro e w3 ⟨rfl, hb⟩
  have HX2 := hide ((unhide HX1).on (unhide HN1) hb)
  have HN2 : Hid (w.heap.size + 4 ≤ w3.heap.size) := hide (by have := unhide HN1; have := hb.size; omega)
  have hB2 : Below w.heap.size w w3 := below_then hB hb
  clear s0 s1 s2 v0 v1 v2 v3 v4 v5 v6 HX1 HN1 hB
  have HX1 := HX2
  have HN1 := HN2
  have hB := hB2
  clear hb HX2 HN2 hB2
  have s0 := (unhide HX1).s0
  have s1 := (unhide HX1).s1
  have s2 := (unhide HX1).s2
  have v0 := (unhide HX1).v0
  have v1 := (unhide HX1).v1
  have v2 := (unhide HX1).v2
  have v3 := (unhide HX1).v3
  have v4 := (unhide HX1).v4
  have v5 := (unhide HX1).v5
  have v6 := (unhide HX1).v6
  simp only at s0 s1 s2 v0 v1 v2 v3 v4 v5 v6
  have hz3 : w.heap.size + 4 ≤ w3.heap.size := unhide HN1
  go_wp2_with fail
  have HRM := hide (run_begin w3 ⟨x, y, c⟩ ⟨time, to, src, count, n, kind, arg⟩ 94)
  have hbX := begin_below w3 94 #[.int .i64 x, .int .i64 y, .int .i64 c, .int .i64 time, .int .i64 to, .int .i64 src, .int .i64 count, .int .i64 n, .int .i64 kind, .int .i64 arg, .slice (some ⟨w3.heap.size, 0, none⟩) 0 0, .slice (some ⟨w3.heap.size + 1, 0, none⟩) 0 0]
  dsimp only at HRM
  generalize (((w3.alloc (.cells #[] 38)).alloc (.cells #[] 48)).alloc (.cells #[.int .i64 x, .int .i64 y, .int .i64 c, .int .i64 time, .int .i64 to, .int .i64 src, .int .i64 count, .int .i64 n, .int .i64 kind, .int .i64 arg, .slice (some ⟨w3.heap.size, 0, none⟩) 0 0, .slice (some ⟨w3.heap.size + 1, 0, none⟩) 0 0] 94)) = X at *
  have HXb := hide ((unhide HX1).on (unhide HN1) hbX)
  have hBX : Below w.heap.size w X := below_then hB hbX
  obtain ⟨q, hq⟩ : ∃ q, q = w3.heap.size + 1 + 1 := ⟨_, rfl⟩
  rw [← hq] at HRM ⊢
  have HQ : Hid (w.heap.size + 6 ≤ q) := hide (by omega)
  have HQX : Hid (q - 2 ≤ X.heap.size) := hide (by have := hbX.size; omega)
  obtain ⟨rad, rcap, hrv⟩ : ∃ rad rcap, rv = .slice rad rs.length rcap := by obtain ⟨a, b, h, _⟩ := unhide HOW; exact ⟨a, b, h⟩
  have hrm : rs.length ≤ 4 := hal
  subst hrv
  clear hq hz3 hbX HX1 HN1 hB s0 s1 s2 v0 v1 v2 v3 v4 v5 v6
  have HRA := hide hRA
  clear hRA ho
  have HST := hide hst
  clear hst hs he ha
  obtain ⟨ht0, ht1, ha0, ha1⟩ := hev
  (try dsimp only at ht0 ht1 ha0 ha1)
  go_loopw [10] (fun i wr => ∃ (k : Nat) (R : RunV) (vs vo : Value), k ≤ rs.length ∧ i = .int .i64 k ∧ RA = runRules ⟨time, to, src, count, n, kind, arg⟩ (rs.drop k) R ∧ RunMem wr q R.st ⟨time, to, src, count, n, kind, arg⟩ vs vo R.sends R.outs ∧ stIn R.st ∧ R.sends.length ≤ 8 * k ∧ R.outs.length ≤ 8 * k ∧ Below (q - 2) X wr) (fun i _ => rs.length - (intOf i).toNat)
  case atStart => exact ⟨0, ⟨⟨x, y, c⟩, [], []⟩, _, _, Nat.zero_le _, rfl, unhide HRA, unhide HRM, unhide HST, by simp, by simp, Below.refl _ _⟩
  case round =>
    obtain ⟨k, R, vs, vo, hk, rfl, hrun, hrm0, hsi, hl1, hl2, hbr⟩ := hrel
    have HRUN := hide hrun
    have HM := hide hrm0
    have HSI := hide hsi
    have HL1 := hide hl1
    have HL2 := hide hl2
    clear hrun hrm0 hsi hl1 hl2
    have hBr : Below w.heap.size w wr := hBX.trans (hbr.mono (by have := unhide HQ; omega))
    have HXr := hide ((unhide HXb).on (by have := unhide HQ; omega) hbr)
    have a0 := (unhide HXr).a0
    have v5 := (unhide HXr).v5
    simp only at v5
    by_cases hlt : k < rs.length
    · have hrs : RulesAt w _ rs := unhide HOW
      obtain ⟨rad', rcap', hrv, hrl, hrm', hrc⟩ := hrs
      obtain ⟨rfl, rfl⟩ : rad' = rad ∧ rcap' = rcap := by simp at hrv; exact ⟨hrv.1.symm, hrv.2.symm⟩
      clear hrv
      obtain ⟨rb, roff, hrad, hcr⟩ : ∃ b off, rad' = some ⟨b, off, none⟩ ∧ RuleCells w b (off + k * 2) rs[k] := by
        rcases hrc with h | ⟨b, off, h1, h2⟩
        · rw [h] at hlt; exact absurd hlt (Nat.not_lt_zero _)
        · exact ⟨b, off, h1, h2 k hlt⟩
      subst hrad
      obtain ⟨hoo, hol⟩ := (unhide HAR) k hlt
      have hrun2 := runRules_at ⟨time, to, src, count, n, kind, arg⟩ rs R k hlt
      clear hrc
      obtain ⟨r, hr⟩ : ∃ r, r = rs[k] := ⟨_, rfl⟩
      rw [← hr] at hcr hoo hol hrun2
      clear hr
      obtain ⟨kd, ops⟩ := r
      simp only at hoo hol hrun2
      obtain ⟨q0w, ov, q1w, hops⟩ := hcr
      simp only at q0w hops
      have q0 := cell_on hBr q0w
      have q1 := cell_on hBr q1w
      clear q0w q1w
      obtain ⟨oad, ocap, rfl⟩ : ∃ oad ocap, ov = .slice oad ops.length ocap := by obtain ⟨x, y, h, _⟩ := hops; exact ⟨x, y, h⟩
      have HOP := hide hops
      have HRUN2 := hide hrun2
      have HOO := hide hoo
      clear hops hrun2 hoo
      have hjI : (k : Int) < (rs.length : Int) := by omega
      have hj0 : (0 : Int) ≤ (k : Int) := by omega
      have a0' : ∀ x : On wr, x.y.cell? ⟨w.heap.size, 0, none⟩ = some (.slice (some ⟨rb, roff, none⟩) rs.length rcap') := fun x => cell_on x.h a0
      have q0' : ∀ x : On wr, x.y.cell? ⟨rb, roff + k * 2, none⟩ = some (.int .i64 kd) := fun x => cell_on x.h q0
      have v5' : ∀ x : On wr, x.y.cell? ⟨w.heap.size + 1 + 1, 5, none⟩ = some (.int .i64 kind) := fun x => cell_on x.h v5
      by_cases hkd : kd = kind
      · have hkd2 := hkd.symm
        clear hkd
        subst hkd2
        have HRR : Hid (runRules ⟨time, to, src, count, n, kind, arg⟩ (rs.drop k) R = runRules ⟨time, to, src, count, n, kind, arg⟩ (rs.drop (k + 1)) (runOps ⟨time, to, src, count, n, kind, arg⟩ ops 0 R)) := hide (by have := unhide HRUN2; rwa [if_pos rfl] at this)
        clear HRUN2
        go_wp2_with fail
        have hne : Nonempty (On wr) := ⟨⟨wr, Below.refl _ _⟩⟩
        refine wp_region_on (by kernel_rfl) (by kernel_rfl) ?_
        repeat (first | go_big_quiet_step (fail) | quiet_step (fail))
        refine wpQuiet_nil ?_
        intro _ hw'
        obtain ⟨nq, hw''⟩ := hw'
        subst hw''
        have a1 := a0' nq
        have q2 := cell_on nq.h q1
        have HM2 := hide ((unhide HM).on nq.h)
        have hb2 : Below (q - 2) X nq.y := hbr.trans (nq.h.mono (by have := hbr.size; have := unhide HQX; omega))
        have HB2 := hide hb2
        have HOW2 : Hid (∀ wi : World, Below (q - 2) X wi → OpsAt wi (.slice oad ops.length ocap) ops) := hide (fun wi h => (unhide HOP).on (hBX.trans (h.mono (by have := unhide HQ; omega))))
        have hnz : wr.heap.size ≤ nq.y.heap.size := nq.h.size
        have hwz : q - 2 ≤ wr.heap.size := by have := hbr.size; have := unhide HQX; omega
        have HWZ := hide hwz
        clear hwz hb2
        go_wp2_with fail
        clear a0' q0' v5' a0 q0 q1 v5 a1 q2
        go_loopw [12] (fun i wi => ∃ (j : Nat) (R2 : RunV) (vs2 vo2 : Value), i = .int .i64 j ∧ j ≤ 100 ∧ runOps ⟨time, to, src, count, n, kind, arg⟩ ops 0 R = runOps ⟨time, to, src, count, n, kind, arg⟩ (ops.drop j) 0 R2 ∧ RunMem wi q R2.st ⟨time, to, src, count, n, kind, arg⟩ vs2 vo2 R2.sends R2.outs ∧ stIn R2.st ∧ R2.sends.length + (ops.length - j) ≤ 8 * k + 8 ∧ R2.outs.length + (ops.length - j) ≤ 8 * k + 8 ∧ Below (q - 2) X wi) (fun i _ => ops.length - (intOf i).toNat)
        case atStart => exact ⟨0, R, vs, vo, rfl, by omega, rfl, unhide HM2, unhide HSI, by have := unhide HL1; omega, by have := unhide HL2; omega, unhide HB2⟩
        case round =>
          obtain ⟨j, R2, vs2, vo2, rfl, hj100, hrun, hrm0, hsi, hl1, hl2, hbi⟩ := hrel
          have HRUNJ := hide hrun
          have HMJ := hide hrm0
          have HSJ := hide hsi
          have HLJ1 := hide hl1
          have HLJ2 := hide hl2
          clear hrun hrm0 hsi hl1 hl2
          by_cases hjl : j < ops.length
          · have hopi : OpsAt wr (.slice oad ops.length ocap) ops := (unhide HOW2) _ hbi
            obtain ⟨ad', cap', hv', hl', hm', hcc⟩ := hopi
            obtain ⟨rfl, rfl⟩ : ad' = oad ∧ cap' = ocap := by simp at hv'; exact ⟨hv'.1.symm, hv'.2.symm⟩
            clear hv'
            obtain ⟨ob, ooff, hoad, hoc⟩ : ∃ b off, ad' = some ⟨b, off, none⟩ ∧ OpCells wr b (off + j * 5) ops[j] := by
              rcases hcc with h | ⟨b, off, h1, h2⟩
              · rw [h] at hjl; exact absurd hjl (Nat.not_lt_zero _)
              · exact ⟨b, off, h1, h2 j hjl⟩
            subst hoad
            clear hcc
            have hok := op_at (unhide HOO) j hjl
            have hat := runOps_at ⟨time, to, src, count, n, kind, arg⟩ R2 ops j hjl
            generalize ops[j] = o at hoc hok hat
            have hcall := specOp_any o hok q R2.st ⟨time, to, src, count, n, kind, arg⟩ vs2 vo2 R2.sends R2.outs wr (unhide HMJ) (unhide HSJ) ha0 ha1 ht0 ht1 (by have := unhide HLJ1; omega) (by have := unhide HLJ2; omega)
            have hsk := opSkip_in R2.st o hok
            have hst2 := opSt_in (unhide HSJ) ⟨time, to, src, count, n, kind, arg⟩ o
            have hsl := opSends_len R2.st ⟨time, to, src, count, n, kind, arg⟩ R2.sends o
            have hot := opOuts_len R2.st ⟨time, to, src, count, n, kind, arg⟩ R2.outs o
            have HAT : Hid (runOps ⟨time, to, src, count, n, kind, arg⟩ ops 0 R = runOps ⟨time, to, src, count, n, kind, arg⟩ (ops.drop (j + 1 + (opSkip R2.st o).toNat)) 0 (stepRun ⟨time, to, src, count, n, kind, arg⟩ o R2)) := hide ((unhide HRUNJ).trans hat)
            have HFL : Hid (∃ R3 : RunV, R3 = stepRun ⟨time, to, src, count, n, kind, arg⟩ o R2) := hide ⟨_, rfl⟩
            have HS2 := hide hst2
            have HS3 := hide hsl
            have HS4 := hide hot
            clear hat hst2 hsl hot hok HRUNJ
            have HCALL := hide hcall
            clear hcall
            obtain ⟨c0, c1, c2, c3, c4⟩ := hoc
            have HSTEP : Hid (stepRun ⟨time, to, src, count, n, kind, arg⟩ o R2 = ⟨opSt R2.st ⟨time, to, src, count, n, kind, arg⟩ o, opSends R2.st ⟨time, to, src, count, n, kind, arg⟩ R2.sends o, opOuts R2.st ⟨time, to, src, count, n, kind, arg⟩ R2.outs o⟩) := hide rfl
            generalize stepRun ⟨time, to, src, count, n, kind, arg⟩ o R2 = R3 at *
            obtain ⟨sk, hskd⟩ : ∃ sk, sk = opSkip R2.st o := ⟨_, rfl⟩
            have HC2 := unhide HCALL
            unfold SpecOp opAgg at HC2
            rw [← hskd] at HC2 HAT hsk
            obtain ⟨od, oa, ob2, oc2, oe⟩ := o
            simp only at c0 c1 c2 c3 c4
            clear hskd HCALL
            have HCALL := hide HC2
            clear HC2
            obtain ⟨hk0, hk8⟩ := hsk
            have hjI2 : (j : Int) < (ops.length : Int) := by omega
            have hj02 : (0 : Int) ≤ (j : Int) := by omega
            have hj99 : (j : Int) ≤ 8 := by omega
            have hcc1 : ops.length ≤ cap' := hl'
            go_wp2_with fail
            go_at_call 59
            refine (unhide HCALL).mono ?_
            rintro e w4 ⟨vs3, vo3, rfl, hm4, hb4⟩
            have HM4 := hide hm4
            clear hm4
            dsimp only
            go_wp2_with fail
            go_roundw
            case rel =>
              refine ⟨j + 1 + sk.toNat, R3, vs3, vo3, ?_, by omega, unhide HAT, ?_, ?_, ?_, ?_, hbi.trans hb4⟩
              · go_num
              · rw [unhide HSTEP]; exact unhide HM4
              · rw [unhide HSTEP]; exact unhide HS2
              · rw [unhide HSTEP]; have := unhide HLJ1; have := unhide HS3; simp only at *; omega
              · rw [unhide HSTEP]; have := unhide HLJ2; have := unhide HS4; simp only at *; omega
            case measure => simp [intOf]; omega
          · have hend : runOps ⟨time, to, src, count, n, kind, arg⟩ ops 0 R = R2 := by
              have := unhide HRUNJ
              rwa [List.drop_of_length_le (by omega), runOps] at this
            have HEND := hide hend
            clear hend
            have hjI2 : ¬ (j : Int) < (ops.length : Int) := by omega
            go_wp2_with fail
            go_roundw
            case rel =>
              refine ⟨k + 1, R2, vs2, vo2, by omega, by go_num, ?_, unhide HMJ, unhide HSJ, by have := unhide HLJ1; omega, by have := unhide HLJ2; omega, hbi⟩
              have := unhide HRR
              rw [unhide HEND] at this
              exact (unhide HRUN).trans this
            case measure => simp [intOf]; omega
      · have hkd' : (kd != kind) = true := by simp [hkd]
        have HRR : Hid (runRules ⟨time, to, src, count, n, kind, arg⟩ (rs.drop k) R = runRules ⟨time, to, src, count, n, kind, arg⟩ (rs.drop (k + 1)) R) := hide (by have := unhide HRUN2; rwa [if_neg hkd] at this)
        go_wp2_with fail
        have hne : Nonempty (On wr) := ⟨⟨wr, Below.refl _ _⟩⟩
        refine wp_region_on (by kernel_rfl) (by kernel_rfl) ?_
        repeat (first | go_big_quiet_step (fail) | quiet_step (fail))
        refine wpQuiet_nil ?_
        intro _ hw'
        obtain ⟨nq, hw''⟩ := hw'
        subst hw''
        go_wp2_with fail
        go_roundw
        case rel => exact ⟨k + 1, R, vs, vo, by omega, by go_num, (unhide HRUN).trans (unhide HRR), (unhide HM).on nq.h, unhide HSI, by have := unhide HL1; omega, by have := unhide HL2; omega, hbr.trans (nq.h.mono (by have := hbr.size; have := unhide HQX; omega))⟩
        case measure => simp [intOf]; omega
    · have hke : k = rs.length := by omega
      subst hke
      have hfin : RA = R := by have := unhide HRUN; rwa [List.drop_length, runRules] at this
      have HF := hide hfin
      clear hfin
      have hkn : ¬ (rs.length : Int) < (rs.length : Int) := by omega
      have x0 := (unhide HM).x0
      have x1 := (unhide HM).x1
      have x2 := (unhide HM).x2
      have cs := (unhide HM).cs
      have co := (unhide HM).co
      have fz := (unhide HM).fz
      have r0 := (unhide HXr).r0
      have r1 := (unhide HXr).r1
      have r2 := (unhide HXr).r2
      have rf := (unhide HXr).rf
      have hd1 : ¬ q = w.heap.size + 1 + 1 + 1 := by have := unhide HQ; omega
      have hd2 : ¬ w.heap.size + 1 + 1 + 1 = q := by have := unhide HQ; omega
      obtain ⟨_, _, _, _, hc0, hc1⟩ := unhide HSI
      have HEND := hide (fun a b c => run_ends (a := a) (b := b) (c := c) (unhide HM) (unhide HQ) hBr)
      rw [← unhide HF] at HEND x0 x1 x2 hc0 hc1
      clear HM HSI HF HRUN
      go_wp2_with fail
      have y0 : (wr.setCell ⟨q, 2, none⟩ (.int .i64 (RA.st.c + 1))).cell? ⟨q, 0, none⟩ = some (.int .i64 RA.st.x) := by simp [go_sem, x0]
      have y1 : (wr.setCell ⟨q, 2, none⟩ (.int .i64 (RA.st.c + 1))).cell? ⟨q, 1, none⟩ = some (.int .i64 RA.st.y) := by simp [go_sem, x1]
      have y2 : (wr.setCell ⟨q, 2, none⟩ (.int .i64 (RA.st.c + 1))).cell? ⟨q, 2, none⟩ = some (.int .i64 (RA.st.c + 1)) := by simp [go_sem, x2]
      have y10 : (wr.setCell ⟨q, 2, none⟩ (.int .i64 (RA.st.c + 1))).cell? ⟨q, 10, none⟩ = some vs := by simp [go_sem, cs]
      have y11 : (wr.setCell ⟨q, 2, none⟩ (.int .i64 (RA.st.c + 1))).cell? ⟨q, 11, none⟩ = some vo := by simp [go_sem, co]
      have z0 : (wr.setCell ⟨q, 2, none⟩ (.int .i64 (RA.st.c + 1))).cell? ⟨w.heap.size + 1 + 1 + 1, 0, none⟩ = some (.int .i64 0) := by simp [go_sem, r0]
      have z1 : (wr.setCell ⟨q, 2, none⟩ (.int .i64 (RA.st.c + 1))).cell? ⟨w.heap.size + 1 + 1 + 1, 1, none⟩ = some (.int .i64 0) := by simp [go_sem, r1]
      have z2 : (wr.setCell ⟨q, 2, none⟩ (.int .i64 (RA.st.c + 1))).cell? ⟨w.heap.size + 1 + 1 + 1, 2, none⟩ = some (.int .i64 0) := by simp [go_sem, r2]
      have zf : ∀ i, (wr.setCell ⟨q, 2, none⟩ (.int .i64 (RA.st.c + 1))).frozen? ⟨w.heap.size + 1 + 1 + 1, i, none⟩ = false := fun i => by simpa [go_sem] using rf i
      generalize wr.setCell ⟨q, 2, none⟩ (.int .i64 (RA.st.c + 1)) = Y at *
      clear x0 x1 x2 cs co fz r0 r1 r2 rf
      go_region_held3 (fun w' => w'.cell? ⟨q, 0, none⟩ = some (.int .i64 RA.st.x) ∧ w'.cell? ⟨q, 1, none⟩ = some (.int .i64 RA.st.y) ∧ w'.cell? ⟨q, 2, none⟩ = some (.int .i64 (RA.st.c + 1)) ∧ w'.cell? ⟨q, 10, none⟩ = some vs ∧ w'.cell? ⟨q, 11, none⟩ = some vo)
        (simp [*, go_sem])
        (fail)
      all_goals go_wp2_with fail
      all_goals refine bodyPost_ret (v := .tuple #[.agg #[.int .i64 RA.st.x, .int .i64 RA.st.y, .int .i64 (RA.st.c + 1)], vs, vo]) ?_ rfl ((unhide HEND) _ _ _)
      all_goals simp [results, Tryd.results22, go_sem, z0, z1, z2]

theorem specAppRun_any (rs : List RuleV) (rv : Value) (s : StV) (ev : EvV) (w : World) (ho : RulesAt w rv rs) :
    Calls Tryd.prog 22 #[.agg #[rv], stAgg s, evAgg ev] w fun r w' => Answers w w' r (appRun rs s ev) := by
  cases ha : appOk rs
  · exact specAppRun_app rs rv s ev w ho ha
  · cases hs : stOk s
    · exact specAppRun_st rs rv s ev w ho ha hs
    · cases he : evOk ev
      · exact specAppRun_ev rs rv s ev w ho ha hs he
      · by_cases hc : 12 ≤ s.c
        · exact specAppRun_most rs rv s ev w ho ha hs he hc
        · exact specAppRun_do rs rv s ev w ho ha hs he hc
end Go.Proofs.YtjbgiepaehefpaaDoor
