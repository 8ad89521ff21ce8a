/- impl's workOut, whole: its last way. -/
import Derived.Test.YtjbgiepaehefpaaDoorIm10
import Derived.Deep.Cut
namespace Go.Proofs.YtjbgiepaehefpaaDoor
open Go.RowKit
set_option linter.unusedVariables false
set_option linter.unusedSimpArgs false

set_option maxRecDepth 100000 in
set_option maxHeartbeats 1600000 in
theorem workOut_do (rs : List RuleV) (rv : Value) (s : StV) (ev : EvV) (w : World) (hsh : Shapes w 0) (ho : RulesAt w rv rs) (ha : appOk rs = true) (hs : stOk s = true) (he : evOk ev = true) (hc : ¬ 12 ≤ s.c) :
    Calls Tryd.prog 60 #[.agg #[rv], stAgg s, evAgg ev] w fun r w' => WorkAns w w' r (appRun rs s ev) := by
  have HOW := hide ho
  have hst := stOk_in hs
  have hev := evOk_in he
  have hko := app_kindOps ha ev.kind
  rw [appRun_ops ha hs he hc]
  generalize hRA : runOps ev (kindOps ev.kind rs) 0 ⟨s, [], []⟩ = RA
  have hmf : ∀ (fn : Fn) (first cap : Array Value) (w : World), (Instr.makeFunc fn first cap).run Tryd.prog w = .ok (.func fn first cap) w := fun _ _ _ _ => rfl
  have hbx := wboxes_at w rv s ev
  have hbz := wzeros_at w rv s ev
  have hbb := wboxed_below w rv s ev
  have hN : w.heap.size + 4 ≤ (wboxed w rv s ev).heap.size := by rw [wboxed_size]; omega
  obtain ⟨x, y, c⟩ := s
  obtain ⟨time, to, src, count, n, kind, arg⟩ := ev
  have HSH := hide (hsh.on hbb)
  have HO := hide (ho.on hbb)
  have HX := hide hbx
  have HZ := hide hbz
  have HN := hide hN
  have HBB := hide hbb
  clear hbx hbz hN hbb hsh ho
  have HRA := hide hRA
  clear hRA
  have hc' : c < (12 : Int) := by have := hc; simp only at this; omega
  clear hc
  have HST := hide hst
  have HKO := hide hko
  clear hst hko
  go_enter_defers Tryd.func60, Tryd.ntmps60
  go_wp2_with fail
  unfold wboxed at HSH HO HX HZ HN HBB
  refine (needApp_any rs rv _ (unhide HSH) (unhide HO)).mono ?_
  rw [ha]
  rintro e w1 ⟨⟨_, rfl⟩ | ⟨hok, u, pv, rfl⟩, hb⟩
  rotate_left
  · cases hok
  · have HX1 := hide ((unhide HX).on (by have := unhide HN; omega) hb)
    have HZ1 := hide ((unhide HZ).on hb)
    have HN1 : Hid (w.heap.size + 4 ≤ w1.heap.size) := hide (by have := unhide HN; have := hb.size; omega)
    have hB1 : Below w.heap.size w w1 := below_then (unhide HBB) hb
    clear HX HZ HN HBB HSH HO hb
    dsimp only
    have s0 := (unhide HX1).s0
    have s1 := (unhide HX1).s1
    have s2 := (unhide HX1).s2
    have v0 := (unhide HX1).v0
    have v1 := (unhide HX1).v1
    have v2 := (unhide HX1).v2
    have v3 := (unhide HX1).v3
    have v4 := (unhide HX1).v4
    have v5 := (unhide HX1).v5
    have v6 := (unhide HX1).v6
    simp only at s0 s1 s2 v0 v1 v2 v3 v4 v5 v6
    go_wp2_with fail
    go_at_call 84
    refine (stateInForm_any ⟨x, y, c⟩ _).mono ?_
    rw [hs]
    rintro e w2 ⟨rfl, hb⟩
    have HX2 := hide ((unhide HX1).on (by have := unhide HN1; omega) hb)
    have HZ2 := hide ((unhide HZ1).on hb)
    have HN2 : Hid (w.heap.size + 4 ≤ w2.heap.size) := hide (by have := unhide HN1; have := hb.size; omega)
    have hB2 : Below w.heap.size w w2 := below_then hB1 hb
    clear s0 s1 s2 v0 v1 v2 v3 v4 v5 v6 HX1 HZ1 HN1 hB1 hb
    have HX1 := HX2
    have HZ1 := HZ2
    have HN1 := HN2
    have hB1 := hB2
    clear HX2 HZ2 HN2 hB2
    dsimp only
    go_wp2_with fail
    go_at_call 83
    refine (need_yes _ _).mono ?_
    rintro e wn ⟨rfl, hw⟩
    obtain rfl := hw.symm
    dsimp only
    have s0 := (unhide HX1).s0
    have s1 := (unhide HX1).s1
    have s2 := (unhide HX1).s2
    have v0 := (unhide HX1).v0
    have v1 := (unhide HX1).v1
    have v2 := (unhide HX1).v2
    have v3 := (unhide HX1).v3
    have v4 := (unhide HX1).v4
    have v5 := (unhide HX1).v5
    have v6 := (unhide HX1).v6
    simp only at s0 s1 s2 v0 v1 v2 v3 v4 v5 v6
    go_wp2_with fail
    go_at_call 85
    refine (eventInForm_any ⟨time, to, src, count, n, kind, arg⟩ _).mono ?_
    rw [he]
    rintro e w3 ⟨rfl, hb⟩
    have HX2 := hide ((unhide HX1).on (by have := unhide HN1; omega) hb)
    have HZ2 := hide ((unhide HZ1).on hb)
    have HN2 : Hid (w.heap.size + 4 ≤ w3.heap.size) := hide (by have := unhide HN1; have := hb.size; omega)
    have hB2 : Below w.heap.size w w3 := below_then hB1 hb
    clear s0 s1 s2 v0 v1 v2 v3 v4 v5 v6 HX1 HZ1 HN1 hB1 hb
    have HX1 := HX2
    have HZ1 := HZ2
    have HN1 := HN2
    have hB1 := hB2
    clear HX2 HZ2 HN2 hB2
    dsimp only
    go_wp2_with fail
    go_at_call 83
    refine (need_yes _ _).mono ?_
    rintro e wn ⟨rfl, hw⟩
    obtain rfl := hw.symm
    dsimp only
    have s0 := (unhide HX1).s0
    have s1 := (unhide HX1).s1
    have s2 := (unhide HX1).s2
    have v0 := (unhide HX1).v0
    have v1 := (unhide HX1).v1
    have v2 := (unhide HX1).v2
    have v3 := (unhide HX1).v3
    have v4 := (unhide HX1).v4
    have v5 := (unhide HX1).v5
    have v6 := (unhide HX1).v6
    simp only at s0 s1 s2 v0 v1 v2 v3 v4 v5 v6
    obtain ⟨c0, c1, c2, c3, c4, c5, c6, c7, c8, c9, c10, c11, c12, fz⟩ := unhide HZ1
    have HM := hide (filled_at (unhide HZ1) ⟨x, y, c⟩ ⟨time, to, src, count, n, kind, arg⟩)
    have HBF := hide (filled_below hB1 (show w.heap.size ≤ w.heap.size + 1 + 1 + 1 by omega) ⟨x, y, c⟩ ⟨time, to, src, count, n, kind, arg⟩)
    have HBQ := hide (filled_below (B := w.heap.size + 1 + 1 + 1) (Below.refl _ w3) (Nat.le_refl _) ⟨x, y, c⟩ ⟨time, to, src, count, n, kind, arg⟩)
    go_upto_region 6 with fail
    change Code.wp _ _ _ _ (filled w3 (w.heap.size + 1 + 1 + 1) ⟨x, y, c⟩ ⟨time, to, src, count, n, kind, arg⟩)
    have HXF := hide ((unhide HX1).on (q := w.heap.size + 1 + 1 + 1) (by omega) (unhide HBQ))
    generalize filled w3 (w.heap.size + 1 + 1 + 1) ⟨x, y, c⟩ ⟨time, to, src, count, n, kind, arg⟩ = F at *
    clear c0 c1 c2 c3 c4 c5 c6 c7 c8 c9 c10 c11 c12 fz s0 s1 s2 v0 v1 v2 v3 v4 v5 v6
    have a0 := (unhide HXF).a0
    have s2 := (unhide HXF).s2
    have v5 := (unhide HXF).v5
    simp only at s2 v5
    go_wp2_with fail
    clear a0 s2 v5
    go_at_call 87
    refine (opsOfKind_any w rs rv kind _ (unhide HOW) (unhide HBF)).mono ?_
    rintro e w4 ⟨ov, rfl, hops, hb4⟩
    have HM4 := hide ((unhide HM).on hb4)
    have HB4 := hide (below_then (unhide HBF) hb4)
    have HOPS := hide hops
    clear hops hb4
    dsimp only
    go_wp2_with fail
    go_at_call 86
    refine (doAll_any (kindOps kind rs) (unhide HKO).1 (unhide HKO).2 ov (w.heap.size + 1 + 1 + 1) ⟨x, y, c⟩ ⟨time, to, src, count, n, kind, arg⟩ w4 _ _ (unhide HM4) (unhide HST) hev.2.2.1 hev.2.2.2 hev.1 hev.2.1 (fun w' hb => (unhide HOPS).on ((unhide HB4).trans (hb.mono (by omega))))).mono ?_
    rintro e w5 ⟨sk, vs, vo, rfl, hm5, hsi5, hb5⟩
    rw [unhide HRA] at hm5 hsi5
    obtain ⟨⟨rx, ry, rc⟩, rsends, routs⟩ := RA
    dsimp only at hm5 hsi5 ⊢
    have hB5 : Below w.heap.size w w5 := (unhide HB4).trans (hb5.mono (by omega))
    have hrc : 0 ≤ rc ∧ rc ≤ 12 := by unfold stIn at hsi5; exact ⟨hsi5.2.2.2.2.1, hsi5.2.2.2.2.2⟩
    obtain ⟨hrc0, hrc1⟩ := hrc
    obtain ⟨sa, sc, rfl⟩ : ∃ a c, vs = .slice a rsends.length c := by
      obtain ⟨_, ⟨rfl, h0⟩ | ⟨g, cap, cur, rfl, _⟩⟩ := hm5.os
      · exact ⟨none, 0, by rw [h0]⟩
      · exact ⟨_, _, rfl⟩
    obtain ⟨oa, oc, rfl⟩ : ∃ a c, vo = .slice a routs.length c := by
      obtain ⟨_, ⟨rfl, h0⟩ | ⟨g, cap, cur, rfl, _⟩⟩ := hm5.oo
      · exact ⟨none, 0, by rw [h0]⟩
      · exact ⟨_, _, rfl⟩
    have x2 := hm5.x2
    have fz := hm5.fz
    dsimp only at x2
    have HMC := hide hm5.count
    have HBC : Hid (Below w.heap.size w (w5.setCell ⟨w.heap.size + 1 + 1 + 1, 9, none⟩ (.int .i64 (rc + 1)))) := hide (hB5.setCell (show w.heap.size ≤ w.heap.size + 1 + 1 + 1 by omega) _)
    clear hm5 hsi5 hb5
    go_upto_region 9 with fail
    clear x2 fz
    dsimp only at HMC
    generalize w5.setCell ⟨w.heap.size + 1 + 1 + 1, 9, none⟩ (.int .i64 (rc + 1)) = G at *
    have HM2 := hide (again_at (unhide HMC))
    have HB2 := hide (again_below (unhide HBC) (show w.heap.size ≤ w.heap.size + 1 + 1 + 1 by omega) ⟨rx, ry, rc + 1⟩ ⟨time, to, src, count, n, kind, arg⟩ sk (.slice sa rsends.length sc) (.slice oa routs.length oc))
    obtain ⟨e0, e1, e6, e2, e3, e4, e5, x0, x1, x2, ck, cs, co, fz, _, _, _⟩ := unhide HMC
    dsimp only at e0 e1 e6 e2 e3 e4 e5 x0 x1 x2 ck cs co HM2
    go_wp2_with fail
    clear e0 e1 e6 e2 e3 e4 e5 x0 x1 x2 ck cs co fz
    change bodyPostD _ _ _ _ _ (again G (w.heap.size + 1 + 1 + 1) ⟨rx, ry, rc + 1⟩ ⟨time, to, src, count, n, kind, arg⟩ sk (.slice sa rsends.length sc) (.slice oa routs.length oc))
    generalize again G (w.heap.size + 1 + 1 + 1) ⟨rx, ry, rc + 1⟩ ⟨time, to, src, count, n, kind, arg⟩ sk (.slice sa rsends.length sc) (.slice oa routs.length oc) = Z at *
    have HA := hide (work_ends (R := ⟨⟨rx, ry, rc + 1⟩, rsends, routs⟩) (unhide HM2) (show w.heap.size ≤ w.heap.size + 1 + 1 + 1 by omega) (unhide HB2))
    refine leaves_cons (f := 81) (args := #[.pointer (some ⟨w.heap.size + 1 + 1 + 1, 0, none⟩)]) (by simp) (by simp [go_sem]) ?_
    refine (catchWork_idle ⟨w.heap.size + 1 + 1 + 1, 0, none⟩ _).mono ?_
    rintro e u' w'' ⟨rfl, rfl, rfl⟩
    obtain ⟨e0, e1, e6, e2, e3, e4, e5, x0, x1, x2, ck, cs, co, _, _, _, _⟩ := unhide HM2
    simp [Leaves, settle, results, Tryd.results60, go_sem, e0, e1, e2, e3, e4, e5, e6, x0, x1, x2, ck, cs, co]
    exact unhide HA

theorem workOut_any (rs : List RuleV) (rv : Value) (s : StV) (ev : EvV) (w : World) (hsh : Shapes w 0) (ho : RulesAt w rv rs) :
    Calls Tryd.prog 60 #[.agg #[rv], stAgg s, evAgg ev] w fun r w' => WorkAns w w' r (appRun rs s ev) := by
  cases ha : appOk rs
  · exact workOut_app rs rv s ev w hsh ho ha
  · cases hs : stOk s
    · exact workOut_st rs rv s ev w hsh ho ha hs
    · cases he : evOk ev
      · exact workOut_ev rs rv s ev w hsh ho ha hs he
      · by_cases hc : 12 ≤ s.c
        · exact workOut_most rs rv s ev w hsh ho ha hs he hc
        · exact workOut_do rs rv s ev w hsh ho ha hs he hc
end Go.Proofs.YtjbgiepaehefpaaDoor
