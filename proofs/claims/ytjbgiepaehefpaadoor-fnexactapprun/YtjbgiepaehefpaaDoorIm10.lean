/- impl's workOut, whole. -/
import Derived.Test.YtjbgiepaehefpaaDoorIm9
namespace Go.Proofs.YtjbgiepaehefpaaDoor
open Go.RowKit
set_option linter.unusedVariables false
set_option linter.unusedSimpArgs false

/-- Work that begins. -/
def filled (w : World) (q : Nat) (s : StV) (ev : EvV) : World :=
  ((((((((((((w.setCell ⟨q, 0, none⟩ (.int .i64 ev.time)).setCell ⟨q, 1, none⟩ (.int .i64 ev.to)).setCell ⟨q, 2, none⟩ (.int .i64 ev.src)).setCell ⟨q, 3, none⟩ (.int .i64 ev.count)).setCell ⟨q, 4, none⟩ (.int .i64 ev.n)).setCell ⟨q, 5, none⟩ (.int .i64 ev.kind)).setCell ⟨q, 6, none⟩ (.int .i64 ev.arg)).setCell ⟨q, 7, none⟩ (.int .i64 s.x)).setCell ⟨q, 8, none⟩ (.int .i64 s.y)).setCell ⟨q, 9, none⟩ (.int .i64 s.c)).setCell ⟨q, 10, none⟩ (.int .i64 0)).setCell ⟨q, 11, none⟩ (.slice none 0 0)).setCell ⟨q, 12, none⟩ (.slice none 0 0)

theorem filled_at {w : World} {q : Nat} (h : Zeros w q) (s : StV) (ev : EvV) : ImMem (filled w q s ev) q s ev 0 (.slice none 0 0) (.slice none 0 0) [] [] := by
  obtain ⟨c0, c1, c2, c3, c4, c5, c6, c7, c8, c9, c10, c11, c12, fz⟩ := h
  unfold filled
  refine ⟨?_, ?_, ?_, ?_, ?_, ?_, ?_, ?_, ?_, ?_, ?_, ?_, ?_, fun i => ?_, World.ownsRow_nil _ _ _ _, World.ownsRow_nil _ _ _ _, Or.inl rfl⟩ <;> simp [go_sem, c0, c1, c2, c3, c4, c5, c6, c7, c8, c9, c10, c11, c12, fz]

theorem filled_below {w0 w : World} {q B : Nat} (h : Below B w0 w) (hq : B ≤ q) (s : StV) (ev : EvV) : Below B w0 (filled w q s ev) :=
  ((((((((((((h.setCell hq _).setCell hq _).setCell hq _).setCell hq _).setCell hq _).setCell hq _).setCell hq _).setCell hq _).setCell hq _).setCell hq _).setCell hq _).setCell hq _).setCell hq _

/-- Work stored over itself. -/
def again (w : World) (q : Nat) (s : StV) (ev : EvV) (sk : Int) (vs vo : Value) : World :=
  ((((((((((((w.setCell ⟨q, 0, none⟩ (.int .i64 ev.time)).setCell ⟨q, 1, none⟩ (.int .i64 ev.to)).setCell ⟨q, 2, none⟩ (.int .i64 ev.src)).setCell ⟨q, 3, none⟩ (.int .i64 ev.count)).setCell ⟨q, 4, none⟩ (.int .i64 ev.n)).setCell ⟨q, 5, none⟩ (.int .i64 ev.kind)).setCell ⟨q, 6, none⟩ (.int .i64 ev.arg)).setCell ⟨q, 7, none⟩ (.int .i64 s.x)).setCell ⟨q, 8, none⟩ (.int .i64 s.y)).setCell ⟨q, 9, none⟩ (.int .i64 s.c)).setCell ⟨q, 10, none⟩ (.int .i64 sk)).setCell ⟨q, 11, none⟩ vs).setCell ⟨q, 12, none⟩ vo

theorem again_below {w0 w : World} {q B : Nat} (h : Below B w0 w) (hq : B ≤ q) (s : StV) (ev : EvV) (sk : Int) (vs vo : Value) : Below B w0 (again w q s ev sk vs vo) :=
  ((((((((((((h.setCell hq _).setCell hq _).setCell hq _).setCell hq _).setCell hq _).setCell hq _).setCell hq _).setCell hq _).setCell hq _).setCell hq _).setCell hq _).setCell hq _).setCell hq _

theorem again_owns {w : World} {q B : Nat} {e : TypeId} {size : Nat} {v : Value} {n : Nat} {xs : List Value} (h : w.ownsRow B e size v n xs) (hq : q < B) (s : StV) (ev : EvV) (sk : Int) (vs vo : Value) : (again w q s ev sk vs vo).ownsRow B e size v n xs :=
  ownsRow_setCell_below (ownsRow_setCell_below (ownsRow_setCell_below (ownsRow_setCell_below (ownsRow_setCell_below (ownsRow_setCell_below (ownsRow_setCell_below (ownsRow_setCell_below (ownsRow_setCell_below (ownsRow_setCell_below (ownsRow_setCell_below (ownsRow_setCell_below (ownsRow_setCell_below h hq _) hq _) hq _) hq _) hq _) hq _) hq _) hq _) hq _) hq _) hq _) hq _) hq _

theorem again_at {w : World} {q : Nat} {s : StV} {ev : EvV} {sk : Int} {vs vo : Value} {sends : List EvV} {outs : List OutV} (h : ImMem w q s ev sk vs vo sends outs) : ImMem (again w q s ev sk vs vo) q s ev sk vs vo sends outs := by
  have hos := again_owns h.os (Nat.lt_succ_self q) s ev sk vs vo
  have hoo := again_owns h.oo (Nat.lt_succ_self q) s ev sk vs vo
  obtain ⟨e0, e1, e6, e2, e3, e4, e5, x0, x1, x2, ck, cs, co, fz, _, _, ne⟩ := h
  refine ⟨?_, ?_, ?_, ?_, ?_, ?_, ?_, ?_, ?_, ?_, ?_, ?_, ?_, fun i => ?_, hos, hoo, ne⟩ <;> simp [again, go_sem, e0, e1, e2, e3, e4, e5, e6, x0, x1, x2, ck, cs, co, fz]

theorem work_ends {w W : World} {q : Nat} {R : RunV} {ev : EvV} {sk : Int} {vs vo : Value} (hR : ImMem W q R.st ev sk vs vo R.sends R.outs) (hq : w.heap.size ≤ q) (hB : Below w.heap.size w W) :
    WorkAns w W (.returned (workAgg ev R.st sk vs vo)) R :=
  ⟨ev, sk, vs, vo, rfl, ownsRow_lower hR.os (by omega), ownsRow_lower hR.oo (by omega), hR.ne, hB⟩

theorem ImMem.count {w : World} {q : Nat} {s : StV} {ev : EvV} {sk : Int} {vs vo : Value} {sends : List EvV} {outs : List OutV} (h : ImMem w q s ev sk vs vo sends outs) :
    ImMem (w.setCell ⟨q, 9, none⟩ (.int .i64 (s.c + 1))) q { s with c := s.c + 1 } ev sk vs vo sends outs := by
  have hos := ownsRow_setCell_below h.os (a := ⟨q, 9, none⟩) (Nat.lt_succ_self q) (.int .i64 (s.c + 1))
  have hoo := ownsRow_setCell_below h.oo (a := ⟨q, 9, none⟩) (Nat.lt_succ_self q) (.int .i64 (s.c + 1))
  obtain ⟨e0, e1, e6, e2, e3, e4, e5, x0, x1, x2, ck, cs, co, fz, _, _, ne⟩ := h
  refine ⟨?_, ?_, ?_, ?_, ?_, ?_, ?_, ?_, ?_, ?_, ?_, ?_, ?_, fun i => ?_, hos, hoo, ne⟩ <;> simp [go_sem, e0, e1, e2, e3, e4, e5, e6, x0, x1, x2, ck, cs, co, fz]

theorem runRules_none (ev : EvV) (R : RunV) : ∀ (rs : List RuleV), (∀ x ∈ rs, x.kind ≠ ev.kind) → runRules ev rs R = R
  | [], _ => rfl
  | r :: t, h => by
    rw [runRules, if_neg (h r (List.mem_cons_self ..))]
    exact runRules_none ev R t (fun x hx => h x (List.mem_cons_of_mem _ hx))

/-- Kinds ascend. -/
def asc : List RuleV → Prop
  | [] => True
  | r :: t => (∀ x ∈ t, r.kind < x.kind) ∧ asc t

theorem runRules_one (ev : EvV) (R : RunV) : ∀ (rs : List RuleV), asc rs → runRules ev rs R = runOps ev (kindOps ev.kind rs) 0 R
  | [], _ => by simp [runRules, kindOps, runOps]
  | r :: t, h => by
    rw [runRules, kindOps]
    by_cases hk : r.kind = ev.kind
    · rw [if_pos hk, if_pos hk]
      exact runRules_none ev _ t (fun x hx => by have := h.1 x hx; omega)
    · rw [if_neg hk, if_neg hk]
      exact runRules_one ev R t h.2

theorem asc_of : ∀ (rs : List RuleV), (∀ k (h : k + 1 < rs.length), (rs[k]'(by omega)).kind < rs[k + 1].kind) → asc rs
  | [], _ => trivial
  | [r], _ => ⟨by simp, trivial⟩
  | r :: r2 :: t, h => by
    have h2 : asc (r2 :: t) := asc_of (r2 :: t) (fun k hk => h (k + 1) (by simp at hk ⊢; omega))
    have h0 : r.kind < r2.kind := h 0 (by simp)
    refine ⟨?_, h2⟩
    intro x hx
    rcases List.mem_cons.1 hx with rfl | hx
    · exact h0
    · have := h2.1 x hx; omega

theorem app_asc {rs : List RuleV} (h : appOk rs = true) : asc rs := by
  refine asc_of rs (fun k hk => ?_)
  have h2 : (List.range rs.length).all (stepOk rs) = true := by
    unfold appOk at h
    exact (Bool.and_eq_true_iff.1 h).2
  have h3 := List.all_eq_true.1 h2 (k + 1) (List.mem_range.2 hk)
  rw [stepOk_more rs (k + 1) hk (by omega)] at h3
  simpa using (Bool.and_eq_true_iff.1 h3).2

theorem kindOps_ok {kind : Int} : ∀ (rs : List RuleV), (∀ r ∈ rs, opsOk r.ops = true ∧ r.ops.length ≤ 8) → opsOk (kindOps kind rs) = true ∧ (kindOps kind rs).length ≤ 8
  | [], _ => by simp [kindOps, opsOk]
  | r :: t, h => by
    rw [kindOps]
    split
    · exact h r (List.mem_cons_self ..)
    · exact kindOps_ok t (fun x hx => h x (List.mem_cons_of_mem _ hx))

theorem app_kindOps {rs : List RuleV} (h : appOk rs = true) (kind : Int) : opsOk (kindOps kind rs) = true ∧ (kindOps kind rs).length ≤ 8 :=
  kindOps_ok rs (fun r hr => by
    obtain ⟨i, hi, rfl⟩ := List.getElem_of_mem hr
    exact app_rule h i hi)

theorem appRun_ops {rs : List RuleV} {s : StV} {ev : EvV} (h1 : appOk rs = true) (h2 : stOk s = true) (h3 : evOk ev = true) (h : ¬ 12 ≤ s.c) :
    appRun rs s ev = ⟨{ (runOps ev (kindOps ev.kind rs) 0 ⟨s, [], []⟩).st with c := (runOps ev (kindOps ev.kind rs) 0 ⟨s, [], []⟩).st.c + 1 }, (runOps ev (kindOps ev.kind rs) 0 ⟨s, [], []⟩).sends, (runOps ev (kindOps ev.kind rs) 0 ⟨s, [], []⟩).outs⟩ := by
  rw [appRun_do h1 h2 h3 h, runRules_one ev ⟨s, [], []⟩ rs (app_asc h1)]

set_option maxRecDepth 100000 in
set_option maxHeartbeats 1600000 in
theorem workOut_most (rs : List RuleV) (rv : Value) (s : StV) (ev : EvV) (w : World) (hsh : Shapes w 0) (ho : RulesAt w rv rs) (ha : appOk rs = true) (hs : stOk s = true) (he : evOk ev = true) (hc : 12 ≤ s.c) :
    Calls Tryd.prog 60 #[.agg #[rv], stAgg s, evAgg ev] w fun r w' => WorkAns w w' r (appRun rs s ev) := by
  rw [appRun_most ha hs he hc]
  have hmf : ∀ (fn : Fn) (first cap : Array Value) (w : World), (Instr.makeFunc fn first cap).run Tryd.prog w = .ok (.func fn first cap) w := fun _ _ _ _ => rfl
  have hbx := wboxes_at w rv s ev
  have hbz := wzeros_at w rv s ev
  have hbb := wboxed_below w rv s ev
  have hN : w.heap.size + 4 ≤ (wboxed w rv s ev).heap.size := by rw [wboxed_size]; omega
  obtain ⟨x, y, c⟩ := s
  obtain ⟨time, to, src, count, n, kind, arg⟩ := ev
  have HSH := hide (hsh.on hbb)
  have HO := hide (ho.on hbb)
  have HX := hide hbx
  have HZ := hide hbz
  have HN := hide hN
  have HBB := hide hbb
  clear hbx hbz hN hbb hsh ho
  have hc' : ¬ c < (12 : Int) := by have := hc; simp only at this; omega
  clear hc
  go_enter_defers Tryd.func60, Tryd.ntmps60
  go_wp2_with fail
  unfold wboxed at HSH HO HX HZ HN HBB
  refine (needApp_any rs rv _ (unhide HSH) (unhide HO)).mono ?_
  rw [ha]
  rintro e w1 ⟨⟨_, rfl⟩ | ⟨hok, u, pv, rfl⟩, hb⟩
  rotate_left
  · cases hok
  · have HX1 := hide ((unhide HX).on (by have := unhide HN; omega) hb)
    have HZ1 := hide ((unhide HZ).on hb)
    have HN1 : Hid (w.heap.size + 4 ≤ w1.heap.size) := hide (by have := unhide HN; have := hb.size; omega)
    have hB1 : Below w.heap.size w w1 := below_then (unhide HBB) hb
    clear HX HZ HN HBB HSH HO hb
    dsimp only
    have s0 := (unhide HX1).s0
    have s1 := (unhide HX1).s1
    have s2 := (unhide HX1).s2
    have v0 := (unhide HX1).v0
    have v1 := (unhide HX1).v1
    have v2 := (unhide HX1).v2
    have v3 := (unhide HX1).v3
    have v4 := (unhide HX1).v4
    have v5 := (unhide HX1).v5
    have v6 := (unhide HX1).v6
    simp only at s0 s1 s2 v0 v1 v2 v3 v4 v5 v6
    go_wp2_with fail
    go_at_call 84
    refine (stateInForm_any ⟨x, y, c⟩ _).mono ?_
    rw [hs]
    rintro e w2 ⟨rfl, hb⟩
    have HX2 := hide ((unhide HX1).on (by have := unhide HN1; omega) hb)
    have HZ2 := hide ((unhide HZ1).on hb)
    have HN2 : Hid (w.heap.size + 4 ≤ w2.heap.size) := hide (by have := unhide HN1; have := hb.size; omega)
    have hB2 : Below w.heap.size w w2 := below_then hB1 hb
    clear s0 s1 s2 v0 v1 v2 v3 v4 v5 v6 HX1 HZ1 HN1 hB1 hb
    have HX1 := HX2
    have HZ1 := HZ2
    have HN1 := HN2
    have hB1 := hB2
    clear HX2 HZ2 HN2 hB2
    dsimp only
    go_wp2_with fail
    go_at_call 83
    refine (need_yes _ _).mono ?_
    rintro e wn ⟨rfl, hw⟩
    obtain rfl := hw.symm
    dsimp only
    have s0 := (unhide HX1).s0
    have s1 := (unhide HX1).s1
    have s2 := (unhide HX1).s2
    have v0 := (unhide HX1).v0
    have v1 := (unhide HX1).v1
    have v2 := (unhide HX1).v2
    have v3 := (unhide HX1).v3
    have v4 := (unhide HX1).v4
    have v5 := (unhide HX1).v5
    have v6 := (unhide HX1).v6
    simp only at s0 s1 s2 v0 v1 v2 v3 v4 v5 v6
    go_wp2_with fail
    go_at_call 85
    refine (eventInForm_any ⟨time, to, src, count, n, kind, arg⟩ _).mono ?_
    rw [he]
    rintro e w3 ⟨rfl, hb⟩
    have HX2 := hide ((unhide HX1).on (by have := unhide HN1; omega) hb)
    have HZ2 := hide ((unhide HZ1).on hb)
    have HN2 : Hid (w.heap.size + 4 ≤ w3.heap.size) := hide (by have := unhide HN1; have := hb.size; omega)
    have hB2 : Below w.heap.size w w3 := below_then hB1 hb
    clear s0 s1 s2 v0 v1 v2 v3 v4 v5 v6 HX1 HZ1 HN1 hB1 hb
    have HX1 := HX2
    have HZ1 := HZ2
    have HN1 := HN2
    have hB1 := hB2
    clear HX2 HZ2 HN2 hB2
    dsimp only
    go_wp2_with fail
    go_at_call 83
    refine (need_yes _ _).mono ?_
    rintro e wn ⟨rfl, hw⟩
    obtain rfl := hw.symm
    dsimp only
    have s0 := (unhide HX1).s0
    have s1 := (unhide HX1).s1
    have s2 := (unhide HX1).s2
    have v0 := (unhide HX1).v0
    have v1 := (unhide HX1).v1
    have v2 := (unhide HX1).v2
    have v3 := (unhide HX1).v3
    have v4 := (unhide HX1).v4
    have v5 := (unhide HX1).v5
    have v6 := (unhide HX1).v6
    simp only at s0 s1 s2 v0 v1 v2 v3 v4 v5 v6
    obtain ⟨c0, c1, c2, c3, c4, c5, c6, c7, c8, c9, c10, c11, c12, fz⟩ := unhide HZ1
    have HM := hide (filled_at (unhide HZ1) ⟨x, y, c⟩ ⟨time, to, src, count, n, kind, arg⟩)
    have HBF := hide (filled_below hB1 (show w.heap.size ≤ w.heap.size + 1 + 1 + 1 by omega) ⟨x, y, c⟩ ⟨time, to, src, count, n, kind, arg⟩)
    have HBQ := hide (filled_below (B := w.heap.size + 1 + 1 + 1) (Below.refl _ w3) (Nat.le_refl _) ⟨x, y, c⟩ ⟨time, to, src, count, n, kind, arg⟩)
    go_wp2_with fail
    have HM2 := hide (again_at (unhide HM))
    have HB2 := hide (again_below (unhide HBF) (show w.heap.size ≤ w.heap.size + 1 + 1 + 1 by omega) ⟨x, y, c⟩ ⟨time, to, src, count, n, kind, arg⟩ 0 (.slice none 0 0) (.slice none 0 0))
    change bodyPostD _ _ _ _ _ (again (filled w3 (w.heap.size + 1 + 1 + 1) ⟨x, y, c⟩ ⟨time, to, src, count, n, kind, arg⟩) (w.heap.size + 1 + 1 + 1) ⟨x, y, c⟩ ⟨time, to, src, count, n, kind, arg⟩ 0 (.slice none 0 0) (.slice none 0 0))
    generalize again (filled w3 (w.heap.size + 1 + 1 + 1) ⟨x, y, c⟩ ⟨time, to, src, count, n, kind, arg⟩) (w.heap.size + 1 + 1 + 1) ⟨x, y, c⟩ ⟨time, to, src, count, n, kind, arg⟩ 0 (.slice none 0 0) (.slice none 0 0) = Z at *
    have HA := hide (work_ends (R := ⟨⟨x, y, c⟩, [], []⟩) (unhide HM2) (show w.heap.size ≤ w.heap.size + 1 + 1 + 1 by omega) (unhide HB2))
    refine leaves_cons (f := 81) (args := #[.pointer (some ⟨w.heap.size + 1 + 1 + 1, 0, none⟩)]) (by simp) (by simp [go_sem]) ?_
    refine (catchWork_idle ⟨w.heap.size + 1 + 1 + 1, 0, none⟩ _).mono ?_
    rintro e u' w'' ⟨rfl, rfl, rfl⟩
    obtain ⟨e0, e1, e6, e2, e3, e4, e5, x0, x1, x2, ck, cs, co, _, _, _, _⟩ := unhide HM2
    simp [Leaves, settle, results, Tryd.results60, go_sem, e0, e1, e2, e3, e4, e5, e6, x0, x1, x2, ck, cs, co]
    exact unhide HA

end Go.Proofs.YtjbgiepaehefpaaDoor
