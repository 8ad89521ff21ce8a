/- impl's workOut: the ways on which it does nothing. -/
import Derived.Test.YtjbgiepaehefpaaDoorIm8
namespace Go.Proofs.YtjbgiepaehefpaaDoor
open Go.RowKit
set_option linter.unusedVariables false
set_option linter.unusedSimpArgs false

/-- The places of workOut's arguments. -/
structure WBoxes (w : World) (N : Nat) (rv : Value) (s : StV) (ev : EvV) : Prop where
  a0 : w.cell? ⟨N, 0, none⟩ = some rv
  s0 : w.cell? ⟨N + 1, 0, none⟩ = some (.int .i64 s.x)
  s1 : w.cell? ⟨N + 1, 1, none⟩ = some (.int .i64 s.y)
  s2 : w.cell? ⟨N + 1, 2, none⟩ = some (.int .i64 s.c)
  v0 : w.cell? ⟨N + 1 + 1, 0, none⟩ = some (.int .i64 ev.time)
  v1 : w.cell? ⟨N + 1 + 1, 1, none⟩ = some (.int .i64 ev.to)
  v2 : w.cell? ⟨N + 1 + 1, 2, none⟩ = some (.int .i64 ev.src)
  v3 : w.cell? ⟨N + 1 + 1, 3, none⟩ = some (.int .i64 ev.count)
  v4 : w.cell? ⟨N + 1 + 1, 4, none⟩ = some (.int .i64 ev.n)
  v5 : w.cell? ⟨N + 1 + 1, 5, none⟩ = some (.int .i64 ev.kind)
  v6 : w.cell? ⟨N + 1 + 1, 6, none⟩ = some (.int .i64 ev.arg)

theorem WBoxes.on {w w' : World} {N : Nat} {rv : Value} {s : StV} {ev : EvV} {q : Nat} (hq : N + 3 ≤ q) (hb : Below q w w') (h : WBoxes w N rv s ev) : WBoxes w' N rv s ev := by
  have hc : ∀ (b i : Nat) (v : Value), b < N + 3 → w.cell? ⟨b, i, none⟩ = some v → w'.cell? ⟨b, i, none⟩ = some v := fun b i v hbq hv => by
    rw [hb.cell (show b < q by omega)]; exact hv
  exact ⟨hc _ _ _ (by omega) h.a0, hc _ _ _ (by omega) h.s0, hc _ _ _ (by omega) h.s1, hc _ _ _ (by omega) h.s2, hc _ _ _ (by omega) h.v0, hc _ _ _ (by omega) h.v1, hc _ _ _ (by omega) h.v2, hc _ _ _ (by omega) h.v3, hc _ _ _ (by omega) h.v4, hc _ _ _ (by omega) h.v5, hc _ _ _ (by omega) h.v6⟩

def wboxed (w : World) (rv : Value) (s : StV) (ev : EvV) : World :=
  ((((w.alloc (Obj.cells #[rv] 34)).alloc (Obj.cells #[.int .i64 s.x, .int .i64 s.y, .int .i64 s.c] 36)).alloc
    (Obj.cells #[.int .i64 ev.time, .int .i64 ev.to, .int .i64 ev.src, .int .i64 ev.count, .int .i64 ev.n, .int .i64 ev.kind, .int .i64 ev.arg] 38)).alloc
    (Obj.cells #[.int .i64 0, .int .i64 0, .int .i64 0, .int .i64 0, .int .i64 0, .int .i64 0, .int .i64 0, .int .i64 0, .int .i64 0, .int .i64 0, .int .i64 0, .slice none 0 0, .slice none 0 0] 97))

theorem wboxes_at (w : World) (rv : Value) (s : StV) (ev : EvV) : WBoxes (wboxed w rv s ev) w.heap.size rv s ev := by
  obtain ⟨x, y, c⟩ := s
  obtain ⟨time, to, src, count, n, kind, arg⟩ := ev
  unfold wboxed
  refine ⟨?_, ?_, ?_, ?_, ?_, ?_, ?_, ?_, ?_, ?_, ?_⟩ <;> simp [go_sem]

theorem wzeros_at (w : World) (rv : Value) (s : StV) (ev : EvV) : Zeros (wboxed w rv s ev) (w.heap.size + 1 + 1 + 1) := by
  unfold wboxed
  refine ⟨?_, ?_, ?_, ?_, ?_, ?_, ?_, ?_, ?_, ?_, ?_, ?_, ?_, fun i => ?_⟩ <;> simp [go_sem]

theorem wboxed_below (w : World) (rv : Value) (s : StV) (ev : EvV) : Below w.heap.size w (wboxed w rv s ev) := by
  unfold wboxed
  exact ((((Below.refl _ _).alloc (Nat.le_refl _) _).alloc (by simp) _).alloc (by simp; omega) _).alloc (by simp; omega) _

theorem wboxed_size (w : World) (rv : Value) (s : StV) (ev : EvV) : (wboxed w rv s ev).heap.size = w.heap.size + 4 := by
  unfold wboxed; simp

abbrev workAgg (e : EvV) (s : StV) (sk : Int) (vs vo : Value) : Value := .agg #[.int .i64 e.time, .int .i64 e.to, .int .i64 e.src, .int .i64 e.count, .int .i64 e.n, .int .i64 e.kind, .int .i64 e.arg, .int .i64 s.x, .int .i64 s.y, .int .i64 s.c, .int .i64 sk, vs, vo]

/-- What workOut answers. -/
def WorkAns (w w' : World) (r : Ending) (R : RunV) : Prop :=
  ∃ (e' : EvV) (sk : Int) (vs vo : Value), r = .returned (workAgg e' R.st sk vs vo) ∧ w'.ownsRow w.heap.size 38 7 vs R.sends.length (evsCells R.sends) ∧ w'.ownsRow w.heap.size 48 5 vo R.outs.length (outsCells R.outs)
    ∧ (vs.ownBlock = none ∨ vs.ownBlock ≠ vo.ownBlock) ∧ Below w.heap.size w w'

theorem work_none {w W : World} (hB : Below w.heap.size w W) (e' : EvV) (s : StV) :
    WorkAns w W (.returned (workAgg e' s 0 (.slice none 0 0) (.slice none 0 0))) ⟨s, [], []⟩ :=
  ⟨e', 0, _, _, rfl, World.ownsRow_nil _ _ _ _, World.ownsRow_nil _ _ _ _, Or.inl rfl, hB⟩

set_option maxRecDepth 100000 in
set_option maxHeartbeats 1600000 in
theorem workOut_app (rs : List RuleV) (rv : Value) (s : StV) (ev : EvV) (w : World) (hsh : Shapes w 0) (ho : RulesAt w rv rs) (ha : appOk rs = false) :
    Calls Tryd.prog 60 #[.agg #[rv], stAgg s, evAgg ev] w fun r w' => WorkAns w w' r (appRun rs s ev) := by
  rw [appRun_app ha]
  have hmf : ∀ (fn : Fn) (first cap : Array Value) (w : World), (Instr.makeFunc fn first cap).run Tryd.prog w = .ok (.func fn first cap) w := fun _ _ _ _ => rfl
  have hbx := wboxes_at w rv s ev
  have hbz := wzeros_at w rv s ev
  have hbb := wboxed_below w rv s ev
  have hN : w.heap.size + 4 ≤ (wboxed w rv s ev).heap.size := by rw [wboxed_size]; omega
  obtain ⟨x, y, c⟩ := s
  obtain ⟨time, to, src, count, n, kind, arg⟩ := ev
  have HSH := hide (hsh.on hbb)
  have HO := hide (ho.on hbb)
  have HX := hide hbx
  have HZ := hide hbz
  have HN := hide hN
  have HBB := hide hbb
  clear hbx hbz hN hbb hsh ho
  go_enter_defers Tryd.func60, Tryd.ntmps60
  go_wp2_with fail
  unfold wboxed at HSH HO HX HZ HN HBB
  refine (needApp_any rs rv _ (unhide HSH) (unhide HO)).mono ?_
  rw [ha]
  rintro e w1 ⟨⟨hok, rfl⟩ | ⟨_, u, pv, rfl⟩, hb⟩
  · cases hok
  · have HX1 := hide ((unhide HX).on (by have := unhide HN; omega) hb)
    have HZ1 := hide ((unhide HZ).on hb)
    have HN1 : Hid (w.heap.size + 4 ≤ w1.heap.size) := hide (by have := unhide HN; have := hb.size; omega)
    have hB1 : Below w.heap.size w w1 := below_then (unhide HBB) hb
    clear HX HZ HN HBB HSH HO hb
    dsimp only
    go_wp2_with fail
    refine leaves_cons (f := 81) (args := #[.pointer (some ⟨w.heap.size + 1 + 1 + 1, 0, none⟩)]) (by simp) (by simp [go_sem]) ?_
    refine (catchWork_panicking (w.heap.size + 1 + 1 + 1) u pv [] _ (unhide HZ1)).mono ?_
    rintro e u' w'' ⟨rfl, rfl, rfl⟩
    have HA := hide (work_none (zeroed_below hB1 (show w.heap.size ≤ w.heap.size + 1 + 1 + 1 by omega)) ⟨0, 0, 0, 0, 0, 0, 0⟩ ⟨0, 0, 0⟩)
    obtain ⟨c0, c1, c2, c3, c4, c5, c6, c7, c8, c9, c10, c11, c12, fz⟩ := zeroed_at (unhide HZ1)
    generalize zeroed w1 (w.heap.size + 1 + 1 + 1) = Z at *
    simp [Leaves, settle, results, Tryd.results60, go_sem, c0, c1, c2, c3, c4, c5, c6, c7, c8, c9, c10, c11, c12]
    exact unhide HA

set_option maxRecDepth 100000 in
set_option maxHeartbeats 1600000 in
theorem workOut_st (rs : List RuleV) (rv : Value) (s : StV) (ev : EvV) (w : World) (hsh : Shapes w 0) (ho : RulesAt w rv rs) (ha : appOk rs = true) (hs : stOk s = false) :
    Calls Tryd.prog 60 #[.agg #[rv], stAgg s, evAgg ev] w fun r w' => WorkAns w w' r (appRun rs s ev) := by
  rw [appRun_st hs]
  have hmf : ∀ (fn : Fn) (first cap : Array Value) (w : World), (Instr.makeFunc fn first cap).run Tryd.prog w = .ok (.func fn first cap) w := fun _ _ _ _ => rfl
  have hbx := wboxes_at w rv s ev
  have hbz := wzeros_at w rv s ev
  have hbb := wboxed_below w rv s ev
  have hN : w.heap.size + 4 ≤ (wboxed w rv s ev).heap.size := by rw [wboxed_size]; omega
  obtain ⟨x, y, c⟩ := s
  obtain ⟨time, to, src, count, n, kind, arg⟩ := ev
  have HSH := hide (hsh.on hbb)
  have HO := hide (ho.on hbb)
  have HX := hide hbx
  have HZ := hide hbz
  have HN := hide hN
  have HBB := hide hbb
  clear hbx hbz hN hbb hsh ho
  go_enter_defers Tryd.func60, Tryd.ntmps60
  go_wp2_with fail
  unfold wboxed at HSH HO HX HZ HN HBB
  refine (needApp_any rs rv _ (unhide HSH) (unhide HO)).mono ?_
  rw [ha]
  rintro e w1 ⟨⟨_, rfl⟩ | ⟨hok, u, pv, rfl⟩, hb⟩
  rotate_left
  · cases hok
  · have HX1 := hide ((unhide HX).on (by have := unhide HN; omega) hb)
    have HZ1 := hide ((unhide HZ).on hb)
    have HN1 : Hid (w.heap.size + 4 ≤ w1.heap.size) := hide (by have := unhide HN; have := hb.size; omega)
    have hB1 : Below w.heap.size w w1 := below_then (unhide HBB) hb
    clear HX HZ HN HBB HSH HO hb
    dsimp only
    have s0 := (unhide HX1).s0
    have s1 := (unhide HX1).s1
    have s2 := (unhide HX1).s2
    have v0 := (unhide HX1).v0
    have v1 := (unhide HX1).v1
    have v2 := (unhide HX1).v2
    have v3 := (unhide HX1).v3
    have v4 := (unhide HX1).v4
    have v5 := (unhide HX1).v5
    have v6 := (unhide HX1).v6
    simp only at s0 s1 s2 v0 v1 v2 v3 v4 v5 v6
    go_wp2_with fail
    go_at_call 84
    refine (stateInForm_any ⟨x, y, c⟩ _).mono ?_
    rw [hs]
    rintro e w2 ⟨rfl, hb⟩
    have HX2 := hide ((unhide HX1).on (by have := unhide HN1; omega) hb)
    have HZ2 := hide ((unhide HZ1).on hb)
    have HN2 : Hid (w.heap.size + 4 ≤ w2.heap.size) := hide (by have := unhide HN1; have := hb.size; omega)
    have hB2 : Below w.heap.size w w2 := below_then hB1 hb
    clear s0 s1 s2 v0 v1 v2 v3 v4 v5 v6 HX1 HZ1 HN1 hB1 hb
    have HX1 := HX2
    have HZ1 := HZ2
    have HN1 := HN2
    have hB1 := hB2
    clear HX2 HZ2 HN2 hB2
    dsimp only
    go_wp2_with fail
    go_at_call 83
    refine (need_no _ _).mono ?_
    rintro e wn ⟨⟨u, pv, rfl⟩, hw⟩
    obtain rfl := hw.symm
    dsimp only
    go_wp2_with fail
    refine leaves_cons (f := 81) (args := #[.pointer (some ⟨w.heap.size + 1 + 1 + 1, 0, none⟩)]) (by simp) (by simp [go_sem]) ?_
    refine (catchWork_panicking (w.heap.size + 1 + 1 + 1) u pv [] _ (unhide HZ1)).mono ?_
    rintro e u' w'' ⟨rfl, rfl, rfl⟩
    have HA := hide (work_none (zeroed_below hB1 (show w.heap.size ≤ w.heap.size + 1 + 1 + 1 by omega)) ⟨0, 0, 0, 0, 0, 0, 0⟩ ⟨0, 0, 0⟩)
    obtain ⟨c0, c1, c2, c3, c4, c5, c6, c7, c8, c9, c10, c11, c12, fz⟩ := zeroed_at (unhide HZ1)
    generalize zeroed w2 (w.heap.size + 1 + 1 + 1) = Z at *
    simp [Leaves, settle, results, Tryd.results60, go_sem, c0, c1, c2, c3, c4, c5, c6, c7, c8, c9, c10, c11, c12]
    exact unhide HA

set_option maxRecDepth 100000 in
set_option maxHeartbeats 1600000 in
theorem workOut_ev (rs : List RuleV) (rv : Value) (s : StV) (ev : EvV) (w : World) (hsh : Shapes w 0) (ho : RulesAt w rv rs) (ha : appOk rs = true) (hs : stOk s = true) (he : evOk ev = false) :
    Calls Tryd.prog 60 #[.agg #[rv], stAgg s, evAgg ev] w fun r w' => WorkAns w w' r (appRun rs s ev) := by
  rw [appRun_ev he]
  have hmf : ∀ (fn : Fn) (first cap : Array Value) (w : World), (Instr.makeFunc fn first cap).run Tryd.prog w = .ok (.func fn first cap) w := fun _ _ _ _ => rfl
  have hbx := wboxes_at w rv s ev
  have hbz := wzeros_at w rv s ev
  have hbb := wboxed_below w rv s ev
  have hN : w.heap.size + 4 ≤ (wboxed w rv s ev).heap.size := by rw [wboxed_size]; omega
  obtain ⟨x, y, c⟩ := s
  obtain ⟨time, to, src, count, n, kind, arg⟩ := ev
  have HSH := hide (hsh.on hbb)
  have HO := hide (ho.on hbb)
  have HX := hide hbx
  have HZ := hide hbz
  have HN := hide hN
  have HBB := hide hbb
  clear hbx hbz hN hbb hsh ho
  go_enter_defers Tryd.func60, Tryd.ntmps60
  go_wp2_with fail
  unfold wboxed at HSH HO HX HZ HN HBB
  refine (needApp_any rs rv _ (unhide HSH) (unhide HO)).mono ?_
  rw [ha]
  rintro e w1 ⟨⟨_, rfl⟩ | ⟨hok, u, pv, rfl⟩, hb⟩
  rotate_left
  · cases hok
  · have HX1 := hide ((unhide HX).on (by have := unhide HN; omega) hb)
    have HZ1 := hide ((unhide HZ).on hb)
    have HN1 : Hid (w.heap.size + 4 ≤ w1.heap.size) := hide (by have := unhide HN; have := hb.size; omega)
    have hB1 : Below w.heap.size w w1 := below_then (unhide HBB) hb
    clear HX HZ HN HBB HSH HO hb
    dsimp only
    have s0 := (unhide HX1).s0
    have s1 := (unhide HX1).s1
    have s2 := (unhide HX1).s2
    have v0 := (unhide HX1).v0
    have v1 := (unhide HX1).v1
    have v2 := (unhide HX1).v2
    have v3 := (unhide HX1).v3
    have v4 := (unhide HX1).v4
    have v5 := (unhide HX1).v5
    have v6 := (unhide HX1).v6
    simp only at s0 s1 s2 v0 v1 v2 v3 v4 v5 v6
    go_wp2_with fail
    go_at_call 84
    refine (stateInForm_any ⟨x, y, c⟩ _).mono ?_
    rw [hs]
    rintro e w2 ⟨rfl, hb⟩
    have HX2 := hide ((unhide HX1).on (by have := unhide HN1; omega) hb)
    have HZ2 := hide ((unhide HZ1).on hb)
    have HN2 : Hid (w.heap.size + 4 ≤ w2.heap.size) := hide (by have := unhide HN1; have := hb.size; omega)
    have hB2 : Below w.heap.size w w2 := below_then hB1 hb
    clear s0 s1 s2 v0 v1 v2 v3 v4 v5 v6 HX1 HZ1 HN1 hB1 hb
    have HX1 := HX2
    have HZ1 := HZ2
    have HN1 := HN2
    have hB1 := hB2
    clear HX2 HZ2 HN2 hB2
    dsimp only
    go_wp2_with fail
    go_at_call 83
    refine (need_yes _ _).mono ?_
    rintro e wn ⟨rfl, hw⟩
    obtain rfl := hw.symm
    dsimp only
    have s0 := (unhide HX1).s0
    have s1 := (unhide HX1).s1
    have s2 := (unhide HX1).s2
    have v0 := (unhide HX1).v0
    have v1 := (unhide HX1).v1
    have v2 := (unhide HX1).v2
    have v3 := (unhide HX1).v3
    have v4 := (unhide HX1).v4
    have v5 := (unhide HX1).v5
    have v6 := (unhide HX1).v6
    simp only at s0 s1 s2 v0 v1 v2 v3 v4 v5 v6
    go_wp2_with fail
    go_at_call 85
    refine (eventInForm_any ⟨time, to, src, count, n, kind, arg⟩ _).mono ?_
    rw [he]
    rintro e w3 ⟨rfl, hb⟩
    have HX2 := hide ((unhide HX1).on (by have := unhide HN1; omega) hb)
    have HZ2 := hide ((unhide HZ1).on hb)
    have HN2 : Hid (w.heap.size + 4 ≤ w3.heap.size) := hide (by have := unhide HN1; have := hb.size; omega)
    have hB2 : Below w.heap.size w w3 := below_then hB1 hb
    clear s0 s1 s2 v0 v1 v2 v3 v4 v5 v6 HX1 HZ1 HN1 hB1 hb
    have HX1 := HX2
    have HZ1 := HZ2
    have HN1 := HN2
    have hB1 := hB2
    clear HX2 HZ2 HN2 hB2
    dsimp only
    go_wp2_with fail
    go_at_call 83
    refine (need_no _ _).mono ?_
    rintro e wn ⟨⟨u, pv, rfl⟩, hw⟩
    obtain rfl := hw.symm
    dsimp only
    go_wp2_with fail
    refine leaves_cons (f := 81) (args := #[.pointer (some ⟨w.heap.size + 1 + 1 + 1, 0, none⟩)]) (by simp) (by simp [go_sem]) ?_
    refine (catchWork_panicking (w.heap.size + 1 + 1 + 1) u pv [] _ (unhide HZ1)).mono ?_
    rintro e u' w'' ⟨rfl, rfl, rfl⟩
    have HA := hide (work_none (zeroed_below hB1 (show w.heap.size ≤ w.heap.size + 1 + 1 + 1 by omega)) ⟨0, 0, 0, 0, 0, 0, 0⟩ ⟨0, 0, 0⟩)
    obtain ⟨c0, c1, c2, c3, c4, c5, c6, c7, c8, c9, c10, c11, c12, fz⟩ := zeroed_at (unhide HZ1)
    generalize zeroed w3 (w.heap.size + 1 + 1 + 1) = Z at *
    simp [Leaves, settle, results, Tryd.results60, go_sem, c0, c1, c2, c3, c4, c5, c6, c7, c8, c9, c10, c11, c12]
    exact unhide HA

end Go.Proofs.YtjbgiepaehefpaaDoor
