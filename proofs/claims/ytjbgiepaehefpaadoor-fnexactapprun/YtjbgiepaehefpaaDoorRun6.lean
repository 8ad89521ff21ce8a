/- spec.AppRun: its boxes, and the ways on which it does nothing. -/
import Derived.Test.YtjbgiepaehefpaaDoorRun5
namespace Go.Proofs.YtjbgiepaehefpaaDoor
open Go.RowKit
set_option linter.unusedVariables false

/-- The places of AppRun's arguments and of its first result. -/
structure Boxes (w : World) (N : Nat) (rv : Value) (s : StV) (ev : EvV) : Prop where
  a0 : w.cell? ⟨N, 0, none⟩ = some rv
  s0 : w.cell? ⟨N + 1, 0, none⟩ = some (.int .i64 s.x)
  s1 : w.cell? ⟨N + 1, 1, none⟩ = some (.int .i64 s.y)
  s2 : w.cell? ⟨N + 1, 2, none⟩ = some (.int .i64 s.c)
  v0 : w.cell? ⟨N + 1 + 1, 0, none⟩ = some (.int .i64 ev.time)
  v1 : w.cell? ⟨N + 1 + 1, 1, none⟩ = some (.int .i64 ev.to)
  v2 : w.cell? ⟨N + 1 + 1, 2, none⟩ = some (.int .i64 ev.src)
  v3 : w.cell? ⟨N + 1 + 1, 3, none⟩ = some (.int .i64 ev.count)
  v4 : w.cell? ⟨N + 1 + 1, 4, none⟩ = some (.int .i64 ev.n)
  v5 : w.cell? ⟨N + 1 + 1, 5, none⟩ = some (.int .i64 ev.kind)
  v6 : w.cell? ⟨N + 1 + 1, 6, none⟩ = some (.int .i64 ev.arg)
  r0 : w.cell? ⟨N + 1 + 1 + 1, 0, none⟩ = some (.int .i64 0)
  r1 : w.cell? ⟨N + 1 + 1 + 1, 1, none⟩ = some (.int .i64 0)
  r2 : w.cell? ⟨N + 1 + 1 + 1, 2, none⟩ = some (.int .i64 0)
  rf : ∀ i, w.frozen? ⟨N + 1 + 1 + 1, i, none⟩ = false

theorem Boxes.on {w w' : World} {N : Nat} {rv : Value} {s : StV} {ev : EvV} {q : Nat} (hq : N + 4 ≤ q) (hb : Below q w w') (h : Boxes w N rv s ev) : Boxes w' N rv s ev := by
  have hc : ∀ (b i : Nat) (v : Value), b < N + 4 → w.cell? ⟨b, i, none⟩ = some v → w'.cell? ⟨b, i, none⟩ = some v := fun b i v hbq hv => by
    rw [hb.cell (show b < q by omega)]; exact hv
  exact ⟨hc _ _ _ (by omega) h.a0, hc _ _ _ (by omega) h.s0, hc _ _ _ (by omega) h.s1, hc _ _ _ (by omega) h.s2, hc _ _ _ (by omega) h.v0, hc _ _ _ (by omega) h.v1, hc _ _ _ (by omega) h.v2, hc _ _ _ (by omega) h.v3, hc _ _ _ (by omega) h.v4, hc _ _ _ (by omega) h.v5, hc _ _ _ (by omega) h.v6, hc _ _ _ (by omega) h.r0, hc _ _ _ (by omega) h.r1, hc _ _ _ (by omega) h.r2,
    fun i => by rw [hb.frozen (p := ⟨N + 1 + 1 + 1, i, none⟩) (show N + 1 + 1 + 1 < q by omega)]; exact h.rf i⟩

def World.boxed (w : World) (rv : Value) (s : StV) (ev : EvV) : World :=
  (((((w.alloc (Obj.cells #[rv] 34)).alloc (Obj.cells #[.int .i64 s.x, .int .i64 s.y, .int .i64 s.c] 36)).alloc
    (Obj.cells (evCells ev).toArray 38)).alloc (Obj.cells #[.int .i64 0, .int .i64 0, .int .i64 0] 36)).alloc
    (Obj.cells #[rv, .slice none 0 0, .slice none 0 0, .slice none 0 0] 34))

theorem boxes_at (w : World) (rv : Value) (s : StV) (ev : EvV) : Boxes (World.boxed w rv s ev) w.heap.size rv s ev := by
  obtain ⟨x, y, c⟩ := s
  obtain ⟨time, to, src, count, n, kind, arg⟩ := ev
  unfold World.boxed
  refine ⟨?_, ?_, ?_, ?_, ?_, ?_, ?_, ?_, ?_, ?_, ?_, ?_, ?_, ?_, ?_⟩ <;> first | (intro i; simp [go_sem]; done) | simp [go_sem]

theorem boxed_below (w : World) (rv : Value) (s : StV) (ev : EvV) : Below w.heap.size w (World.boxed w rv s ev) := by
  unfold World.boxed
  exact (((((Below.refl _ _).alloc (Nat.le_refl _) _).alloc (by simp) _).alloc (by simp; omega) _).alloc (by simp; omega) _).alloc (by simp; omega) _

theorem boxed_size (w : World) (rv : Value) (s : StV) (ev : EvV) : (World.boxed w rv s ev).heap.size = w.heap.size + 5 := by
  unfold World.boxed; simp

theorem rulesAt_nil (w : World) : RulesAt w (.slice none 0 0) [] := ⟨none, 0, rfl, by simp, by simp [maxLen], Or.inl rfl⟩

theorem boxed_apps (w : World) (rv : Value) (rs : List RuleV) (s : StV) (ev : EvV) (h : RulesAt w rv rs) :
    AppsAt (World.boxed w rv s ev) (.slice (some ⟨w.heap.size + 1 + 1 + 1 + 1, 0, none⟩) 4 4) [rs, [], [], []] := by
  refine ⟨_, _, rfl, by simp, by simp [maxLen], Or.inr ⟨_, _, rfl, ?_⟩⟩
  have hon := h.on (boxed_below w rv s ev)
  have hn := rulesAt_nil (World.boxed w rv s ev)
  have hx : ∀ i v, ((#[rv, .slice none 0 0, .slice none 0 0, .slice none 0 0] : Array Value)[i]? = some v) → (World.boxed w rv s ev).cell? ⟨w.heap.size + 1 + 1 + 1 + 1, i, none⟩ = some v := by
    intro i v h
    unfold World.boxed
    simp [go_sem, h]
  intro i hi
  match i, hi with
  | 0, _ => exact ⟨rv, hx 0 _ rfl, hon⟩
  | 1, _ => exact ⟨_, hx 1 _ rfl, hn⟩
  | 2, _ => exact ⟨_, hx 2 _ rfl, hn⟩
  | 3, _ => exact ⟨_, hx 3 _ rfl, hn⟩

theorem apps_one (rs : List RuleV) : appsOk [rs, [], [], []] = appOk rs := by
  have : appOk [] = true := rfl
  simp [appsOk, this]

def runRules (ev : EvV) : List RuleV → RunV → RunV
  | [], R => R
  | r :: t, R => runRules ev t (if r.kind = ev.kind then runOps ev r.ops 0 R else R)

/-- What AppRun answers, plainly. -/
def appRun (rs : List RuleV) (s : StV) (ev : EvV) : RunV :=
  if appOk rs && stOk s && evOk ev then
    if 12 ≤ s.c then ⟨s, [], []⟩ else
      let R := runRules ev rs ⟨s, [], []⟩
      ⟨{ R.st with c := R.st.c + 1 }, R.sends, R.outs⟩
  else ⟨⟨0, 0, 0⟩, [], []⟩

theorem appRun_app {rs : List RuleV} {s : StV} {ev : EvV} (h : appOk rs = false) : appRun rs s ev = ⟨⟨0, 0, 0⟩, [], []⟩ := by simp [appRun, h]
theorem appRun_st {rs : List RuleV} {s : StV} {ev : EvV} (h : stOk s = false) : appRun rs s ev = ⟨⟨0, 0, 0⟩, [], []⟩ := by simp [appRun, h]
theorem appRun_ev {rs : List RuleV} {s : StV} {ev : EvV} (h : evOk ev = false) : appRun rs s ev = ⟨⟨0, 0, 0⟩, [], []⟩ := by simp [appRun, h]
theorem appRun_most {rs : List RuleV} {s : StV} {ev : EvV} (h1 : appOk rs = true) (h2 : stOk s = true) (h3 : evOk ev = true) (h : 12 ≤ s.c) : appRun rs s ev = ⟨s, [], []⟩ := by simp [appRun, h1, h2, h3, h]

/-- An answer of AppRun: the lists lie in blocks of their own, made since. -/
def Answers (w w' : World) (r : Ending) (R : RunV) : Prop :=
  ∃ vs vo, r = .returned (.tuple #[stAgg R.st, vs, vo]) ∧ w'.ownsRow w.heap.size 38 7 vs R.sends.length (evsCells R.sends) ∧ w'.ownsRow w.heap.size 48 5 vo R.outs.length (outsCells R.outs)
    ∧ (vs.ownBlock = none ∨ vs.ownBlock ≠ vo.ownBlock) ∧ Below w.heap.size w w'

theorem Boxes.two {w' : World} {N : Nat} {rv : Value} {s : StV} {ev : EvV} (h : Boxes w' N rv s ev) (hz : N + 4 ≤ w'.heap.size) (o o' : Obj) : Boxes ((w'.alloc o).alloc o') N rv s ev :=
  h.on hz (((Below.refl _ _).alloc (Nat.le_refl _) o).alloc (by simp) o')

theorem made_none {w W : World} (hN : w.heap.size + 4 ≤ W.heap.size) (hB : Below w.heap.size w W) (s : StV) {a b c : Value} :
    Answers w (((((W.alloc (.cells #[] 38)).alloc (.cells #[] 48)).setCell ⟨w.heap.size + 1 + 1 + 1, 0, none⟩ a).setCell ⟨w.heap.size + 1 + 1 + 1, 1, none⟩ b).setCell ⟨w.heap.size + 1 + 1 + 1, 2, none⟩ c)
      (.returned (.tuple #[stAgg s, .slice (some ⟨W.heap.size, 0, none⟩) 0 0, .slice (some ⟨W.heap.size + 1, 0, none⟩) 0 0])) ⟨s, [], []⟩ := by
  refine ⟨_, _, rfl, ?_, ?_, Or.inr (by simp [Value.ownBlock]), ?_⟩
  · refine ownsRow_setCell_other (ownsRow_setCell_other (ownsRow_setCell_other ((World.ownsRow_made W #[] 0 (by omega) (by simp [maxLen]) (by simp)).alloc _) ?_ _) ?_ _) ?_ _ <;> (simp [Value.ownBlock]; omega)
  · have h := World.ownsRow_made (base := w.heap.size) (e := 48) (size := 5) (W.alloc (.cells #[] 38)) #[] 0 (by simp; omega) (by simp [maxLen]) (by simp)
    rw [show (W.alloc (.cells #[] 38)).heap.size = W.heap.size + 1 by simp] at h
    refine ownsRow_setCell_other (ownsRow_setCell_other (ownsRow_setCell_other h ?_ _) ?_ _) ?_ _ <;> (simp [Value.ownBlock]; omega)
  · exact ((((hB.alloc (by omega) _).alloc (by simp; omega) _).setCell (by simp; omega) _).setCell (by simp; omega) _).setCell (by simp; omega) _

set_option maxRecDepth 100000 in
set_option maxHeartbeats 1600000 in
theorem specAppRun_app (rs : List RuleV) (rv : Value) (s : StV) (ev : EvV) (w : World) (ho : RulesAt w rv rs) (ha : appOk rs = false) :
    Calls Tryd.prog 22 #[.agg #[rv], stAgg s, evAgg ev] w fun r w' => Answers w w' r (appRun rs s ev) := by
  rw [appRun_app ha]
  have hap := boxed_apps w rv rs s ev ho
  have hbx := boxes_at w rv s ev
  have hbb := boxed_below w rv s ev
  have hbz := boxed_size w rv s ev
  have hN : w.heap.size + 4 ≤ (World.boxed w rv s ev).heap.size := by omega
  obtain ⟨x, y, c⟩ := s
  obtain ⟨time, to, src, count, n, kind, arg⟩ := ev
  clear hbz
  have HA := hide hap
  have HX := hide hbx
  have HN := hide hN
  clear hap hbx hN
  go_enter Tryd.func22, Tryd.ntmps22
  go_wp2_with fail
  unfold World.boxed at HA HX HN hbb
  go_at_call 14
  refine (specAppOk_any _ _ _ (unhide HA)).mono ?_
  rw [apps_one, ha]
  rintro e w' ⟨rfl, hb⟩
  have HX1 := hide ((unhide HX).on (unhide HN) hb)
  have HN1 : Hid (w.heap.size + 4 ≤ w'.heap.size) := hide (by have := unhide HN; have := hb.size; omega)
  have hB : Below w.heap.size w w' := below_then hbb hb
  clear HX HN HA hbb
  simp only
  clear hb
  have r0' : ∀ o o', ((w'.alloc o).alloc o').cell? ⟨w.heap.size + 1 + 1 + 1, 0, none⟩ = some (.int .i64 0) := fun o o' => ((unhide HX1).two (unhide HN1) o o').r0
  have r1' : ∀ o o', ((w'.alloc o).alloc o').cell? ⟨w.heap.size + 1 + 1 + 1, 1, none⟩ = some (.int .i64 0) := fun o o' => ((unhide HX1).two (unhide HN1) o o').r1
  have r2' : ∀ o o', ((w'.alloc o).alloc o').cell? ⟨w.heap.size + 1 + 1 + 1, 2, none⟩ = some (.int .i64 0) := fun o o' => ((unhide HX1).two (unhide HN1) o o').r2
  have rf' : ∀ i o o', ((w'.alloc o).alloc o').frozen? ⟨w.heap.size + 1 + 1 + 1, i, none⟩ = false := fun i o o' => ((unhide HX1).two (unhide HN1) o o').rf i
  go_wp2_with fail
  (try simp only [Exit.inBlock, Exit.then])
  refine bodyPost_ret (v := .tuple #[stAgg ⟨0, 0, 0⟩, .slice (some ⟨w'.heap.size, 0, none⟩) 0 0, .slice (some ⟨w'.heap.size + 1, 0, none⟩) 0 0]) ?_ rfl (made_none (unhide HN1) hB ⟨0, 0, 0⟩)
  simp [results, Tryd.results22, go_sem, r0', r1', r2']

set_option maxRecDepth 100000 in
set_option maxHeartbeats 1600000 in
theorem specAppRun_st (rs : List RuleV) (rv : Value) (s : StV) (ev : EvV) (w : World) (ho : RulesAt w rv rs) (ha : appOk rs = true) (hs : stOk s = false) :
    Calls Tryd.prog 22 #[.agg #[rv], stAgg s, evAgg ev] w fun r w' => Answers w w' r (appRun rs s ev) := by
  rw [appRun_st hs]
  have hap := boxed_apps w rv rs s ev ho
  have hbx := boxes_at w rv s ev
  have hbb := boxed_below w rv s ev
  have hbz := boxed_size w rv s ev
  have hN : w.heap.size + 4 ≤ (World.boxed w rv s ev).heap.size := by omega
  obtain ⟨x, y, c⟩ := s
  obtain ⟨time, to, src, count, n, kind, arg⟩ := ev
  clear hbz
  have HA := hide hap
  have HX := hide hbx
  have HN := hide hN
  clear hap hbx hN
  go_enter Tryd.func22, Tryd.ntmps22
  go_wp2_with fail
  unfold World.boxed at HA HX HN hbb
  go_at_call 14
  refine (specAppOk_any _ _ _ (unhide HA)).mono ?_
  rw [apps_one, ha]
  rintro e w' ⟨rfl, hb⟩
  have HX1 := hide ((unhide HX).on (unhide HN) hb)
  have HN1 : Hid (w.heap.size + 4 ≤ w'.heap.size) := hide (by have := unhide HN; have := hb.size; omega)
  have hB : Below w.heap.size w w' := below_then hbb hb
  clear HX HN HA hbb
  simp only
  clear hb
  have s0 := (unhide HX1).s0
  have s1 := (unhide HX1).s1
  have s2 := (unhide HX1).s2
  have v0 := (unhide HX1).v0
  have v1 := (unhide HX1).v1
  have v2 := (unhide HX1).v2
  have v3 := (unhide HX1).v3
  have v4 := (unhide HX1).v4
  have v5 := (unhide HX1).v5
  have v6 := (unhide HX1).v6
  simp only at s0 s1 s2 v0 v1 v2 v3 v4 v5 v6
  go_wp2_with fail
  go_at_call 57
  refine (l1StateOk_any ⟨x, y, c⟩ _).mono ?_
  rw [hs]
  rintro e w2 ⟨rfl, hb⟩
  have HX2 := hide ((unhide HX1).on (unhide HN1) hb)
  have HN2 : Hid (w.heap.size + 4 ≤ w2.heap.size) := hide (by have := unhide HN1; have := hb.size; omega)
  have hB2 : Below w.heap.size w w2 := below_then hB hb
  clear s0 s1 s2 v0 v1 v2 v3 v4 v5 v6 HX1 HN1 hB
  have HX1 := HX2
  have HN1 := HN2
  have hB := hB2
  clear hb HX2 HN2 hB2
  have r0' : ∀ o o', ((w2.alloc o).alloc o').cell? ⟨w.heap.size + 1 + 1 + 1, 0, none⟩ = some (.int .i64 0) := fun o o' => ((unhide HX1).two (unhide HN1) o o').r0
  have r1' : ∀ o o', ((w2.alloc o).alloc o').cell? ⟨w.heap.size + 1 + 1 + 1, 1, none⟩ = some (.int .i64 0) := fun o o' => ((unhide HX1).two (unhide HN1) o o').r1
  have r2' : ∀ o o', ((w2.alloc o).alloc o').cell? ⟨w.heap.size + 1 + 1 + 1, 2, none⟩ = some (.int .i64 0) := fun o o' => ((unhide HX1).two (unhide HN1) o o').r2
  have rf' : ∀ i o o', ((w2.alloc o).alloc o').frozen? ⟨w.heap.size + 1 + 1 + 1, i, none⟩ = false := fun i o o' => ((unhide HX1).two (unhide HN1) o o').rf i
  go_wp2_with fail
  (try simp only [Exit.inBlock, Exit.then])
  refine bodyPost_ret (v := .tuple #[stAgg ⟨0, 0, 0⟩, .slice (some ⟨w2.heap.size, 0, none⟩) 0 0, .slice (some ⟨w2.heap.size + 1, 0, none⟩) 0 0]) ?_ rfl (made_none (unhide HN1) hB ⟨0, 0, 0⟩)
  simp [results, Tryd.results22, go_sem, r0', r1', r2']

set_option maxRecDepth 100000 in
set_option maxHeartbeats 1600000 in
theorem specAppRun_ev (rs : List RuleV) (rv : Value) (s : StV) (ev : EvV) (w : World) (ho : RulesAt w rv rs) (ha : appOk rs = true) (hs : stOk s = true) (he : evOk ev = false) :
    Calls Tryd.prog 22 #[.agg #[rv], stAgg s, evAgg ev] w fun r w' => Answers w w' r (appRun rs s ev) := by
  rw [appRun_ev he]
  have hap := boxed_apps w rv rs s ev ho
  have hbx := boxes_at w rv s ev
  have hbb := boxed_below w rv s ev
  have hbz := boxed_size w rv s ev
  have hN : w.heap.size + 4 ≤ (World.boxed w rv s ev).heap.size := by omega
  obtain ⟨x, y, c⟩ := s
  obtain ⟨time, to, src, count, n, kind, arg⟩ := ev
  clear hbz
  have HA := hide hap
  have HX := hide hbx
  have HN := hide hN
  clear hap hbx hN
  go_enter Tryd.func22, Tryd.ntmps22
  go_wp2_with fail
  unfold World.boxed at HA HX HN hbb
  go_at_call 14
  refine (specAppOk_any _ _ _ (unhide HA)).mono ?_
  rw [apps_one, ha]
  rintro e w' ⟨rfl, hb⟩
  have HX1 := hide ((unhide HX).on (unhide HN) hb)
  have HN1 : Hid (w.heap.size + 4 ≤ w'.heap.size) := hide (by have := unhide HN; have := hb.size; omega)
  have hB : Below w.heap.size w w' := below_then hbb hb
  clear HX HN HA hbb
  simp only
  clear hb
  have s0 := (unhide HX1).s0
  have s1 := (unhide HX1).s1
  have s2 := (unhide HX1).s2
  have v0 := (unhide HX1).v0
  have v1 := (unhide HX1).v1
  have v2 := (unhide HX1).v2
  have v3 := (unhide HX1).v3
  have v4 := (unhide HX1).v4
  have v5 := (unhide HX1).v5
  have v6 := (unhide HX1).v6
  simp only at s0 s1 s2 v0 v1 v2 v3 v4 v5 v6
  go_wp2_with fail
  go_at_call 57
  refine (l1StateOk_any ⟨x, y, c⟩ _).mono ?_
  rw [hs]
  rintro e w2 ⟨rfl, hb⟩
  have HX2 := hide ((unhide HX1).on (unhide HN1) hb)
  have HN2 : Hid (w.heap.size + 4 ≤ w2.heap.size) := hide (by have := unhide HN1; have := hb.size; omega)
  have hB2 : Below w.heap.size w w2 := below_then hB hb
  clear s0 s1 s2 v0 v1 v2 v3 v4 v5 v6 HX1 HN1 hB
  have HX1 := HX2
  have HN1 := HN2
  have hB := hB2
  clear hb HX2 HN2 hB2
  have s0 := (unhide HX1).s0
  have s1 := (unhide HX1).s1
  have s2 := (unhide HX1).s2
  have v0 := (unhide HX1).v0
  have v1 := (unhide HX1).v1
  have v2 := (unhide HX1).v2
  have v3 := (unhide HX1).v3
  have v4 := (unhide HX1).v4
  have v5 := (unhide HX1).v5
  have v6 := (unhide HX1).v6
  simp only at s0 s1 s2 v0 v1 v2 v3 v4 v5 v6
  go_wp2_with fail
  go_at_call 58
  refine (l1EventOk_any ⟨time, to, src, count, n, kind, arg⟩ _).mono ?_
  rw [he]
  rintro e w3 ⟨rfl, hb⟩
  have HX2 := hide ((unhide HX1).on (unhide HN1) hb)
  have HN2 : Hid (w.heap.size + 4 ≤ w3.heap.size) := hide (by have := unhide HN1; have := hb.size; omega)
  have hB2 : Below w.heap.size w w3 := below_then hB hb
  clear s0 s1 s2 v0 v1 v2 v3 v4 v5 v6 HX1 HN1 hB
  have HX1 := HX2
  have HN1 := HN2
  have hB := hB2
  clear hb HX2 HN2 hB2
  have r0' : ∀ o o', ((w3.alloc o).alloc o').cell? ⟨w.heap.size + 1 + 1 + 1, 0, none⟩ = some (.int .i64 0) := fun o o' => ((unhide HX1).two (unhide HN1) o o').r0
  have r1' : ∀ o o', ((w3.alloc o).alloc o').cell? ⟨w.heap.size + 1 + 1 + 1, 1, none⟩ = some (.int .i64 0) := fun o o' => ((unhide HX1).two (unhide HN1) o o').r1
  have r2' : ∀ o o', ((w3.alloc o).alloc o').cell? ⟨w.heap.size + 1 + 1 + 1, 2, none⟩ = some (.int .i64 0) := fun o o' => ((unhide HX1).two (unhide HN1) o o').r2
  have rf' : ∀ i o o', ((w3.alloc o).alloc o').frozen? ⟨w.heap.size + 1 + 1 + 1, i, none⟩ = false := fun i o o' => ((unhide HX1).two (unhide HN1) o o').rf i
  go_wp2_with fail
  (try simp only [Exit.inBlock, Exit.then])
  refine bodyPost_ret (v := .tuple #[stAgg ⟨0, 0, 0⟩, .slice (some ⟨w3.heap.size, 0, none⟩) 0 0, .slice (some ⟨w3.heap.size + 1, 0, none⟩) 0 0]) ?_ rfl (made_none (unhide HN1) hB ⟨0, 0, 0⟩)
  simp [results, Tryd.results22, go_sem, r0', r1', r2']

set_option maxRecDepth 100000 in
set_option maxHeartbeats 1600000 in
theorem specAppRun_most (rs : List RuleV) (rv : Value) (s : StV) (ev : EvV) (w : World) (ho : RulesAt w rv rs) (ha : appOk rs = true) (hs : stOk s = true) (he : evOk ev = true) (hc : 12 ≤ s.c) :
    Calls Tryd.prog 22 #[.agg #[rv], stAgg s, evAgg ev] w fun r w' => Answers w w' r (appRun rs s ev) := by
  rw [appRun_most ha hs he hc]
  have hap := boxed_apps w rv rs s ev ho
  have hbx := boxes_at w rv s ev
  have hbb := boxed_below w rv s ev
  have hbz := boxed_size w rv s ev
  have hN : w.heap.size + 4 ≤ (World.boxed w rv s ev).heap.size := by omega
  obtain ⟨x, y, c⟩ := s
  obtain ⟨time, to, src, count, n, kind, arg⟩ := ev
  clear hbz
  have HA := hide hap
  have HX := hide hbx
  have HN := hide hN
  clear hap hbx hN
  have hc' : (12 : Int) ≤ c := hc
  clear hc
  go_enter Tryd.func22, Tryd.ntmps22
  go_wp2_with fail
  unfold World.boxed at HA HX HN hbb
  go_at_call 14
  refine (specAppOk_any _ _ _ (unhide HA)).mono ?_
  rw [apps_one, ha]
  rintro e w' ⟨rfl, hb⟩
  have HX1 := hide ((unhide HX).on (unhide HN) hb)
  have HN1 : Hid (w.heap.size + 4 ≤ w'.heap.size) := hide (by have := unhide HN; have := hb.size; omega)
  have hB : Below w.heap.size w w' := below_then hbb hb
  clear HX HN HA hbb
  simp only
  clear hb
  have s0 := (unhide HX1).s0
  have s1 := (unhide HX1).s1
  have s2 := (unhide HX1).s2
  have v0 := (unhide HX1).v0
  have v1 := (unhide HX1).v1
  have v2 := (unhide HX1).v2
  have v3 := (unhide HX1).v3
  have v4 := (unhide HX1).v4
  have v5 := (unhide HX1).v5
  have v6 := (unhide HX1).v6
  simp only at s0 s1 s2 v0 v1 v2 v3 v4 v5 v6
  go_wp2_with fail
  go_at_call 57
  refine (l1StateOk_any ⟨x, y, c⟩ _).mono ?_
  rw [hs]
  rintro e w2 ⟨rfl, hb⟩
  have HX2 := hide ((unhide HX1).on (unhide HN1) hb)
  have HN2 : Hid (w.heap.size + 4 ≤ w2.heap.size) := hide (by have := unhide HN1; have := hb.size; omega)
  have hB2 : Below w.heap.size w w2 := below_then hB hb
  clear s0 s1 s2 v0 v1 v2 v3 v4 v5 v6 HX1 HN1 hB
  have HX1 := HX2
  have HN1 := HN2
  have hB := hB2
  clear hb HX2 HN2 hB2
  have s0 := (unhide HX1).s0
  have s1 := (unhide HX1).s1
  have s2 := (unhide HX1).s2
  have v0 := (unhide HX1).v0
  have v1 := (unhide HX1).v1
  have v2 := (unhide HX1).v2
  have v3 := (unhide HX1).v3
  have v4 := (unhide HX1).v4
  have v5 := (unhide HX1).v5
  have v6 := (unhide HX1).v6
  simp only at s0 s1 s2 v0 v1 v2 v3 v4 v5 v6
  go_wp2_with fail
  go_at_call 58
  refine (l1EventOk_any ⟨time, to, src, count, n, kind, arg⟩ _).mono ?_
  rw [he]
  rintro e w3 ⟨rfl, hb⟩
  have HX2 := hide ((unhide HX1).on (unhide HN1) hb)
  have HN2 : Hid (w.heap.size + 4 ≤ w3.heap.size) := hide (by have := unhide HN1; have := hb.size; omega)
  have hB2 : Below w.heap.size w w3 := below_then hB hb
  clear s0 s1 s2 v0 v1 v2 v3 v4 v5 v6 HX1 HN1 hB
  have HX1 := HX2
  have HN1 := HN2
  have hB := hB2
  clear hb HX2 HN2 hB2
  have s0 := (unhide HX1).s0
  have s1 := (unhide HX1).s1
  have s2 := (unhide HX1).s2
  have v0 := (unhide HX1).v0
  have v1 := (unhide HX1).v1
  have v2 := (unhide HX1).v2
  have v3 := (unhide HX1).v3
  have v4 := (unhide HX1).v4
  have v5 := (unhide HX1).v5
  have v6 := (unhide HX1).v6
  simp only at s0 s1 s2 v0 v1 v2 v3 v4 v5 v6
  have r0' : ∀ o o', ((w3.alloc o).alloc o').cell? ⟨w.heap.size + 1 + 1 + 1, 0, none⟩ = some (.int .i64 0) := fun o o' => ((unhide HX1).two (unhide HN1) o o').r0
  have r1' : ∀ o o', ((w3.alloc o).alloc o').cell? ⟨w.heap.size + 1 + 1 + 1, 1, none⟩ = some (.int .i64 0) := fun o o' => ((unhide HX1).two (unhide HN1) o o').r1
  have r2' : ∀ o o', ((w3.alloc o).alloc o').cell? ⟨w.heap.size + 1 + 1 + 1, 2, none⟩ = some (.int .i64 0) := fun o o' => ((unhide HX1).two (unhide HN1) o o').r2
  have rf' : ∀ i o o', ((w3.alloc o).alloc o').frozen? ⟨w.heap.size + 1 + 1 + 1, i, none⟩ = false := fun i o o' => ((unhide HX1).two (unhide HN1) o o').rf i
  go_wp2_with fail
  (try simp only [Exit.inBlock, Exit.then])
  refine bodyPost_ret (v := .tuple #[stAgg ⟨x, y, c⟩, .slice (some ⟨w3.heap.size, 0, none⟩) 0 0, .slice (some ⟨w3.heap.size + 1, 0, none⟩) 0 0]) ?_ rfl (made_none (unhide HN1) hB ⟨x, y, c⟩)
  simp [results, Tryd.results22, go_sem, r0', r1', r2']

end Go.Proofs.YtjbgiepaehefpaaDoor
