/- impl.AppRun, whole. -/
import Derived.Test.YtjbgiepaehefpaaDoorIm11
namespace Go.Proofs.YtjbgiepaehefpaaDoor
open Go.RowKit
set_option linter.unusedVariables false
set_option linter.unusedSimpArgs false

/-- The world in which impl.AppRun calls workOut. -/
def rboxed (w : World) (rv : Value) (s : StV) (ev : EvV) : World :=
  ((((w.alloc (Obj.cells #[rv] 34)).alloc (Obj.cells #[.int .i64 s.x, .int .i64 s.y, .int .i64 s.c] 36)).alloc
    (Obj.cells #[.int .i64 ev.time, .int .i64 ev.to, .int .i64 ev.src, .int .i64 ev.count, .int .i64 ev.n, .int .i64 ev.kind, .int .i64 ev.arg] 38)).alloc
    (Obj.cells #[.int .i64 0, .int .i64 0, .int .i64 0] 36))

theorem rboxed_below (w : World) (rv : Value) (s : StV) (ev : EvV) : Below w.heap.size w (rboxed w rv s ev) := by
  unfold rboxed
  exact ((((Below.refl _ _).alloc (Nat.le_refl _) _).alloc (by simp) _).alloc (by simp; omega) _).alloc (by simp; omega) _

theorem rboxed_size (w : World) (rv : Value) (s : StV) (ev : EvV) : (rboxed w rv s ev).heap.size = w.heap.size + 4 := by
  unfold rboxed; simp

theorem rboxed_res (w : World) (rv : Value) (s : StV) (ev : EvV) : (∀ i, i < 3 → (rboxed w rv s ev).cell? ⟨w.heap.size + 1 + 1 + 1, i, none⟩ = some (.int .i64 0)) ∧ ∀ i, (rboxed w rv s ev).frozen? ⟨w.heap.size + 1 + 1 + 1, i, none⟩ = false := by
  unfold rboxed
  refine ⟨fun i hi => ?_, fun i => by simp [go_sem]⟩
  match i, hi with
  | 0, _ => simp [go_sem]
  | 1, _ => simp [go_sem]
  | 2, _ => simp [go_sem]

theorem answers_of {w W0 W1 : World} {R : RunV} {vs vo : Value} {q : Nat} (hq : q = w.heap.size + 1 + 1 + 1) (hz : W0.heap.size = w.heap.size + 4) (hb0 : Below w.heap.size w W0) (hb1 : Below W0.heap.size W0 W1)
    (h1 : W1.ownsRow W0.heap.size 38 7 vs R.sends.length (evsCells R.sends)) (h2 : W1.ownsRow W0.heap.size 48 5 vo R.outs.length (outsCells R.outs)) (hne : vs.ownBlock = none ∨ vs.ownBlock ≠ vo.ownBlock) (o : Obj) (a b c : Value) :
    Answers w ((((W1.alloc o).setCell ⟨q, 0, none⟩ a).setCell ⟨q, 1, none⟩ b).setCell ⟨q, 2, none⟩ c).drew (.returned (.tuple #[stAgg R.st, vs, vo])) R := by
  subst hq
  have hs1 := hb1.size
  refine ⟨vs, vo, rfl, ?_, ?_, hne, ?_⟩
  · exact ownsRow_lower (ownsRow_setCell_below (ownsRow_setCell_below (ownsRow_setCell_below (h1.alloc o) (show w.heap.size + 1 + 1 + 1 < _ by omega) a) (show w.heap.size + 1 + 1 + 1 < _ by omega) b) (show w.heap.size + 1 + 1 + 1 < _ by omega) c) (by omega)
  · exact ownsRow_lower (ownsRow_setCell_below (ownsRow_setCell_below (ownsRow_setCell_below (h2.alloc o) (show w.heap.size + 1 + 1 + 1 < _ by omega) a) (show w.heap.size + 1 + 1 + 1 < _ by omega) b) (show w.heap.size + 1 + 1 + 1 < _ by omega) c) (by omega)
  · exact (((((below_then hb0 hb1).alloc (by omega) o).setCell (show w.heap.size ≤ w.heap.size + 1 + 1 + 1 by omega) _).setCell (show w.heap.size ≤ w.heap.size + 1 + 1 + 1 by omega) _).setCell (show w.heap.size ≤ w.heap.size + 1 + 1 + 1 by omega) _).drew

set_option maxRecDepth 100000 in
set_option maxHeartbeats 1600000 in
theorem implAppRun_any (rs : List RuleV) (rv : Value) (s : StV) (ev : EvV) (w : World) (hsh : Shapes w 0) (ho : RulesAt w rv rs) :
    Calls Tryd.prog 23 #[.agg #[rv], stAgg s, evAgg ev] w fun r w' => Answers w w' r (appRun rs s ev) := by
  have hbx := rboxed_below w rv s ev
  have hbz := rboxed_size w rv s ev
  have hbr := rboxed_res w rv s ev
  have hrv : ∃ a c, rv = .slice a rs.length c := by obtain ⟨a, b, h, _⟩ := ho; exact ⟨a, b, h⟩
  have HW := hide (workOut_any rs rv s ev (rboxed w rv s ev) (hsh.on hbx) (ho.on hbx))
  clear hsh ho
  generalize appRun rs s ev = R at *
  obtain ⟨ra, rc, rfl⟩ := hrv
  obtain ⟨x, y, c⟩ := s
  obtain ⟨time, to, src, count, n, kind, arg⟩ := ev
  have HBX := hide hbx
  have HBZ := hide hbz
  have HBR := hide hbr
  clear hbx hbz hbr
  go_enter Tryd.func23, Tryd.ntmps23
  go_wp2_with fail
  unfold rboxed at HW HBX HBZ HBR
  dsimp only at HW HBX HBZ HBR
  generalize ((((w.alloc (Obj.cells #[.slice ra rs.length rc] 34)).alloc (Obj.cells #[.int .i64 x, .int .i64 y, .int .i64 c] 36)).alloc (Obj.cells #[.int .i64 time, .int .i64 to, .int .i64 src, .int .i64 count, .int .i64 n, .int .i64 kind, .int .i64 arg] 38)).alloc (Obj.cells #[.int .i64 0, .int .i64 0, .int .i64 0] 36)) = W0 at *
  refine (unhide HW).mono ?_
  rintro e w1 ⟨e', sk, vs, vo, rfl, h1, h2, hne, hb1⟩
  obtain ⟨sa, sc, rfl⟩ : ∃ a c, vs = .slice a R.sends.length c := by
    obtain ⟨_, ⟨rfl, h0⟩ | ⟨g, cap, cur, rfl, _⟩⟩ := h1
    · exact ⟨none, 0, by rw [h0]⟩
    · exact ⟨_, _, rfl⟩
  obtain ⟨oa, oc, rfl⟩ : ∃ a c, vo = .slice a R.outs.length c := by
    obtain ⟨_, ⟨rfl, h0⟩ | ⟨g, cap, cur, rfl, _⟩⟩ := h2
    · exact ⟨none, 0, by rw [h0]⟩
    · exact ⟨_, _, rfl⟩
  have HEND := hide (fun o a b c => answers_of (q := w.heap.size + 1 + 1 + 1) rfl (unhide HBZ) (unhide HBX) hb1 h1 h2 hne o a b c)
  have hsz : w.heap.size + 4 ≤ w1.heap.size := by have := hb1.size; have := unhide HBZ; omega
  have hd1 : ¬ w1.heap.size = w.heap.size + 1 + 1 + 1 := by omega
  have hd2 : ¬ w.heap.size + 1 + 1 + 1 = w1.heap.size := by omega
  have hlt : w.heap.size + 1 + 1 + 1 < w1.heap.size := by omega
  have r0 := (hb1.cell (p := ⟨w.heap.size + 1 + 1 + 1, 0, none⟩) (show w.heap.size + 1 + 1 + 1 < W0.heap.size by have := unhide HBZ; omega)).trans ((unhide HBR).1 0 (by omega))
  have r1 := (hb1.cell (p := ⟨w.heap.size + 1 + 1 + 1, 1, none⟩) (show w.heap.size + 1 + 1 + 1 < W0.heap.size by have := unhide HBZ; omega)).trans ((unhide HBR).1 1 (by omega))
  have r2 := (hb1.cell (p := ⟨w.heap.size + 1 + 1 + 1, 2, none⟩) (show w.heap.size + 1 + 1 + 1 < W0.heap.size by have := unhide HBZ; omega)).trans ((unhide HBR).1 2 (by omega))
  have rf : ∀ i, w1.frozen? ⟨w.heap.size + 1 + 1 + 1, i, none⟩ = false := fun i => (hb1.frozen (p := ⟨w.heap.size + 1 + 1 + 1, i, none⟩) (show w.heap.size + 1 + 1 + 1 < W0.heap.size by have := unhide HBZ; omega)).trans ((unhide HBR).2 i)
  clear h1 h2 hne hb1 HW hsz
  go_wp2_with fail
  have HEND2 := hide ((unhide HEND) (.cells #[.int .i64 e'.time, .int .i64 e'.to, .int .i64 e'.src, .int .i64 e'.count, .int .i64 e'.n, .int .i64 e'.kind, .int .i64 e'.arg, .int .i64 R.st.x, .int .i64 R.st.y, .int .i64 R.st.c, .int .i64 sk, .slice sa R.sends.length sc, .slice oa R.outs.length oc] 97))
  clear HEND
  have y7 : (w1.alloc (.cells #[.int .i64 e'.time, .int .i64 e'.to, .int .i64 e'.src, .int .i64 e'.count, .int .i64 e'.n, .int .i64 e'.kind, .int .i64 e'.arg, .int .i64 R.st.x, .int .i64 R.st.y, .int .i64 R.st.c, .int .i64 sk, .slice sa R.sends.length sc, .slice oa R.outs.length oc] 97)).cell? ⟨w1.heap.size, 7, none⟩ = some (.int .i64 R.st.x) := by simp [go_sem]
  have y8 : (w1.alloc (.cells #[.int .i64 e'.time, .int .i64 e'.to, .int .i64 e'.src, .int .i64 e'.count, .int .i64 e'.n, .int .i64 e'.kind, .int .i64 e'.arg, .int .i64 R.st.x, .int .i64 R.st.y, .int .i64 R.st.c, .int .i64 sk, .slice sa R.sends.length sc, .slice oa R.outs.length oc] 97)).cell? ⟨w1.heap.size, 8, none⟩ = some (.int .i64 R.st.y) := by simp [go_sem]
  have y9 : (w1.alloc (.cells #[.int .i64 e'.time, .int .i64 e'.to, .int .i64 e'.src, .int .i64 e'.count, .int .i64 e'.n, .int .i64 e'.kind, .int .i64 e'.arg, .int .i64 R.st.x, .int .i64 R.st.y, .int .i64 R.st.c, .int .i64 sk, .slice sa R.sends.length sc, .slice oa R.outs.length oc] 97)).cell? ⟨w1.heap.size, 9, none⟩ = some (.int .i64 R.st.c) := by simp [go_sem]
  have y11 : (w1.alloc (.cells #[.int .i64 e'.time, .int .i64 e'.to, .int .i64 e'.src, .int .i64 e'.count, .int .i64 e'.n, .int .i64 e'.kind, .int .i64 e'.arg, .int .i64 R.st.x, .int .i64 R.st.y, .int .i64 R.st.c, .int .i64 sk, .slice sa R.sends.length sc, .slice oa R.outs.length oc] 97)).cell? ⟨w1.heap.size, 11, none⟩ = some (.slice sa R.sends.length sc) := by simp [go_sem]
  have y12 : (w1.alloc (.cells #[.int .i64 e'.time, .int .i64 e'.to, .int .i64 e'.src, .int .i64 e'.count, .int .i64 e'.n, .int .i64 e'.kind, .int .i64 e'.arg, .int .i64 R.st.x, .int .i64 R.st.y, .int .i64 R.st.c, .int .i64 sk, .slice sa R.sends.length sc, .slice oa R.outs.length oc] 97)).cell? ⟨w1.heap.size, 12, none⟩ = some (.slice oa R.outs.length oc) := by simp [go_sem]
  have z0 : (w1.alloc (.cells #[.int .i64 e'.time, .int .i64 e'.to, .int .i64 e'.src, .int .i64 e'.count, .int .i64 e'.n, .int .i64 e'.kind, .int .i64 e'.arg, .int .i64 R.st.x, .int .i64 R.st.y, .int .i64 R.st.c, .int .i64 sk, .slice sa R.sends.length sc, .slice oa R.outs.length oc] 97)).cell? ⟨w.heap.size + 1 + 1 + 1, 0, none⟩ = some (.int .i64 0) := by rw [World.cell?_alloc_past _ _ _ hlt]; exact r0
  have z1 : (w1.alloc (.cells #[.int .i64 e'.time, .int .i64 e'.to, .int .i64 e'.src, .int .i64 e'.count, .int .i64 e'.n, .int .i64 e'.kind, .int .i64 e'.arg, .int .i64 R.st.x, .int .i64 R.st.y, .int .i64 R.st.c, .int .i64 sk, .slice sa R.sends.length sc, .slice oa R.outs.length oc] 97)).cell? ⟨w.heap.size + 1 + 1 + 1, 1, none⟩ = some (.int .i64 0) := by rw [World.cell?_alloc_past _ _ _ hlt]; exact r1
  have z2 : (w1.alloc (.cells #[.int .i64 e'.time, .int .i64 e'.to, .int .i64 e'.src, .int .i64 e'.count, .int .i64 e'.n, .int .i64 e'.kind, .int .i64 e'.arg, .int .i64 R.st.x, .int .i64 R.st.y, .int .i64 R.st.c, .int .i64 sk, .slice sa R.sends.length sc, .slice oa R.outs.length oc] 97)).cell? ⟨w.heap.size + 1 + 1 + 1, 2, none⟩ = some (.int .i64 0) := by rw [World.cell?_alloc_past _ _ _ hlt]; exact r2
  have zf : ∀ i, (w1.alloc (.cells #[.int .i64 e'.time, .int .i64 e'.to, .int .i64 e'.src, .int .i64 e'.count, .int .i64 e'.n, .int .i64 e'.kind, .int .i64 e'.arg, .int .i64 R.st.x, .int .i64 R.st.y, .int .i64 R.st.c, .int .i64 sk, .slice sa R.sends.length sc, .slice oa R.outs.length oc] 97)).frozen? ⟨w.heap.size + 1 + 1 + 1, i, none⟩ = false := fun i => by
    have h := ((Below.refl w1.heap.size w1).alloc (Nat.le_refl _) (.cells #[.int .i64 e'.time, .int .i64 e'.to, .int .i64 e'.src, .int .i64 e'.count, .int .i64 e'.n, .int .i64 e'.kind, .int .i64 e'.arg, .int .i64 R.st.x, .int .i64 R.st.y, .int .i64 R.st.c, .int .i64 sk, .slice sa R.sends.length sc, .slice oa R.outs.length oc] 97)).frozen (p := ⟨w.heap.size + 1 + 1 + 1, i, none⟩) hlt
    rw [h]; exact rf i
  generalize w1.alloc (.cells #[.int .i64 e'.time, .int .i64 e'.to, .int .i64 e'.src, .int .i64 e'.count, .int .i64 e'.n, .int .i64 e'.kind, .int .i64 e'.arg, .int .i64 R.st.x, .int .i64 R.st.y, .int .i64 R.st.c, .int .i64 sk, .slice sa R.sends.length sc, .slice oa R.outs.length oc] 97) = Y at *
  generalize w1.heap.size = q at *
  clear r0 r1 r2 rf hlt
  go_region_held3 (fun w' => w'.cell? ⟨q, 7, none⟩ = some (.int .i64 R.st.x) ∧ w'.cell? ⟨q, 8, none⟩ = some (.int .i64 R.st.y) ∧ w'.cell? ⟨q, 9, none⟩ = some (.int .i64 R.st.c) ∧ w'.cell? ⟨q, 11, none⟩ = some (.slice sa R.sends.length sc) ∧ w'.cell? ⟨q, 12, none⟩ = some (.slice oa R.outs.length oc))
    (simp [*, go_sem])
    (fail)
  all_goals go_wp2_with fail
  all_goals refine bodyPost_ret (v := .tuple #[.agg #[.int .i64 R.st.x, .int .i64 R.st.y, .int .i64 R.st.c], .slice sa R.sends.length sc, .slice oa R.outs.length oc]) ?_ rfl ((unhide HEND2) _ _ _)
  all_goals simp [results, Tryd.results23, go_sem, z0, z1, z2]
end Go.Proofs.YtjbgiepaehefpaaDoor
