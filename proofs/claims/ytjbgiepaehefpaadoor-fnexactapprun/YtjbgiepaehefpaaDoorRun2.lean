/- What one op does, plainly; a run in memory under stores; contracts of spec's l1Run.op: set, more, arg, skip, add. -/
import Derived.Test.YtjbgiepaehefpaaDoorRun1
namespace Go.Proofs.YtjbgiepaehefpaaDoor
open Go.RowKit
set_option linter.unusedVariables false

def opSkip (s : StV) (o : OpV) : Int := if o.d = 5 ∧ getR s o.a < o.b then o.c else 0
def opSt (s : StV) (ev : EvV) (o : OpV) : StV :=
  if o.d = 1 then putR s o.a o.b else if o.d = 2 then putR s o.a (getR s o.a + getR s o.b) else if o.d = 3 then putR s o.a (getR s o.a + o.b) else if o.d = 4 then putR s o.a ev.arg else s
def opSends (s : StV) (ev : EvV) (sends : List EvV) (o : OpV) : List EvV :=
  if o.d = 6 ∧ ev.time + o.c ≤ 40 then sends ++ [⟨ev.time + o.c, o.a, ev.to, s.c, sends.length, o.b, getR s o.e⟩] else sends
def opOuts (s : StV) (ev : EvV) (outs : List OutV) (o : OpV) : List OutV :=
  if o.d = 7 then outs ++ [⟨ev.time, ev.to, s.c, outs.length, getR s o.a⟩] else outs

/-- What is known is in form. -/
def stIn (s : StV) : Prop := 0 ≤ s.x ∧ s.x ≤ 999 ∧ 0 ≤ s.y ∧ s.y ≤ 999 ∧ 0 ≤ s.c ∧ s.c ≤ 12

theorem getR_in {s : StV} (h : stIn s) (r : Int) : 0 ≤ getR s r ∧ getR s r ≤ 999 := by
  unfold getR; unfold stIn at h; split <;> omega
theorem putR_in {s : StV} (h : stIn s) (r n : Int) : stIn (putR s r n) := by
  unfold putR; unfold stIn at *; split <;> simp <;> omega

theorem ownsRow_on {w w' : World} {base : Nat} {e : TypeId} {size : Nat} {v : Value} {n : Nat} {xs : List Value} (hb : Below w.heap.size w w') (h : w.ownsRow base e size v n xs) : w'.ownsRow base e size v n xs := by
  obtain ⟨hl, h | ⟨g, cap, cur, h1, h2, h3, h4⟩⟩ := h
  · exact ⟨hl, Or.inl h⟩
  · refine ⟨hl, Or.inr ⟨g, cap, cur, h1, h2, ?_, h4⟩⟩
    rw [hb.block g (Array.getElem?_eq_some_iff.1 h3).1]
    exact h3

theorem RunMem.on {w w' : World} {q : Nat} {s : StV} {ev : EvV} {vs vo : Value} {sends : List EvV} {outs : List OutV} (hb : Below w.heap.size w w') (h : RunMem w q s ev vs vo sends outs) : RunMem w' q s ev vs vo sends outs :=
  ⟨cell_on hb h.x0, cell_on hb h.x1, cell_on hb h.x2, cell_on hb h.e0, cell_on hb h.e1, cell_on hb h.e6, cell_on hb h.cs, cell_on hb h.co,
   fun i => by rw [hb.frozen (p := ⟨q, i, none⟩) (show q < w.heap.size from World.block_lt_of_cell? w ⟨q, 0, none⟩ h.x0)]; exact h.fz i, ownsRow_on hb h.os, ownsRow_on hb h.oo, h.ne, h.ns, h.no⟩

theorem RunMem.put {w : World} {q : Nat} {s : StV} {ev : EvV} {vs vo : Value} {sends : List EvV} {outs : List OutV} (h : RunMem w q s ev vs vo sends outs) (r n : Int) (hr : r = 0 ∨ r = 1) :
    RunMem (w.setCell ⟨q, r.toNat, none⟩ (.int .i64 (n % 1000))) q (putR s r n) ev vs vo sends outs := by
  have hfz : ∀ i, (w.setCell ⟨q, r.toNat, none⟩ (.int .i64 (n % 1000))).frozen? ⟨q, i, none⟩ = false := fun i => by simpa [go_sem] using h.fz i
  have hos := ownsRow_setCell_other h.os (a := ⟨q, r.toNat, none⟩) h.ns (.int .i64 (n % 1000))
  have hoo := ownsRow_setCell_other h.oo (a := ⟨q, r.toNat, none⟩) h.no (.int .i64 (n % 1000))
  obtain ⟨x0, x1, x2, e0, e1, e6, cs, co, fz, _, _, ne, ns, no⟩ := h
  rcases hr with rfl | rfl
  · refine ⟨?_, ?_, ?_, ?_, ?_, ?_, ?_, ?_, hfz, hos, hoo, ne, ns, no⟩ <;> simp [go_sem, putR, x0, x1, x2, e0, e1, e6, cs, co]
  · refine ⟨?_, ?_, ?_, ?_, ?_, ?_, ?_, ?_, hfz, hos, hoo, ne, ns, no⟩ <;> simp [go_sem, putR, x0, x1, x2, e0, e1, e6, cs, co]

def SpecOp (o : OpV) : Prop := ∀ (q : Nat) (s : StV) (ev : EvV) (vs vo : Value) (sends : List EvV) (outs : List OutV) (w : World), RunMem w q s ev vs vo sends outs → stIn s → 0 ≤ ev.arg → ev.arg ≤ 999 → 0 ≤ ev.time → ev.time ≤ 40 → sends.length ≤ 100 → outs.length ≤ 100 →
  Calls Tryd.prog 59 #[.pointer (some ⟨q, 0, none⟩), opAgg o] w fun e w' => ∃ vs' vo', e = .returned (.int .i64 (opSkip s o)) ∧ RunMem w' q (opSt s ev o) ev vs' vo' (opSends s ev sends o) (opOuts s ev outs o) ∧ Below (q - 2) w w'

theorem below_q {q : Nat} {w : World} (hq : q < w.heap.size) (o : Obj) : Below (q - 2) w (w.alloc o) := (Below.refl _ _).alloc (by omega) o

set_option maxRecDepth 100000 in
set_option maxHeartbeats 1600000 in
theorem specOp_set (a b : Int) (ha : a = 0 ∨ a = 1) (hb : 0 ≤ b) (hb2 : b ≤ 999) : SpecOp ⟨1, a, b, 0, 0⟩ := by
  intro q s ev vs vo sends outs w hR hs ha0 ha1 ht0 ht1 hls hlo
  have hq : q < w.heap.size := World.block_lt_of_cell? w ⟨q, 0, none⟩ hR.x0
  have hbx : Below w.heap.size w (w.alloc (.cells #[.int .i64 1, .int .i64 a, .int .i64 b, .int .i64 0, .int .i64 0] 77)) := (Below.refl _ _).alloc (Nat.le_refl _) _
  have hbq : Below (q - 2) w (w.alloc (.cells #[.int .i64 1, .int .i64 a, .int .i64 b, .int .i64 0, .int .i64 0] 77)) := below_q hq _
  have d1 : (w.alloc (.cells #[.int .i64 1, .int .i64 a, .int .i64 b, .int .i64 0, .int .i64 0] 77)).cell? ⟨w.heap.size, 1, none⟩ = some (.int .i64 a) := by simp [go_sem]
  have d2 : (w.alloc (.cells #[.int .i64 1, .int .i64 a, .int .i64 b, .int .i64 0, .int .i64 0] 77)).cell? ⟨w.heap.size, 2, none⟩ = some (.int .i64 b) := by simp [go_sem]
  have d3 : (w.alloc (.cells #[.int .i64 1, .int .i64 a, .int .i64 b, .int .i64 0, .int .i64 0] 77)).cell? ⟨w.heap.size, 3, none⟩ = some (.int .i64 0) := by simp [go_sem]
  have d4 : (w.alloc (.cells #[.int .i64 1, .int .i64 a, .int .i64 b, .int .i64 0, .int .i64 0] 77)).cell? ⟨w.heap.size, 4, none⟩ = some (.int .i64 0) := by simp [go_sem]
  have HR := hide (hR.on hbx)
  have hgr := getR_in hs
  clear hR hbx
  go_enter Tryd.func59, Tryd.ntmps59
  go_wp2_with fail
  generalize w.alloc (.cells #[.int .i64 1, .int .i64 a, .int .i64 b, .int .i64 0, .int .i64 0] 77) = W at *
  refine (put_any q s a b ha _ (unhide HR).x0 (unhide HR).x1 (unhide HR).fz hb (by omega)).mono ?_
  rintro e w' ⟨rfl, rfl⟩
  go_wp2_with fail
  go_ret
  exact ⟨vs, vo, rfl, (unhide HR).put a b ha, hbq.setCell (Nat.sub_le q 2) _⟩

set_option maxRecDepth 100000 in
set_option maxHeartbeats 1600000 in
theorem specOp_skip (a b c : Int) (ha : a = 0 ∨ a = 1) (hc : 1 ≤ c) (hc2 : c ≤ 8) : SpecOp ⟨5, a, b, c, 0⟩ := by
  intro q s ev vs vo sends outs w hR hs ha0 ha1 ht0 ht1 hls hlo
  have hq : q < w.heap.size := World.block_lt_of_cell? w ⟨q, 0, none⟩ hR.x0
  have hbx : Below w.heap.size w (w.alloc (.cells #[.int .i64 5, .int .i64 a, .int .i64 b, .int .i64 c, .int .i64 0] 77)) := (Below.refl _ _).alloc (Nat.le_refl _) _
  have hbq : Below (q - 2) w (w.alloc (.cells #[.int .i64 5, .int .i64 a, .int .i64 b, .int .i64 c, .int .i64 0] 77)) := below_q hq _
  have d1 : (w.alloc (.cells #[.int .i64 5, .int .i64 a, .int .i64 b, .int .i64 c, .int .i64 0] 77)).cell? ⟨w.heap.size, 1, none⟩ = some (.int .i64 a) := by simp [go_sem]
  have d2 : (w.alloc (.cells #[.int .i64 5, .int .i64 a, .int .i64 b, .int .i64 c, .int .i64 0] 77)).cell? ⟨w.heap.size, 2, none⟩ = some (.int .i64 b) := by simp [go_sem]
  have d3 : (w.alloc (.cells #[.int .i64 5, .int .i64 a, .int .i64 b, .int .i64 c, .int .i64 0] 77)).cell? ⟨w.heap.size, 3, none⟩ = some (.int .i64 c) := by simp [go_sem]
  have d4 : (w.alloc (.cells #[.int .i64 5, .int .i64 a, .int .i64 b, .int .i64 c, .int .i64 0] 77)).cell? ⟨w.heap.size, 4, none⟩ = some (.int .i64 0) := by simp [go_sem]
  have HR := hide (hR.on hbx)
  have hgr := getR_in hs
  clear hR hbx
  by_cases hlt : getR s a < b
  · have HSK : Hid (opSkip s ⟨5, a, b, c, 0⟩ = c) := hide (by simp [opSkip, hlt])
    generalize opSkip s ⟨5, a, b, c, 0⟩ = sk at *
    go_enter Tryd.func59, Tryd.ntmps59
    go_wp2_with fail
    generalize w.alloc (.cells #[.int .i64 5, .int .i64 a, .int .i64 b, .int .i64 c, .int .i64 0] 77) = W at *
    have d1' : ∀ y : On W, y.y.cell? ⟨w.heap.size, 1, none⟩ = some (.int .i64 a) := fun y => cell_on y.h d1
    have d2' : ∀ y : On W, y.y.cell? ⟨w.heap.size, 2, none⟩ = some (.int .i64 b) := fun y => cell_on y.h d2
    have hne : Nonempty (On W) := ⟨⟨W, Below.refl _ _⟩⟩
    refine wp_region_on (by kernel_rfl) (by kernel_rfl) ?_
    repeat (first | go_big_quiet_step ((go_at_call 80; exact calls_on_same (get_any q s a ha _ ((unhide HR).on (On.h _)).x0 ((unhide HR).on (On.h _)).x1))) | quiet_step ((go_at_call 80; exact calls_on_same (get_any q s a ha _ ((unhide HR).on (On.h _)).x0 ((unhide HR).on (On.h _)).x1))))
    refine wpQuiet_nil ?_
    intro _ hw'
    obtain ⟨nq, hw''⟩ := hw'
    subst hw''
    have d3' := cell_on nq.h d3
    go_wp2_with fail
    go_ret
    exact ⟨vs, vo, ret_int (unhide HSK).symm, (unhide HR).on nq.h, hbq.trans (nq.h.mono (by have := hbq.size; omega))⟩
  · have HSK : Hid (opSkip s ⟨5, a, b, c, 0⟩ = 0) := hide (by simp [opSkip, hlt])
    generalize opSkip s ⟨5, a, b, c, 0⟩ = sk at *
    go_enter Tryd.func59, Tryd.ntmps59
    go_wp2_with fail
    generalize w.alloc (.cells #[.int .i64 5, .int .i64 a, .int .i64 b, .int .i64 c, .int .i64 0] 77) = W at *
    have d1' : ∀ y : On W, y.y.cell? ⟨w.heap.size, 1, none⟩ = some (.int .i64 a) := fun y => cell_on y.h d1
    have d2' : ∀ y : On W, y.y.cell? ⟨w.heap.size, 2, none⟩ = some (.int .i64 b) := fun y => cell_on y.h d2
    have hne : Nonempty (On W) := ⟨⟨W, Below.refl _ _⟩⟩
    refine wp_region_on (by kernel_rfl) (by kernel_rfl) ?_
    repeat (first | go_big_quiet_step ((go_at_call 80; exact calls_on_same (get_any q s a ha _ ((unhide HR).on (On.h _)).x0 ((unhide HR).on (On.h _)).x1))) | quiet_step ((go_at_call 80; exact calls_on_same (get_any q s a ha _ ((unhide HR).on (On.h _)).x0 ((unhide HR).on (On.h _)).x1))))
    refine wpQuiet_nil ?_
    intro _ hw'
    obtain ⟨nq, hw''⟩ := hw'
    subst hw''
    go_wp2_with fail
    go_ret
    exact ⟨vs, vo, ret_int (unhide HSK).symm, (unhide HR).on nq.h, hbq.trans (nq.h.mono (by have := hbq.size; omega))⟩

set_option maxRecDepth 100000 in
set_option maxHeartbeats 1600000 in
theorem specOp_arg0 : SpecOp ⟨4, 0, 0, 0, 0⟩ := by
  intro q s ev vs vo sends outs w hR hs ha0 ha1 ht0 ht1 hls hlo
  have hq : q < w.heap.size := World.block_lt_of_cell? w ⟨q, 0, none⟩ hR.x0
  have hbx : Below w.heap.size w (w.alloc (.cells #[.int .i64 4, .int .i64 0, .int .i64 0, .int .i64 0, .int .i64 0] 77)) := (Below.refl _ _).alloc (Nat.le_refl _) _
  have hbq : Below (q - 2) w (w.alloc (.cells #[.int .i64 4, .int .i64 0, .int .i64 0, .int .i64 0, .int .i64 0] 77)) := below_q hq _
  have d1 : (w.alloc (.cells #[.int .i64 4, .int .i64 0, .int .i64 0, .int .i64 0, .int .i64 0] 77)).cell? ⟨w.heap.size, 1, none⟩ = some (.int .i64 0) := by simp [go_sem]
  have d2 : (w.alloc (.cells #[.int .i64 4, .int .i64 0, .int .i64 0, .int .i64 0, .int .i64 0] 77)).cell? ⟨w.heap.size, 2, none⟩ = some (.int .i64 0) := by simp [go_sem]
  have d3 : (w.alloc (.cells #[.int .i64 4, .int .i64 0, .int .i64 0, .int .i64 0, .int .i64 0] 77)).cell? ⟨w.heap.size, 3, none⟩ = some (.int .i64 0) := by simp [go_sem]
  have d4 : (w.alloc (.cells #[.int .i64 4, .int .i64 0, .int .i64 0, .int .i64 0, .int .i64 0] 77)).cell? ⟨w.heap.size, 4, none⟩ = some (.int .i64 0) := by simp [go_sem]
  have hqs : ¬ q = w.heap.size := by omega
  have hqs2 : ¬ w.heap.size = q := by omega
  have HR := hide (hR.on hbx)
  have hgr := getR_in hs
  clear hR hbx
  go_enter Tryd.func59, Tryd.ntmps59
  go_wp2_with fail
  generalize w.alloc (.cells #[.int .i64 4, .int .i64 0, .int .i64 0, .int .i64 0, .int .i64 0] 77) = W at *
  have z9 := (unhide HR).e6
  go_region_held3 (fun w' => w'.cell? ⟨w.heap.size, 1, none⟩ = some (.int .i64 0) ∧ w'.cell? ⟨q, 9, none⟩ = some (.int .i64 ev.arg))
    (simp [*, go_sem])
    (first | (go_at_call 79; refine (put_any q s 0 _ (by decide) _ ?_ ?_ ?_ ?_ ?_).mono ?_; exact (unhide HR).x0; exact (unhide HR).x1; exact (unhide HR).fz; omega; omega; rintro e w' ⟨rfl, rfl⟩))
  all_goals go_wp2_with fail
  all_goals go_ret
  all_goals exact ⟨vs, vo, rfl, ((unhide HR).on (Below.refl _ _).drew).put 0 ev.arg (by decide), hbq.drew.setCell (Nat.sub_le q 2) _⟩

set_option maxRecDepth 100000 in
set_option maxHeartbeats 1600000 in
theorem specOp_more0 (b : Int) (hb : 0 ≤ b) (hb2 : b ≤ 999) : SpecOp ⟨3, 0, b, 0, 0⟩ := by
  intro q s ev vs vo sends outs w hR hs ha0 ha1 ht0 ht1 hls hlo
  have hq : q < w.heap.size := World.block_lt_of_cell? w ⟨q, 0, none⟩ hR.x0
  have hbx : Below w.heap.size w (w.alloc (.cells #[.int .i64 3, .int .i64 0, .int .i64 b, .int .i64 0, .int .i64 0] 77)) := (Below.refl _ _).alloc (Nat.le_refl _) _
  have hbq : Below (q - 2) w (w.alloc (.cells #[.int .i64 3, .int .i64 0, .int .i64 b, .int .i64 0, .int .i64 0] 77)) := below_q hq _
  have d1 : (w.alloc (.cells #[.int .i64 3, .int .i64 0, .int .i64 b, .int .i64 0, .int .i64 0] 77)).cell? ⟨w.heap.size, 1, none⟩ = some (.int .i64 0) := by simp [go_sem]
  have d2 : (w.alloc (.cells #[.int .i64 3, .int .i64 0, .int .i64 b, .int .i64 0, .int .i64 0] 77)).cell? ⟨w.heap.size, 2, none⟩ = some (.int .i64 b) := by simp [go_sem]
  have d3 : (w.alloc (.cells #[.int .i64 3, .int .i64 0, .int .i64 b, .int .i64 0, .int .i64 0] 77)).cell? ⟨w.heap.size, 3, none⟩ = some (.int .i64 0) := by simp [go_sem]
  have d4 : (w.alloc (.cells #[.int .i64 3, .int .i64 0, .int .i64 b, .int .i64 0, .int .i64 0] 77)).cell? ⟨w.heap.size, 4, none⟩ = some (.int .i64 0) := by simp [go_sem]
  have hqs : ¬ q = w.heap.size := by omega
  have hqs2 : ¬ w.heap.size = q := by omega
  have HR := hide (hR.on hbx)
  have hgr := getR_in hs
  clear hR hbx
  go_enter Tryd.func59, Tryd.ntmps59
  go_wp2_with fail
  generalize w.alloc (.cells #[.int .i64 3, .int .i64 0, .int .i64 b, .int .i64 0, .int .i64 0] 77) = W at *
  have hg := hgr 0
  have hwr : IntKind.i64.wrap (getR s 0 + b) = getR s 0 + b := by rw [IntKind.wrap_i64]; omega
  go_region_held3 (fun w' => w'.cell? ⟨w.heap.size, 1, none⟩ = some (.int .i64 0) ∧ w'.cell? ⟨w.heap.size, 2, none⟩ = some (.int .i64 b))
    (go_keep)
    (first | (go_at_call 79; refine (put_any q s 0 _ (by decide) _ ?_ ?_ ?_ ?_ ?_).mono ?_; exact (unhide HR).x0; exact (unhide HR).x1; exact (unhide HR).fz; omega; omega; rintro e w' ⟨rfl, rfl⟩) | (go_at_call_of 80 (Value.int .i64 0); refine (get_any q s 0 (by decide) _ ?_ ?_).mono ?_; exact (unhide HR).x0; exact (unhide HR).x1; rintro e w' ⟨rfl, rfl⟩))
  all_goals go_wp2_with fail
  all_goals go_ret
  all_goals exact ⟨vs, vo, rfl, ((unhide HR).on (Below.refl _ _).drew).put 0 (getR s 0 + b) (by decide), hbq.drew.setCell (Nat.sub_le q 2) _⟩

set_option maxRecDepth 100000 in
set_option maxHeartbeats 1600000 in
theorem specOp_add00 : SpecOp ⟨2, 0, 0, 0, 0⟩ := by
  intro q s ev vs vo sends outs w hR hs ha0 ha1 ht0 ht1 hls hlo
  have hq : q < w.heap.size := World.block_lt_of_cell? w ⟨q, 0, none⟩ hR.x0
  have hbx : Below w.heap.size w (w.alloc (.cells #[.int .i64 2, .int .i64 0, .int .i64 0, .int .i64 0, .int .i64 0] 77)) := (Below.refl _ _).alloc (Nat.le_refl _) _
  have hbq : Below (q - 2) w (w.alloc (.cells #[.int .i64 2, .int .i64 0, .int .i64 0, .int .i64 0, .int .i64 0] 77)) := below_q hq _
  have d1 : (w.alloc (.cells #[.int .i64 2, .int .i64 0, .int .i64 0, .int .i64 0, .int .i64 0] 77)).cell? ⟨w.heap.size, 1, none⟩ = some (.int .i64 0) := by simp [go_sem]
  have d2 : (w.alloc (.cells #[.int .i64 2, .int .i64 0, .int .i64 0, .int .i64 0, .int .i64 0] 77)).cell? ⟨w.heap.size, 2, none⟩ = some (.int .i64 0) := by simp [go_sem]
  have d3 : (w.alloc (.cells #[.int .i64 2, .int .i64 0, .int .i64 0, .int .i64 0, .int .i64 0] 77)).cell? ⟨w.heap.size, 3, none⟩ = some (.int .i64 0) := by simp [go_sem]
  have d4 : (w.alloc (.cells #[.int .i64 2, .int .i64 0, .int .i64 0, .int .i64 0, .int .i64 0] 77)).cell? ⟨w.heap.size, 4, none⟩ = some (.int .i64 0) := by simp [go_sem]
  have hqs : ¬ q = w.heap.size := by omega
  have hqs2 : ¬ w.heap.size = q := by omega
  have HR := hide (hR.on hbx)
  have hgr := getR_in hs
  clear hR hbx
  go_enter Tryd.func59, Tryd.ntmps59
  go_wp2_with fail
  generalize w.alloc (.cells #[.int .i64 2, .int .i64 0, .int .i64 0, .int .i64 0, .int .i64 0] 77) = W at *
  have hg := hgr 0
  have hg2 := hgr 0
  have hwr : IntKind.i64.wrap (getR s 0 + getR s 0) = getR s 0 + getR s 0 := by rw [IntKind.wrap_i64]; omega
  go_region_held3 (fun w' => w'.cell? ⟨w.heap.size, 1, none⟩ = some (.int .i64 0) ∧ w'.cell? ⟨w.heap.size, 2, none⟩ = some (.int .i64 0))
    (go_keep)
    (first | (go_at_call 79; refine (put_any q s 0 _ (by decide) _ ?_ ?_ ?_ ?_ ?_).mono ?_; exact (unhide HR).x0; exact (unhide HR).x1; exact (unhide HR).fz; omega; omega; rintro e w' ⟨rfl, rfl⟩) | (go_at_call_of 80 (Value.int .i64 0); refine (get_any q s 0 (by decide) _ ?_ ?_).mono ?_; exact (unhide HR).x0; exact (unhide HR).x1; rintro e w' ⟨rfl, rfl⟩))
  all_goals go_wp2_with fail
  all_goals go_ret
  all_goals exact ⟨vs, vo, rfl, ((unhide HR).on (Below.refl _ _).drew).put 0 (getR s 0 + getR s 0) (by decide), hbq.drew.setCell (Nat.sub_le q 2) _⟩

set_option maxRecDepth 100000 in
set_option maxHeartbeats 1600000 in
theorem specOp_add01 : SpecOp ⟨2, 0, 1, 0, 0⟩ := by
  intro q s ev vs vo sends outs w hR hs ha0 ha1 ht0 ht1 hls hlo
  have hq : q < w.heap.size := World.block_lt_of_cell? w ⟨q, 0, none⟩ hR.x0
  have hbx : Below w.heap.size w (w.alloc (.cells #[.int .i64 2, .int .i64 0, .int .i64 1, .int .i64 0, .int .i64 0] 77)) := (Below.refl _ _).alloc (Nat.le_refl _) _
  have hbq : Below (q - 2) w (w.alloc (.cells #[.int .i64 2, .int .i64 0, .int .i64 1, .int .i64 0, .int .i64 0] 77)) := below_q hq _
  have d1 : (w.alloc (.cells #[.int .i64 2, .int .i64 0, .int .i64 1, .int .i64 0, .int .i64 0] 77)).cell? ⟨w.heap.size, 1, none⟩ = some (.int .i64 0) := by simp [go_sem]
  have d2 : (w.alloc (.cells #[.int .i64 2, .int .i64 0, .int .i64 1, .int .i64 0, .int .i64 0] 77)).cell? ⟨w.heap.size, 2, none⟩ = some (.int .i64 1) := by simp [go_sem]
  have d3 : (w.alloc (.cells #[.int .i64 2, .int .i64 0, .int .i64 1, .int .i64 0, .int .i64 0] 77)).cell? ⟨w.heap.size, 3, none⟩ = some (.int .i64 0) := by simp [go_sem]
  have d4 : (w.alloc (.cells #[.int .i64 2, .int .i64 0, .int .i64 1, .int .i64 0, .int .i64 0] 77)).cell? ⟨w.heap.size, 4, none⟩ = some (.int .i64 0) := by simp [go_sem]
  have hqs : ¬ q = w.heap.size := by omega
  have hqs2 : ¬ w.heap.size = q := by omega
  have HR := hide (hR.on hbx)
  have hgr := getR_in hs
  clear hR hbx
  go_enter Tryd.func59, Tryd.ntmps59
  go_wp2_with fail
  generalize w.alloc (.cells #[.int .i64 2, .int .i64 0, .int .i64 1, .int .i64 0, .int .i64 0] 77) = W at *
  have hg := hgr 0
  have hg2 := hgr 1
  have hwr : IntKind.i64.wrap (getR s 0 + getR s 1) = getR s 0 + getR s 1 := by rw [IntKind.wrap_i64]; omega
  go_region_held3 (fun w' => w'.cell? ⟨w.heap.size, 1, none⟩ = some (.int .i64 0) ∧ w'.cell? ⟨w.heap.size, 2, none⟩ = some (.int .i64 1))
    (go_keep)
    (first | (go_at_call 79; refine (put_any q s 0 _ (by decide) _ ?_ ?_ ?_ ?_ ?_).mono ?_; exact (unhide HR).x0; exact (unhide HR).x1; exact (unhide HR).fz; omega; omega; rintro e w' ⟨rfl, rfl⟩) | (go_at_call_of 80 (Value.int .i64 0); refine (get_any q s 0 (by decide) _ ?_ ?_).mono ?_; exact (unhide HR).x0; exact (unhide HR).x1; rintro e w' ⟨rfl, rfl⟩) | (go_at_call_of 80 (Value.int .i64 1); refine (get_any q s 1 (by decide) _ ?_ ?_).mono ?_; exact (unhide HR).x0; exact (unhide HR).x1; rintro e w' ⟨rfl, rfl⟩))
  all_goals go_wp2_with fail
  all_goals go_ret
  all_goals exact ⟨vs, vo, rfl, ((unhide HR).on (Below.refl _ _).drew).put 0 (getR s 0 + getR s 1) (by decide), hbq.drew.setCell (Nat.sub_le q 2) _⟩

set_option maxRecDepth 100000 in
set_option maxHeartbeats 1600000 in
theorem specOp_arg1 : SpecOp ⟨4, 1, 0, 0, 0⟩ := by
  intro q s ev vs vo sends outs w hR hs ha0 ha1 ht0 ht1 hls hlo
  have hq : q < w.heap.size := World.block_lt_of_cell? w ⟨q, 0, none⟩ hR.x0
  have hbx : Below w.heap.size w (w.alloc (.cells #[.int .i64 4, .int .i64 1, .int .i64 0, .int .i64 0, .int .i64 0] 77)) := (Below.refl _ _).alloc (Nat.le_refl _) _
  have hbq : Below (q - 2) w (w.alloc (.cells #[.int .i64 4, .int .i64 1, .int .i64 0, .int .i64 0, .int .i64 0] 77)) := below_q hq _
  have d1 : (w.alloc (.cells #[.int .i64 4, .int .i64 1, .int .i64 0, .int .i64 0, .int .i64 0] 77)).cell? ⟨w.heap.size, 1, none⟩ = some (.int .i64 1) := by simp [go_sem]
  have d2 : (w.alloc (.cells #[.int .i64 4, .int .i64 1, .int .i64 0, .int .i64 0, .int .i64 0] 77)).cell? ⟨w.heap.size, 2, none⟩ = some (.int .i64 0) := by simp [go_sem]
  have d3 : (w.alloc (.cells #[.int .i64 4, .int .i64 1, .int .i64 0, .int .i64 0, .int .i64 0] 77)).cell? ⟨w.heap.size, 3, none⟩ = some (.int .i64 0) := by simp [go_sem]
  have d4 : (w.alloc (.cells #[.int .i64 4, .int .i64 1, .int .i64 0, .int .i64 0, .int .i64 0] 77)).cell? ⟨w.heap.size, 4, none⟩ = some (.int .i64 0) := by simp [go_sem]
  have hqs : ¬ q = w.heap.size := by omega
  have hqs2 : ¬ w.heap.size = q := by omega
  have HR := hide (hR.on hbx)
  have hgr := getR_in hs
  clear hR hbx
  go_enter Tryd.func59, Tryd.ntmps59
  go_wp2_with fail
  generalize w.alloc (.cells #[.int .i64 4, .int .i64 1, .int .i64 0, .int .i64 0, .int .i64 0] 77) = W at *
  have z9 := (unhide HR).e6
  go_region_held3 (fun w' => w'.cell? ⟨w.heap.size, 1, none⟩ = some (.int .i64 1) ∧ w'.cell? ⟨q, 9, none⟩ = some (.int .i64 ev.arg))
    (simp [*, go_sem])
    (first | (go_at_call 79; refine (put_any q s 1 _ (by decide) _ ?_ ?_ ?_ ?_ ?_).mono ?_; exact (unhide HR).x0; exact (unhide HR).x1; exact (unhide HR).fz; omega; omega; rintro e w' ⟨rfl, rfl⟩))
  all_goals go_wp2_with fail
  all_goals go_ret
  all_goals exact ⟨vs, vo, rfl, ((unhide HR).on (Below.refl _ _).drew).put 1 ev.arg (by decide), hbq.drew.setCell (Nat.sub_le q 2) _⟩

set_option maxRecDepth 100000 in
set_option maxHeartbeats 1600000 in
theorem specOp_more1 (b : Int) (hb : 0 ≤ b) (hb2 : b ≤ 999) : SpecOp ⟨3, 1, b, 0, 0⟩ := by
  intro q s ev vs vo sends outs w hR hs ha0 ha1 ht0 ht1 hls hlo
  have hq : q < w.heap.size := World.block_lt_of_cell? w ⟨q, 0, none⟩ hR.x0
  have hbx : Below w.heap.size w (w.alloc (.cells #[.int .i64 3, .int .i64 1, .int .i64 b, .int .i64 0, .int .i64 0] 77)) := (Below.refl _ _).alloc (Nat.le_refl _) _
  have hbq : Below (q - 2) w (w.alloc (.cells #[.int .i64 3, .int .i64 1, .int .i64 b, .int .i64 0, .int .i64 0] 77)) := below_q hq _
  have d1 : (w.alloc (.cells #[.int .i64 3, .int .i64 1, .int .i64 b, .int .i64 0, .int .i64 0] 77)).cell? ⟨w.heap.size, 1, none⟩ = some (.int .i64 1) := by simp [go_sem]
  have d2 : (w.alloc (.cells #[.int .i64 3, .int .i64 1, .int .i64 b, .int .i64 0, .int .i64 0] 77)).cell? ⟨w.heap.size, 2, none⟩ = some (.int .i64 b) := by simp [go_sem]
  have d3 : (w.alloc (.cells #[.int .i64 3, .int .i64 1, .int .i64 b, .int .i64 0, .int .i64 0] 77)).cell? ⟨w.heap.size, 3, none⟩ = some (.int .i64 0) := by simp [go_sem]
  have d4 : (w.alloc (.cells #[.int .i64 3, .int .i64 1, .int .i64 b, .int .i64 0, .int .i64 0] 77)).cell? ⟨w.heap.size, 4, none⟩ = some (.int .i64 0) := by simp [go_sem]
  have hqs : ¬ q = w.heap.size := by omega
  have hqs2 : ¬ w.heap.size = q := by omega
  have HR := hide (hR.on hbx)
  have hgr := getR_in hs
  clear hR hbx
  go_enter Tryd.func59, Tryd.ntmps59
  go_wp2_with fail
  generalize w.alloc (.cells #[.int .i64 3, .int .i64 1, .int .i64 b, .int .i64 0, .int .i64 0] 77) = W at *
  have hg := hgr 1
  have hwr : IntKind.i64.wrap (getR s 1 + b) = getR s 1 + b := by rw [IntKind.wrap_i64]; omega
  go_region_held3 (fun w' => w'.cell? ⟨w.heap.size, 1, none⟩ = some (.int .i64 1) ∧ w'.cell? ⟨w.heap.size, 2, none⟩ = some (.int .i64 b))
    (go_keep)
    (first | (go_at_call 79; refine (put_any q s 1 _ (by decide) _ ?_ ?_ ?_ ?_ ?_).mono ?_; exact (unhide HR).x0; exact (unhide HR).x1; exact (unhide HR).fz; omega; omega; rintro e w' ⟨rfl, rfl⟩) | (go_at_call_of 80 (Value.int .i64 1); refine (get_any q s 1 (by decide) _ ?_ ?_).mono ?_; exact (unhide HR).x0; exact (unhide HR).x1; rintro e w' ⟨rfl, rfl⟩))
  all_goals go_wp2_with fail
  all_goals go_ret
  all_goals exact ⟨vs, vo, rfl, ((unhide HR).on (Below.refl _ _).drew).put 1 (getR s 1 + b) (by decide), hbq.drew.setCell (Nat.sub_le q 2) _⟩

set_option maxRecDepth 100000 in
set_option maxHeartbeats 1600000 in
theorem specOp_add10 : SpecOp ⟨2, 1, 0, 0, 0⟩ := by
  intro q s ev vs vo sends outs w hR hs ha0 ha1 ht0 ht1 hls hlo
  have hq : q < w.heap.size := World.block_lt_of_cell? w ⟨q, 0, none⟩ hR.x0
  have hbx : Below w.heap.size w (w.alloc (.cells #[.int .i64 2, .int .i64 1, .int .i64 0, .int .i64 0, .int .i64 0] 77)) := (Below.refl _ _).alloc (Nat.le_refl _) _
  have hbq : Below (q - 2) w (w.alloc (.cells #[.int .i64 2, .int .i64 1, .int .i64 0, .int .i64 0, .int .i64 0] 77)) := below_q hq _
  have d1 : (w.alloc (.cells #[.int .i64 2, .int .i64 1, .int .i64 0, .int .i64 0, .int .i64 0] 77)).cell? ⟨w.heap.size, 1, none⟩ = some (.int .i64 1) := by simp [go_sem]
  have d2 : (w.alloc (.cells #[.int .i64 2, .int .i64 1, .int .i64 0, .int .i64 0, .int .i64 0] 77)).cell? ⟨w.heap.size, 2, none⟩ = some (.int .i64 0) := by simp [go_sem]
  have d3 : (w.alloc (.cells #[.int .i64 2, .int .i64 1, .int .i64 0, .int .i64 0, .int .i64 0] 77)).cell? ⟨w.heap.size, 3, none⟩ = some (.int .i64 0) := by simp [go_sem]
  have d4 : (w.alloc (.cells #[.int .i64 2, .int .i64 1, .int .i64 0, .int .i64 0, .int .i64 0] 77)).cell? ⟨w.heap.size, 4, none⟩ = some (.int .i64 0) := by simp [go_sem]
  have hqs : ¬ q = w.heap.size := by omega
  have hqs2 : ¬ w.heap.size = q := by omega
  have HR := hide (hR.on hbx)
  have hgr := getR_in hs
  clear hR hbx
  go_enter Tryd.func59, Tryd.ntmps59
  go_wp2_with fail
  generalize w.alloc (.cells #[.int .i64 2, .int .i64 1, .int .i64 0, .int .i64 0, .int .i64 0] 77) = W at *
  have hg := hgr 1
  have hg2 := hgr 0
  have hwr : IntKind.i64.wrap (getR s 1 + getR s 0) = getR s 1 + getR s 0 := by rw [IntKind.wrap_i64]; omega
  go_region_held3 (fun w' => w'.cell? ⟨w.heap.size, 1, none⟩ = some (.int .i64 1) ∧ w'.cell? ⟨w.heap.size, 2, none⟩ = some (.int .i64 0))
    (go_keep)
    (first | (go_at_call 79; refine (put_any q s 1 _ (by decide) _ ?_ ?_ ?_ ?_ ?_).mono ?_; exact (unhide HR).x0; exact (unhide HR).x1; exact (unhide HR).fz; omega; omega; rintro e w' ⟨rfl, rfl⟩) | (go_at_call_of 80 (Value.int .i64 1); refine (get_any q s 1 (by decide) _ ?_ ?_).mono ?_; exact (unhide HR).x0; exact (unhide HR).x1; rintro e w' ⟨rfl, rfl⟩) | (go_at_call_of 80 (Value.int .i64 0); refine (get_any q s 0 (by decide) _ ?_ ?_).mono ?_; exact (unhide HR).x0; exact (unhide HR).x1; rintro e w' ⟨rfl, rfl⟩))
  all_goals go_wp2_with fail
  all_goals go_ret
  all_goals exact ⟨vs, vo, rfl, ((unhide HR).on (Below.refl _ _).drew).put 1 (getR s 1 + getR s 0) (by decide), hbq.drew.setCell (Nat.sub_le q 2) _⟩

set_option maxRecDepth 100000 in
set_option maxHeartbeats 1600000 in
theorem specOp_add11 : SpecOp ⟨2, 1, 1, 0, 0⟩ := by
  intro q s ev vs vo sends outs w hR hs ha0 ha1 ht0 ht1 hls hlo
  have hq : q < w.heap.size := World.block_lt_of_cell? w ⟨q, 0, none⟩ hR.x0
  have hbx : Below w.heap.size w (w.alloc (.cells #[.int .i64 2, .int .i64 1, .int .i64 1, .int .i64 0, .int .i64 0] 77)) := (Below.refl _ _).alloc (Nat.le_refl _) _
  have hbq : Below (q - 2) w (w.alloc (.cells #[.int .i64 2, .int .i64 1, .int .i64 1, .int .i64 0, .int .i64 0] 77)) := below_q hq _
  have d1 : (w.alloc (.cells #[.int .i64 2, .int .i64 1, .int .i64 1, .int .i64 0, .int .i64 0] 77)).cell? ⟨w.heap.size, 1, none⟩ = some (.int .i64 1) := by simp [go_sem]
  have d2 : (w.alloc (.cells #[.int .i64 2, .int .i64 1, .int .i64 1, .int .i64 0, .int .i64 0] 77)).cell? ⟨w.heap.size, 2, none⟩ = some (.int .i64 1) := by simp [go_sem]
  have d3 : (w.alloc (.cells #[.int .i64 2, .int .i64 1, .int .i64 1, .int .i64 0, .int .i64 0] 77)).cell? ⟨w.heap.size, 3, none⟩ = some (.int .i64 0) := by simp [go_sem]
  have d4 : (w.alloc (.cells #[.int .i64 2, .int .i64 1, .int .i64 1, .int .i64 0, .int .i64 0] 77)).cell? ⟨w.heap.size, 4, none⟩ = some (.int .i64 0) := by simp [go_sem]
  have hqs : ¬ q = w.heap.size := by omega
  have hqs2 : ¬ w.heap.size = q := by omega
  have HR := hide (hR.on hbx)
  have hgr := getR_in hs
  clear hR hbx
  go_enter Tryd.func59, Tryd.ntmps59
  go_wp2_with fail
  generalize w.alloc (.cells #[.int .i64 2, .int .i64 1, .int .i64 1, .int .i64 0, .int .i64 0] 77) = W at *
  have hg := hgr 1
  have hg2 := hgr 1
  have hwr : IntKind.i64.wrap (getR s 1 + getR s 1) = getR s 1 + getR s 1 := by rw [IntKind.wrap_i64]; omega
  go_region_held3 (fun w' => w'.cell? ⟨w.heap.size, 1, none⟩ = some (.int .i64 1) ∧ w'.cell? ⟨w.heap.size, 2, none⟩ = some (.int .i64 1))
    (go_keep)
    (first | (go_at_call 79; refine (put_any q s 1 _ (by decide) _ ?_ ?_ ?_ ?_ ?_).mono ?_; exact (unhide HR).x0; exact (unhide HR).x1; exact (unhide HR).fz; omega; omega; rintro e w' ⟨rfl, rfl⟩) | (go_at_call_of 80 (Value.int .i64 1); refine (get_any q s 1 (by decide) _ ?_ ?_).mono ?_; exact (unhide HR).x0; exact (unhide HR).x1; rintro e w' ⟨rfl, rfl⟩))
  all_goals go_wp2_with fail
  all_goals go_ret
  all_goals exact ⟨vs, vo, rfl, ((unhide HR).on (Below.refl _ _).drew).put 1 (getR s 1 + getR s 1) (by decide), hbq.drew.setCell (Nat.sub_le q 2) _⟩

end Go.Proofs.YtjbgiepaehefpaaDoor
