/- Work in memory under stores; impl's do of opPuts, opAdds, opSkips. -/
import Derived.Test.YtjbgiepaehefpaaDoorIm2
namespace Go.Proofs.YtjbgiepaehefpaaDoor
open Go.RowKit
set_option linter.unusedVariables false
set_option linter.unusedSimpArgs false

theorem ImMem.on {w w' : World} {q : Nat} {s : StV} {ev : EvV} {sk : Int} {vs vo : Value} {sends : List EvV} {outs : List OutV} (hb : Below w.heap.size w w') (h : ImMem w q s ev sk vs vo sends outs) : ImMem w' q s ev sk vs vo sends outs :=
  ⟨cell_on hb h.e0, cell_on hb h.e1, cell_on hb h.e6, cell_on hb h.e2, cell_on hb h.e3, cell_on hb h.e4, cell_on hb h.e5, cell_on hb h.x0, cell_on hb h.x1, cell_on hb h.x2, cell_on hb h.ck, cell_on hb h.cs, cell_on hb h.co,
   fun i => by rw [hb.frozen (p := ⟨q, i, none⟩) (show q < w.heap.size from World.block_lt_of_cell? w ⟨q, 7, none⟩ h.x0)]; exact h.fz i, ownsRow_on hb h.os, ownsRow_on hb h.oo, h.ne⟩

theorem ImMem.put {w : World} {q : Nat} {s : StV} {ev : EvV} {sk : Int} {vs vo : Value} {sends : List EvV} {outs : List OutV} (h : ImMem w q s ev sk vs vo sends outs) (r n : Int) (hr : r = 0 ∨ r = 1) :
    ImMem (w.setCell ⟨q, 7 + r.toNat, none⟩ (.int .i64 (n % 1000))) q (putR s r n) ev sk vs vo sends outs := by
  have hfz : ∀ i, (w.setCell ⟨q, 7 + r.toNat, none⟩ (.int .i64 (n % 1000))).frozen? ⟨q, i, none⟩ = false := fun i => by simpa [go_sem] using h.fz i
  have hos := ownsRow_setCell_below h.os (a := ⟨q, 7 + r.toNat, none⟩) (Nat.lt_succ_self q) (.int .i64 (n % 1000))
  have hoo := ownsRow_setCell_below h.oo (a := ⟨q, 7 + r.toNat, none⟩) (Nat.lt_succ_self q) (.int .i64 (n % 1000))
  obtain ⟨e0, e1, e6, e2, e3, e4, e5, x0, x1, x2, ck, cs, co, fz, _, _, ne⟩ := h
  rcases hr with rfl | rfl
  · refine ⟨?_, ?_, ?_, ?_, ?_, ?_, ?_, ?_, ?_, ?_, ?_, ?_, ?_, hfz, hos, hoo, ne⟩ <;> simp [go_sem, putR, x0, x1, x2, e0, e1, e6, e2, e3, e4, e5, ck, cs, co]
  · refine ⟨?_, ?_, ?_, ?_, ?_, ?_, ?_, ?_, ?_, ?_, ?_, ?_, ?_, hfz, hos, hoo, ne⟩ <;> simp [go_sem, putR, x0, x1, x2, e0, e1, e6, e2, e3, e4, e5, ck, cs, co]

theorem ImMem.skip {w : World} {q : Nat} {s : StV} {ev : EvV} {sk : Int} {vs vo : Value} {sends : List EvV} {outs : List OutV} (h : ImMem w q s ev sk vs vo sends outs) (n : Int) :
    ImMem (w.setCell ⟨q, 10, none⟩ (.int .i64 n)) q s ev n vs vo sends outs := by
  have hfz : ∀ i, (w.setCell ⟨q, 10, none⟩ (.int .i64 n)).frozen? ⟨q, i, none⟩ = false := fun i => by simpa [go_sem] using h.fz i
  have hos := ownsRow_setCell_below h.os (a := ⟨q, 10, none⟩) (Nat.lt_succ_self q) (.int .i64 n)
  have hoo := ownsRow_setCell_below h.oo (a := ⟨q, 10, none⟩) (Nat.lt_succ_self q) (.int .i64 n)
  obtain ⟨e0, e1, e6, e2, e3, e4, e5, x0, x1, x2, ck, cs, co, fz, _, _, ne⟩ := h
  refine ⟨?_, ?_, ?_, ?_, ?_, ?_, ?_, ?_, ?_, ?_, ?_, ?_, ?_, hfz, hos, hoo, ne⟩ <;> simp [go_sem, x0, x1, x2, e0, e1, e6, e2, e3, e4, e5, ck, cs, co]

theorem below_q1 {q : Nat} {w : World} (hq : q < w.heap.size) (o : Obj) : Below q w (w.alloc o) := (Below.refl _ _).alloc (by omega) o

/-- What impl's do is to do, as it is called. -/
def Does (f : FuncId) (pay : Value) (o : OpV) : Prop := ∀ (q : Nat) (s : StV) (ev : EvV) (vs vo : Value) (sends : List EvV) (outs : List OutV) (w : World), ImMem w q s ev 0 vs vo sends outs → stIn s → 0 ≤ ev.arg → ev.arg ≤ 999 → 0 ≤ ev.time → ev.time ≤ 40 → sends.length ≤ 100 → outs.length ≤ 100 →
  Calls Tryd.prog f #[pay, .pointer (some ⟨q, 0, none⟩)] w fun e w' => ∃ vs' vo', e = .returned (.tuple #[]) ∧ ImMem w' q (opSt s ev o) ev (opSkip s o) vs' vo' (opSends s ev sends o) (opOuts s ev outs o) ∧ Below q w w'

set_option maxRecDepth 100000 in
set_option maxHeartbeats 1600000 in
theorem doPuts (a n : Int) (ha : a = 0 ∨ a = 1) (hn : 0 ≤ n) (hn2 : n ≤ 2000) (q : Nat) (s : StV) (ev : EvV) (sk : Int) (vs vo : Value) (sends : List EvV) (outs : List OutV) (w : World) (hR : ImMem w q s ev sk vs vo sends outs) :
    Calls Tryd.prog 174 #[.agg #[.int .i64 a, .int .i64 n], .pointer (some ⟨q, 0, none⟩)] w fun e w' => e = .returned (.tuple #[]) ∧ ImMem w' q (putR s a n) ev sk vs vo sends outs ∧ Below q w w' := by
  have hq : q < w.heap.size := World.block_lt_of_cell? w ⟨q, 7, none⟩ hR.x0
  have hbx : Below w.heap.size w (w.alloc (.cells #[.int .i64 a, .int .i64 n] 157)) := (Below.refl _ _).alloc (Nat.le_refl _) _
  have hbq : Below q w (w.alloc (.cells #[.int .i64 a, .int .i64 n] 157)) := below_q1 hq _
  have d0 : (w.alloc (.cells #[.int .i64 a, .int .i64 n] 157)).cell? ⟨w.heap.size, 0, none⟩ = some (.int .i64 a) := by simp [go_sem]
  have d1 : (w.alloc (.cells #[.int .i64 a, .int .i64 n] 157)).cell? ⟨w.heap.size, 1, none⟩ = some (.int .i64 n) := by simp [go_sem]
  have hqs : ¬ q = w.heap.size := by omega
  have hqs2 : ¬ w.heap.size = q := by omega
  have HR := hide (hR.on hbx)
  clear hR hbx
  go_enter Tryd.func174, Tryd.ntmps174
  go_wp2_with fail
  generalize w.alloc (.cells #[.int .i64 a, .int .i64 n] 157) = W at *
  refine (iput_any q s a n ha _ (unhide HR).x0 (unhide HR).x1 (unhide HR).fz hn (by omega)).mono ?_
  rintro e w' ⟨rfl, rfl⟩
  go_wp2_with fail
  go_end0
  exact ⟨rfl, (unhide HR).put a n ha, hbq.setCell (Nat.le_refl q) _⟩

set_option maxRecDepth 100000 in
set_option maxHeartbeats 1600000 in
theorem doAdds0 (n : Int) (hn : 0 ≤ n) (hn2 : n ≤ 2000) (q : Nat) (s : StV) (ev : EvV) (sk : Int) (vs vo : Value) (sends : List EvV) (outs : List OutV) (w : World) (hR : ImMem w q s ev sk vs vo sends outs) (hs : stIn s) :
    Calls Tryd.prog 176 #[.agg #[.int .i64 0, .int .i64 n], .pointer (some ⟨q, 0, none⟩)] w fun e w' => e = .returned (.tuple #[]) ∧ ImMem w' q (putR s 0 (getR s 0 + n)) ev sk vs vo sends outs ∧ Below q w w' := by
  have hq : q < w.heap.size := World.block_lt_of_cell? w ⟨q, 7, none⟩ hR.x0
  have hbx : Below w.heap.size w (w.alloc (.cells #[.int .i64 0, .int .i64 n] 158)) := (Below.refl _ _).alloc (Nat.le_refl _) _
  have hbq : Below q w (w.alloc (.cells #[.int .i64 0, .int .i64 n] 158)) := below_q1 hq _
  have d0 : (w.alloc (.cells #[.int .i64 0, .int .i64 n] 158)).cell? ⟨w.heap.size, 0, none⟩ = some (.int .i64 0) := by simp [go_sem]
  have d1 : (w.alloc (.cells #[.int .i64 0, .int .i64 n] 158)).cell? ⟨w.heap.size, 1, none⟩ = some (.int .i64 n) := by simp [go_sem]
  have hqs : ¬ q = w.heap.size := by omega
  have hqs2 : ¬ w.heap.size = q := by omega
  have HR := hide (hR.on hbx)
  clear hR hbx
  go_enter Tryd.func176, Tryd.ntmps176
  go_wp2_with fail
  generalize w.alloc (.cells #[.int .i64 0, .int .i64 n] 158) = W at *
  have hg := getR_in hs 0
  have hwr : IntKind.i64.wrap (getR s 0 + n) = getR s 0 + n := by rw [IntKind.wrap_i64]; omega
  go_region_held3 (fun w' => w'.cell? ⟨w.heap.size, 0, none⟩ = some (.int .i64 0) ∧ w'.cell? ⟨w.heap.size, 1, none⟩ = some (.int .i64 n))
    (go_keep)
    (first | (go_at_call 175; refine (iput_any q s 0 _ (by decide) _ ?_ ?_ ?_ ?_ ?_).mono ?_; exact (unhide HR).x0; exact (unhide HR).x1; exact (unhide HR).fz; omega; omega; rintro e w' ⟨rfl, rfl⟩) | (go_at_call_of 118 (Value.int .i64 0); refine (iget_any q s 0 (by decide) _ ?_ ?_).mono ?_; exact (unhide HR).x0; exact (unhide HR).x1; rintro e w' ⟨rfl, rfl⟩))
  all_goals go_wp2_with fail
  all_goals go_end0
  all_goals exact ⟨rfl, ((unhide HR).on (Below.refl _ _).drew).put 0 (getR s 0 + n) (by decide), hbq.drew.setCell (Nat.le_refl q) _⟩

set_option maxRecDepth 100000 in
set_option maxHeartbeats 1600000 in
theorem doAdds1 (n : Int) (hn : 0 ≤ n) (hn2 : n ≤ 2000) (q : Nat) (s : StV) (ev : EvV) (sk : Int) (vs vo : Value) (sends : List EvV) (outs : List OutV) (w : World) (hR : ImMem w q s ev sk vs vo sends outs) (hs : stIn s) :
    Calls Tryd.prog 176 #[.agg #[.int .i64 1, .int .i64 n], .pointer (some ⟨q, 0, none⟩)] w fun e w' => e = .returned (.tuple #[]) ∧ ImMem w' q (putR s 1 (getR s 1 + n)) ev sk vs vo sends outs ∧ Below q w w' := by
  have hq : q < w.heap.size := World.block_lt_of_cell? w ⟨q, 7, none⟩ hR.x0
  have hbx : Below w.heap.size w (w.alloc (.cells #[.int .i64 1, .int .i64 n] 158)) := (Below.refl _ _).alloc (Nat.le_refl _) _
  have hbq : Below q w (w.alloc (.cells #[.int .i64 1, .int .i64 n] 158)) := below_q1 hq _
  have d0 : (w.alloc (.cells #[.int .i64 1, .int .i64 n] 158)).cell? ⟨w.heap.size, 0, none⟩ = some (.int .i64 1) := by simp [go_sem]
  have d1 : (w.alloc (.cells #[.int .i64 1, .int .i64 n] 158)).cell? ⟨w.heap.size, 1, none⟩ = some (.int .i64 n) := by simp [go_sem]
  have hqs : ¬ q = w.heap.size := by omega
  have hqs2 : ¬ w.heap.size = q := by omega
  have HR := hide (hR.on hbx)
  clear hR hbx
  go_enter Tryd.func176, Tryd.ntmps176
  go_wp2_with fail
  generalize w.alloc (.cells #[.int .i64 1, .int .i64 n] 158) = W at *
  have hg := getR_in hs 1
  have hwr : IntKind.i64.wrap (getR s 1 + n) = getR s 1 + n := by rw [IntKind.wrap_i64]; omega
  go_region_held3 (fun w' => w'.cell? ⟨w.heap.size, 0, none⟩ = some (.int .i64 1) ∧ w'.cell? ⟨w.heap.size, 1, none⟩ = some (.int .i64 n))
    (go_keep)
    (first | (go_at_call 175; refine (iput_any q s 1 _ (by decide) _ ?_ ?_ ?_ ?_ ?_).mono ?_; exact (unhide HR).x0; exact (unhide HR).x1; exact (unhide HR).fz; omega; omega; rintro e w' ⟨rfl, rfl⟩) | (go_at_call_of 118 (Value.int .i64 1); refine (iget_any q s 1 (by decide) _ ?_ ?_).mono ?_; exact (unhide HR).x0; exact (unhide HR).x1; rintro e w' ⟨rfl, rfl⟩))
  all_goals go_wp2_with fail
  all_goals go_end0
  all_goals exact ⟨rfl, ((unhide HR).on (Below.refl _ _).drew).put 1 (getR s 1 + n) (by decide), hbq.drew.setCell (Nat.le_refl q) _⟩

set_option maxRecDepth 100000 in
set_option maxHeartbeats 1600000 in
theorem doSkips_on (a b c : Int) (ha : a = 0 ∨ a = 1) (q : Nat) (s : StV) (ev : EvV) (sk : Int) (vs vo : Value) (sends : List EvV) (outs : List OutV) (w : World) (hR : ImMem w q s ev sk vs vo sends outs) (hlt : getR s a < b) :
    Calls Tryd.prog 177 #[.agg #[.int .i64 a, .int .i64 b, .int .i64 c], .pointer (some ⟨q, 0, none⟩)] w fun e w' => e = .returned (.tuple #[]) ∧ ImMem w' q s ev c vs vo sends outs ∧ Below q w w' := by
  have hq : q < w.heap.size := World.block_lt_of_cell? w ⟨q, 7, none⟩ hR.x0
  have hbx : Below w.heap.size w (w.alloc (.cells #[.int .i64 a, .int .i64 b, .int .i64 c] 160)) := (Below.refl _ _).alloc (Nat.le_refl _) _
  have hbq : Below q w (w.alloc (.cells #[.int .i64 a, .int .i64 b, .int .i64 c] 160)) := below_q1 hq _
  have d0 : (w.alloc (.cells #[.int .i64 a, .int .i64 b, .int .i64 c] 160)).cell? ⟨w.heap.size, 0, none⟩ = some (.int .i64 a) := by simp [go_sem]
  have d1 : (w.alloc (.cells #[.int .i64 a, .int .i64 b, .int .i64 c] 160)).cell? ⟨w.heap.size, 1, none⟩ = some (.int .i64 b) := by simp [go_sem]
  have d2 : (w.alloc (.cells #[.int .i64 a, .int .i64 b, .int .i64 c] 160)).cell? ⟨w.heap.size, 2, none⟩ = some (.int .i64 c) := by simp [go_sem]
  have hqs : ¬ q = w.heap.size := by omega
  have hqs2 : ¬ w.heap.size = q := by omega
  have HR := hide (hR.on hbx)
  clear hR hbx
  go_enter Tryd.func177, Tryd.ntmps177
  go_wp2_with fail
  generalize w.alloc (.cells #[.int .i64 a, .int .i64 b, .int .i64 c] 160) = W at *
  have d0' : ∀ y : On W, y.y.cell? ⟨w.heap.size, 0, none⟩ = some (.int .i64 a) := fun y => cell_on y.h d0
  have d1' : ∀ y : On W, y.y.cell? ⟨w.heap.size, 1, none⟩ = some (.int .i64 b) := fun y => cell_on y.h d1
  have hne : Nonempty (On W) := ⟨⟨W, Below.refl _ _⟩⟩
  refine wp_region_on (by kernel_rfl) (by kernel_rfl) ?_
  repeat (first | go_big_quiet_step ((go_at_call 118; exact calls_on_same (iget_any q s a ha _ ((unhide HR).on (On.h _)).x0 ((unhide HR).on (On.h _)).x1))) | quiet_step ((go_at_call 118; exact calls_on_same (iget_any q s a ha _ ((unhide HR).on (On.h _)).x0 ((unhide HR).on (On.h _)).x1))))
  refine wpQuiet_nil ?_
  intro _ hw'
  obtain ⟨nq, hw''⟩ := hw'
  subst hw''
  have d2' := cell_on nq.h d2
  have HR2 := hide ((unhide HR).on nq.h)
  have k10 := (unhide HR2).ck
  have f10 := (unhide HR2).fz 10
  go_wp2_with fail
  go_end0
  exact ⟨rfl, (unhide HR2).skip c, (hbq.trans (nq.h.mono (by have := hbq.size; omega))).setCell (Nat.le_refl q) _⟩

set_option maxRecDepth 100000 in
set_option maxHeartbeats 1600000 in
theorem doSkips_off (a b c : Int) (ha : a = 0 ∨ a = 1) (q : Nat) (s : StV) (ev : EvV) (sk : Int) (vs vo : Value) (sends : List EvV) (outs : List OutV) (w : World) (hR : ImMem w q s ev sk vs vo sends outs) (hlt : ¬ getR s a < b) :
    Calls Tryd.prog 177 #[.agg #[.int .i64 a, .int .i64 b, .int .i64 c], .pointer (some ⟨q, 0, none⟩)] w fun e w' => e = .returned (.tuple #[]) ∧ ImMem w' q s ev sk vs vo sends outs ∧ Below q w w' := by
  have hq : q < w.heap.size := World.block_lt_of_cell? w ⟨q, 7, none⟩ hR.x0
  have hbx : Below w.heap.size w (w.alloc (.cells #[.int .i64 a, .int .i64 b, .int .i64 c] 160)) := (Below.refl _ _).alloc (Nat.le_refl _) _
  have hbq : Below q w (w.alloc (.cells #[.int .i64 a, .int .i64 b, .int .i64 c] 160)) := below_q1 hq _
  have d0 : (w.alloc (.cells #[.int .i64 a, .int .i64 b, .int .i64 c] 160)).cell? ⟨w.heap.size, 0, none⟩ = some (.int .i64 a) := by simp [go_sem]
  have d1 : (w.alloc (.cells #[.int .i64 a, .int .i64 b, .int .i64 c] 160)).cell? ⟨w.heap.size, 1, none⟩ = some (.int .i64 b) := by simp [go_sem]
  have d2 : (w.alloc (.cells #[.int .i64 a, .int .i64 b, .int .i64 c] 160)).cell? ⟨w.heap.size, 2, none⟩ = some (.int .i64 c) := by simp [go_sem]
  have hqs : ¬ q = w.heap.size := by omega
  have hqs2 : ¬ w.heap.size = q := by omega
  have HR := hide (hR.on hbx)
  clear hR hbx
  go_enter Tryd.func177, Tryd.ntmps177
  go_wp2_with fail
  generalize w.alloc (.cells #[.int .i64 a, .int .i64 b, .int .i64 c] 160) = W at *
  have d0' : ∀ y : On W, y.y.cell? ⟨w.heap.size, 0, none⟩ = some (.int .i64 a) := fun y => cell_on y.h d0
  have d1' : ∀ y : On W, y.y.cell? ⟨w.heap.size, 1, none⟩ = some (.int .i64 b) := fun y => cell_on y.h d1
  have hne : Nonempty (On W) := ⟨⟨W, Below.refl _ _⟩⟩
  refine wp_region_on (by kernel_rfl) (by kernel_rfl) ?_
  repeat (first | go_big_quiet_step ((go_at_call 118; exact calls_on_same (iget_any q s a ha _ ((unhide HR).on (On.h _)).x0 ((unhide HR).on (On.h _)).x1))) | quiet_step ((go_at_call 118; exact calls_on_same (iget_any q s a ha _ ((unhide HR).on (On.h _)).x0 ((unhide HR).on (On.h _)).x1))))
  refine wpQuiet_nil ?_
  intro _ hw'
  obtain ⟨nq, hw''⟩ := hw'
  subst hw''
  go_wp2_with fail
  go_end0
  exact ⟨rfl, (unhide HR).on nq.h, hbq.trans (nq.h.mono (by have := hbq.size; omega))⟩

end Go.Proofs.YtjbgiepaehefpaaDoor
