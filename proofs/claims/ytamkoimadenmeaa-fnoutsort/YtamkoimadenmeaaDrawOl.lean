/- spec.l72Out, spec.DrawOutLess: what is let out, drawn. -/
import Derived.Test.YtamkoimadenmeaaDrawEv
import Derived.Deep.OwnRows
import Derived.OneCell
import Derived.Deep.CutRange
import Derived.Deep.RegionHeld3
namespace Go.Proofs.Ytamkoimadenmeaa
open Go.RowKit
set_option linter.unusedVariables false
set_option linter.unusedSimpArgs false

theorem row_new (w : World) (cs : List Value) (t : TypeId) : (w.alloc (.cells cs.toArray t)).rowIs w.heap.size t cs.length (fun i => cs.getD i undef) := by
  have h := World.rowIs_alloc w cs.toArray t (fun i => cs.getD i undef) (fun i hi => by
    have hi' : i < cs.length := by simpa using hi
    simp [hi'])
  rwa [List.size_toArray] at h

set_option maxRecDepth 100000 in
set_option maxHeartbeats 2000000 in
theorem l72Out_any (w0 w : World) (q : Nat) (v : Value) (zs : List Int) (p : Int) (h : Reader w0 w q v zs p) (hp2 : p ≤ 90000) :
    Calls Try.prog 13 #[.pointer (some ⟨q, 0, none⟩)] w fun e w' => ∃ (x : OutV) (p' : Int), e = .returned (outAgg x) ∧ p' ≤ p + 5 ∧ Reader w0 w' q v zs p' ∧ OnlyB q w w' := by
  have hq : q < w.heap.size := World.block_lt_of_cell? w ⟨q, 0, none⟩ h.rd.c0
  have hp0 := h.p0
  have HZ := hide (row_new w [.int .i64 0, .int .i64 0, .int .i64 0, .int .i64 0, .int .i64 0] 24)
  have H1 := hide (h.alloc (.cells #[.int .i64 0, .int .i64 0, .int .i64 0, .int .i64 0, .int .i64 0] 24))
  have HO1 := hide (OnlyB.alloc (q := q) w (.cells #[.int .i64 0, .int .i64 0, .int .i64 0, .int .i64 0, .int .i64 0] 24) (by omega))
  clear h
  go_enter Try.func13, Try.ntmps13
  go_wp2_with fail
  change Hid (World.rowIs (w.alloc (.cells #[.int .i64 0, .int .i64 0, .int .i64 0, .int .i64 0, .int .i64 0] 24)) _ _ _ _) at HZ
  generalize w.alloc (.cells #[.int .i64 0, .int .i64 0, .int .i64 0, .int .i64 0, .int .i64 0] 24) = W1 at *
  refine (pick_any w0 _ q v zs _ 6 (unhide H1) (by omega) (by omega) (by omega)).mono ?_
  rintro e W2 ⟨x0, rfl, hx0, hy0, hr, ho⟩
  have H2 := hide hr
  have HO2 := hide ((unhide HO1).trans ho)
  replace HZ := hide ((unhide HZ).of_block (ho.other w.heap.size (by omega) (unhide HZ).lt))
  clear hr ho H1 HO1
  go_wp2_with fail
  refine (pick_any w0 _ q v zs _ 4 (unhide H2) (by omega) (by omega) (by omega)).mono ?_
  rintro e W3 ⟨x1, rfl, hx1, hy1, hr, ho⟩
  have H3 := hide hr
  have HO3 := hide ((unhide HO2).trans ho)
  replace HZ := hide ((unhide HZ).of_block (ho.other w.heap.size (by omega) (unhide HZ).lt))
  clear hr ho H2 HO2
  go_wp2_with fail
  refine (pick_any w0 _ q v zs _ 3 (unhide H3) (by omega) (by omega) (by omega)).mono ?_
  rintro e W4 ⟨x2, rfl, hx2, hy2, hr, ho⟩
  have H4 := hide hr
  have HO4 := hide ((unhide HO3).trans ho)
  replace HZ := hide ((unhide HZ).of_block (ho.other w.heap.size (by omega) (unhide HZ).lt))
  clear hr ho H3 HO3
  go_wp2_with fail
  refine (pick_any w0 _ q v zs _ 2 (unhide H4) (by omega) (by omega) (by omega)).mono ?_
  rintro e W5 ⟨x3, rfl, hx3, hy3, hr, ho⟩
  have H5 := hide hr
  have HO5 := hide ((unhide HO4).trans ho)
  replace HZ := hide ((unhide HZ).of_block (ho.other w.heap.size (by omega) (unhide HZ).lt))
  clear hr ho H4 HO4
  go_wp2_with fail
  refine (pick_any w0 _ q v zs _ 4 (unhide H5) (by omega) (by omega) (by omega)).mono ?_
  rintro e W6 ⟨x4, rfl, hx4, hy4, hr, ho⟩
  have H6 := hide hr
  have HO6 := hide ((unhide HO5).trans ho)
  replace HZ := hide ((unhide HZ).of_block (ho.other w.heap.size (by omega) (unhide HZ).lt))
  clear hr ho H5 HO5
  have z0 : W6.cell? ⟨w.heap.size, 0, none⟩ = some (.int .i64 0) := (unhide HZ).cell (i := 0) (by simp)
  have f0 : W6.frozen? ⟨w.heap.size, 0, none⟩ = false := (unhide HZ).frozen 0
  have z1 : W6.cell? ⟨w.heap.size, 1, none⟩ = some (.int .i64 0) := (unhide HZ).cell (i := 1) (by simp)
  have f1 : W6.frozen? ⟨w.heap.size, 1, none⟩ = false := (unhide HZ).frozen 1
  have z2 : W6.cell? ⟨w.heap.size, 2, none⟩ = some (.int .i64 0) := (unhide HZ).cell (i := 2) (by simp)
  have f2 : W6.frozen? ⟨w.heap.size, 2, none⟩ = false := (unhide HZ).frozen 2
  have z3 : W6.cell? ⟨w.heap.size, 3, none⟩ = some (.int .i64 0) := (unhide HZ).cell (i := 3) (by simp)
  have f3 : W6.frozen? ⟨w.heap.size, 3, none⟩ = false := (unhide HZ).frozen 3
  have z4 : W6.cell? ⟨w.heap.size, 4, none⟩ = some (.int .i64 0) := (unhide HZ).cell (i := 4) (by simp)
  have f4 : W6.frozen? ⟨w.heap.size, 4, none⟩ = false := (unhide HZ).frozen 4
  clear HZ
  go_wp2_with fail
  refine bodyPost_ret (v := outAgg ⟨x0, x1, x2, x3, x4⟩) (by simp [results, Try.results13, go_sem, z0, z1, z2, z3, z4]) rfl ⟨⟨x0, x1, x2, x3, x4⟩, _, rfl, by omega, ((((((unhide H6).setNew (by omega) _).setNew (by omega) _).setNew (by omega) _).setNew (by omega) _).setNew (by omega) _), ((((((unhide HO6).setNew (by omega) (by omega) _).setNew (by omega) (by omega) _).setNew (by omega) (by omega) _).setNew (by omega) (by omega) _).setNew (by omega) (by omega) _)⟩

structure OuRow (w : World) (r : Nat) (e : OutV) : Prop where
  c0 : w.cell? ⟨r, 0, none⟩ = some (.int .i64 e.time)
  c1 : w.cell? ⟨r, 1, none⟩ = some (.int .i64 e.proc)
  c2 : w.cell? ⟨r, 2, none⟩ = some (.int .i64 e.count)
  c3 : w.cell? ⟨r, 3, none⟩ = some (.int .i64 e.n)
  c4 : w.cell? ⟨r, 4, none⟩ = some (.int .i64 e.value)
  fz : ∀ i, w.frozen? ⟨r, i, none⟩ = false
theorem OuRow.lt {w : World} {r : Nat} {e : OutV} (h : OuRow w r e) : r < w.heap.size := World.block_lt_of_cell? w ⟨r, 0, none⟩ h.c0
theorem OuRow.only {w w' : World} {r q : Nat} {e : OutV} (ho : OnlyB q w w') (hne : r ≠ q) (h : OuRow w r e) : OuRow w' r e :=
  ⟨ho.cell hne h.c0, ho.cell hne h.c1, ho.cell hne h.c2, ho.cell hne h.c3, ho.cell hne h.c4, fun i => (ho.frozen hne h.lt).trans (h.fz i)⟩
theorem OuRow.on {w w' : World} {r : Nat} {e : OutV} (hb : Below w.heap.size w w') (h : OuRow w r e) : OuRow w' r e :=
  ⟨cell_on hb h.c0, cell_on hb h.c1, cell_on hb h.c2, cell_on hb h.c3, cell_on hb h.c4, fun i => (hb.frozen (p := ⟨r, i, none⟩) h.lt).trans (h.fz i)⟩
abbrev put5 (w : World) (r : Nat) (e : OutV) : World := ((((w.setCell ⟨r, 0, none⟩ (.int .i64 e.time)).setCell ⟨r, 1, none⟩ (.int .i64 e.proc)).setCell ⟨r, 2, none⟩ (.int .i64 e.count)).setCell ⟨r, 3, none⟩ (.int .i64 e.n)).setCell ⟨r, 4, none⟩ (.int .i64 e.value)
theorem put5_row {w : World} {r : Nat} {e0 : OutV} (h : OuRow w r e0) (e : OutV) : OuRow (put5 w r e) r e := by
  obtain ⟨c0, c1, c2, c3, c4, fz⟩ := h
  refine ⟨?_, ?_, ?_, ?_, ?_, fun i => ?_⟩ <;> simp [go_sem, c0, c1, c2, c3, c4, fz]
theorem put5_other {w : World} {r b : Nat} {e e0 : OutV} (hb : b ≠ r) (h : OuRow w b e0) : OuRow (put5 w r e) b e0 := by
  obtain ⟨c0, c1, c2, c3, c4, fz⟩ := h
  refine ⟨?_, ?_, ?_, ?_, ?_, fun i => ?_⟩ <;> simp [go_sem, c0, c1, c2, c3, c4, fz, hb]
theorem put5_below {w w' : World} {r B : Nat} (h : Below B w w') (hB : B ≤ r) (e : OutV) : Below B w (put5 w' r e) :=
  ((((h.setCell (p := ⟨r, 0, none⟩) hB _).setCell (p := ⟨r, 1, none⟩) hB _).setCell (p := ⟨r, 2, none⟩) hB _).setCell (p := ⟨r, 3, none⟩) hB _).setCell (p := ⟨r, 4, none⟩) hB _
theorem set4_other {w : World} {r b : Nat} {e0 : OutV} (hb : b ≠ r) (v : Value) (h : OuRow w b e0) : OuRow (w.setCell ⟨r, 4, none⟩ v) b e0 := by
  obtain ⟨c0, c1, c2, c3, c4, fz⟩ := h
  refine ⟨?_, ?_, ?_, ?_, ?_, fun i => ?_⟩ <;> simp [go_sem, c0, c1, c2, c3, c4, fz, hb]
theorem set4_row {w : World} {r : Nat} {e : OutV} (h : OuRow w r e) (x : Int) : OuRow (w.setCell ⟨r, 4, none⟩ (.int .i64 x)) r ⟨e.time, e.proc, e.count, e.n, x⟩ := by
  obtain ⟨c0, c1, c2, c3, c4, fz⟩ := h
  refine ⟨?_, ?_, ?_, ?_, ?_, fun i => ?_⟩ <;> simp [go_sem, c0, c1, c2, c3, c4, fz]
theorem ouRow_new (w : World) (e : OutV) (t : TypeId) : OuRow (w.alloc (.cells #[.int .i64 e.time, .int .i64 e.proc, .int .i64 e.count, .int .i64 e.n, .int .i64 e.value] t)) w.heap.size e := by
  refine ⟨?_, ?_, ?_, ?_, ?_, fun i => ?_⟩ <;> simp [go_sem]
theorem Reader.put5 {w0 w : World} {q r : Nat} {v : Value} {zs : List Int} {p : Int} (h : Reader w0 w q v zs p) (hr : q < r) (e : OutV) : Reader w0 (Go.Proofs.Ytamkoimadenmeaa.put5 w r e) q v zs p :=
  ((((h.setNew hr _).setNew hr _).setNew hr _).setNew hr _).setNew hr _

set_option maxRecDepth 100000 in
set_option maxHeartbeats 3000000 in
theorem DrawOutLess_any (v : Value) (zs : List Int) (w : World) (h : BytesAt w v zs) :
    Calls Try.prog 5 #[v] w fun e w' => ∃ x y : OutV, e = .returned (.tuple #[outAgg x, outAgg y]) ∧ Below w.heap.size w w' := by
  obtain ⟨ad, cap, hv⟩ : ∃ ad cap, v = .slice ad zs.length cap := by obtain ⟨a, c, h, _⟩ := h; exact ⟨a, c, h⟩
  subst hv
  have hb2 : Below w.heap.size w ((w.alloc (.cells #[.int .i64 0, .int .i64 0, .int .i64 0, .int .i64 0, .int .i64 0] 24)).alloc (.cells #[.int .i64 0, .int .i64 0, .int .i64 0, .int .i64 0, .int .i64 0] 24)) := ((Below.refl _ _).alloc (Nat.le_refl _) _).alloc (by simp) _
  have z2 : OuRow ((w.alloc (.cells #[.int .i64 0, .int .i64 0, .int .i64 0, .int .i64 0, .int .i64 0] 24)).alloc (.cells #[.int .i64 0, .int .i64 0, .int .i64 0, .int .i64 0, .int .i64 0] 24)) w.heap.size ⟨0, 0, 0, 0, 0⟩ := by
    refine ⟨?_, ?_, ?_, ?_, ?_, fun i => ?_⟩ <;> simp [go_sem]
  have z3 : OuRow ((w.alloc (.cells #[.int .i64 0, .int .i64 0, .int .i64 0, .int .i64 0, .int .i64 0] 24)).alloc (.cells #[.int .i64 0, .int .i64 0, .int .i64 0, .int .i64 0, .int .i64 0] 24)) (w.heap.size + 1) ⟨0, 0, 0, 0, 0⟩ := by
    refine ⟨?_, ?_, ?_, ?_, ?_, fun i => ?_⟩ <;> simp [go_sem]
  have hs2 : ((w.alloc (.cells #[.int .i64 0, .int .i64 0, .int .i64 0, .int .i64 0, .int .i64 0] 24)).alloc (.cells #[.int .i64 0, .int .i64 0, .int .i64 0, .int .i64 0, .int .i64 0] 24)).heap.size = w.heap.size + 2 := by simp
  have HB := hide (h.on hb2)
  have Z2 := hide z2
  have Z3 := hide z3
  have HB2 := hide hb2
  have HS2 := hide hs2
  clear h z2 z3 hb2 hs2
  go_enter Try.func5, Try.ntmps5
  go_wp2_with fail
  generalize (w.alloc (.cells #[.int .i64 0, .int .i64 0, .int .i64 0, .int .i64 0, .int .i64 0] 24)).alloc (.cells #[.int .i64 0, .int .i64 0, .int .i64 0, .int .i64 0, .int .i64 0] 24) = W2 at *
  refine (l6Open_any _ zs _ (unhide HB)).mono ?_
  rintro e w3 ⟨v', zs', rfl, hrd, hb3⟩
  have HR3 := hide hrd
  replace Z2 := hide ((unhide Z2).on hb3)
  replace Z3 := hide ((unhide Z3).on hb3)
  have HBW := hide (below_then (unhide HB2) hb3)
  obtain ⟨q, hq⟩ : ∃ q, q = W2.heap.size := ⟨_, rfl⟩
  have hqw : w.heap.size + 2 ≤ q := by rw [hq, unhide HS2]; exact Nat.le_refl _
  rw [← hq] at HR3 ⊢
  have hq3 : q < w3.heap.size := World.block_lt_of_cell? w3 ⟨q, 0, none⟩ (unhide HR3).rd.c0
  clear hrd hb3 hq HB HB2 HS2
  go_wp2_with fail
  refine (l72Out_any W2 w3 q v' zs' 0 (unhide HR3) (by omega)).mono ?_
  rintro e w4 ⟨⟨a0, a1, a2, a3, a4⟩, p4, rfl, hp4, hr4, ho4⟩
  have HR4 := hide (hr4.alloc (.cells #[.int .i64 a0, .int .i64 a1, .int .i64 a2, .int .i64 a3, .int .i64 a4] 24))
  have hb5 : Below w4.heap.size w4 (w4.alloc (.cells #[.int .i64 a0, .int .i64 a1, .int .i64 a2, .int .i64 a3, .int .i64 a4] 24)) := (Below.refl _ _).alloc (Nat.le_refl _) _
  replace Z2 := hide (((unhide Z2).only ho4 (by omega)).on hb5)
  replace Z3 := hide (((unhide Z3).only ho4 (by omega)).on hb5)
  replace HBW := hide (below_then ((unhide HBW).trans (ho4.below.mono (by omega))) hb5)
  have E5 := hide (ouRow_new w4 ⟨a0, a1, a2, a3, a4⟩ 24)
  have hr5 : q < w4.heap.size := Nat.lt_of_lt_of_le hq3 ho4.size
  have hs5 : w4.heap.size < (w4.alloc (.cells #[.int .i64 a0, .int .i64 a1, .int .i64 a2, .int .i64 a3, .int .i64 a4] 24)).heap.size := by simp
  clear hr4 ho4 hb5 HR3 hq3
  go_wp2_with fail
  generalize (w4.alloc (.cells #[.int .i64 a0, .int .i64 a1, .int .i64 a2, .int .i64 a3, .int .i64 a4] 24)) = W5 at *
  generalize w4.heap.size = r5 at *
  refine (l72Out_any W2 W5 q v' zs' p4 (unhide HR4) (by omega)).mono ?_
  rintro e w6 ⟨⟨b0, b1, b2, b3, b4⟩, p6, rfl, hp6, hr6, ho6⟩
  have HR6 := hide (hr6.alloc (.cells #[.int .i64 b0, .int .i64 b1, .int .i64 b2, .int .i64 b3, .int .i64 b4] 24))
  have hb7 : Below w6.heap.size w6 (w6.alloc (.cells #[.int .i64 b0, .int .i64 b1, .int .i64 b2, .int .i64 b3, .int .i64 b4] 24)) := (Below.refl _ _).alloc (Nat.le_refl _) _
  replace Z2 := hide (((unhide Z2).only ho6 (by omega)).on hb7)
  replace Z3 := hide (((unhide Z3).only ho6 (by omega)).on hb7)
  replace E5 := hide (((unhide E5).only ho6 (by omega)).on hb7)
  replace HBW := hide (below_then ((unhide HBW).trans (ho6.below.mono (by omega))) hb7)
  have E6 := hide (ouRow_new w6 ⟨b0, b1, b2, b3, b4⟩ 24)
  have hr6' : r5 < w6.heap.size := Nat.lt_of_lt_of_le hs5 ho6.size
  clear hr6 ho6 hb7 HR4 hs5
  go_wp2_with fail
  generalize (w6.alloc (.cells #[.int .i64 b0, .int .i64 b1, .int .i64 b2, .int .i64 b3, .int .i64 b4] 24)) = W7 at *
  generalize w6.heap.size = r6 at *
  refine (pick_any W2 W7 q v' zs' p6 2 (unhide HR6) (by omega) (by omega) (by omega)).mono ?_
  rintro e w8 ⟨x8, rfl, hx80, hx81, hr8, ho8⟩
  have HR8 := hide hr8
  replace Z2 := hide ((unhide Z2).only ho8 (by omega))
  replace Z3 := hide ((unhide Z3).only ho8 (by omega))
  replace E5 := hide ((unhide E5).only ho8 (by omega))
  replace E6 := hide ((unhide E6).only ho8 (by omega))
  replace HBW := hide ((unhide HBW).trans (ho8.below.mono (by omega)))
  clear hr8 ho8 HR6
  have hd56 : ¬ r5 = r6 := by omega
  have hd65 : ¬ r6 = r5 := by omega
  have hdr6q : r6 ≠ q := by omega
  go_upto_if 15 with fail
  go_cut [5, 6] from 7 to 22 (fun s t wx => s = .pointer (some ⟨r5, 0, none⟩) ∧ t = .pointer (some ⟨r6, 0, none⟩) ∧ ∃ c0 c1 c2 c3 c4 : Int, OuRow wx r5 ⟨a0, a1, a2, a3, a4⟩ ∧ OuRow wx r6 ⟨c0, c1, c2, c3, c4⟩ ∧ OuRow wx w.heap.size ⟨0, 0, 0, 0, 0⟩ ∧ OuRow wx (w.heap.size + 1) ⟨0, 0, 0, 0, 0⟩ ∧ Below w.heap.size w wx)
  case first =>
    by_cases hx : x8 = 0
    · subst hx
      obtain ⟨g0, g1, g2, g3, g4, gf⟩ := unhide E5
      obtain ⟨k0, k1, k2, k3, k4, kf⟩ := unhide E6
      dsimp only at g0 g1 g2 g3 g4 k0 k1 k2 k3 k4
      go_wp2_with fail
      change Calls _ _ _ (put5 w8 r6 ⟨a0, a1, a2, a3, a4⟩) _
      have HRP := hide ((unhide HR8).put5 (r := r6) (by omega) ⟨a0, a1, a2, a3, a4⟩)
      replace Z2 := hide (put5_other (r := r6) (e := ⟨a0, a1, a2, a3, a4⟩) (by omega) (unhide Z2))
      replace Z3 := hide (put5_other (r := r6) (e := ⟨a0, a1, a2, a3, a4⟩) (by omega) (unhide Z3))
      replace E5 := hide (put5_other (r := r6) (e := ⟨a0, a1, a2, a3, a4⟩) (by omega) (unhide E5))
      replace E6 := hide (put5_row (unhide E6) ⟨a0, a1, a2, a3, a4⟩)
      replace HBW := hide (put5_below (r := r6) (unhide HBW) (by omega) ⟨a0, a1, a2, a3, a4⟩)
      clear g0 g1 g2 g3 g4 gf k0 k1 k2 k3 k4 kf HR8
      generalize put5 w8 r6 ⟨a0, a1, a2, a3, a4⟩ = P at *
      refine (pick_any W2 P q v' zs' _ 4 (unhide HRP) (by omega) (by omega) (by omega)).mono ?_
      rintro e w9 ⟨x9, rfl, hx90, hx91, hr9, ho9⟩
      replace Z2 := hide ((unhide Z2).only ho9 (by omega))
      replace Z3 := hide ((unhide Z3).only ho9 (by omega))
      replace E5 := hide ((unhide E5).only ho9 (by omega))
      replace E6 := hide ((unhide E6).only ho9 (by omega))
      replace HBW := hide ((unhide HBW).trans (ho9.below.mono (by omega)))
      clear hr9 ho9 HRP
      have kk := (unhide E6).c4
      have kf := (unhide E6).fz
      dsimp only at kk
      go_wp2_with fail
      go_meet
      case rel => exact ⟨rfl, rfl, a0, a1, a2, a3, x9, set4_other (by omega) _ (unhide E5), set4_row (unhide E6) x9, set4_other (by omega) _ (unhide Z2), set4_other (by omega) _ (unhide Z3), (unhide HBW).setCell (show w.heap.size ≤ r6 by omega) _⟩
    · have hx1 : (x8 == 0) = false := by simp [hx]
      go_wp2_with fail
      go_meet
      case rel => exact ⟨rfl, rfl, b0, b1, b2, b3, b4, unhide E5, unhide E6, unhide Z2, unhide Z3, unhide HBW⟩
  case rest =>
    obtain ⟨rfl, rfl, c0, c1, c2, c3, c4, h5, h6, h2, h3, hbw⟩ := hcut
    have HEND := hide (fun (e1 e2 : OutV) => put5_below (r := w.heap.size + 1) (put5_below (r := w.heap.size) hbw (Nat.le_refl _) e1) (by omega) e2)
    obtain ⟨g0, g1, g2, g3, g4, gf⟩ := h5
    obtain ⟨k0, k1, k2, k3, k4, kf⟩ := h6
    obtain ⟨m0, m1, m2, m3, m4, mf⟩ := h2
    obtain ⟨n0, n1, n2, n3, n4, nf⟩ := h3
    dsimp only at g0 g1 g2 g3 g4 k0 k1 k2 k3 k4 m0 m1 m2 m3 m4 n0 n1 n2 n3 n4
    have d1 : ¬ r5 = w.heap.size := by omega
    have d2 : ¬ r5 = w.heap.size + 1 := by omega
    have d3 : ¬ r6 = w.heap.size := by omega
    have d4 : ¬ r6 = w.heap.size + 1 := by omega
    clear hbw
    go_wp2_with fail
    go_region_held3 (fun w' => w'.cell? ⟨r5, 0, none⟩ = some (.int .i64 a0) ∧ w'.cell? ⟨r5, 1, none⟩ = some (.int .i64 a1) ∧ w'.cell? ⟨r5, 2, none⟩ = some (.int .i64 a2) ∧ w'.cell? ⟨r5, 3, none⟩ = some (.int .i64 a3) ∧ w'.cell? ⟨r5, 4, none⟩ = some (.int .i64 a4) ∧ w'.cell? ⟨r6, 0, none⟩ = some (.int .i64 c0) ∧ w'.cell? ⟨r6, 1, none⟩ = some (.int .i64 c1) ∧ w'.cell? ⟨r6, 2, none⟩ = some (.int .i64 c2) ∧ w'.cell? ⟨r6, 3, none⟩ = some (.int .i64 c3) ∧ w'.cell? ⟨r6, 4, none⟩ = some (.int .i64 c4))
      (simp [*, go_sem])
      (fail)
    go_wp2_with fail
    refine bodyPost_ret (v := .tuple #[outAgg ⟨a0, a1, a2, a3, a4⟩, outAgg ⟨c0, c1, c2, c3, c4⟩]) ?_ rfl ⟨⟨a0, a1, a2, a3, a4⟩, ⟨c0, c1, c2, c3, c4⟩, rfl, ((unhide HEND) ⟨a0, a1, a2, a3, a4⟩ ⟨c0, c1, c2, c3, c4⟩).drew⟩
    simp [results, Try.results5, go_sem, m0, m1, m2, m3, m4, n0, n1, n2, n3, n4]
end Go.Proofs.Ytamkoimadenmeaa
