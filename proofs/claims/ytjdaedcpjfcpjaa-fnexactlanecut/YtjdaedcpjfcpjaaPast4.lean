/- toPastS, toLane: copies of lists of what was done, of lanes. -/
import Derived.Test.YtjdaedcpjfcpjaaPast3
namespace Go.Proofs.Ytjdaedcpjfcpjaa
open Go.RowKit
set_option linter.unusedVariables false
set_option linter.unusedSimpArgs false

/-- The first k of a list of such lie in the row. -/
def PastsIn (N : Nat) (w : World) (f : Nat → Value) (ps : List PastV) (k : Nat) : Prop :=
  ∀ i (h : i < ps.length), i < k → ∃ vs vo, (∀ j (hj : j < 12), f (i * 12 + j) = (pastCells ps[i] vs vo)[j]) ∧ PastFr N w vs vo ps[i]

/-- A list of such in a block of its own, from block N on; the lists of each behind that block. -/
def PastsFr (N : Nat) (w : World) (v : Value) (ps : List PastV) : Prop :=
  ∃ g f, N ≤ g ∧ v = .slice (some ⟨g, 0, none⟩) ps.length ps.length ∧ ps.length ≤ maxLen ∧ w.rowIs g 65 (ps.length * 12) f ∧ PastsIn (g + 1) w f ps ps.length

theorem PastsFr.at {N : Nat} {w : World} {v : Value} {ps : List PastV} (h : PastsFr N w v ps) : PastsAt w v ps := by
  obtain ⟨g, f, _, rfl, hm, hr, hp⟩ := h
  refine ⟨_, _, rfl, Nat.le_refl _, hm, Or.inr ⟨g, 0, rfl, fun i hi => ?_⟩⟩
  obtain ⟨vs, vo, h1, h2⟩ := hp i hi hi
  refine ⟨vs, vo, fun j hj => ?_, h2.at⟩
  have hj' : j < 12 := hj
  rw [Nat.zero_add, hr.cell (mul_place hi hj'), h1 j hj']

theorem PastsIn.on {N : Nat} {w w' : World} {f : Nat → Value} {ps : List PastV} {k : Nat} (hb : Below w.heap.size w w') (h : PastsIn N w f ps k) : PastsIn N w' f ps k := fun i hi hk => by
  obtain ⟨vs, vo, h1, h2⟩ := h i hi hk
  exact ⟨vs, vo, h1, h2.on hb⟩

theorem PastsFr.on {N : Nat} {w w' : World} {v : Value} {ps : List PastV} (hb : Below w.heap.size w w') (h : PastsFr N w v ps) : PastsFr N w' v ps := by
  obtain ⟨g, f, h0, h1, hm, hr, hp⟩ := h
  exact ⟨g, f, h0, h1, hm, hr.of_block (hb.block g hr.lt), hp.on hb⟩

theorem PastsFr.less {N M : Nat} {w : World} {v : Value} {ps : List PastV} (hNM : M ≤ N) (h : PastsFr N w v ps) : PastsFr M w v ps := by
  obtain ⟨g, f, h0, h1⟩ := h
  exact ⟨g, f, Nat.le_trans hNM h0, h1⟩
theorem PastsFr.setV {N r o : Nat} {w : World} {v : Value} {ps : List PastV} (h : PastsFr N w v ps) (hr : r < N) (xs : List Value) : PastsFr N (setVals w r o xs) v ps := by
  obtain ⟨g, f, h0, h1, hm, hrow, hp⟩ := h
  refine ⟨g, f, h0, h1, hm, hrow.of_block (setVals_other xs o w g (by omega)), fun i hi hk => ?_⟩
  obtain ⟨vs, vo, h2, h3⟩ := hp i hi hk
  exact ⟨vs, vo, h2, ⟨h3.s.setV (by omega) _, h3.o.setV (by omega) _⟩⟩

theorem slice_PastT : Try.prog.underlying 30 = some (.slice 65) := by kernel_rfl
theorem info_PastT : (Try.prog.info? 65).map (fun i => (i.zero, i.size, i.bytes)) = some (some (.agg #[.int .i64 0, .int .i64 0, .int .i64 0, .int .i64 0, .int .i64 0, .int .i64 0, .int .i64 0, .int .i64 0, .int .i64 0, .int .i64 0, .slice none 0 0, .slice none 0 0]), 12, 128) := by kernel_rfl

theorem pastsIn_more {g k : Nat} {w : World} {f : Nat → Value} {ps : List PastV} {us uo : Value} (hk : k < ps.length) (h : PastsIn (g + 1) w f ps k) (hn : PastFr (g + 1) w us uo ps[k]) :
    PastsIn (g + 1) (setVals w g (k * 12) (pastCells ps[k] us uo)) (fun j => if k * 12 ≤ j ∧ j < k * 12 + 12 then (pastCells ps[k] us uo).getD (j - k * 12) undef else f j) ps (k + 1) := by
  intro i hi hik
  rcases (show i = k ∨ i < k by omega) with rfl | hlt
  · refine ⟨us, uo, fun j hj => ?_, ⟨hn.s.setV (by omega) _, hn.o.setV (by omega) _⟩⟩
    show (if i * 12 ≤ i * 12 + j ∧ i * 12 + j < i * 12 + 12 then (pastCells ps[i] us uo).getD (i * 12 + j - i * 12) undef else f (i * 12 + j)) = _
    rw [if_pos (by omega), Nat.add_sub_cancel_left]
    simp only [List.getD_eq_getElem?_getD, List.getElem?_eq_getElem (show j < (pastCells ps[i] us uo).length from hj), Option.getD_some]
  · obtain ⟨vs, vo, h1, h2⟩ := h i hi hlt
    refine ⟨vs, vo, fun j hj => ?_, ⟨h2.s.setV (by omega) _, h2.o.setV (by omega) _⟩⟩
    have := mul_place hlt hj
    show (if k * 12 ≤ i * 12 + j ∧ i * 12 + j < k * 12 + 12 then (pastCells ps[k] us uo).getD (i * 12 + j - k * 12) undef else f (i * 12 + j)) = _
    rw [if_neg (by omega)]
    exact h1 j hj

set_option maxRecDepth 100000 in
set_option maxHeartbeats 2000000 in
theorem toPastS_any (v : Value) (ps : List PastV) (w : World) (h : PastsAt w v ps) (hlen : ps.length ≤ 1048576) (hl : ∀ p ∈ ps, p.sends.length ≤ 1048576 ∧ p.outs.length ≤ 1048576) :
    Calls Try.prog 40 #[v] w fun e w' => ∃ v', e = .returned v' ∧ PastsFr w.heap.size w' v' ps ∧ Below w.heap.size w w' := by
  obtain ⟨ad, cap, rfl, hlc, hm, hcells⟩ := h
  have HMX := hide hm
  have HL := hide hl
  clear hm hl
  have hmk := run_make_n (P := Try.prog) 30 65 _ 12 128 slice_PastT info_PastT ps.length (by omega) (by omega)
  have HC := hide hcells
  clear hcells
  go_enter Try.func40, Try.ntmps40
  go_wp2_with fail
  have hb1 : Below w.heap.size w (w.alloc (.cells (madeCells #[.int .i64 0, .int .i64 0, .int .i64 0, .int .i64 0, .int .i64 0, .int .i64 0, .int .i64 0, .int .i64 0, .int .i64 0, .int .i64 0, .slice none 0 0, .slice none 0 0] (ps.length * 12)) 65)) := (Below.refl _ _).alloc (Nat.le_refl _) _
  have hr1 := row_made w #[.int .i64 0, .int .i64 0, .int .i64 0, .int .i64 0, .int .i64 0, .int .i64 0, .int .i64 0, .int .i64 0, .int .i64 0, .int .i64 0, .slice none 0 0, .slice none 0 0] (ps.length * 12) 65
  clear hmk
  generalize w.alloc (.cells (madeCells #[.int .i64 0, .int .i64 0, .int .i64 0, .int .i64 0, .int .i64 0, .int .i64 0, .int .i64 0, .int .i64 0, .int .i64 0, .int .i64 0, .slice none 0 0, .slice none 0 0] (ps.length * 12)) 65) = w1 at *
  go_loopw [4] (fun i wr => ∃ (k : Nat) (f : Nat → Value), k ≤ ps.length ∧ i = .int .i64 k ∧ wr.rowIs w.heap.size 65 (ps.length * 12) f ∧ PastsIn (w.heap.size + 1) wr f ps k ∧ Below w.heap.size w wr) (fun i _ => ps.length - (intOf i).toNat)
  case atStart => exact ⟨0, _, Nat.zero_le _, rfl, hr1, fun j _ h => absurd h (Nat.not_lt_zero _), hb1⟩
  case round =>
    obtain ⟨k, f, hk, rfl, hrow, hin, hb⟩ := hrel
    have HROW := hide hrow
    have HIN := hide hin
    have hgl : w.heap.size < wr.heap.size := hrow.lt
    clear hrow hin hr1
    by_cases hlt : k < ps.length
    · obtain ⟨b, off, vs, vo, had, hc, hp⟩ : ∃ b off vs vo, ad = some ⟨b, off, none⟩ ∧ CellsAt wr b (off + k * 12) (pastCells ps[k] vs vo) ∧ PastAt wr vs vo ps[k] := by
        rcases unhide HC with h | ⟨b, off, h1, h2⟩
        · rw [h] at hlt; exact absurd hlt (Nat.not_lt_zero _)
        · obtain ⟨vs, vo, h3, h4⟩ := h2 k hlt
          exact ⟨b, off, vs, vo, h1, h3.on hb, h4.on hb⟩
      have hkI : (k : Int) < (ps.length : Int) := by omega
      have hk0 : (0 : Int) ≤ (k : Int) := by omega
      subst had
      have hlp := (unhide HL) ps[k] (List.getElem_mem hlt)
      obtain ⟨p, hpe⟩ : ∃ p, p = ps[k] := ⟨_, rfl⟩
      rw [← hpe] at hc hp hlp
      have HPE := hide hpe
      clear hpe
      have q0 : wr.cell? ⟨b, off + k * 12, none⟩ = some (.int .i64 p.ev.time) := hc 0 (by simp)
      have q1 : wr.cell? ⟨b, off + k * 12 + 1, none⟩ = some (.int .i64 p.ev.to) := hc 1 (by simp)
      have q2 : wr.cell? ⟨b, off + k * 12 + 2, none⟩ = some (.int .i64 p.ev.src) := hc 2 (by simp)
      have q3 : wr.cell? ⟨b, off + k * 12 + 3, none⟩ = some (.int .i64 p.ev.count) := hc 3 (by simp)
      have q4 : wr.cell? ⟨b, off + k * 12 + 4, none⟩ = some (.int .i64 p.ev.n) := hc 4 (by simp)
      have q5 : wr.cell? ⟨b, off + k * 12 + 5, none⟩ = some (.int .i64 p.ev.kind) := hc 5 (by simp)
      have q6 : wr.cell? ⟨b, off + k * 12 + 6, none⟩ = some (.int .i64 p.ev.arg) := hc 6 (by simp)
      have q7 : wr.cell? ⟨b, off + k * 12 + 7, none⟩ = some (.int .i64 p.st.x) := hc 7 (by simp)
      have q8 : wr.cell? ⟨b, off + k * 12 + 8, none⟩ = some (.int .i64 p.st.y) := hc 8 (by simp)
      have q9 : wr.cell? ⟨b, off + k * 12 + 9, none⟩ = some (.int .i64 p.st.c) := hc 9 (by simp)
      have q10 : wr.cell? ⟨b, off + k * 12 + 10, none⟩ = some (vs) := hc 10 (by simp)
      have q11 : wr.cell? ⟨b, off + k * 12 + 11, none⟩ = some (vo) := hc 11 (by simp)
      have HP := hide hp
      clear hc hp
      go_wp2_with fail
      refine (toPast_any p vs vo wr (unhide HP) hlp.1 hlp.2).mono ?_
      rintro e w3 ⟨us, uo, rfl, hf3, hb3⟩
      obtain ⟨ua, uc, hus⟩ := RowsFr_sliced hf3.s
      obtain ⟨oa, oc, huo⟩ := RowsFr_sliced hf3.o
      rw [List.length_map] at hus huo
      subst hus huo
      clear q0 q1 q2 q3 q4 q5 q6 q7 q8 q9 q10 q11
      have hr3 := (unhide HROW).of_block (hb3.block _ hgl)
      have g0 := hr3.cell (i := k * 12 + 0) (by omega)
      have z0 := hr3.frozen (k * 12 + 0)
      have g1 := hr3.cell (i := k * 12 + 1) (by omega)
      have z1 := hr3.frozen (k * 12 + 1)
      have g2 := hr3.cell (i := k * 12 + 2) (by omega)
      have z2 := hr3.frozen (k * 12 + 2)
      have g3 := hr3.cell (i := k * 12 + 3) (by omega)
      have z3 := hr3.frozen (k * 12 + 3)
      have g4 := hr3.cell (i := k * 12 + 4) (by omega)
      have z4 := hr3.frozen (k * 12 + 4)
      have g5 := hr3.cell (i := k * 12 + 5) (by omega)
      have z5 := hr3.frozen (k * 12 + 5)
      have g6 := hr3.cell (i := k * 12 + 6) (by omega)
      have z6 := hr3.frozen (k * 12 + 6)
      have g7 := hr3.cell (i := k * 12 + 7) (by omega)
      have z7 := hr3.frozen (k * 12 + 7)
      have g8 := hr3.cell (i := k * 12 + 8) (by omega)
      have z8 := hr3.frozen (k * 12 + 8)
      have g9 := hr3.cell (i := k * 12 + 9) (by omega)
      have z9 := hr3.frozen (k * 12 + 9)
      have g10 := hr3.cell (i := k * 12 + 10) (by omega)
      have z10 := hr3.frozen (k * 12 + 10)
      have g11 := hr3.cell (i := k * 12 + 11) (by omega)
      have z11 := hr3.frozen (k * 12 + 11)
      simp only [Nat.add_zero] at g0 z0
      have hset : ((((((((((((w3.setCell ⟨w.heap.size, k * 12, none⟩ (.int .i64 p.ev.time)).setCell ⟨w.heap.size, k * 12 + 1, none⟩ (.int .i64 p.ev.to)).setCell ⟨w.heap.size, k * 12 + 2, none⟩ (.int .i64 p.ev.src)).setCell ⟨w.heap.size, k * 12 + 3, none⟩ (.int .i64 p.ev.count)).setCell ⟨w.heap.size, k * 12 + 4, none⟩ (.int .i64 p.ev.n)).setCell ⟨w.heap.size, k * 12 + 5, none⟩ (.int .i64 p.ev.kind)).setCell ⟨w.heap.size, k * 12 + 6, none⟩ (.int .i64 p.ev.arg)).setCell ⟨w.heap.size, k * 12 + 7, none⟩ (.int .i64 p.st.x)).setCell ⟨w.heap.size, k * 12 + 8, none⟩ (.int .i64 p.st.y)).setCell ⟨w.heap.size, k * 12 + 9, none⟩ (.int .i64 p.st.c)).setCell ⟨w.heap.size, k * 12 + 10, none⟩ (.slice ua p.sends.length uc)).setCell ⟨w.heap.size, k * 12 + 11, none⟩ (.slice oa p.outs.length oc)) = setVals w3 w.heap.size (k * 12) (pastCells p (.slice ua p.sends.length uc) (.slice oa p.outs.length oc)) := rfl
      have HR4 := hide (setVals_row (pastCells p (.slice ua p.sends.length uc) (.slice oa p.outs.length oc)) (k * 12) w3 _ hr3)
      have HI4 : Hid (PastsIn (w.heap.size + 1) (setVals w3 w.heap.size (k * 12) (pastCells p (.slice ua p.sends.length uc) (.slice oa p.outs.length oc))) _ ps (k + 1)) := hide (by
        have e := pastsIn_more (us := .slice ua p.sends.length uc) (uo := .slice oa p.outs.length oc) hlt ((unhide HIN).on hb3) (by rw [← unhide HPE]; exact hf3.less (by omega))
        rw [← unhide HPE] at e
        exact e)
      have HB4 := hide (setVals_below (pastCells p (.slice ua p.sends.length uc) (.slice oa p.outs.length oc)) (k * 12) w3 (below_then hb hb3) (Nat.le_refl _))
      rw [← hset] at HR4 HI4 HB4
      clear hset hr3 hf3 hb3
      go_wp2_with fail
      go_roundw
      case rel => exact ⟨k + 1, _, by omega, by simp, unhide HR4, unhide HI4, unhide HB4⟩
      case measure => (simp [intOf]; try omega)
    · have hke : k = ps.length := by omega
      subst hke
      go_wp2_with fail
      go_ret
      exact ⟨_, rfl, ⟨w.heap.size, f, Nat.le_refl _, rfl, unhide HMX, unhide HROW, unhide HIN⟩, hb⟩

set_option maxRecDepth 100000 in
set_option maxHeartbeats 1000000 in
theorem toLane_any (proc : Int) (s : StV) (v : Value) (ps : List PastV) (w : World) (h : PastsAt w v ps) (hlen : ps.length ≤ 1048576) (hl : ∀ p ∈ ps, p.sends.length ≤ 1048576 ∧ p.outs.length ≤ 1048576) :
    Calls Try.prog 10 #[laneAgg proc s v] w fun e w' => ∃ v', e = .returned (laneAgg proc s v') ∧ PastsFr (w.heap.size + 1) w' v' ps ∧ Below w.heap.size w w' := by
  have H := hide h
  obtain ⟨a1, c1, e1, _⟩ := h
  subst e1
  have HL := hide hl
  clear hl
  have hb0 : Below w.heap.size w (((w.alloc (.cells #[.int .i64 proc, .int .i64 s.x, .int .i64 s.y, .int .i64 s.c, .slice a1 ps.length c1] 26)).alloc (.cells #[.int .i64 0, .int .i64 0, .int .i64 0, .int .i64 0, .slice none 0 0] 32)).alloc (.cells #[.int .i64 proc, .int .i64 0, .int .i64 0, .int .i64 0, .slice none 0 0] 32)) := (((Below.refl _ _).alloc (Nat.le_refl _) _).alloc (by simp) _).alloc (by simp; omega) _
  have cA : CellsAt (((w.alloc (.cells #[.int .i64 proc, .int .i64 s.x, .int .i64 s.y, .int .i64 s.c, .slice a1 ps.length c1] 26)).alloc (.cells #[.int .i64 0, .int .i64 0, .int .i64 0, .int .i64 0, .slice none 0 0] 32)).alloc (.cells #[.int .i64 proc, .int .i64 0, .int .i64 0, .int .i64 0, .slice none 0 0] 32)) w.heap.size 0 (laneCells proc s (.slice a1 ps.length c1)) := fun j hj => by
    match j, hj with
    | 0, _ => simp [go_sem]
    | 1, _ => simp [go_sem]
    | 2, _ => simp [go_sem]
    | 3, _ => simp [go_sem]
    | 4, _ => simp [go_sem]
  have r2 : (((w.alloc (.cells #[.int .i64 proc, .int .i64 s.x, .int .i64 s.y, .int .i64 s.c, .slice a1 ps.length c1] 26)).alloc (.cells #[.int .i64 0, .int .i64 0, .int .i64 0, .int .i64 0, .slice none 0 0] 32)).alloc (.cells #[.int .i64 proc, .int .i64 0, .int .i64 0, .int .i64 0, .slice none 0 0] 32)).rowIs (w.heap.size + 1) 32 5 (fun j => if j < 4 then .int .i64 0 else .slice none 0 0) := by
    have e := World.rowIs_alloc (w.alloc (.cells #[.int .i64 proc, .int .i64 s.x, .int .i64 s.y, .int .i64 s.c, .slice a1 ps.length c1] 26)) #[.int .i64 0, .int .i64 0, .int .i64 0, .int .i64 0, .slice none 0 0] 32 (fun j => if j < 4 then .int .i64 0 else .slice none 0 0) (fun j hj => by
      match j, hj with
      | 0, _ => simp
      | 1, _ => simp
      | 2, _ => simp
      | 3, _ => simp
      | 4, _ => simp)
    have hs1 : (w.alloc (.cells #[.int .i64 proc, .int .i64 s.x, .int .i64 s.y, .int .i64 s.c, .slice a1 ps.length c1] 26)).heap.size = w.heap.size + 1 := by simp
    rw [hs1] at e
    exact e.of_block (((Below.refl _ _).alloc (Nat.le_refl _) _).block (w.heap.size + 1) (by simp))
  have r3 : (((w.alloc (.cells #[.int .i64 proc, .int .i64 s.x, .int .i64 s.y, .int .i64 s.c, .slice a1 ps.length c1] 26)).alloc (.cells #[.int .i64 0, .int .i64 0, .int .i64 0, .int .i64 0, .slice none 0 0] 32)).alloc (.cells #[.int .i64 proc, .int .i64 0, .int .i64 0, .int .i64 0, .slice none 0 0] 32)).rowIs (w.heap.size + 2) 32 5 (fun j => if j = 0 then .int .i64 proc else if j < 4 then .int .i64 0 else .slice none 0 0) := by
    have e := World.rowIs_alloc ((w.alloc (.cells #[.int .i64 proc, .int .i64 s.x, .int .i64 s.y, .int .i64 s.c, .slice a1 ps.length c1] 26)).alloc (.cells #[.int .i64 0, .int .i64 0, .int .i64 0, .int .i64 0, .slice none 0 0] 32)) #[.int .i64 proc, .int .i64 0, .int .i64 0, .int .i64 0, .slice none 0 0] 32 (fun j => if j = 0 then .int .i64 proc else if j < 4 then .int .i64 0 else .slice none 0 0) (fun j hj => by
      match j, hj with
      | 0, _ => simp
      | 1, _ => simp
      | 2, _ => simp
      | 3, _ => simp
      | 4, _ => simp)
    have hs1 : ((w.alloc (.cells #[.int .i64 proc, .int .i64 s.x, .int .i64 s.y, .int .i64 s.c, .slice a1 ps.length c1] 26)).alloc (.cells #[.int .i64 0, .int .i64 0, .int .i64 0, .int .i64 0, .slice none 0 0] 32)).heap.size = w.heap.size + 2 := by simp
    rw [hs1] at e
    exact e
  have hs0 : (((w.alloc (.cells #[.int .i64 proc, .int .i64 s.x, .int .i64 s.y, .int .i64 s.c, .slice a1 ps.length c1] 26)).alloc (.cells #[.int .i64 0, .int .i64 0, .int .i64 0, .int .i64 0, .slice none 0 0] 32)).alloc (.cells #[.int .i64 proc, .int .i64 0, .int .i64 0, .int .i64 0, .slice none 0 0] 32)).heap.size = w.heap.size + 3 := by simp
  have HB00 := hide hb0
  have HA := hide cA
  have HZ := hide r2
  have HR0 := hide r3
  have HS0 := hide hs0
  clear hb0 cA r2 r3 hs0
  go_enter Try.func10, Try.ntmps10
  go_upto_region 3 with fail
  generalize (((w.alloc (.cells #[.int .i64 proc, .int .i64 s.x, .int .i64 s.y, .int .i64 s.c, .slice a1 ps.length c1] 26)).alloc (.cells #[.int .i64 0, .int .i64 0, .int .i64 0, .int .i64 0, .slice none 0 0] 32)).alloc (.cells #[.int .i64 proc, .int .i64 0, .int .i64 0, .int .i64 0, .slice none 0 0] 32)) = W0 at *
  have k1 : W0.cell? ⟨w.heap.size, 1, none⟩ = some (.int .i64 s.x) := (unhide HA) 1 (by simp)
  have k2 : W0.cell? ⟨w.heap.size, 2, none⟩ = some (.int .i64 s.y) := (unhide HA) 2 (by simp)
  have k3 : W0.cell? ⟨w.heap.size, 3, none⟩ = some (.int .i64 s.c) := (unhide HA) 3 (by simp)
  go_wp2_with fail
  refine (toState_any _ _ _ _).mono ?_
  rintro e w1 ⟨rfl, hb1⟩
  have HR1 := hide ((unhide HR0).of_block (hb1.block (w.heap.size + 2) (by have := unhide HS0; omega)))
  have HB1 : Hid (Below (w.heap.size + 2) W0 w1) := hide (hb1.mono (by have := unhide HS0; omega))
  clear HR0 hb1 k1 k2 k3
  have g1 := (unhide HR1).cell (i := 1) (by omega)
  have g2 := (unhide HR1).cell (i := 2) (by omega)
  have g3 := (unhide HR1).cell (i := 3) (by omega)
  have z1 := (unhide HR1).frozen 1
  have z2 := (unhide HR1).frozen 2
  have z3 := (unhide HR1).frozen 3
  simp at g1 g2 g3
  have hset : (((w1.setCell ⟨w.heap.size + 2, 1, none⟩ (.int .i64 s.x)).setCell ⟨w.heap.size + 2, 2, none⟩ (.int .i64 s.y)).setCell ⟨w.heap.size + 2, 3, none⟩ (.int .i64 s.c)) = setVals w1 (w.heap.size + 2) 1 [.int .i64 s.x, .int .i64 s.y, .int .i64 s.c] := rfl
  have HR2 : Hid ((((w1.setCell ⟨w.heap.size + 2, 1, none⟩ (.int .i64 s.x)).setCell ⟨w.heap.size + 2, 2, none⟩ (.int .i64 s.y)).setCell ⟨w.heap.size + 2, 3, none⟩ (.int .i64 s.c)).rowIs (w.heap.size + 2) 32 5 _) := hide (by rw [hset]; exact setVals_row [.int .i64 s.x, .int .i64 s.y, .int .i64 s.c] 1 w1 _ (unhide HR1))
  have HB2 : Hid (Below (w.heap.size + 2) W0 (((w1.setCell ⟨w.heap.size + 2, 1, none⟩ (.int .i64 s.x)).setCell ⟨w.heap.size + 2, 2, none⟩ (.int .i64 s.y)).setCell ⟨w.heap.size + 2, 3, none⟩ (.int .i64 s.c))) := hide (by rw [hset]; exact setVals_below [.int .i64 s.x, .int .i64 s.y, .int .i64 s.c] 1 w1 (unhide HB1) (Nat.le_refl _))
  clear hset
  go_upto_region 4 with fail
  clear g1 g2 g3 z1 z2 z3
  generalize (((w1.setCell ⟨w.heap.size + 2, 1, none⟩ (.int .i64 s.x)).setCell ⟨w.heap.size + 2, 2, none⟩ (.int .i64 s.y)).setCell ⟨w.heap.size + 2, 3, none⟩ (.int .i64 s.c)) = w2 at *
  clear HR1 HB1
  have hs2 : w.heap.size + 3 ≤ w2.heap.size := by have := (unhide HB2).size; rw [unhide HS0] at this; exact this
  have k4 := ((unhide HB2).cell (p := ⟨w.heap.size, 4, none⟩) (show w.heap.size < w.heap.size + 2 by omega)).trans ((unhide HA) 4 (by simp))
  simp at k4
  have hw2 : Below w.heap.size w w2 := (unhide HB00).trans ((unhide HB2).mono (by omega))
  go_wp2_with fail
  refine (toPastS_any _ ps w2 ((unhide H).on hw2) hlen (unhide HL)).mono ?_
  rintro e w3 ⟨v', rfl, hf3, hb3⟩
  obtain ⟨ua, uc, hus⟩ : ∃ a c, v' = .slice a ps.length c := by
    obtain ⟨g, f, _, h1, _⟩ := hf3
    exact ⟨_, _, h1⟩
  subst hus
  have HF3 := hide hf3
  have HR3 := hide ((unhide HR2).of_block (hb3.block (w.heap.size + 2) (by omega)))
  have HB3 : Hid (Below (w.heap.size + 2) W0 w3) := hide ((unhide HB2).trans (hb3.mono (by omega)))
  clear HR2 HB2 hb3 k4 hf3 hw2
  have g4 := (unhide HR3).cell (i := 4) (by omega)
  have z4 := (unhide HR3).frozen 4
  simp at g4
  have hset : (w3.setCell ⟨w.heap.size + 2, 4, none⟩ (.slice ua ps.length uc)) = setVals w3 (w.heap.size + 2) 4 [.slice ua ps.length uc] := rfl
  have HR4 : Hid ((w3.setCell ⟨w.heap.size + 2, 4, none⟩ (.slice ua ps.length uc)).rowIs (w.heap.size + 2) 32 5 _) := hide (by rw [hset]; exact setVals_row [.slice ua ps.length uc] 4 w3 _ (unhide HR3))
  have HB4 : Hid (Below (w.heap.size + 2) W0 (w3.setCell ⟨w.heap.size + 2, 4, none⟩ (.slice ua ps.length uc))) := hide (by rw [hset]; exact setVals_below [.slice ua ps.length uc] 4 w3 (unhide HB3) (Nat.le_refl _))
  have HF4 : Hid (PastsFr (w.heap.size + 3) (w3.setCell ⟨w.heap.size + 2, 4, none⟩ (.slice ua ps.length uc)) (.slice ua ps.length uc) ps) := hide (by rw [hset]; exact ((unhide HF3).less hs2).setV (by omega) _)
  clear hset
  go_upto_region 5 with fail
  clear g4 z4
  generalize (w3.setCell ⟨w.heap.size + 2, 4, none⟩ (.slice ua ps.length uc)) = w4 at *
  clear HR3 HB3 HF3
  have HZ4 := hide ((unhide HZ).of_block ((unhide HB4).block (w.heap.size + 1) (by omega)))
  have hw4 : Below w.heap.size w w4 := (unhide HB00).trans ((unhide HB4).mono (by omega))
  have HW4 := hide hw4
  clear hw4
  have g0 := (unhide HR4).cell (i := 0) (by omega)
  have g1 := (unhide HR4).cell (i := 1) (by omega)
  have g2 := (unhide HR4).cell (i := 2) (by omega)
  have g3 := (unhide HR4).cell (i := 3) (by omega)
  have g4 := (unhide HR4).cell (i := 4) (by omega)
  have y0 := (unhide HZ4).cell (i := 0) (by omega)
  have y1 := (unhide HZ4).cell (i := 1) (by omega)
  have y2 := (unhide HZ4).cell (i := 2) (by omega)
  have y3 := (unhide HZ4).cell (i := 3) (by omega)
  have y4 := (unhide HZ4).cell (i := 4) (by omega)
  have x0 := (unhide HZ4).frozen 0
  have x1 := (unhide HZ4).frozen 1
  have x2 := (unhide HZ4).frozen 2
  have x3 := (unhide HZ4).frozen 3
  have x4 := (unhide HZ4).frozen 4
  simp at g0 g1 g2 g3 g4
  simp at y0 y1 y2 y3 y4
  go_wp2_with fail
  refine bodyPost_ret (v := laneAgg proc s (.slice ua ps.length uc)) (by simp [results, Try.results10, go_sem, y0, y1, y2, y3, y4]) rfl ⟨_, rfl, ?_, ?_⟩
  · exact ((unhide HF4).setV (r := w.heap.size + 1) (o := 0) (by omega) (laneCells proc s (.slice ua ps.length uc))).less (by omega)
  · exact setVals_below (laneCells proc s (.slice ua ps.length uc)) 0 w4 (unhide HW4) (by omega)
end Go.Proofs.Ytjdaedcpjfcpjaa
