/- toPast, toPastS, toLane: each list in a block of its own. -/
import Derived.Test.YtjdaedcpjfcpjaaOwn1
namespace Go.Proofs.Ytjdaedcpjfcpjaa
open Go.RowKit
set_option linter.unusedVariables false
set_option linter.unusedSimpArgs false

theorem PastsAt.sliced2 {w : World} {v : Value} {ps : List PastV} (h : PastsAt w v ps) : ∃ a c, v = .slice a ps.length c := by
  obtain ⟨a, c, e, _⟩ := h
  exact ⟨a, c, e⟩
theorem PastsOwn.setV {N M r o : Nat} {w : World} {v : Value} {ps : List PastV} (h : PastsOwn N M w v ps) (hr : r < N) (xs : List Value) : PastsOwn N M (setVals w r o xs) v ps :=
  h.keep (fun b hb _ => setVals_other xs o w b (by omega))

theorem pastsIn2_more {g M k : Nat} {w3 : World} {f : Nat → Value} {us : List (Value × Value)} {ps : List PastV} {a b : Value} {p : PastV} (hul : us.length = k) (hk : k < ps.length) (hp : p = ps[k]) (h : PastsIn2 (g + 1) M w3 f us ps) (hM : M ≤ w3.heap.size) (hn : PastFr (g + 1) w3 a b p) :
    PastsIn2 (g + 1) (setVals w3 g (k * 12) (pastCells p a b)).heap.size (setVals w3 g (k * 12) (pastCells p a b)) (fun j => if k * 12 ≤ j ∧ j < k * 12 + (pastCells p a b).length then (pastCells p a b).getD (j - k * 12) undef else f j) (us ++ [(a, b)]) ps := by
  intro i hi hi'
  rw [setVals_size]
  have hset : ∀ x, g + 1 ≤ x → x < w3.heap.size → (setVals w3 g (k * 12) (pastCells p a b)).heap[x]? = w3.heap[x]? := fun x hx _ => setVals_other _ _ _ _ (by omega)
  by_cases e : i < us.length
  · obtain ⟨h1, h2⟩ := h i e hi'
    rw [List.getElem_append_left e]
    refine ⟨fun j hj => ?_, (h2.wide (Nat.le_refl _) hM).keep hset⟩
    have := mul_place (show i < k by omega) hj
    show (if k * 12 ≤ i * 12 + j ∧ i * 12 + j < k * 12 + 12 then _ else f (i * 12 + j)) = _
    rw [if_neg (by omega)]
    exact h1 j hj
  · obtain rfl : i = k := by simp at hi; omega
    have e3 : (us ++ [(a, b)])[i] = (a, b) := by
      rw [List.getElem_append_right (by omega)]
      simp [hul]
    rw [e3, ← hp]
    refine ⟨fun j hj => ?_, PastO.keep hset ⟨hn, fun g hg => (hn.s.blk g hg).2, fun g hg => (hn.o.blk g hg).2⟩⟩
    have hj2 : j < (pastCells p a b).length := hj
    show (if i * 12 ≤ i * 12 + j ∧ i * 12 + j < i * 12 + 12 then (pastCells p a b).getD (i * 12 + j - i * 12) undef else f (i * 12 + j)) = _
    rw [if_pos (by omega), Nat.add_sub_cancel_left, List.getD_eq_getElem?_getD, List.getElem?_eq_getElem hj2, Option.getD_some]

set_option maxRecDepth 100000 in
set_option maxHeartbeats 2000000 in
theorem toPast_own (p : PastV) (vs vo : Value) (w : World) (h : PastAt w vs vo p) (hl1 : p.sends.length ≤ 1048576) (hl2 : p.outs.length ≤ 1048576) :
    Calls Try.prog 73 #[pastAgg p vs vo] w fun e w' => ∃ us uo, e = .returned (pastAgg p us uo) ∧ PastFr (w.heap.size + 1) w' us uo p ∧ Apart us uo ∧ Below w.heap.size w w' := by
  have H := hide h
  obtain ⟨a1, c1, e1, _⟩ := h.s
  obtain ⟨a2, c2, e2, _⟩ := h.o
  rw [List.length_map] at e1 e2
  subst e1 e2
  clear h
  have hb0 : Below w.heap.size w (((w.alloc (.cells #[.int .i64 p.ev.time, .int .i64 p.ev.to, .int .i64 p.ev.src, .int .i64 p.ev.count, .int .i64 p.ev.n, .int .i64 p.ev.kind, .int .i64 p.ev.arg, .int .i64 p.st.x, .int .i64 p.st.y, .int .i64 p.st.c, .slice a1 p.sends.length c1, .slice a2 p.outs.length c2] 96)).alloc (.cells #[.int .i64 0, .int .i64 0, .int .i64 0, .int .i64 0, .int .i64 0, .int .i64 0, .int .i64 0, .int .i64 0, .int .i64 0, .int .i64 0, .slice none 0 0, .slice none 0 0] 65)).alloc (.cells #[.int .i64 0, .int .i64 0, .int .i64 0, .int .i64 0, .int .i64 0, .int .i64 0, .int .i64 0, .int .i64 0, .int .i64 0, .int .i64 0, .slice none 0 0, .slice none 0 0] 65)) := (((Below.refl _ _).alloc (Nat.le_refl _) _).alloc (by simp) _).alloc (by simp; omega) _
  have cA : CellsAt (((w.alloc (.cells #[.int .i64 p.ev.time, .int .i64 p.ev.to, .int .i64 p.ev.src, .int .i64 p.ev.count, .int .i64 p.ev.n, .int .i64 p.ev.kind, .int .i64 p.ev.arg, .int .i64 p.st.x, .int .i64 p.st.y, .int .i64 p.st.c, .slice a1 p.sends.length c1, .slice a2 p.outs.length c2] 96)).alloc (.cells #[.int .i64 0, .int .i64 0, .int .i64 0, .int .i64 0, .int .i64 0, .int .i64 0, .int .i64 0, .int .i64 0, .int .i64 0, .int .i64 0, .slice none 0 0, .slice none 0 0] 65)).alloc (.cells #[.int .i64 0, .int .i64 0, .int .i64 0, .int .i64 0, .int .i64 0, .int .i64 0, .int .i64 0, .int .i64 0, .int .i64 0, .int .i64 0, .slice none 0 0, .slice none 0 0] 65)) w.heap.size 0 (pastCells p (.slice a1 p.sends.length c1) (.slice a2 p.outs.length c2)) := fun j hj => by
    match j, hj with
    | 0, _ => simp [go_sem]
    | 1, _ => simp [go_sem]
    | 2, _ => simp [go_sem]
    | 3, _ => simp [go_sem]
    | 4, _ => simp [go_sem]
    | 5, _ => simp [go_sem]
    | 6, _ => simp [go_sem]
    | 7, _ => simp [go_sem]
    | 8, _ => simp [go_sem]
    | 9, _ => simp [go_sem]
    | 10, _ => simp [go_sem]
    | 11, _ => simp [go_sem]
  have r2 : (((w.alloc (.cells #[.int .i64 p.ev.time, .int .i64 p.ev.to, .int .i64 p.ev.src, .int .i64 p.ev.count, .int .i64 p.ev.n, .int .i64 p.ev.kind, .int .i64 p.ev.arg, .int .i64 p.st.x, .int .i64 p.st.y, .int .i64 p.st.c, .slice a1 p.sends.length c1, .slice a2 p.outs.length c2] 96)).alloc (.cells #[.int .i64 0, .int .i64 0, .int .i64 0, .int .i64 0, .int .i64 0, .int .i64 0, .int .i64 0, .int .i64 0, .int .i64 0, .int .i64 0, .slice none 0 0, .slice none 0 0] 65)).alloc (.cells #[.int .i64 0, .int .i64 0, .int .i64 0, .int .i64 0, .int .i64 0, .int .i64 0, .int .i64 0, .int .i64 0, .int .i64 0, .int .i64 0, .slice none 0 0, .slice none 0 0] 65)).rowIs (w.heap.size + 1) 65 12 (fun j => if j < 10 then .int .i64 0 else .slice none 0 0) := by
    have e := World.rowIs_alloc (w.alloc (.cells #[.int .i64 p.ev.time, .int .i64 p.ev.to, .int .i64 p.ev.src, .int .i64 p.ev.count, .int .i64 p.ev.n, .int .i64 p.ev.kind, .int .i64 p.ev.arg, .int .i64 p.st.x, .int .i64 p.st.y, .int .i64 p.st.c, .slice a1 p.sends.length c1, .slice a2 p.outs.length c2] 96)) #[.int .i64 0, .int .i64 0, .int .i64 0, .int .i64 0, .int .i64 0, .int .i64 0, .int .i64 0, .int .i64 0, .int .i64 0, .int .i64 0, .slice none 0 0, .slice none 0 0] 65 (fun j => if j < 10 then .int .i64 0 else .slice none 0 0) (fun j hj => by
      match j, hj with
      | 0, _ => simp
      | 1, _ => simp
      | 2, _ => simp
      | 3, _ => simp
      | 4, _ => simp
      | 5, _ => simp
      | 6, _ => simp
      | 7, _ => simp
      | 8, _ => simp
      | 9, _ => simp
      | 10, _ => simp
      | 11, _ => simp)
    have hs1 : (w.alloc (.cells #[.int .i64 p.ev.time, .int .i64 p.ev.to, .int .i64 p.ev.src, .int .i64 p.ev.count, .int .i64 p.ev.n, .int .i64 p.ev.kind, .int .i64 p.ev.arg, .int .i64 p.st.x, .int .i64 p.st.y, .int .i64 p.st.c, .slice a1 p.sends.length c1, .slice a2 p.outs.length c2] 96)).heap.size = w.heap.size + 1 := by simp
    rw [hs1] at e
    exact e.of_block (((Below.refl _ _).alloc (Nat.le_refl _) _).block (w.heap.size + 1) (by simp))
  have r3 : (((w.alloc (.cells #[.int .i64 p.ev.time, .int .i64 p.ev.to, .int .i64 p.ev.src, .int .i64 p.ev.count, .int .i64 p.ev.n, .int .i64 p.ev.kind, .int .i64 p.ev.arg, .int .i64 p.st.x, .int .i64 p.st.y, .int .i64 p.st.c, .slice a1 p.sends.length c1, .slice a2 p.outs.length c2] 96)).alloc (.cells #[.int .i64 0, .int .i64 0, .int .i64 0, .int .i64 0, .int .i64 0, .int .i64 0, .int .i64 0, .int .i64 0, .int .i64 0, .int .i64 0, .slice none 0 0, .slice none 0 0] 65)).alloc (.cells #[.int .i64 0, .int .i64 0, .int .i64 0, .int .i64 0, .int .i64 0, .int .i64 0, .int .i64 0, .int .i64 0, .int .i64 0, .int .i64 0, .slice none 0 0, .slice none 0 0] 65)).rowIs (w.heap.size + 2) 65 12 (fun j => if j < 10 then .int .i64 0 else .slice none 0 0) := by
    have e := World.rowIs_alloc ((w.alloc (.cells #[.int .i64 p.ev.time, .int .i64 p.ev.to, .int .i64 p.ev.src, .int .i64 p.ev.count, .int .i64 p.ev.n, .int .i64 p.ev.kind, .int .i64 p.ev.arg, .int .i64 p.st.x, .int .i64 p.st.y, .int .i64 p.st.c, .slice a1 p.sends.length c1, .slice a2 p.outs.length c2] 96)).alloc (.cells #[.int .i64 0, .int .i64 0, .int .i64 0, .int .i64 0, .int .i64 0, .int .i64 0, .int .i64 0, .int .i64 0, .int .i64 0, .int .i64 0, .slice none 0 0, .slice none 0 0] 65)) #[.int .i64 0, .int .i64 0, .int .i64 0, .int .i64 0, .int .i64 0, .int .i64 0, .int .i64 0, .int .i64 0, .int .i64 0, .int .i64 0, .slice none 0 0, .slice none 0 0] 65 (fun j => if j < 10 then .int .i64 0 else .slice none 0 0) (fun j hj => by
      match j, hj with
      | 0, _ => simp
      | 1, _ => simp
      | 2, _ => simp
      | 3, _ => simp
      | 4, _ => simp
      | 5, _ => simp
      | 6, _ => simp
      | 7, _ => simp
      | 8, _ => simp
      | 9, _ => simp
      | 10, _ => simp
      | 11, _ => simp)
    have hs1 : ((w.alloc (.cells #[.int .i64 p.ev.time, .int .i64 p.ev.to, .int .i64 p.ev.src, .int .i64 p.ev.count, .int .i64 p.ev.n, .int .i64 p.ev.kind, .int .i64 p.ev.arg, .int .i64 p.st.x, .int .i64 p.st.y, .int .i64 p.st.c, .slice a1 p.sends.length c1, .slice a2 p.outs.length c2] 96)).alloc (.cells #[.int .i64 0, .int .i64 0, .int .i64 0, .int .i64 0, .int .i64 0, .int .i64 0, .int .i64 0, .int .i64 0, .int .i64 0, .int .i64 0, .slice none 0 0, .slice none 0 0] 65)).heap.size = w.heap.size + 2 := by simp
    rw [hs1] at e
    exact e
  have hs0 : (((w.alloc (.cells #[.int .i64 p.ev.time, .int .i64 p.ev.to, .int .i64 p.ev.src, .int .i64 p.ev.count, .int .i64 p.ev.n, .int .i64 p.ev.kind, .int .i64 p.ev.arg, .int .i64 p.st.x, .int .i64 p.st.y, .int .i64 p.st.c, .slice a1 p.sends.length c1, .slice a2 p.outs.length c2] 96)).alloc (.cells #[.int .i64 0, .int .i64 0, .int .i64 0, .int .i64 0, .int .i64 0, .int .i64 0, .int .i64 0, .int .i64 0, .int .i64 0, .int .i64 0, .slice none 0 0, .slice none 0 0] 65)).alloc (.cells #[.int .i64 0, .int .i64 0, .int .i64 0, .int .i64 0, .int .i64 0, .int .i64 0, .int .i64 0, .int .i64 0, .int .i64 0, .int .i64 0, .slice none 0 0, .slice none 0 0] 65)).heap.size = w.heap.size + 3 := by simp
  have HB00 := hide hb0
  have HA := hide cA
  have HZ := hide r2
  have HR0 := hide r3
  have HS0 := hide hs0
  clear hb0 cA r2 r3 hs0
  go_enter Try.func73, Try.ntmps73
  go_upto_region 2 with fail
  generalize (((w.alloc (.cells #[.int .i64 p.ev.time, .int .i64 p.ev.to, .int .i64 p.ev.src, .int .i64 p.ev.count, .int .i64 p.ev.n, .int .i64 p.ev.kind, .int .i64 p.ev.arg, .int .i64 p.st.x, .int .i64 p.st.y, .int .i64 p.st.c, .slice a1 p.sends.length c1, .slice a2 p.outs.length c2] 96)).alloc (.cells #[.int .i64 0, .int .i64 0, .int .i64 0, .int .i64 0, .int .i64 0, .int .i64 0, .int .i64 0, .int .i64 0, .int .i64 0, .int .i64 0, .slice none 0 0, .slice none 0 0] 65)).alloc (.cells #[.int .i64 0, .int .i64 0, .int .i64 0, .int .i64 0, .int .i64 0, .int .i64 0, .int .i64 0, .int .i64 0, .int .i64 0, .int .i64 0, .slice none 0 0, .slice none 0 0] 65)) = W0 at *
  have k0 : W0.cell? ⟨w.heap.size, 0, none⟩ = some (.int .i64 p.ev.time) := (unhide HA) 0 (by simp)
  have k1 : W0.cell? ⟨w.heap.size, 1, none⟩ = some (.int .i64 p.ev.to) := (unhide HA) 1 (by simp)
  have k2 : W0.cell? ⟨w.heap.size, 2, none⟩ = some (.int .i64 p.ev.src) := (unhide HA) 2 (by simp)
  have k3 : W0.cell? ⟨w.heap.size, 3, none⟩ = some (.int .i64 p.ev.count) := (unhide HA) 3 (by simp)
  have k4 : W0.cell? ⟨w.heap.size, 4, none⟩ = some (.int .i64 p.ev.n) := (unhide HA) 4 (by simp)
  have k5 : W0.cell? ⟨w.heap.size, 5, none⟩ = some (.int .i64 p.ev.kind) := (unhide HA) 5 (by simp)
  have k6 : W0.cell? ⟨w.heap.size, 6, none⟩ = some (.int .i64 p.ev.arg) := (unhide HA) 6 (by simp)
  have k7 : W0.cell? ⟨w.heap.size, 7, none⟩ = some (.int .i64 p.st.x) := (unhide HA) 7 (by simp)
  have k8 : W0.cell? ⟨w.heap.size, 8, none⟩ = some (.int .i64 p.st.y) := (unhide HA) 8 (by simp)
  have k9 : W0.cell? ⟨w.heap.size, 9, none⟩ = some (.int .i64 p.st.c) := (unhide HA) 9 (by simp)
  have k10 : W0.cell? ⟨w.heap.size, 10, none⟩ = some (.slice a1 p.sends.length c1) := (unhide HA) 10 (by simp)
  have k11 : W0.cell? ⟨w.heap.size, 11, none⟩ = some (.slice a2 p.outs.length c2) := (unhide HA) 11 (by simp)
  go_wp2_with fail
  refine (toEvent_any _ _ _ _ _ _ _ _).mono ?_
  rintro e w1 ⟨rfl, hb1⟩
  have hs1 : w.heap.size + 3 ≤ w1.heap.size := by have := hb1.size; rw [unhide HS0] at this; exact this
  have HR1 := hide ((unhide HR0).of_block (hb1.block (w.heap.size + 2) (by have := unhide HS0; omega)))
  have HB1 : Hid (Below (w.heap.size + 2) W0 w1) := hide (hb1.mono (by have := unhide HS0; omega))
  clear HR0 hb1
  clear k0 k1 k2 k3 k4 k5 k6 k7 k8 k9 k10 k11
  have g0 := (unhide HR1).cell (i := 0) (by omega)
  have z0 := (unhide HR1).frozen 0
  have g1 := (unhide HR1).cell (i := 1) (by omega)
  have z1 := (unhide HR1).frozen 1
  have g2 := (unhide HR1).cell (i := 2) (by omega)
  have z2 := (unhide HR1).frozen 2
  have g3 := (unhide HR1).cell (i := 3) (by omega)
  have z3 := (unhide HR1).frozen 3
  have g4 := (unhide HR1).cell (i := 4) (by omega)
  have z4 := (unhide HR1).frozen 4
  have g5 := (unhide HR1).cell (i := 5) (by omega)
  have z5 := (unhide HR1).frozen 5
  have g6 := (unhide HR1).cell (i := 6) (by omega)
  have z6 := (unhide HR1).frozen 6
  have hset : (((((((w1.setCell ⟨w.heap.size + 2, 0, none⟩ (.int .i64 p.ev.time)).setCell ⟨w.heap.size + 2, 1, none⟩ (.int .i64 p.ev.to)).setCell ⟨w.heap.size + 2, 2, none⟩ (.int .i64 p.ev.src)).setCell ⟨w.heap.size + 2, 3, none⟩ (.int .i64 p.ev.count)).setCell ⟨w.heap.size + 2, 4, none⟩ (.int .i64 p.ev.n)).setCell ⟨w.heap.size + 2, 5, none⟩ (.int .i64 p.ev.kind)).setCell ⟨w.heap.size + 2, 6, none⟩ (.int .i64 p.ev.arg)) = setVals w1 (w.heap.size + 2) 0 [.int .i64 p.ev.time, .int .i64 p.ev.to, .int .i64 p.ev.src, .int .i64 p.ev.count, .int .i64 p.ev.n, .int .i64 p.ev.kind, .int .i64 p.ev.arg] := rfl
  have HR2 : Hid ((((((((w1.setCell ⟨w.heap.size + 2, 0, none⟩ (.int .i64 p.ev.time)).setCell ⟨w.heap.size + 2, 1, none⟩ (.int .i64 p.ev.to)).setCell ⟨w.heap.size + 2, 2, none⟩ (.int .i64 p.ev.src)).setCell ⟨w.heap.size + 2, 3, none⟩ (.int .i64 p.ev.count)).setCell ⟨w.heap.size + 2, 4, none⟩ (.int .i64 p.ev.n)).setCell ⟨w.heap.size + 2, 5, none⟩ (.int .i64 p.ev.kind)).setCell ⟨w.heap.size + 2, 6, none⟩ (.int .i64 p.ev.arg)).rowIs (w.heap.size + 2) 65 12 _) := hide (by rw [hset]; exact setVals_row [.int .i64 p.ev.time, .int .i64 p.ev.to, .int .i64 p.ev.src, .int .i64 p.ev.count, .int .i64 p.ev.n, .int .i64 p.ev.kind, .int .i64 p.ev.arg] 0 w1 _ (unhide HR1))
  have HB2 : Hid (Below (w.heap.size + 2) W0 (((((((w1.setCell ⟨w.heap.size + 2, 0, none⟩ (.int .i64 p.ev.time)).setCell ⟨w.heap.size + 2, 1, none⟩ (.int .i64 p.ev.to)).setCell ⟨w.heap.size + 2, 2, none⟩ (.int .i64 p.ev.src)).setCell ⟨w.heap.size + 2, 3, none⟩ (.int .i64 p.ev.count)).setCell ⟨w.heap.size + 2, 4, none⟩ (.int .i64 p.ev.n)).setCell ⟨w.heap.size + 2, 5, none⟩ (.int .i64 p.ev.kind)).setCell ⟨w.heap.size + 2, 6, none⟩ (.int .i64 p.ev.arg))) := hide (by rw [hset]; exact setVals_below [.int .i64 p.ev.time, .int .i64 p.ev.to, .int .i64 p.ev.src, .int .i64 p.ev.count, .int .i64 p.ev.n, .int .i64 p.ev.kind, .int .i64 p.ev.arg] 0 w1 (unhide HB1) (Nat.le_refl _))
  clear hset
  go_upto_region 3 with fail
  clear g0 z0 g1 z1 g2 z2 g3 z3 g4 z4 g5 z5 g6 z6
  generalize (((((((w1.setCell ⟨w.heap.size + 2, 0, none⟩ (.int .i64 p.ev.time)).setCell ⟨w.heap.size + 2, 1, none⟩ (.int .i64 p.ev.to)).setCell ⟨w.heap.size + 2, 2, none⟩ (.int .i64 p.ev.src)).setCell ⟨w.heap.size + 2, 3, none⟩ (.int .i64 p.ev.count)).setCell ⟨w.heap.size + 2, 4, none⟩ (.int .i64 p.ev.n)).setCell ⟨w.heap.size + 2, 5, none⟩ (.int .i64 p.ev.kind)).setCell ⟨w.heap.size + 2, 6, none⟩ (.int .i64 p.ev.arg)) = w2 at *
  have hs2 : w.heap.size + 3 ≤ w2.heap.size := by have := (unhide HB2).size; rw [unhide HS0] at this; exact this
  have k7 := ((unhide HB2).cell (p := ⟨w.heap.size, 7, none⟩) (show w.heap.size < w.heap.size + 2 by omega)).trans ((unhide HA) 7 (by simp))
  have k8 := ((unhide HB2).cell (p := ⟨w.heap.size, 8, none⟩) (show w.heap.size < w.heap.size + 2 by omega)).trans ((unhide HA) 8 (by simp))
  have k9 := ((unhide HB2).cell (p := ⟨w.heap.size, 9, none⟩) (show w.heap.size < w.heap.size + 2 by omega)).trans ((unhide HA) 9 (by simp))
  simp at k7 k8 k9
  clear HR1 HB1
  go_wp2_with fail
  refine (toState_any _ _ _ _).mono ?_
  rintro e w3 ⟨rfl, hb3⟩
  have HR3 := hide ((unhide HR2).of_block (hb3.block (w.heap.size + 2) (by omega)))
  have HB3 : Hid (Below (w.heap.size + 2) W0 w3) := hide ((unhide HB2).trans (hb3.mono (by omega)))
  clear HR2 HB2 hb3 k7 k8 k9
  have g7 := (unhide HR3).cell (i := 7) (by omega)
  have z7 := (unhide HR3).frozen 7
  have g8 := (unhide HR3).cell (i := 8) (by omega)
  have z8 := (unhide HR3).frozen 8
  have g9 := (unhide HR3).cell (i := 9) (by omega)
  have z9 := (unhide HR3).frozen 9
  have hset : (((w3.setCell ⟨w.heap.size + 2, 7, none⟩ (.int .i64 p.st.x)).setCell ⟨w.heap.size + 2, 8, none⟩ (.int .i64 p.st.y)).setCell ⟨w.heap.size + 2, 9, none⟩ (.int .i64 p.st.c)) = setVals w3 (w.heap.size + 2) 7 [.int .i64 p.st.x, .int .i64 p.st.y, .int .i64 p.st.c] := rfl
  have HR4 : Hid ((((w3.setCell ⟨w.heap.size + 2, 7, none⟩ (.int .i64 p.st.x)).setCell ⟨w.heap.size + 2, 8, none⟩ (.int .i64 p.st.y)).setCell ⟨w.heap.size + 2, 9, none⟩ (.int .i64 p.st.c)).rowIs (w.heap.size + 2) 65 12 _) := hide (by rw [hset]; exact setVals_row [.int .i64 p.st.x, .int .i64 p.st.y, .int .i64 p.st.c] 7 w3 _ (unhide HR3))
  have HB4 : Hid (Below (w.heap.size + 2) W0 (((w3.setCell ⟨w.heap.size + 2, 7, none⟩ (.int .i64 p.st.x)).setCell ⟨w.heap.size + 2, 8, none⟩ (.int .i64 p.st.y)).setCell ⟨w.heap.size + 2, 9, none⟩ (.int .i64 p.st.c))) := hide (by rw [hset]; exact setVals_below [.int .i64 p.st.x, .int .i64 p.st.y, .int .i64 p.st.c] 7 w3 (unhide HB3) (Nat.le_refl _))
  clear hset
  simp at g7 g8 g9
  go_upto_region 4 with fail
  clear g7 z7 g8 z8 g9 z9
  generalize (((w3.setCell ⟨w.heap.size + 2, 7, none⟩ (.int .i64 p.st.x)).setCell ⟨w.heap.size + 2, 8, none⟩ (.int .i64 p.st.y)).setCell ⟨w.heap.size + 2, 9, none⟩ (.int .i64 p.st.c)) = w4 at *
  clear HR3 HB3
  have hs4 : w.heap.size + 3 ≤ w4.heap.size := by have := (unhide HB4).size; rw [unhide HS0] at this; exact this
  have k10 := ((unhide HB4).cell (p := ⟨w.heap.size, 10, none⟩) (show w.heap.size < w.heap.size + 2 by omega)).trans ((unhide HA) 10 (by simp))
  simp at k10
  have hw4 : Below w.heap.size w w4 := (unhide HB00).trans ((unhide HB4).mono (by omega))
  go_wp2_with fail
  refine (toEventS_any _ _ w4 ((unhide H).s.on hw4) (by rw [List.length_map]; exact hl1)).mono ?_
  rintro e w5 ⟨us, rfl, hu5, hb5⟩
  obtain ⟨ua, uc, hus⟩ := RowsFr_sliced hu5
  rw [List.length_map] at hus
  subst hus
  have HU5 := hide (hu5.less (show w.heap.size + 3 ≤ w4.heap.size from hs4))
  have HR5 := hide ((unhide HR4).of_block (hb5.block (w.heap.size + 2) (by omega)))
  have HB5 : Hid (Below (w.heap.size + 2) W0 w5) := hide ((unhide HB4).trans (hb5.mono (by omega)))
  clear HR4 HB4 hb5 k10 hu5 hw4
  have g10 := (unhide HR5).cell (i := 10) (by omega)
  have z10 := (unhide HR5).frozen 10
  have hset : (w5.setCell ⟨w.heap.size + 2, 10, none⟩ (.slice ua p.sends.length uc)) = setVals w5 (w.heap.size + 2) 10 [.slice ua p.sends.length uc] := rfl
  have HR6 : Hid ((w5.setCell ⟨w.heap.size + 2, 10, none⟩ (.slice ua p.sends.length uc)).rowIs (w.heap.size + 2) 65 12 _) := hide (by rw [hset]; exact setVals_row [.slice ua p.sends.length uc] 10 w5 _ (unhide HR5))
  have HB6 : Hid (Below (w.heap.size + 2) W0 (w5.setCell ⟨w.heap.size + 2, 10, none⟩ (.slice ua p.sends.length uc))) := hide (by rw [hset]; exact setVals_below [.slice ua p.sends.length uc] 10 w5 (unhide HB5) (Nat.le_refl _))
  have HU6 : Hid (RowsFr (w.heap.size + 3) 41 7 (w5.setCell ⟨w.heap.size + 2, 10, none⟩ (.slice ua p.sends.length uc)) (.slice ua p.sends.length uc) (p.sends.map evRow)) := hide (by rw [hset]; exact (unhide HU5).setV (by omega) _)
  clear hset
  simp at g10
  go_upto_region 5 with fail
  clear g10 z10
  generalize (w5.setCell ⟨w.heap.size + 2, 10, none⟩ (.slice ua p.sends.length uc)) = w6 at *
  clear HR5 HB5 HU5
  have hs6 : w.heap.size + 3 ≤ w6.heap.size := by have := (unhide HB6).size; rw [unhide HS0] at this; exact this
  have k11 := ((unhide HB6).cell (p := ⟨w.heap.size, 11, none⟩) (show w.heap.size < w.heap.size + 2 by omega)).trans ((unhide HA) 11 (by simp))
  simp at k11
  have hw6 : Below w.heap.size w w6 := (unhide HB00).trans ((unhide HB6).mono (by omega))
  go_wp2_with fail
  refine (toOutS_any _ _ w6 ((unhide H).o.on hw6) (by rw [List.length_map]; exact hl2)).mono ?_
  rintro e w7 ⟨uo, rfl, ho7, hb7⟩
  obtain ⟨oa, oc, huo⟩ := RowsFr_sliced ho7
  rw [List.length_map] at huo
  subst huo
  have HAP : Hid (Apart (.slice ua p.sends.length uc) (.slice oa p.outs.length oc)) := hide (fun g h1 h2 => by have := ((unhide HU6).blk g h1).2; have := (ho7.blk g h2).1; omega)
  have HO7 := hide (ho7.less (show w.heap.size + 3 ≤ w6.heap.size from hs6))
  have HU7 := hide ((unhide HU6).on hb7)
  have HR7 := hide ((unhide HR6).of_block (hb7.block (w.heap.size + 2) (by omega)))
  have HB7 : Hid (Below (w.heap.size + 2) W0 w7) := hide ((unhide HB6).trans (hb7.mono (by omega)))
  clear HR6 HB6 hb7 k11 ho7 HU6 hw6
  have g11 := (unhide HR7).cell (i := 11) (by omega)
  have z11 := (unhide HR7).frozen 11
  have hset : (w7.setCell ⟨w.heap.size + 2, 11, none⟩ (.slice oa p.outs.length oc)) = setVals w7 (w.heap.size + 2) 11 [.slice oa p.outs.length oc] := rfl
  have HR8 : Hid ((w7.setCell ⟨w.heap.size + 2, 11, none⟩ (.slice oa p.outs.length oc)).rowIs (w.heap.size + 2) 65 12 _) := hide (by rw [hset]; exact setVals_row [.slice oa p.outs.length oc] 11 w7 _ (unhide HR7))
  have HB8 : Hid (Below (w.heap.size + 2) W0 (w7.setCell ⟨w.heap.size + 2, 11, none⟩ (.slice oa p.outs.length oc))) := hide (by rw [hset]; exact setVals_below [.slice oa p.outs.length oc] 11 w7 (unhide HB7) (Nat.le_refl _))
  have HU8 : Hid (RowsFr (w.heap.size + 3) 41 7 (w7.setCell ⟨w.heap.size + 2, 11, none⟩ (.slice oa p.outs.length oc)) (.slice ua p.sends.length uc) (p.sends.map evRow)) := hide (by rw [hset]; exact (unhide HU7).setV (by omega) _)
  have HO8 : Hid (RowsFr (w.heap.size + 3) 92 5 (w7.setCell ⟨w.heap.size + 2, 11, none⟩ (.slice oa p.outs.length oc)) (.slice oa p.outs.length oc) (p.outs.map outRow)) := hide (by rw [hset]; exact (unhide HO7).setV (by omega) _)
  clear hset
  simp at g11
  go_upto_region 6 with fail
  clear g11 z11
  generalize (w7.setCell ⟨w.heap.size + 2, 11, none⟩ (.slice oa p.outs.length oc)) = w8 at *
  clear HR7 HB7 HU7 HO7
  have HZ8 := hide ((unhide HZ).of_block ((unhide HB8).block (w.heap.size + 1) (by omega)))
  have g0 := (unhide HR8).cell (i := 0) (by omega)
  have g1 := (unhide HR8).cell (i := 1) (by omega)
  have g2 := (unhide HR8).cell (i := 2) (by omega)
  have g3 := (unhide HR8).cell (i := 3) (by omega)
  have g4 := (unhide HR8).cell (i := 4) (by omega)
  have g5 := (unhide HR8).cell (i := 5) (by omega)
  have g6 := (unhide HR8).cell (i := 6) (by omega)
  have g7 := (unhide HR8).cell (i := 7) (by omega)
  have g8 := (unhide HR8).cell (i := 8) (by omega)
  have g9 := (unhide HR8).cell (i := 9) (by omega)
  have g10 := (unhide HR8).cell (i := 10) (by omega)
  have g11 := (unhide HR8).cell (i := 11) (by omega)
  have y0 := (unhide HZ8).cell (i := 0) (by omega)
  have x0 := (unhide HZ8).frozen 0
  have y1 := (unhide HZ8).cell (i := 1) (by omega)
  have x1 := (unhide HZ8).frozen 1
  have y2 := (unhide HZ8).cell (i := 2) (by omega)
  have x2 := (unhide HZ8).frozen 2
  have y3 := (unhide HZ8).cell (i := 3) (by omega)
  have x3 := (unhide HZ8).frozen 3
  have y4 := (unhide HZ8).cell (i := 4) (by omega)
  have x4 := (unhide HZ8).frozen 4
  have y5 := (unhide HZ8).cell (i := 5) (by omega)
  have x5 := (unhide HZ8).frozen 5
  have y6 := (unhide HZ8).cell (i := 6) (by omega)
  have x6 := (unhide HZ8).frozen 6
  have y7 := (unhide HZ8).cell (i := 7) (by omega)
  have x7 := (unhide HZ8).frozen 7
  have y8 := (unhide HZ8).cell (i := 8) (by omega)
  have x8 := (unhide HZ8).frozen 8
  have y9 := (unhide HZ8).cell (i := 9) (by omega)
  have x9 := (unhide HZ8).frozen 9
  have y10 := (unhide HZ8).cell (i := 10) (by omega)
  have x10 := (unhide HZ8).frozen 10
  have y11 := (unhide HZ8).cell (i := 11) (by omega)
  have x11 := (unhide HZ8).frozen 11
  simp at g0 g1 g2 g3 g4 g5 g6 g7 g8 g9 g10 g11
  simp at y0 y1 y2 y3 y4 y5 y6 y7 y8 y9 y10 y11
  have hw8 : Below w.heap.size w w8 := (unhide HB00).trans ((unhide HB8).mono (by omega))
  have HW8 := hide hw8
  clear hw8
  go_wp2_with fail
  refine bodyPost_ret (v := pastAgg p (.slice ua p.sends.length uc) (.slice oa p.outs.length oc)) (by simp [results, Try.results73, go_sem, y0, y1, y2, y3, y4, y5, y6, y7, y8, y9, y10, y11]) rfl ⟨_, _, rfl, ⟨?_, ?_⟩, unhide HAP, ?_⟩
  · exact ((unhide HU8).setV (r := w.heap.size + 1) (o := 0) (by omega) (pastCells p (.slice ua p.sends.length uc) (.slice oa p.outs.length oc))).less (by omega)
  · exact ((unhide HO8).setV (r := w.heap.size + 1) (o := 0) (by omega) (pastCells p (.slice ua p.sends.length uc) (.slice oa p.outs.length oc))).less (by omega)
  · exact setVals_below (pastCells p (.slice ua p.sends.length uc) (.slice oa p.outs.length oc)) 0 w8 (unhide HW8) (by omega)
set_option maxRecDepth 100000 in
set_option maxHeartbeats 2000000 in
theorem toPastS_own (v : Value) (ps : List PastV) (w : World) (h : PastsAt w v ps) (hlen : ps.length ≤ 1048576) (hl : ∀ p ∈ ps, p.sends.length ≤ 1048576 ∧ p.outs.length ≤ 1048576) :
    Calls Try.prog 40 #[v] w fun e w' => ∃ v', e = .returned v' ∧ PastsOwn w.heap.size w'.heap.size w' v' ps ∧ Below w.heap.size w w' := by
  obtain ⟨ad, cap, rfl, hlc, hm, hcells⟩ := h
  have HMX := hide hm
  have HL := hide hl
  clear hm hl
  have hmk := run_make_n (P := Try.prog) 30 65 _ 12 128 slice_PastT info_PastT ps.length (by omega) (by omega)
  have HC := hide hcells
  clear hcells
  go_enter Try.func40, Try.ntmps40
  go_wp2_with fail
  have hb1 : Below w.heap.size w (w.alloc (.cells (madeCells #[.int .i64 0, .int .i64 0, .int .i64 0, .int .i64 0, .int .i64 0, .int .i64 0, .int .i64 0, .int .i64 0, .int .i64 0, .int .i64 0, .slice none 0 0, .slice none 0 0] (ps.length * 12)) 65)) := (Below.refl _ _).alloc (Nat.le_refl _) _
  have hr1 := row_made w #[.int .i64 0, .int .i64 0, .int .i64 0, .int .i64 0, .int .i64 0, .int .i64 0, .int .i64 0, .int .i64 0, .int .i64 0, .int .i64 0, .slice none 0 0, .slice none 0 0] (ps.length * 12) 65
  clear hmk
  generalize w.alloc (.cells (madeCells #[.int .i64 0, .int .i64 0, .int .i64 0, .int .i64 0, .int .i64 0, .int .i64 0, .int .i64 0, .int .i64 0, .int .i64 0, .int .i64 0, .slice none 0 0, .slice none 0 0] (ps.length * 12)) 65) = w1 at *
  go_loopw [4] (fun i wr => ∃ (k : Nat) (f : Nat → Value) (us : List (Value × Value)), k ≤ ps.length ∧ i = .int .i64 k ∧ wr.rowIs w.heap.size 65 (ps.length * 12) f ∧ (us.length = k ∧ PastsIn2 (w.heap.size + 1) wr.heap.size wr f us ps ∧ ([w.heap.size] ++ blocksOf us).Nodup) ∧ Below w.heap.size w wr) (fun i _ => ps.length - (intOf i).toNat)
  case atStart => exact ⟨0, _, [], Nat.zero_le _, rfl, hr1, ⟨rfl, fun j h => absurd h (Nat.not_lt_zero _), by simp [blocksOf]⟩, hb1⟩
  case round =>
    obtain ⟨k, f, us0, hk, rfl, hrow, hin, hb⟩ := hrel
    have HROW := hide hrow
    have HIN := hide hin
    have hgl : w.heap.size < wr.heap.size := hrow.lt
    clear hrow hin hr1
    by_cases hlt : k < ps.length
    · obtain ⟨b, off, vs, vo, had, hc, hp⟩ : ∃ b off vs vo, ad = some ⟨b, off, none⟩ ∧ CellsAt wr b (off + k * 12) (pastCells ps[k] vs vo) ∧ PastAt wr vs vo ps[k] := by
        rcases unhide HC with h | ⟨b, off, h1, h2⟩
        · rw [h] at hlt; exact absurd hlt (Nat.not_lt_zero _)
        · obtain ⟨vs, vo, h3, h4⟩ := h2 k hlt
          exact ⟨b, off, vs, vo, h1, h3.on hb, h4.on hb⟩
      have hkI : (k : Int) < (ps.length : Int) := by omega
      have hk0 : (0 : Int) ≤ (k : Int) := by omega
      subst had
      have hlp := (unhide HL) ps[k] (List.getElem_mem hlt)
      obtain ⟨p, hpe⟩ : ∃ p, p = ps[k] := ⟨_, rfl⟩
      rw [← hpe] at hc hp hlp
      have HPE := hide hpe
      clear hpe
      have q0 : wr.cell? ⟨b, off + k * 12, none⟩ = some (.int .i64 p.ev.time) := hc 0 (by simp)
      have q1 : wr.cell? ⟨b, off + k * 12 + 1, none⟩ = some (.int .i64 p.ev.to) := hc 1 (by simp)
      have q2 : wr.cell? ⟨b, off + k * 12 + 2, none⟩ = some (.int .i64 p.ev.src) := hc 2 (by simp)
      have q3 : wr.cell? ⟨b, off + k * 12 + 3, none⟩ = some (.int .i64 p.ev.count) := hc 3 (by simp)
      have q4 : wr.cell? ⟨b, off + k * 12 + 4, none⟩ = some (.int .i64 p.ev.n) := hc 4 (by simp)
      have q5 : wr.cell? ⟨b, off + k * 12 + 5, none⟩ = some (.int .i64 p.ev.kind) := hc 5 (by simp)
      have q6 : wr.cell? ⟨b, off + k * 12 + 6, none⟩ = some (.int .i64 p.ev.arg) := hc 6 (by simp)
      have q7 : wr.cell? ⟨b, off + k * 12 + 7, none⟩ = some (.int .i64 p.st.x) := hc 7 (by simp)
      have q8 : wr.cell? ⟨b, off + k * 12 + 8, none⟩ = some (.int .i64 p.st.y) := hc 8 (by simp)
      have q9 : wr.cell? ⟨b, off + k * 12 + 9, none⟩ = some (.int .i64 p.st.c) := hc 9 (by simp)
      have q10 : wr.cell? ⟨b, off + k * 12 + 10, none⟩ = some (vs) := hc 10 (by simp)
      have q11 : wr.cell? ⟨b, off + k * 12 + 11, none⟩ = some (vo) := hc 11 (by simp)
      have HP := hide hp
      clear hc hp
      go_wp2_with fail
      refine (toPast_own p vs vo wr (unhide HP) hlp.1 hlp.2).mono ?_
      rintro e w3 ⟨us, uo, rfl, hf3, hap3, hb3⟩
      obtain ⟨ua, uc, hus⟩ := RowsFr_sliced hf3.s
      obtain ⟨oa, oc, huo⟩ := RowsFr_sliced hf3.o
      rw [List.length_map] at hus huo
      subst hus huo
      clear q0 q1 q2 q3 q4 q5 q6 q7 q8 q9 q10 q11
      have hr3 := (unhide HROW).of_block (hb3.block _ hgl)
      have g0 := hr3.cell (i := k * 12 + 0) (by omega)
      have z0 := hr3.frozen (k * 12 + 0)
      have g1 := hr3.cell (i := k * 12 + 1) (by omega)
      have z1 := hr3.frozen (k * 12 + 1)
      have g2 := hr3.cell (i := k * 12 + 2) (by omega)
      have z2 := hr3.frozen (k * 12 + 2)
      have g3 := hr3.cell (i := k * 12 + 3) (by omega)
      have z3 := hr3.frozen (k * 12 + 3)
      have g4 := hr3.cell (i := k * 12 + 4) (by omega)
      have z4 := hr3.frozen (k * 12 + 4)
      have g5 := hr3.cell (i := k * 12 + 5) (by omega)
      have z5 := hr3.frozen (k * 12 + 5)
      have g6 := hr3.cell (i := k * 12 + 6) (by omega)
      have z6 := hr3.frozen (k * 12 + 6)
      have g7 := hr3.cell (i := k * 12 + 7) (by omega)
      have z7 := hr3.frozen (k * 12 + 7)
      have g8 := hr3.cell (i := k * 12 + 8) (by omega)
      have z8 := hr3.frozen (k * 12 + 8)
      have g9 := hr3.cell (i := k * 12 + 9) (by omega)
      have z9 := hr3.frozen (k * 12 + 9)
      have g10 := hr3.cell (i := k * 12 + 10) (by omega)
      have z10 := hr3.frozen (k * 12 + 10)
      have g11 := hr3.cell (i := k * 12 + 11) (by omega)
      have z11 := hr3.frozen (k * 12 + 11)
      simp only [Nat.add_zero] at g0 z0
      have hset : ((((((((((((w3.setCell ⟨w.heap.size, k * 12, none⟩ (.int .i64 p.ev.time)).setCell ⟨w.heap.size, k * 12 + 1, none⟩ (.int .i64 p.ev.to)).setCell ⟨w.heap.size, k * 12 + 2, none⟩ (.int .i64 p.ev.src)).setCell ⟨w.heap.size, k * 12 + 3, none⟩ (.int .i64 p.ev.count)).setCell ⟨w.heap.size, k * 12 + 4, none⟩ (.int .i64 p.ev.n)).setCell ⟨w.heap.size, k * 12 + 5, none⟩ (.int .i64 p.ev.kind)).setCell ⟨w.heap.size, k * 12 + 6, none⟩ (.int .i64 p.ev.arg)).setCell ⟨w.heap.size, k * 12 + 7, none⟩ (.int .i64 p.st.x)).setCell ⟨w.heap.size, k * 12 + 8, none⟩ (.int .i64 p.st.y)).setCell ⟨w.heap.size, k * 12 + 9, none⟩ (.int .i64 p.st.c)).setCell ⟨w.heap.size, k * 12 + 10, none⟩ (.slice ua p.sends.length uc)).setCell ⟨w.heap.size, k * 12 + 11, none⟩ (.slice oa p.outs.length oc)) = setVals w3 w.heap.size (k * 12) (pastCells p (.slice ua p.sends.length uc) (.slice oa p.outs.length oc)) := rfl
      have HR4 := hide (setVals_row (pastCells p (.slice ua p.sends.length uc) (.slice oa p.outs.length oc)) (k * 12) w3 _ hr3)
      have HI4 : Hid ((us0 ++ [((.slice ua p.sends.length uc : Value), (.slice oa p.outs.length oc : Value))]).length = k + 1 ∧ PastsIn2 (w.heap.size + 1) (setVals w3 w.heap.size (k * 12) (pastCells p (.slice ua p.sends.length uc) (.slice oa p.outs.length oc))).heap.size (setVals w3 w.heap.size (k * 12) (pastCells p (.slice ua p.sends.length uc) (.slice oa p.outs.length oc))) (fun j => if k * 12 ≤ j ∧ j < k * 12 + (pastCells p (.slice ua p.sends.length uc) (.slice oa p.outs.length oc)).length then (pastCells p (.slice ua p.sends.length uc) (.slice oa p.outs.length oc)).getD (j - k * 12) undef else f j) (us0 ++ [((.slice ua p.sends.length uc : Value), (.slice oa p.outs.length oc : Value))]) ps ∧ ([w.heap.size] ++ blocksOf (us0 ++ [((.slice ua p.sends.length uc : Value), (.slice oa p.outs.length oc : Value))])).Nodup) := hide (by
        obtain ⟨hul, hi2, hnd⟩ := unhide HIN
        have hf3' : PastFr (w.heap.size + 1) w3 (.slice ua p.sends.length uc) (.slice oa p.outs.length oc) p := hf3.less (by omega)
        refine ⟨by simp [hul], pastsIn2_more hul hlt (by rw [← unhide HPE]) (hi2.keep (fun b _ h => hb3.block b h)) hb3.size hf3', nodup_more hnd (K := wr.heap.size) (fun x hx => ?_) (fun g hg => ?_) (fun g hg => ?_) hap3⟩
        · rcases List.mem_append.1 hx with h | h
          · have := List.mem_singleton.1 h; omega
          · exact (blocks_lt (by omega) hi2 (Nat.le_refl _) x h).2
        · have := (hf3.s.blk g hg).1; omega
        · have := (hf3.o.blk g hg).1; omega)
      have HB4 := hide (setVals_below (pastCells p (.slice ua p.sends.length uc) (.slice oa p.outs.length oc)) (k * 12) w3 (below_then hb hb3) (Nat.le_refl _))
      rw [← hset] at HR4 HI4 HB4
      clear hset hr3 hf3 hb3
      go_wp2_with fail
      go_roundw
      case rel => exact ⟨k + 1, _, _, by omega, by simp, unhide HR4, unhide HI4, unhide HB4⟩
      case measure => (simp [intOf]; try omega)
    · have hke : k = ps.length := by omega
      subst hke
      go_wp2_with fail
      go_ret
      obtain ⟨hul, hi2, hnd⟩ := unhide HIN
      exact ⟨_, rfl, ⟨us0, Or.inr ⟨w.heap.size, ps.length, f, rfl, Nat.le_refl _, hgl, Nat.le_refl _, unhide HMX, unhide HROW, hul, hi2.wide (Nat.le_succ _) (Nat.le_refl _)⟩, hnd⟩, hb⟩

set_option maxRecDepth 100000 in
set_option maxHeartbeats 1000000 in
theorem toLane_own (proc : Int) (s : StV) (v : Value) (ps : List PastV) (w : World) (h : PastsAt w v ps) (hlen : ps.length ≤ 1048576) (hl : ∀ p ∈ ps, p.sends.length ≤ 1048576 ∧ p.outs.length ≤ 1048576) :
    Calls Try.prog 10 #[laneAgg proc s v] w fun e w' => ∃ v', e = .returned (laneAgg proc s v') ∧ PastsOwn (w.heap.size + 1) w'.heap.size w' v' ps ∧ Below w.heap.size w w' := by
  have H := hide h
  obtain ⟨a1, c1, e1, _⟩ := h
  subst e1
  have HL := hide hl
  clear hl
  have hb0 : Below w.heap.size w (((w.alloc (.cells #[.int .i64 proc, .int .i64 s.x, .int .i64 s.y, .int .i64 s.c, .slice a1 ps.length c1] 26)).alloc (.cells #[.int .i64 0, .int .i64 0, .int .i64 0, .int .i64 0, .slice none 0 0] 32)).alloc (.cells #[.int .i64 proc, .int .i64 0, .int .i64 0, .int .i64 0, .slice none 0 0] 32)) := (((Below.refl _ _).alloc (Nat.le_refl _) _).alloc (by simp) _).alloc (by simp; omega) _
  have cA : CellsAt (((w.alloc (.cells #[.int .i64 proc, .int .i64 s.x, .int .i64 s.y, .int .i64 s.c, .slice a1 ps.length c1] 26)).alloc (.cells #[.int .i64 0, .int .i64 0, .int .i64 0, .int .i64 0, .slice none 0 0] 32)).alloc (.cells #[.int .i64 proc, .int .i64 0, .int .i64 0, .int .i64 0, .slice none 0 0] 32)) w.heap.size 0 (laneCells proc s (.slice a1 ps.length c1)) := fun j hj => by
    match j, hj with
    | 0, _ => simp [go_sem]
    | 1, _ => simp [go_sem]
    | 2, _ => simp [go_sem]
    | 3, _ => simp [go_sem]
    | 4, _ => simp [go_sem]
  have r2 : (((w.alloc (.cells #[.int .i64 proc, .int .i64 s.x, .int .i64 s.y, .int .i64 s.c, .slice a1 ps.length c1] 26)).alloc (.cells #[.int .i64 0, .int .i64 0, .int .i64 0, .int .i64 0, .slice none 0 0] 32)).alloc (.cells #[.int .i64 proc, .int .i64 0, .int .i64 0, .int .i64 0, .slice none 0 0] 32)).rowIs (w.heap.size + 1) 32 5 (fun j => if j < 4 then .int .i64 0 else .slice none 0 0) := by
    have e := World.rowIs_alloc (w.alloc (.cells #[.int .i64 proc, .int .i64 s.x, .int .i64 s.y, .int .i64 s.c, .slice a1 ps.length c1] 26)) #[.int .i64 0, .int .i64 0, .int .i64 0, .int .i64 0, .slice none 0 0] 32 (fun j => if j < 4 then .int .i64 0 else .slice none 0 0) (fun j hj => by
      match j, hj with
      | 0, _ => simp
      | 1, _ => simp
      | 2, _ => simp
      | 3, _ => simp
      | 4, _ => simp)
    have hs1 : (w.alloc (.cells #[.int .i64 proc, .int .i64 s.x, .int .i64 s.y, .int .i64 s.c, .slice a1 ps.length c1] 26)).heap.size = w.heap.size + 1 := by simp
    rw [hs1] at e
    exact e.of_block (((Below.refl _ _).alloc (Nat.le_refl _) _).block (w.heap.size + 1) (by simp))
  have r3 : (((w.alloc (.cells #[.int .i64 proc, .int .i64 s.x, .int .i64 s.y, .int .i64 s.c, .slice a1 ps.length c1] 26)).alloc (.cells #[.int .i64 0, .int .i64 0, .int .i64 0, .int .i64 0, .slice none 0 0] 32)).alloc (.cells #[.int .i64 proc, .int .i64 0, .int .i64 0, .int .i64 0, .slice none 0 0] 32)).rowIs (w.heap.size + 2) 32 5 (fun j => if j = 0 then .int .i64 proc else if j < 4 then .int .i64 0 else .slice none 0 0) := by
    have e := World.rowIs_alloc ((w.alloc (.cells #[.int .i64 proc, .int .i64 s.x, .int .i64 s.y, .int .i64 s.c, .slice a1 ps.length c1] 26)).alloc (.cells #[.int .i64 0, .int .i64 0, .int .i64 0, .int .i64 0, .slice none 0 0] 32)) #[.int .i64 proc, .int .i64 0, .int .i64 0, .int .i64 0, .slice none 0 0] 32 (fun j => if j = 0 then .int .i64 proc else if j < 4 then .int .i64 0 else .slice none 0 0) (fun j hj => by
      match j, hj with
      | 0, _ => simp
      | 1, _ => simp
      | 2, _ => simp
      | 3, _ => simp
      | 4, _ => simp)
    have hs1 : ((w.alloc (.cells #[.int .i64 proc, .int .i64 s.x, .int .i64 s.y, .int .i64 s.c, .slice a1 ps.length c1] 26)).alloc (.cells #[.int .i64 0, .int .i64 0, .int .i64 0, .int .i64 0, .slice none 0 0] 32)).heap.size = w.heap.size + 2 := by simp
    rw [hs1] at e
    exact e
  have hs0 : (((w.alloc (.cells #[.int .i64 proc, .int .i64 s.x, .int .i64 s.y, .int .i64 s.c, .slice a1 ps.length c1] 26)).alloc (.cells #[.int .i64 0, .int .i64 0, .int .i64 0, .int .i64 0, .slice none 0 0] 32)).alloc (.cells #[.int .i64 proc, .int .i64 0, .int .i64 0, .int .i64 0, .slice none 0 0] 32)).heap.size = w.heap.size + 3 := by simp
  have HB00 := hide hb0
  have HA := hide cA
  have HZ := hide r2
  have HR0 := hide r3
  have HS0 := hide hs0
  clear hb0 cA r2 r3 hs0
  go_enter Try.func10, Try.ntmps10
  go_upto_region 3 with fail
  generalize (((w.alloc (.cells #[.int .i64 proc, .int .i64 s.x, .int .i64 s.y, .int .i64 s.c, .slice a1 ps.length c1] 26)).alloc (.cells #[.int .i64 0, .int .i64 0, .int .i64 0, .int .i64 0, .slice none 0 0] 32)).alloc (.cells #[.int .i64 proc, .int .i64 0, .int .i64 0, .int .i64 0, .slice none 0 0] 32)) = W0 at *
  have k1 : W0.cell? ⟨w.heap.size, 1, none⟩ = some (.int .i64 s.x) := (unhide HA) 1 (by simp)
  have k2 : W0.cell? ⟨w.heap.size, 2, none⟩ = some (.int .i64 s.y) := (unhide HA) 2 (by simp)
  have k3 : W0.cell? ⟨w.heap.size, 3, none⟩ = some (.int .i64 s.c) := (unhide HA) 3 (by simp)
  go_wp2_with fail
  refine (toState_any _ _ _ _).mono ?_
  rintro e w1 ⟨rfl, hb1⟩
  have HR1 := hide ((unhide HR0).of_block (hb1.block (w.heap.size + 2) (by have := unhide HS0; omega)))
  have HB1 : Hid (Below (w.heap.size + 2) W0 w1) := hide (hb1.mono (by have := unhide HS0; omega))
  clear HR0 hb1 k1 k2 k3
  have g1 := (unhide HR1).cell (i := 1) (by omega)
  have g2 := (unhide HR1).cell (i := 2) (by omega)
  have g3 := (unhide HR1).cell (i := 3) (by omega)
  have z1 := (unhide HR1).frozen 1
  have z2 := (unhide HR1).frozen 2
  have z3 := (unhide HR1).frozen 3
  simp at g1 g2 g3
  have hset : (((w1.setCell ⟨w.heap.size + 2, 1, none⟩ (.int .i64 s.x)).setCell ⟨w.heap.size + 2, 2, none⟩ (.int .i64 s.y)).setCell ⟨w.heap.size + 2, 3, none⟩ (.int .i64 s.c)) = setVals w1 (w.heap.size + 2) 1 [.int .i64 s.x, .int .i64 s.y, .int .i64 s.c] := rfl
  have HR2 : Hid ((((w1.setCell ⟨w.heap.size + 2, 1, none⟩ (.int .i64 s.x)).setCell ⟨w.heap.size + 2, 2, none⟩ (.int .i64 s.y)).setCell ⟨w.heap.size + 2, 3, none⟩ (.int .i64 s.c)).rowIs (w.heap.size + 2) 32 5 _) := hide (by rw [hset]; exact setVals_row [.int .i64 s.x, .int .i64 s.y, .int .i64 s.c] 1 w1 _ (unhide HR1))
  have HB2 : Hid (Below (w.heap.size + 2) W0 (((w1.setCell ⟨w.heap.size + 2, 1, none⟩ (.int .i64 s.x)).setCell ⟨w.heap.size + 2, 2, none⟩ (.int .i64 s.y)).setCell ⟨w.heap.size + 2, 3, none⟩ (.int .i64 s.c))) := hide (by rw [hset]; exact setVals_below [.int .i64 s.x, .int .i64 s.y, .int .i64 s.c] 1 w1 (unhide HB1) (Nat.le_refl _))
  clear hset
  go_upto_region 4 with fail
  clear g1 g2 g3 z1 z2 z3
  generalize (((w1.setCell ⟨w.heap.size + 2, 1, none⟩ (.int .i64 s.x)).setCell ⟨w.heap.size + 2, 2, none⟩ (.int .i64 s.y)).setCell ⟨w.heap.size + 2, 3, none⟩ (.int .i64 s.c)) = w2 at *
  clear HR1 HB1
  have hs2 : w.heap.size + 3 ≤ w2.heap.size := by have := (unhide HB2).size; rw [unhide HS0] at this; exact this
  have k4 := ((unhide HB2).cell (p := ⟨w.heap.size, 4, none⟩) (show w.heap.size < w.heap.size + 2 by omega)).trans ((unhide HA) 4 (by simp))
  simp at k4
  have hw2 : Below w.heap.size w w2 := (unhide HB00).trans ((unhide HB2).mono (by omega))
  go_wp2_with fail
  refine (toPastS_own _ ps w2 ((unhide H).on hw2) hlen (unhide HL)).mono ?_
  rintro e w3 ⟨v', rfl, hf3, hb3⟩
  obtain ⟨ua, uc, hus⟩ : ∃ a c, v' = .slice a ps.length c := by
    exact hf3.at.sliced2
  subst hus
  have HF3 := hide hf3
  have HR3 := hide ((unhide HR2).of_block (hb3.block (w.heap.size + 2) (by omega)))
  have HB3 : Hid (Below (w.heap.size + 2) W0 w3) := hide ((unhide HB2).trans (hb3.mono (by omega)))
  clear HR2 HB2 hb3 k4 hf3 hw2
  have g4 := (unhide HR3).cell (i := 4) (by omega)
  have z4 := (unhide HR3).frozen 4
  simp at g4
  have hset : (w3.setCell ⟨w.heap.size + 2, 4, none⟩ (.slice ua ps.length uc)) = setVals w3 (w.heap.size + 2) 4 [.slice ua ps.length uc] := rfl
  have HR4 : Hid ((w3.setCell ⟨w.heap.size + 2, 4, none⟩ (.slice ua ps.length uc)).rowIs (w.heap.size + 2) 32 5 _) := hide (by rw [hset]; exact setVals_row [.slice ua ps.length uc] 4 w3 _ (unhide HR3))
  have HB4 : Hid (Below (w.heap.size + 2) W0 (w3.setCell ⟨w.heap.size + 2, 4, none⟩ (.slice ua ps.length uc))) := hide (by rw [hset]; exact setVals_below [.slice ua ps.length uc] 4 w3 (unhide HB3) (Nat.le_refl _))
  have HF4 : Hid (PastsOwn (w.heap.size + 3) (w3.setCell ⟨w.heap.size + 2, 4, none⟩ (.slice ua ps.length uc)).heap.size (w3.setCell ⟨w.heap.size + 2, 4, none⟩ (.slice ua ps.length uc)) (.slice ua ps.length uc) ps) := hide (by rw [hset]; rw [setVals_size]; exact ((unhide HF3).wide hs2 (Nat.le_refl _)).setV (by omega) _)
  clear hset
  go_upto_region 5 with fail
  clear g4 z4
  generalize (w3.setCell ⟨w.heap.size + 2, 4, none⟩ (.slice ua ps.length uc)) = w4 at *
  clear HR3 HB3 HF3
  have HZ4 := hide ((unhide HZ).of_block ((unhide HB4).block (w.heap.size + 1) (by omega)))
  have hw4 : Below w.heap.size w w4 := (unhide HB00).trans ((unhide HB4).mono (by omega))
  have HW4 := hide hw4
  clear hw4
  have g0 := (unhide HR4).cell (i := 0) (by omega)
  have g1 := (unhide HR4).cell (i := 1) (by omega)
  have g2 := (unhide HR4).cell (i := 2) (by omega)
  have g3 := (unhide HR4).cell (i := 3) (by omega)
  have g4 := (unhide HR4).cell (i := 4) (by omega)
  have y0 := (unhide HZ4).cell (i := 0) (by omega)
  have y1 := (unhide HZ4).cell (i := 1) (by omega)
  have y2 := (unhide HZ4).cell (i := 2) (by omega)
  have y3 := (unhide HZ4).cell (i := 3) (by omega)
  have y4 := (unhide HZ4).cell (i := 4) (by omega)
  have x0 := (unhide HZ4).frozen 0
  have x1 := (unhide HZ4).frozen 1
  have x2 := (unhide HZ4).frozen 2
  have x3 := (unhide HZ4).frozen 3
  have x4 := (unhide HZ4).frozen 4
  simp at g0 g1 g2 g3 g4
  simp at y0 y1 y2 y3 y4
  go_wp2_with fail
  refine bodyPost_ret (v := laneAgg proc s (.slice ua ps.length uc)) (by simp [results, Try.results10, go_sem, y0, y1, y2, y3, y4]) rfl ⟨_, rfl, ?_, ?_⟩
  · exact ((unhide HF4).setV (r := w.heap.size + 1) (o := 0) (by omega) (laneCells proc s (.slice ua ps.length uc))).wide (by omega) (Nat.le_of_eq (setVals_size (laneCells proc s (.slice ua ps.length uc)) 0 w4).symm)
  · exact setVals_below (laneCells proc s (.slice ua ps.length uc)) 0 w4 (unhide HW4) (by omega)
end Go.Proofs.Ytjdaedcpjfcpjaa
