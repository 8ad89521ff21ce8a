/- toPast, toPastS, toLane: copies of what was done. -/
import Derived.Test.YtjdaedcpjfcpjaaPast2
import Derived.OneCell
namespace Go.Proofs.Ytjdaedcpjfcpjaa
open Go.RowKit
set_option linter.unusedVariables false
set_option linter.unusedSimpArgs false

def setVals (w : World) (b : Nat) : Nat → List Value → World
  | _, [] => w
  | o, x :: xs => setVals (w.setCell ⟨b, o, none⟩ x) b (o + 1) xs

theorem setVals_row {b t m : Nat} : ∀ (xs : List Value) (o : Nat) (w : World) (f : Nat → Value), w.rowIs b t m f → (setVals w b o xs).rowIs b t m (fun j => if o ≤ j ∧ j < o + xs.length then xs.getD (j - o) undef else f j)
  | [], o, w, f, h => h.congr (fun i _ => by
      show f i = if o ≤ i ∧ i < o + 0 then _ else f i
      rw [if_neg (by omega)])
  | x :: xs, o, w, f, h => (setVals_row xs (o + 1) _ _ (h.set o x)).congr (fun i _ => by
      show (if o + 1 ≤ i ∧ i < o + 1 + xs.length then xs.getD (i - (o + 1)) undef else if i = o then x else f i) = if o ≤ i ∧ i < o + (xs.length + 1) then (x :: xs).getD (i - o) undef else f i
      by_cases h1 : i = o
      · subst h1
        rw [if_neg (by omega), if_pos rfl, if_pos (by omega)]
        simp
      · rw [if_neg h1]
        by_cases h2 : o + 1 ≤ i ∧ i < o + 1 + xs.length
        · rw [if_pos h2, if_pos (by omega), show i - o = (i - (o + 1)) + 1 by omega]
          simp
        · rw [if_neg h2, if_neg (by omega)])

theorem setVals_below {b B : Nat} {a : World} : ∀ (xs : List Value) (o : Nat) (w : World), Below B a w → B ≤ b → Below B a (setVals w b o xs)
  | [], _, _, h, _ => h
  | x :: xs, o, w, h, hB => setVals_below xs (o + 1) _ (h.setCell hB _) hB
theorem setVals_other {b : Nat} : ∀ (xs : List Value) (o : Nat) (w : World) (k : Nat), k ≠ b → (setVals w b o xs).heap[k]? = w.heap[k]?
  | [], _, _, _, _ => rfl
  | x :: xs, o, w, k, h => (setVals_other xs (o + 1) _ k h).trans (Below.heap_setCell w ⟨b, o, none⟩ _ k h)

/-- A row of cells, its first ones as listed. -/
theorem rowIs_cells {w : World} {b t n : Nat} {f : Nat → Value} (h : w.rowIs b t n f) (cs : List Value) (hn : cs.length ≤ n) (hf : ∀ j (hj : j < cs.length), f j = cs[j]) : CellsAt w b 0 cs := fun j hj => by
  rw [Nat.zero_add, h.cell (by omega), hf j hj]

theorem PastFr.set {N r o : Nat} {w : World} {vs vo u : Value} {p : PastV} (h : PastFr N w vs vo p) (hr : r < N) : PastFr N (w.setCell ⟨r, o, none⟩ u) vs vo p :=
  ⟨h.s.block (fun g hg _ => Below.heap_setCell w ⟨r, o, none⟩ u g (by have := (h.s.blk g hg).1; simp; omega)), h.o.block (fun g hg _ => Below.heap_setCell w ⟨r, o, none⟩ u g (by have := (h.o.blk g hg).1; simp; omega))⟩
theorem PastFr.less {N M : Nat} {w : World} {vs vo : Value} {p : PastV} (hNM : M ≤ N) (h : PastFr N w vs vo p) : PastFr M w vs vo p := ⟨h.s.less hNM, h.o.less hNM⟩
theorem RowsFr.setV {N t n r o : Nat} {w : World} {v : Value} {rs : List (List Int)} (h : RowsFr N t n w v rs) (hr : r < N) (xs : List Value) : RowsFr N t n (setVals w r o xs) v rs :=
  h.block (fun g hg _ => setVals_other xs o w g (by have := (h.blk g hg).1; omega))

theorem RowsFr_sliced {N t n : Nat} {w : World} {v : Value} {rs : List (List Int)} (h : RowsFr N t n w v rs) : ∃ a c, v = .slice a rs.length c := by
  rcases h with ⟨h1, rfl⟩ | ⟨g, cap, _, h1, _⟩
  · exact ⟨none, 0, h1⟩
  · exact ⟨_, _, h1⟩

set_option maxRecDepth 100000 in
set_option maxHeartbeats 2000000 in
theorem toPast_any (p : PastV) (vs vo : Value) (w : World) (h : PastAt w vs vo p) (hl1 : p.sends.length ≤ 1048576) (hl2 : p.outs.length ≤ 1048576) :
    Calls Try.prog 73 #[pastAgg p vs vo] w fun e w' => ∃ us uo, e = .returned (pastAgg p us uo) ∧ PastFr (w.heap.size + 1) w' us uo p ∧ Below w.heap.size w w' := by
  have H := hide h
  obtain ⟨a1, c1, e1, _⟩ := h.s
  obtain ⟨a2, c2, e2, _⟩ := h.o
  rw [List.length_map] at e1 e2
  subst e1 e2
  clear h
  have hb0 : Below w.heap.size w (((w.alloc (.cells #[.int .i64 p.ev.time, .int .i64 p.ev.to, .int .i64 p.ev.src, .int .i64 p.ev.count, .int .i64 p.ev.n, .int .i64 p.ev.kind, .int .i64 p.ev.arg, .int .i64 p.st.x, .int .i64 p.st.y, .int .i64 p.st.c, .slice a1 p.sends.length c1, .slice a2 p.outs.length c2] 96)).alloc (.cells #[.int .i64 0, .int .i64 0, .int .i64 0, .int .i64 0, .int .i64 0, .int .i64 0, .int .i64 0, .int .i64 0, .int .i64 0, .int .i64 0, .slice none 0 0, .slice none 0 0] 65)).alloc (.cells #[.int .i64 0, .int .i64 0, .int .i64 0, .int .i64 0, .int .i64 0, .int .i64 0, .int .i64 0, .int .i64 0, .int .i64 0, .int .i64 0, .slice none 0 0, .slice none 0 0] 65)) := (((Below.refl _ _).alloc (Nat.le_refl _) _).alloc (by simp) _).alloc (by simp; omega) _
  have cA : CellsAt (((w.alloc (.cells #[.int .i64 p.ev.time, .int .i64 p.ev.to, .int .i64 p.ev.src, .int .i64 p.ev.count, .int .i64 p.ev.n, .int .i64 p.ev.kind, .int .i64 p.ev.arg, .int .i64 p.st.x, .int .i64 p.st.y, .int .i64 p.st.c, .slice a1 p.sends.length c1, .slice a2 p.outs.length c2] 96)).alloc (.cells #[.int .i64 0, .int .i64 0, .int .i64 0, .int .i64 0, .int .i64 0, .int .i64 0, .int .i64 0, .int .i64 0, .int .i64 0, .int .i64 0, .slice none 0 0, .slice none 0 0] 65)).alloc (.cells #[.int .i64 0, .int .i64 0, .int .i64 0, .int .i64 0, .int .i64 0, .int .i64 0, .int .i64 0, .int .i64 0, .int .i64 0, .int .i64 0, .slice none 0 0, .slice none 0 0] 65)) w.heap.size 0 (pastCells p (.slice a1 p.sends.length c1) (.slice a2 p.outs.length c2)) := fun j hj => by
    match j, hj with
    | 0, _ => simp [go_sem]
    | 1, _ => simp [go_sem]
    | 2, _ => simp [go_sem]
    | 3, _ => simp [go_sem]
    | 4, _ => simp [go_sem]
    | 5, _ => simp [go_sem]
    | 6, _ => simp [go_sem]
    | 7, _ => simp [go_sem]
    | 8, _ => simp [go_sem]
    | 9, _ => simp [go_sem]
    | 10, _ => simp [go_sem]
    | 11, _ => simp [go_sem]
  have r2 : (((w.alloc (.cells #[.int .i64 p.ev.time, .int .i64 p.ev.to, .int .i64 p.ev.src, .int .i64 p.ev.count, .int .i64 p.ev.n, .int .i64 p.ev.kind, .int .i64 p.ev.arg, .int .i64 p.st.x, .int .i64 p.st.y, .int .i64 p.st.c, .slice a1 p.sends.length c1, .slice a2 p.outs.length c2] 96)).alloc (.cells #[.int .i64 0, .int .i64 0, .int .i64 0, .int .i64 0, .int .i64 0, .int .i64 0, .int .i64 0, .int .i64 0, .int .i64 0, .int .i64 0, .slice none 0 0, .slice none 0 0] 65)).alloc (.cells #[.int .i64 0, .int .i64 0, .int .i64 0, .int .i64 0, .int .i64 0, .int .i64 0, .int .i64 0, .int .i64 0, .int .i64 0, .int .i64 0, .slice none 0 0, .slice none 0 0] 65)).rowIs (w.heap.size + 1) 65 12 (fun j => if j < 10 then .int .i64 0 else .slice none 0 0) := by
    have e := World.rowIs_alloc (w.alloc (.cells #[.int .i64 p.ev.time, .int .i64 p.ev.to, .int .i64 p.ev.src, .int .i64 p.ev.count, .int .i64 p.ev.n, .int .i64 p.ev.kind, .int .i64 p.ev.arg, .int .i64 p.st.x, .int .i64 p.st.y, .int .i64 p.st.c, .slice a1 p.sends.length c1, .slice a2 p.outs.length c2] 96)) #[.int .i64 0, .int .i64 0, .int .i64 0, .int .i64 0, .int .i64 0, .int .i64 0, .int .i64 0, .int .i64 0, .int .i64 0, .int .i64 0, .slice none 0 0, .slice none 0 0] 65 (fun j => if j < 10 then .int .i64 0 else .slice none 0 0) (fun j hj => by
      match j, hj with
      | 0, _ => simp
      | 1, _ => simp
      | 2, _ => simp
      | 3, _ => simp
      | 4, _ => simp
      | 5, _ => simp
      | 6, _ => simp
      | 7, _ => simp
      | 8, _ => simp
      | 9, _ => simp
      | 10, _ => simp
      | 11, _ => simp)
    have hs1 : (w.alloc (.cells #[.int .i64 p.ev.time, .int .i64 p.ev.to, .int .i64 p.ev.src, .int .i64 p.ev.count, .int .i64 p.ev.n, .int .i64 p.ev.kind, .int .i64 p.ev.arg, .int .i64 p.st.x, .int .i64 p.st.y, .int .i64 p.st.c, .slice a1 p.sends.length c1, .slice a2 p.outs.length c2] 96)).heap.size = w.heap.size + 1 := by simp
    rw [hs1] at e
    exact e.of_block (((Below.refl _ _).alloc (Nat.le_refl _) _).block (w.heap.size + 1) (by simp))
  have r3 : (((w.alloc (.cells #[.int .i64 p.ev.time, .int .i64 p.ev.to, .int .i64 p.ev.src, .int .i64 p.ev.count, .int .i64 p.ev.n, .int .i64 p.ev.kind, .int .i64 p.ev.arg, .int .i64 p.st.x, .int .i64 p.st.y, .int .i64 p.st.c, .slice a1 p.sends.length c1, .slice a2 p.outs.length c2] 96)).alloc (.cells #[.int .i64 0, .int .i64 0, .int .i64 0, .int .i64 0, .int .i64 0, .int .i64 0, .int .i64 0, .int .i64 0, .int .i64 0, .int .i64 0, .slice none 0 0, .slice none 0 0] 65)).alloc (.cells #[.int .i64 0, .int .i64 0, .int .i64 0, .int .i64 0, .int .i64 0, .int .i64 0, .int .i64 0, .int .i64 0, .int .i64 0, .int .i64 0, .slice none 0 0, .slice none 0 0] 65)).rowIs (w.heap.size + 2) 65 12 (fun j => if j < 10 then .int .i64 0 else .slice none 0 0) := by
    have e := World.rowIs_alloc ((w.alloc (.cells #[.int .i64 p.ev.time, .int .i64 p.ev.to, .int .i64 p.ev.src, .int .i64 p.ev.count, .int .i64 p.ev.n, .int .i64 p.ev.kind, .int .i64 p.ev.arg, .int .i64 p.st.x, .int .i64 p.st.y, .int .i64 p.st.c, .slice a1 p.sends.length c1, .slice a2 p.outs.length c2] 96)).alloc (.cells #[.int .i64 0, .int .i64 0, .int .i64 0, .int .i64 0, .int .i64 0, .int .i64 0, .int .i64 0, .int .i64 0, .int .i64 0, .int .i64 0, .slice none 0 0, .slice none 0 0] 65)) #[.int .i64 0, .int .i64 0, .int .i64 0, .int .i64 0, .int .i64 0, .int .i64 0, .int .i64 0, .int .i64 0, .int .i64 0, .int .i64 0, .slice none 0 0, .slice none 0 0] 65 (fun j => if j < 10 then .int .i64 0 else .slice none 0 0) (fun j hj => by
      match j, hj with
      | 0, _ => simp
      | 1, _ => simp
      | 2, _ => simp
      | 3, _ => simp
      | 4, _ => simp
      | 5, _ => simp
      | 6, _ => simp
      | 7, _ => simp
      | 8, _ => simp
      | 9, _ => simp
      | 10, _ => simp
      | 11, _ => simp)
    have hs1 : ((w.alloc (.cells #[.int .i64 p.ev.time, .int .i64 p.ev.to, .int .i64 p.ev.src, .int .i64 p.ev.count, .int .i64 p.ev.n, .int .i64 p.ev.kind, .int .i64 p.ev.arg, .int .i64 p.st.x, .int .i64 p.st.y, .int .i64 p.st.c, .slice a1 p.sends.length c1, .slice a2 p.outs.length c2] 96)).alloc (.cells #[.int .i64 0, .int .i64 0, .int .i64 0, .int .i64 0, .int .i64 0, .int .i64 0, .int .i64 0, .int .i64 0, .int .i64 0, .int .i64 0, .slice none 0 0, .slice none 0 0] 65)).heap.size = w.heap.size + 2 := by simp
    rw [hs1] at e
    exact e
  have hs0 : (((w.alloc (.cells #[.int .i64 p.ev.time, .int .i64 p.ev.to, .int .i64 p.ev.src, .int .i64 p.ev.count, .int .i64 p.ev.n, .int .i64 p.ev.kind, .int .i64 p.ev.arg, .int .i64 p.st.x, .int .i64 p.st.y, .int .i64 p.st.c, .slice a1 p.sends.length c1, .slice a2 p.outs.length c2] 96)).alloc (.cells #[.int .i64 0, .int .i64 0, .int .i64 0, .int .i64 0, .int .i64 0, .int .i64 0, .int .i64 0, .int .i64 0, .int .i64 0, .int .i64 0, .slice none 0 0, .slice none 0 0] 65)).alloc (.cells #[.int .i64 0, .int .i64 0, .int .i64 0, .int .i64 0, .int .i64 0, .int .i64 0, .int .i64 0, .int .i64 0, .int .i64 0, .int .i64 0, .slice none 0 0, .slice none 0 0] 65)).heap.size = w.heap.size + 3 := by simp
  have HB00 := hide hb0
  have HA := hide cA
  have HZ := hide r2
  have HR0 := hide r3
  have HS0 := hide hs0
  clear hb0 cA r2 r3 hs0
  go_enter Try.func73, Try.ntmps73
  go_upto_region 2 with fail
  generalize (((w.alloc (.cells #[.int .i64 p.ev.time, .int .i64 p.ev.to, .int .i64 p.ev.src, .int .i64 p.ev.count, .int .i64 p.ev.n, .int .i64 p.ev.kind, .int .i64 p.ev.arg, .int .i64 p.st.x, .int .i64 p.st.y, .int .i64 p.st.c, .slice a1 p.sends.length c1, .slice a2 p.outs.length c2] 96)).alloc (.cells #[.int .i64 0, .int .i64 0, .int .i64 0, .int .i64 0, .int .i64 0, .int .i64 0, .int .i64 0, .int .i64 0, .int .i64 0, .int .i64 0, .slice none 0 0, .slice none 0 0] 65)).alloc (.cells #[.int .i64 0, .int .i64 0, .int .i64 0, .int .i64 0, .int .i64 0, .int .i64 0, .int .i64 0, .int .i64 0, .int .i64 0, .int .i64 0, .slice none 0 0, .slice none 0 0] 65)) = W0 at *
  have k0 : W0.cell? ⟨w.heap.size, 0, none⟩ = some (.int .i64 p.ev.time) := (unhide HA) 0 (by simp)
  have k1 : W0.cell? ⟨w.heap.size, 1, none⟩ = some (.int .i64 p.ev.to) := (unhide HA) 1 (by simp)
  have k2 : W0.cell? ⟨w.heap.size, 2, none⟩ = some (.int .i64 p.ev.src) := (unhide HA) 2 (by simp)
  have k3 : W0.cell? ⟨w.heap.size, 3, none⟩ = some (.int .i64 p.ev.count) := (unhide HA) 3 (by simp)
  have k4 : W0.cell? ⟨w.heap.size, 4, none⟩ = some (.int .i64 p.ev.n) := (unhide HA) 4 (by simp)
  have k5 : W0.cell? ⟨w.heap.size, 5, none⟩ = some (.int .i64 p.ev.kind) := (unhide HA) 5 (by simp)
  have k6 : W0.cell? ⟨w.heap.size, 6, none⟩ = some (.int .i64 p.ev.arg) := (unhide HA) 6 (by simp)
  have k7 : W0.cell? ⟨w.heap.size, 7, none⟩ = some (.int .i64 p.st.x) := (unhide HA) 7 (by simp)
  have k8 : W0.cell? ⟨w.heap.size, 8, none⟩ = some (.int .i64 p.st.y) := (unhide HA) 8 (by simp)
  have k9 : W0.cell? ⟨w.heap.size, 9, none⟩ = some (.int .i64 p.st.c) := (unhide HA) 9 (by simp)
  have k10 : W0.cell? ⟨w.heap.size, 10, none⟩ = some (.slice a1 p.sends.length c1) := (unhide HA) 10 (by simp)
  have k11 : W0.cell? ⟨w.heap.size, 11, none⟩ = some (.slice a2 p.outs.length c2) := (unhide HA) 11 (by simp)
  go_wp2_with fail
  refine (toEvent_any _ _ _ _ _ _ _ _).mono ?_
  rintro e w1 ⟨rfl, hb1⟩
  have hs1 : w.heap.size + 3 ≤ w1.heap.size := by have := hb1.size; rw [unhide HS0] at this; exact this
  have HR1 := hide ((unhide HR0).of_block (hb1.block (w.heap.size + 2) (by have := unhide HS0; omega)))
  have HB1 : Hid (Below (w.heap.size + 2) W0 w1) := hide (hb1.mono (by have := unhide HS0; omega))
  clear HR0 hb1
  clear k0 k1 k2 k3 k4 k5 k6 k7 k8 k9 k10 k11
  have g0 := (unhide HR1).cell (i := 0) (by omega)
  have z0 := (unhide HR1).frozen 0
  have g1 := (unhide HR1).cell (i := 1) (by omega)
  have z1 := (unhide HR1).frozen 1
  have g2 := (unhide HR1).cell (i := 2) (by omega)
  have z2 := (unhide HR1).frozen 2
  have g3 := (unhide HR1).cell (i := 3) (by omega)
  have z3 := (unhide HR1).frozen 3
  have g4 := (unhide HR1).cell (i := 4) (by omega)
  have z4 := (unhide HR1).frozen 4
  have g5 := (unhide HR1).cell (i := 5) (by omega)
  have z5 := (unhide HR1).frozen 5
  have g6 := (unhide HR1).cell (i := 6) (by omega)
  have z6 := (unhide HR1).frozen 6
  have hset : (((((((w1.setCell ⟨w.heap.size + 2, 0, none⟩ (.int .i64 p.ev.time)).setCell ⟨w.heap.size + 2, 1, none⟩ (.int .i64 p.ev.to)).setCell ⟨w.heap.size + 2, 2, none⟩ (.int .i64 p.ev.src)).setCell ⟨w.heap.size + 2, 3, none⟩ (.int .i64 p.ev.count)).setCell ⟨w.heap.size + 2, 4, none⟩ (.int .i64 p.ev.n)).setCell ⟨w.heap.size + 2, 5, none⟩ (.int .i64 p.ev.kind)).setCell ⟨w.heap.size + 2, 6, none⟩ (.int .i64 p.ev.arg)) = setVals w1 (w.heap.size + 2) 0 [.int .i64 p.ev.time, .int .i64 p.ev.to, .int .i64 p.ev.src, .int .i64 p.ev.count, .int .i64 p.ev.n, .int .i64 p.ev.kind, .int .i64 p.ev.arg] := rfl
  have HR2 : Hid ((((((((w1.setCell ⟨w.heap.size + 2, 0, none⟩ (.int .i64 p.ev.time)).setCell ⟨w.heap.size + 2, 1, none⟩ (.int .i64 p.ev.to)).setCell ⟨w.heap.size + 2, 2, none⟩ (.int .i64 p.ev.src)).setCell ⟨w.heap.size + 2, 3, none⟩ (.int .i64 p.ev.count)).setCell ⟨w.heap.size + 2, 4, none⟩ (.int .i64 p.ev.n)).setCell ⟨w.heap.size + 2, 5, none⟩ (.int .i64 p.ev.kind)).setCell ⟨w.heap.size + 2, 6, none⟩ (.int .i64 p.ev.arg)).rowIs (w.heap.size + 2) 65 12 _) := hide (by rw [hset]; exact setVals_row [.int .i64 p.ev.time, .int .i64 p.ev.to, .int .i64 p.ev.src, .int .i64 p.ev.count, .int .i64 p.ev.n, .int .i64 p.ev.kind, .int .i64 p.ev.arg] 0 w1 _ (unhide HR1))
  have HB2 : Hid (Below (w.heap.size + 2) W0 (((((((w1.setCell ⟨w.heap.size + 2, 0, none⟩ (.int .i64 p.ev.time)).setCell ⟨w.heap.size + 2, 1, none⟩ (.int .i64 p.ev.to)).setCell ⟨w.heap.size + 2, 2, none⟩ (.int .i64 p.ev.src)).setCell ⟨w.heap.size + 2, 3, none⟩ (.int .i64 p.ev.count)).setCell ⟨w.heap.size + 2, 4, none⟩ (.int .i64 p.ev.n)).setCell ⟨w.heap.size + 2, 5, none⟩ (.int .i64 p.ev.kind)).setCell ⟨w.heap.size + 2, 6, none⟩ (.int .i64 p.ev.arg))) := hide (by rw [hset]; exact setVals_below [.int .i64 p.ev.time, .int .i64 p.ev.to, .int .i64 p.ev.src, .int .i64 p.ev.count, .int .i64 p.ev.n, .int .i64 p.ev.kind, .int .i64 p.ev.arg] 0 w1 (unhide HB1) (Nat.le_refl _))
  clear hset
  go_upto_region 3 with fail
  clear g0 z0 g1 z1 g2 z2 g3 z3 g4 z4 g5 z5 g6 z6
  generalize (((((((w1.setCell ⟨w.heap.size + 2, 0, none⟩ (.int .i64 p.ev.time)).setCell ⟨w.heap.size + 2, 1, none⟩ (.int .i64 p.ev.to)).setCell ⟨w.heap.size + 2, 2, none⟩ (.int .i64 p.ev.src)).setCell ⟨w.heap.size + 2, 3, none⟩ (.int .i64 p.ev.count)).setCell ⟨w.heap.size + 2, 4, none⟩ (.int .i64 p.ev.n)).setCell ⟨w.heap.size + 2, 5, none⟩ (.int .i64 p.ev.kind)).setCell ⟨w.heap.size + 2, 6, none⟩ (.int .i64 p.ev.arg)) = w2 at *
  have hs2 : w.heap.size + 3 ≤ w2.heap.size := by have := (unhide HB2).size; rw [unhide HS0] at this; exact this
  have k7 := ((unhide HB2).cell (p := ⟨w.heap.size, 7, none⟩) (show w.heap.size < w.heap.size + 2 by omega)).trans ((unhide HA) 7 (by simp))
  have k8 := ((unhide HB2).cell (p := ⟨w.heap.size, 8, none⟩) (show w.heap.size < w.heap.size + 2 by omega)).trans ((unhide HA) 8 (by simp))
  have k9 := ((unhide HB2).cell (p := ⟨w.heap.size, 9, none⟩) (show w.heap.size < w.heap.size + 2 by omega)).trans ((unhide HA) 9 (by simp))
  simp at k7 k8 k9
  clear HR1 HB1
  go_wp2_with fail
  refine (toState_any _ _ _ _).mono ?_
  rintro e w3 ⟨rfl, hb3⟩
  have HR3 := hide ((unhide HR2).of_block (hb3.block (w.heap.size + 2) (by omega)))
  have HB3 : Hid (Below (w.heap.size + 2) W0 w3) := hide ((unhide HB2).trans (hb3.mono (by omega)))
  clear HR2 HB2 hb3 k7 k8 k9
  have g7 := (unhide HR3).cell (i := 7) (by omega)
  have z7 := (unhide HR3).frozen 7
  have g8 := (unhide HR3).cell (i := 8) (by omega)
  have z8 := (unhide HR3).frozen 8
  have g9 := (unhide HR3).cell (i := 9) (by omega)
  have z9 := (unhide HR3).frozen 9
  have hset : (((w3.setCell ⟨w.heap.size + 2, 7, none⟩ (.int .i64 p.st.x)).setCell ⟨w.heap.size + 2, 8, none⟩ (.int .i64 p.st.y)).setCell ⟨w.heap.size + 2, 9, none⟩ (.int .i64 p.st.c)) = setVals w3 (w.heap.size + 2) 7 [.int .i64 p.st.x, .int .i64 p.st.y, .int .i64 p.st.c] := rfl
  have HR4 : Hid ((((w3.setCell ⟨w.heap.size + 2, 7, none⟩ (.int .i64 p.st.x)).setCell ⟨w.heap.size + 2, 8, none⟩ (.int .i64 p.st.y)).setCell ⟨w.heap.size + 2, 9, none⟩ (.int .i64 p.st.c)).rowIs (w.heap.size + 2) 65 12 _) := hide (by rw [hset]; exact setVals_row [.int .i64 p.st.x, .int .i64 p.st.y, .int .i64 p.st.c] 7 w3 _ (unhide HR3))
  have HB4 : Hid (Below (w.heap.size + 2) W0 (((w3.setCell ⟨w.heap.size + 2, 7, none⟩ (.int .i64 p.st.x)).setCell ⟨w.heap.size + 2, 8, none⟩ (.int .i64 p.st.y)).setCell ⟨w.heap.size + 2, 9, none⟩ (.int .i64 p.st.c))) := hide (by rw [hset]; exact setVals_below [.int .i64 p.st.x, .int .i64 p.st.y, .int .i64 p.st.c] 7 w3 (unhide HB3) (Nat.le_refl _))
  clear hset
  simp at g7 g8 g9
  go_upto_region 4 with fail
  clear g7 z7 g8 z8 g9 z9
  generalize (((w3.setCell ⟨w.heap.size + 2, 7, none⟩ (.int .i64 p.st.x)).setCell ⟨w.heap.size + 2, 8, none⟩ (.int .i64 p.st.y)).setCell ⟨w.heap.size + 2, 9, none⟩ (.int .i64 p.st.c)) = w4 at *
  clear HR3 HB3
  have hs4 : w.heap.size + 3 ≤ w4.heap.size := by have := (unhide HB4).size; rw [unhide HS0] at this; exact this
  have k10 := ((unhide HB4).cell (p := ⟨w.heap.size, 10, none⟩) (show w.heap.size < w.heap.size + 2 by omega)).trans ((unhide HA) 10 (by simp))
  simp at k10
  have hw4 : Below w.heap.size w w4 := (unhide HB00).trans ((unhide HB4).mono (by omega))
  go_wp2_with fail
  refine (toEventS_any _ _ w4 ((unhide H).s.on hw4) (by rw [List.length_map]; exact hl1)).mono ?_
  rintro e w5 ⟨us, rfl, hu5, hb5⟩
  obtain ⟨ua, uc, hus⟩ := RowsFr_sliced hu5
  rw [List.length_map] at hus
  subst hus
  have HU5 := hide (hu5.less (show w.heap.size + 3 ≤ w4.heap.size from hs4))
  have HR5 := hide ((unhide HR4).of_block (hb5.block (w.heap.size + 2) (by omega)))
  have HB5 : Hid (Below (w.heap.size + 2) W0 w5) := hide ((unhide HB4).trans (hb5.mono (by omega)))
  clear HR4 HB4 hb5 k10 hu5 hw4
  have g10 := (unhide HR5).cell (i := 10) (by omega)
  have z10 := (unhide HR5).frozen 10
  have hset : (w5.setCell ⟨w.heap.size + 2, 10, none⟩ (.slice ua p.sends.length uc)) = setVals w5 (w.heap.size + 2) 10 [.slice ua p.sends.length uc] := rfl
  have HR6 : Hid ((w5.setCell ⟨w.heap.size + 2, 10, none⟩ (.slice ua p.sends.length uc)).rowIs (w.heap.size + 2) 65 12 _) := hide (by rw [hset]; exact setVals_row [.slice ua p.sends.length uc] 10 w5 _ (unhide HR5))
  have HB6 : Hid (Below (w.heap.size + 2) W0 (w5.setCell ⟨w.heap.size + 2, 10, none⟩ (.slice ua p.sends.length uc))) := hide (by rw [hset]; exact setVals_below [.slice ua p.sends.length uc] 10 w5 (unhide HB5) (Nat.le_refl _))
  have HU6 : Hid (RowsFr (w.heap.size + 3) 41 7 (w5.setCell ⟨w.heap.size + 2, 10, none⟩ (.slice ua p.sends.length uc)) (.slice ua p.sends.length uc) (p.sends.map evRow)) := hide (by rw [hset]; exact (unhide HU5).setV (by omega) _)
  clear hset
  simp at g10
  go_upto_region 5 with fail
  clear g10 z10
  generalize (w5.setCell ⟨w.heap.size + 2, 10, none⟩ (.slice ua p.sends.length uc)) = w6 at *
  clear HR5 HB5 HU5
  have hs6 : w.heap.size + 3 ≤ w6.heap.size := by have := (unhide HB6).size; rw [unhide HS0] at this; exact this
  have k11 := ((unhide HB6).cell (p := ⟨w.heap.size, 11, none⟩) (show w.heap.size < w.heap.size + 2 by omega)).trans ((unhide HA) 11 (by simp))
  simp at k11
  have hw6 : Below w.heap.size w w6 := (unhide HB00).trans ((unhide HB6).mono (by omega))
  go_wp2_with fail
  refine (toOutS_any _ _ w6 ((unhide H).o.on hw6) (by rw [List.length_map]; exact hl2)).mono ?_
  rintro e w7 ⟨uo, rfl, ho7, hb7⟩
  obtain ⟨oa, oc, huo⟩ := RowsFr_sliced ho7
  rw [List.length_map] at huo
  subst huo
  have HO7 := hide (ho7.less (show w.heap.size + 3 ≤ w6.heap.size from hs6))
  have HU7 := hide ((unhide HU6).on hb7)
  have HR7 := hide ((unhide HR6).of_block (hb7.block (w.heap.size + 2) (by omega)))
  have HB7 : Hid (Below (w.heap.size + 2) W0 w7) := hide ((unhide HB6).trans (hb7.mono (by omega)))
  clear HR6 HB6 hb7 k11 ho7 HU6 hw6
  have g11 := (unhide HR7).cell (i := 11) (by omega)
  have z11 := (unhide HR7).frozen 11
  have hset : (w7.setCell ⟨w.heap.size + 2, 11, none⟩ (.slice oa p.outs.length oc)) = setVals w7 (w.heap.size + 2) 11 [.slice oa p.outs.length oc] := rfl
  have HR8 : Hid ((w7.setCell ⟨w.heap.size + 2, 11, none⟩ (.slice oa p.outs.length oc)).rowIs (w.heap.size + 2) 65 12 _) := hide (by rw [hset]; exact setVals_row [.slice oa p.outs.length oc] 11 w7 _ (unhide HR7))
  have HB8 : Hid (Below (w.heap.size + 2) W0 (w7.setCell ⟨w.heap.size + 2, 11, none⟩ (.slice oa p.outs.length oc))) := hide (by rw [hset]; exact setVals_below [.slice oa p.outs.length oc] 11 w7 (unhide HB7) (Nat.le_refl _))
  have HU8 : Hid (RowsFr (w.heap.size + 3) 41 7 (w7.setCell ⟨w.heap.size + 2, 11, none⟩ (.slice oa p.outs.length oc)) (.slice ua p.sends.length uc) (p.sends.map evRow)) := hide (by rw [hset]; exact (unhide HU7).setV (by omega) _)
  have HO8 : Hid (RowsFr (w.heap.size + 3) 92 5 (w7.setCell ⟨w.heap.size + 2, 11, none⟩ (.slice oa p.outs.length oc)) (.slice oa p.outs.length oc) (p.outs.map outRow)) := hide (by rw [hset]; exact (unhide HO7).setV (by omega) _)
  clear hset
  simp at g11
  go_upto_region 6 with fail
  clear g11 z11
  generalize (w7.setCell ⟨w.heap.size + 2, 11, none⟩ (.slice oa p.outs.length oc)) = w8 at *
  clear HR7 HB7 HU7 HO7
  have HZ8 := hide ((unhide HZ).of_block ((unhide HB8).block (w.heap.size + 1) (by omega)))
  have g0 := (unhide HR8).cell (i := 0) (by omega)
  have g1 := (unhide HR8).cell (i := 1) (by omega)
  have g2 := (unhide HR8).cell (i := 2) (by omega)
  have g3 := (unhide HR8).cell (i := 3) (by omega)
  have g4 := (unhide HR8).cell (i := 4) (by omega)
  have g5 := (unhide HR8).cell (i := 5) (by omega)
  have g6 := (unhide HR8).cell (i := 6) (by omega)
  have g7 := (unhide HR8).cell (i := 7) (by omega)
  have g8 := (unhide HR8).cell (i := 8) (by omega)
  have g9 := (unhide HR8).cell (i := 9) (by omega)
  have g10 := (unhide HR8).cell (i := 10) (by omega)
  have g11 := (unhide HR8).cell (i := 11) (by omega)
  have y0 := (unhide HZ8).cell (i := 0) (by omega)
  have x0 := (unhide HZ8).frozen 0
  have y1 := (unhide HZ8).cell (i := 1) (by omega)
  have x1 := (unhide HZ8).frozen 1
  have y2 := (unhide HZ8).cell (i := 2) (by omega)
  have x2 := (unhide HZ8).frozen 2
  have y3 := (unhide HZ8).cell (i := 3) (by omega)
  have x3 := (unhide HZ8).frozen 3
  have y4 := (unhide HZ8).cell (i := 4) (by omega)
  have x4 := (unhide HZ8).frozen 4
  have y5 := (unhide HZ8).cell (i := 5) (by omega)
  have x5 := (unhide HZ8).frozen 5
  have y6 := (unhide HZ8).cell (i := 6) (by omega)
  have x6 := (unhide HZ8).frozen 6
  have y7 := (unhide HZ8).cell (i := 7) (by omega)
  have x7 := (unhide HZ8).frozen 7
  have y8 := (unhide HZ8).cell (i := 8) (by omega)
  have x8 := (unhide HZ8).frozen 8
  have y9 := (unhide HZ8).cell (i := 9) (by omega)
  have x9 := (unhide HZ8).frozen 9
  have y10 := (unhide HZ8).cell (i := 10) (by omega)
  have x10 := (unhide HZ8).frozen 10
  have y11 := (unhide HZ8).cell (i := 11) (by omega)
  have x11 := (unhide HZ8).frozen 11
  simp at g0 g1 g2 g3 g4 g5 g6 g7 g8 g9 g10 g11
  simp at y0 y1 y2 y3 y4 y5 y6 y7 y8 y9 y10 y11
  have hw8 : Below w.heap.size w w8 := (unhide HB00).trans ((unhide HB8).mono (by omega))
  have HW8 := hide hw8
  clear hw8
  go_wp2_with fail
  refine bodyPost_ret (v := pastAgg p (.slice ua p.sends.length uc) (.slice oa p.outs.length oc)) (by simp [results, Try.results73, go_sem, y0, y1, y2, y3, y4, y5, y6, y7, y8, y9, y10, y11]) rfl ⟨_, _, rfl, ⟨?_, ?_⟩, ?_⟩
  · exact ((unhide HU8).setV (r := w.heap.size + 1) (o := 0) (by omega) (pastCells p (.slice ua p.sends.length uc) (.slice oa p.outs.length oc))).less (by omega)
  · exact ((unhide HO8).setV (r := w.heap.size + 1) (o := 0) (by omega) (pastCells p (.slice ua p.sends.length uc) (.slice oa p.outs.length oc))).less (by omega)
  · exact setVals_below (pastCells p (.slice ua p.sends.length uc) (.slice oa p.outs.length oc)) 0 w8 (unhide HW8) (by omega)
end Go.Proofs.Ytjdaedcpjfcpjaa
