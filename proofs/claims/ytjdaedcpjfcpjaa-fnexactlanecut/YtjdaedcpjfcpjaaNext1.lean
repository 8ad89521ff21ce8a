/- impl.LaneNext, spec.LaneNext. -/
import Derived.Test.YtjdaedcpjfcpjaaPart1
import Derived.Test.YtjdaedcpjfcpjaaPast3
import Derived.BigRegion
import Derived.Deep.Cut
namespace Go.Proofs.Ytjdaedcpjfcpjaa
open Go.RowKit
set_option linter.unusedVariables false
set_option linter.unusedSimpArgs false

abbrev zeroE : EvV := ⟨0, 0, 0, 0, 0, 0, 0⟩

theorem same_exists : ∀ (ps : List PastV) (es : List EvV), ∃ n, Same ps es n
  | [], es => ⟨0, Nat.zero_le _, Nat.zero_le _, fun i h => absurd h (Nat.not_lt_zero _), fun h => absurd h (Nat.not_lt_zero _)⟩
  | p :: ps, [] => ⟨0, Nat.zero_le _, Nat.zero_le _, fun i _ h => absurd h (Nat.not_lt_zero _), fun _ h => absurd h (Nat.not_lt_zero _)⟩
  | p :: ps, e :: es => by
    by_cases he : p.ev = e
    · obtain ⟨n, hn⟩ := same_exists ps es
      refine ⟨n + 1, by have := hn.hp; simp; omega, by have := hn.he; simp; omega, fun i h h' hi => ?_, fun h h' => ?_⟩
      · cases i with
        | zero => exact he
        | succ i => exact hn.agree i (by simpa using h) (by simpa using h') (by omega)
      · exact hn.stop (by simpa using h) (by simpa using h')
    · exact ⟨0, Nat.zero_le _, Nat.zero_le _, fun i _ _ hi => absurd hi (Nat.not_lt_zero _), fun _ _ => he⟩

def nextOf (ps : List PastV) (es : List EvV) (n : Nat) : EvV × Bool :=
  if n = ps.length then (match es[n]? with | some x => (x, true) | none => (zeroE, false)) else (zeroE, false)
def laneNext (proc : Int) (s : StV) (ps : List PastV) (es : List EvV) (n : Nat) : EvV × Bool :=
  if laneOk proc s ps = true ∧ cameOk proc es = true then nextOf ps es n else (zeroE, false)

/-- What the look leaves in its two variables. -/
structure Seen (w : World) (r1 r2 : Nat) (x : EvV) (ok : Bool) : Prop where
  a : w.rowIs r1 41 7 (fun i => (evCells x).getD i undef)
  b : w.rowIs r2 4 1 (fun i => [Value.bool ok].getD i undef)

theorem Seen.on {w w' : World} {r1 r2 : Nat} {x : EvV} {ok : Bool} (hb : Below w.heap.size w w') (h : Seen w r1 r2 x ok) : Seen w' r1 r2 x ok :=
  ⟨h.a.of_block (hb.block _ h.a.lt), h.b.of_block (hb.block _ h.b.lt)⟩

theorem Seen.put {w : World} {r1 r2 : Nat} {x y : EvV} {ok : Bool} (hne : r1 ≠ r2) (h : Seen w r1 r2 x ok) : Seen ((setVals w r1 0 (evCells y)).setCell ⟨r2, 0, none⟩ (.bool true)) r1 r2 y true := by
  constructor
  · refine (((setVals_row (evCells y) 0 w _ h.a).of_block (Below.heap_setCell _ ⟨r2, 0, none⟩ _ r1 (by simpa using hne)))).congr (fun i hi => ?_)
    show (if 0 ≤ i ∧ i < 0 + 7 then (evCells y).getD (i - 0) undef else _) = _
    rw [if_pos (by omega)]
    rfl
  · refine (((h.b.of_block (setVals_other (evCells y) 0 w r2 (by omega))).set 0 (.bool true))).congr (fun i hi => ?_)
    show (if i = 0 then _ else _) = _
    obtain rfl : i = 0 := by omega
    rfl

set_option maxRecDepth 100000 in
set_option maxHeartbeats 1000000 in
theorem look_any (W w : World) (M : Nat) (ps : List PastV) (es : List EvV) (n : Nat) (b : Nat) (q : PastV) (nx : Option Nat) (v : Value) (r1 r2 : Nat) (hl : LinkAt W w b q nx) (hnx : nx = none ↔ n = ps.length) (h : RowsAt 7 w v ((es.drop n).map evRow)) (hs : Seen w r1 r2 zeroE false) (hne : r1 ≠ r2) (h1 : M ≤ r1) (h2 : M ≤ r2) :
    Calls Try.prog 55 #[.pointer (some ⟨b, 0, none⟩), v, .pointer (some ⟨r1, 0, none⟩), .pointer (some ⟨r2, 0, none⟩)] w fun e w' => e = .returned (.tuple #[]) ∧ (Seen w' r1 r2 (nextOf ps es n).1 (nextOf ps es n).2 ∧ Below M w w') := by
  have HS := hide hs
  obtain ⟨rest, hrest⟩ : ∃ rest, rest = es.drop n := ⟨_, rfl⟩
  rw [← hrest] at h
  obtain ⟨ad, cap, rfl, hlc, hm, hc⟩ := rows_ev h
  unfold maxLen at hm
  obtain ⟨_, _, _, c12, _, _⟩ := hl.cells
  have HNX := hide hnx
  have HREST := hide hrest
  have HC := hide hc
  have H1 := hide h1
  have H2 := hide h2
  have HNE := hide hne
  clear hnx hrest hs hl h hc h1 h2
  cases nx with
  | some b2 =>
    have c12' : w.cell? ⟨b, 12, none⟩ = some (.pointer (some ⟨b2, 0, none⟩)) := c12
    clear c12
    go_enter Try.func55, Try.ntmps55
    go_wp2_with fail
    refine bodyPost_end (results_none rfl _ _ _) rfl ⟨rfl, ?_, Below.refl _ _⟩
    have : nextOf ps es n = (zeroE, false) := by
      rw [nextOf, if_neg (fun e => by have := (unhide HNX).2 e; cases this)]
    rw [this]
    exact unhide HS
  | none =>
    have c12' : w.cell? ⟨b, 12, none⟩ = some (.pointer none) := c12
    have hn := (unhide HNX).1 rfl
    have HN := hide hn
    clear c12 hn
    cases rest with
    | nil =>
      go_enter Try.func55, Try.ntmps55
      go_wp2_with fail
      refine bodyPost_end (results_none rfl _ _ _) rfl ⟨rfl, ?_, Below.refl _ _⟩
      have : nextOf ps es n = (zeroE, false) := by
        rw [nextOf, if_pos (unhide HN), List.getElem?_eq_none (List.drop_eq_nil_iff.1 (unhide HREST).symm)]
      rw [this]
      exact unhide HS
    | cons x xs =>
      obtain ⟨b2, off, had, hcc⟩ := (unhide HC) (by simp)
      have hc0 := hcc 0 (by simp)
      simp only [Nat.zero_mul, Nat.add_zero, List.getElem_cons_zero] at hc0
      subst had
      have x0 : w.cell? ⟨b2, off, none⟩ = some (.int .i64 x.time) := (hc0) 0 (by simp)
      have x1 : w.cell? ⟨b2, off + 1, none⟩ = some (.int .i64 x.to) := (hc0) 1 (by simp)
      have x2 : w.cell? ⟨b2, off + 2, none⟩ = some (.int .i64 x.src) := (hc0) 2 (by simp)
      have x3 : w.cell? ⟨b2, off + 3, none⟩ = some (.int .i64 x.count) := (hc0) 3 (by simp)
      have x4 : w.cell? ⟨b2, off + 4, none⟩ = some (.int .i64 x.n) := (hc0) 4 (by simp)
      have x5 : w.cell? ⟨b2, off + 5, none⟩ = some (.int .i64 x.kind) := (hc0) 5 (by simp)
      have x6 : w.cell? ⟨b2, off + 6, none⟩ = some (.int .i64 x.arg) := (hc0) 6 (by simp)
      clear hcc hc0
      have hl0 : (0 : Int) < (((x :: xs).length : Nat) : Int) := by (simp; try omega)
      have y0 : w.cell? ⟨r1, 0, none⟩ = some (.int .i64 0) := (unhide HS).a.cell (i := 0) (by omega)
      have z0 := (unhide HS).a.frozen 0
      have y1 : w.cell? ⟨r1, 1, none⟩ = some (.int .i64 0) := (unhide HS).a.cell (i := 1) (by omega)
      have z1 := (unhide HS).a.frozen 1
      have y2 : w.cell? ⟨r1, 2, none⟩ = some (.int .i64 0) := (unhide HS).a.cell (i := 2) (by omega)
      have z2 := (unhide HS).a.frozen 2
      have y3 : w.cell? ⟨r1, 3, none⟩ = some (.int .i64 0) := (unhide HS).a.cell (i := 3) (by omega)
      have z3 := (unhide HS).a.frozen 3
      have y4 : w.cell? ⟨r1, 4, none⟩ = some (.int .i64 0) := (unhide HS).a.cell (i := 4) (by omega)
      have z4 := (unhide HS).a.frozen 4
      have y5 : w.cell? ⟨r1, 5, none⟩ = some (.int .i64 0) := (unhide HS).a.cell (i := 5) (by omega)
      have z5 := (unhide HS).a.frozen 5
      have y6 : w.cell? ⟨r1, 6, none⟩ = some (.int .i64 0) := (unhide HS).a.cell (i := 6) (by omega)
      have z6 := (unhide HS).a.frozen 6
      have y7 : w.cell? ⟨r2, 0, none⟩ = some (.bool false) := (unhide HS).b.cell (i := 0) (by omega)
      have z7 := (unhide HS).b.frozen 0
      have hne2 : r2 ≠ r1 := fun e => hne e.symm
      go_enter Try.func55, Try.ntmps55
      go_wp2_with fail
      have hnext : nextOf ps es n = (x, true) := by
        have h1 := unhide HREST
        have hlt : n < es.length := by
          have := congrArg List.length h1
          simp at this
          omega
        rw [List.drop_eq_getElem_cons hlt] at h1
        rw [nextOf, if_pos (unhide HN), List.getElem?_eq_getElem hlt, ← (List.cons.inj h1).1]
      refine bodyPost_end (results_none rfl _ _ _) rfl ⟨rfl, ?_, ?_⟩
      · rw [hnext]
        exact (unhide HS).put (unhide HNE)
      · exact (setVals_below (evCells x) 0 w (Below.refl _ _) (unhide H1)).setCell (p := ⟨r2, 0, none⟩) (unhide H2) _

set_option maxRecDepth 100000 in
set_option maxHeartbeats 2000000 in
theorem implLaneNext_any (proc : Int) (s : StV) (vd v : Value) (ps : List PastV) (es : List EvV) (n : Nat) (w : World) (hn : Same ps es n) (hd : PastsAt w vd ps) (h : RowsAt 7 w v (es.map evRow)) :
    Calls Try.prog 19 #[laneAgg proc s vd, v] w fun e w' => e = .returned (.tuple #[evAgg (laneNext proc s ps es n).1, .bool (laneNext proc s ps es n).2]) ∧ Below w.heap.size w w' := by
  have HD := hide hd
  have HE := hide h
  obtain ⟨a1, c1, e1, _, hm, hcc⟩ := hd
  subst e1
  obtain ⟨ad, cap, rfl, hlc2, hm2, hce⟩ := rows_ev h
  unfold maxLen at hm hm2
  have HC := hide hcc
  have HCE := hide hce
  have hb0 : Below w.heap.size w ((w.alloc (.cells #[.int .i64 proc, .int .i64 s.x, .int .i64 s.y, .int .i64 s.c, .slice a1 ps.length c1] 32)).alloc (.cells #[.int .i64 0, .int .i64 0, .int .i64 0, .int .i64 0, .int .i64 0, .int .i64 0, .int .i64 0] 41)) := ((Below.refl _ _).alloc (Nat.le_refl _) _).alloc (by simp) _
  have cA : CellsAt ((w.alloc (.cells #[.int .i64 proc, .int .i64 s.x, .int .i64 s.y, .int .i64 s.c, .slice a1 ps.length c1] 32)).alloc (.cells #[.int .i64 0, .int .i64 0, .int .i64 0, .int .i64 0, .int .i64 0, .int .i64 0, .int .i64 0] 41)) w.heap.size 0 (laneCells proc s (.slice a1 ps.length c1)) := (cellsAt_new w (laneCells proc s (.slice a1 ps.length c1)) 32).on ((Below.refl _ _).alloc (Nat.le_refl _) _)
  have rB : ((w.alloc (.cells #[.int .i64 proc, .int .i64 s.x, .int .i64 s.y, .int .i64 s.c, .slice a1 ps.length c1] 32)).alloc (.cells #[.int .i64 0, .int .i64 0, .int .i64 0, .int .i64 0, .int .i64 0, .int .i64 0, .int .i64 0] 41)).rowIs (w.heap.size + 1) 41 7 (fun i => (evCells zeroE).getD i undef) := by
    have e := row_new (w.alloc (.cells #[.int .i64 proc, .int .i64 s.x, .int .i64 s.y, .int .i64 s.c, .slice a1 ps.length c1] 32)) (evCells zeroE) 41
    have hs : (w.alloc (.cells #[.int .i64 proc, .int .i64 s.x, .int .i64 s.y, .int .i64 s.c, .slice a1 ps.length c1] 32)).heap.size = w.heap.size + 1 := by simp
    rw [hs] at e
    exact e
  have HA := hide cA
  have HB0 := hide hb0
  have HR := hide rB
  clear hb0 cA rB hcc hce h
  go_enter Try.func19, Try.ntmps19
  go_upto_region 1 with fail
  generalize ((w.alloc (.cells #[.int .i64 proc, .int .i64 s.x, .int .i64 s.y, .int .i64 s.c, .slice a1 ps.length c1] 32)).alloc (.cells #[.int .i64 0, .int .i64 0, .int .i64 0, .int .i64 0, .int .i64 0, .int .i64 0, .int .i64 0] 41)) = X at *
  have k0 : X.cell? ⟨w.heap.size, 0, none⟩ = some (.int .i64 proc) := (unhide HA) 0 (by simp)
  have k1 : X.cell? ⟨w.heap.size, 1, none⟩ = some (.int .i64 s.x) := (unhide HA) 1 (by simp)
  have k2 : X.cell? ⟨w.heap.size, 2, none⟩ = some (.int .i64 s.y) := (unhide HA) 2 (by simp)
  have k3 : X.cell? ⟨w.heap.size, 3, none⟩ = some (.int .i64 s.c) := (unhide HA) 3 (by simp)
  have k4 : X.cell? ⟨w.heap.size, 4, none⟩ = some (.slice a1 ps.length c1) := (unhide HA) 4 (by simp)
  go_wp2_with fail
  refine (implLaneOk_any proc s _ ps X ((unhide HD).on (unhide HB0))).mono ?_
  rintro e w1 ⟨rfl, hb1⟩
  have hB1 := below_then (unhide HB0) hb1
  replace k0 := cell_on hb1 k0
  replace k1 := cell_on hb1 k1
  replace k2 := cell_on hb1 k2
  replace k3 := cell_on hb1 k3
  replace k4 := cell_on hb1 k4
  cases hok : laneOk proc s ps
  · have HOK := hide hok
    clear hok
    have hrx := (unhide HR).of_block ((hb1).block (w.heap.size + 1) (unhide HR).lt)
    have y0 : w1.cell? ⟨w.heap.size + 1, 0, none⟩ = some (.int .i64 0) := hrx.cell (i := 0) (by omega)
    have y1 : w1.cell? ⟨w.heap.size + 1, 1, none⟩ = some (.int .i64 0) := hrx.cell (i := 1) (by omega)
    have y2 : w1.cell? ⟨w.heap.size + 1, 2, none⟩ = some (.int .i64 0) := hrx.cell (i := 2) (by omega)
    have y3 : w1.cell? ⟨w.heap.size + 1, 3, none⟩ = some (.int .i64 0) := hrx.cell (i := 3) (by omega)
    have y4 : w1.cell? ⟨w.heap.size + 1, 4, none⟩ = some (.int .i64 0) := hrx.cell (i := 4) (by omega)
    have y5 : w1.cell? ⟨w.heap.size + 1, 5, none⟩ = some (.int .i64 0) := hrx.cell (i := 5) (by omega)
    have y6 : w1.cell? ⟨w.heap.size + 1, 6, none⟩ = some (.int .i64 0) := hrx.cell (i := 6) (by omega)
    have z0 := hrx.frozen 0
    have z1 := hrx.frozen 1
    have z2 := hrx.frozen 2
    have z3 := hrx.frozen 3
    have z4 := hrx.frozen 4
    have z5 := hrx.frozen 5
    have z6 := hrx.frozen 6
    clear hrx
    go_wp2_with fail
    refine bodyPost_ret (v := .tuple #[evAgg zeroE, .bool false]) (by simp [results, Try.results19, go_sem, y0, y1, y2, y3, y4, y5, y6]) rfl ⟨?_, ?_⟩
    · rw [laneNext, if_neg (by simp [unhide HOK])]
    · exact (((((((hB1.setCell (by simp) _).setCell (by simp) _).setCell (by simp) _).setCell (by simp) _).setCell (by simp) _).setCell (by simp) _).setCell (by simp) _)
  have HOK := hide hok
  clear hok
  go_wp2_with fail
  refine (cameFits_any proc _ es w1 ((unhide HE).on hB1)).mono ?_
  rintro e w2 ⟨rfl, hb2⟩
  have hB2 := below_then hB1 hb2
  have hb12 := below_then hb1 hb2
  replace k0 := cell_on hb2 k0
  replace k1 := cell_on hb2 k1
  replace k2 := cell_on hb2 k2
  replace k3 := cell_on hb2 k3
  replace k4 := cell_on hb2 k4
  cases hce : cameOk proc es
  · have HCO := hide hce
    clear hce
    have hrx := (unhide HR).of_block ((hb12).block (w.heap.size + 1) (unhide HR).lt)
    have y0 : w2.cell? ⟨w.heap.size + 1, 0, none⟩ = some (.int .i64 0) := hrx.cell (i := 0) (by omega)
    have y1 : w2.cell? ⟨w.heap.size + 1, 1, none⟩ = some (.int .i64 0) := hrx.cell (i := 1) (by omega)
    have y2 : w2.cell? ⟨w.heap.size + 1, 2, none⟩ = some (.int .i64 0) := hrx.cell (i := 2) (by omega)
    have y3 : w2.cell? ⟨w.heap.size + 1, 3, none⟩ = some (.int .i64 0) := hrx.cell (i := 3) (by omega)
    have y4 : w2.cell? ⟨w.heap.size + 1, 4, none⟩ = some (.int .i64 0) := hrx.cell (i := 4) (by omega)
    have y5 : w2.cell? ⟨w.heap.size + 1, 5, none⟩ = some (.int .i64 0) := hrx.cell (i := 5) (by omega)
    have y6 : w2.cell? ⟨w.heap.size + 1, 6, none⟩ = some (.int .i64 0) := hrx.cell (i := 6) (by omega)
    have z0 := hrx.frozen 0
    have z1 := hrx.frozen 1
    have z2 := hrx.frozen 2
    have z3 := hrx.frozen 3
    have z4 := hrx.frozen 4
    have z5 := hrx.frozen 5
    have z6 := hrx.frozen 6
    clear hrx
    go_wp2_with fail
    refine bodyPost_ret (v := .tuple #[evAgg zeroE, .bool false]) (by simp [results, Try.results19, go_sem, y0, y1, y2, y3, y4, y5, y6]) rfl ⟨?_, ?_⟩
    · rw [laneNext, if_neg (by simp [unhide HCO])]
    · exact (((((((hB2.setCell (by simp) _).setCell (by simp) _).setCell (by simp) _).setCell (by simp) _).setCell (by simp) _).setCell (by simp) _).setCell (by simp) _)
  have HCO := hide hce
  clear hce
  have HB2 := hide hB2
  have HXB2 := hide hb12
  clear hb1 hB1 hb2 hB2 hb12
  have hbY : Below w2.heap.size w2 ((w2.alloc (.cells #[.int .i64 0, .int .i64 0, .int .i64 0, .int .i64 0, .int .i64 0, .int .i64 0, .int .i64 0] 41)).alloc (.cells #[.bool false] 4)) := ((Below.refl _ _).alloc (Nat.le_refl _) _).alloc (by simp) _
  have hsY : ((w2.alloc (.cells #[.int .i64 0, .int .i64 0, .int .i64 0, .int .i64 0, .int .i64 0, .int .i64 0, .int .i64 0] 41)).alloc (.cells #[.bool false] 4)).heap.size = w2.heap.size + 2 := by simp
  have hseen : Seen ((w2.alloc (.cells #[.int .i64 0, .int .i64 0, .int .i64 0, .int .i64 0, .int .i64 0, .int .i64 0, .int .i64 0] 41)).alloc (.cells #[.bool false] 4)) w2.heap.size (w2.heap.size + 1) zeroE false := by
    constructor
    · exact (row_new w2 (evCells zeroE) 41).of_block (((Below.refl _ _).alloc (Nat.le_refl _) _).block w2.heap.size (by simp))
    · have e := row_new (w2.alloc (.cells #[.int .i64 0, .int .i64 0, .int .i64 0, .int .i64 0, .int .i64 0, .int .i64 0, .int .i64 0] 41)) [.bool false] 4
      have hs : (w2.alloc (.cells #[.int .i64 0, .int .i64 0, .int .i64 0, .int .i64 0, .int .i64 0, .int .i64 0, .int .i64 0] 41)).heap.size = w2.heap.size + 1 := by simp
      rw [hs] at e
      exact e
  have HSEEN := hide hseen
  have HBY := hide hbY
  have HSY := hide hsY
  have HAY := hide ((unhide HA).on (below_then (unhide HXB2) hbY))
  clear hseen hbY hsY k0 k1 k2 k3 k4
  go_upto_region 4 with fail
  generalize ((w2.alloc (.cells #[.int .i64 0, .int .i64 0, .int .i64 0, .int .i64 0, .int .i64 0, .int .i64 0, .int .i64 0] 41)).alloc (.cells #[.bool false] 4)) = Y at *
  have k0 : Y.cell? ⟨w.heap.size, 0, none⟩ = some (.int .i64 proc) := (unhide HAY) 0 (by simp)
  have k1 : Y.cell? ⟨w.heap.size, 1, none⟩ = some (.int .i64 s.x) := (unhide HAY) 1 (by simp)
  have k2 : Y.cell? ⟨w.heap.size, 2, none⟩ = some (.int .i64 s.y) := (unhide HAY) 2 (by simp)
  have k3 : Y.cell? ⟨w.heap.size, 3, none⟩ = some (.int .i64 s.c) := (unhide HAY) 3 (by simp)
  have k4 : Y.cell? ⟨w.heap.size, 4, none⟩ = some (.slice a1 ps.length c1) := (unhide HAY) 4 (by simp)
  go_wp2_with fail
  have hBY := below_then (unhide HB2) (unhide HBY)
  refine (linkLane_any proc s _ ps Y ((unhide HD).on hBY)).mono ?_
  rintro e w3 ⟨g, gs, rfl, hch, hb3⟩
  have HCH := hide hch
  have HB3 := hide hb3
  have hB3 := below_then hBY hb3
  have HBW3 := hide hB3
  clear hch k0 k1 k2 k3 k4 hB3 hb3
  go_wp2_with fail
  refine (partNext_any Y Y.heap.size g gs s ps _ es _ _ (fun w'' => Seen w'' w2.heap.size (w2.heap.size + 1) (nextOf ps es n).1 (nextOf ps es n).2 ∧ Below w2.heap.size w3 w'') w3 (unhide HCH) ((unhide HE).on (unhide HBW3)) (fun n' v' w' hn' hsame hrest hbw => ?_)).mono ?_
  · obtain rfl := hsame.unique hn
    have hlen : gs.length = ps.length := by have := (unhide HCH).len; simpa using this
    have hlk := ((unhide HCH).on hbw).node n' hn' (by simp at hn' ⊢; omega)
    refine (look_any Y w' w2.heap.size ps es n' _ _ _ v' w2.heap.size (w2.heap.size + 1) hlk ?_ hrest (((unhide HSEEN).on (unhide HB3)).on hbw) (by omega) (Nat.le_refl _) (Nat.le_succ _)).mono ?_
    · constructor
      · intro e
        have := List.getElem?_eq_none_iff.1 e
        simp at this hn'
        omega
      · intro e
        exact List.getElem?_eq_none_iff.2 (by simp; omega)
    · rintro e w'' ⟨rfl, h1, h2⟩
      exact ⟨rfl, h1, (hbw.mono (by have h1 := (unhide HB3).size; have h2 := unhide HSY; omega)).trans h2⟩
  rintro e w4 ⟨rfl, hsn, hb4⟩
  have HSN := hide hsn
  have hsz2 : w.heap.size + 1 < w2.heap.size := by have h1 := (unhide HXB2).size; have h2 := (unhide HR).lt; omega
  have hX4 : Below X.heap.size X w4 := (below_then (unhide HXB2) (below_then (unhide HBY) (unhide HB3))).trans (hb4.mono (unhide HXB2).size)
  have hB4 := below_then (unhide HB0) hX4
  obtain ⟨x, hx⟩ : ∃ x, x = (nextOf ps es n).1 := ⟨_, rfl⟩
  obtain ⟨ok, ho⟩ : ∃ ok, ok = (nextOf ps es n).2 := ⟨_, rfl⟩
  rw [← hx, ← ho] at HSN
  have HX := hide hx
  have HO := hide ho
  clear hx ho hsn hb4
  have x0 : w4.cell? ⟨w2.heap.size, 0, none⟩ = some (.int .i64 x.time) := (unhide HSN).a.cell (i := 0) (by omega)
  have x1 : w4.cell? ⟨w2.heap.size, 1, none⟩ = some (.int .i64 x.to) := (unhide HSN).a.cell (i := 1) (by omega)
  have x2 : w4.cell? ⟨w2.heap.size, 2, none⟩ = some (.int .i64 x.src) := (unhide HSN).a.cell (i := 2) (by omega)
  have x3 : w4.cell? ⟨w2.heap.size, 3, none⟩ = some (.int .i64 x.count) := (unhide HSN).a.cell (i := 3) (by omega)
  have x4 : w4.cell? ⟨w2.heap.size, 4, none⟩ = some (.int .i64 x.n) := (unhide HSN).a.cell (i := 4) (by omega)
  have x5 : w4.cell? ⟨w2.heap.size, 5, none⟩ = some (.int .i64 x.kind) := (unhide HSN).a.cell (i := 5) (by omega)
  have x6 : w4.cell? ⟨w2.heap.size, 6, none⟩ = some (.int .i64 x.arg) := (unhide HSN).a.cell (i := 6) (by omega)
  have x7 : w4.cell? ⟨w2.heap.size + 1, 0, none⟩ = some (.bool ok) := (unhide HSN).b.cell (i := 0) (by omega)
  have hrx := (unhide HR).of_block ((hX4).block (w.heap.size + 1) (unhide HR).lt)
  have y0 : w4.cell? ⟨w.heap.size + 1, 0, none⟩ = some (.int .i64 0) := hrx.cell (i := 0) (by omega)
  have y1 : w4.cell? ⟨w.heap.size + 1, 1, none⟩ = some (.int .i64 0) := hrx.cell (i := 1) (by omega)
  have y2 : w4.cell? ⟨w.heap.size + 1, 2, none⟩ = some (.int .i64 0) := hrx.cell (i := 2) (by omega)
  have y3 : w4.cell? ⟨w.heap.size + 1, 3, none⟩ = some (.int .i64 0) := hrx.cell (i := 3) (by omega)
  have y4 : w4.cell? ⟨w.heap.size + 1, 4, none⟩ = some (.int .i64 0) := hrx.cell (i := 4) (by omega)
  have y5 : w4.cell? ⟨w.heap.size + 1, 5, none⟩ = some (.int .i64 0) := hrx.cell (i := 5) (by omega)
  have y6 : w4.cell? ⟨w.heap.size + 1, 6, none⟩ = some (.int .i64 0) := hrx.cell (i := 6) (by omega)
  have z0 := hrx.frozen 0
  have z1 := hrx.frozen 1
  have z2 := hrx.frozen 2
  have z3 := hrx.frozen 3
  have z4 := hrx.frozen 4
  have z5 := hrx.frozen 5
  have z6 := hrx.frozen 6
  clear hrx
  have hd1 : w.heap.size + 1 ≠ w2.heap.size := by omega
  have hd2 : w.heap.size + 1 ≠ w2.heap.size + 1 := by omega
  have hd3 : w2.heap.size ≠ w.heap.size + 1 := by omega
  have hd4 : w2.heap.size + 1 ≠ w.heap.size + 1 := by omega
  go_upto_region 6 with fail
  go_region
  all_goals
    go_wp2_with fail
    refine bodyPost_ret (v := .tuple #[evAgg x, .bool ok]) (by simp [results, Try.results19, go_sem, y0, y1, y2, y3, y4, y5, y6]) rfl ⟨?_, ?_⟩
    · rw [laneNext, if_pos ⟨unhide HOK, unhide HCO⟩, ← unhide HX, ← unhide HO]
    · first
        | exact ((((((((hB4.setCell (by simp) _).setCell (by simp) _).setCell (by simp) _).setCell (by simp) _).setCell (by simp) _).setCell (by simp) _).setCell (by simp) _)).drew
        | exact ((((((((hB4.drew).setCell (by simp) _).setCell (by simp) _).setCell (by simp) _).setCell (by simp) _).setCell (by simp) _).setCell (by simp) _).setCell (by simp) _)

end Go.Proofs.Ytjdaedcpjfcpjaa
