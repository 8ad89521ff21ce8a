/- The walk of laws.FnExactLaneOk: it answers true. -/
import Derived.Test.YtjdaedcpjfcpjaaLane3
import Derived.Test.YtjdaedcpjfcpjaaPast4
import Derived.Test.YtjdaedcpjfcpjaaBox
import Derived.Deep.Cut
import Derived.Deep.RegionHeld3
namespace Go.Proofs.Ytjdaedcpjfcpjaa
open Go.RowKit
set_option linter.unusedVariables false
set_option linter.unusedSimpArgs false

theorem sLo_of {W w' : World} {p q : Nat} {a b c d e a' b' c' d' e' : Value} (h : CellsAt W p 0 [a, b, c, d, e]) (k : CellsAt W q 0 [a', b', c', d', e']) (hb : Below W.heap.size W w') :
    w'.cell? ⟨p, 0, none⟩ = some a ∧ w'.cell? ⟨p, 1, none⟩ = some b ∧ w'.cell? ⟨p, 2, none⟩ = some c ∧ w'.cell? ⟨p, 3, none⟩ = some d ∧ w'.cell? ⟨p, 4, none⟩ = some e ∧ w'.cell? ⟨q, 0, none⟩ = some a' ∧ w'.cell? ⟨q, 1, none⟩ = some b' ∧ w'.cell? ⟨q, 2, none⟩ = some c' ∧ w'.cell? ⟨q, 3, none⟩ = some d' ∧ w'.cell? ⟨q, 4, none⟩ = some e' ∧ Below W.heap.size W w' :=
  ⟨(h.on hb) 0 (by simp), (h.on hb) 1 (by simp), (h.on hb) 2 (by simp), (h.on hb) 3 (by simp), (h.on hb) 4 (by simp), (k.on hb) 0 (by simp), (k.on hb) 1 (by simp), (k.on hb) 2 (by simp), (k.on hb) 3 (by simp), (k.on hb) 4 (by simp), hb⟩

set_option maxRecDepth 100000 in
set_option maxHeartbeats 2000000 in
theorem lawLaneOk_walk (proc : Int) (s : StV) (v : Value) (ps : List PastV) (w : World) (h : PastsAt w v ps) :
    Calls Try.prog 3 #[laneAgg proc s v] w fun e w' => e = .returned (.bool true) ∧ Below w.heap.size w w' := by
  have hqm : ∀ b : Bool, (b != b) = false := by intro b; simp
  obtain ⟨a1, c1, rfl⟩ := h.sliced
  have hb0 : Below w.heap.size w (w.alloc (.cells #[.int .i64 proc, .int .i64 s.x, .int .i64 s.y, .int .i64 s.c, .slice a1 ps.length c1] 26)) := (Below.refl _ _).alloc (Nat.le_refl _) _
  have H := hide (h.on hb0)
  have B0 := hide (cellsAt_new w (laneCells proc s (.slice a1 ps.length c1)) 26)
  have HB0 := hide hb0
  clear h hb0
  go_enter Try.func3, Try.ntmps3
  go_wp2_with fail
  generalize (w.alloc (.cells #[.int .i64 proc, .int .i64 s.x, .int .i64 s.y, .int .i64 s.c, .slice a1 ps.length c1] 26)) = W0 at *
  refine (szLane_any proc s _ ps 1048576 _ (unhide H) (by omega) (by omega)).mono ?_
  rintro e w1 ⟨r, rfl, hr, hb1⟩
  rcases hr with rfl | ⟨hr0, hr1, hl, hlp⟩
  · go_wp2_with fail
    go_ret
    exact ⟨rfl, below_then (unhide HB0) hb1⟩
  have HL1 : Hid (ps.length ≤ 1048576) := hide (by omega)
  have HL2 : Hid (∀ p ∈ ps, p.sends.length ≤ 1048576 ∧ p.outs.length ≤ 1048576) := hide (fun p hp => by have := hlp p hp; omega)
  have H1 := hide ((unhide H).on hb1)
  have B1 := hide ((unhide B0).on hb1)
  have HB1 := hide (below_then (unhide HB0) hb1)
  clear hl hlp hr1 H B0 HB0 hb1
  have n0 : w1.cell? ⟨w.heap.size, 0, none⟩ = some (.int .i64 proc) := (unhide B1) 0 (by simp)
  have n1 : w1.cell? ⟨w.heap.size, 1, none⟩ = some (.int .i64 s.x) := (unhide B1) 1 (by simp)
  have n2 : w1.cell? ⟨w.heap.size, 2, none⟩ = some (.int .i64 s.y) := (unhide B1) 2 (by simp)
  have n3 : w1.cell? ⟨w.heap.size, 3, none⟩ = some (.int .i64 s.c) := (unhide B1) 3 (by simp)
  have n4 : w1.cell? ⟨w.heap.size, 4, none⟩ = some (.slice a1 ps.length c1) := (unhide B1) 4 (by simp)
  go_wp2_with fail
  clear n0 n1 n2 n3 n4
  refine (toLane_any proc s _ ps _ (unhide H1) (unhide HL1) (unhide HL2)).mono ?_
  rintro e w2 ⟨v2, rfl, hf2, hb2⟩
  go_wp2_with fail
  refine (specLaneOk_any proc s _ ps _ hf2.at).mono ?_
  rintro e w3 ⟨rfl, hb3⟩
  have hb23 := below_then hb2 hb3
  have H3 := hide ((unhide H1).on hb23)
  have B3 := hide ((unhide B1).on hb23)
  have HB3 := hide (below_then (unhide HB1) hb23)
  clear hf2 hb2 hb3 hb23 H1 B1 HB1
  have n0 : w3.cell? ⟨w.heap.size, 0, none⟩ = some (.int .i64 proc) := (unhide B3) 0 (by simp)
  have n1 : w3.cell? ⟨w.heap.size, 1, none⟩ = some (.int .i64 s.x) := (unhide B3) 1 (by simp)
  have n2 : w3.cell? ⟨w.heap.size, 2, none⟩ = some (.int .i64 s.y) := (unhide B3) 2 (by simp)
  have n3 : w3.cell? ⟨w.heap.size, 3, none⟩ = some (.int .i64 s.c) := (unhide B3) 3 (by simp)
  have n4 : w3.cell? ⟨w.heap.size, 4, none⟩ = some (.slice a1 ps.length c1) := (unhide B3) 4 (by simp)
  go_wp2_with fail
  clear n0 n1 n2 n3 n4
  refine (toLane_any proc s _ ps _ (unhide H3) (unhide HL1) (unhide HL2)).mono ?_
  rintro e w4 ⟨v4, rfl, hf4, hb4⟩
  obtain ⟨d1, k1, rfl⟩ := hf4.at.sliced
  have hx : Below w4.heap.size w4 (w4.alloc (.cells #[.int .i64 proc, .int .i64 s.x, .int .i64 s.y, .int .i64 s.c, .slice d1 ps.length k1] 32)) := (Below.refl _ _).alloc (Nat.le_refl _) _
  have hb5 := below_then hb4 hx
  have H5 := hide ((unhide H3).on hb5)
  have B5 := hide ((unhide B3).on hb5)
  have HB5 := hide (below_then (unhide HB3) hb5)
  have F5 := hide (hf4.at.on hx)
  have C5 := hide (cellsAt_new w4 (laneCells proc s (.slice d1 ps.length k1)) 32)
  clear hf4 hb4 hx hb5 H3 B3 HB3
  go_upto_region 7 with fail
  generalize (w4.alloc (.cells #[.int .i64 proc, .int .i64 s.x, .int .i64 s.y, .int .i64 s.c, .slice d1 ps.length k1] 32)) = W5 at *
  generalize w4.heap.size = q5 at *
  have n0 : W5.cell? ⟨q5, 0, none⟩ = some (.int .i64 proc) := (unhide C5) 0 (by simp)
  have n1 : W5.cell? ⟨q5, 1, none⟩ = some (.int .i64 s.x) := (unhide C5) 1 (by simp)
  have n2 : W5.cell? ⟨q5, 2, none⟩ = some (.int .i64 s.y) := (unhide C5) 2 (by simp)
  have n3 : W5.cell? ⟨q5, 3, none⟩ = some (.int .i64 s.c) := (unhide C5) 3 (by simp)
  have n4 : W5.cell? ⟨q5, 4, none⟩ = some (.slice d1 ps.length k1) := (unhide C5) 4 (by simp)
  go_wp2_with fail
  clear n0 n1 n2 n3 n4
  refine (implLaneOk_any proc s _ ps _ (unhide F5)).mono ?_
  rintro e w6 ⟨rfl, hb6⟩
  have H6 := hide ((unhide H5).on hb6)
  have B6 := hide ((unhide B5).on hb6)
  have HB6 := hide (below_then (unhide HB5) hb6)
  have F6 := hide ((unhide F5).on hb6)
  have C6 := hide ((unhide C5).on hb6)
  clear hb6 H5 B5 HB5 F5 C5
  generalize laneOk proc s ps = b at *
  go_upto_region 10 with fail
  go_region_held3 (fun w' => w'.cell? ⟨w.heap.size, 0, none⟩ = some (.int .i64 proc) ∧ w'.cell? ⟨w.heap.size, 1, none⟩ = some (.int .i64 s.x) ∧ w'.cell? ⟨w.heap.size, 2, none⟩ = some (.int .i64 s.y) ∧ w'.cell? ⟨w.heap.size, 3, none⟩ = some (.int .i64 s.c) ∧ w'.cell? ⟨w.heap.size, 4, none⟩ = some (.slice a1 ps.length c1) ∧ w'.cell? ⟨q5, 0, none⟩ = some (.int .i64 proc) ∧ w'.cell? ⟨q5, 1, none⟩ = some (.int .i64 s.x) ∧ w'.cell? ⟨q5, 2, none⟩ = some (.int .i64 s.y) ∧ w'.cell? ⟨q5, 3, none⟩ = some (.int .i64 s.c) ∧ w'.cell? ⟨q5, 4, none⟩ = some (.slice d1 ps.length k1) ∧ Below w6.heap.size w6 w')
    ((go_split_ands; refine sLo_of (unhide B6) (unhide C6) ?_; first | exact (Below.refl _ _).drew | exact below_then (by assumption) hba | exact below_then (by assumption) hbe))
    (first
      | (go_at_call 10; refine (toLane_any proc s _ ps _ ((unhide H6).on (by go_split_ands; assumption)) (unhide HL1) (unhide HL2)).mono ?_; rintro e wa ⟨va, rfl, hfr, hba⟩; have hBa := below_then (a := w6) (by go_split_ands; assumption) hba)
      | (go_at_call 12; refine (eqLane_any proc s _ _ ps _ ((unhide F6).on hBa) hfr.at).mono ?_; rintro e we ⟨rfl, hbe⟩; have hBe := below_then hBa hbe))
  go_wp2_with fail
  go_ret
  exact ⟨rfl, below_then (unhide HB6) hBe⟩
end Go.Proofs.Ytjdaedcpjfcpjaa
