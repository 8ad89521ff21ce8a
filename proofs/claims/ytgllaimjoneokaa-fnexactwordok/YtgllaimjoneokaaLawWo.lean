/- The walk of laws.FnExactWordOk: it answers true. -/
import Derived.Test.YtgllaimjoneokaaWord4
import Derived.Deep.Cut
import Derived.Deep.RegionHeld3
namespace Go.Proofs.Ytgllaimjoneokaa
open Go.RowKit
set_option linter.unusedVariables false
set_option linter.unusedSimpArgs false

theorem sWo_of {W w' : World} {p q : Nat} {a0 a1 a2 a3 a4 a5 a6 a7 a8 a9 a10 b0 b1 b2 b3 b4 b5 b6 b7 b8 b9 b10 : Value} (h : CellsAt W p 0 [a0, a1, a2, a3, a4, a5, a6, a7, a8, a9, a10]) (k : CellsAt W q 0 [b0, b1, b2, b3, b4, b5, b6, b7, b8, b9, b10]) (hb : Below W.heap.size W w') :
    w'.cell? ⟨p, 0, none⟩ = some a0 ∧ w'.cell? ⟨p, 1, none⟩ = some a1 ∧ w'.cell? ⟨p, 2, none⟩ = some a2 ∧ w'.cell? ⟨p, 3, none⟩ = some a3 ∧ w'.cell? ⟨p, 4, none⟩ = some a4 ∧ w'.cell? ⟨p, 5, none⟩ = some a5 ∧ w'.cell? ⟨p, 6, none⟩ = some a6 ∧ w'.cell? ⟨p, 7, none⟩ = some a7 ∧ w'.cell? ⟨p, 8, none⟩ = some a8 ∧ w'.cell? ⟨p, 9, none⟩ = some a9 ∧ w'.cell? ⟨p, 10, none⟩ = some a10 ∧ w'.cell? ⟨q, 0, none⟩ = some b0 ∧ w'.cell? ⟨q, 1, none⟩ = some b1 ∧ w'.cell? ⟨q, 2, none⟩ = some b2 ∧ w'.cell? ⟨q, 3, none⟩ = some b3 ∧ w'.cell? ⟨q, 4, none⟩ = some b4 ∧ w'.cell? ⟨q, 5, none⟩ = some b5 ∧ w'.cell? ⟨q, 6, none⟩ = some b6 ∧ w'.cell? ⟨q, 7, none⟩ = some b7 ∧ w'.cell? ⟨q, 8, none⟩ = some b8 ∧ w'.cell? ⟨q, 9, none⟩ = some b9 ∧ w'.cell? ⟨q, 10, none⟩ = some b10 ∧ Below W.heap.size W w' :=
  ⟨(h.on hb) 0 (by simp), (h.on hb) 1 (by simp), (h.on hb) 2 (by simp), (h.on hb) 3 (by simp), (h.on hb) 4 (by simp), (h.on hb) 5 (by simp), (h.on hb) 6 (by simp), (h.on hb) 7 (by simp), (h.on hb) 8 (by simp), (h.on hb) 9 (by simp), (h.on hb) 10 (by simp), (k.on hb) 0 (by simp), (k.on hb) 1 (by simp), (k.on hb) 2 (by simp), (k.on hb) 3 (by simp), (k.on hb) 4 (by simp), (k.on hb) 5 (by simp), (k.on hb) 6 (by simp), (k.on hb) 7 (by simp), (k.on hb) 8 (by simp), (k.on hb) 9 (by simp), (k.on hb) 10 (by simp), hb⟩

set_option maxRecDepth 100000 in
set_option maxHeartbeats 4000000 in
theorem lawWordOk_walk (n : WordV) (vi vv ve vo : Value) (w : World) (h : WordAt w n vi vv ve vo) :
    Calls Try.prog 6 #[wordAgg n vi vv ve vo] w fun e w' => e = .returned (.bool true) ∧ Below w.heap.size w w' := by
  have hqm : ∀ b : Bool, (b != b) = false := by intro b; simp
  obtain ⟨⟨a0, ac0, e1⟩, ⟨a1, ac1, e2⟩, ⟨a2, ac2, e3⟩, ⟨a3, ac3, e4⟩⟩ := h.sliced
  subst e1 e2 e3 e4
  have hb0 : Below w.heap.size w (w.alloc (.cells #[.int .i64 n.kind, .int .i64 n.frm, .int .i64 n.dst, .int .i64 n.inc, .int .i64 n.ver, .int .i64 n.rd, .int .i64 n.g, .slice a0 n.incs.length ac0, .slice a1 n.vers.length ac1, .slice a2 n.evs.length ac2, .slice a3 n.outs.length ac3] 49)) := (Below.refl _ _).alloc (Nat.le_refl _) _
  have H := hide (h.on hb0)
  have B0 := hide (cellsAt_new w [.int .i64 n.kind, .int .i64 n.frm, .int .i64 n.dst, .int .i64 n.inc, .int .i64 n.ver, .int .i64 n.rd, .int .i64 n.g, .slice a0 n.incs.length ac0, .slice a1 n.vers.length ac1, .slice a2 n.evs.length ac2, .slice a3 n.outs.length ac3] 49)
  have HB0 := hide hb0
  clear h hb0
  go_enter Try.func6, Try.ntmps6
  go_wp2_with fail
  change Hid (CellsAt (w.alloc (.cells #[.int .i64 n.kind, .int .i64 n.frm, .int .i64 n.dst, .int .i64 n.inc, .int .i64 n.ver, .int .i64 n.rd, .int .i64 n.g, .slice a0 n.incs.length ac0, .slice a1 n.vers.length ac1, .slice a2 n.evs.length ac2, .slice a3 n.outs.length ac3] 49)) _ _ _) at B0
  generalize (w.alloc (.cells #[.int .i64 n.kind, .int .i64 n.frm, .int .i64 n.dst, .int .i64 n.inc, .int .i64 n.ver, .int .i64 n.rd, .int .i64 n.g, .slice a0 n.incs.length ac0, .slice a1 n.vers.length ac1, .slice a2 n.evs.length ac2, .slice a3 n.outs.length ac3] 49)) = W0 at *
  refine (szWord_any n _ _ _ _ 1048576 _ (unhide H) (by omega) (by omega)).mono ?_
  rintro e w1 ⟨r, rfl, hr, hb1⟩
  rcases hr with rfl | ⟨hr0, hl0, hl1, hl2, hl3⟩
  · go_wp2_with fail
    go_ret
    exact ⟨rfl, below_then (unhide HB0) hb1⟩
  have HL0 : Hid (n.incs.length ≤ 1048576) := hide (by omega)
  have HL1 : Hid (n.vers.length ≤ 1048576) := hide (by omega)
  have HL2 : Hid (n.evs.length ≤ 1048576) := hide (by omega)
  have HL3 : Hid (n.outs.length ≤ 1048576) := hide (by omega)
  have H1 := hide ((unhide H).on hb1)
  have B1 := hide ((unhide B0).on hb1)
  have HB1 := hide (below_then (unhide HB0) hb1)
  clear hl0 hl1 hl2 hl3 H B0 HB0 hb1
  have n0 : w1.cell? ⟨w.heap.size, 0, none⟩ = some (.int .i64 n.kind) := (unhide B1) 0 (by simp)
  have n1 : w1.cell? ⟨w.heap.size, 1, none⟩ = some (.int .i64 n.frm) := (unhide B1) 1 (by simp)
  have n2 : w1.cell? ⟨w.heap.size, 2, none⟩ = some (.int .i64 n.dst) := (unhide B1) 2 (by simp)
  have n3 : w1.cell? ⟨w.heap.size, 3, none⟩ = some (.int .i64 n.inc) := (unhide B1) 3 (by simp)
  have n4 : w1.cell? ⟨w.heap.size, 4, none⟩ = some (.int .i64 n.ver) := (unhide B1) 4 (by simp)
  have n5 : w1.cell? ⟨w.heap.size, 5, none⟩ = some (.int .i64 n.rd) := (unhide B1) 5 (by simp)
  have n6 : w1.cell? ⟨w.heap.size, 6, none⟩ = some (.int .i64 n.g) := (unhide B1) 6 (by simp)
  have n7 : w1.cell? ⟨w.heap.size, 7, none⟩ = some (.slice a0 n.incs.length ac0) := (unhide B1) 7 (by simp)
  have n8 : w1.cell? ⟨w.heap.size, 8, none⟩ = some (.slice a1 n.vers.length ac1) := (unhide B1) 8 (by simp)
  have n9 : w1.cell? ⟨w.heap.size, 9, none⟩ = some (.slice a2 n.evs.length ac2) := (unhide B1) 9 (by simp)
  have n10 : w1.cell? ⟨w.heap.size, 10, none⟩ = some (.slice a3 n.outs.length ac3) := (unhide B1) 10 (by simp)
  go_wp2_with fail
  clear n0 n1 n2 n3 n4 n5 n6 n7 n8 n9 n10
  refine (toWord_any n _ _ _ _ _ (unhide H1) (unhide HL0) (unhide HL1) (unhide HL2) (unhide HL3)).mono ?_
  rintro e w2 ⟨u0, u1, u2, u3, rfl, hf2, hb2⟩
  go_wp2_with fail
  refine (specWordOk_any n _ _ _ _ _ hf2).mono ?_
  rintro e w3 ⟨rfl, hb3⟩
  have hb23 := below_then hb2 hb3
  have H3 := hide ((unhide H1).on hb23)
  have B3 := hide ((unhide B1).on hb23)
  have HB3 := hide (below_then (unhide HB1) hb23)
  clear hf2 hb2 hb3 hb23 H1 B1 HB1
  have n0 : w3.cell? ⟨w.heap.size, 0, none⟩ = some (.int .i64 n.kind) := (unhide B3) 0 (by simp)
  have n1 : w3.cell? ⟨w.heap.size, 1, none⟩ = some (.int .i64 n.frm) := (unhide B3) 1 (by simp)
  have n2 : w3.cell? ⟨w.heap.size, 2, none⟩ = some (.int .i64 n.dst) := (unhide B3) 2 (by simp)
  have n3 : w3.cell? ⟨w.heap.size, 3, none⟩ = some (.int .i64 n.inc) := (unhide B3) 3 (by simp)
  have n4 : w3.cell? ⟨w.heap.size, 4, none⟩ = some (.int .i64 n.ver) := (unhide B3) 4 (by simp)
  have n5 : w3.cell? ⟨w.heap.size, 5, none⟩ = some (.int .i64 n.rd) := (unhide B3) 5 (by simp)
  have n6 : w3.cell? ⟨w.heap.size, 6, none⟩ = some (.int .i64 n.g) := (unhide B3) 6 (by simp)
  have n7 : w3.cell? ⟨w.heap.size, 7, none⟩ = some (.slice a0 n.incs.length ac0) := (unhide B3) 7 (by simp)
  have n8 : w3.cell? ⟨w.heap.size, 8, none⟩ = some (.slice a1 n.vers.length ac1) := (unhide B3) 8 (by simp)
  have n9 : w3.cell? ⟨w.heap.size, 9, none⟩ = some (.slice a2 n.evs.length ac2) := (unhide B3) 9 (by simp)
  have n10 : w3.cell? ⟨w.heap.size, 10, none⟩ = some (.slice a3 n.outs.length ac3) := (unhide B3) 10 (by simp)
  go_wp2_with fail
  clear n0 n1 n2 n3 n4 n5 n6 n7 n8 n9 n10
  refine (toWord_any n _ _ _ _ _ (unhide H3) (unhide HL0) (unhide HL1) (unhide HL2) (unhide HL3)).mono ?_
  rintro e w4 ⟨x0, x1, x2, x3, rfl, hf4, hb4⟩
  obtain ⟨⟨d0, dc0, e1⟩, ⟨d1, dc1, e2⟩, ⟨d2, dc2, e3⟩, ⟨d3, dc3, e4⟩⟩ := hf4.sliced
  subst e1 e2 e3 e4
  have hx : Below w4.heap.size w4 (w4.alloc (.cells #[.int .i64 n.kind, .int .i64 n.frm, .int .i64 n.dst, .int .i64 n.inc, .int .i64 n.ver, .int .i64 n.rd, .int .i64 n.g, .slice d0 n.incs.length dc0, .slice d1 n.vers.length dc1, .slice d2 n.evs.length dc2, .slice d3 n.outs.length dc3] 41)) := (Below.refl _ _).alloc (Nat.le_refl _) _
  have hb5 := below_then hb4 hx
  have H5 := hide ((unhide H3).on hb5)
  have B5 := hide ((unhide B3).on hb5)
  have HB5 := hide (below_then (unhide HB3) hb5)
  have F5 := hide (hf4.on hx)
  have C5 := hide (cellsAt_new w4 [.int .i64 n.kind, .int .i64 n.frm, .int .i64 n.dst, .int .i64 n.inc, .int .i64 n.ver, .int .i64 n.rd, .int .i64 n.g, .slice d0 n.incs.length dc0, .slice d1 n.vers.length dc1, .slice d2 n.evs.length dc2, .slice d3 n.outs.length dc3] 41)
  clear hf4 hb4 hx hb5 H3 B3 HB3
  go_upto_region 7 with fail
  change Hid (CellsAt (w4.alloc (.cells #[.int .i64 n.kind, .int .i64 n.frm, .int .i64 n.dst, .int .i64 n.inc, .int .i64 n.ver, .int .i64 n.rd, .int .i64 n.g, .slice d0 n.incs.length dc0, .slice d1 n.vers.length dc1, .slice d2 n.evs.length dc2, .slice d3 n.outs.length dc3] 41)) _ _ _) at C5
  generalize (w4.alloc (.cells #[.int .i64 n.kind, .int .i64 n.frm, .int .i64 n.dst, .int .i64 n.inc, .int .i64 n.ver, .int .i64 n.rd, .int .i64 n.g, .slice d0 n.incs.length dc0, .slice d1 n.vers.length dc1, .slice d2 n.evs.length dc2, .slice d3 n.outs.length dc3] 41)) = W5 at *
  generalize w4.heap.size = q5 at *
  have n0 : W5.cell? ⟨q5, 0, none⟩ = some (.int .i64 n.kind) := (unhide C5) 0 (by simp)
  have n1 : W5.cell? ⟨q5, 1, none⟩ = some (.int .i64 n.frm) := (unhide C5) 1 (by simp)
  have n2 : W5.cell? ⟨q5, 2, none⟩ = some (.int .i64 n.dst) := (unhide C5) 2 (by simp)
  have n3 : W5.cell? ⟨q5, 3, none⟩ = some (.int .i64 n.inc) := (unhide C5) 3 (by simp)
  have n4 : W5.cell? ⟨q5, 4, none⟩ = some (.int .i64 n.ver) := (unhide C5) 4 (by simp)
  have n5 : W5.cell? ⟨q5, 5, none⟩ = some (.int .i64 n.rd) := (unhide C5) 5 (by simp)
  have n6 : W5.cell? ⟨q5, 6, none⟩ = some (.int .i64 n.g) := (unhide C5) 6 (by simp)
  have n7 : W5.cell? ⟨q5, 7, none⟩ = some (.slice d0 n.incs.length dc0) := (unhide C5) 7 (by simp)
  have n8 : W5.cell? ⟨q5, 8, none⟩ = some (.slice d1 n.vers.length dc1) := (unhide C5) 8 (by simp)
  have n9 : W5.cell? ⟨q5, 9, none⟩ = some (.slice d2 n.evs.length dc2) := (unhide C5) 9 (by simp)
  have n10 : W5.cell? ⟨q5, 10, none⟩ = some (.slice d3 n.outs.length dc3) := (unhide C5) 10 (by simp)
  go_wp2_with fail
  clear n0 n1 n2 n3 n4 n5 n6 n7 n8 n9 n10
  refine (implWordOk_any n _ _ _ _ _ (unhide F5)).mono ?_
  rintro e w6 ⟨rfl, hb6⟩
  have H6 := hide ((unhide H5).on hb6)
  have B6 := hide ((unhide B5).on hb6)
  have HB6 := hide (below_then (unhide HB5) hb6)
  have F6 := hide ((unhide F5).on hb6)
  have C6 := hide ((unhide C5).on hb6)
  clear hb6 H5 B5 HB5 F5 C5
  generalize wordOk n = b at *
  go_upto_region 10 with fail
  go_region_held3 (fun w' => w'.cell? ⟨w.heap.size, 0, none⟩ = some (.int .i64 n.kind) ∧ w'.cell? ⟨w.heap.size, 1, none⟩ = some (.int .i64 n.frm) ∧ w'.cell? ⟨w.heap.size, 2, none⟩ = some (.int .i64 n.dst) ∧ w'.cell? ⟨w.heap.size, 3, none⟩ = some (.int .i64 n.inc) ∧ w'.cell? ⟨w.heap.size, 4, none⟩ = some (.int .i64 n.ver) ∧ w'.cell? ⟨w.heap.size, 5, none⟩ = some (.int .i64 n.rd) ∧ w'.cell? ⟨w.heap.size, 6, none⟩ = some (.int .i64 n.g) ∧ w'.cell? ⟨w.heap.size, 7, none⟩ = some (.slice a0 n.incs.length ac0) ∧ w'.cell? ⟨w.heap.size, 8, none⟩ = some (.slice a1 n.vers.length ac1) ∧ w'.cell? ⟨w.heap.size, 9, none⟩ = some (.slice a2 n.evs.length ac2) ∧ w'.cell? ⟨w.heap.size, 10, none⟩ = some (.slice a3 n.outs.length ac3) ∧ w'.cell? ⟨q5, 0, none⟩ = some (.int .i64 n.kind) ∧ w'.cell? ⟨q5, 1, none⟩ = some (.int .i64 n.frm) ∧ w'.cell? ⟨q5, 2, none⟩ = some (.int .i64 n.dst) ∧ w'.cell? ⟨q5, 3, none⟩ = some (.int .i64 n.inc) ∧ w'.cell? ⟨q5, 4, none⟩ = some (.int .i64 n.ver) ∧ w'.cell? ⟨q5, 5, none⟩ = some (.int .i64 n.rd) ∧ w'.cell? ⟨q5, 6, none⟩ = some (.int .i64 n.g) ∧ w'.cell? ⟨q5, 7, none⟩ = some (.slice d0 n.incs.length dc0) ∧ w'.cell? ⟨q5, 8, none⟩ = some (.slice d1 n.vers.length dc1) ∧ w'.cell? ⟨q5, 9, none⟩ = some (.slice d2 n.evs.length dc2) ∧ w'.cell? ⟨q5, 10, none⟩ = some (.slice d3 n.outs.length dc3) ∧ Below w6.heap.size w6 w')
    ((go_split_ands; refine sWo_of (unhide B6) (unhide C6) ?_; first | exact (Below.refl _ _).drew | exact below_then (by assumption) hba | exact below_then (by assumption) hbe))
    (first
      | (go_at_call 20; refine (toWord_any n _ _ _ _ _ ((unhide H6).on (by go_split_ands; assumption)) (unhide HL0) (unhide HL1) (unhide HL2) (unhide HL3)).mono ?_; rintro e wa ⟨va0, va1, va2, va3, rfl, hfr, hba⟩; have hBa := below_then (a := w6) (by go_split_ands; assumption) hba)
      | (go_at_call 21; refine (eqWord_any n _ _ _ _ _ _ _ _ _ ((unhide F6).on hBa) hfr).mono ?_; rintro e we ⟨rfl, hbe⟩; have hBe := below_then hBa hbe))
  go_wp2_with fail
  go_ret
  exact ⟨rfl, below_then (unhide HB6) hBe⟩
end Go.Proofs.Ytgllaimjoneokaa
