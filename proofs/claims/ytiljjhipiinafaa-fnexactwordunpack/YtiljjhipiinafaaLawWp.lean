/- The walk of laws.FnExactWordPack: it answers true. -/
import Derived.Test.YtiljjhipiinafaaWrC
import Derived.Test.YtiljjhipiinafaaWordM
import Derived.Deep.Cut
import Derived.Deep.RegionHeld3
namespace Go.Proofs.Ytiljjhipiinafaa
open Go.RowKit
set_option linter.unusedVariables false
set_option linter.unusedSimpArgs false

theorem sWp_of {W w' : World} {p q : Nat} {a0 a1 a2 a3 a4 a5 a6 a7 a8 a9 a10 b0 b1 b2 b3 b4 b5 b6 b7 b8 b9 b10 : Value} (h : CellsAt W p 0 [a0, a1, a2, a3, a4, a5, a6, a7, a8, a9, a10]) (k : CellsAt W q 0 [b0, b1, b2, b3, b4, b5, b6, b7, b8, b9, b10]) (hb : Below W.heap.size W w') :
    w'.cell? ⟨p, 0, none⟩ = some a0 ∧ w'.cell? ⟨p, 1, none⟩ = some a1 ∧ w'.cell? ⟨p, 2, none⟩ = some a2 ∧ w'.cell? ⟨p, 3, none⟩ = some a3 ∧ w'.cell? ⟨p, 4, none⟩ = some a4 ∧ w'.cell? ⟨p, 5, none⟩ = some a5 ∧ w'.cell? ⟨p, 6, none⟩ = some a6 ∧ w'.cell? ⟨p, 7, none⟩ = some a7 ∧ w'.cell? ⟨p, 8, none⟩ = some a8 ∧ w'.cell? ⟨p, 9, none⟩ = some a9 ∧ w'.cell? ⟨p, 10, none⟩ = some a10 ∧ w'.cell? ⟨q, 0, none⟩ = some b0 ∧ w'.cell? ⟨q, 1, none⟩ = some b1 ∧ w'.cell? ⟨q, 2, none⟩ = some b2 ∧ w'.cell? ⟨q, 3, none⟩ = some b3 ∧ w'.cell? ⟨q, 4, none⟩ = some b4 ∧ w'.cell? ⟨q, 5, none⟩ = some b5 ∧ w'.cell? ⟨q, 6, none⟩ = some b6 ∧ w'.cell? ⟨q, 7, none⟩ = some b7 ∧ w'.cell? ⟨q, 8, none⟩ = some b8 ∧ w'.cell? ⟨q, 9, none⟩ = some b9 ∧ w'.cell? ⟨q, 10, none⟩ = some b10 ∧ Below W.heap.size W w' :=
  ⟨(h.on hb) 0 (by simp), (h.on hb) 1 (by simp), (h.on hb) 2 (by simp), (h.on hb) 3 (by simp), (h.on hb) 4 (by simp), (h.on hb) 5 (by simp), (h.on hb) 6 (by simp), (h.on hb) 7 (by simp), (h.on hb) 8 (by simp), (h.on hb) 9 (by simp), (h.on hb) 10 (by simp), (k.on hb) 0 (by simp), (k.on hb) 1 (by simp), (k.on hb) 2 (by simp), (k.on hb) 3 (by simp), (k.on hb) 4 (by simp), (k.on hb) 5 (by simp), (k.on hb) 6 (by simp), (k.on hb) 7 (by simp), (k.on hb) 8 (by simp), (k.on hb) 9 (by simp), (k.on hb) 10 (by simp), hb⟩

/-- What a word's bytes are, or none. -/
def packedB (n : WordV) : List Int := if wordOk n = true then packW n else []
theorem packedB_len (n : WordV) : (packedB n).length ≤ 3000 := by
  unfold packedB
  split
  · rename_i h
    have h1 := ouTo_len (wordOk_in h) n.outs.length
    rw [ouTo_all] at h1
    have h2 := packI_len (wordNums n)
    unfold packW; omega
  · simp
theorem CellsAt.below {B b : Nat} {w w' : World} {cs : List Value} (h : CellsAt w b 0 cs) (hb : Below B w w') (hB : b < B) : CellsAt w' b 0 cs :=
  fun j hj => (hb.cell (p := ⟨b, 0 + j, none⟩) hB).trans (h j hj)
theorem ByFr.less {N M t : Nat} {w : World} {v : Value} {bs : List Int} (hM : M ≤ N) (h : ByFr N t w v bs) : ByFr M t w v bs := by
  rcases h with h | ⟨g, cap, f, h1, h2, h3⟩
  · exact Or.inl h
  · exact Or.inr ⟨g, cap, f, h1, Nat.le_trans hM h2, h3⟩
/-- Behind a word's marks bytes of another block lie as they did. -/
theorem ByFr.only4 {N t : Nat} {w w' : World} {v vi vv ve vo : Value} {bs : List Int} (h : ByFr N t w v bs) (ho : Only4 vi vv ve vo w w') (hne : ∀ g, v.ownBlock = some g → vi.ownBlock ≠ some g ∧ vv.ownBlock ≠ some g ∧ ve.ownBlock ≠ some g ∧ vo.ownBlock ≠ some g) : ByFr N t w' v bs :=
  h.block (fun g hg hl => ho.other g hl (hne g hg).1 (hne g hg).2.1 (hne g hg).2.2.1 (hne g hg).2.2.2)

set_option maxRecDepth 100000 in
set_option maxHeartbeats 8000000 in
theorem lawWordPack_walk (n : WordV) (vi vv ve vo : Value) (w : World) (h : WordAt w n vi vv ve vo) :
    Calls Try.prog 4 #[wordAgg n vi vv ve vo] w fun e w' => e = .returned (.bool true) ∧ Below w.heap.size w w' := by
  have hqm : ∀ z : Int, (z != z) = false := by intro z; simp
  obtain ⟨⟨a0, ac0, e1⟩, ⟨a1, ac1, e2⟩, ⟨a2, ac2, e3⟩, ⟨a3, ac3, e4⟩⟩ := h.sliced
  subst e1 e2 e3 e4
  have hb0 : Below w.heap.size w (w.alloc (.cells #[.int .i64 n.kind, .int .i64 n.frm, .int .i64 n.dst, .int .i64 n.inc, .int .i64 n.ver, .int .i64 n.rd, .int .i64 n.g, .slice a0 n.incs.length ac0, .slice a1 n.vers.length ac1, .slice a2 n.evs.length ac2, .slice a3 n.outs.length ac3] 38)) := (Below.refl _ _).alloc (Nat.le_refl _) _
  have H := hide (h.on hb0)
  have HH := hide h
  have B0 := hide (cellsAt_new w [.int .i64 n.kind, .int .i64 n.frm, .int .i64 n.dst, .int .i64 n.inc, .int .i64 n.ver, .int .i64 n.rd, .int .i64 n.g, .slice a0 n.incs.length ac0, .slice a1 n.vers.length ac1, .slice a2 n.evs.length ac2, .slice a3 n.outs.length ac3] 38)
  have HB0 := hide hb0
  have HS0 : Hid ((w.alloc (.cells #[.int .i64 n.kind, .int .i64 n.frm, .int .i64 n.dst, .int .i64 n.inc, .int .i64 n.ver, .int .i64 n.rd, .int .i64 n.g, .slice a0 n.incs.length ac0, .slice a1 n.vers.length ac1, .slice a2 n.evs.length ac2, .slice a3 n.outs.length ac3] 38)).heap.size = w.heap.size + 1) := hide (by simp)
  clear h hb0
  go_enter Try.func4, Try.ntmps4
  go_wp2_with fail
  change Hid (CellsAt (w.alloc (.cells #[.int .i64 n.kind, .int .i64 n.frm, .int .i64 n.dst, .int .i64 n.inc, .int .i64 n.ver, .int .i64 n.rd, .int .i64 n.g, .slice a0 n.incs.length ac0, .slice a1 n.vers.length ac1, .slice a2 n.evs.length ac2, .slice a3 n.outs.length ac3] 38)) _ _ _) at B0
  generalize (w.alloc (.cells #[.int .i64 n.kind, .int .i64 n.frm, .int .i64 n.dst, .int .i64 n.inc, .int .i64 n.ver, .int .i64 n.rd, .int .i64 n.g, .slice a0 n.incs.length ac0, .slice a1 n.vers.length ac1, .slice a2 n.evs.length ac2, .slice a3 n.outs.length ac3] 38)) = W0 at *
  refine (szWord_any n _ _ _ _ 1048576 _ (unhide H) (by omega) (by omega)).mono ?_
  rintro e w1 ⟨r, rfl, hr, hb1⟩
  rcases hr with rfl | ⟨hr0, hrle, hl0, hl1, hl2, hl3⟩
  · go_wp2_with fail
    go_ret
    exact ⟨rfl, below_then (unhide HB0) hb1⟩
  have HL0 : Hid (n.incs.length ≤ 1048576) := hide (by omega)
  have HL1 : Hid (n.vers.length ≤ 1048576) := hide (by omega)
  have HL2 : Hid (n.evs.length ≤ 1048576) := hide (by omega)
  have HL3 : Hid (n.outs.length ≤ 1048576) := hide (by omega)
  have H1 := hide ((unhide H).on hb1)
  have B1 := hide ((unhide B0).on hb1)
  have HB1 := hide (below_then (unhide HB0) hb1)
  have HS1 : Hid (w.heap.size + 1 ≤ w1.heap.size) := hide (by have := unhide HS0; have := hb1.size; omega)
  clear hl0 hl1 hl2 hl3 H B0 HB0 hb1 HS0
  have n0 : w1.cell? ⟨w.heap.size, 0, none⟩ = some (.int .i64 n.kind) := (unhide B1) 0 (by simp)
  have n1 : w1.cell? ⟨w.heap.size, 1, none⟩ = some (.int .i64 n.frm) := (unhide B1) 1 (by simp)
  have n2 : w1.cell? ⟨w.heap.size, 2, none⟩ = some (.int .i64 n.dst) := (unhide B1) 2 (by simp)
  have n3 : w1.cell? ⟨w.heap.size, 3, none⟩ = some (.int .i64 n.inc) := (unhide B1) 3 (by simp)
  have n4 : w1.cell? ⟨w.heap.size, 4, none⟩ = some (.int .i64 n.ver) := (unhide B1) 4 (by simp)
  have n5 : w1.cell? ⟨w.heap.size, 5, none⟩ = some (.int .i64 n.rd) := (unhide B1) 5 (by simp)
  have n6 : w1.cell? ⟨w.heap.size, 6, none⟩ = some (.int .i64 n.g) := (unhide B1) 6 (by simp)
  have n7 : w1.cell? ⟨w.heap.size, 7, none⟩ = some (.slice a0 n.incs.length ac0) := (unhide B1) 7 (by simp)
  have n8 : w1.cell? ⟨w.heap.size, 8, none⟩ = some (.slice a1 n.vers.length ac1) := (unhide B1) 8 (by simp)
  have n9 : w1.cell? ⟨w.heap.size, 9, none⟩ = some (.slice a2 n.evs.length ac2) := (unhide B1) 9 (by simp)
  have n10 : w1.cell? ⟨w.heap.size, 10, none⟩ = some (.slice a3 n.outs.length ac3) := (unhide B1) 10 (by simp)
  go_wp2_with fail
  clear n0 n1 n2 n3 n4 n5 n6 n7 n8 n9 n10
  refine (toWordA_any n _ _ _ _ _ (unhide H1) (unhide HL0) (unhide HL1) (unhide HL2) (unhide HL3)).mono ?_
  rintro e w2 ⟨u0, u1, u2, u3, rfl, hf2, _, hb2⟩
  go_wp2_with fail
  refine (specWordPack_any n _ _ _ _ _ hf2.at).mono ?_
  rintro e w3 ⟨vW, rfl, hW3, hb3⟩
  have HW3 := hide (ByFr.of_owns hW3)
  change Hid (ByFr w2.heap.size 5 w3 vW (packedB n)) at HW3
  have hb23 := below_then hb2 hb3
  have H3 := hide ((unhide H1).on hb23)
  have B3 := hide ((unhide B1).on hb23)
  have HB3 := hide (below_then (unhide HB1) hb23)
  have HS3 : Hid (w.heap.size + 1 ≤ w3.heap.size) := hide (by have := unhide HS1; have := hb23.size; omega)
  have HSb : Hid (w.heap.size + 1 ≤ w2.heap.size) := hide (by have := unhide HS1; have := hb2.size; omega)
  clear hf2 hb2 hb3 hb23 H1 B1 HB1 hW3 HS1
  have n0 : w3.cell? ⟨w.heap.size, 0, none⟩ = some (.int .i64 n.kind) := (unhide B3) 0 (by simp)
  have n1 : w3.cell? ⟨w.heap.size, 1, none⟩ = some (.int .i64 n.frm) := (unhide B3) 1 (by simp)
  have n2 : w3.cell? ⟨w.heap.size, 2, none⟩ = some (.int .i64 n.dst) := (unhide B3) 2 (by simp)
  have n3 : w3.cell? ⟨w.heap.size, 3, none⟩ = some (.int .i64 n.inc) := (unhide B3) 3 (by simp)
  have n4 : w3.cell? ⟨w.heap.size, 4, none⟩ = some (.int .i64 n.ver) := (unhide B3) 4 (by simp)
  have n5 : w3.cell? ⟨w.heap.size, 5, none⟩ = some (.int .i64 n.rd) := (unhide B3) 5 (by simp)
  have n6 : w3.cell? ⟨w.heap.size, 6, none⟩ = some (.int .i64 n.g) := (unhide B3) 6 (by simp)
  have n7 : w3.cell? ⟨w.heap.size, 7, none⟩ = some (.slice a0 n.incs.length ac0) := (unhide B3) 7 (by simp)
  have n8 : w3.cell? ⟨w.heap.size, 8, none⟩ = some (.slice a1 n.vers.length ac1) := (unhide B3) 8 (by simp)
  have n9 : w3.cell? ⟨w.heap.size, 9, none⟩ = some (.slice a2 n.evs.length ac2) := (unhide B3) 9 (by simp)
  have n10 : w3.cell? ⟨w.heap.size, 10, none⟩ = some (.slice a3 n.outs.length ac3) := (unhide B3) 10 (by simp)
  go_wp2_with fail
  clear n0 n1 n2 n3 n4 n5 n6 n7 n8 n9 n10
  refine (toWordA_any n _ _ _ _ _ (unhide H3) (unhide HL0) (unhide HL1) (unhide HL2) (unhide HL3)).mono ?_
  rintro e w4 ⟨x0, x1, x2, x3, rfl, hf4, hap4, hb4⟩
  obtain ⟨⟨d0, dc0, e1⟩, ⟨d1, dc1, e2⟩, ⟨d2, dc2, e3⟩, ⟨d3, dc3, e4⟩⟩ := hf4.at.sliced
  subst e1 e2 e3 e4
  have hx : Below w4.heap.size w4 (w4.alloc (.cells #[.int .i64 n.kind, .int .i64 n.frm, .int .i64 n.dst, .int .i64 n.inc, .int .i64 n.ver, .int .i64 n.rd, .int .i64 n.g, .slice d0 n.incs.length dc0, .slice d1 n.vers.length dc1, .slice d2 n.evs.length dc2, .slice d3 n.outs.length dc3] 27)) := (Below.refl _ _).alloc (Nat.le_refl _) _
  have hb5 := below_then hb4 hx
  have H5 := hide ((unhide H3).on hb5)
  have B5 := hide ((unhide B3).on hb5)
  have HB5 := hide (below_then (unhide HB3) hb5)
  have HW5 := hide ((unhide HW3).on hb5)
  have F5 := hide (hf4.on hx)
  have AP := hide hap4
  have HLT : Hid (∀ g, (Value.ownBlock (.slice d0 n.incs.length dc0) = some g → w3.heap.size < g ∧ g < w4.heap.size) ∧ (Value.ownBlock (.slice d1 n.vers.length dc1) = some g → w3.heap.size < g ∧ g < w4.heap.size) ∧ (Value.ownBlock (.slice d2 n.evs.length dc2) = some g → w3.heap.size < g ∧ g < w4.heap.size) ∧ (Value.ownBlock (.slice d3 n.outs.length dc3) = some g → w3.heap.size < g ∧ g < w4.heap.size)) := hide (fun g => ⟨fun e => hf4.i.blk g e, fun e => hf4.v.blk g e, fun e => hf4.e.blk g e, fun e => hf4.o.blk g e⟩)
  have C5 := hide (cellsAt_new w4 [.int .i64 n.kind, .int .i64 n.frm, .int .i64 n.dst, .int .i64 n.inc, .int .i64 n.ver, .int .i64 n.rd, .int .i64 n.g, .slice d0 n.incs.length dc0, .slice d1 n.vers.length dc1, .slice d2 n.evs.length dc2, .slice d3 n.outs.length dc3] 27)
  have HS5 : Hid ((w4.alloc (.cells #[.int .i64 n.kind, .int .i64 n.frm, .int .i64 n.dst, .int .i64 n.inc, .int .i64 n.ver, .int .i64 n.rd, .int .i64 n.g, .slice d0 n.incs.length dc0, .slice d1 n.vers.length dc1, .slice d2 n.evs.length dc2, .slice d3 n.outs.length dc3] 27)).heap.size = w4.heap.size + 1) := hide (by simp)
  have HS4 := hide hb4.size
  have HWb : Hid (∀ g, vW.ownBlock = some g → w2.heap.size ≤ g ∧ g < w3.heap.size) := hide ((unhide HW3).blk)
  clear hf4 hb4 hx hb5 hap4 H3 B3 HB3 HW3
  go_upto_region 7 with fail
  change Hid (CellsAt (w4.alloc (.cells #[.int .i64 n.kind, .int .i64 n.frm, .int .i64 n.dst, .int .i64 n.inc, .int .i64 n.ver, .int .i64 n.rd, .int .i64 n.g, .slice d0 n.incs.length dc0, .slice d1 n.vers.length dc1, .slice d2 n.evs.length dc2, .slice d3 n.outs.length dc3] 27)) _ _ _) at C5
  generalize (w4.alloc (.cells #[.int .i64 n.kind, .int .i64 n.frm, .int .i64 n.dst, .int .i64 n.inc, .int .i64 n.ver, .int .i64 n.rd, .int .i64 n.g, .slice d0 n.incs.length dc0, .slice d1 n.vers.length dc1, .slice d2 n.evs.length dc2, .slice d3 n.outs.length dc3] 27)) = W5 at *
  generalize w4.heap.size = q5 at *
  have n0 : W5.cell? ⟨q5, 0, none⟩ = some (.int .i64 n.kind) := (unhide C5) 0 (by simp)
  have n1 : W5.cell? ⟨q5, 1, none⟩ = some (.int .i64 n.frm) := (unhide C5) 1 (by simp)
  have n2 : W5.cell? ⟨q5, 2, none⟩ = some (.int .i64 n.dst) := (unhide C5) 2 (by simp)
  have n3 : W5.cell? ⟨q5, 3, none⟩ = some (.int .i64 n.inc) := (unhide C5) 3 (by simp)
  have n4 : W5.cell? ⟨q5, 4, none⟩ = some (.int .i64 n.ver) := (unhide C5) 4 (by simp)
  have n5 : W5.cell? ⟨q5, 5, none⟩ = some (.int .i64 n.rd) := (unhide C5) 5 (by simp)
  have n6 : W5.cell? ⟨q5, 6, none⟩ = some (.int .i64 n.g) := (unhide C5) 6 (by simp)
  have n7 : W5.cell? ⟨q5, 7, none⟩ = some (.slice d0 n.incs.length dc0) := (unhide C5) 7 (by simp)
  have n8 : W5.cell? ⟨q5, 8, none⟩ = some (.slice d1 n.vers.length dc1) := (unhide C5) 8 (by simp)
  have n9 : W5.cell? ⟨q5, 9, none⟩ = some (.slice d2 n.evs.length dc2) := (unhide C5) 9 (by simp)
  have n10 : W5.cell? ⟨q5, 10, none⟩ = some (.slice d3 n.outs.length dc3) := (unhide C5) 10 (by simp)
  go_wp2_with fail
  clear n0 n1 n2 n3 n4 n5 n6 n7 n8 n9 n10
  refine (implWordPack_any n _ _ _ _ _ (unhide F5).at).mono ?_
  rintro e w6 ⟨vG, rfl, hG6, hb6⟩
  have HG6 := hide (ByFr.of_owns hG6)
  change Hid (ByFr W5.heap.size 5 w6 vG (packedB n)) at HG6
  have H6 := hide ((unhide H5).on hb6)
  have B6 := hide ((unhide B5).on hb6)
  have HB6 := hide (below_then (unhide HB5) hb6)
  have F6 := hide ((unhide F5).on hb6)
  have C6 := hide ((unhide C5).on hb6)
  have HW6 := hide ((unhide HW5).on hb6)
  clear hb6 H5 B5 HB5 F5 C5 HW5 hG6
  go_wp2_with fail
  refine (eqByteS_any _ _ (packedB n) _ (unhide HG6).at (unhide HW6).at).mono ?_
  rintro e w7 ⟨rfl, hb7⟩
  have H7 := hide ((unhide H6).on hb7)
  have B7 := hide ((unhide B6).on hb7)
  have HB7 := hide (below_then (unhide HB6) hb7)
  have F7 := hide ((unhide F6).on hb7)
  have C7 := hide ((unhide C6).on hb7)
  have HW7 := hide ((unhide HW6).on hb7)
  have HG7 := hide ((unhide HG6).on hb7)
  clear hb7 H6 B6 HB6 F6 C6 HW6 HG6
  go_upto_region 10 with fail
  go_region_held3 (fun w' => w'.cell? ⟨w.heap.size, 0, none⟩ = some (.int .i64 n.kind) ∧ w'.cell? ⟨w.heap.size, 1, none⟩ = some (.int .i64 n.frm) ∧ w'.cell? ⟨w.heap.size, 2, none⟩ = some (.int .i64 n.dst) ∧ w'.cell? ⟨w.heap.size, 3, none⟩ = some (.int .i64 n.inc) ∧ w'.cell? ⟨w.heap.size, 4, none⟩ = some (.int .i64 n.ver) ∧ w'.cell? ⟨w.heap.size, 5, none⟩ = some (.int .i64 n.rd) ∧ w'.cell? ⟨w.heap.size, 6, none⟩ = some (.int .i64 n.g) ∧ w'.cell? ⟨w.heap.size, 7, none⟩ = some (.slice a0 n.incs.length ac0) ∧ w'.cell? ⟨w.heap.size, 8, none⟩ = some (.slice a1 n.vers.length ac1) ∧ w'.cell? ⟨w.heap.size, 9, none⟩ = some (.slice a2 n.evs.length ac2) ∧ w'.cell? ⟨w.heap.size, 10, none⟩ = some (.slice a3 n.outs.length ac3) ∧ w'.cell? ⟨q5, 0, none⟩ = some (.int .i64 n.kind) ∧ w'.cell? ⟨q5, 1, none⟩ = some (.int .i64 n.frm) ∧ w'.cell? ⟨q5, 2, none⟩ = some (.int .i64 n.dst) ∧ w'.cell? ⟨q5, 3, none⟩ = some (.int .i64 n.inc) ∧ w'.cell? ⟨q5, 4, none⟩ = some (.int .i64 n.ver) ∧ w'.cell? ⟨q5, 5, none⟩ = some (.int .i64 n.rd) ∧ w'.cell? ⟨q5, 6, none⟩ = some (.int .i64 n.g) ∧ w'.cell? ⟨q5, 7, none⟩ = some (.slice d0 n.incs.length dc0) ∧ w'.cell? ⟨q5, 8, none⟩ = some (.slice d1 n.vers.length dc1) ∧ w'.cell? ⟨q5, 9, none⟩ = some (.slice d2 n.evs.length dc2) ∧ w'.cell? ⟨q5, 10, none⟩ = some (.slice d3 n.outs.length dc3) ∧ Below w7.heap.size w7 w')
    ((go_split_ands; refine sWp_of (unhide B7) (unhide C7) ?_; first | exact (Below.refl _ _).drew | exact below_then (by assumption) hba | exact below_then (by assumption) hbe))
    (first
      | (go_at_call 14; refine (toWordA_any n _ _ _ _ _ ((unhide H7).on (by go_split_ands; assumption)) (unhide HL0) (unhide HL1) (unhide HL2) (unhide HL3)).mono ?_; rintro e wa ⟨va0, va1, va2, va3, rfl, hfr, _, hba⟩; have hBa := below_then (a := w7) (by go_split_ands; assumption) hba)
      | (go_at_call 16; refine (eqWord_any n _ _ _ _ _ _ _ _ _ ((unhide F7).on hBa).at hfr.at).mono ?_; rintro e we ⟨rfl, hbe⟩; have hBe := below_then hBa hbe))
  have H8 := hide ((unhide H7).on hBe)
  have B8 := hide ((unhide B7).on hBe)
  have HB8 := hide (below_then (unhide HB7) hBe)
  have F8 := hide ((unhide F7).on hBe)
  have C8 := hide ((unhide C7).on hBe)
  have HW8 := hide ((unhide HW7).on hBe)
  have HG8 := hide ((unhide HG7).on hBe)
  clear hBa hba hbe hfr H7 B7 HB7 F7 C7 HW7 HG7
  clear hBe
  have n0 : we.cell? ⟨q5, 0, none⟩ = some (.int .i64 n.kind) := (unhide C8) 0 (by simp)
  have n1 : we.cell? ⟨q5, 1, none⟩ = some (.int .i64 n.frm) := (unhide C8) 1 (by simp)
  have n2 : we.cell? ⟨q5, 2, none⟩ = some (.int .i64 n.dst) := (unhide C8) 2 (by simp)
  have n3 : we.cell? ⟨q5, 3, none⟩ = some (.int .i64 n.inc) := (unhide C8) 3 (by simp)
  have n4 : we.cell? ⟨q5, 4, none⟩ = some (.int .i64 n.ver) := (unhide C8) 4 (by simp)
  have n5 : we.cell? ⟨q5, 5, none⟩ = some (.int .i64 n.rd) := (unhide C8) 5 (by simp)
  have n6 : we.cell? ⟨q5, 6, none⟩ = some (.int .i64 n.g) := (unhide C8) 6 (by simp)
  have n7 : we.cell? ⟨q5, 7, none⟩ = some (.slice d0 n.incs.length dc0) := (unhide C8) 7 (by simp)
  have n8 : we.cell? ⟨q5, 8, none⟩ = some (.slice d1 n.vers.length dc1) := (unhide C8) 8 (by simp)
  have n9 : we.cell? ⟨q5, 9, none⟩ = some (.slice d2 n.evs.length dc2) := (unhide C8) 9 (by simp)
  have n10 : we.cell? ⟨q5, 10, none⟩ = some (.slice d3 n.outs.length dc3) := (unhide C8) 10 (by simp)
  go_wp2_with fail
  clear n0 n1 n2 n3 n4 n5 n6 n7 n8 n9 n10
  refine (markWord_any (w3.heap.size + 1) n _ _ _ _ 1 _ (unhide F8) (unhide AP) (unhide HL0) (unhide HL1) (unhide HL2) (unhide HL3) (by omega) (by omega)).mono ?_
  rintro e w9 ⟨rfl, _, hOn⟩
  have hs8 : w.heap.size < we.heap.size := World.block_lt_of_cell? _ _ ((unhide B8) 0 (by simp))
  have hB9 : Below (w.heap.size + 1) we w9 := hOn.below (w.heap.size + 1) (by omega) (fun g hg => by
    have h1 := (unhide HLT) g; have h2 := unhide HS3
    rcases hg with e | e | e | e
    · have := h1.1 e; omega
    · have := h1.2.1 e; omega
    · have := h1.2.2.1 e; omega
    · have := h1.2.2.2 e; omega)
  have B9 := hide ((unhide B8).below hB9 (by omega))
  have HB9 := hide ((unhide HB8).trans (hB9.mono (by omega)))
  have HW9 := hide ((unhide HW8).only4 hOn (fun g hg => by
    have h0 := (unhide HWb) g hg; have h1 := (unhide HLT) g
    exact ⟨fun e => by have := h1.1 e; omega, fun e => by have := h1.2.1 e; omega, fun e => by have := h1.2.2.1 e; omega, fun e => by have := h1.2.2.2 e; omega⟩))
  have HG9 := hide ((unhide HG8).only4 hOn (fun g hg => by
    have h0 := ((unhide HG8).blk g hg).1; have h1 := (unhide HLT) g; have h2 := unhide HS5
    exact ⟨fun e => by have := h1.1 e; omega, fun e => by have := h1.2.1 e; omega, fun e => by have := h1.2.2.1 e; omega, fun e => by have := h1.2.2.2 e; omega⟩))
  obtain ⟨K, hK⟩ : ∃ K : Int, K = 1 + wordSz n := ⟨_, rfl⟩
  have hK0 : 0 ≤ K := by rw [hK]; unfold wordSz; omega
  rw [← hK]
  clear hOn hs8 hB9 hK B8 HB8 F8 C8 H8 HW8 HG8
  go_wp2_with fail
  refine (eqByteS_any _ _ (packedB n) _ (unhide HG9).at (unhide HW9).at).mono ?_
  rintro e w10 ⟨rfl, hb10⟩
  have B10 := hide ((unhide B9).on hb10)
  have HB10 := hide (below_then (unhide HB9) hb10)
  have HW10 := hide ((unhide HW9).on hb10)
  have HG10 := hide ((unhide HG9).on hb10)
  clear hb10 B9 HB9 HW9 HG9
  go_wp2_with fail
  have hpl := packedB_len n
  refine (markByteS_any W5.heap.size 5 _ (packedB n) 1 _ (unhide HG10) (by omega) (by omega) (by omega)).mono ?_
  rintro e w11 ⟨rfl, hG11, hO11⟩
  have hB11 : Below (w.heap.size + 1) w10 w11 := hO11.below (w.heap.size + 1) (fun g hg => by have := ((unhide HG10).blk g hg).1; have := unhide HS5; have := unhide HS4; have := unhide HS3; omega)
  have B11 := hide ((unhide B10).below hB11 (by omega))
  have HB11 := hide ((unhide HB10).trans (hB11.mono (by omega)))
  have HW11 := hide ((unhide HW10).other hO11 (by
    cases hu : vW.ownBlock with
    | none => exact Or.inl rfl
    | some g => exact Or.inr (fun e => by have h1 := (unhide HWb) g hu; have h2 := ((unhide HG10).blk g e.symm).1; have := unhide HS5; have := unhide HS4; omega)))
  have HG11 := hide hG11
  obtain ⟨len, hlen⟩ : ∃ l, l = (packedB n).length := ⟨_, rfl⟩
  rw [← hlen] at hpl HG11 ⊢
  clear hG11 hO11 hB11 B10 HB10 HW10 HG10 hlen
  go_wp2_with fail
  refine (heldByteS_any _ len 1 _ (unhide HG11).at (by omega) (by omega) (by omega)).mono ?_
  rintro e w12 ⟨rfl, hw12⟩
  obtain rfl := hw12.symm
  have hM0 : 0 ≤ 1 + (len : Int) := by omega
  have n0 : w11.cell? ⟨w.heap.size, 0, none⟩ = some (.int .i64 n.kind) := (unhide B11) 0 (by simp)
  have n1 : w11.cell? ⟨w.heap.size, 1, none⟩ = some (.int .i64 n.frm) := (unhide B11) 1 (by simp)
  have n2 : w11.cell? ⟨w.heap.size, 2, none⟩ = some (.int .i64 n.dst) := (unhide B11) 2 (by simp)
  have n3 : w11.cell? ⟨w.heap.size, 3, none⟩ = some (.int .i64 n.inc) := (unhide B11) 3 (by simp)
  have n4 : w11.cell? ⟨w.heap.size, 4, none⟩ = some (.int .i64 n.ver) := (unhide B11) 4 (by simp)
  have n5 : w11.cell? ⟨w.heap.size, 5, none⟩ = some (.int .i64 n.rd) := (unhide B11) 5 (by simp)
  have n6 : w11.cell? ⟨w.heap.size, 6, none⟩ = some (.int .i64 n.g) := (unhide B11) 6 (by simp)
  have n7 : w11.cell? ⟨w.heap.size, 7, none⟩ = some (.slice a0 n.incs.length ac0) := (unhide B11) 7 (by simp)
  have n8 : w11.cell? ⟨w.heap.size, 8, none⟩ = some (.slice a1 n.vers.length ac1) := (unhide B11) 8 (by simp)
  have n9 : w11.cell? ⟨w.heap.size, 9, none⟩ = some (.slice a2 n.evs.length ac2) := (unhide B11) 9 (by simp)
  have n10 : w11.cell? ⟨w.heap.size, 10, none⟩ = some (.slice a3 n.outs.length ac3) := (unhide B11) 10 (by simp)
  generalize hMq : 1 + (len : Int) = M at *
  have HMq := hide hMq
  have HPL := hide hpl
  clear hMq hpl
  go_wp2_with fail
  clear n0 n1 n2 n3 n4 n5 n6 n7 n8 n9 n10
  refine (toWordA_any n _ _ _ _ _ ((unhide HH).on (unhide HB11)) (unhide HL0) (unhide HL1) (unhide HL2) (unhide HL3)).mono ?_
  rintro e w13 ⟨y0, y1, y2, y3, rfl, hf13, _, hb13⟩
  go_wp2_with fail
  refine (implWordPack_any n _ _ _ _ _ hf13.at).mono ?_
  rintro e w14 ⟨vH, rfl, hH14, hb14⟩
  have HH14 := hide (ByFr.of_owns hH14)
  change Hid (ByFr w13.heap.size 5 w14 vH (packedB n)) at HH14
  have hb := below_then hb13 hb14
  have HB14 := hide (below_then (unhide HB11) hb)
  have HW14 := hide ((unhide HW11).on hb)
  have HG14 := hide ((unhide HG11).on hb)
  clear hf13 hb13 hb14 hH14 hb HB11 HW11 HG11 B11
  go_wp2_with fail
  refine (eqByteS_any _ _ (packedB n) _ (unhide HH14).at (unhide HW14).at).mono ?_
  rintro e w15 ⟨rfl, hb15⟩
  have HB15 := hide (below_then (unhide HB14) hb15)
  have HG15 := hide ((unhide HG14).on hb15)
  clear hb15 HB14 HW14 HG14 HH14
  go_wp2_with fail
  refine (heldByteS_any _ len 1 _ (unhide HG15).at (by have := unhide HPL; omega) (by omega) (by omega)).mono ?_
  rintro e w16 ⟨rfl, hw16⟩
  obtain rfl := hw16.symm
  rw [unhide HMq]
  go_wp2_with fail
  go_ret
  exact ⟨rfl, unhide HB15⟩
end Go.Proofs.Ytiljjhipiinafaa
