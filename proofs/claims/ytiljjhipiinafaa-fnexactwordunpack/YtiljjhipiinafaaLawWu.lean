/- The walk of laws.FnExactWordUnpack: it answers true. -/
import Derived.Test.YtiljjhipiinafaaWire19
import Derived.Test.YtiljjhipiinafaaLawWp
import Derived.Deep.Cut
namespace Go.Proofs.Ytiljjhipiinafaa
open Go.RowKit
set_option linter.unusedVariables false
set_option linter.unusedSimpArgs false

theorem bytes_of_fr {N t : Nat} {w : World} {v : Value} {bs : List Int} (h : ByFr N t w v bs) (hr : ∀ z ∈ bs, 0 ≤ z ∧ z ≤ 255) : BytesAt w v bs := by
  have ha := h.at
  rcases h with ⟨rfl, rfl⟩ | ⟨g, cap, f, rfl, _, hl, hm, hrow, hf⟩
  · exact ⟨none, 0, rfl, Nat.le_refl _, Nat.zero_le _, (fun z hz => by cases hz), fun _ => rfl, Or.inl rfl⟩
  · obtain ⟨ad, cap', e, _, _, hc⟩ := ha
    simp only [Value.slice.injEq] at e
    obtain ⟨rfl, _, rfl⟩ := e
    exact ⟨some ⟨g, 0, none⟩, cap, rfl, hl, hm, hr, (fun h => by cases h), hc⟩
theorem same_word {bs : List Int} {n m : WordV} {b c : Bool} (hS : (b = true ∧ wordOk n = true ∧ packW n = bs) ∨ (b = false ∧ n = zeroW ∧ ∀ n0, wordOk n0 = true → packW n0 ≠ bs))
    (hI : (c = true ∧ wordOk m = true ∧ packW m = bs ∧ ∀ n0, wordOk n0 = true → packW n0 = bs → m = n0) ∨ (c = false ∧ m = zeroW ∧ ∀ n0, wordOk n0 = true → packW n0 ≠ bs)) : n = m ∧ b = c := by
  rcases hS with ⟨h1, h2, h3⟩ | ⟨h1, h2, h3⟩
  · rcases hI with ⟨k1, k2, k3, k4⟩ | ⟨k1, k2, k3⟩
    · exact ⟨(k4 n h2 h3).symm, h1.trans k1.symm⟩
    · exact absurd h3 (k3 n h2)
  · rcases hI with ⟨k1, k2, k3, k4⟩ | ⟨k1, k2, k3⟩
    · exact absurd k3 (h3 m k2)
    · exact ⟨h2.trans k2.symm, h1.trans k1.symm⟩
theorem few_word {bs : List Int} {n : WordV} {b : Bool} (hS : (b = true ∧ wordOk n = true ∧ packW n = bs) ∨ (b = false ∧ n = zeroW ∧ ∀ n0, wordOk n0 = true → packW n0 ≠ bs)) :
    n.incs.length ≤ 1048576 ∧ n.vers.length ≤ 1048576 ∧ n.evs.length ≤ 1048576 ∧ n.outs.length ≤ 1048576 := by
  rcases hS with ⟨h1, h2, h3⟩ | ⟨h1, h2, h3⟩
  · have h := wordOk_in h2
    have := h.incs.1; have := h.vers.1; have := h.evs.1; have := h.outs.1
    omega
  · rw [h2]; simp [zeroW]
theorem WordFr.blockN {N : Nat} {w w' : World} {n : WordV} {vi vv ve vo : Value} (hb : ∀ g, N ≤ g → g < w.heap.size → w'.heap[g]? = w.heap[g]?) (h : WordFr N w n vi vv ve vo) : WordFr N w' n vi vv ve vo :=
  ⟨h.i.block (fun g hg hl => hb g (h.i.blk g hg).1 hl), h.v.block (fun g hg hl => hb g (h.v.blk g hg).1 hl), h.e.block (fun g hg hl => hb g (h.e.blk g hg).1 hl), h.o.block (fun g hg hl => hb g (h.o.blk g hg).1 hl)⟩
theorem CellsAt.blockq {w w' : World} {q : Nat} {cs : List Value} (h : CellsAt w q 0 cs) (hb : w'.heap[q]? = w.heap[q]?) : CellsAt w' q 0 cs :=
  fun j hj => (World.cell?_of_block (a := ⟨q, 0 + j, none⟩) hb).trans (h j hj)

set_option maxRecDepth 100000 in
set_option maxHeartbeats 8000000 in
theorem lawWordUnpack_walk (v : Value) (bs : List Int) (w : World) (h : BytesAt w v bs) :
    Calls Try.prog 5 #[v] w fun e w' => e = .returned (.bool true) ∧ Below w.heap.size w w' := by
  have hqm : ∀ z : Int, (z != z) = false := by intro z; simp
  have HH := hide h
  obtain ⟨ad, cap, rfl, _, _, hrg, _⟩ := h
  have HR := hide hrg
  clear hrg
  go_enter Try.func5, Try.ntmps5
  by_cases hl : bs.length ≤ 1048576
  rotate_left
  · have hlI : (1048576 : Int) < (bs.length : Int) := by omega
    go_wp2_with fail
    go_ret
    exact ⟨rfl, Below.refl _ _⟩
  have hlI : ¬ ((1048576 : Int) < (bs.length : Int)) := by omega
  have HL := hide hl
  clear hl
  go_wp2_with fail
  refine (toByteS_any _ bs _ (unhide HH).by (unhide HL)).mono ?_
  rintro e w1 ⟨v1, rfl, h1, hb1⟩
  have H1 := hide (bytes_of_fr h1 (unhide HR))
  have HB1 := hide hb1
  clear h1 hb1
  go_wp2_with fail
  refine (specWordUnpack_any _ bs _ (unhide H1) (unhide HL)).mono ?_
  rintro e w2 ⟨n, ok, u0, u1, u2, u3, rfl, hff, hb2, hS⟩
  obtain ⟨⟨a0, ac0, e1⟩, ⟨a1, ac1, e2⟩, ⟨a2, ac2, e3⟩, ⟨a3, ac3, e4⟩⟩ := hff.at.sliced
  subst e1 e2 e3 e4
  have hx : Below w2.heap.size w2 (w2.alloc (.cells #[.int .i64 n.kind, .int .i64 n.frm, .int .i64 n.dst, .int .i64 n.inc, .int .i64 n.ver, .int .i64 n.rd, .int .i64 n.g, .slice a0 n.incs.length ac0, .slice a1 n.vers.length ac1, .slice a2 n.evs.length ac2, .slice a3 n.outs.length ac3] 27)) := (Below.refl _ _).alloc (Nat.le_refl _) _
  have HB3 := hide (below_then (below_then (unhide HB1) hb2) hx)
  have HSW := hide (hff.at.on hx)
  have HC3 := hide (cellsAt_new w2 [.int .i64 n.kind, .int .i64 n.frm, .int .i64 n.dst, .int .i64 n.inc, .int .i64 n.ver, .int .i64 n.rd, .int .i64 n.g, .slice a0 n.incs.length ac0, .slice a1 n.vers.length ac1, .slice a2 n.evs.length ac2, .slice a3 n.outs.length ac3] 27)
  have HFW := hide (few_word hS)
  have HSS := hide hS
  clear hff hb2 hS hx HB1 H1
  go_upto_region 4 with fail
  change Hid (CellsAt (w2.alloc (.cells #[.int .i64 n.kind, .int .i64 n.frm, .int .i64 n.dst, .int .i64 n.inc, .int .i64 n.ver, .int .i64 n.rd, .int .i64 n.g, .slice a0 n.incs.length ac0, .slice a1 n.vers.length ac1, .slice a2 n.evs.length ac2, .slice a3 n.outs.length ac3] 27)) _ _ _) at HC3
  generalize (w2.alloc (.cells #[.int .i64 n.kind, .int .i64 n.frm, .int .i64 n.dst, .int .i64 n.inc, .int .i64 n.ver, .int .i64 n.rd, .int .i64 n.g, .slice a0 n.incs.length ac0, .slice a1 n.vers.length ac1, .slice a2 n.evs.length ac2, .slice a3 n.outs.length ac3] 27)) = W3 at *
  generalize w2.heap.size = p3 at *
  go_wp2_with fail
  refine (toByteS_any _ bs _ ((unhide HH).on (unhide HB3)).by (unhide HL)).mono ?_
  rintro e w4 ⟨vx, rfl, hx4, hb4⟩
  have HX := hide hx4
  have HXb := hide hx4.blk
  have HB4 := hide hb4
  have HS4 := hide hb4.size
  clear hx4 hb4
  go_wp2_with fail
  refine (implWordUnpack_any _ bs _ (bytes_of_fr (unhide HX) (unhide HR)) (unhide HL)).mono ?_
  rintro e w5 ⟨m, ok2, g0, g1, g2, g3, rfl, hff, hap, hb5, hI⟩
  obtain ⟨rfl, rfl⟩ := same_word (unhide HSS) hI
  obtain ⟨⟨d0, dc0, e1⟩, ⟨d1, dc1, e2⟩, ⟨d2, dc2, e3⟩, ⟨d3, dc3, e4⟩⟩ := hff.at.sliced
  subst e1 e2 e3 e4
  have hx : Below w5.heap.size w5 (w5.alloc (.cells #[.int .i64 n.kind, .int .i64 n.frm, .int .i64 n.dst, .int .i64 n.inc, .int .i64 n.ver, .int .i64 n.rd, .int .i64 n.g, .slice d0 n.incs.length dc0, .slice d1 n.vers.length dc1, .slice d2 n.evs.length dc2, .slice d3 n.outs.length dc3] 27)) := (Below.refl _ _).alloc (Nat.le_refl _) _
  have HB := hide (below_then (below_then (unhide HB4) hb5) hx)
  have F := hide (hff.on hx)
  have C := hide (cellsAt_new w5 [.int .i64 n.kind, .int .i64 n.frm, .int .i64 n.dst, .int .i64 n.inc, .int .i64 n.ver, .int .i64 n.rd, .int .i64 n.g, .slice d0 n.incs.length dc0, .slice d1 n.vers.length dc1, .slice d2 n.evs.length dc2, .slice d3 n.outs.length dc3] 27)
  replace HX := hide ((unhide HX).on (below_then hb5 hx))
  have AP := hide hap
  have HLT : Hid (∀ g, (Value.ownBlock (.slice d0 n.incs.length dc0) = some g → w4.heap.size ≤ g ∧ g < w5.heap.size) ∧ (Value.ownBlock (.slice d1 n.vers.length dc1) = some g → w4.heap.size ≤ g ∧ g < w5.heap.size) ∧ (Value.ownBlock (.slice d2 n.evs.length dc2) = some g → w4.heap.size ≤ g ∧ g < w5.heap.size) ∧ (Value.ownBlock (.slice d3 n.outs.length dc3) = some g → w4.heap.size ≤ g ∧ g < w5.heap.size)) := hide (fun g => ⟨fun e => hff.i.blk g e, fun e => hff.v.blk g e, fun e => hff.e.blk g e, fun e => hff.o.blk g e⟩)
  have HQ := hide hb5.size
  clear hff hap hb5 hx hI HB4
  go_upto_region 6 with fail
  change Hid (CellsAt (w5.alloc (.cells #[.int .i64 n.kind, .int .i64 n.frm, .int .i64 n.dst, .int .i64 n.inc, .int .i64 n.ver, .int .i64 n.rd, .int .i64 n.g, .slice d0 n.incs.length dc0, .slice d1 n.vers.length dc1, .slice d2 n.evs.length dc2, .slice d3 n.outs.length dc3] 27)) _ _ _) at C
  generalize (w5.alloc (.cells #[.int .i64 n.kind, .int .i64 n.frm, .int .i64 n.dst, .int .i64 n.inc, .int .i64 n.ver, .int .i64 n.rd, .int .i64 n.g, .slice d0 n.incs.length dc0, .slice d1 n.vers.length dc1, .slice d2 n.evs.length dc2, .slice d3 n.outs.length dc3] 27)) = W6 at *
  generalize w5.heap.size = q6 at *
  have hbb : (ok != ok) = false := by cases ok <;> rfl
  have n0 : W6.cell? ⟨q6, 0, none⟩ = some (.int .i64 n.kind) := (unhide C) 0 (by simp)
  have n1 : W6.cell? ⟨q6, 1, none⟩ = some (.int .i64 n.frm) := (unhide C) 1 (by simp)
  have n2 : W6.cell? ⟨q6, 2, none⟩ = some (.int .i64 n.dst) := (unhide C) 2 (by simp)
  have n3 : W6.cell? ⟨q6, 3, none⟩ = some (.int .i64 n.inc) := (unhide C) 3 (by simp)
  have n4 : W6.cell? ⟨q6, 4, none⟩ = some (.int .i64 n.ver) := (unhide C) 4 (by simp)
  have n5 : W6.cell? ⟨q6, 5, none⟩ = some (.int .i64 n.rd) := (unhide C) 5 (by simp)
  have n6 : W6.cell? ⟨q6, 6, none⟩ = some (.int .i64 n.g) := (unhide C) 6 (by simp)
  have n7 : W6.cell? ⟨q6, 7, none⟩ = some (.slice d0 n.incs.length dc0) := (unhide C) 7 (by simp)
  have n8 : W6.cell? ⟨q6, 8, none⟩ = some (.slice d1 n.vers.length dc1) := (unhide C) 8 (by simp)
  have n9 : W6.cell? ⟨q6, 9, none⟩ = some (.slice d2 n.evs.length dc2) := (unhide C) 9 (by simp)
  have n10 : W6.cell? ⟨q6, 10, none⟩ = some (.slice d3 n.outs.length dc3) := (unhide C) 10 (by simp)
  have m0 : W6.cell? ⟨p3, 0, none⟩ = some (.int .i64 n.kind) := ((unhide HC3).on (unhide HB)) 0 (by simp)
  have m1 : W6.cell? ⟨p3, 1, none⟩ = some (.int .i64 n.frm) := ((unhide HC3).on (unhide HB)) 1 (by simp)
  have m2 : W6.cell? ⟨p3, 2, none⟩ = some (.int .i64 n.dst) := ((unhide HC3).on (unhide HB)) 2 (by simp)
  have m3 : W6.cell? ⟨p3, 3, none⟩ = some (.int .i64 n.inc) := ((unhide HC3).on (unhide HB)) 3 (by simp)
  have m4 : W6.cell? ⟨p3, 4, none⟩ = some (.int .i64 n.ver) := ((unhide HC3).on (unhide HB)) 4 (by simp)
  have m5 : W6.cell? ⟨p3, 5, none⟩ = some (.int .i64 n.rd) := ((unhide HC3).on (unhide HB)) 5 (by simp)
  have m6 : W6.cell? ⟨p3, 6, none⟩ = some (.int .i64 n.g) := ((unhide HC3).on (unhide HB)) 6 (by simp)
  have m7 : W6.cell? ⟨p3, 7, none⟩ = some (.slice a0 n.incs.length ac0) := ((unhide HC3).on (unhide HB)) 7 (by simp)
  have m8 : W6.cell? ⟨p3, 8, none⟩ = some (.slice a1 n.vers.length ac1) := ((unhide HC3).on (unhide HB)) 8 (by simp)
  have m9 : W6.cell? ⟨p3, 9, none⟩ = some (.slice a2 n.evs.length ac2) := ((unhide HC3).on (unhide HB)) 9 (by simp)
  have m10 : W6.cell? ⟨p3, 10, none⟩ = some (.slice a3 n.outs.length ac3) := ((unhide HC3).on (unhide HB)) 10 (by simp)
  go_wp2_with fail
  clear n0 n1 n2 n3 n4 n5 n6 n7 n8 n9 n10 m0 m1 m2 m3 m4 m5 m6 m7 m8 m9 m10
  refine (eqWord_any n _ _ _ _ _ _ _ _ _ (unhide F).at ((unhide HSW).on (unhide HB))).mono ?_
  rintro e w7 ⟨rfl, hb7⟩
  replace HB := hide (below_then (unhide HB) (hb7))
  replace F := hide ((unhide F).on (hb7))
  replace C := hide ((unhide C).on (hb7))
  replace HX := hide ((unhide HX).on (hb7))
  clear hb7
  go_wp2_with fail
  refine (toByteS_any _ bs _ ((unhide HH).on (below_then (unhide HB3) (unhide HB))).by (unhide HL)).mono ?_
  rintro e w8 ⟨vy, rfl, hy8, hb8⟩
  go_wp2_with fail
  refine (eqByteS_any _ _ bs _ ((unhide HX).on hb8).at hy8.at).mono ?_
  rintro e w9 ⟨rfl, hb9⟩
  replace HB := hide (below_then (unhide HB) (below_then hb8 hb9))
  replace F := hide ((unhide F).on (below_then hb8 hb9))
  replace C := hide ((unhide C).on (below_then hb8 hb9))
  replace HX := hide ((unhide HX).on (below_then hb8 hb9))
  clear hb8 hb9 hy8
  go_wp2_with fail
  refine (markByteS_any W3.heap.size 5 _ bs 1 _ (unhide HX) (by have := unhide HL; omega) (by omega) (by omega)).mono ?_
  rintro e w10 ⟨rfl, _, hO⟩
  replace F := hide ((unhide F).blockN (w' := w10) (fun g hg hl => hO.other g (fun e => by have := (unhide HXb) g e; omega)))
  replace C := hide ((unhide C).blockq (hO.other q6 (fun e => by have := (unhide HXb) q6 e; have := unhide HQ; omega)))
  replace HB := hide ((unhide HB).trans (hO.below W3.heap.size (fun g hg => ((unhide HXb) g hg).1)))
  clear hO HX
  have hk : ¬ (1 + (bs.length : Int) < 0) := by omega
  have n0 : w10.cell? ⟨q6, 0, none⟩ = some (.int .i64 n.kind) := (unhide C) 0 (by simp)
  have n1 : w10.cell? ⟨q6, 1, none⟩ = some (.int .i64 n.frm) := (unhide C) 1 (by simp)
  have n2 : w10.cell? ⟨q6, 2, none⟩ = some (.int .i64 n.dst) := (unhide C) 2 (by simp)
  have n3 : w10.cell? ⟨q6, 3, none⟩ = some (.int .i64 n.inc) := (unhide C) 3 (by simp)
  have n4 : w10.cell? ⟨q6, 4, none⟩ = some (.int .i64 n.ver) := (unhide C) 4 (by simp)
  have n5 : w10.cell? ⟨q6, 5, none⟩ = some (.int .i64 n.rd) := (unhide C) 5 (by simp)
  have n6 : w10.cell? ⟨q6, 6, none⟩ = some (.int .i64 n.g) := (unhide C) 6 (by simp)
  have n7 : w10.cell? ⟨q6, 7, none⟩ = some (.slice d0 n.incs.length dc0) := (unhide C) 7 (by simp)
  have n8 : w10.cell? ⟨q6, 8, none⟩ = some (.slice d1 n.vers.length dc1) := (unhide C) 8 (by simp)
  have n9 : w10.cell? ⟨q6, 9, none⟩ = some (.slice d2 n.evs.length dc2) := (unhide C) 9 (by simp)
  have n10 : w10.cell? ⟨q6, 10, none⟩ = some (.slice d3 n.outs.length dc3) := (unhide C) 10 (by simp)
  have m0 : w10.cell? ⟨p3, 0, none⟩ = some (.int .i64 n.kind) := ((unhide HC3).on (unhide HB)) 0 (by simp)
  have m1 : w10.cell? ⟨p3, 1, none⟩ = some (.int .i64 n.frm) := ((unhide HC3).on (unhide HB)) 1 (by simp)
  have m2 : w10.cell? ⟨p3, 2, none⟩ = some (.int .i64 n.dst) := ((unhide HC3).on (unhide HB)) 2 (by simp)
  have m3 : w10.cell? ⟨p3, 3, none⟩ = some (.int .i64 n.inc) := ((unhide HC3).on (unhide HB)) 3 (by simp)
  have m4 : w10.cell? ⟨p3, 4, none⟩ = some (.int .i64 n.ver) := ((unhide HC3).on (unhide HB)) 4 (by simp)
  have m5 : w10.cell? ⟨p3, 5, none⟩ = some (.int .i64 n.rd) := ((unhide HC3).on (unhide HB)) 5 (by simp)
  have m6 : w10.cell? ⟨p3, 6, none⟩ = some (.int .i64 n.g) := ((unhide HC3).on (unhide HB)) 6 (by simp)
  have m7 : w10.cell? ⟨p3, 7, none⟩ = some (.slice a0 n.incs.length ac0) := ((unhide HC3).on (unhide HB)) 7 (by simp)
  have m8 : w10.cell? ⟨p3, 8, none⟩ = some (.slice a1 n.vers.length ac1) := ((unhide HC3).on (unhide HB)) 8 (by simp)
  have m9 : w10.cell? ⟨p3, 9, none⟩ = some (.slice a2 n.evs.length ac2) := ((unhide HC3).on (unhide HB)) 9 (by simp)
  have m10 : w10.cell? ⟨p3, 10, none⟩ = some (.slice a3 n.outs.length ac3) := ((unhide HC3).on (unhide HB)) 10 (by simp)
  go_wp2_with fail
  clear n0 n1 n2 n3 n4 n5 n6 n7 n8 n9 n10 m0 m1 m2 m3 m4 m5 m6 m7 m8 m9 m10
  clear hk
  refine (eqWord_any n _ _ _ _ _ _ _ _ _ (unhide F).at ((unhide HSW).on (unhide HB))).mono ?_
  rintro e w11 ⟨rfl, hb11⟩
  replace HB := hide (below_then (unhide HB) (hb11))
  replace F := hide ((unhide F).on (hb11))
  replace C := hide ((unhide C).on (hb11))
  clear hb11
  have n0 : w11.cell? ⟨q6, 0, none⟩ = some (.int .i64 n.kind) := (unhide C) 0 (by simp)
  have n1 : w11.cell? ⟨q6, 1, none⟩ = some (.int .i64 n.frm) := (unhide C) 1 (by simp)
  have n2 : w11.cell? ⟨q6, 2, none⟩ = some (.int .i64 n.dst) := (unhide C) 2 (by simp)
  have n3 : w11.cell? ⟨q6, 3, none⟩ = some (.int .i64 n.inc) := (unhide C) 3 (by simp)
  have n4 : w11.cell? ⟨q6, 4, none⟩ = some (.int .i64 n.ver) := (unhide C) 4 (by simp)
  have n5 : w11.cell? ⟨q6, 5, none⟩ = some (.int .i64 n.rd) := (unhide C) 5 (by simp)
  have n6 : w11.cell? ⟨q6, 6, none⟩ = some (.int .i64 n.g) := (unhide C) 6 (by simp)
  have n7 : w11.cell? ⟨q6, 7, none⟩ = some (.slice d0 n.incs.length dc0) := (unhide C) 7 (by simp)
  have n8 : w11.cell? ⟨q6, 8, none⟩ = some (.slice d1 n.vers.length dc1) := (unhide C) 8 (by simp)
  have n9 : w11.cell? ⟨q6, 9, none⟩ = some (.slice d2 n.evs.length dc2) := (unhide C) 9 (by simp)
  have n10 : w11.cell? ⟨q6, 10, none⟩ = some (.slice d3 n.outs.length dc3) := (unhide C) 10 (by simp)
  go_wp2_with fail
  clear n0 n1 n2 n3 n4 n5 n6 n7 n8 n9 n10
  refine (markWord_any w4.heap.size n _ _ _ _ 1 _ (unhide F) (unhide AP) (unhide HFW).1 (unhide HFW).2.1 (unhide HFW).2.2.1 (unhide HFW).2.2.2 (by omega) (by omega)).mono ?_
  rintro e w12 ⟨rfl, hMk, hOn⟩
  have hq : q6 < w11.heap.size := World.block_lt_of_cell? _ _ ((unhide C) 0 (by simp))
  have hB12 : Below W3.heap.size w11 w12 := hOn.below W3.heap.size (by have := unhide HS4; have := unhide HQ; omega) (fun g hg => by
    have h1 := (unhide HLT) g; have h2 := unhide HS4
    rcases hg with e | e | e | e
    · have := h1.1 e; omega
    · have := h1.2.1 e; omega
    · have := h1.2.2.1 e; omega
    · have := h1.2.2.2 e; omega)
  replace C := hide ((unhide C).blockq (hOn.other q6 hq (fun e => by have := ((unhide HLT) q6).1 e; omega) (fun e => by have := ((unhide HLT) q6).2.1 e; omega) (fun e => by have := ((unhide HLT) q6).2.2.1 e; omega) (fun e => by have := ((unhide HLT) q6).2.2.2 e; omega)))
  replace HB := hide ((unhide HB).trans hB12)
  have MK := hide hMk
  obtain ⟨K, hK⟩ : ∃ K : Int, K = 1 + wordSz n := ⟨_, rfl⟩
  have hK0 : 0 ≤ K := by rw [hK]; unfold wordSz; omega
  have HK := hide hK
  rw [← hK]
  clear hMk hOn hq hB12 hK F
  have n0 : w12.cell? ⟨q6, 0, none⟩ = some (.int .i64 n.kind) := (unhide C) 0 (by simp)
  have n1 : w12.cell? ⟨q6, 1, none⟩ = some (.int .i64 n.frm) := (unhide C) 1 (by simp)
  have n2 : w12.cell? ⟨q6, 2, none⟩ = some (.int .i64 n.dst) := (unhide C) 2 (by simp)
  have n3 : w12.cell? ⟨q6, 3, none⟩ = some (.int .i64 n.inc) := (unhide C) 3 (by simp)
  have n4 : w12.cell? ⟨q6, 4, none⟩ = some (.int .i64 n.ver) := (unhide C) 4 (by simp)
  have n5 : w12.cell? ⟨q6, 5, none⟩ = some (.int .i64 n.rd) := (unhide C) 5 (by simp)
  have n6 : w12.cell? ⟨q6, 6, none⟩ = some (.int .i64 n.g) := (unhide C) 6 (by simp)
  have n7 : w12.cell? ⟨q6, 7, none⟩ = some (.slice d0 n.incs.length dc0) := (unhide C) 7 (by simp)
  have n8 : w12.cell? ⟨q6, 8, none⟩ = some (.slice d1 n.vers.length dc1) := (unhide C) 8 (by simp)
  have n9 : w12.cell? ⟨q6, 9, none⟩ = some (.slice d2 n.evs.length dc2) := (unhide C) 9 (by simp)
  have n10 : w12.cell? ⟨q6, 10, none⟩ = some (.slice d3 n.outs.length dc3) := (unhide C) 10 (by simp)
  go_wp2_with fail
  clear n0 n1 n2 n3 n4 n5 n6 n7 n8 n9 n10
  refine (heldWord_any n _ _ _ _ 1 _ (unhide MK) (unhide HFW).1 (unhide HFW).2.1 (unhide HFW).2.2.1 (unhide HFW).2.2.2 (by omega) (by omega)).mono ?_
  rintro e w13 ⟨rfl, hb13⟩
  rw [← unhide HK]
  replace HB := hide (below_then (unhide HB) (hb13))
  replace C := hide ((unhide C).on (hb13))
  replace MK := hide ((unhide MK).on (hb13))
  clear hb13
  have hK1 : ¬ (K < 0) := by omega
  go_wp2_with fail
  refine (toByteS_any _ bs _ ((unhide HH).on (below_then (unhide HB3) (unhide HB))).by (unhide HL)).mono ?_
  rintro e w14 ⟨vz, rfl, hz, hb14⟩
  have HZ := hide (bytes_of_fr hz (unhide HR))
  have HB14 := hide hb14
  clear hz hb14
  go_wp2_with fail
  refine (implWordUnpack_any _ bs _ (unhide HZ) (unhide HL)).mono ?_
  rintro e w15 ⟨m, ok2, g0, g1, g2, g3, rfl, hff, _, hb15, hI⟩
  obtain ⟨rfl, rfl⟩ := same_word (unhide HSS) hI
  obtain ⟨⟨h0, hc0, e1⟩, ⟨h1, hc1, e2⟩, ⟨h2, hc2, e3⟩, ⟨h3, hc3, e4⟩⟩ := hff.at.sliced
  subst e1 e2 e3 e4
  have hx : Below w15.heap.size w15 (w15.alloc (.cells #[.int .i64 n.kind, .int .i64 n.frm, .int .i64 n.dst, .int .i64 n.inc, .int .i64 n.ver, .int .i64 n.rd, .int .i64 n.g, .slice h0 n.incs.length hc0, .slice h1 n.vers.length hc1, .slice h2 n.evs.length hc2, .slice h3 n.outs.length hc3] 27)) := (Below.refl _ _).alloc (Nat.le_refl _) _
  have hb := below_then (below_then (unhide HB14) hb15) hx
  have F := hide (hff.at.on hx)
  have D := hide (cellsAt_new w15 [.int .i64 n.kind, .int .i64 n.frm, .int .i64 n.dst, .int .i64 n.inc, .int .i64 n.ver, .int .i64 n.rd, .int .i64 n.g, .slice h0 n.incs.length hc0, .slice h1 n.vers.length hc1, .slice h2 n.evs.length hc2, .slice h3 n.outs.length hc3] 27)
  replace HB := hide (below_then (unhide HB) (hb))
  replace C := hide ((unhide C).on (hb))
  replace MK := hide ((unhide MK).on (hb))
  clear hff hb15 hx hI HB14 hb HZ
  go_upto_region 23 with fail
  change Hid (CellsAt (w15.alloc (.cells #[.int .i64 n.kind, .int .i64 n.frm, .int .i64 n.dst, .int .i64 n.inc, .int .i64 n.ver, .int .i64 n.rd, .int .i64 n.g, .slice h0 n.incs.length hc0, .slice h1 n.vers.length hc1, .slice h2 n.evs.length hc2, .slice h3 n.outs.length hc3] 27)) _ _ _) at D
  generalize (w15.alloc (.cells #[.int .i64 n.kind, .int .i64 n.frm, .int .i64 n.dst, .int .i64 n.inc, .int .i64 n.ver, .int .i64 n.rd, .int .i64 n.g, .slice h0 n.incs.length hc0, .slice h1 n.vers.length hc1, .slice h2 n.evs.length hc2, .slice h3 n.outs.length hc3] 27)) = W16 at *
  generalize w15.heap.size = q16 at *
  have n0 : W16.cell? ⟨q16, 0, none⟩ = some (.int .i64 n.kind) := (unhide D) 0 (by simp)
  have n1 : W16.cell? ⟨q16, 1, none⟩ = some (.int .i64 n.frm) := (unhide D) 1 (by simp)
  have n2 : W16.cell? ⟨q16, 2, none⟩ = some (.int .i64 n.dst) := (unhide D) 2 (by simp)
  have n3 : W16.cell? ⟨q16, 3, none⟩ = some (.int .i64 n.inc) := (unhide D) 3 (by simp)
  have n4 : W16.cell? ⟨q16, 4, none⟩ = some (.int .i64 n.ver) := (unhide D) 4 (by simp)
  have n5 : W16.cell? ⟨q16, 5, none⟩ = some (.int .i64 n.rd) := (unhide D) 5 (by simp)
  have n6 : W16.cell? ⟨q16, 6, none⟩ = some (.int .i64 n.g) := (unhide D) 6 (by simp)
  have n7 : W16.cell? ⟨q16, 7, none⟩ = some (.slice h0 n.incs.length hc0) := (unhide D) 7 (by simp)
  have n8 : W16.cell? ⟨q16, 8, none⟩ = some (.slice h1 n.vers.length hc1) := (unhide D) 8 (by simp)
  have n9 : W16.cell? ⟨q16, 9, none⟩ = some (.slice h2 n.evs.length hc2) := (unhide D) 9 (by simp)
  have n10 : W16.cell? ⟨q16, 10, none⟩ = some (.slice h3 n.outs.length hc3) := (unhide D) 10 (by simp)
  have m0 : W16.cell? ⟨p3, 0, none⟩ = some (.int .i64 n.kind) := ((unhide HC3).on (unhide HB)) 0 (by simp)
  have m1 : W16.cell? ⟨p3, 1, none⟩ = some (.int .i64 n.frm) := ((unhide HC3).on (unhide HB)) 1 (by simp)
  have m2 : W16.cell? ⟨p3, 2, none⟩ = some (.int .i64 n.dst) := ((unhide HC3).on (unhide HB)) 2 (by simp)
  have m3 : W16.cell? ⟨p3, 3, none⟩ = some (.int .i64 n.inc) := ((unhide HC3).on (unhide HB)) 3 (by simp)
  have m4 : W16.cell? ⟨p3, 4, none⟩ = some (.int .i64 n.ver) := ((unhide HC3).on (unhide HB)) 4 (by simp)
  have m5 : W16.cell? ⟨p3, 5, none⟩ = some (.int .i64 n.rd) := ((unhide HC3).on (unhide HB)) 5 (by simp)
  have m6 : W16.cell? ⟨p3, 6, none⟩ = some (.int .i64 n.g) := ((unhide HC3).on (unhide HB)) 6 (by simp)
  have m7 : W16.cell? ⟨p3, 7, none⟩ = some (.slice a0 n.incs.length ac0) := ((unhide HC3).on (unhide HB)) 7 (by simp)
  have m8 : W16.cell? ⟨p3, 8, none⟩ = some (.slice a1 n.vers.length ac1) := ((unhide HC3).on (unhide HB)) 8 (by simp)
  have m9 : W16.cell? ⟨p3, 9, none⟩ = some (.slice a2 n.evs.length ac2) := ((unhide HC3).on (unhide HB)) 9 (by simp)
  have m10 : W16.cell? ⟨p3, 10, none⟩ = some (.slice a3 n.outs.length ac3) := ((unhide HC3).on (unhide HB)) 10 (by simp)
  go_wp2_with fail
  clear n0 n1 n2 n3 n4 n5 n6 n7 n8 n9 n10 m0 m1 m2 m3 m4 m5 m6 m7 m8 m9 m10
  refine (eqWord_any n _ _ _ _ _ _ _ _ _ (unhide F) ((unhide HSW).on (unhide HB))).mono ?_
  rintro e w17 ⟨rfl, hb17⟩
  replace HB := hide (below_then (unhide HB) (hb17))
  replace C := hide ((unhide C).on (hb17))
  replace MK := hide ((unhide MK).on (hb17))
  clear hb17 F D
  have n0 : w17.cell? ⟨q6, 0, none⟩ = some (.int .i64 n.kind) := (unhide C) 0 (by simp)
  have n1 : w17.cell? ⟨q6, 1, none⟩ = some (.int .i64 n.frm) := (unhide C) 1 (by simp)
  have n2 : w17.cell? ⟨q6, 2, none⟩ = some (.int .i64 n.dst) := (unhide C) 2 (by simp)
  have n3 : w17.cell? ⟨q6, 3, none⟩ = some (.int .i64 n.inc) := (unhide C) 3 (by simp)
  have n4 : w17.cell? ⟨q6, 4, none⟩ = some (.int .i64 n.ver) := (unhide C) 4 (by simp)
  have n5 : w17.cell? ⟨q6, 5, none⟩ = some (.int .i64 n.rd) := (unhide C) 5 (by simp)
  have n6 : w17.cell? ⟨q6, 6, none⟩ = some (.int .i64 n.g) := (unhide C) 6 (by simp)
  have n7 : w17.cell? ⟨q6, 7, none⟩ = some (.slice d0 n.incs.length dc0) := (unhide C) 7 (by simp)
  have n8 : w17.cell? ⟨q6, 8, none⟩ = some (.slice d1 n.vers.length dc1) := (unhide C) 8 (by simp)
  have n9 : w17.cell? ⟨q6, 9, none⟩ = some (.slice d2 n.evs.length dc2) := (unhide C) 9 (by simp)
  have n10 : w17.cell? ⟨q6, 10, none⟩ = some (.slice d3 n.outs.length dc3) := (unhide C) 10 (by simp)
  go_wp2_with fail
  clear n0 n1 n2 n3 n4 n5 n6 n7 n8 n9 n10
  refine (heldWord_any n _ _ _ _ 1 _ (unhide MK) (unhide HFW).1 (unhide HFW).2.1 (unhide HFW).2.2.1 (unhide HFW).2.2.2 (by omega) (by omega)).mono ?_
  rintro e w18 ⟨rfl, hb18⟩
  rw [← unhide HK]
  go_wp2_with fail
  go_ret
  exact ⟨rfl, below_then (unhide HB3) (below_then (unhide HB) hb18)⟩
end Go.Proofs.Ytiljjhipiinafaa
