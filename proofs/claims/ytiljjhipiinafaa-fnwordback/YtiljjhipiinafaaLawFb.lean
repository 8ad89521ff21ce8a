/- The draw of a word, and the walk of laws.FnWordBack: it answers true. -/
import Derived.Test.YtiljjhipiinafaaLtW
import Derived.Test.YtiljjhipiinafaaLawWp
import Derived.Test.YtiljjhipiinafaaDrC
import Derived.Test.YtiljjhipiinafaaWord4
namespace Go.Proofs.Ytiljjhipiinafaa
open Go.RowKit
set_option linter.unusedVariables false
set_option linter.unusedSimpArgs false


theorem WordFr.sliced {N : Nat} {w : World} {n : WordV} {vi vv ve vo : Value} (h : WordFr N w n vi vv ve vo) : (∃ a c, vi = .slice a n.incs.length c) ∧ (∃ a c, vv = .slice a n.vers.length c) ∧ (∃ a c, ve = .slice a n.evs.length c) ∧ (∃ a c, vo = .slice a n.outs.length c) := h.at.sliced

theorem wordOk_parts {n : WordV} (h : wordOk n = true) (k : Nat) : wordOk ⟨n.kind, n.frm, n.dst, n.inc, n.ver, n.rd, n.g, n.incs, n.vers, n.evs.take k, []⟩ = true := by
  simp only [wordOk, Bool.and_eq_true] at h ⊢
  obtain ⟨h0, h1, h2, h3, h4, h5, h6, h7, h8, h9, h10⟩ := h
  refine ⟨h0, h1, h2, h3, h4, h5, h6, h7, h8, ?_, by simp [inOrder, ascB]⟩
  simp only [inOrder, Bool.and_eq_true, decide_eq_true_eq] at h9 ⊢
  obtain ⟨⟨ha, hb⟩, hc⟩ := h9
  refine ⟨⟨?_, ?_⟩, ?_⟩
  · rw [List.length_take]; omega
  · rw [List.all_eq_true] at hb ⊢
    exact fun x hx => hb x (List.mem_of_mem_take hx)
  · rw [ascB_iff] at hc ⊢
    intro j hj
    rw [List.length_take] at hj
    have := hc j (by omega)
    simpa using this

theorem wordOk_round (n : WordV) : wordOk ⟨n.kind, n.frm, n.dst, n.inc, n.ver, -1, n.g, n.incs, n.vers, n.evs, n.outs⟩ = false := by
  have h : inR 0 9999 (-1) = false := by decide
  simp [wordOk, h]


set_option maxRecDepth 100000 in
set_option maxHeartbeats 4000000 in
theorem DrawWordPack_any (v : Value) (zs : List Int) (w : World) (h : BytesAt w v zs) :
    Calls Try.prog 6 #[v] w fun e w' => ∃ (n : WordV) (vi vv ve vo : Value), e = .returned (wordAgg n vi vv ve vo) ∧ WordFr (w.heap.size + 1) w' n vi vv ve vo ∧ Below w.heap.size w w' := by
  obtain ⟨ad, cap, hv⟩ : ∃ ad cap, v = .slice ad zs.length cap := by obtain ⟨a, c, h, _⟩ := h; exact ⟨a, c, h⟩
  subst hv
  have hb0 : Below w.heap.size w (w.alloc (.cells #[.int .i64 0, .int .i64 0, .int .i64 0, .int .i64 0, .int .i64 0, .int .i64 0, .int .i64 0, .slice none 0 0, .slice none 0 0, .slice none 0 0, .slice none 0 0] 27)) := (Below.refl _ _).alloc (Nat.le_refl _) _
  have HZ := hide (row_new w [.int .i64 0, .int .i64 0, .int .i64 0, .int .i64 0, .int .i64 0, .int .i64 0, .int .i64 0, .slice none 0 0, .slice none 0 0, .slice none 0 0, .slice none 0 0] 27)
  have H := hide (h.on hb0)
  have HSZ : Hid ((w.alloc (.cells #[.int .i64 0, .int .i64 0, .int .i64 0, .int .i64 0, .int .i64 0, .int .i64 0, .int .i64 0, .slice none 0 0, .slice none 0 0, .slice none 0 0, .slice none 0 0] 27)).heap.size = w.heap.size + 1) := hide (by simp)
  have HB := hide hb0
  clear h hb0
  go_enter Try.func6, Try.ntmps6
  go_wp2_with fail
  change Hid (World.rowIs (w.alloc (.cells #[.int .i64 0, .int .i64 0, .int .i64 0, .int .i64 0, .int .i64 0, .int .i64 0, .int .i64 0, .slice none 0 0, .slice none 0 0, .slice none 0 0, .slice none 0 0] 27)) _ _ _ _) at HZ
  generalize w.alloc (.cells #[.int .i64 0, .int .i64 0, .int .i64 0, .int .i64 0, .int .i64 0, .int .i64 0, .int .i64 0, .slice none 0 0, .slice none 0 0, .slice none 0 0, .slice none 0 0] 27) = W1 at *
  refine (l6Open_any _ zs _ (unhide H)).mono ?_
  rintro e w1 ⟨v', zs', rfl, hrd, hb1⟩
  replace HZ := hide ((unhide HZ).of_block (hb1.block w.heap.size (by have := unhide HSZ; omega)))
  replace HB := hide (below_then (unhide HB) hb1)
  have hs1 := hb1.size
  have HR := hide hrd
  clear hrd hb1 H
  go_wp2_with fail
  refine (l72Word_any W1 w1 W1.heap.size v' zs' 0 (unhide HR) (by omega)).mono ?_
  rintro e w2 ⟨n, vi, vv, ve, vo, p', rfl, _, hf, _, ho⟩
  replace HZ := hide ((unhide HZ).of_block (ho.other w.heap.size (by have := unhide HSZ; omega) (unhide HZ).lt))
  replace HB := hide ((unhide HB).trans (ho.below.mono (by have := unhide HSZ; omega)))
  have hsz := unhide HSZ
  obtain ⟨⟨j0, k0, e1⟩, ⟨j1, k1, e2⟩, ⟨j2, k2, e3⟩, ⟨j3, k3, e4⟩⟩ := hf.at.sliced
  subst e1 e2 e3 e4
  have r0 : w2.cell? ⟨w.heap.size, 0, none⟩ = some (.int .i64 0) := (unhide HZ).cell (i := 0) (by simp)
  have s0 : w2.frozen? ⟨w.heap.size, 0, none⟩ = false := (unhide HZ).frozen 0
  have r1 : w2.cell? ⟨w.heap.size, 1, none⟩ = some (.int .i64 0) := (unhide HZ).cell (i := 1) (by simp)
  have s1 : w2.frozen? ⟨w.heap.size, 1, none⟩ = false := (unhide HZ).frozen 1
  have r2 : w2.cell? ⟨w.heap.size, 2, none⟩ = some (.int .i64 0) := (unhide HZ).cell (i := 2) (by simp)
  have s2 : w2.frozen? ⟨w.heap.size, 2, none⟩ = false := (unhide HZ).frozen 2
  have r3 : w2.cell? ⟨w.heap.size, 3, none⟩ = some (.int .i64 0) := (unhide HZ).cell (i := 3) (by simp)
  have s3 : w2.frozen? ⟨w.heap.size, 3, none⟩ = false := (unhide HZ).frozen 3
  have r4 : w2.cell? ⟨w.heap.size, 4, none⟩ = some (.int .i64 0) := (unhide HZ).cell (i := 4) (by simp)
  have s4 : w2.frozen? ⟨w.heap.size, 4, none⟩ = false := (unhide HZ).frozen 4
  have r5 : w2.cell? ⟨w.heap.size, 5, none⟩ = some (.int .i64 0) := (unhide HZ).cell (i := 5) (by simp)
  have s5 : w2.frozen? ⟨w.heap.size, 5, none⟩ = false := (unhide HZ).frozen 5
  have r6 : w2.cell? ⟨w.heap.size, 6, none⟩ = some (.int .i64 0) := (unhide HZ).cell (i := 6) (by simp)
  have s6 : w2.frozen? ⟨w.heap.size, 6, none⟩ = false := (unhide HZ).frozen 6
  have r7 : w2.cell? ⟨w.heap.size, 7, none⟩ = some (.slice none 0 0) := (unhide HZ).cell (i := 7) (by simp)
  have s7 : w2.frozen? ⟨w.heap.size, 7, none⟩ = false := (unhide HZ).frozen 7
  have r8 : w2.cell? ⟨w.heap.size, 8, none⟩ = some (.slice none 0 0) := (unhide HZ).cell (i := 8) (by simp)
  have s8 : w2.frozen? ⟨w.heap.size, 8, none⟩ = false := (unhide HZ).frozen 8
  have r9 : w2.cell? ⟨w.heap.size, 9, none⟩ = some (.slice none 0 0) := (unhide HZ).cell (i := 9) (by simp)
  have s9 : w2.frozen? ⟨w.heap.size, 9, none⟩ = false := (unhide HZ).frozen 9
  have r10 : w2.cell? ⟨w.heap.size, 10, none⟩ = some (.slice none 0 0) := (unhide HZ).cell (i := 10) (by simp)
  have s10 : w2.frozen? ⟨w.heap.size, 10, none⟩ = false := (unhide HZ).frozen 10
  have E1 := hf.block (w' := setVals w2 w.heap.size 0 [.int .i64 n.kind, .int .i64 n.frm, .int .i64 n.dst, .int .i64 n.inc, .int .i64 n.ver, .int .i64 n.rd, .int .i64 n.g, .slice j0 n.incs.length k0, .slice j1 n.vers.length k1, .slice j2 n.evs.length k2, .slice j3 n.outs.length k3]) (fun g hg _ => setVals_other [.int .i64 n.kind, .int .i64 n.frm, .int .i64 n.dst, .int .i64 n.inc, .int .i64 n.ver, .int .i64 n.rd, .int .i64 n.g, .slice j0 n.incs.length k0, .slice j1 n.vers.length k1, .slice j2 n.evs.length k2, .slice j3 n.outs.length k3] 0 w2 g (by omega))
  have E2 : Hid (WordFr (w.heap.size + 1) (setVals w2 w.heap.size 0 [.int .i64 n.kind, .int .i64 n.frm, .int .i64 n.dst, .int .i64 n.inc, .int .i64 n.ver, .int .i64 n.rd, .int .i64 n.g, .slice j0 n.incs.length k0, .slice j1 n.vers.length k1, .slice j2 n.evs.length k2, .slice j3 n.outs.length k3]) n (.slice j0 n.incs.length k0) (.slice j1 n.vers.length k1) (.slice j2 n.evs.length k2) (.slice j3 n.outs.length k3)) := hide ⟨E1.i.less (by omega), E1.v.less (by omega), E1.e.less (by omega), E1.o.less (by omega)⟩
  have EB := hide (setVals_below [.int .i64 n.kind, .int .i64 n.frm, .int .i64 n.dst, .int .i64 n.inc, .int .i64 n.ver, .int .i64 n.rd, .int .i64 n.g, .slice j0 n.incs.length k0, .slice j1 n.vers.length k1, .slice j2 n.evs.length k2, .slice j3 n.outs.length k3] 0 w2 (unhide HB) (Nat.le_refl _))
  clear E1 hf HB HZ ho HR hsz HSZ
  go_wp2_with fail
  refine bodyPost_ret (v := wordAgg n (.slice j0 n.incs.length k0) (.slice j1 n.vers.length k1) (.slice j2 n.evs.length k2) (.slice j3 n.outs.length k3)) (by simp [results, Try.results6, go_sem, r0, r1, r2, r3, r4, r5, r6, r7, r8, r9, r10]) rfl ⟨n, _, _, _, _, rfl, unhide E2, unhide EB⟩


theorem numI_rng (n : Int) (h0 : -1 ≤ n) (h1 : n ≤ 9999) : ∀ z ∈ numI n, 0 ≤ z ∧ z ≤ 255 := by
  intro z hz
  unfold numI numB at hz
  split at hz
  · simp only [List.mem_singleton] at hz; omega
  · simp only [List.mem_cons, List.not_mem_nil, or_false] at hz; omega
theorem packI_rng {l : List Int} (h : ∀ n ∈ l, -1 ≤ n ∧ n ≤ 9999) : ∀ z ∈ packI l, 0 ≤ z ∧ z ≤ 255 := by
  intro z hz
  obtain ⟨n, hn, hz⟩ := List.mem_flatMap.1 hz
  exact numI_rng n (h n hn).1 (h n hn).2 z hz
theorem wordNums_rng {n : WordV} (h : WordIn n) : ∀ z ∈ wordNums n, -1 ≤ z ∧ z ≤ 9999 := by
  intro z hz
  simp only [wordNums, List.mem_append, List.mem_cons, List.mem_flatMap] at hz
  have := h.incs.1; have := h.vers.1; have := h.evs.1; have := h.outs.1
  rcases hz with hz | (hz | hz) | (hz | hz) | (hz | ⟨e, he, hz⟩) | hz | ⟨e, he, hz⟩
  · have := h.head z hz; omega
  · omega
  · have := h.incs.2 z hz; omega
  · omega
  · have := h.vers.2 z hz; omega
  · omega
  · exact h.evs.2 e he z hz
  · omega
  · have := h.outs.2 e he z hz; omega
theorem packedB_rng (n : WordV) : ∀ z ∈ packedB n, 0 ≤ z ∧ z ≤ 255 := by
  unfold packedB
  split
  · rename_i h
    exact packI_rng (wordNums_rng (wordOk_in h))
  · intro z hz; cases hz
theorem ByFr.bytesAt {N t : Nat} {w : World} {v : Value} {bs : List Int} (h : ByFr N t w v bs) (hr : ∀ z ∈ bs, 0 ≤ z ∧ z ≤ 255) : BytesAt w v bs := by
  have ha := h.at
  rcases h with ⟨rfl, rfl⟩ | ⟨g, cap, f, rfl, _, hl, hm, hrow, hf⟩
  · exact ⟨none, 0, rfl, Nat.le_refl _, Nat.zero_le _, (fun z hz => by cases hz), fun _ => rfl, Or.inl rfl⟩
  · obtain ⟨ad, cap', e, _, _, hc⟩ := ha
    simp only [Value.slice.injEq] at e
    obtain ⟨rfl, _, rfl⟩ := e
    exact ⟨some ⟨g, 0, none⟩, cap, rfl, hl, hm, hr, (fun h => by cases h), hc⟩
theorem ByFr.form {N t : Nat} {w : World} {v : Value} {bs : List Int} (h : ByFr N t w v bs) : ∃ a c, v = .slice a bs.length c := by
  obtain ⟨a, c, e, _⟩ := h.at
  exact ⟨a, c, e⟩

set_option maxRecDepth 100000 in
set_option maxHeartbeats 8000000 in
theorem lawWordBackD_walk (v : Value) (zs : List Int) (w : World) (h : BytesAt w v zs) :
    Calls Try.prog 3 #[v] w fun e w' => e = .returned (.bool true) ∧ Below w.heap.size w w' := by
  obtain ⟨ad, cap, hv⟩ : ∃ ad cap, v = .slice ad zs.length cap := by obtain ⟨a, c, h, _⟩ := h; exact ⟨a, c, h⟩
  subst hv
  by_cases hlen : zs.length ≤ 1048576
  rotate_left
  · have hI : (1048576 : Int) < (zs.length : Int) := by omega
    clear h
    go_enter Try.func3, Try.ntmps3
    go_wp2
    go_ret
    exact ⟨rfl, Below.refl _ _⟩
  have hI : ¬ (1048576 : Int) < (zs.length : Int) := by omega
  have hqb : ∀ b : Bool, (b != b) = false := by intro b; simp
  have H := hide h
  clear h
  go_enter Try.func3, Try.ntmps3
  go_wp2_with fail
  refine (DrawWordPack_any _ zs _ (unhide H)).mono ?_
  rintro e w1 ⟨n, vi, vv, ve, vo, rfl, hf, hb1⟩
  obtain ⟨⟨a0, ac0, e1⟩, ⟨a1, ac1, e2⟩, ⟨a2, ac2, e3⟩, ⟨a3, ac3, e4⟩⟩ := hf.at.sliced
  subst e1 e2 e3 e4
  have hx : Below w1.heap.size w1 (w1.alloc (.cells #[.int .i64 n.kind, .int .i64 n.frm, .int .i64 n.dst, .int .i64 n.inc, .int .i64 n.ver, .int .i64 n.rd, .int .i64 n.g, .slice a0 n.incs.length ac0, .slice a1 n.vers.length ac1, .slice a2 n.evs.length ac2, .slice a3 n.outs.length ac3] 27)) := (Below.refl _ _).alloc (Nat.le_refl _) _
  have F := hide (hf.at.on hx)
  have C := hide (cellsAt_new w1 [.int .i64 n.kind, .int .i64 n.frm, .int .i64 n.dst, .int .i64 n.inc, .int .i64 n.ver, .int .i64 n.rd, .int .i64 n.g, .slice a0 n.incs.length ac0, .slice a1 n.vers.length ac1, .slice a2 n.evs.length ac2, .slice a3 n.outs.length ac3] 27)
  have HB := hide (below_then hb1 hx)
  clear hf hb1 hx H
  go_upto_region 4 with fail
  change Hid (CellsAt (w1.alloc (.cells #[.int .i64 n.kind, .int .i64 n.frm, .int .i64 n.dst, .int .i64 n.inc, .int .i64 n.ver, .int .i64 n.rd, .int .i64 n.g, .slice a0 n.incs.length ac0, .slice a1 n.vers.length ac1, .slice a2 n.evs.length ac2, .slice a3 n.outs.length ac3] 27)) _ _ _) at C
  generalize (w1.alloc (.cells #[.int .i64 n.kind, .int .i64 n.frm, .int .i64 n.dst, .int .i64 n.inc, .int .i64 n.ver, .int .i64 n.rd, .int .i64 n.g, .slice a0 n.incs.length ac0, .slice a1 n.vers.length ac1, .slice a2 n.evs.length ac2, .slice a3 n.outs.length ac3] 27)) = W at *
  generalize w1.heap.size = q at *
  have m0 : W.cell? ⟨q, 0, none⟩ = some (.int .i64 n.kind) := (unhide C) 0 (by simp)
  have m1 : W.cell? ⟨q, 1, none⟩ = some (.int .i64 n.frm) := (unhide C) 1 (by simp)
  have m2 : W.cell? ⟨q, 2, none⟩ = some (.int .i64 n.dst) := (unhide C) 2 (by simp)
  have m3 : W.cell? ⟨q, 3, none⟩ = some (.int .i64 n.inc) := (unhide C) 3 (by simp)
  have m4 : W.cell? ⟨q, 4, none⟩ = some (.int .i64 n.ver) := (unhide C) 4 (by simp)
  have m5 : W.cell? ⟨q, 5, none⟩ = some (.int .i64 n.rd) := (unhide C) 5 (by simp)
  have m6 : W.cell? ⟨q, 6, none⟩ = some (.int .i64 n.g) := (unhide C) 6 (by simp)
  have m7 : W.cell? ⟨q, 7, none⟩ = some (.slice a0 n.incs.length ac0) := (unhide C) 7 (by simp)
  have m8 : W.cell? ⟨q, 8, none⟩ = some (.slice a1 n.vers.length ac1) := (unhide C) 8 (by simp)
  have m9 : W.cell? ⟨q, 9, none⟩ = some (.slice a2 n.evs.length ac2) := (unhide C) 9 (by simp)
  have m10 : W.cell? ⟨q, 10, none⟩ = some (.slice a3 n.outs.length ac3) := (unhide C) 10 (by simp)
  go_wp2_with fail
  clear m0 m1 m2 m3 m4 m5 m6 m7 m8 m9 m10
  refine (specWordPack_any n _ _ _ _ _ (unhide F)).mono ?_
  rintro e w3 ⟨vW, rfl, hW, hb3⟩
  have HW := hide (ByFr.of_owns hW)
  change Hid (ByFr W.heap.size 5 w3 vW (packedB n)) at HW
  replace F := hide ((unhide F).on hb3)
  replace C := hide ((unhide C).on hb3)
  replace HB := hide (below_then (unhide HB) hb3)
  clear hW hb3
  have m0 : w3.cell? ⟨q, 0, none⟩ = some (.int .i64 n.kind) := (unhide C) 0 (by simp)
  have m1 : w3.cell? ⟨q, 1, none⟩ = some (.int .i64 n.frm) := (unhide C) 1 (by simp)
  have m2 : w3.cell? ⟨q, 2, none⟩ = some (.int .i64 n.dst) := (unhide C) 2 (by simp)
  have m3 : w3.cell? ⟨q, 3, none⟩ = some (.int .i64 n.inc) := (unhide C) 3 (by simp)
  have m4 : w3.cell? ⟨q, 4, none⟩ = some (.int .i64 n.ver) := (unhide C) 4 (by simp)
  have m5 : w3.cell? ⟨q, 5, none⟩ = some (.int .i64 n.rd) := (unhide C) 5 (by simp)
  have m6 : w3.cell? ⟨q, 6, none⟩ = some (.int .i64 n.g) := (unhide C) 6 (by simp)
  have m7 : w3.cell? ⟨q, 7, none⟩ = some (.slice a0 n.incs.length ac0) := (unhide C) 7 (by simp)
  have m8 : w3.cell? ⟨q, 8, none⟩ = some (.slice a1 n.vers.length ac1) := (unhide C) 8 (by simp)
  have m9 : w3.cell? ⟨q, 9, none⟩ = some (.slice a2 n.evs.length ac2) := (unhide C) 9 (by simp)
  have m10 : w3.cell? ⟨q, 10, none⟩ = some (.slice a3 n.outs.length ac3) := (unhide C) 10 (by simp)
  go_wp2_with fail
  clear m0 m1 m2 m3 m4 m5 m6 m7 m8 m9 m10
  refine (specWordOk_any n _ _ _ _ _ (unhide F)).mono ?_
  rintro e w4 ⟨rfl, hb4⟩
  obtain ⟨R, hR⟩ : ∃ R, R = wordOk n := ⟨_, rfl⟩
  rw [← hR]
  have HR := hide hR
  replace F := hide ((unhide F).on hb4)
  replace C := hide ((unhide C).on hb4)
  replace HB := hide (below_then (unhide HB) hb4)
  replace HW := hide ((unhide HW).on hb4)
  clear hR hb4
  have m0 : w4.cell? ⟨q, 0, none⟩ = some (.int .i64 n.kind) := (unhide C) 0 (by simp)
  have m1 : w4.cell? ⟨q, 1, none⟩ = some (.int .i64 n.frm) := (unhide C) 1 (by simp)
  have m2 : w4.cell? ⟨q, 2, none⟩ = some (.int .i64 n.dst) := (unhide C) 2 (by simp)
  have m3 : w4.cell? ⟨q, 3, none⟩ = some (.int .i64 n.inc) := (unhide C) 3 (by simp)
  have m4 : w4.cell? ⟨q, 4, none⟩ = some (.int .i64 n.ver) := (unhide C) 4 (by simp)
  have m5 : w4.cell? ⟨q, 5, none⟩ = some (.int .i64 n.rd) := (unhide C) 5 (by simp)
  have m6 : w4.cell? ⟨q, 6, none⟩ = some (.int .i64 n.g) := (unhide C) 6 (by simp)
  have m7 : w4.cell? ⟨q, 7, none⟩ = some (.slice a0 n.incs.length ac0) := (unhide C) 7 (by simp)
  have m8 : w4.cell? ⟨q, 8, none⟩ = some (.slice a1 n.vers.length ac1) := (unhide C) 8 (by simp)
  have m9 : w4.cell? ⟨q, 9, none⟩ = some (.slice a2 n.evs.length ac2) := (unhide C) 9 (by simp)
  have m10 : w4.cell? ⟨q, 10, none⟩ = some (.slice a3 n.outs.length ac3) := (unhide C) 10 (by simp)
  go_wp2_with fail
  clear m0 m1 m2 m3 m4 m5 m6 m7 m8 m9 m10
  refine (implWordPack_any n _ _ _ _ _ (unhide F)).mono ?_
  rintro e w5 ⟨vG, rfl, hG, hb5⟩
  have HG := hide (ByFr.of_owns hG)
  change Hid (ByFr w4.heap.size 5 w5 vG (packedB n)) at HG
  replace F := hide ((unhide F).on hb5)
  replace C := hide ((unhide C).on hb5)
  replace HB := hide (below_then (unhide HB) hb5)
  replace HW := hide ((unhide HW).on hb5)
  clear hG hb5
  have k1 := conv_by (unhide HG).at
  have k2 := conv_by (unhide HW).at
  have m0 : w5.cell? ⟨q, 0, none⟩ = some (.int .i64 n.kind) := (unhide C) 0 (by simp)
  have m1 : w5.cell? ⟨q, 1, none⟩ = some (.int .i64 n.frm) := (unhide C) 1 (by simp)
  have m2 : w5.cell? ⟨q, 2, none⟩ = some (.int .i64 n.dst) := (unhide C) 2 (by simp)
  have m3 : w5.cell? ⟨q, 3, none⟩ = some (.int .i64 n.inc) := (unhide C) 3 (by simp)
  have m4 : w5.cell? ⟨q, 4, none⟩ = some (.int .i64 n.ver) := (unhide C) 4 (by simp)
  have m5 : w5.cell? ⟨q, 5, none⟩ = some (.int .i64 n.rd) := (unhide C) 5 (by simp)
  have m6 : w5.cell? ⟨q, 6, none⟩ = some (.int .i64 n.g) := (unhide C) 6 (by simp)
  have m7 : w5.cell? ⟨q, 7, none⟩ = some (.slice a0 n.incs.length ac0) := (unhide C) 7 (by simp)
  have m8 : w5.cell? ⟨q, 8, none⟩ = some (.slice a1 n.vers.length ac1) := (unhide C) 8 (by simp)
  have m9 : w5.cell? ⟨q, 9, none⟩ = some (.slice a2 n.evs.length ac2) := (unhide C) 9 (by simp)
  have m10 : w5.cell? ⟨q, 10, none⟩ = some (.slice a3 n.outs.length ac3) := (unhide C) 10 (by simp)
  go_wp2_with fail
  clear m0 m1 m2 m3 m4 m5 m6 m7 m8 m9 m10
  clear k1 k2
  refine (implWordOk_any n _ _ _ _ _ (unhide F)).mono ?_
  rintro e w6 ⟨rfl, hb6⟩
  rw [← unhide HR]
  replace F := hide ((unhide F).on hb6)
  replace C := hide ((unhide C).on hb6)
  replace HB := hide (below_then (unhide HB) hb6)
  replace HG := hide ((unhide HG).on hb6)
  clear hb6 HW
  cases R with
  | false =>
    have hp : packedB n = [] := by unfold packedB; rw [← unhide HR]; rfl
    obtain ⟨ga, gc, rfl⟩ := (unhide HG).form
    rw [hp]
    clear hp HG
    go_wp2_with fail
    go_ret
    exact ⟨rfl, unhide HB⟩
  | true =>
    have hok := (unhide HR).symm
    have hp : packedB n = packW n := by unfold packedB; rw [hok]; rfl
    have hpl := packedB_len n
    have hrg := packedB_rng n
    have HBA := hide ((unhide HG).bytesAt hrg)
    rw [hp] at HBA hpl
    have HPL := hide hpl
    have HOK := hide hok
    clear hpl hrg hp hok HG
    go_wp2_with fail
    refine (implWordUnpack_any _ (packW n) _ (unhide HBA) (by have := unhide HPL; omega)).mono ?_
    rintro e w7 ⟨n', ok, ui, uv, ue, uo, rfl, hf7, _, hb7, ⟨rfl, _, _, huq⟩ | ⟨_, _, hno⟩⟩
    rotate_left
    · exact absurd rfl (hno n (unhide HOK))
    obtain rfl : n' = n := huq n (unhide HOK) rfl
    obtain ⟨⟨b0, bc0, e1⟩, ⟨b1, bc1, e2⟩, ⟨b2, bc2, e3⟩, ⟨b3, bc3, e4⟩⟩ := hf7.at.sliced
    subst e1 e2 e3 e4
    have hx : Below w7.heap.size w7 (w7.alloc (.cells #[.int .i64 n'.kind, .int .i64 n'.frm, .int .i64 n'.dst, .int .i64 n'.inc, .int .i64 n'.ver, .int .i64 n'.rd, .int .i64 n'.g, .slice b0 n'.incs.length bc0, .slice b1 n'.vers.length bc1, .slice b2 n'.evs.length bc2, .slice b3 n'.outs.length bc3] 27)) := (Below.refl _ _).alloc (Nat.le_refl _) _
    have hb8 := below_then hb7 hx
    have F8 := hide (hf7.at.on hx)
    have C8 := hide (cellsAt_new w7 [.int .i64 n'.kind, .int .i64 n'.frm, .int .i64 n'.dst, .int .i64 n'.inc, .int .i64 n'.ver, .int .i64 n'.rd, .int .i64 n'.g, .slice b0 n'.incs.length bc0, .slice b1 n'.vers.length bc1, .slice b2 n'.evs.length bc2, .slice b3 n'.outs.length bc3] 27)
    replace F := hide ((unhide F).on hb8)
    replace C := hide ((unhide C).on hb8)
    replace HB := hide (below_then (unhide HB) hb8)
    clear huq hf7 hb7 hx hb8 HBA HPL
    go_upto_region 12 with fail
    change Hid (CellsAt (w7.alloc (.cells #[.int .i64 n'.kind, .int .i64 n'.frm, .int .i64 n'.dst, .int .i64 n'.inc, .int .i64 n'.ver, .int .i64 n'.rd, .int .i64 n'.g, .slice b0 n'.incs.length bc0, .slice b1 n'.vers.length bc1, .slice b2 n'.evs.length bc2, .slice b3 n'.outs.length bc3] 27)) _ _ _) at C8
    generalize (w7.alloc (.cells #[.int .i64 n'.kind, .int .i64 n'.frm, .int .i64 n'.dst, .int .i64 n'.inc, .int .i64 n'.ver, .int .i64 n'.rd, .int .i64 n'.g, .slice b0 n'.incs.length bc0, .slice b1 n'.vers.length bc1, .slice b2 n'.evs.length bc2, .slice b3 n'.outs.length bc3] 27)) = W8 at *
    generalize w7.heap.size = q8 at *
    have r0 : W8.cell? ⟨q8, 0, none⟩ = some (.int .i64 n'.kind) := (unhide C8) 0 (by simp)
    have r1 : W8.cell? ⟨q8, 1, none⟩ = some (.int .i64 n'.frm) := (unhide C8) 1 (by simp)
    have r2 : W8.cell? ⟨q8, 2, none⟩ = some (.int .i64 n'.dst) := (unhide C8) 2 (by simp)
    have r3 : W8.cell? ⟨q8, 3, none⟩ = some (.int .i64 n'.inc) := (unhide C8) 3 (by simp)
    have r4 : W8.cell? ⟨q8, 4, none⟩ = some (.int .i64 n'.ver) := (unhide C8) 4 (by simp)
    have r5 : W8.cell? ⟨q8, 5, none⟩ = some (.int .i64 n'.rd) := (unhide C8) 5 (by simp)
    have r6 : W8.cell? ⟨q8, 6, none⟩ = some (.int .i64 n'.g) := (unhide C8) 6 (by simp)
    have r7 : W8.cell? ⟨q8, 7, none⟩ = some (.slice b0 n'.incs.length bc0) := (unhide C8) 7 (by simp)
    have r8 : W8.cell? ⟨q8, 8, none⟩ = some (.slice b1 n'.vers.length bc1) := (unhide C8) 8 (by simp)
    have r9 : W8.cell? ⟨q8, 9, none⟩ = some (.slice b2 n'.evs.length bc2) := (unhide C8) 9 (by simp)
    have r10 : W8.cell? ⟨q8, 10, none⟩ = some (.slice b3 n'.outs.length bc3) := (unhide C8) 10 (by simp)
    have m0 : W8.cell? ⟨q, 0, none⟩ = some (.int .i64 n'.kind) := (unhide C) 0 (by simp)
    have m1 : W8.cell? ⟨q, 1, none⟩ = some (.int .i64 n'.frm) := (unhide C) 1 (by simp)
    have m2 : W8.cell? ⟨q, 2, none⟩ = some (.int .i64 n'.dst) := (unhide C) 2 (by simp)
    have m3 : W8.cell? ⟨q, 3, none⟩ = some (.int .i64 n'.inc) := (unhide C) 3 (by simp)
    have m4 : W8.cell? ⟨q, 4, none⟩ = some (.int .i64 n'.ver) := (unhide C) 4 (by simp)
    have m5 : W8.cell? ⟨q, 5, none⟩ = some (.int .i64 n'.rd) := (unhide C) 5 (by simp)
    have m6 : W8.cell? ⟨q, 6, none⟩ = some (.int .i64 n'.g) := (unhide C) 6 (by simp)
    have m7 : W8.cell? ⟨q, 7, none⟩ = some (.slice a0 n'.incs.length ac0) := (unhide C) 7 (by simp)
    have m8 : W8.cell? ⟨q, 8, none⟩ = some (.slice a1 n'.vers.length ac1) := (unhide C) 8 (by simp)
    have m9 : W8.cell? ⟨q, 9, none⟩ = some (.slice a2 n'.evs.length ac2) := (unhide C) 9 (by simp)
    have m10 : W8.cell? ⟨q, 10, none⟩ = some (.slice a3 n'.outs.length ac3) := (unhide C) 10 (by simp)
    go_wp2_with fail
    refine (ltWord_any n' _ _ _ _ _ _ _ _ _ (unhide F8) (unhide F)).mono ?_
    rintro e w9 ⟨rfl, hb9⟩
    go_wp2_with fail
    go_ret
    exact ⟨rfl, below_then (unhide HB) hb9⟩
end Go.Proofs.Ytiljjhipiinafaa
