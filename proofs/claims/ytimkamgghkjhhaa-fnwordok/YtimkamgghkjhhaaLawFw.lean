/- The walk of laws.FnWordOk: it answers true. -/
import Derived.Test.YtimkamgghkjhhaaDrawWd
import Derived.Test.YtimkamgghkjhhaaWord4
namespace Go.Proofs.Ytimkamgghkjhhaa
open Go.RowKit
set_option linter.unusedVariables false
set_option linter.unusedSimpArgs false

theorem WordFr.sliced {N : Nat} {w : World} {n : WordV} {vi vv ve vo : Value} (h : WordFr N w n vi vv ve vo) : (∃ a c, vi = .slice a n.incs.length c) ∧ (∃ a c, vv = .slice a n.vers.length c) ∧ (∃ a c, ve = .slice a n.evs.length c) ∧ (∃ a c, vo = .slice a n.outs.length c) := h.at.sliced

theorem wordOk_parts {n : WordV} (h : wordOk n = true) (k : Nat) : wordOk ⟨n.kind, n.frm, n.dst, n.inc, n.ver, n.rd, n.g, n.incs, n.vers, n.evs.take k, []⟩ = true := by
  simp only [wordOk, Bool.and_eq_true] at h ⊢
  obtain ⟨h0, h1, h2, h3, h4, h5, h6, h7, h8, h9, h10⟩ := h
  refine ⟨h0, h1, h2, h3, h4, h5, h6, h7, h8, ?_, by simp [inOrder, ascB]⟩
  simp only [inOrder, Bool.and_eq_true, decide_eq_true_eq] at h9 ⊢
  obtain ⟨⟨ha, hb⟩, hc⟩ := h9
  refine ⟨⟨?_, ?_⟩, ?_⟩
  · rw [List.length_take]; omega
  · rw [List.all_eq_true] at hb ⊢
    exact fun x hx => hb x (List.mem_of_mem_take hx)
  · rw [ascB_iff] at hc ⊢
    intro j hj
    rw [List.length_take] at hj
    have := hc j (by omega)
    simpa using this

theorem wordOk_round (n : WordV) : wordOk ⟨n.kind, n.frm, n.dst, n.inc, n.ver, -1, n.g, n.incs, n.vers, n.evs, n.outs⟩ = false := by
  have h : inR 0 9999 (-1) = false := by decide
  simp [wordOk, h]

set_option maxRecDepth 100000 in
set_option maxHeartbeats 2000000 in
theorem DrawWordOk_any (v : Value) (zs : List Int) (w : World) (h : BytesAt w v zs) :
    Calls Try.prog 13 #[v] w fun e w' => ∃ (n : WordV) (vi vv ve vo : Value), e = .returned (wordAgg n vi vv ve vo) ∧ WordFr (w.heap.size + 1) w' n vi vv ve vo ∧ Below w.heap.size w w' := by
  obtain ⟨ad, cap, hv⟩ : ∃ ad cap, v = .slice ad zs.length cap := by obtain ⟨a, c, h, _⟩ := h; exact ⟨a, c, h⟩
  subst hv
  have hb0 : Below w.heap.size w (w.alloc (.cells #[.int .i64 0, .int .i64 0, .int .i64 0, .int .i64 0, .int .i64 0, .int .i64 0, .int .i64 0, .slice none 0 0, .slice none 0 0, .slice none 0 0, .slice none 0 0] 41)) := (Below.refl _ _).alloc (Nat.le_refl _) _
  have HZ := hide (row_new w [.int .i64 0, .int .i64 0, .int .i64 0, .int .i64 0, .int .i64 0, .int .i64 0, .int .i64 0, .slice none 0 0, .slice none 0 0, .slice none 0 0, .slice none 0 0] 41)
  have H := hide (h.on hb0)
  have HSZ : Hid ((w.alloc (.cells #[.int .i64 0, .int .i64 0, .int .i64 0, .int .i64 0, .int .i64 0, .int .i64 0, .int .i64 0, .slice none 0 0, .slice none 0 0, .slice none 0 0, .slice none 0 0] 41)).heap.size = w.heap.size + 1) := hide (by simp)
  have HB := hide hb0
  clear h hb0
  go_enter Try.func13, Try.ntmps13
  go_wp2_with fail
  change Hid (World.rowIs (w.alloc (.cells #[.int .i64 0, .int .i64 0, .int .i64 0, .int .i64 0, .int .i64 0, .int .i64 0, .int .i64 0, .slice none 0 0, .slice none 0 0, .slice none 0 0, .slice none 0 0] 41)) _ _ _ _) at HZ
  generalize w.alloc (.cells #[.int .i64 0, .int .i64 0, .int .i64 0, .int .i64 0, .int .i64 0, .int .i64 0, .int .i64 0, .slice none 0 0, .slice none 0 0, .slice none 0 0, .slice none 0 0] 41) = W1 at *
  refine (l6Open_any _ zs _ (unhide H)).mono ?_
  rintro e w1 ⟨v', zs', rfl, hrd, hb1⟩
  replace HZ := hide ((unhide HZ).of_block (hb1.block w.heap.size (by have := unhide HSZ; omega)))
  replace HB := hide (below_then (unhide HB) hb1)
  have hs1 := hb1.size
  have HR := hide hrd
  clear hrd hb1 H
  go_wp2_with fail
  refine (l72Word_any W1 w1 W1.heap.size v' zs' 0 (unhide HR) (by omega)).mono ?_
  rintro e w2 ⟨n, vi, vv, ve, vo, p', rfl, _, hf, _, ho⟩
  replace HZ := hide ((unhide HZ).of_block (ho.other w.heap.size (by have := unhide HSZ; omega) (unhide HZ).lt))
  replace HB := hide ((unhide HB).trans (ho.below.mono (by have := unhide HSZ; omega)))
  have hsz := unhide HSZ
  obtain ⟨⟨j0, k0, e1⟩, ⟨j1, k1, e2⟩, ⟨j2, k2, e3⟩, ⟨j3, k3, e4⟩⟩ := hf.at.sliced
  subst e1 e2 e3 e4
  have r0 : w2.cell? ⟨w.heap.size, 0, none⟩ = some (.int .i64 0) := (unhide HZ).cell (i := 0) (by simp)
  have s0 : w2.frozen? ⟨w.heap.size, 0, none⟩ = false := (unhide HZ).frozen 0
  have r1 : w2.cell? ⟨w.heap.size, 1, none⟩ = some (.int .i64 0) := (unhide HZ).cell (i := 1) (by simp)
  have s1 : w2.frozen? ⟨w.heap.size, 1, none⟩ = false := (unhide HZ).frozen 1
  have r2 : w2.cell? ⟨w.heap.size, 2, none⟩ = some (.int .i64 0) := (unhide HZ).cell (i := 2) (by simp)
  have s2 : w2.frozen? ⟨w.heap.size, 2, none⟩ = false := (unhide HZ).frozen 2
  have r3 : w2.cell? ⟨w.heap.size, 3, none⟩ = some (.int .i64 0) := (unhide HZ).cell (i := 3) (by simp)
  have s3 : w2.frozen? ⟨w.heap.size, 3, none⟩ = false := (unhide HZ).frozen 3
  have r4 : w2.cell? ⟨w.heap.size, 4, none⟩ = some (.int .i64 0) := (unhide HZ).cell (i := 4) (by simp)
  have s4 : w2.frozen? ⟨w.heap.size, 4, none⟩ = false := (unhide HZ).frozen 4
  have r5 : w2.cell? ⟨w.heap.size, 5, none⟩ = some (.int .i64 0) := (unhide HZ).cell (i := 5) (by simp)
  have s5 : w2.frozen? ⟨w.heap.size, 5, none⟩ = false := (unhide HZ).frozen 5
  have r6 : w2.cell? ⟨w.heap.size, 6, none⟩ = some (.int .i64 0) := (unhide HZ).cell (i := 6) (by simp)
  have s6 : w2.frozen? ⟨w.heap.size, 6, none⟩ = false := (unhide HZ).frozen 6
  have r7 : w2.cell? ⟨w.heap.size, 7, none⟩ = some (.slice none 0 0) := (unhide HZ).cell (i := 7) (by simp)
  have s7 : w2.frozen? ⟨w.heap.size, 7, none⟩ = false := (unhide HZ).frozen 7
  have r8 : w2.cell? ⟨w.heap.size, 8, none⟩ = some (.slice none 0 0) := (unhide HZ).cell (i := 8) (by simp)
  have s8 : w2.frozen? ⟨w.heap.size, 8, none⟩ = false := (unhide HZ).frozen 8
  have r9 : w2.cell? ⟨w.heap.size, 9, none⟩ = some (.slice none 0 0) := (unhide HZ).cell (i := 9) (by simp)
  have s9 : w2.frozen? ⟨w.heap.size, 9, none⟩ = false := (unhide HZ).frozen 9
  have r10 : w2.cell? ⟨w.heap.size, 10, none⟩ = some (.slice none 0 0) := (unhide HZ).cell (i := 10) (by simp)
  have s10 : w2.frozen? ⟨w.heap.size, 10, none⟩ = false := (unhide HZ).frozen 10
  have E1 := hf.block (w' := setVals w2 w.heap.size 0 [.int .i64 n.kind, .int .i64 n.frm, .int .i64 n.dst, .int .i64 n.inc, .int .i64 n.ver, .int .i64 n.rd, .int .i64 n.g, .slice j0 n.incs.length k0, .slice j1 n.vers.length k1, .slice j2 n.evs.length k2, .slice j3 n.outs.length k3]) (fun g hg _ => setVals_other [.int .i64 n.kind, .int .i64 n.frm, .int .i64 n.dst, .int .i64 n.inc, .int .i64 n.ver, .int .i64 n.rd, .int .i64 n.g, .slice j0 n.incs.length k0, .slice j1 n.vers.length k1, .slice j2 n.evs.length k2, .slice j3 n.outs.length k3] 0 w2 g (by omega))
  have E2 : Hid (WordFr (w.heap.size + 1) (setVals w2 w.heap.size 0 [.int .i64 n.kind, .int .i64 n.frm, .int .i64 n.dst, .int .i64 n.inc, .int .i64 n.ver, .int .i64 n.rd, .int .i64 n.g, .slice j0 n.incs.length k0, .slice j1 n.vers.length k1, .slice j2 n.evs.length k2, .slice j3 n.outs.length k3]) n (.slice j0 n.incs.length k0) (.slice j1 n.vers.length k1) (.slice j2 n.evs.length k2) (.slice j3 n.outs.length k3)) := hide ⟨E1.i.less (by omega), E1.v.less (by omega), E1.e.less (by omega), E1.o.less (by omega)⟩
  have EB := hide (setVals_below [.int .i64 n.kind, .int .i64 n.frm, .int .i64 n.dst, .int .i64 n.inc, .int .i64 n.ver, .int .i64 n.rd, .int .i64 n.g, .slice j0 n.incs.length k0, .slice j1 n.vers.length k1, .slice j2 n.evs.length k2, .slice j3 n.outs.length k3] 0 w2 (unhide HB) (Nat.le_refl _))
  clear E1 hf HB HZ ho HR hsz HSZ
  go_wp2_with fail
  refine bodyPost_ret (v := wordAgg n (.slice j0 n.incs.length k0) (.slice j1 n.vers.length k1) (.slice j2 n.evs.length k2) (.slice j3 n.outs.length k3)) (by simp [results, Try.results13, go_sem, r0, r1, r2, r3, r4, r5, r6, r7, r8, r9, r10]) rfl ⟨n, _, _, _, _, rfl, unhide E2, unhide EB⟩

set_option maxRecDepth 100000 in
set_option maxHeartbeats 4000000 in
theorem lawWordOkD_walk (v : Value) (zs : List Int) (w : World) (h : BytesAt w v zs) :
    Calls Try.prog 4 #[v] w fun e w' => e = .returned (.bool true) ∧ Below w.heap.size w w' := by
  obtain ⟨ad, cap, hv, hm⟩ : ∃ ad cap, v = .slice ad zs.length cap ∧ zs.length ≤ maxLen := by obtain ⟨a, c, h, h2, h3, _⟩ := h; exact ⟨a, c, h, Nat.le_trans h2 h3⟩
  subst hv
  unfold maxLen at hm
  have H1 := hide h
  clear h
  rcases Int.lt_or_le 1048576 (zs.length : Int) with hl | hl
  · go_enter Try.func4, Try.ntmps4
    go_wp2
    go_ret
    exact ⟨rfl, Below.refl _ _⟩
  go_enter Try.func4, Try.ntmps4
  go_wp2_with fail
  refine (DrawWordOk_any _ zs _ (unhide H1)).mono ?_
  rintro e w1 ⟨n, vi, vv, ve, vo, rfl, hf, hb1⟩
  clear H1
  obtain ⟨⟨j0, k0, e1⟩, ⟨j1, k1, e2⟩, ⟨j2, k2, e3⟩, ⟨j3, k3, e4⟩⟩ := hf.at.sliced
  subst e1 e2 e3 e4
  have hx : Below w1.heap.size w1 (w1.alloc (.cells #[.int .i64 n.kind, .int .i64 n.frm, .int .i64 n.dst, .int .i64 n.inc, .int .i64 n.ver, .int .i64 n.rd, .int .i64 n.g, .slice j0 n.incs.length k0, .slice j1 n.vers.length k1, .slice j2 n.evs.length k2, .slice j3 n.outs.length k3] 41)) := (Below.refl _ _).alloc (Nat.le_refl _) _
  have F1 := hide (hf.block (w' := (w1.alloc (.cells #[.int .i64 n.kind, .int .i64 n.frm, .int .i64 n.dst, .int .i64 n.inc, .int .i64 n.ver, .int .i64 n.rd, .int .i64 n.g, .slice j0 n.incs.length k0, .slice j1 n.vers.length k1, .slice j2 n.evs.length k2, .slice j3 n.outs.length k3] 41))) (fun g _ hg => hx.block g hg))
  have C1 := hide (row_new w1 [.int .i64 n.kind, .int .i64 n.frm, .int .i64 n.dst, .int .i64 n.inc, .int .i64 n.ver, .int .i64 n.rd, .int .i64 n.g, .slice j0 n.incs.length k0, .slice j1 n.vers.length k1, .slice j2 n.evs.length k2, .slice j3 n.outs.length k3] 41)
  have HB := hide (below_then hb1 hx)
  have HBW := hide hb1.size
  clear hf hb1 hx
  go_upto_region 4 with fail
  change Hid (World.rowIs (w1.alloc (.cells #[.int .i64 n.kind, .int .i64 n.frm, .int .i64 n.dst, .int .i64 n.inc, .int .i64 n.ver, .int .i64 n.rd, .int .i64 n.g, .slice j0 n.incs.length k0, .slice j1 n.vers.length k1, .slice j2 n.evs.length k2, .slice j3 n.outs.length k3] 41)) _ _ _ _) at C1
  generalize (w1.alloc (.cells #[.int .i64 n.kind, .int .i64 n.frm, .int .i64 n.dst, .int .i64 n.inc, .int .i64 n.ver, .int .i64 n.rd, .int .i64 n.g, .slice j0 n.incs.length k0, .slice j1 n.vers.length k1, .slice j2 n.evs.length k2, .slice j3 n.outs.length k3] 41)) = W1 at *
  generalize w1.heap.size = b at *
  have n0 : W1.cell? ⟨b, 0, none⟩ = some (.int .i64 n.kind) := (unhide C1).cell (i := 0) (by simp)
  have n1 : W1.cell? ⟨b, 1, none⟩ = some (.int .i64 n.frm) := (unhide C1).cell (i := 1) (by simp)
  have n2 : W1.cell? ⟨b, 2, none⟩ = some (.int .i64 n.dst) := (unhide C1).cell (i := 2) (by simp)
  have n3 : W1.cell? ⟨b, 3, none⟩ = some (.int .i64 n.inc) := (unhide C1).cell (i := 3) (by simp)
  have n4 : W1.cell? ⟨b, 4, none⟩ = some (.int .i64 n.ver) := (unhide C1).cell (i := 4) (by simp)
  have n5 : W1.cell? ⟨b, 5, none⟩ = some (.int .i64 n.rd) := (unhide C1).cell (i := 5) (by simp)
  have n6 : W1.cell? ⟨b, 6, none⟩ = some (.int .i64 n.g) := (unhide C1).cell (i := 6) (by simp)
  have n7 : W1.cell? ⟨b, 7, none⟩ = some (.slice j0 n.incs.length k0) := (unhide C1).cell (i := 7) (by simp)
  have n8 : W1.cell? ⟨b, 8, none⟩ = some (.slice j1 n.vers.length k1) := (unhide C1).cell (i := 8) (by simp)
  have n9 : W1.cell? ⟨b, 9, none⟩ = some (.slice j2 n.evs.length k2) := (unhide C1).cell (i := 9) (by simp)
  have n10 : W1.cell? ⟨b, 10, none⟩ = some (.slice j3 n.outs.length k3) := (unhide C1).cell (i := 10) (by simp)
  go_wp2_with fail
  clear n0 n1 n2 n3 n4 n5 n6 n7 n8 n9 n10
  refine (specWordOk_any n _ _ _ _ _ (unhide F1).at).mono ?_
  rintro e w2 ⟨rfl, hb⟩
  replace F1 := hide ((unhide F1).block (w' := w2) (fun g _ hg => hb.block g hg))
  replace C1 := hide ((unhide C1).of_block (hb.block b (unhide C1).lt))
  replace HB := hide (below_then (unhide HB) hb)
  clear hb
  have n0 : w2.cell? ⟨b, 0, none⟩ = some (.int .i64 n.kind) := (unhide C1).cell (i := 0) (by simp)
  have n1 : w2.cell? ⟨b, 1, none⟩ = some (.int .i64 n.frm) := (unhide C1).cell (i := 1) (by simp)
  have n2 : w2.cell? ⟨b, 2, none⟩ = some (.int .i64 n.dst) := (unhide C1).cell (i := 2) (by simp)
  have n3 : w2.cell? ⟨b, 3, none⟩ = some (.int .i64 n.inc) := (unhide C1).cell (i := 3) (by simp)
  have n4 : w2.cell? ⟨b, 4, none⟩ = some (.int .i64 n.ver) := (unhide C1).cell (i := 4) (by simp)
  have n5 : w2.cell? ⟨b, 5, none⟩ = some (.int .i64 n.rd) := (unhide C1).cell (i := 5) (by simp)
  have n6 : w2.cell? ⟨b, 6, none⟩ = some (.int .i64 n.g) := (unhide C1).cell (i := 6) (by simp)
  have n7 : w2.cell? ⟨b, 7, none⟩ = some (.slice j0 n.incs.length k0) := (unhide C1).cell (i := 7) (by simp)
  have n8 : w2.cell? ⟨b, 8, none⟩ = some (.slice j1 n.vers.length k1) := (unhide C1).cell (i := 8) (by simp)
  have n9 : w2.cell? ⟨b, 9, none⟩ = some (.slice j2 n.evs.length k2) := (unhide C1).cell (i := 9) (by simp)
  have n10 : w2.cell? ⟨b, 10, none⟩ = some (.slice j3 n.outs.length k3) := (unhide C1).cell (i := 10) (by simp)
  go_wp2_with fail
  clear n0 n1 n2 n3 n4 n5 n6 n7 n8 n9 n10
  refine (implWordOk_any n _ _ _ _ _ (unhide F1).at).mono ?_
  rintro e w3 ⟨rfl, hb⟩
  replace F1 := hide ((unhide F1).block (w' := w3) (fun g _ hg => hb.block g hg))
  replace C1 := hide ((unhide C1).of_block (hb.block b (unhide C1).lt))
  replace HB := hide (below_then (unhide HB) hb)
  clear hb
  rcases hR : wordOk n with _ | _
  · go_wp2_with fail
    go_ret
    exact ⟨rfl, unhide HB⟩
  have HP := hide (wordOk_parts hR (n.evs.length / 2))
  have HRd := hide (wordOk_round n)
  clear hR
  have hblt := (unhide C1).lt
  have n0 : w3.cell? ⟨b, 0, none⟩ = some (.int .i64 n.kind) := (unhide C1).cell (i := 0) (by simp)
  have n1 : w3.cell? ⟨b, 1, none⟩ = some (.int .i64 n.frm) := (unhide C1).cell (i := 1) (by simp)
  have n2 : w3.cell? ⟨b, 2, none⟩ = some (.int .i64 n.dst) := (unhide C1).cell (i := 2) (by simp)
  have n3 : w3.cell? ⟨b, 3, none⟩ = some (.int .i64 n.inc) := (unhide C1).cell (i := 3) (by simp)
  have n4 : w3.cell? ⟨b, 4, none⟩ = some (.int .i64 n.ver) := (unhide C1).cell (i := 4) (by simp)
  have n5 : w3.cell? ⟨b, 5, none⟩ = some (.int .i64 n.rd) := (unhide C1).cell (i := 5) (by simp)
  have n6 : w3.cell? ⟨b, 6, none⟩ = some (.int .i64 n.g) := (unhide C1).cell (i := 6) (by simp)
  have n7 : w3.cell? ⟨b, 7, none⟩ = some (.slice j0 n.incs.length k0) := (unhide C1).cell (i := 7) (by simp)
  have n8 : w3.cell? ⟨b, 8, none⟩ = some (.slice j1 n.vers.length k1) := (unhide C1).cell (i := 8) (by simp)
  have n9 : w3.cell? ⟨b, 9, none⟩ = some (.slice j2 n.evs.length k2) := (unhide C1).cell (i := 9) (by simp)
  have n10 : w3.cell? ⟨b, 10, none⟩ = some (.slice j3 n.outs.length k3) := (unhide C1).cell (i := 10) (by simp)
  go_upto_region 9 with fail
  clear n0 n1 n2 n3 n4 n5 n6 n7 n8 n9 n10
  have FALL : Hid (∀ W : World, Below w3.heap.size w3 W → WordFr (w.heap.size + 1) W n (.slice j0 n.incs.length k0) (.slice j1 n.vers.length k1) (.slice j2 n.evs.length k2) (.slice j3 n.outs.length k3) ∧ W.rowIs b 41 11 (fun i => [.int .i64 n.kind, .int .i64 n.frm, .int .i64 n.dst, .int .i64 n.inc, .int .i64 n.ver, .int .i64 n.rd, .int .i64 n.g, .slice j0 n.incs.length k0, .slice j1 n.vers.length k1, .slice j2 n.evs.length k2, .slice j3 n.outs.length k3].getD i undef) ∧ Below w.heap.size w W) :=
    hide (fun W hb => ⟨(unhide F1).block (fun g _ hg => hb.block g hg), (unhide C1).of_block (hb.block b (unhide C1).lt), below_then (unhide HB) hb⟩)
  have C2 : Hid ((w3.alloc (.cells #[.int .i64 n.kind, .int .i64 n.frm, .int .i64 n.dst, .int .i64 n.inc, .int .i64 n.ver, .int .i64 n.rd, .int .i64 n.g, .slice j0 n.incs.length k0, .slice j1 n.vers.length k1, .slice j2 n.evs.length k2, .slice j3 n.outs.length k3] 41)).rowIs w3.heap.size 41 11 (fun i => [.int .i64 n.kind, .int .i64 n.frm, .int .i64 n.dst, .int .i64 n.inc, .int .i64 n.ver, .int .i64 n.rd, .int .i64 n.g, .slice j0 n.incs.length k0, .slice j1 n.vers.length k1, .slice j2 n.evs.length k2, .slice j3 n.outs.length k3].getD i undef)) := hide (row_new w3 [.int .i64 n.kind, .int .i64 n.frm, .int .i64 n.dst, .int .i64 n.inc, .int .i64 n.ver, .int .i64 n.rd, .int .i64 n.g, .slice j0 n.incs.length k0, .slice j1 n.vers.length k1, .slice j2 n.evs.length k2, .slice j3 n.outs.length k3] 41)
  have hx : Below w3.heap.size w3 (w3.alloc (.cells #[.int .i64 n.kind, .int .i64 n.frm, .int .i64 n.dst, .int .i64 n.inc, .int .i64 n.ver, .int .i64 n.rd, .int .i64 n.g, .slice j0 n.incs.length k0, .slice j1 n.vers.length k1, .slice j2 n.evs.length k2, .slice j3 n.outs.length k3] 41)) := (Below.refl _ _).alloc (Nat.le_refl _) _
  have HY := hide hx
  have F3 := hide ((unhide F1).e)
  clear hx F1 C1 HB HBW
  generalize (w3.alloc (.cells #[.int .i64 n.kind, .int .i64 n.frm, .int .i64 n.dst, .int .i64 n.inc, .int .i64 n.ver, .int .i64 n.rd, .int .i64 n.g, .slice j0 n.incs.length k0, .slice j1 n.vers.length k1, .slice j2 n.evs.length k2, .slice j3 n.outs.length k3] 41)) = W4 at *
  generalize w3.heap.size = b2 at *
  have hbb : ¬ b = b2 := by omega
  have hbb2 : ¬ b2 = b := by omega
  rcases unhide F3 with ⟨hv, hnil⟩ | ⟨g, cap, f, hv, hge, hlc, hcm, hrow, hin⟩
  · simp only [Value.slice.injEq] at hv
    obtain ⟨rfl, hL, rfl⟩ := hv
    have hE0 : n.evs = [] := List.map_eq_nil_iff.1 hnil
    have HX : Hid (∀ W : World, Below b2 w3 W → RowsFr (w.heap.size + 1) 65 7 W (.slice none 0 0) ((n.evs.take (n.evs.length / 2)).map evRow)) := hide (fun W _ => Or.inl ⟨rfl, by rw [hE0]; rfl⟩)
    rw [hL] at C2 FALL
    clear hE0 hnil hL F3
    have m9 : W4.cell? ⟨b, 9, none⟩ = some (.slice none 0 0) := (((unhide FALL) W4 (unhide HY)).2.1).cell (i := 9) (by simp)
    have g9 : W4.cell? ⟨b2, 9, none⟩ = some (.slice none 0 0) := (unhide C2).cell (i := 9) (by simp)
    have z9 : W4.frozen? ⟨b2, 9, none⟩ = false := (unhide C2).frozen 9
    go_upto_region 10 with fail
    clear m9 g9 z9
    have C3 : Hid ((W4.setCell ⟨b2, 9, none⟩ (.slice none 0 0)).rowIs b2 41 11 (fun i => [.int .i64 n.kind, .int .i64 n.frm, .int .i64 n.dst, .int .i64 n.inc, .int .i64 n.ver, .int .i64 n.rd, .int .i64 n.g, .slice j0 n.incs.length k0, .slice j1 n.vers.length k1, .slice none 0 0, .slice j3 n.outs.length k3].getD i undef)) := hide (rowL_set (unhide C2) 9 (by simp) _)
    have HY5 := hide ((unhide HY).setCell (p := ⟨b2, 9, none⟩) (Nat.le_refl b2) (.slice none 0 0))
    clear C2 HY
    generalize W4.setCell ⟨b2, 9, none⟩ (.slice none 0 0) = W5 at *
    have g10 : W5.cell? ⟨b2, 10, none⟩ = some (.slice j3 n.outs.length k3) := (unhide C3).cell (i := 10) (by simp)
    have z10 : W5.frozen? ⟨b2, 10, none⟩ = false := (unhide C3).frozen 10
    go_upto_region 11 with fail
    clear g10 z10
    have C4 : Hid ((W5.setCell ⟨b2, 10, none⟩ (.slice none 0 0)).rowIs b2 41 11 (fun i => [.int .i64 n.kind, .int .i64 n.frm, .int .i64 n.dst, .int .i64 n.inc, .int .i64 n.ver, .int .i64 n.rd, .int .i64 n.g, .slice j0 n.incs.length k0, .slice j1 n.vers.length k1, .slice none 0 0, .slice none 0 0].getD i undef)) := hide (rowL_set (unhide C3) 10 (by simp) _)
    have HY6 := hide ((unhide HY5).setCell (p := ⟨b2, 10, none⟩) (Nat.le_refl b2) (.slice none 0 0))
    clear C3 HY5
    generalize W5.setCell ⟨b2, 10, none⟩ (.slice none 0 0) = W6 at *
    have n0 : W6.cell? ⟨b, 0, none⟩ = some (.int .i64 n.kind) := (((unhide FALL) W6 (unhide HY6)).2.1).cell (i := 0) (by simp)
    have n1 : W6.cell? ⟨b, 1, none⟩ = some (.int .i64 n.frm) := (((unhide FALL) W6 (unhide HY6)).2.1).cell (i := 1) (by simp)
    have n2 : W6.cell? ⟨b, 2, none⟩ = some (.int .i64 n.dst) := (((unhide FALL) W6 (unhide HY6)).2.1).cell (i := 2) (by simp)
    have n3 : W6.cell? ⟨b, 3, none⟩ = some (.int .i64 n.inc) := (((unhide FALL) W6 (unhide HY6)).2.1).cell (i := 3) (by simp)
    have n4 : W6.cell? ⟨b, 4, none⟩ = some (.int .i64 n.ver) := (((unhide FALL) W6 (unhide HY6)).2.1).cell (i := 4) (by simp)
    have n5 : W6.cell? ⟨b, 5, none⟩ = some (.int .i64 n.rd) := (((unhide FALL) W6 (unhide HY6)).2.1).cell (i := 5) (by simp)
    have n6 : W6.cell? ⟨b, 6, none⟩ = some (.int .i64 n.g) := (((unhide FALL) W6 (unhide HY6)).2.1).cell (i := 6) (by simp)
    have n7 : W6.cell? ⟨b, 7, none⟩ = some (.slice j0 n.incs.length k0) := (((unhide FALL) W6 (unhide HY6)).2.1).cell (i := 7) (by simp)
    have n8 : W6.cell? ⟨b, 8, none⟩ = some (.slice j1 n.vers.length k1) := (((unhide FALL) W6 (unhide HY6)).2.1).cell (i := 8) (by simp)
    have n9 : W6.cell? ⟨b, 9, none⟩ = some (.slice none 0 0) := (((unhide FALL) W6 (unhide HY6)).2.1).cell (i := 9) (by simp)
    have n10 : W6.cell? ⟨b, 10, none⟩ = some (.slice j3 n.outs.length k3) := (((unhide FALL) W6 (unhide HY6)).2.1).cell (i := 10) (by simp)
    go_upto_region 12 with fail
    clear n0 n1 n2 n3 n4 n5 n6 n7 n8 n9 n10
    have C5 : Hid ((W6.alloc (.cells #[.int .i64 n.kind, .int .i64 n.frm, .int .i64 n.dst, .int .i64 n.inc, .int .i64 n.ver, .int .i64 n.rd, .int .i64 n.g, .slice j0 n.incs.length k0, .slice j1 n.vers.length k1, .slice none 0 0, .slice j3 n.outs.length k3] 41)).rowIs W6.heap.size 41 11 (fun i => [.int .i64 n.kind, .int .i64 n.frm, .int .i64 n.dst, .int .i64 n.inc, .int .i64 n.ver, .int .i64 n.rd, .int .i64 n.g, .slice j0 n.incs.length k0, .slice j1 n.vers.length k1, .slice none 0 0, .slice j3 n.outs.length k3].getD i undef)) := hide (row_new W6 [.int .i64 n.kind, .int .i64 n.frm, .int .i64 n.dst, .int .i64 n.inc, .int .i64 n.ver, .int .i64 n.rd, .int .i64 n.g, .slice j0 n.incs.length k0, .slice j1 n.vers.length k1, .slice none 0 0, .slice j3 n.outs.length k3] 41)
    have hx : Below W6.heap.size W6 (W6.alloc (.cells #[.int .i64 n.kind, .int .i64 n.frm, .int .i64 n.dst, .int .i64 n.inc, .int .i64 n.ver, .int .i64 n.rd, .int .i64 n.g, .slice j0 n.incs.length k0, .slice j1 n.vers.length k1, .slice none 0 0, .slice j3 n.outs.length k3] 41)) := (Below.refl _ _).alloc (Nat.le_refl _) _
    have h23 : b2 < W6.heap.size := (unhide C4).lt
    have C6 := hide ((unhide C4).of_block (hx.block b2 h23))
    have HY7 := hide ((unhide HY6).trans (hx.mono (Nat.le_of_lt h23)))
    clear hx C4 HY6
    generalize (W6.alloc (.cells #[.int .i64 n.kind, .int .i64 n.frm, .int .i64 n.dst, .int .i64 n.inc, .int .i64 n.ver, .int .i64 n.rd, .int .i64 n.g, .slice j0 n.incs.length k0, .slice j1 n.vers.length k1, .slice none 0 0, .slice j3 n.outs.length k3] 41)) = W7 at *
    generalize W6.heap.size = b3 at *
    have h32 : ¬ b3 = b2 := by omega
    have h33 : ¬ b2 = b3 := by omega
    have g5 : W7.cell? ⟨b3, 5, none⟩ = some (.int .i64 n.rd) := (unhide C5).cell (i := 5) (by simp)
    have z5 : W7.frozen? ⟨b3, 5, none⟩ = false := (unhide C5).frozen 5
    go_upto_region 13 with fail
    clear g5 z5
    have C7 : Hid ((W7.setCell ⟨b3, 5, none⟩ (.int .i64 (-1))).rowIs b3 41 11 (fun i => [.int .i64 n.kind, .int .i64 n.frm, .int .i64 n.dst, .int .i64 n.inc, .int .i64 n.ver, .int .i64 (-1), .int .i64 n.g, .slice j0 n.incs.length k0, .slice j1 n.vers.length k1, .slice none 0 0, .slice j3 n.outs.length k3].getD i undef)) := hide (rowL_set (unhide C5) 5 (by simp) _)
    have C8 : Hid ((W7.setCell ⟨b3, 5, none⟩ (.int .i64 (-1))).rowIs b2 41 11 (fun i => [.int .i64 n.kind, .int .i64 n.frm, .int .i64 n.dst, .int .i64 n.inc, .int .i64 n.ver, .int .i64 n.rd, .int .i64 n.g, .slice j0 n.incs.length k0, .slice j1 n.vers.length k1, .slice none 0 0, .slice none 0 0].getD i undef)) := hide ((unhide C6).of_block (Below.heap_setCell W7 ⟨b3, 5, none⟩ (.int .i64 (-1)) b2 (show b2 ≠ b3 by omega)))
    have HY8 := hide ((unhide HY7).setCell (p := ⟨b3, 5, none⟩) (Nat.le_of_lt h23) (.int .i64 (-1)))
    clear C5 C6 HY7
    generalize W7.setCell ⟨b3, 5, none⟩ (.int .i64 (-1)) = W8 at *
    have n0 : W8.cell? ⟨b2, 0, none⟩ = some (.int .i64 n.kind) := (unhide C8).cell (i := 0) (by simp)
    have n1 : W8.cell? ⟨b2, 1, none⟩ = some (.int .i64 n.frm) := (unhide C8).cell (i := 1) (by simp)
    have n2 : W8.cell? ⟨b2, 2, none⟩ = some (.int .i64 n.dst) := (unhide C8).cell (i := 2) (by simp)
    have n3 : W8.cell? ⟨b2, 3, none⟩ = some (.int .i64 n.inc) := (unhide C8).cell (i := 3) (by simp)
    have n4 : W8.cell? ⟨b2, 4, none⟩ = some (.int .i64 n.ver) := (unhide C8).cell (i := 4) (by simp)
    have n5 : W8.cell? ⟨b2, 5, none⟩ = some (.int .i64 n.rd) := (unhide C8).cell (i := 5) (by simp)
    have n6 : W8.cell? ⟨b2, 6, none⟩ = some (.int .i64 n.g) := (unhide C8).cell (i := 6) (by simp)
    have n7 : W8.cell? ⟨b2, 7, none⟩ = some (.slice j0 n.incs.length k0) := (unhide C8).cell (i := 7) (by simp)
    have n8 : W8.cell? ⟨b2, 8, none⟩ = some (.slice j1 n.vers.length k1) := (unhide C8).cell (i := 8) (by simp)
    have n9 : W8.cell? ⟨b2, 9, none⟩ = some (.slice none 0 0) := (unhide C8).cell (i := 9) (by simp)
    have n10 : W8.cell? ⟨b2, 10, none⟩ = some (.slice none 0 0) := (unhide C8).cell (i := 10) (by simp)
    go_wp2_with fail
    clear n0 n1 n2 n3 n4 n5 n6 n7 n8 n9 n10
    refine (implWordOk_any ⟨n.kind, n.frm, n.dst, n.inc, n.ver, n.rd, n.g, n.incs, n.vers, n.evs.take (n.evs.length / 2), []⟩ _ _ _ _ _ ⟨((unhide FALL) W8 (unhide HY8)).1.i.at, ((unhide FALL) W8 (unhide HY8)).1.v.at, ((unhide HX) W8 (unhide HY8)).at, (show RowsFr 0 103 5 W8 (.slice none 0 0) (([] : List OutV).map outRow) from Or.inl ⟨rfl, rfl⟩).at⟩).mono ?_
    rintro e w9 ⟨he, hb9⟩
    rw [unhide HP] at he
    subst he
    have C9 := hide ((unhide C7).of_block (hb9.block b3 (unhide C7).lt))
    have h28 : b2 ≤ W8.heap.size := by have := (unhide C7).lt; omega
    have HY9 := hide ((unhide HY8).trans (hb9.mono h28))
    clear C7 C8 HY8 hb9 h28
    have n0 : w9.cell? ⟨b3, 0, none⟩ = some (.int .i64 n.kind) := (unhide C9).cell (i := 0) (by simp)
    have n1 : w9.cell? ⟨b3, 1, none⟩ = some (.int .i64 n.frm) := (unhide C9).cell (i := 1) (by simp)
    have n2 : w9.cell? ⟨b3, 2, none⟩ = some (.int .i64 n.dst) := (unhide C9).cell (i := 2) (by simp)
    have n3 : w9.cell? ⟨b3, 3, none⟩ = some (.int .i64 n.inc) := (unhide C9).cell (i := 3) (by simp)
    have n4 : w9.cell? ⟨b3, 4, none⟩ = some (.int .i64 n.ver) := (unhide C9).cell (i := 4) (by simp)
    have n5 : w9.cell? ⟨b3, 5, none⟩ = some (.int .i64 (-1)) := (unhide C9).cell (i := 5) (by simp)
    have n6 : w9.cell? ⟨b3, 6, none⟩ = some (.int .i64 n.g) := (unhide C9).cell (i := 6) (by simp)
    have n7 : w9.cell? ⟨b3, 7, none⟩ = some (.slice j0 n.incs.length k0) := (unhide C9).cell (i := 7) (by simp)
    have n8 : w9.cell? ⟨b3, 8, none⟩ = some (.slice j1 n.vers.length k1) := (unhide C9).cell (i := 8) (by simp)
    have n9 : w9.cell? ⟨b3, 9, none⟩ = some (.slice none 0 0) := (unhide C9).cell (i := 9) (by simp)
    have n10 : w9.cell? ⟨b3, 10, none⟩ = some (.slice j3 n.outs.length k3) := (unhide C9).cell (i := 10) (by simp)
    go_wp2_with fail
    clear n0 n1 n2 n3 n4 n5 n6 n7 n8 n9 n10
    refine (implWordOk_any ⟨n.kind, n.frm, n.dst, n.inc, n.ver, -1, n.g, n.incs, n.vers, n.evs, n.outs⟩ _ _ _ _ _ ⟨((unhide FALL) w9 (unhide HY9)).1.i.at, ((unhide FALL) w9 (unhide HY9)).1.v.at, ((unhide FALL) w9 (unhide HY9)).1.e.at, ((unhide FALL) w9 (unhide HY9)).1.o.at⟩).mono ?_
    rintro e wa ⟨he, hba⟩
    rw [unhide HRd] at he
    subst he
    go_wp2_with fail
    go_ret
    exact ⟨rfl, below_then ((unhide FALL) w9 (unhide HY9)).2.2 hba⟩
  · rw [List.length_map] at hv hlc
    simp only [Value.slice.injEq] at hv
    obtain ⟨rfl, _, rfl⟩ := hv
    have HX : Hid (∀ W : World, Below b2 w3 W → RowsFr (w.heap.size + 1) 65 7 W (.slice (some ⟨g, 0, none⟩) (n.evs.length / 2) k2) ((n.evs.take (n.evs.length / 2)).map evRow)) := hide (fun W hb => by
      rw [List.map_take]
      exact RowsFr.cut (by rw [List.length_map]; omega) (by rw [List.length_map]; exact ((unhide FALL) W hb).1.e))
    clear hrow hin hge F3
    unfold maxLen at hcm
    have hL0 : (0 : Int) ≤ ((n.evs.length / 2 : Nat) : Int) := by omega
    have hL1 : ((n.evs.length / 2 : Nat) : Int) ≤ (k2 : Int) := by omega
    have m9 : W4.cell? ⟨b, 9, none⟩ = some (.slice (some ⟨g, 0, none⟩) n.evs.length k2) := (((unhide FALL) W4 (unhide HY)).2.1).cell (i := 9) (by simp)
    have g9 : W4.cell? ⟨b2, 9, none⟩ = some (.slice (some ⟨g, 0, none⟩) n.evs.length k2) := (unhide C2).cell (i := 9) (by simp)
    have z9 : W4.frozen? ⟨b2, 9, none⟩ = false := (unhide C2).frozen 9
    go_upto_region 10 with fail
    clear m9 g9 z9
    have C3 : Hid ((W4.setCell ⟨b2, 9, none⟩ (.slice (some ⟨g, 0, none⟩) (n.evs.length / 2) k2)).rowIs b2 41 11 (fun i => [.int .i64 n.kind, .int .i64 n.frm, .int .i64 n.dst, .int .i64 n.inc, .int .i64 n.ver, .int .i64 n.rd, .int .i64 n.g, .slice j0 n.incs.length k0, .slice j1 n.vers.length k1, .slice (some ⟨g, 0, none⟩) (n.evs.length / 2) k2, .slice j3 n.outs.length k3].getD i undef)) := hide (rowL_set (unhide C2) 9 (by simp) _)
    have HY5 := hide ((unhide HY).setCell (p := ⟨b2, 9, none⟩) (Nat.le_refl b2) (.slice (some ⟨g, 0, none⟩) (n.evs.length / 2) k2))
    clear C2 HY
    generalize W4.setCell ⟨b2, 9, none⟩ (.slice (some ⟨g, 0, none⟩) (n.evs.length / 2) k2) = W5 at *
    have g10 : W5.cell? ⟨b2, 10, none⟩ = some (.slice j3 n.outs.length k3) := (unhide C3).cell (i := 10) (by simp)
    have z10 : W5.frozen? ⟨b2, 10, none⟩ = false := (unhide C3).frozen 10
    go_upto_region 11 with fail
    clear g10 z10
    have C4 : Hid ((W5.setCell ⟨b2, 10, none⟩ (.slice none 0 0)).rowIs b2 41 11 (fun i => [.int .i64 n.kind, .int .i64 n.frm, .int .i64 n.dst, .int .i64 n.inc, .int .i64 n.ver, .int .i64 n.rd, .int .i64 n.g, .slice j0 n.incs.length k0, .slice j1 n.vers.length k1, .slice (some ⟨g, 0, none⟩) (n.evs.length / 2) k2, .slice none 0 0].getD i undef)) := hide (rowL_set (unhide C3) 10 (by simp) _)
    have HY6 := hide ((unhide HY5).setCell (p := ⟨b2, 10, none⟩) (Nat.le_refl b2) (.slice none 0 0))
    clear C3 HY5
    generalize W5.setCell ⟨b2, 10, none⟩ (.slice none 0 0) = W6 at *
    have n0 : W6.cell? ⟨b, 0, none⟩ = some (.int .i64 n.kind) := (((unhide FALL) W6 (unhide HY6)).2.1).cell (i := 0) (by simp)
    have n1 : W6.cell? ⟨b, 1, none⟩ = some (.int .i64 n.frm) := (((unhide FALL) W6 (unhide HY6)).2.1).cell (i := 1) (by simp)
    have n2 : W6.cell? ⟨b, 2, none⟩ = some (.int .i64 n.dst) := (((unhide FALL) W6 (unhide HY6)).2.1).cell (i := 2) (by simp)
    have n3 : W6.cell? ⟨b, 3, none⟩ = some (.int .i64 n.inc) := (((unhide FALL) W6 (unhide HY6)).2.1).cell (i := 3) (by simp)
    have n4 : W6.cell? ⟨b, 4, none⟩ = some (.int .i64 n.ver) := (((unhide FALL) W6 (unhide HY6)).2.1).cell (i := 4) (by simp)
    have n5 : W6.cell? ⟨b, 5, none⟩ = some (.int .i64 n.rd) := (((unhide FALL) W6 (unhide HY6)).2.1).cell (i := 5) (by simp)
    have n6 : W6.cell? ⟨b, 6, none⟩ = some (.int .i64 n.g) := (((unhide FALL) W6 (unhide HY6)).2.1).cell (i := 6) (by simp)
    have n7 : W6.cell? ⟨b, 7, none⟩ = some (.slice j0 n.incs.length k0) := (((unhide FALL) W6 (unhide HY6)).2.1).cell (i := 7) (by simp)
    have n8 : W6.cell? ⟨b, 8, none⟩ = some (.slice j1 n.vers.length k1) := (((unhide FALL) W6 (unhide HY6)).2.1).cell (i := 8) (by simp)
    have n9 : W6.cell? ⟨b, 9, none⟩ = some (.slice (some ⟨g, 0, none⟩) n.evs.length k2) := (((unhide FALL) W6 (unhide HY6)).2.1).cell (i := 9) (by simp)
    have n10 : W6.cell? ⟨b, 10, none⟩ = some (.slice j3 n.outs.length k3) := (((unhide FALL) W6 (unhide HY6)).2.1).cell (i := 10) (by simp)
    go_upto_region 12 with fail
    clear n0 n1 n2 n3 n4 n5 n6 n7 n8 n9 n10
    have C5 : Hid ((W6.alloc (.cells #[.int .i64 n.kind, .int .i64 n.frm, .int .i64 n.dst, .int .i64 n.inc, .int .i64 n.ver, .int .i64 n.rd, .int .i64 n.g, .slice j0 n.incs.length k0, .slice j1 n.vers.length k1, .slice (some ⟨g, 0, none⟩) n.evs.length k2, .slice j3 n.outs.length k3] 41)).rowIs W6.heap.size 41 11 (fun i => [.int .i64 n.kind, .int .i64 n.frm, .int .i64 n.dst, .int .i64 n.inc, .int .i64 n.ver, .int .i64 n.rd, .int .i64 n.g, .slice j0 n.incs.length k0, .slice j1 n.vers.length k1, .slice (some ⟨g, 0, none⟩) n.evs.length k2, .slice j3 n.outs.length k3].getD i undef)) := hide (row_new W6 [.int .i64 n.kind, .int .i64 n.frm, .int .i64 n.dst, .int .i64 n.inc, .int .i64 n.ver, .int .i64 n.rd, .int .i64 n.g, .slice j0 n.incs.length k0, .slice j1 n.vers.length k1, .slice (some ⟨g, 0, none⟩) n.evs.length k2, .slice j3 n.outs.length k3] 41)
    have hx : Below W6.heap.size W6 (W6.alloc (.cells #[.int .i64 n.kind, .int .i64 n.frm, .int .i64 n.dst, .int .i64 n.inc, .int .i64 n.ver, .int .i64 n.rd, .int .i64 n.g, .slice j0 n.incs.length k0, .slice j1 n.vers.length k1, .slice (some ⟨g, 0, none⟩) n.evs.length k2, .slice j3 n.outs.length k3] 41)) := (Below.refl _ _).alloc (Nat.le_refl _) _
    have h23 : b2 < W6.heap.size := (unhide C4).lt
    have C6 := hide ((unhide C4).of_block (hx.block b2 h23))
    have HY7 := hide ((unhide HY6).trans (hx.mono (Nat.le_of_lt h23)))
    clear hx C4 HY6
    generalize (W6.alloc (.cells #[.int .i64 n.kind, .int .i64 n.frm, .int .i64 n.dst, .int .i64 n.inc, .int .i64 n.ver, .int .i64 n.rd, .int .i64 n.g, .slice j0 n.incs.length k0, .slice j1 n.vers.length k1, .slice (some ⟨g, 0, none⟩) n.evs.length k2, .slice j3 n.outs.length k3] 41)) = W7 at *
    generalize W6.heap.size = b3 at *
    have h32 : ¬ b3 = b2 := by omega
    have h33 : ¬ b2 = b3 := by omega
    have g5 : W7.cell? ⟨b3, 5, none⟩ = some (.int .i64 n.rd) := (unhide C5).cell (i := 5) (by simp)
    have z5 : W7.frozen? ⟨b3, 5, none⟩ = false := (unhide C5).frozen 5
    go_upto_region 13 with fail
    clear g5 z5
    have C7 : Hid ((W7.setCell ⟨b3, 5, none⟩ (.int .i64 (-1))).rowIs b3 41 11 (fun i => [.int .i64 n.kind, .int .i64 n.frm, .int .i64 n.dst, .int .i64 n.inc, .int .i64 n.ver, .int .i64 (-1), .int .i64 n.g, .slice j0 n.incs.length k0, .slice j1 n.vers.length k1, .slice (some ⟨g, 0, none⟩) n.evs.length k2, .slice j3 n.outs.length k3].getD i undef)) := hide (rowL_set (unhide C5) 5 (by simp) _)
    have C8 : Hid ((W7.setCell ⟨b3, 5, none⟩ (.int .i64 (-1))).rowIs b2 41 11 (fun i => [.int .i64 n.kind, .int .i64 n.frm, .int .i64 n.dst, .int .i64 n.inc, .int .i64 n.ver, .int .i64 n.rd, .int .i64 n.g, .slice j0 n.incs.length k0, .slice j1 n.vers.length k1, .slice (some ⟨g, 0, none⟩) (n.evs.length / 2) k2, .slice none 0 0].getD i undef)) := hide ((unhide C6).of_block (Below.heap_setCell W7 ⟨b3, 5, none⟩ (.int .i64 (-1)) b2 (show b2 ≠ b3 by omega)))
    have HY8 := hide ((unhide HY7).setCell (p := ⟨b3, 5, none⟩) (Nat.le_of_lt h23) (.int .i64 (-1)))
    clear C5 C6 HY7
    generalize W7.setCell ⟨b3, 5, none⟩ (.int .i64 (-1)) = W8 at *
    have n0 : W8.cell? ⟨b2, 0, none⟩ = some (.int .i64 n.kind) := (unhide C8).cell (i := 0) (by simp)
    have n1 : W8.cell? ⟨b2, 1, none⟩ = some (.int .i64 n.frm) := (unhide C8).cell (i := 1) (by simp)
    have n2 : W8.cell? ⟨b2, 2, none⟩ = some (.int .i64 n.dst) := (unhide C8).cell (i := 2) (by simp)
    have n3 : W8.cell? ⟨b2, 3, none⟩ = some (.int .i64 n.inc) := (unhide C8).cell (i := 3) (by simp)
    have n4 : W8.cell? ⟨b2, 4, none⟩ = some (.int .i64 n.ver) := (unhide C8).cell (i := 4) (by simp)
    have n5 : W8.cell? ⟨b2, 5, none⟩ = some (.int .i64 n.rd) := (unhide C8).cell (i := 5) (by simp)
    have n6 : W8.cell? ⟨b2, 6, none⟩ = some (.int .i64 n.g) := (unhide C8).cell (i := 6) (by simp)
    have n7 : W8.cell? ⟨b2, 7, none⟩ = some (.slice j0 n.incs.length k0) := (unhide C8).cell (i := 7) (by simp)
    have n8 : W8.cell? ⟨b2, 8, none⟩ = some (.slice j1 n.vers.length k1) := (unhide C8).cell (i := 8) (by simp)
    have n9 : W8.cell? ⟨b2, 9, none⟩ = some (.slice (some ⟨g, 0, none⟩) (n.evs.length / 2) k2) := (unhide C8).cell (i := 9) (by simp)
    have n10 : W8.cell? ⟨b2, 10, none⟩ = some (.slice none 0 0) := (unhide C8).cell (i := 10) (by simp)
    go_wp2_with fail
    clear n0 n1 n2 n3 n4 n5 n6 n7 n8 n9 n10
    refine (implWordOk_any ⟨n.kind, n.frm, n.dst, n.inc, n.ver, n.rd, n.g, n.incs, n.vers, n.evs.take (n.evs.length / 2), []⟩ _ _ _ _ _ ⟨((unhide FALL) W8 (unhide HY8)).1.i.at, ((unhide FALL) W8 (unhide HY8)).1.v.at, ((unhide HX) W8 (unhide HY8)).at, (show RowsFr 0 103 5 W8 (.slice none 0 0) (([] : List OutV).map outRow) from Or.inl ⟨rfl, rfl⟩).at⟩).mono ?_
    rintro e w9 ⟨he, hb9⟩
    rw [unhide HP] at he
    subst he
    have C9 := hide ((unhide C7).of_block (hb9.block b3 (unhide C7).lt))
    have h28 : b2 ≤ W8.heap.size := by have := (unhide C7).lt; omega
    have HY9 := hide ((unhide HY8).trans (hb9.mono h28))
    clear C7 C8 HY8 hb9 h28
    have n0 : w9.cell? ⟨b3, 0, none⟩ = some (.int .i64 n.kind) := (unhide C9).cell (i := 0) (by simp)
    have n1 : w9.cell? ⟨b3, 1, none⟩ = some (.int .i64 n.frm) := (unhide C9).cell (i := 1) (by simp)
    have n2 : w9.cell? ⟨b3, 2, none⟩ = some (.int .i64 n.dst) := (unhide C9).cell (i := 2) (by simp)
    have n3 : w9.cell? ⟨b3, 3, none⟩ = some (.int .i64 n.inc) := (unhide C9).cell (i := 3) (by simp)
    have n4 : w9.cell? ⟨b3, 4, none⟩ = some (.int .i64 n.ver) := (unhide C9).cell (i := 4) (by simp)
    have n5 : w9.cell? ⟨b3, 5, none⟩ = some (.int .i64 (-1)) := (unhide C9).cell (i := 5) (by simp)
    have n6 : w9.cell? ⟨b3, 6, none⟩ = some (.int .i64 n.g) := (unhide C9).cell (i := 6) (by simp)
    have n7 : w9.cell? ⟨b3, 7, none⟩ = some (.slice j0 n.incs.length k0) := (unhide C9).cell (i := 7) (by simp)
    have n8 : w9.cell? ⟨b3, 8, none⟩ = some (.slice j1 n.vers.length k1) := (unhide C9).cell (i := 8) (by simp)
    have n9 : w9.cell? ⟨b3, 9, none⟩ = some (.slice (some ⟨g, 0, none⟩) n.evs.length k2) := (unhide C9).cell (i := 9) (by simp)
    have n10 : w9.cell? ⟨b3, 10, none⟩ = some (.slice j3 n.outs.length k3) := (unhide C9).cell (i := 10) (by simp)
    go_wp2_with fail
    clear n0 n1 n2 n3 n4 n5 n6 n7 n8 n9 n10
    refine (implWordOk_any ⟨n.kind, n.frm, n.dst, n.inc, n.ver, -1, n.g, n.incs, n.vers, n.evs, n.outs⟩ _ _ _ _ _ ⟨((unhide FALL) w9 (unhide HY9)).1.i.at, ((unhide FALL) w9 (unhide HY9)).1.v.at, ((unhide FALL) w9 (unhide HY9)).1.e.at, ((unhide FALL) w9 (unhide HY9)).1.o.at⟩).mono ?_
    rintro e wa ⟨he, hba⟩
    rw [unhide HRd] at he
    subst he
    go_wp2_with fail
    go_ret
    exact ⟨rfl, below_then ((unhide FALL) w9 (unhide HY9)).2.2 hba⟩
end Go.Proofs.Ytimkamgghkjhhaa
