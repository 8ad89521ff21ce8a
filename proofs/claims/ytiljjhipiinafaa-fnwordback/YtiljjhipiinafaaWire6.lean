/- impl.WordPack. -/
import Derived.Test.YtiljjhipiinafaaWire5
import Derived.Deep.Cut
namespace Go.Proofs.Ytiljjhipiinafaa
open Go.RowKit
set_option linter.unusedVariables false
set_option linter.unusedSimpArgs false

set_option maxRecDepth 100000 in
set_option maxHeartbeats 4000000 in
theorem implWordPack_any (n : WordV) (vi vv ve vo : Value) (w : World) (h : WordAt w n vi vv ve vo) :
    Calls Try.prog 9 #[wordAgg n vi vv ve vo] w fun e w' => ∃ v, e = .returned v ∧ OwnsBy w' w.heap.size v (if wordOk n = true then packW n else []) ∧ Below w.heap.size w w' := by
  obtain ⟨⟨a0, ac0, e1⟩, ⟨a1, ac1, e2⟩, ⟨a2, ac2, e3⟩, ⟨a3, ac3, e4⟩⟩ := h.sliced
  subst e1 e2 e3 e4
  have hb0 : Below w.heap.size w (w.alloc (.cells #[.int .i64 n.kind, .int .i64 n.frm, .int .i64 n.dst, .int .i64 n.inc, .int .i64 n.ver, .int .i64 n.rd, .int .i64 n.g, .slice a0 n.incs.length ac0, .slice a1 n.vers.length ac1, .slice a2 n.evs.length ac2, .slice a3 n.outs.length ac3] 27)) := (Below.refl _ _).alloc (Nat.le_refl _) _
  have HA0 := cellsAt_new w [.int .i64 n.kind, .int .i64 n.frm, .int .i64 n.dst, .int .i64 n.inc, .int .i64 n.ver, .int .i64 n.rd, .int .i64 n.g, .slice a0 n.incs.length ac0, .slice a1 n.vers.length ac1, .slice a2 n.evs.length ac2, .slice a3 n.outs.length ac3] 27
  change CellsAt (w.alloc (.cells #[.int .i64 n.kind, .int .i64 n.frm, .int .i64 n.dst, .int .i64 n.inc, .int .i64 n.ver, .int .i64 n.rd, .int .i64 n.g, .slice a0 n.incs.length ac0, .slice a1 n.vers.length ac1, .slice a2 n.evs.length ac2, .slice a3 n.outs.length ac3] 27)) _ _ _ at HA0
  have hsz0 : (w.alloc (.cells #[.int .i64 n.kind, .int .i64 n.frm, .int .i64 n.dst, .int .i64 n.inc, .int .i64 n.ver, .int .i64 n.rd, .int .i64 n.g, .slice a0 n.incs.length ac0, .slice a1 n.vers.length ac1, .slice a2 n.evs.length ac2, .slice a3 n.outs.length ac3] 27)).heap.size = w.heap.size + 1 := by simp
  have H := hide h
  clear h
  obtain ⟨R, hR⟩ : ∃ R, R = wordOk n := ⟨_, rfl⟩
  have HR := hide hR
  rw [← hR]
  clear hR
  go_enter Try.func9, Try.ntmps9
  go_upto_region 1 with fail
  generalize (w.alloc (.cells #[.int .i64 n.kind, .int .i64 n.frm, .int .i64 n.dst, .int .i64 n.inc, .int .i64 n.ver, .int .i64 n.rd, .int .i64 n.g, .slice a0 n.incs.length ac0, .slice a1 n.vers.length ac1, .slice a2 n.evs.length ac2, .slice a3 n.outs.length ac3] 27)) = X1 at *
  have HA := hide HA0
  have HB := hide hb0
  have HSZ := hide hsz0
  clear HA0 hb0 hsz0
  have m0 := (unhide HA) 0 (by simp)
  have m1 := (unhide HA) 1 (by simp)
  have m2 := (unhide HA) 2 (by simp)
  have m3 := (unhide HA) 3 (by simp)
  have m4 := (unhide HA) 4 (by simp)
  have m5 := (unhide HA) 5 (by simp)
  have m6 := (unhide HA) 6 (by simp)
  have m7 := (unhide HA) 7 (by simp)
  have m8 := (unhide HA) 8 (by simp)
  have m9 := (unhide HA) 9 (by simp)
  have m10 := (unhide HA) 10 (by simp)
  simp only [List.getElem_cons_zero, List.getElem_cons_succ, Nat.zero_add] at m0 m1 m2 m3 m4 m5 m6 m7 m8 m9 m10
  go_wp2_with fail
  clear m0 m1 m2 m3 m4 m5 m6 m7 m8 m9 m10
  refine (implWordOk_any n _ _ _ _ _ ((unhide H).on (unhide HB))).mono ?_
  rintro e w2 ⟨rfl, hb2⟩
  rw [← unhide HR]
  have HA2 := hide ((unhide HA).on hb2)
  have HB2 := hide (below_then (unhide HB) hb2)
  have hsq : w.heap.size < w2.heap.size := by have := unhide HSZ; have := hb2.size; omega
  have HSQ := hide hsq
  clear HA HB hb2 hsq
  cases R with
  | false =>
    go_wp2_with fail
    go_ret
    exact ⟨_, rfl, (by first | exact World.ownsRow_nil _ _ _ _ | (simp only [Bool.false_eq_true, if_false]; exact World.ownsRow_nil _ _ _ _)), unhide HB2⟩
  | true =>
  have HIN := hide (wordOk_in (unhide HR).symm)
  clear HR
  go_upto_region 4 with fail
  have hb3 : Below w2.heap.size w2 (w2.alloc (.cells #[.slice none 0 0] 62)) := (Below.refl _ _).alloc (Nat.le_refl _) _
  have hW3 : WrAt w2.heap.size (w2.heap.size + 1) (.slice none 0 0) (w2.alloc (.cells #[.slice none 0 0] 62)) [] := ⟨by simp [go_sem], by simp [go_sem], World.ownsRow_nil _ _ _ _, by omega, by simp⟩
  have HW3 := hide hW3
  have HA3 := hide ((unhide HA2).on hb3)
  have HB3 := hide (below_then (unhide HB2) hb3)
  clear hb3 hW3 HA2 HB2
  generalize w2.alloc (.cells #[.slice none 0 0] 62) = w3 at *
  generalize w2.heap.size = q at *
  have FX : Hid (∀ u W, Gw q (.slice none 0 0) u w3 W → CellsAt W w.heap.size 0 [.int .i64 n.kind, .int .i64 n.frm, .int .i64 n.dst, .int .i64 n.inc, .int .i64 n.ver, .int .i64 n.rd, .int .i64 n.g, .slice a0 n.incs.length ac0, .slice a1 n.vers.length ac1, .slice a2 n.evs.length ac2, .slice a3 n.outs.length ac3] ∧ WordAt W n (.slice a0 n.incs.length ac0) (.slice a1 n.vers.length ac1) (.slice a2 n.evs.length ac2) (.slice a3 n.outs.length ac3) ∧ Below w.heap.size w W) := hide (fun u W hG => by
    have hb := hG.below (unhide HW3)
    have hbw := (unhide HB3).trans (hb.mono (Nat.le_of_lt (unhide HSQ)))
    exact ⟨fun j hj => (hb.cell (p := ⟨w.heap.size, 0 + j, none⟩) (unhide HSQ)).trans ((unhide HA3) j hj), (unhide H).on hbw, hbw⟩)
  have m0 := (unhide HA3) 0 (by simp)
  have m1 := (unhide HA3) 1 (by simp)
  have m2 := (unhide HA3) 2 (by simp)
  have m3 := (unhide HA3) 3 (by simp)
  have m4 := (unhide HA3) 4 (by simp)
  have m5 := (unhide HA3) 5 (by simp)
  have m6 := (unhide HA3) 6 (by simp)
  have m7 := (unhide HA3) 7 (by simp)
  have m8 := (unhide HA3) 8 (by simp)
  have m9 := (unhide HA3) 9 (by simp)
  have m10 := (unhide HA3) 10 (by simp)
  simp only [List.getElem_cons_zero, List.getElem_cons_succ, Nat.zero_add] at m0 m1 m2 m3 m4 m5 m6 m7 m8 m9 m10
  go_wp2_with fail
  clear m0 m1 m2 m3 m4 m5 m6 m7 m8 m9 m10
  refine (headOfWord_any n _ _ _ _ _).mono ?_
  rintro r w4 ⟨rfl, hb4⟩
  have HW4 := hide ((unhide HW3).on hb4)
  have HG4 : Hid (Gw q (.slice none 0 0) (.slice none 0 0) w3 w4) := hide (Gw.ofBelow hb4)
  have HS4 := hide hb4.size
  clear hb4
  go_wp2_with fail
  have hbA : Below w4.heap.size w4 (w4.alloc (.cells #[.int .i64 n.kind, .int .i64 n.frm, .int .i64 n.dst, .int .i64 n.inc, .int .i64 n.ver, .int .i64 n.rd, .int .i64 n.g] 64)) := (Below.refl _ _).alloc (Nat.le_refl _) _
  have HN := hide (nums_of_cells (zs := headNums n) (cellsAt_new w4 ((headNums n).map (Value.int .i64)) 64) (by unfold maxLen; simp [headNums]))
  change Hid (NumsAt (w4.alloc (.cells #[.int .i64 n.kind, .int .i64 n.frm, .int .i64 n.dst, .int .i64 n.inc, .int .i64 n.ver, .int .i64 n.rd, .int .i64 n.g] 64)) _ _) at HN
  have HW5 := hide ((unhide HW4).on hbA)
  have HG5 := hide ((unhide HG4).trans (Gw.ofBelow hbA))
  clear hbA
  generalize w4.alloc (.cells #[.int .i64 n.kind, .int .i64 n.frm, .int .i64 n.dst, .int .i64 n.inc, .int .i64 n.ver, .int .i64 n.rd, .int .i64 n.g] 64) = w5 at *
  refine (rowW_any q (q + 1) _ _ [] (headNums n) _ (unhide HW5) (fun u W hG => (unhide HW4).nums (Nat.le_refl _) (unhide HN) hG) (fun z hz => by have := (unhide HIN).head z hz; omega) (by simp [headNums]) (by simp)).mono ?_
  rintro r w6 ⟨rfl, v6, hO6, hG6⟩
  have HW6 := hide hO6
  have HG6 := hide ((unhide HG5).trans hG6)
  clear hO6 hG6 HW5 HG5 HW4 HG4 HN

  have hcell6 := ((unhide FX) _ _ (unhide HG6)).1 7 (by simp)
  simp only [List.getElem_cons_zero, List.getElem_cons_succ, Nat.zero_add] at hcell6
  go_wp2_with fail
  refine (writeInts_any q (q + 1) _ _ _ n.incs _ (unhide HW6) (fun u W hG => ((unhide FX) u W ((unhide HG6).trans hG)).2.1.i) (fun z hz => by have := (unhide HIN).incs.2 z hz; omega) (by have := (unhide HIN).incs.1; omega) (by rw [List.nil_append]; exact pk_len (m := 7) (by simp [headNums]) (by omega))).mono ?_
  rintro r w7 ⟨rfl, v7, hO, hG⟩
  have HW7 : Hid (WrAt q (q + 1) v7 w7 (packI (headNums n ++ ((n.incs.length : Int) :: n.incs)))) := hide (by
    have e := hO
    rw [List.nil_append, ← packI_app] at e
    exact e)
  have HG7 := hide ((unhide HG6).trans hG)
  clear hO hG hcell6 HW6 HG6

  have hcell7 := ((unhide FX) _ _ (unhide HG7)).1 8 (by simp)
  simp only [List.getElem_cons_zero, List.getElem_cons_succ, Nat.zero_add] at hcell7
  go_wp2_with fail
  refine (writeInts_any q (q + 1) _ _ _ n.vers _ (unhide HW7) (fun u W hG => ((unhide FX) u W ((unhide HG7).trans hG)).2.1.v) (fun z hz => by have := (unhide HIN).vers.2 z hz; omega) (by have := (unhide HIN).vers.1; omega) (pk_len (m := 20) (by have := (unhide HIN).incs.1; simp [headNums]; omega) (by omega))).mono ?_
  rintro r w8 ⟨rfl, v8, hO, hG⟩
  have HW8 : Hid (WrAt q (q + 1) v8 w8 (packI (preI n))) := hide (by
    have e := hO
    rw [← packI_app, List.append_assoc] at e
    exact e)
  have HG8 := hide ((unhide HG7).trans hG)
  clear hO hG hcell7 HW7 HG7

  have hcell8 := ((unhide FX) _ _ (unhide HG8)).1 9 (by simp)
  simp only [List.getElem_cons_zero, List.getElem_cons_succ, Nat.zero_add] at hcell8
  go_wp2_with fail
  refine (writeEvents_any q (q + 1) _ _ _ n.evs _ (unhide HW8) (fun u W hG => ((unhide FX) u W ((unhide HG8).trans hG)).2.1.e) (unhide HIN).evs.2 (unhide HIN).evs.1 (by have := packI_len (preI n); have := preI_len (unhide HIN); omega)).mono ?_
  rintro r w9 ⟨rfl, v9, hO, hG⟩
  have HW9 : Hid (WrAt q (q + 1) v9 w9 (packI (evTo n n.evs.length))) := hide (by
    have e := hO
    rw [← packI_app] at e
    simpa [evTo] using e)
  have HG9 := hide ((unhide HG8).trans hG)
  clear hO hG hcell8 HW8 HG8

  have hcell9 := ((unhide FX) _ _ (unhide HG9)).1 10 (by simp)
  simp only [List.getElem_cons_zero, List.getElem_cons_succ, Nat.zero_add] at hcell9
  go_wp2_with fail
  refine (writeOuts_any q (q + 1) _ _ _ n.outs _ (unhide HW9) (fun u W hG => ((unhide FX) u W ((unhide HG9).trans hG)).2.1.o) (fun o ho z hz => by have := (unhide HIN).outs.2 o ho z hz; omega) (by have := (unhide HIN).outs.1; omega) (by have := packI_len (evTo n n.evs.length); have := evTo_len (unhide HIN) n.evs.length; omega)).mono ?_
  rintro r w10 ⟨rfl, v10, hO, hG⟩
  have HW10 : Hid (WrAt q (q + 1) v10 w10 (packI (ouTo n n.outs.length))) := hide (by
    have e := hO
    rw [← packI_app] at e
    simpa [ouTo] using e)
  have HG10 := hide ((unhide HG9).trans hG)
  clear hO hG hcell9 HW9 HG9

  have c10 := (unhide HW10).c
  have hall := ouTo_all n
  have HE : Hid (packI (ouTo n n.outs.length) = packW n) := hide (by unfold packW; rw [hall])
  have HBW := hide ((unhide FX) _ _ (unhide HG10)).2.2
  clear hall
  go_wp2_with fail
  go_ret
  exact ⟨_, rfl, by rw [← unhide HE]; exact ownsBy_less (by have := unhide HSQ; omega) (unhide HW10).o, unhide HBW⟩
end Go.Proofs.Ytiljjhipiinafaa
