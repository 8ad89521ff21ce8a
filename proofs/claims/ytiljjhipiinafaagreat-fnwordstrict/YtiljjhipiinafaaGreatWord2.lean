/- Whether a word is ok: impl.WordOk, spec.WordOk. -/
import Derived.Test.YtiljjhipiinafaaGreatWord1
import Derived.Test.YtiljjhipiinafaaGreatHold4
import Derived.Deep.Cut
namespace Go.Proofs.YtiljjhipiinafaaGreat
open Go.RowKit
set_option linter.unusedVariables false
set_option linter.unusedSimpArgs false

def wordOk (n : WordV) : Bool := inR 1 7 n.kind && (inR 0 2 n.frm && (inR 0 2 n.dst && (inR 0 9999 n.inc && (inR 0 9999 n.ver && (inR 0 9999 n.rd && (inR 0 41 n.g && (numsOk n.incs && (numsOk n.vers && (inOrder evOk evLess n.evs 100 && (inOrder outOk outLess n.outs 96))))))))))

theorem l2Most_two (w : World) : Calls Tryz.prog 73 #[] w fun e w' => e = .returned (.int .i64 100) ∧ w' = w := by
  go_enter Tryz.func73, Tryz.ntmps73
  go_wp2
  go_ret
  exact ⟨rfl, rfl⟩

set_option maxRecDepth 100000 in
set_option maxHeartbeats 4000000 in
theorem implWordOk_any (n : WordV) (vi vv ve vo : Value) (w : World) (h : WordAt w n vi vv ve vo) :
    Calls Tryz.prog 8 #[wordAgg n vi vv ve vo] w fun e w' => e = .returned (.bool (wordOk n)) ∧ Below w.heap.size w w' := by
  have H := hide h
  obtain ⟨⟨a0, ac0, e1⟩, ⟨a1, ac1, e2⟩, ⟨a2, ac2, e3⟩, ⟨a3, ac3, e4⟩⟩ := h.sliced
  subst e1 e2 e3 e4
  clear h
  have hb0 : Below w.heap.size w (w.alloc (.cells #[.int .i64 n.kind, .int .i64 n.frm, .int .i64 n.dst, .int .i64 n.inc, .int .i64 n.ver, .int .i64 n.rd, .int .i64 n.g, .slice a0 n.incs.length ac0, .slice a1 n.vers.length ac1, .slice a2 n.evs.length ac2, .slice a3 n.outs.length ac3] 28)) := (Below.refl _ _).alloc (Nat.le_refl _) _
  have HA := hide (cellsAt_new w [.int .i64 n.kind, .int .i64 n.frm, .int .i64 n.dst, .int .i64 n.inc, .int .i64 n.ver, .int .i64 n.rd, .int .i64 n.g, .slice a0 n.incs.length ac0, .slice a1 n.vers.length ac1, .slice a2 n.evs.length ac2, .slice a3 n.outs.length ac3] 28)
  have HB0 := hide hb0
  clear hb0
  obtain ⟨R, hR⟩ : ∃ R, R = wordOk n := ⟨_, rfl⟩
  have HR := hide hR
  rw [← hR]
  clear hR
  go_enter Tryz.func8, Tryz.ntmps8
  go_upto_region 1 with fail
  change Hid (CellsAt (w.alloc (.cells #[.int .i64 n.kind, .int .i64 n.frm, .int .i64 n.dst, .int .i64 n.inc, .int .i64 n.ver, .int .i64 n.rd, .int .i64 n.g, .slice a0 n.incs.length ac0, .slice a1 n.vers.length ac1, .slice a2 n.evs.length ac2, .slice a3 n.outs.length ac3] 28)) _ _ _) at HA
  generalize (w.alloc (.cells #[.int .i64 n.kind, .int .i64 n.frm, .int .i64 n.dst, .int .i64 n.inc, .int .i64 n.ver, .int .i64 n.rd, .int .i64 n.g, .slice a0 n.incs.length ac0, .slice a1 n.vers.length ac1, .slice a2 n.evs.length ac2, .slice a3 n.outs.length ac3] 28)) = X at *
  have k0 : X.cell? ⟨w.heap.size, 0, none⟩ = some (.int .i64 n.kind) := (unhide HA) 0 (by simp)
  have k1 : X.cell? ⟨w.heap.size, 1, none⟩ = some (.int .i64 n.frm) := (unhide HA) 1 (by simp)
  have k2 : X.cell? ⟨w.heap.size, 2, none⟩ = some (.int .i64 n.dst) := (unhide HA) 2 (by simp)
  have k3 : X.cell? ⟨w.heap.size, 3, none⟩ = some (.int .i64 n.inc) := (unhide HA) 3 (by simp)
  have k4 : X.cell? ⟨w.heap.size, 4, none⟩ = some (.int .i64 n.ver) := (unhide HA) 4 (by simp)
  have k5 : X.cell? ⟨w.heap.size, 5, none⟩ = some (.int .i64 n.rd) := (unhide HA) 5 (by simp)
  have k6 : X.cell? ⟨w.heap.size, 6, none⟩ = some (.int .i64 n.g) := (unhide HA) 6 (by simp)
  have k7 : X.cell? ⟨w.heap.size, 7, none⟩ = some (.slice a0 n.incs.length ac0) := (unhide HA) 7 (by simp)
  have k8 : X.cell? ⟨w.heap.size, 8, none⟩ = some (.slice a1 n.vers.length ac1) := (unhide HA) 8 (by simp)
  have k9 : X.cell? ⟨w.heap.size, 9, none⟩ = some (.slice a2 n.evs.length ac2) := (unhide HA) 9 (by simp)
  have k10 : X.cell? ⟨w.heap.size, 10, none⟩ = some (.slice a3 n.outs.length ac3) := (unhide HA) 10 (by simp)
  have hB := unhide HB0
  go_wp2_with fail
  refine (within_any n.kind 1 7 _).mono ?_
  rintro e z0 ⟨rfl, hz⟩
  obtain rfl := hz.symm
  cases h0 : inR 1 7 n.kind
  · go_wp2_with fail
    go_ret
    exact ⟨ret_bool ((unhide HR).trans (by simp [wordOk, h0])).symm, hB⟩
  go_wp2_with fail
  refine (isNode_one n.frm _).mono ?_
  rintro e z1 ⟨rfl, hz⟩
  obtain rfl := hz.symm
  cases h1 : inR 0 2 n.frm
  · go_wp2_with fail
    go_ret
    exact ⟨ret_bool ((unhide HR).trans (by simp [wordOk, h1])).symm, hB⟩
  go_wp2_with fail
  refine (isNode_one n.dst _).mono ?_
  rintro e z2 ⟨rfl, hz⟩
  obtain rfl := hz.symm
  cases h2 : inR 0 2 n.dst
  · go_wp2_with fail
    go_ret
    exact ⟨ret_bool ((unhide HR).trans (by simp [wordOk, h2])).symm, hB⟩
  go_wp2_with fail
  refine (isNumber_any n.inc _).mono ?_
  rintro e z3 ⟨rfl, hz⟩
  obtain rfl := hz.symm
  cases h3 : inR 0 9999 n.inc
  · go_wp2_with fail
    go_ret
    exact ⟨ret_bool ((unhide HR).trans (by simp [wordOk, h3])).symm, hB⟩
  go_wp2_with fail
  refine (isNumber_any n.ver _).mono ?_
  rintro e z4 ⟨rfl, hz⟩
  obtain rfl := hz.symm
  cases h4 : inR 0 9999 n.ver
  · go_wp2_with fail
    go_ret
    exact ⟨ret_bool ((unhide HR).trans (by simp [wordOk, h4])).symm, hB⟩
  go_wp2_with fail
  refine (isNumber_any n.rd _).mono ?_
  rintro e z5 ⟨rfl, hz⟩
  obtain rfl := hz.symm
  cases h5 : inR 0 9999 n.rd
  · go_wp2_with fail
    go_ret
    exact ⟨ret_bool ((unhide HR).trans (by simp [wordOk, h5])).symm, hB⟩
  go_wp2_with fail
  refine (isUntil_any n.g _).mono ?_
  rintro e z6 ⟨rfl, hz⟩
  obtain rfl := hz.symm
  cases h6 : inR 0 41 n.g
  · go_wp2_with fail
    go_ret
    exact ⟨ret_bool ((unhide HR).trans (by simp [wordOk, h6])).symm, hB⟩
  go_wp2_with fail
  refine (numbersInForm_any _ n.incs _ ((unhide H).i.on hB)).mono ?_
  rintro e z7 ⟨rfl, hz⟩
  obtain rfl := hz.symm
  cases h7 : numsOk n.incs
  · go_wp2_with fail
    go_ret
    exact ⟨ret_bool ((unhide HR).trans (by simp [wordOk, h7])).symm, hB⟩
  go_wp2_with fail
  refine (numbersInForm_any _ n.vers _ ((unhide H).v.on hB)).mono ?_
  rintro e z8 ⟨rfl, hz⟩
  obtain rfl := hz.symm
  cases h8 : numsOk n.vers
  · go_wp2_with fail
    go_ret
    exact ⟨ret_bool ((unhide HR).trans (by simp [wordOk, h8])).symm, hB⟩
  go_wp2_with fail
  refine (eventsInOrder_any _ n.evs 100 _ ((unhide H).e.on hB)).mono ?_
  rintro e z9 ⟨rfl, hb9⟩
  replace hB := below_then hB hb9
  replace k10 := cell_on hb9 k10
  cases h9 : inOrder evOk evLess n.evs 100
  · go_wp2_with fail
    go_ret
    exact ⟨ret_bool ((unhide HR).trans (by simp [wordOk, h9])).symm, hB⟩
  go_wp2_with fail
  refine (outsInOrder_any _ n.outs 96 _ ((unhide H).o.on hB)).mono ?_
  rintro e z10 ⟨rfl, hb10⟩
  replace hB := below_then hB hb10
  go_wp2_with fail
  go_ret
  exact ⟨ret_bool ((unhide HR).trans (by simp [wordOk, h0, h1, h2, h3, h4, h5, h6, h7, h8, h9])).symm, hB⟩

end Go.Proofs.YtiljjhipiinafaaGreat
