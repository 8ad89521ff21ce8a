/- Words: the laws' ltWord of a word and itself; rows of bytes as strings. -/
import Derived.Test.YtiljjhipiinafaaGreatWrB
import Derived.Test.YtiljjhipiinafaaGreatLtA
import Derived.Laws.BytesArg
namespace Go.Proofs.YtiljjhipiinafaaGreat
open Go.RowKit
set_option linter.unusedVariables false
set_option linter.unusedSimpArgs false

theorem conv_by {w : World} {v : Value} {bs : List Int} (h : ByAt w v bs) : (convert 22 9 v).run Tryz.prog w = .ok (.string (strOfNums bs)) w := by
  obtain ⟨ad, cap, rfl, hlc, hm, hc⟩ := h
  have hd : Tryz.prog.underlying 9 = some .string := by kernel_rfl
  rcases hc with rfl | ⟨b, off, rfl, hcell⟩
  · have hl : (loadCells (ad.getD ⟨0, 0, none⟩) 0).run Tryz.prog w = .ok (([] : List Int).map (Value.int .u8)).toArray w := by
      have := run_loadCells_list (P := Tryz.prog) w (ad.getD ⟨0, 0, none⟩) [] (fun j v hj => by simp at hj)
      simpa using this
    cases ad with
    | none => exact run_convert_bytes_nil w _ _ slice_By Tryz.underlying5 _ _ _ hd
    | some a =>
      rw [run_convert_bytes_string w _ _ _ _ _ cap slice_By Tryz.underlying5 hd]
      have e := run_bytesToString (P := Tryz.prog) w a 0 cap [] hl
      rw [foldl_push_bytes] at e
      exact e
  · exact run_convert_bytes_arg w _ _ slice_By Tryz.underlying5 b off bs.length cap bs rfl (fun i hi => by
      rw [hcell i hi]; simp [List.getD, hi]) _ hd

set_option maxRecDepth 100000 in
set_option maxHeartbeats 4000000 in
theorem ltWord_any (n : WordV) (vi vv ve vo ui uv ue uo : Value) (w : World) (h1 : WordAt w n vi vv ve vo) (h2 : WordAt w n ui uv ue uo) :
    Calls Tryz.prog 7 #[wordAgg n vi vv ve vo, wordAgg n ui uv ue uo] w fun e w' => e = .returned (.bool true) ∧ Below w.heap.size w w' := by
  have hqe : ∀ z : Int, (z == z) = true := by intro z; simp
  obtain ⟨⟨a0, ac0, e1⟩, ⟨a1, ac1, e2⟩, ⟨a2, ac2, e3⟩, ⟨a3, ac3, e4⟩⟩ := h1.sliced
  subst e1 e2 e3 e4
  obtain ⟨⟨b0, bc0, e1⟩, ⟨b1, bc1, e2⟩, ⟨b2, bc2, e3⟩, ⟨b3, bc3, e4⟩⟩ := h2.sliced
  subst e1 e2 e3 e4
  have hbA : Below w.heap.size w (w.alloc (.cells #[.int .i64 n.kind, .int .i64 n.frm, .int .i64 n.dst, .int .i64 n.inc, .int .i64 n.ver, .int .i64 n.rd, .int .i64 n.g, .slice a0 n.incs.length ac0, .slice a1 n.vers.length ac1, .slice a2 n.evs.length ac2, .slice a3 n.outs.length ac3] 28)) := (Below.refl _ _).alloc (Nat.le_refl _) _
  have hbB : Below (w.alloc (.cells #[.int .i64 n.kind, .int .i64 n.frm, .int .i64 n.dst, .int .i64 n.inc, .int .i64 n.ver, .int .i64 n.rd, .int .i64 n.g, .slice a0 n.incs.length ac0, .slice a1 n.vers.length ac1, .slice a2 n.evs.length ac2, .slice a3 n.outs.length ac3] 28)).heap.size (w.alloc (.cells #[.int .i64 n.kind, .int .i64 n.frm, .int .i64 n.dst, .int .i64 n.inc, .int .i64 n.ver, .int .i64 n.rd, .int .i64 n.g, .slice a0 n.incs.length ac0, .slice a1 n.vers.length ac1, .slice a2 n.evs.length ac2, .slice a3 n.outs.length ac3] 28)) ((w.alloc (.cells #[.int .i64 n.kind, .int .i64 n.frm, .int .i64 n.dst, .int .i64 n.inc, .int .i64 n.ver, .int .i64 n.rd, .int .i64 n.g, .slice a0 n.incs.length ac0, .slice a1 n.vers.length ac1, .slice a2 n.evs.length ac2, .slice a3 n.outs.length ac3] 28)).alloc (.cells #[.int .i64 n.kind, .int .i64 n.frm, .int .i64 n.dst, .int .i64 n.inc, .int .i64 n.ver, .int .i64 n.rd, .int .i64 n.g, .slice b0 n.incs.length bc0, .slice b1 n.vers.length bc1, .slice b2 n.evs.length bc2, .slice b3 n.outs.length bc3] 28)) := (Below.refl _ _).alloc (Nat.le_refl _) _
  have hsA : (w.alloc (.cells #[.int .i64 n.kind, .int .i64 n.frm, .int .i64 n.dst, .int .i64 n.inc, .int .i64 n.ver, .int .i64 n.rd, .int .i64 n.g, .slice a0 n.incs.length ac0, .slice a1 n.vers.length ac1, .slice a2 n.evs.length ac2, .slice a3 n.outs.length ac3] 28)).heap.size = w.heap.size + 1 := by simp
  have CA := hide ((cellsAt_new w [.int .i64 n.kind, .int .i64 n.frm, .int .i64 n.dst, .int .i64 n.inc, .int .i64 n.ver, .int .i64 n.rd, .int .i64 n.g, .slice a0 n.incs.length ac0, .slice a1 n.vers.length ac1, .slice a2 n.evs.length ac2, .slice a3 n.outs.length ac3] 28).on hbB)
  have CB := hide (cellsAt_new (w.alloc (.cells #[.int .i64 n.kind, .int .i64 n.frm, .int .i64 n.dst, .int .i64 n.inc, .int .i64 n.ver, .int .i64 n.rd, .int .i64 n.g, .slice a0 n.incs.length ac0, .slice a1 n.vers.length ac1, .slice a2 n.evs.length ac2, .slice a3 n.outs.length ac3] 28)) [.int .i64 n.kind, .int .i64 n.frm, .int .i64 n.dst, .int .i64 n.inc, .int .i64 n.ver, .int .i64 n.rd, .int .i64 n.g, .slice b0 n.incs.length bc0, .slice b1 n.vers.length bc1, .slice b2 n.evs.length bc2, .slice b3 n.outs.length bc3] 28)
  rw [hsA] at CB
  have hb := below_then hbA hbB
  have H1 := hide (h1.on hb)
  have H2 := hide (h2.on hb)
  have HB := hide hb
  clear h1 h2 hbA hbB hb hsA
  change Hid (CellsAt ((w.alloc (.cells #[.int .i64 n.kind, .int .i64 n.frm, .int .i64 n.dst, .int .i64 n.inc, .int .i64 n.ver, .int .i64 n.rd, .int .i64 n.g, .slice a0 n.incs.length ac0, .slice a1 n.vers.length ac1, .slice a2 n.evs.length ac2, .slice a3 n.outs.length ac3] 28)).alloc (.cells #[.int .i64 n.kind, .int .i64 n.frm, .int .i64 n.dst, .int .i64 n.inc, .int .i64 n.ver, .int .i64 n.rd, .int .i64 n.g, .slice b0 n.incs.length bc0, .slice b1 n.vers.length bc1, .slice b2 n.evs.length bc2, .slice b3 n.outs.length bc3] 28)) w.heap.size 0 _) at CA
  change Hid (CellsAt ((w.alloc (.cells #[.int .i64 n.kind, .int .i64 n.frm, .int .i64 n.dst, .int .i64 n.inc, .int .i64 n.ver, .int .i64 n.rd, .int .i64 n.g, .slice a0 n.incs.length ac0, .slice a1 n.vers.length ac1, .slice a2 n.evs.length ac2, .slice a3 n.outs.length ac3] 28)).alloc (.cells #[.int .i64 n.kind, .int .i64 n.frm, .int .i64 n.dst, .int .i64 n.inc, .int .i64 n.ver, .int .i64 n.rd, .int .i64 n.g, .slice b0 n.incs.length bc0, .slice b1 n.vers.length bc1, .slice b2 n.evs.length bc2, .slice b3 n.outs.length bc3] 28)) (w.heap.size + 1) 0 _) at CB
  go_enter Tryz.func7, Tryz.ntmps7
  go_upto_region 1 with fail
  generalize ((w.alloc (.cells #[.int .i64 n.kind, .int .i64 n.frm, .int .i64 n.dst, .int .i64 n.inc, .int .i64 n.ver, .int .i64 n.rd, .int .i64 n.g, .slice a0 n.incs.length ac0, .slice a1 n.vers.length ac1, .slice a2 n.evs.length ac2, .slice a3 n.outs.length ac3] 28)).alloc (.cells #[.int .i64 n.kind, .int .i64 n.frm, .int .i64 n.dst, .int .i64 n.inc, .int .i64 n.ver, .int .i64 n.rd, .int .i64 n.g, .slice b0 n.incs.length bc0, .slice b1 n.vers.length bc1, .slice b2 n.evs.length bc2, .slice b3 n.outs.length bc3] 28)) = X at *
  have p0 := (unhide CA) 0 (by simp)
  have r0 := (unhide CB) 0 (by simp)
  have p1 := (unhide CA) 1 (by simp)
  have r1 := (unhide CB) 1 (by simp)
  have p2 := (unhide CA) 2 (by simp)
  have r2 := (unhide CB) 2 (by simp)
  have p3 := (unhide CA) 3 (by simp)
  have r3 := (unhide CB) 3 (by simp)
  have p4 := (unhide CA) 4 (by simp)
  have r4 := (unhide CB) 4 (by simp)
  have p5 := (unhide CA) 5 (by simp)
  have r5 := (unhide CB) 5 (by simp)
  have p6 := (unhide CA) 6 (by simp)
  have r6 := (unhide CB) 6 (by simp)
  have p7 := (unhide CA) 7 (by simp)
  have r7 := (unhide CB) 7 (by simp)
  have p8 := (unhide CA) 8 (by simp)
  have r8 := (unhide CB) 8 (by simp)
  have p9 := (unhide CA) 9 (by simp)
  have r9 := (unhide CB) 9 (by simp)
  have p10 := (unhide CA) 10 (by simp)
  have r10 := (unhide CB) 10 (by simp)
  simp only [List.getElem_cons_zero, List.getElem_cons_succ, Nat.zero_add] at p0 r0 p1 r1 p2 r2 p3 r3 p4 r4 p5 r5 p6 r6 p7 r7 p8 r8 p9 r9 p10 r10
  go_wp2_with fail
  refine (L.ltInts_any _ _ n.incs _ (unhide H1).i (unhide H2).i).mono ?_
  rintro e w1 ⟨rfl, hb1⟩
  replace CA := hide ((unhide CA).on hb1)
  replace CB := hide ((unhide CB).on hb1)
  replace H1 := hide ((unhide H1).on hb1)
  replace H2 := hide ((unhide H2).on hb1)
  replace HB := hide (below_then (unhide HB) hb1)
  clear hb1
  clear p0 r0 p1 r1 p2 r2 p3 r3 p4 r4 p5 r5 p6 r6 p7 r7 p8 r8 p9 r9 p10 r10
  have p8 := (unhide CA) 8 (by simp)
  have r8 := (unhide CB) 8 (by simp)
  have p9 := (unhide CA) 9 (by simp)
  have r9 := (unhide CB) 9 (by simp)
  have p10 := (unhide CA) 10 (by simp)
  have r10 := (unhide CB) 10 (by simp)
  simp only [List.getElem_cons_zero, List.getElem_cons_succ, Nat.zero_add] at p8 r8 p9 r9 p10 r10
  go_wp2_with fail
  refine (L.ltInts_any _ _ n.vers _ (unhide H1).v (unhide H2).v).mono ?_
  rintro e w2 ⟨rfl, hb2⟩
  replace CA := hide ((unhide CA).on hb2)
  replace CB := hide ((unhide CB).on hb2)
  replace H1 := hide ((unhide H1).on hb2)
  replace H2 := hide ((unhide H2).on hb2)
  replace HB := hide (below_then (unhide HB) hb2)
  clear hb2
  clear p8 r8 p9 r9 p10 r10
  have p9 := (unhide CA) 9 (by simp)
  have r9 := (unhide CB) 9 (by simp)
  have p10 := (unhide CA) 10 (by simp)
  have r10 := (unhide CB) 10 (by simp)
  simp only [List.getElem_cons_zero, List.getElem_cons_succ, Nat.zero_add] at p9 r9 p10 r10
  go_wp2_with fail
  refine (L.ltEvents_any _ _ n.evs _ (unhide H1).e (unhide H2).e).mono ?_
  rintro e w3 ⟨rfl, hb3⟩
  replace CA := hide ((unhide CA).on hb3)
  replace CB := hide ((unhide CB).on hb3)
  replace H1 := hide ((unhide H1).on hb3)
  replace H2 := hide ((unhide H2).on hb3)
  replace HB := hide (below_then (unhide HB) hb3)
  clear hb3
  clear p9 r9 p10 r10
  have p10 := (unhide CA) 10 (by simp)
  have r10 := (unhide CB) 10 (by simp)
  simp only [List.getElem_cons_zero, List.getElem_cons_succ, Nat.zero_add] at p10 r10
  go_wp2_with fail
  refine (L.ltOuts_any _ _ n.outs _ (unhide H1).o (unhide H2).o).mono ?_
  rintro e w4 ⟨rfl, hb4⟩
  go_wp2_with fail
  go_ret
  exact ⟨rfl, below_then (unhide HB) hb4⟩
end Go.Proofs.YtiljjhipiinafaaGreat
