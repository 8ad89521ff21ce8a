/- The walk of laws.FnExactLaneCut: it answers true. -/
import Derived.Test.YtjdaedcpjfcpjaaCut2
import Derived.Test.YtjdaedcpjfcpjaaOwn6
import Derived.Test.YtjdaedcpjfcpjaaLawLo
import Derived.Test.YtjdaedcpjfcpjaaOpenLane
namespace Go.Proofs.Ytjdaedcpjfcpjaa
open Go.RowKit
set_option linter.unusedVariables false
set_option linter.unusedSimpArgs false

set_option maxRecDepth 100000 in
set_option maxHeartbeats 8000000 in
theorem lawLaneCut_walk (proc : Int) (s : StV) (v vc : Value) (ps : List PastV) (es : List EvV) (w : World) (h : PastsAt w v ps) (hc : RowsAt 7 w vc (es.map evRow)) :
    Calls Try.prog 6 #[laneAgg proc s v, vc] w fun e w' => e = .returned (.bool true) ∧ Below w.heap.size w w' := by
  have hqm : ∀ b : Bool, (b != b) = false := by intro b; simp
  have hqi : ∀ z : Int, (z != z) = false := by intro z; simp
  obtain ⟨a1, c1, rfl⟩ := h.sliced
  obtain ⟨ad, cap, rfl, -⟩ := rows_ev hc
  obtain ⟨n, hn⟩ := same_exists ps es
  have HN := hide hn
  have HW := hide (show Below w.heap.size w (w.alloc (.cells #[.int .i64 proc, .int .i64 s.x, .int .i64 s.y, .int .i64 s.c, .slice a1 ps.length c1] 26)) from (Below.refl _ _).alloc (Nat.le_refl _) _)
  have HH := hide (h.on (unhide HW))
  have HG := hide (hc.on (unhide HW))
  have HB1 := hide (cellsAt_new w (laneCells proc s (.slice a1 ps.length c1)) 26)
  clear h hc hn
  go_enter Try.func6, Try.ntmps6
  go_wp2_with fail
  generalize (w.alloc (.cells #[.int .i64 proc, .int .i64 s.x, .int .i64 s.y, .int .i64 s.c, .slice a1 ps.length c1] 26)) = W0 at *
  refine (szLane_any proc s _ ps 1048576 _ (unhide HH) (by omega) (by omega)).mono ?_
  rintro e w1 ⟨r, rfl, hr, hb1⟩
  rcases hr with rfl | ⟨hr0, hr1, hl, hlp⟩
  · go_wp2_with fail
    go_ret
    exact ⟨rfl, below_then (unhide HW) hb1⟩
  have HL1 : Hid (ps.length ≤ 1048576) := hide (by omega)
  have HL2 : Hid (∀ p ∈ ps, p.sends.length ≤ 1048576 ∧ p.outs.length ≤ 1048576) := hide (fun p hp => by have := hlp p hp; omega)
  have Z0 := hide (hb1)
  clear hl hlp hb1
  go_wp2_with fail
  refine (szEventS_any _ _ r w1 ((unhide HG).on (unhide Z0)) hr0 hr1).mono ?_
  rintro e w2 ⟨r2, rfl, hr2, hw2⟩
  obtain rfl := hw2.symm
  rw [List.length_map] at hr2
  rcases hr2 with ⟨rfl, _⟩ | ⟨hr20, hr21⟩
  · go_wp2_with fail
    go_ret
    exact ⟨rfl, below_then (unhide HW) (unhide Z0)⟩
  have hel : es.length ≤ 1048576 := by omega
  have HL3 := hide hel
  clear hr1 hr21
  have n0 : w1.cell? ⟨w.heap.size, 0, none⟩ = some (.int .i64 proc) := ((unhide HB1).on (unhide Z0)) 0 (by simp)
  have n1 : w1.cell? ⟨w.heap.size, 1, none⟩ = some (.int .i64 s.x) := ((unhide HB1).on (unhide Z0)) 1 (by simp)
  have n2 : w1.cell? ⟨w.heap.size, 2, none⟩ = some (.int .i64 s.y) := ((unhide HB1).on (unhide Z0)) 2 (by simp)
  have n3 : w1.cell? ⟨w.heap.size, 3, none⟩ = some (.int .i64 s.c) := ((unhide HB1).on (unhide Z0)) 3 (by simp)
  have n4 : w1.cell? ⟨w.heap.size, 4, none⟩ = some (.slice a1 ps.length c1) := ((unhide HB1).on (unhide Z0)) 4 (by simp)
  go_wp2_with fail
  clear n0 n1 n2 n3 n4
  refine (toLane_any proc s _ ps _ ((unhide HH).on (unhide Z0)) (unhide HL1) (unhide HL2)).mono ?_
  rintro e w2 ⟨v2, rfl, hf2, hb2⟩
  replace Z0 := hide (below_then (unhide Z0) hb2)
  have F2 := hide (hf2.at)
  clear hf2 hb2
  go_wp2_with fail
  refine (toEventS_any _ _ w2 ((unhide HG).on (unhide Z0)) (by rw [List.length_map]; exact unhide HL3)).mono ?_
  rintro e w3 ⟨v3, rfl, hf3, hb3⟩
  replace Z0 := hide (below_then (unhide Z0) hb3)
  replace F2 := hide ((unhide F2).on hb3)
  have F3 := hide (hf3.at)
  clear hf3 hb3
  go_wp2_with fail
  refine (specLaneCut_any proc s _ _ ps es n w3 (unhide HN) (unhide F2) (unhide F3) (unhide HL1) (unhide HL2)).mono ?_
  rintro e w4 ⟨v4, rfl, hf4, hb4⟩
  clear F2 F3
  replace Z0 := hide (below_then (unhide Z0) hb4)
  clear hb4
  have hLP : (laneCut proc s ps es n).1.2.2.length ≤ 1048576 ∧ ∀ p ∈ (laneCut proc s ps es n).1.2.2, p.sends.length ≤ 1048576 ∧ p.outs.length ≤ 1048576 := by
    unfold laneCut
    have h1 := unhide HL1
    split
    · exact ⟨by simp; omega, fun p hp => (unhide HL2) p (List.mem_of_mem_take hp)⟩
    · exact ⟨by simp, fun p hp => by simp at hp⟩
  obtain ⟨P, hP⟩ : ∃ P, P = (laneCut proc s ps es n).1.1 := ⟨_, rfl⟩
  obtain ⟨S, hS⟩ : ∃ S, S = (laneCut proc s ps es n).1.2.1 := ⟨_, rfl⟩
  obtain ⟨PS, hPS⟩ : ∃ PS, PS = (laneCut proc s ps es n).1.2.2 := ⟨_, rfl⟩
  obtain ⟨U, hU⟩ : ∃ U, U = (laneCut proc s ps es n).2 := ⟨_, rfl⟩
  rw [← hPS] at hLP hf4
  rw [← hP, ← hS, ← hU]
  have HP := hide hP
  have HS := hide hS
  have HPS := hide hPS
  have HU := hide hU
  have HLP1 := hide hLP.1
  have HLP2 := hide hLP.2
  clear hP hS hPS hU hLP
  obtain ⟨d4, k4, hv4⟩ := hf4.at.sliced
  subst hv4
  have D2 := hide (hf4)
  clear hf4
  have hx : Below w4.heap.size w4 (w4.alloc (.cells #[.int .i64 P, .int .i64 S.x, .int .i64 S.y, .int .i64 S.c, .slice d4 PS.length k4] 32)) := (Below.refl _ _).alloc (Nat.le_refl _) _
  replace Z0 := hide (below_then (unhide Z0) hx)
  replace D2 := hide ((unhide D2).on hx)
  have hnew := cellsAt_new w4 (laneCells P S (.slice d4 PS.length k4)) 32
  have hsn : (w4.alloc (.cells #[.int .i64 P, .int .i64 S.x, .int .i64 S.y, .int .i64 S.c, .slice d4 PS.length k4] 32)).heap.size = w4.heap.size + 1 := by simp
  have HNEW := hide hnew
  have HSNW5 := hide hsn
  clear hx hnew hsn
  go_upto_region 9 with fail
  generalize (w4.alloc (.cells #[.int .i64 P, .int .i64 S.x, .int .i64 S.y, .int .i64 S.c, .slice d4 PS.length k4] 32)) = W5 at *
  have HD1 := HNEW
  have HZ05 := hide (unhide Z0).size
  clear HNEW
  have HD2 := hide (unhide D2).at
  clear D2
  have Z5 := hide (Below.refl W5.heap.size W5)
  have n0 : W5.cell? ⟨w.heap.size, 0, none⟩ = some (.int .i64 proc) := ((unhide HB1).on (unhide Z0)) 0 (by simp)
  have n1 : W5.cell? ⟨w.heap.size, 1, none⟩ = some (.int .i64 s.x) := ((unhide HB1).on (unhide Z0)) 1 (by simp)
  have n2 : W5.cell? ⟨w.heap.size, 2, none⟩ = some (.int .i64 s.y) := ((unhide HB1).on (unhide Z0)) 2 (by simp)
  have n3 : W5.cell? ⟨w.heap.size, 3, none⟩ = some (.int .i64 s.c) := ((unhide HB1).on (unhide Z0)) 3 (by simp)
  have n4 : W5.cell? ⟨w.heap.size, 4, none⟩ = some (.slice a1 ps.length c1) := ((unhide HB1).on (unhide Z0)) 4 (by simp)
  go_wp2_with fail
  clear n0 n1 n2 n3 n4
  refine (toLane_own proc s _ ps _ ((unhide HH).on (unhide Z0)) (unhide HL1) (unhide HL2)).mono ?_
  rintro e w6 ⟨v6, rfl, hf6, hb6⟩
  obtain ⟨d6, k6, hv6⟩ := hf6.at.sliced
  subst hv6
  replace Z0 := hide (below_then (unhide Z0) hb6)
  replace Z5 := hide (below_then (unhide Z5) hb6)
  have FX := hide (hf6)
  have HS56 := hide hb6.size
  clear hf6 hb6
  have hx : Below w6.heap.size w6 (w6.alloc (.cells #[.int .i64 proc, .int .i64 s.x, .int .i64 s.y, .int .i64 s.c, .slice d6 ps.length k6] 32)) := (Below.refl _ _).alloc (Nat.le_refl _) _
  replace Z0 := hide (below_then (unhide Z0) hx)
  replace Z5 := hide (below_then (unhide Z5) hx)
  replace FX := hide ((unhide FX).on hx)
  have hnew := cellsAt_new w6 (laneCells proc s (.slice d6 ps.length k6)) 32
  have hsn : (w6.alloc (.cells #[.int .i64 proc, .int .i64 s.x, .int .i64 s.y, .int .i64 s.c, .slice d6 ps.length k6] 32)).heap.size = w6.heap.size + 1 := by simp
  have HNEW := hide hnew
  have HSNW7 := hide hsn
  clear hx hnew hsn
  go_upto_region 10 with fail
  generalize (w6.alloc (.cells #[.int .i64 proc, .int .i64 s.x, .int .i64 s.y, .int .i64 s.c, .slice d6 ps.length k6] 32)) = W7 at *
  have C := HNEW
  clear HNEW
  go_wp2_with fail
  refine (toEventS_any _ _ W7 ((unhide HG).on (unhide Z0)) (by rw [List.length_map]; exact unhide HL3)).mono ?_
  rintro e w8 ⟨v8, rfl, hf8, hb8⟩
  obtain ⟨ad8, cap8, hv8, -⟩ := rows_ev hf8.at
  subst hv8
  replace Z0 := hide (below_then (unhide Z0) hb8)
  replace Z5 := hide (below_then (unhide Z5) hb8)
  replace FX := hide ((unhide FX).on hb8)
  replace C := hide ((unhide C).on hb8)
  have K := hide (hf8)
  have HS78 := hide hb8.size
  have HK8 := hide (fun g (hg : (Value.slice ad8 es.length cap8).ownBlock = some g) => hf8.blk g hg)
  clear hf8 hb8
  have n0 : w8.cell? ⟨w6.heap.size, 0, none⟩ = some (.int .i64 proc) := (unhide C) 0 (by simp)
  have n1 : w8.cell? ⟨w6.heap.size, 1, none⟩ = some (.int .i64 s.x) := (unhide C) 1 (by simp)
  have n2 : w8.cell? ⟨w6.heap.size, 2, none⟩ = some (.int .i64 s.y) := (unhide C) 2 (by simp)
  have n3 : w8.cell? ⟨w6.heap.size, 3, none⟩ = some (.int .i64 s.c) := (unhide C) 3 (by simp)
  have n4 : w8.cell? ⟨w6.heap.size, 4, none⟩ = some (.slice d6 ps.length k6) := (unhide C) 4 (by simp)
  go_wp2_with fail
  clear n0 n1 n2 n3 n4
  refine (implLaneCut_any proc s _ _ ps es n w8 (unhide HN) (unhide FX).at (unhide K).at (unhide HL1) (unhide HL2)).mono ?_
  rintro e w9 ⟨v9, rfl, hf9, hb9⟩
  rw [← unhide HPS] at hf9
  rw [← unhide HP, ← unhide HS, ← unhide HU]
  obtain ⟨d9, k9, hv9⟩ := hf9.at.sliced
  subst hv9
  replace Z0 := hide (below_then (unhide Z0) hb9)
  replace Z5 := hide (below_then (unhide Z5) hb9)
  replace FX := hide ((unhide FX).on hb9)
  replace C := hide ((unhide C).on hb9)
  replace K := hide ((unhide K).on hb9)
  have E2 := hide (hf9)
  have HS89 := hide hb9.size
  clear hf9 hb9
  have hx : Below w9.heap.size w9 (w9.alloc (.cells #[.int .i64 P, .int .i64 S.x, .int .i64 S.y, .int .i64 S.c, .slice d9 PS.length k9] 32)) := (Below.refl _ _).alloc (Nat.le_refl _) _
  replace Z0 := hide (below_then (unhide Z0) hx)
  replace Z5 := hide (below_then (unhide Z5) hx)
  replace FX := hide ((unhide FX).on hx)
  replace C := hide ((unhide C).on hx)
  replace K := hide ((unhide K).on hx)
  replace E2 := hide ((unhide E2).on hx)
  have hnew := cellsAt_new w9 (laneCells P S (.slice d9 PS.length k9)) 32
  have hsn : (w9.alloc (.cells #[.int .i64 P, .int .i64 S.x, .int .i64 S.y, .int .i64 S.c, .slice d9 PS.length k9] 32)).heap.size = w9.heap.size + 1 := by simp
  have HNEW := hide hnew
  have HSNW10 := hide hsn
  clear hx hnew hsn
  go_upto_region 12 with fail
  generalize (w9.alloc (.cells #[.int .i64 P, .int .i64 S.x, .int .i64 S.y, .int .i64 S.c, .slice d9 PS.length k9] 32)) = W10 at *
  have E := HNEW
  clear HNEW
  have n0 : W10.cell? ⟨w9.heap.size, 0, none⟩ = some (.int .i64 P) := (unhide E) 0 (by simp)
  have n1 : W10.cell? ⟨w9.heap.size, 1, none⟩ = some (.int .i64 S.x) := (unhide E) 1 (by simp)
  have n2 : W10.cell? ⟨w9.heap.size, 2, none⟩ = some (.int .i64 S.y) := (unhide E) 2 (by simp)
  have n3 : W10.cell? ⟨w9.heap.size, 3, none⟩ = some (.int .i64 S.c) := (unhide E) 3 (by simp)
  have n4 : W10.cell? ⟨w9.heap.size, 4, none⟩ = some (.slice d9 PS.length k9) := (unhide E) 4 (by simp)
  have m0 : W10.cell? ⟨w4.heap.size, 0, none⟩ = some (.int .i64 P) := ((unhide HD1).on (unhide Z5)) 0 (by simp)
  have m1 : W10.cell? ⟨w4.heap.size, 1, none⟩ = some (.int .i64 S.x) := ((unhide HD1).on (unhide Z5)) 1 (by simp)
  have m2 : W10.cell? ⟨w4.heap.size, 2, none⟩ = some (.int .i64 S.y) := ((unhide HD1).on (unhide Z5)) 2 (by simp)
  have m3 : W10.cell? ⟨w4.heap.size, 3, none⟩ = some (.int .i64 S.c) := ((unhide HD1).on (unhide Z5)) 3 (by simp)
  have m4 : W10.cell? ⟨w4.heap.size, 4, none⟩ = some (.slice d4 PS.length k4) := ((unhide HD1).on (unhide Z5)) 4 (by simp)
  go_wp2_with fail
  clear n0 n1 n2 n3 n4
  clear m0 m1 m2 m3 m4
  refine (eqLane_any P S _ _ PS _ (unhide E2).at ((unhide HD2).on (unhide Z5))).mono ?_
  rintro e w11 ⟨rfl, hb11⟩
  replace Z0 := hide (below_then (unhide Z0) hb11)
  replace Z5 := hide (below_then (unhide Z5) hb11)
  replace FX := hide ((unhide FX).on hb11)
  replace C := hide ((unhide C).on hb11)
  replace K := hide ((unhide K).on hb11)
  replace E2 := hide ((unhide E2).on hb11)
  replace E := hide ((unhide E).on hb11)
  clear hb11
  go_upto_region 14 with fail
  have B := hide ((unhide HB1).on (unhide Z0))
  go_region_held3 (fun w' => w'.cell? ⟨w.heap.size, 0, none⟩ = some (.int .i64 proc) ∧ w'.cell? ⟨w.heap.size, 1, none⟩ = some (.int .i64 s.x) ∧ w'.cell? ⟨w.heap.size, 2, none⟩ = some (.int .i64 s.y) ∧ w'.cell? ⟨w.heap.size, 3, none⟩ = some (.int .i64 s.c) ∧ w'.cell? ⟨w.heap.size, 4, none⟩ = some (.slice a1 ps.length c1) ∧ w'.cell? ⟨w6.heap.size, 0, none⟩ = some (.int .i64 proc) ∧ w'.cell? ⟨w6.heap.size, 1, none⟩ = some (.int .i64 s.x) ∧ w'.cell? ⟨w6.heap.size, 2, none⟩ = some (.int .i64 s.y) ∧ w'.cell? ⟨w6.heap.size, 3, none⟩ = some (.int .i64 s.c) ∧ w'.cell? ⟨w6.heap.size, 4, none⟩ = some (.slice d6 ps.length k6) ∧ Below w11.heap.size w11 w')
    ((go_split_ands; refine sLo_of (unhide B) (unhide C) ?_; first | exact (Below.refl _ _).drew | exact below_then (by assumption) hba | exact below_then (by assumption) hbe))
    (first
      | (go_at_call 10; refine (toLane_any proc s _ ps _ (((unhide HH).on (unhide Z0)).on (by go_split_ands; assumption)) (unhide HL1) (unhide HL2)).mono ?_; rintro e wa ⟨va, rfl, hfr, hba⟩; have hBa := below_then (a := w11) (by go_split_ands; assumption) hba)
      | (go_at_call 12; refine (eqLane_any proc s _ _ ps _ ((unhide FX).at.on hBa) hfr.at).mono ?_; rintro e we ⟨rfl, hbe⟩; have hBe := below_then hBa hbe))
  replace Z0 := hide (below_then (unhide Z0) hBe)
  replace Z5 := hide (below_then (unhide Z5) hBe)
  replace FX := hide ((unhide FX).on hBe)
  replace C := hide ((unhide C).on hBe)
  replace K := hide ((unhide K).on hBe)
  replace E2 := hide ((unhide E2).on hBe)
  replace E := hide ((unhide E).on hBe)
  clear hBe B
  go_wp2_with fail
  refine (toEventS_any _ _ _ ((unhide HG).on (unhide Z0)) (by rw [List.length_map]; exact unhide HL3)).mono ?_
  rintro e w12 ⟨v12, rfl, hf12, hb12⟩
  replace Z0 := hide (below_then (unhide Z0) hb12)
  replace Z5 := hide (below_then (unhide Z5) hb12)
  replace FX := hide ((unhide FX).on hb12)
  replace C := hide ((unhide C).on hb12)
  replace K := hide ((unhide K).on hb12)
  replace E2 := hide ((unhide E2).on hb12)
  replace E := hide ((unhide E).on hb12)
  have F12 := hide (hf12.at)
  clear hf12 hb12
  go_wp2_with fail
  refine (eqEventS_any _ _ _ w12 (unhide K).at (unhide F12)).mono ?_
  rintro e w13 ⟨rfl, hb13⟩
  clear F12
  replace Z0 := hide (below_then (unhide Z0) hb13)
  replace Z5 := hide (below_then (unhide Z5) hb13)
  replace FX := hide ((unhide FX).on hb13)
  replace C := hide ((unhide C).on hb13)
  replace K := hide ((unhide K).on hb13)
  replace E2 := hide ((unhide E2).on hb13)
  replace E := hide ((unhide E).on hb13)
  clear hb13
  have n0 : w13.cell? ⟨w6.heap.size, 0, none⟩ = some (.int .i64 proc) := (unhide C) 0 (by simp)
  have n1 : w13.cell? ⟨w6.heap.size, 1, none⟩ = some (.int .i64 s.x) := (unhide C) 1 (by simp)
  have n2 : w13.cell? ⟨w6.heap.size, 2, none⟩ = some (.int .i64 s.y) := (unhide C) 2 (by simp)
  have n3 : w13.cell? ⟨w6.heap.size, 3, none⟩ = some (.int .i64 s.c) := (unhide C) 3 (by simp)
  have n4 : w13.cell? ⟨w6.heap.size, 4, none⟩ = some (.slice d6 ps.length k6) := (unhide C) 4 (by simp)
  go_wp2_with fail
  clear n0 n1 n2 n3 n4
  have hz6 := unhide HSNW5
  have hz5 := unhide HS56
  have hz7 := unhide HSNW7
  have hz8 := unhide HS78
  have hz9 := unhide HS89
  have hz10 := unhide HSNW10
  have hq13 : W5.heap.size ≤ w13.heap.size := (unhide Z5).size
  have hq10 : w9.heap.size < w13.heap.size := World.block_lt_of_cell? _ ⟨w9.heap.size, 0 + 0, none⟩ ((unhide E) 0 (by simp))
  have hp1 := szPs_pos ps
  have hp2 := szPs_le ps (unhide HL2)
  have hp3 := unhide HL1
  refine (markLane_any _ _ proc s _ ps 1 w13 (unhide FX) (by omega) (unhide HL1) (unhide HL2) (by omega) (by omega)).mono ?_
  rintro e w14 ⟨rfl, -, hfr14⟩
  have hs14 := hfr14.size
  replace Z0 := hide (hfr14.then_below (unhide Z0) (by have := (unhide Z0).size; have := (unhide HZ05); omega) (by have := (unhide Z0).size; omega))
  replace Z5 := hide (hfr14.then_below (unhide Z5) (by omega) (by omega))
  replace E := hide ((unhide E).frame hfr14 (Or.inr (by omega)))
  replace E2 := hide ((unhide E2).frame hfr14 (Or.inl (by omega)))
  replace K := hide ((unhide K).frame hfr14 (fun g hg => Or.inr (by have := (unhide HK8) g hg; omega)))
  clear FX C hfr14
  obtain ⟨kk, hkk⟩ : ∃ kk, kk = 1 + szPs ps := ⟨_, rfl⟩
  rw [← hkk]
  have hkk0 : 0 ≤ kk := by omega
  have hkk1 : kk ≤ 100000000000000 := by omega
  clear hkk hp1 hp2
  go_wp2_with fail
  refine (markEventS_any W7.heap.size 41 _ es.length kk w14 (by have e := (unhide K).room; rwa [List.length_map] at e) (by omega) (by omega) (by omega)).mono ?_
  rintro e w15 ⟨rfl, -, ho15⟩
  have hfr15 : Frame W7.heap.size w8.heap.size w14 w15 := frame_of_only ho15 (fun g hg => (unhide HK8) g hg)
  have hs15 := hfr15.size
  replace Z0 := hide (hfr15.then_below (unhide Z0) (by have := (unhide HZ05); omega) (by have := (unhide Z0).size; omega))
  replace Z5 := hide (hfr15.then_below (unhide Z5) (by omega) (by omega))
  replace E := hide ((unhide E).frame hfr15 (Or.inr (by omega)))
  replace E2 := hide ((unhide E2).frame hfr15 (Or.inl (by omega)))
  clear K hfr15 ho15
  obtain ⟨k2, hk2⟩ : ∃ k2, k2 = kk + 7 * (es.length : Int) := ⟨_, rfl⟩
  rw [← hk2]
  have hk20 : 0 ≤ k2 := by omega
  have hk21 : ¬ k2 < 0 := by omega
  have hk22 : decide (k2 < 0) = false := decide_eq_false hk21
  clear hk2
  have n0 : w15.cell? ⟨w9.heap.size, 0, none⟩ = some (.int .i64 P) := (unhide E) 0 (by simp)
  have n1 : w15.cell? ⟨w9.heap.size, 1, none⟩ = some (.int .i64 S.x) := (unhide E) 1 (by simp)
  have n2 : w15.cell? ⟨w9.heap.size, 2, none⟩ = some (.int .i64 S.y) := (unhide E) 2 (by simp)
  have n3 : w15.cell? ⟨w9.heap.size, 3, none⟩ = some (.int .i64 S.c) := (unhide E) 3 (by simp)
  have n4 : w15.cell? ⟨w9.heap.size, 4, none⟩ = some (.slice d9 PS.length k9) := (unhide E) 4 (by simp)
  have m0 : w15.cell? ⟨w4.heap.size, 0, none⟩ = some (.int .i64 P) := ((unhide HD1).on (unhide Z5)) 0 (by simp)
  have m1 : w15.cell? ⟨w4.heap.size, 1, none⟩ = some (.int .i64 S.x) := ((unhide HD1).on (unhide Z5)) 1 (by simp)
  have m2 : w15.cell? ⟨w4.heap.size, 2, none⟩ = some (.int .i64 S.y) := ((unhide HD1).on (unhide Z5)) 2 (by simp)
  have m3 : w15.cell? ⟨w4.heap.size, 3, none⟩ = some (.int .i64 S.c) := ((unhide HD1).on (unhide Z5)) 3 (by simp)
  have m4 : w15.cell? ⟨w4.heap.size, 4, none⟩ = some (.slice d4 PS.length k4) := ((unhide HD1).on (unhide Z5)) 4 (by simp)
  go_wp2_with fail
  clear n0 n1 n2 n3 n4
  clear m0 m1 m2 m3 m4
  refine (eqLane_any P S _ _ PS _ (unhide E2).at ((unhide HD2).on (unhide Z5))).mono ?_
  rintro e w16 ⟨rfl, hb16⟩
  have hs16 := hb16.size
  replace Z0 := hide (below_then (unhide Z0) hb16)
  replace Z5 := hide (below_then (unhide Z5) hb16)
  replace E2 := hide ((unhide E2).on hb16)
  replace E := hide ((unhide E).on hb16)
  clear hb16
  have n0 : w16.cell? ⟨w9.heap.size, 0, none⟩ = some (.int .i64 P) := (unhide E) 0 (by simp)
  have n1 : w16.cell? ⟨w9.heap.size, 1, none⟩ = some (.int .i64 S.x) := (unhide E) 1 (by simp)
  have n2 : w16.cell? ⟨w9.heap.size, 2, none⟩ = some (.int .i64 S.y) := (unhide E) 2 (by simp)
  have n3 : w16.cell? ⟨w9.heap.size, 3, none⟩ = some (.int .i64 S.c) := (unhide E) 3 (by simp)
  have n4 : w16.cell? ⟨w9.heap.size, 4, none⟩ = some (.slice d9 PS.length k9) := (unhide E) 4 (by simp)
  go_wp2_with fail
  clear n0 n1 n2 n3 n4
  have hp1 := szPs_pos PS
  have hp2 := szPs_le PS (unhide HLP2)
  have hp4 := unhide HLP1
  refine (markLane_any _ _ P S _ PS 1 w16 (unhide E2) (by omega) (unhide HLP1) (unhide HLP2) (by omega) (by omega)).mono ?_
  rintro e w17 ⟨rfl, hm17, hfr17⟩
  have hs17 := hfr17.size
  replace Z0 := hide (hfr17.then_below (unhide Z0) (by have := (unhide HZ05); omega) (by have := (unhide Z0).size; omega))
  replace Z5 := hide (hfr17.then_below (unhide Z5) (by omega) (by omega))
  replace E := hide ((unhide E).frame hfr17 (Or.inr (by omega)))
  replace E2 := hide hm17.at
  clear hfr17 hm17
  have HHELD : Hid (∀ W : World, PastsAt W (.slice d9 PS.length k9) (markPs 1 PS) → Calls Try.prog 26 #[laneAgg P S (.slice d9 PS.length k9), .int .i64 1] W fun e w' => e = .returned (.int .i64 (1 + szPs PS)) ∧ Below W.heap.size W w') := hide (fun W hW => heldLane_any P S _ PS 1 W hW (unhide HLP1) (unhide HLP2) (by omega) (by omega))
  obtain ⟨mm, hmm⟩ : ∃ mm, mm = 1 + szPs PS := ⟨_, rfl⟩
  rw [← hmm] at HHELD
  rw [← hmm]
  have hmm0 : 0 ≤ mm := by omega
  have hmm1 : ¬ mm < 0 := by omega
  have HKB := hide hq10
  clear hmm hp1 hp2 hz6 hz5 hz7 hz8 hz9 hz10 hq13 hq10 hs14 hs15 hs16 hs17 hkk0 hkk1 hk20 hk21 hk22
  have n0 : w17.cell? ⟨w9.heap.size, 0, none⟩ = some (.int .i64 P) := (unhide E) 0 (by simp)
  have n1 : w17.cell? ⟨w9.heap.size, 1, none⟩ = some (.int .i64 S.x) := (unhide E) 1 (by simp)
  have n2 : w17.cell? ⟨w9.heap.size, 2, none⟩ = some (.int .i64 S.y) := (unhide E) 2 (by simp)
  have n3 : w17.cell? ⟨w9.heap.size, 3, none⟩ = some (.int .i64 S.c) := (unhide E) 3 (by simp)
  have n4 : w17.cell? ⟨w9.heap.size, 4, none⟩ = some (.slice d9 PS.length k9) := (unhide E) 4 (by simp)
  go_wp2_with fail
  clear n0 n1 n2 n3 n4
  refine ((unhide HHELD) w17 (unhide E2)).mono ?_
  rintro e w18 ⟨rfl, hb18⟩
  replace Z0 := hide (below_then (unhide Z0) hb18)
  replace Z5 := hide (below_then (unhide Z5) hb18)
  replace E2 := hide ((unhide E2).on hb18)
  replace E := hide ((unhide E).on hb18)
  clear hb18
  have n0 : w18.cell? ⟨w.heap.size, 0, none⟩ = some (.int .i64 proc) := ((unhide HB1).on (unhide Z0)) 0 (by simp)
  have n1 : w18.cell? ⟨w.heap.size, 1, none⟩ = some (.int .i64 s.x) := ((unhide HB1).on (unhide Z0)) 1 (by simp)
  have n2 : w18.cell? ⟨w.heap.size, 2, none⟩ = some (.int .i64 s.y) := ((unhide HB1).on (unhide Z0)) 2 (by simp)
  have n3 : w18.cell? ⟨w.heap.size, 3, none⟩ = some (.int .i64 s.c) := ((unhide HB1).on (unhide Z0)) 3 (by simp)
  have n4 : w18.cell? ⟨w.heap.size, 4, none⟩ = some (.slice a1 ps.length c1) := ((unhide HB1).on (unhide Z0)) 4 (by simp)
  go_wp2_with fail
  clear n0 n1 n2 n3 n4
  refine (toLane_any proc s _ ps _ ((unhide HH).on (unhide Z0)) (unhide HL1) (unhide HL2)).mono ?_
  rintro e w19 ⟨v19, rfl, hf19, hb19⟩
  replace Z0 := hide (below_then (unhide Z0) hb19)
  replace Z5 := hide (below_then (unhide Z5) hb19)
  replace E2 := hide ((unhide E2).on hb19)
  replace E := hide ((unhide E).on hb19)
  have F19 := hide (hf19.at)
  clear hf19 hb19
  go_wp2_with fail
  refine (toEventS_any _ _ w19 ((unhide HG).on (unhide Z0)) (by rw [List.length_map]; exact unhide HL3)).mono ?_
  rintro e w20 ⟨v20, rfl, hf20, hb20⟩
  replace Z0 := hide (below_then (unhide Z0) hb20)
  replace Z5 := hide (below_then (unhide Z5) hb20)
  replace E2 := hide ((unhide E2).on hb20)
  replace E := hide ((unhide E).on hb20)
  replace F19 := hide ((unhide F19).on hb20)
  have F20 := hide (hf20.at)
  clear hf20 hb20
  go_wp2_with fail
  refine (implLaneCut_any proc s _ _ ps es n w20 (unhide HN) (unhide F19) (unhide F20) (unhide HL1) (unhide HL2)).mono ?_
  rintro e w21 ⟨v21, rfl, hf21, hb21⟩
  rw [← unhide HPS] at hf21
  rw [← unhide HP, ← unhide HS, ← unhide HU]
  obtain ⟨dh, kh, hv21⟩ := hf21.at.sliced
  subst hv21
  clear F19 F20
  replace Z0 := hide (below_then (unhide Z0) hb21)
  replace Z5 := hide (below_then (unhide Z5) hb21)
  replace E2 := hide ((unhide E2).on hb21)
  replace E := hide ((unhide E).on hb21)
  have F21 := hide (hf21.at)
  clear hf21 hb21
  have hx : Below w21.heap.size w21 (w21.alloc (.cells #[.int .i64 P, .int .i64 S.x, .int .i64 S.y, .int .i64 S.c, .slice dh PS.length kh] 32)) := (Below.refl _ _).alloc (Nat.le_refl _) _
  replace Z0 := hide (below_then (unhide Z0) hx)
  replace Z5 := hide (below_then (unhide Z5) hx)
  replace E2 := hide ((unhide E2).on hx)
  replace E := hide ((unhide E).on hx)
  replace F21 := hide ((unhide F21).on hx)
  have hnew := cellsAt_new w21 (laneCells P S (.slice dh PS.length kh)) 32
  have hsn : (w21.alloc (.cells #[.int .i64 P, .int .i64 S.x, .int .i64 S.y, .int .i64 S.c, .slice dh PS.length kh] 32)).heap.size = w21.heap.size + 1 := by simp
  have HNEW := hide hnew
  have HSNW22 := hide hsn
  clear hx hnew hsn
  go_upto_region 32 with fail
  generalize (w21.alloc (.cells #[.int .i64 P, .int .i64 S.x, .int .i64 S.y, .int .i64 S.c, .slice dh PS.length kh] 32)) = W22 at *
  have I := HNEW
  clear HNEW
  have n0 : W22.cell? ⟨w21.heap.size, 0, none⟩ = some (.int .i64 P) := (unhide I) 0 (by simp)
  have n1 : W22.cell? ⟨w21.heap.size, 1, none⟩ = some (.int .i64 S.x) := (unhide I) 1 (by simp)
  have n2 : W22.cell? ⟨w21.heap.size, 2, none⟩ = some (.int .i64 S.y) := (unhide I) 2 (by simp)
  have n3 : W22.cell? ⟨w21.heap.size, 3, none⟩ = some (.int .i64 S.c) := (unhide I) 3 (by simp)
  have n4 : W22.cell? ⟨w21.heap.size, 4, none⟩ = some (.slice dh PS.length kh) := (unhide I) 4 (by simp)
  have m0 : W22.cell? ⟨w4.heap.size, 0, none⟩ = some (.int .i64 P) := ((unhide HD1).on (unhide Z5)) 0 (by simp)
  have m1 : W22.cell? ⟨w4.heap.size, 1, none⟩ = some (.int .i64 S.x) := ((unhide HD1).on (unhide Z5)) 1 (by simp)
  have m2 : W22.cell? ⟨w4.heap.size, 2, none⟩ = some (.int .i64 S.y) := ((unhide HD1).on (unhide Z5)) 2 (by simp)
  have m3 : W22.cell? ⟨w4.heap.size, 3, none⟩ = some (.int .i64 S.c) := ((unhide HD1).on (unhide Z5)) 3 (by simp)
  have m4 : W22.cell? ⟨w4.heap.size, 4, none⟩ = some (.slice d4 PS.length k4) := ((unhide HD1).on (unhide Z5)) 4 (by simp)
  go_wp2_with fail
  clear n0 n1 n2 n3 n4
  clear m0 m1 m2 m3 m4
  refine (eqLane_any P S _ _ PS _ (unhide F21) ((unhide HD2).on (unhide Z5))).mono ?_
  rintro e w23 ⟨rfl, hb23⟩
  replace Z0 := hide (below_then (unhide Z0) hb23)
  replace Z5 := hide (below_then (unhide Z5) hb23)
  replace E2 := hide ((unhide E2).on hb23)
  replace E := hide ((unhide E).on hb23)
  replace F21 := hide ((unhide F21).on hb23)
  replace I := hide ((unhide I).on hb23)
  clear hb23
  have n0 : w23.cell? ⟨w9.heap.size, 0, none⟩ = some (.int .i64 P) := (unhide E) 0 (by simp)
  have n1 : w23.cell? ⟨w9.heap.size, 1, none⟩ = some (.int .i64 S.x) := (unhide E) 1 (by simp)
  have n2 : w23.cell? ⟨w9.heap.size, 2, none⟩ = some (.int .i64 S.y) := (unhide E) 2 (by simp)
  have n3 : w23.cell? ⟨w9.heap.size, 3, none⟩ = some (.int .i64 S.c) := (unhide E) 3 (by simp)
  have n4 : w23.cell? ⟨w9.heap.size, 4, none⟩ = some (.slice d9 PS.length k9) := (unhide E) 4 (by simp)
  go_wp2_with fail
  clear n0 n1 n2 n3 n4
  refine ((unhide HHELD) w23 (unhide E2)).mono ?_
  rintro e w24 ⟨rfl, hb24⟩
  go_wp2_with fail
  go_ret
  exact ⟨rfl, below_then (unhide HW) (below_then (unhide Z0) hb24)⟩

theorem lawLaneCut_rows (proc : Int) (s : StV) (v vc : Value) (ps : List PastV) (rs : List (List Int)) (w : World) (h : PastsAt w v ps) (hc : RowsAt 7 w vc rs) (hl : ∀ r ∈ rs, r.length = 7) :
    Calls Try.prog 6 #[laneAgg proc s v, vc] w fun e w' => e = .returned (.bool true) ∧ Below w.heap.size w w' := by
  obtain ⟨es, rfl⟩ := tyEv rs hl
  exact lawLaneCut_walk proc s v vc ps es w h hc
end Go.Proofs.Ytjdaedcpjfcpjaa
