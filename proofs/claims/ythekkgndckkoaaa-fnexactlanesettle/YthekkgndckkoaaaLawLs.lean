/- The walk of laws.FnExactLaneSettle: it answers true. -/
import Derived.Test.YthekkgndckkoaaaSettle2
import Derived.Test.YthekkgndckkoaaaLawLo
import Derived.Test.YthekkgndckkoaaaOpenLane
namespace Go.Proofs.Ythekkgndckkoaaa
open Go.RowKit
set_option linter.unusedVariables false
set_option linter.unusedSimpArgs false

theorem len_le_sub {α : Type} : ∀ (xs ys : List α), xs.Nodup → (∀ a ∈ xs, a ∈ ys) → xs.length ≤ ys.length
  | [], _, _, _ => Nat.zero_le _
  | x :: xs, ys, hn, hs => by
    obtain ⟨s, t, rfl⟩ := List.append_of_mem (hs x (List.mem_cons_self ..))
    have hn2 := List.nodup_cons.1 hn
    have ih := len_le_sub xs (s ++ t) hn2.2 (fun a ha => by
      have h1 := hs a (List.mem_cons_of_mem _ ha)
      rcases List.mem_append.1 h1 with h2 | h2
      · exact List.mem_append.2 (Or.inl h2)
      · rcases List.mem_cons.1 h2 with rfl | h3
        · exact absurd ha hn2.1
        · exact List.mem_append.2 (Or.inr h3))
    simp only [List.length_append, List.length_cons] at ih ⊢
    omega

theorem settle_lens (proc : Int) (s : StV) (ps : List PastV) (n : Nat) (h1 : ps.length ≤ 1048576) (h2 : ∀ p ∈ ps, p.sends.length ≤ 1048576 ∧ p.outs.length ≤ 1048576) :
    (laneSettle proc s ps n).1.2.2.length ≤ 1048576 ∧ (∀ p ∈ (laneSettle proc s ps n).1.2.2, p.sends.length ≤ 1048576 ∧ p.outs.length ≤ 1048576) ∧ (laneSettle proc s ps n).2.1.length ≤ 200 ∧ (laneSettle proc s ps n).2.2.length ≤ 200 := by
  unfold laneSettle
  split
  · rename_i hok
    have hl := lane_lens hok
    have h3 : ∀ m, (allS ps m).length ≤ 200 ∧ (allO ps m).length ≤ 200 := fun m => by
      rcases Nat.le_total m ps.length with h | h
      · have := allS_len hl.2 m h; omega
      · have e1 : allS ps m = allS ps ps.length := by unfold allS; rw [List.take_of_length_le h, List.take_length]
        have e2 : allO ps m = allO ps ps.length := by unfold allO; rw [List.take_of_length_le h, List.take_length]
        rw [e1, e2]
        have := allS_len hl.2 ps.length (Nat.le_refl _); omega
    exact ⟨by simp; omega, fun p hp => h2 p (List.mem_of_mem_drop hp), (h3 n).1, (h3 n).2⟩
  · exact ⟨by simp, fun p hp => by simp at hp, by simp, by simp⟩

set_option maxRecDepth 100000 in
set_option maxHeartbeats 8000000 in
theorem lawLaneSettle_walk (proc : Int) (s : StV) (v : Value) (u : Int) (ps : List PastV) (w : World) (h : PastsAt w v ps) :
    Calls Try.prog 7 #[laneAgg proc s v, .int .i64 u] w fun e w' => e = .returned (.bool true) ∧ Below w.heap.size w w' := by
  have hqi : ∀ z : Int, (z != z) = false := by intro z; simp
  obtain ⟨a1, c1, rfl⟩ := h.sliced
  obtain ⟨n, hn⟩ := due_exists u ps
  have HN := hide hn
  have HW := hide (show Below w.heap.size w (w.alloc (.cells #[.int .i64 proc, .int .i64 s.x, .int .i64 s.y, .int .i64 s.c, .slice a1 ps.length c1] 26)) from (Below.refl _ _).alloc (Nat.le_refl _) _)
  have HH := hide (h.on (unhide HW))
  have HB1 := hide (cellsAt_new w (laneCells proc s (.slice a1 ps.length c1)) 26)
  clear h hn
  go_enter Try.func7, Try.ntmps7
  go_wp2_with fail
  generalize (w.alloc (.cells #[.int .i64 proc, .int .i64 s.x, .int .i64 s.y, .int .i64 s.c, .slice a1 ps.length c1] 26)) = W0 at *
  refine (szLane_any proc s _ ps 1048576 _ (unhide HH) (by omega) (by omega)).mono ?_
  rintro e w1 ⟨r, rfl, hr, hb1⟩
  rcases hr with rfl | ⟨hr0, hr1, hl, hlp⟩
  · go_wp2_with fail
    go_ret
    exact ⟨rfl, below_then (unhide HW) hb1⟩
  have HL1 : Hid (ps.length ≤ 1048576) := hide (by omega)
  have HL2 : Hid (∀ p ∈ ps, p.sends.length ≤ 1048576 ∧ p.outs.length ≤ 1048576) := hide (fun p hp => by have := hlp p hp; omega)
  have Z0 := hide (hb1)
  clear hl hlp hb1 hr1
  have n0 : w1.cell? ⟨w.heap.size, 0, none⟩ = some (.int .i64 proc) := ((unhide HB1).on (unhide Z0)) 0 (by simp)
  have n1 : w1.cell? ⟨w.heap.size, 1, none⟩ = some (.int .i64 s.x) := ((unhide HB1).on (unhide Z0)) 1 (by simp)
  have n2 : w1.cell? ⟨w.heap.size, 2, none⟩ = some (.int .i64 s.y) := ((unhide HB1).on (unhide Z0)) 2 (by simp)
  have n3 : w1.cell? ⟨w.heap.size, 3, none⟩ = some (.int .i64 s.c) := ((unhide HB1).on (unhide Z0)) 3 (by simp)
  have n4 : w1.cell? ⟨w.heap.size, 4, none⟩ = some (.slice a1 ps.length c1) := ((unhide HB1).on (unhide Z0)) 4 (by simp)
  go_wp2_with fail
  clear n0 n1 n2 n3 n4
  refine (toLane_any proc s _ ps _ ((unhide HH).on (unhide Z0)) (unhide HL1) (unhide HL2)).mono ?_
  rintro e w2 ⟨v2, rfl, hf2, hb2⟩
  replace Z0 := hide (below_then (unhide Z0) hb2)
  have F2 := hide (hf2.at)
  clear hf2 hb2
  go_wp2_with fail
  refine (specLaneSettle_any proc s _ ps u n w2 (unhide HN) (unhide F2)).mono ?_
  rintro e w4 ⟨v4, ve4, vo4, zs, ys, M41, M42, rfl, hf4, hb4⟩
  clear F2
  replace Z0 := hide (below_then (unhide Z0) hb4)
  clear hb4
  have hLP := settle_lens proc s ps n (unhide HL1) (unhide HL2)
  obtain ⟨P, hP⟩ : ∃ P, P = (laneSettle proc s ps n).1.1 := ⟨_, rfl⟩
  obtain ⟨S, hS⟩ : ∃ S, S = (laneSettle proc s ps n).1.2.1 := ⟨_, rfl⟩
  obtain ⟨PS, hPS⟩ : ∃ PS, PS = (laneSettle proc s ps n).1.2.2 := ⟨_, rfl⟩
  obtain ⟨ES, hES⟩ : ∃ ES, ES = (laneSettle proc s ps n).2.1 := ⟨_, rfl⟩
  obtain ⟨OS, hOS⟩ : ∃ OS, OS = (laneSettle proc s ps n).2.2 := ⟨_, rfl⟩
  rw [← hPS, ← hES, ← hOS] at hLP hf4
  rw [← hP, ← hS]
  have HP := hide hP
  have HS := hide hS
  have HPS := hide hPS
  have HES := hide hES
  have HOS := hide hOS
  have HLP1 := hide hLP.1
  have HLP2 := hide hLP.2.1
  have HZL : Hid (zs.length ≤ 200) := hide (Nat.le_trans (len_le_sub zs ES (up_nodup evLess_strict hf4.up) (fun a ha => (hf4.mem a).1 ha)) hLP.2.2.1)
  have HYL : Hid (ys.length ≤ 200) := hide (by rw [hf4.perm.length_eq]; exact hLP.2.2.2)
  have HUP := hide (And.intro hf4.up hf4.mem)
  have HAS := hide (And.intro hf4.asc hf4.perm)
  clear hP hS hPS hES hOS hLP
  obtain ⟨d4, k4, hv4⟩ := hf4.list.at.sliced
  subst hv4
  have D2 := hide (hf4.list)
  have DE := hide (hf4.ev.at)
  have DO := hide (hf4.out.at)
  clear hf4
  have hx : Below w4.heap.size w4 (w4.alloc (.cells #[.int .i64 P, .int .i64 S.x, .int .i64 S.y, .int .i64 S.c, .slice d4 PS.length k4] 32)) := (Below.refl _ _).alloc (Nat.le_refl _) _
  replace Z0 := hide (below_then (unhide Z0) hx)
  replace D2 := hide ((unhide D2).on hx)
  replace DE := hide ((unhide DE).on hx)
  replace DO := hide ((unhide DO).on hx)
  have hnew := cellsAt_new w4 (laneCells P S (.slice d4 PS.length k4)) 32
  have hsn : (w4.alloc (.cells #[.int .i64 P, .int .i64 S.x, .int .i64 S.y, .int .i64 S.c, .slice d4 PS.length k4] 32)).heap.size = w4.heap.size + 1 := by simp
  have HNEW := hide hnew
  have HSNW5 := hide hsn
  clear hx hnew hsn
  go_upto_region 6 with fail
  generalize (w4.alloc (.cells #[.int .i64 P, .int .i64 S.x, .int .i64 S.y, .int .i64 S.c, .slice d4 PS.length k4] 32)) = W5 at *
  have HD1 := HNEW
  have HZ05 := hide (unhide Z0).size
  clear HNEW
  have HD2 := hide (unhide D2).at
  have HDE := DE
  have HDO := DO
  clear D2 DE DO
  have Z5 := hide (Below.refl W5.heap.size W5)
  have n0 : W5.cell? ⟨w.heap.size, 0, none⟩ = some (.int .i64 proc) := ((unhide HB1).on (unhide Z0)) 0 (by simp)
  have n1 : W5.cell? ⟨w.heap.size, 1, none⟩ = some (.int .i64 s.x) := ((unhide HB1).on (unhide Z0)) 1 (by simp)
  have n2 : W5.cell? ⟨w.heap.size, 2, none⟩ = some (.int .i64 s.y) := ((unhide HB1).on (unhide Z0)) 2 (by simp)
  have n3 : W5.cell? ⟨w.heap.size, 3, none⟩ = some (.int .i64 s.c) := ((unhide HB1).on (unhide Z0)) 3 (by simp)
  have n4 : W5.cell? ⟨w.heap.size, 4, none⟩ = some (.slice a1 ps.length c1) := ((unhide HB1).on (unhide Z0)) 4 (by simp)
  go_wp2_with fail
  clear n0 n1 n2 n3 n4
  refine (toLane_own proc s _ ps _ ((unhide HH).on (unhide Z0)) (unhide HL1) (unhide HL2)).mono ?_
  rintro e w6 ⟨v6, rfl, hf6, hb6⟩
  obtain ⟨d6, k6, hv6⟩ := hf6.at.sliced
  subst hv6
  replace Z0 := hide (below_then (unhide Z0) hb6)
  replace Z5 := hide (below_then (unhide Z5) hb6)
  have FX := hide (hf6)
  have HS56 := hide hb6.size
  clear hf6 hb6
  have hx : Below w6.heap.size w6 (w6.alloc (.cells #[.int .i64 proc, .int .i64 s.x, .int .i64 s.y, .int .i64 s.c, .slice d6 ps.length k6] 32)) := (Below.refl _ _).alloc (Nat.le_refl _) _
  replace Z0 := hide (below_then (unhide Z0) hx)
  replace Z5 := hide (below_then (unhide Z5) hx)
  replace FX := hide ((unhide FX).on hx)
  have hnew := cellsAt_new w6 (laneCells proc s (.slice d6 ps.length k6)) 32
  have hsn : (w6.alloc (.cells #[.int .i64 proc, .int .i64 s.x, .int .i64 s.y, .int .i64 s.c, .slice d6 ps.length k6] 32)).heap.size = w6.heap.size + 1 := by simp
  have HNEW := hide hnew
  have HSNW7 := hide hsn
  clear hx hnew hsn
  go_upto_region 7 with fail
  generalize (w6.alloc (.cells #[.int .i64 proc, .int .i64 s.x, .int .i64 s.y, .int .i64 s.c, .slice d6 ps.length k6] 32)) = W7 at *
  have C := HNEW
  clear HNEW
  have n0 : W7.cell? ⟨w6.heap.size, 0, none⟩ = some (.int .i64 proc) := (unhide C) 0 (by simp)
  have n1 : W7.cell? ⟨w6.heap.size, 1, none⟩ = some (.int .i64 s.x) := (unhide C) 1 (by simp)
  have n2 : W7.cell? ⟨w6.heap.size, 2, none⟩ = some (.int .i64 s.y) := (unhide C) 2 (by simp)
  have n3 : W7.cell? ⟨w6.heap.size, 3, none⟩ = some (.int .i64 s.c) := (unhide C) 3 (by simp)
  have n4 : W7.cell? ⟨w6.heap.size, 4, none⟩ = some (.slice d6 ps.length k6) := (unhide C) 4 (by simp)
  go_wp2_with fail
  clear n0 n1 n2 n3 n4
  refine (implLaneSettle_any proc s _ ps u n W7 (unhide HN) (unhide FX).at).mono ?_
  rintro e w9 ⟨v9, ve9, vo9, zs9, ys9, M1, M2, rfl, hf9, hb9⟩
  rw [← unhide HPS, ← unhide HES, ← unhide HOS] at hf9
  rw [← unhide HP, ← unhide HS]
  obtain rfl : zs9 = zs := up_unique evLess_strict hf9.up (unhide HUP).1 (fun a => (hf9.mem a).trans ((unhide HUP).2 a).symm)
  obtain rfl : ys9 = ys := asc_unique outLess_strict hf9.asc (unhide HAS).1 (hf9.perm.trans (unhide HAS).2.symm)
  obtain ⟨d9, k9, hv9⟩ := hf9.list.at.sliced
  subst hv9
  replace Z0 := hide (below_then (unhide Z0) hb9)
  replace Z5 := hide (below_then (unhide Z5) hb9)
  replace FX := hide ((unhide FX).on hb9)
  replace C := hide ((unhide C).on hb9)
  have E2 := hide (hf9.list)
  have K1 := hide (hf9.ev)
  have K2 := hide (hf9.out)
  have HM := hide (And.intro hf9.m12 hf9.m2)
  have HM1 := hide hf9.n1
  have HK1 := hide hf9.evb
  have HK1b := hide (fun g hg => (hf9.ev.blk g hg).1)
  have HK2 := hide (fun g hg => hf9.out.blk g hg)
  have HS79 := hide hb9.size
  clear hf9 hb9
  have hx : Below w9.heap.size w9 (w9.alloc (.cells #[.int .i64 P, .int .i64 S.x, .int .i64 S.y, .int .i64 S.c, .slice d9 PS.length k9] 32)) := (Below.refl _ _).alloc (Nat.le_refl _) _
  replace Z0 := hide (below_then (unhide Z0) hx)
  replace Z5 := hide (below_then (unhide Z5) hx)
  replace FX := hide ((unhide FX).on hx)
  replace C := hide ((unhide C).on hx)
  replace E2 := hide ((unhide E2).on hx)
  replace K1 := hide ((unhide K1).on hx)
  replace K2 := hide ((unhide K2).on hx)
  have hnew := cellsAt_new w9 (laneCells P S (.slice d9 PS.length k9)) 32
  have hsn : (w9.alloc (.cells #[.int .i64 P, .int .i64 S.x, .int .i64 S.y, .int .i64 S.c, .slice d9 PS.length k9] 32)).heap.size = w9.heap.size + 1 := by simp
  have HNEW := hide hnew
  have HSNW10 := hide hsn
  clear hx hnew hsn
  go_upto_region 8 with fail
  generalize (w9.alloc (.cells #[.int .i64 P, .int .i64 S.x, .int .i64 S.y, .int .i64 S.c, .slice d9 PS.length k9] 32)) = W10 at *
  have E := HNEW
  clear HNEW
  have n0 : W10.cell? ⟨w9.heap.size, 0, none⟩ = some (.int .i64 P) := (unhide E) 0 (by simp)
  have n1 : W10.cell? ⟨w9.heap.size, 1, none⟩ = some (.int .i64 S.x) := (unhide E) 1 (by simp)
  have n2 : W10.cell? ⟨w9.heap.size, 2, none⟩ = some (.int .i64 S.y) := (unhide E) 2 (by simp)
  have n3 : W10.cell? ⟨w9.heap.size, 3, none⟩ = some (.int .i64 S.c) := (unhide E) 3 (by simp)
  have n4 : W10.cell? ⟨w9.heap.size, 4, none⟩ = some (.slice d9 PS.length k9) := (unhide E) 4 (by simp)
  have m0 : W10.cell? ⟨w4.heap.size, 0, none⟩ = some (.int .i64 P) := ((unhide HD1).on (unhide Z5)) 0 (by simp)
  have m1 : W10.cell? ⟨w4.heap.size, 1, none⟩ = some (.int .i64 S.x) := ((unhide HD1).on (unhide Z5)) 1 (by simp)
  have m2 : W10.cell? ⟨w4.heap.size, 2, none⟩ = some (.int .i64 S.y) := ((unhide HD1).on (unhide Z5)) 2 (by simp)
  have m3 : W10.cell? ⟨w4.heap.size, 3, none⟩ = some (.int .i64 S.c) := ((unhide HD1).on (unhide Z5)) 3 (by simp)
  have m4 : W10.cell? ⟨w4.heap.size, 4, none⟩ = some (.slice d4 PS.length k4) := ((unhide HD1).on (unhide Z5)) 4 (by simp)
  go_wp2_with fail
  clear n0 n1 n2 n3 n4
  clear m0 m1 m2 m3 m4
  refine (eqLane_any P S _ _ PS _ (unhide E2).at ((unhide HD2).on (unhide Z5))).mono ?_
  rintro e y21 ⟨rfl, hbs⟩
  replace Z0 := hide (below_then (unhide Z0) hbs)
  replace Z5 := hide (below_then (unhide Z5) hbs)
  replace FX := hide ((unhide FX).on hbs)
  replace C := hide ((unhide C).on hbs)
  replace E2 := hide ((unhide E2).on hbs)
  replace K1 := hide ((unhide K1).on hbs)
  replace K2 := hide ((unhide K2).on hbs)
  replace E := hide ((unhide E).on hbs)
  have hzy21 := hbs.size
  clear hbs
  go_wp2_with fail
  refine (eqEventS_any _ _ _ _ (unhide K1).at ((unhide HDE).on (unhide Z5))).mono ?_
  rintro e y22 ⟨rfl, hbs⟩
  replace Z0 := hide (below_then (unhide Z0) hbs)
  replace Z5 := hide (below_then (unhide Z5) hbs)
  replace FX := hide ((unhide FX).on hbs)
  replace C := hide ((unhide C).on hbs)
  replace E2 := hide ((unhide E2).on hbs)
  replace K1 := hide ((unhide K1).on hbs)
  replace K2 := hide ((unhide K2).on hbs)
  replace E := hide ((unhide E).on hbs)
  have hzy22 := hbs.size
  clear hbs
  go_wp2_with fail
  refine (eqOutS_any _ _ _ _ (unhide K2).at ((unhide HDO).on (unhide Z5))).mono ?_
  rintro e y23 ⟨rfl, hbs⟩
  replace Z0 := hide (below_then (unhide Z0) hbs)
  replace Z5 := hide (below_then (unhide Z5) hbs)
  replace FX := hide ((unhide FX).on hbs)
  replace C := hide ((unhide C).on hbs)
  replace E2 := hide ((unhide E2).on hbs)
  replace K1 := hide ((unhide K1).on hbs)
  replace K2 := hide ((unhide K2).on hbs)
  replace E := hide ((unhide E).on hbs)
  have hzy23 := hbs.size
  clear hbs
  go_upto_region 10 with fail
  have B := hide ((unhide HB1).on (unhide Z0))
  go_region_held3 (fun w' => w'.cell? ⟨w.heap.size, 0, none⟩ = some (.int .i64 proc) ∧ w'.cell? ⟨w.heap.size, 1, none⟩ = some (.int .i64 s.x) ∧ w'.cell? ⟨w.heap.size, 2, none⟩ = some (.int .i64 s.y) ∧ w'.cell? ⟨w.heap.size, 3, none⟩ = some (.int .i64 s.c) ∧ w'.cell? ⟨w.heap.size, 4, none⟩ = some (.slice a1 ps.length c1) ∧ w'.cell? ⟨w6.heap.size, 0, none⟩ = some (.int .i64 proc) ∧ w'.cell? ⟨w6.heap.size, 1, none⟩ = some (.int .i64 s.x) ∧ w'.cell? ⟨w6.heap.size, 2, none⟩ = some (.int .i64 s.y) ∧ w'.cell? ⟨w6.heap.size, 3, none⟩ = some (.int .i64 s.c) ∧ w'.cell? ⟨w6.heap.size, 4, none⟩ = some (.slice d6 ps.length k6) ∧ Below y23.heap.size y23 w')
    ((go_split_ands; refine sLo_of (unhide B) (unhide C) ?_; first | exact (Below.refl _ _).drew | exact below_then (by assumption) hba | exact below_then (by assumption) hbe))
    (first
      | (go_at_call 10; refine (toLane_any proc s _ ps _ (((unhide HH).on (unhide Z0)).on (by go_split_ands; assumption)) (unhide HL1) (unhide HL2)).mono ?_; rintro e wa ⟨va, rfl, hfr, hba⟩; have hBa := below_then (a := y23) (by go_split_ands; assumption) hba)
      | (go_at_call 12; refine (eqLane_any proc s _ _ ps _ ((unhide FX).at.on hBa) hfr.at).mono ?_; rintro e w13 ⟨rfl, hbe⟩; have hBe := below_then hBa hbe))
  replace Z0 := hide (below_then (unhide Z0) hBe)
  replace Z5 := hide (below_then (unhide Z5) hBe)
  replace FX := hide ((unhide FX).on hBe)
  replace C := hide ((unhide C).on hBe)
  replace E2 := hide ((unhide E2).on hBe)
  replace K1 := hide ((unhide K1).on hBe)
  replace K2 := hide ((unhide K2).on hBe)
  replace E := hide ((unhide E).on hBe)
  clear hBe hbe hBa hba hfr B
  have n0 : w13.cell? ⟨w6.heap.size, 0, none⟩ = some (.int .i64 proc) := (unhide C) 0 (by simp)
  have n1 : w13.cell? ⟨w6.heap.size, 1, none⟩ = some (.int .i64 s.x) := (unhide C) 1 (by simp)
  have n2 : w13.cell? ⟨w6.heap.size, 2, none⟩ = some (.int .i64 s.y) := (unhide C) 2 (by simp)
  have n3 : w13.cell? ⟨w6.heap.size, 3, none⟩ = some (.int .i64 s.c) := (unhide C) 3 (by simp)
  have n4 : w13.cell? ⟨w6.heap.size, 4, none⟩ = some (.slice d6 ps.length k6) := (unhide C) 4 (by simp)
  go_wp2_with fail
  clear n0 n1 n2 n3 n4
  have hz4 := unhide HSNW5
  have hz5 := unhide HS56
  have hz7 := unhide HSNW7
  have hz9 := unhide HS79
  have hz10 := unhide HSNW10
  have hz05 := unhide HZ05
  have hm12 := (unhide HM).1
  have hm2 := (unhide HM).2
  have hzl := unhide HZL
  have hyl := unhide HYL
  have hq13 : W5.heap.size ≤ w13.heap.size := (unhide Z5).size
  have hq0 : W0.heap.size ≤ w13.heap.size := (unhide Z0).size
  have hq10 : w9.heap.size < w13.heap.size := World.block_lt_of_cell? _ ⟨w9.heap.size, 0 + 0, none⟩ ((unhide E) 0 (by simp))
  have hp1 := szPs_pos ps
  have hp2 := szPs_le ps (unhide HL2)
  have hp3 := unhide HL1
  refine (markLane_any _ _ proc s _ ps 1 w13 (unhide FX) (by omega) (unhide HL1) (unhide HL2) (by omega) (by omega)).mono ?_
  rintro e w14 ⟨rfl, -, hfr14⟩
  have hs14 := hfr14.size
  replace Z0 := hide (hfr14.then_below (unhide Z0) (by omega) (by omega))
  replace Z5 := hide (hfr14.then_below (unhide Z5) (by omega) (by omega))
  replace E := hide ((unhide E).frame hfr14 (Or.inr (by omega)))
  replace E2 := hide ((unhide E2).frame hfr14 (Or.inl (by omega)))
  replace K1 := hide ((unhide K1).frame hfr14 (fun g hg => Or.inr (by have h1 := (unhide HK1b) g hg; have h2 := (unhide HM1); omega)))
  replace K2 := hide ((unhide K2).frame hfr14 (fun g hg => Or.inr (by have h1 := ((unhide HK2) g hg).1; have h2 := (unhide HM1); omega)))
  clear FX C hfr14
  obtain ⟨kk, hkk⟩ : ∃ kk, kk = 1 + szPs ps := ⟨_, rfl⟩
  rw [← hkk]
  have hkk0 : 0 ≤ kk := by omega
  have hk21 : ¬ kk < 0 := by omega
  have hk22 : decide (kk < 0) = false := decide_eq_false hk21
  clear hkk hp1 hp2
  have n0 : w14.cell? ⟨w9.heap.size, 0, none⟩ = some (.int .i64 P) := (unhide E) 0 (by simp)
  have n1 : w14.cell? ⟨w9.heap.size, 1, none⟩ = some (.int .i64 S.x) := (unhide E) 1 (by simp)
  have n2 : w14.cell? ⟨w9.heap.size, 2, none⟩ = some (.int .i64 S.y) := (unhide E) 2 (by simp)
  have n3 : w14.cell? ⟨w9.heap.size, 3, none⟩ = some (.int .i64 S.c) := (unhide E) 3 (by simp)
  have n4 : w14.cell? ⟨w9.heap.size, 4, none⟩ = some (.slice d9 PS.length k9) := (unhide E) 4 (by simp)
  have m0 : w14.cell? ⟨w4.heap.size, 0, none⟩ = some (.int .i64 P) := ((unhide HD1).on (unhide Z5)) 0 (by simp)
  have m1 : w14.cell? ⟨w4.heap.size, 1, none⟩ = some (.int .i64 S.x) := ((unhide HD1).on (unhide Z5)) 1 (by simp)
  have m2 : w14.cell? ⟨w4.heap.size, 2, none⟩ = some (.int .i64 S.y) := ((unhide HD1).on (unhide Z5)) 2 (by simp)
  have m3 : w14.cell? ⟨w4.heap.size, 3, none⟩ = some (.int .i64 S.c) := ((unhide HD1).on (unhide Z5)) 3 (by simp)
  have m4 : w14.cell? ⟨w4.heap.size, 4, none⟩ = some (.slice d4 PS.length k4) := ((unhide HD1).on (unhide Z5)) 4 (by simp)
  go_wp2_with fail
  clear n0 n1 n2 n3 n4
  clear m0 m1 m2 m3 m4
  refine (eqLane_any P S _ _ PS _ (unhide E2).at ((unhide HD2).on (unhide Z5))).mono ?_
  rintro e y24 ⟨rfl, hbs⟩
  replace Z0 := hide (below_then (unhide Z0) hbs)
  replace Z5 := hide (below_then (unhide Z5) hbs)
  replace E2 := hide ((unhide E2).on hbs)
  replace K1 := hide ((unhide K1).on hbs)
  replace K2 := hide ((unhide K2).on hbs)
  replace E := hide ((unhide E).on hbs)
  have hzy24 := hbs.size
  clear hbs
  go_wp2_with fail
  refine (eqEventS_any _ _ _ _ (unhide K1).at ((unhide HDE).on (unhide Z5))).mono ?_
  rintro e y25 ⟨rfl, hbs⟩
  replace Z0 := hide (below_then (unhide Z0) hbs)
  replace Z5 := hide (below_then (unhide Z5) hbs)
  replace E2 := hide ((unhide E2).on hbs)
  replace K1 := hide ((unhide K1).on hbs)
  replace K2 := hide ((unhide K2).on hbs)
  replace E := hide ((unhide E).on hbs)
  have hzy25 := hbs.size
  clear hbs
  go_wp2_with fail
  refine (eqOutS_any _ _ _ _ (unhide K2).at ((unhide HDO).on (unhide Z5))).mono ?_
  rintro e y26 ⟨rfl, hbs⟩
  replace Z0 := hide (below_then (unhide Z0) hbs)
  replace Z5 := hide (below_then (unhide Z5) hbs)
  replace E2 := hide ((unhide E2).on hbs)
  replace K1 := hide ((unhide K1).on hbs)
  replace K2 := hide ((unhide K2).on hbs)
  replace E := hide ((unhide E).on hbs)
  have hzy26 := hbs.size
  clear hbs
  have n0 : y26.cell? ⟨w9.heap.size, 0, none⟩ = some (.int .i64 P) := (unhide E) 0 (by simp)
  have n1 : y26.cell? ⟨w9.heap.size, 1, none⟩ = some (.int .i64 S.x) := (unhide E) 1 (by simp)
  have n2 : y26.cell? ⟨w9.heap.size, 2, none⟩ = some (.int .i64 S.y) := (unhide E) 2 (by simp)
  have n3 : y26.cell? ⟨w9.heap.size, 3, none⟩ = some (.int .i64 S.c) := (unhide E) 3 (by simp)
  have n4 : y26.cell? ⟨w9.heap.size, 4, none⟩ = some (.slice d9 PS.length k9) := (unhide E) 4 (by simp)
  go_wp2_with fail
  clear n0 n1 n2 n3 n4
  have hp1 := szPs_pos PS
  have hp2 := szPs_le PS (unhide HLP2)
  have hp4 := unhide HLP1
  refine (markLane_any _ _ P S _ PS 1 y26 (unhide E2) (by omega) (unhide HLP1) (unhide HLP2) (by omega) (by omega)).mono ?_
  rintro e w17 ⟨rfl, hm17, hfr17⟩
  have hs17 := hfr17.size
  have hm1 := unhide HM1
  replace Z0 := hide (hfr17.then_below (unhide Z0) (by omega) (by omega))
  replace Z5 := hide (hfr17.then_below (unhide Z5) (by omega) (by omega))
  replace E := hide ((unhide E).frame hfr17 (Or.inr (by omega)))
  replace E2 := hide hm17
  replace K1 := hide ((unhide K1).frame hfr17 (fun g hg => Or.inr ((unhide HK1b) g hg)))
  replace K2 := hide ((unhide K2).frame hfr17 (fun g hg => Or.inr (by have h1 := ((unhide HK2) g hg).1; omega)))
  clear hfr17 hm17
  obtain ⟨mm, hmm⟩ : ∃ mm, mm = 1 + szPs PS := ⟨_, rfl⟩
  have HHELD : Hid (∀ W : World, PastsAt W (.slice d9 PS.length k9) (markPs 1 PS) → Calls Try.prog 26 #[laneAgg P S (.slice d9 PS.length k9), .int .i64 1] W fun e w' => e = .returned (.int .i64 mm) ∧ Below W.heap.size W w') := hide (fun W hW => by rw [hmm]; exact heldLane_any P S _ PS 1 W hW (unhide HLP1) (unhide HLP2) (by omega) (by omega))
  rw [← hmm]
  have hmm0 : 0 ≤ mm := by omega
  have hmm1 : ¬ mm < 0 := by omega
  have hmm2 : mm ≤ 100000000000000 := by omega
  clear hmm hp1 hp2
  go_wp2_with fail
  refine (markEventS_any M1 41 _ zs9.length mm w17 (by have e := (unhide K1).room; rwa [List.length_map] at e) (by omega) (by omega) (by omega)).mono ?_
  rintro e w18 ⟨rfl, hm18, ho18⟩
  have hfr18 : Frame M1 M2 w17 w18 := frame_of_only ho18 (fun g hg => ⟨(unhide HK1b) g hg, (unhide HK1) g hg⟩)
  have hs18 := hfr18.size
  replace Z0 := hide (hfr18.then_below (unhide Z0) (by omega) (by omega))
  replace Z5 := hide (hfr18.then_below (unhide Z5) (by omega) (by omega))
  replace E := hide ((unhide E).frame hfr18 (Or.inr (by omega)))
  replace E2 := hide ((unhide E2).frame hfr18 (Or.inr (Nat.le_refl _)))
  replace K1 := hide hm18
  replace K2 := hide ((unhide K2).frame hfr18 (fun g hg => Or.inr ((unhide HK2) g hg).1))
  clear hfr18 hm18 ho18
  obtain ⟨m2, hm2e⟩ : ∃ m2, m2 = mm + 7 * (zs9.length : Int) := ⟨_, rfl⟩
  have HHEV : Hid (∀ W : World, RowsAt 7 W ve9 (markRows 7 mm zs9.length) → Calls Try.prog 31 #[ve9, .int .i64 mm] W fun e w' => e = .returned (.int .i64 m2) ∧ w' = W) := hide (fun W hW => by rw [hm2e]; exact heldEventS_any ve9 zs9.length mm W hW (by omega) (by omega) (by omega))
  rw [← hm2e]
  have hm20 : 0 ≤ m2 := by omega
  have hm21 : ¬ m2 < 0 := by omega
  have hm22 : m2 ≤ 200000000000000 := by omega
  clear hm2e
  go_wp2_with fail
  refine (markOutS_any M2 92 _ ys9.length m2 w18 (by have e := (unhide K2).room; rwa [List.length_map] at e) (by omega) (by omega) (by omega)).mono ?_
  rintro e w19 ⟨rfl, hm19, ho19⟩
  have hfr19 : Frame M2 w9.heap.size w18 w19 := frame_of_only ho19 (fun g hg => (unhide HK2) g hg)
  have hs19 := hfr19.size
  replace Z0 := hide (hfr19.then_below (unhide Z0) (by omega) (by omega))
  replace Z5 := hide (hfr19.then_below (unhide Z5) (by omega) (by omega))
  replace E := hide ((unhide E).frame hfr19 (Or.inr (by omega)))
  replace E2 := hide ((unhide E2).frame hfr19 (Or.inr hm12)).at
  replace K1 := hide ((unhide K1).frame hfr19 (fun g hg => Or.inl ((unhide HK1) g hg))).at
  replace K2 := hide hm19.at
  clear hfr19 hm19 ho19
  obtain ⟨m3, hm3e⟩ : ∃ m3, m3 = m2 + 5 * (ys9.length : Int) := ⟨_, rfl⟩
  have HHOU : Hid (∀ W : World, RowsAt 5 W vo9 (markRows 5 m2 ys9.length) → Calls Try.prog 32 #[vo9, .int .i64 m2] W fun e w' => e = .returned (.int .i64 m3) ∧ w' = W) := hide (fun W hW => by rw [hm3e]; exact heldOutS_any vo9 ys9.length m2 W hW (by omega) (by omega) (by omega))
  rw [← hm3e]
  have hm30 : 0 ≤ m3 := by omega
  have hm31 : ¬ m3 < 0 := by omega
  clear hm3e
  have n0 : w19.cell? ⟨w9.heap.size, 0, none⟩ = some (.int .i64 P) := (unhide E) 0 (by simp)
  have n1 : w19.cell? ⟨w9.heap.size, 1, none⟩ = some (.int .i64 S.x) := (unhide E) 1 (by simp)
  have n2 : w19.cell? ⟨w9.heap.size, 2, none⟩ = some (.int .i64 S.y) := (unhide E) 2 (by simp)
  have n3 : w19.cell? ⟨w9.heap.size, 3, none⟩ = some (.int .i64 S.c) := (unhide E) 3 (by simp)
  have n4 : w19.cell? ⟨w9.heap.size, 4, none⟩ = some (.slice d9 PS.length k9) := (unhide E) 4 (by simp)
  go_wp2_with fail
  clear n0 n1 n2 n3 n4
  refine ((unhide HHELD) _ (unhide E2)).mono ?_
  rintro e y27 ⟨rfl, hbs⟩
  replace Z0 := hide (below_then (unhide Z0) hbs)
  replace Z5 := hide (below_then (unhide Z5) hbs)
  replace E2 := hide ((unhide E2).on hbs)
  replace K1 := hide ((unhide K1).on hbs)
  replace K2 := hide ((unhide K2).on hbs)
  replace E := hide ((unhide E).on hbs)
  have hzy27 := hbs.size
  clear hbs
  go_wp2_with fail
  refine ((unhide HHEV) _ (unhide K1)).mono ?_
  rintro e wx ⟨rfl, hwx⟩
  obtain rfl := hwx.symm
  go_wp2_with fail
  refine ((unhide HHOU) _ (unhide K2)).mono ?_
  rintro e wx ⟨rfl, hwx⟩
  obtain rfl := hwx.symm
  have n0 : y27.cell? ⟨w.heap.size, 0, none⟩ = some (.int .i64 proc) := ((unhide HB1).on (unhide Z0)) 0 (by simp)
  have n1 : y27.cell? ⟨w.heap.size, 1, none⟩ = some (.int .i64 s.x) := ((unhide HB1).on (unhide Z0)) 1 (by simp)
  have n2 : y27.cell? ⟨w.heap.size, 2, none⟩ = some (.int .i64 s.y) := ((unhide HB1).on (unhide Z0)) 2 (by simp)
  have n3 : y27.cell? ⟨w.heap.size, 3, none⟩ = some (.int .i64 s.c) := ((unhide HB1).on (unhide Z0)) 3 (by simp)
  have n4 : y27.cell? ⟨w.heap.size, 4, none⟩ = some (.slice a1 ps.length c1) := ((unhide HB1).on (unhide Z0)) 4 (by simp)
  go_wp2_with fail
  clear n0 n1 n2 n3 n4
  refine (toLane_any proc s _ ps _ ((unhide HH).on (unhide Z0)) (unhide HL1) (unhide HL2)).mono ?_
  rintro e w29 ⟨v29, rfl, hf29, hb29⟩
  replace Z0 := hide (below_then (unhide Z0) hb29)
  replace Z5 := hide (below_then (unhide Z5) hb29)
  replace E2 := hide ((unhide E2).on hb29)
  replace K1 := hide ((unhide K1).on hb29)
  replace K2 := hide ((unhide K2).on hb29)
  replace E := hide ((unhide E).on hb29)
  have F29 := hide (hf29.at)
  clear hf29 hb29
  go_wp2_with fail
  refine (implLaneSettle_any proc s _ ps u n w29 (unhide HN) (unhide F29)).mono ?_
  rintro e w31 ⟨v31, ve31, vo31, zs31, ys31, M31, M32, rfl, hf31, hb31⟩
  rw [← unhide HPS, ← unhide HES, ← unhide HOS] at hf31
  rw [← unhide HP, ← unhide HS]
  obtain rfl : zs31 = zs9 := up_unique evLess_strict hf31.up (unhide HUP).1 (fun a => (hf31.mem a).trans ((unhide HUP).2 a).symm)
  obtain rfl : ys31 = ys9 := asc_unique outLess_strict hf31.asc (unhide HAS).1 (hf31.perm.trans (unhide HAS).2.symm)
  obtain ⟨dh, kh, hv31⟩ := hf31.list.at.sliced
  subst hv31
  clear F29
  replace Z0 := hide (below_then (unhide Z0) hb31)
  replace Z5 := hide (below_then (unhide Z5) hb31)
  replace E2 := hide ((unhide E2).on hb31)
  replace K1 := hide ((unhide K1).on hb31)
  replace K2 := hide ((unhide K2).on hb31)
  replace E := hide ((unhide E).on hb31)
  have F31 := hide (hf31.list.at)
  have F32 := hide (hf31.ev.at)
  have F33 := hide (hf31.out.at)
  clear hf31 hb31
  have hx : Below w31.heap.size w31 (w31.alloc (.cells #[.int .i64 P, .int .i64 S.x, .int .i64 S.y, .int .i64 S.c, .slice dh PS.length kh] 32)) := (Below.refl _ _).alloc (Nat.le_refl _) _
  replace Z0 := hide (below_then (unhide Z0) hx)
  replace Z5 := hide (below_then (unhide Z5) hx)
  replace E2 := hide ((unhide E2).on hx)
  replace K1 := hide ((unhide K1).on hx)
  replace K2 := hide ((unhide K2).on hx)
  replace E := hide ((unhide E).on hx)
  replace F31 := hide ((unhide F31).on hx)
  replace F32 := hide ((unhide F32).on hx)
  replace F33 := hide ((unhide F33).on hx)
  have hnew := cellsAt_new w31 (laneCells P S (.slice dh PS.length kh)) 32
  have hsn : (w31.alloc (.cells #[.int .i64 P, .int .i64 S.x, .int .i64 S.y, .int .i64 S.c, .slice dh PS.length kh] 32)).heap.size = w31.heap.size + 1 := by simp
  have HNEW := hide hnew
  have HSNW32 := hide hsn
  clear hx hnew hsn
  go_upto_region 33 with fail
  generalize (w31.alloc (.cells #[.int .i64 P, .int .i64 S.x, .int .i64 S.y, .int .i64 S.c, .slice dh PS.length kh] 32)) = W32 at *
  have I := HNEW
  clear HNEW
  have n0 : W32.cell? ⟨w31.heap.size, 0, none⟩ = some (.int .i64 P) := (unhide I) 0 (by simp)
  have n1 : W32.cell? ⟨w31.heap.size, 1, none⟩ = some (.int .i64 S.x) := (unhide I) 1 (by simp)
  have n2 : W32.cell? ⟨w31.heap.size, 2, none⟩ = some (.int .i64 S.y) := (unhide I) 2 (by simp)
  have n3 : W32.cell? ⟨w31.heap.size, 3, none⟩ = some (.int .i64 S.c) := (unhide I) 3 (by simp)
  have n4 : W32.cell? ⟨w31.heap.size, 4, none⟩ = some (.slice dh PS.length kh) := (unhide I) 4 (by simp)
  have m0 : W32.cell? ⟨w4.heap.size, 0, none⟩ = some (.int .i64 P) := ((unhide HD1).on (unhide Z5)) 0 (by simp)
  have m1 : W32.cell? ⟨w4.heap.size, 1, none⟩ = some (.int .i64 S.x) := ((unhide HD1).on (unhide Z5)) 1 (by simp)
  have m2 : W32.cell? ⟨w4.heap.size, 2, none⟩ = some (.int .i64 S.y) := ((unhide HD1).on (unhide Z5)) 2 (by simp)
  have m3 : W32.cell? ⟨w4.heap.size, 3, none⟩ = some (.int .i64 S.c) := ((unhide HD1).on (unhide Z5)) 3 (by simp)
  have m4 : W32.cell? ⟨w4.heap.size, 4, none⟩ = some (.slice d4 PS.length k4) := ((unhide HD1).on (unhide Z5)) 4 (by simp)
  go_wp2_with fail
  clear n0 n1 n2 n3 n4
  clear m0 m1 m2 m3 m4
  refine (eqLane_any P S _ _ PS _ (unhide F31) ((unhide HD2).on (unhide Z5))).mono ?_
  rintro e y28 ⟨rfl, hbs⟩
  replace Z0 := hide (below_then (unhide Z0) hbs)
  replace Z5 := hide (below_then (unhide Z5) hbs)
  replace E2 := hide ((unhide E2).on hbs)
  replace K1 := hide ((unhide K1).on hbs)
  replace K2 := hide ((unhide K2).on hbs)
  replace E := hide ((unhide E).on hbs)
  replace F31 := hide ((unhide F31).on hbs)
  replace F32 := hide ((unhide F32).on hbs)
  replace F33 := hide ((unhide F33).on hbs)
  replace I := hide ((unhide I).on hbs)
  have hzy28 := hbs.size
  clear hbs
  go_wp2_with fail
  refine (eqEventS_any _ _ _ _ (unhide F32) ((unhide HDE).on (unhide Z5))).mono ?_
  rintro e y29 ⟨rfl, hbs⟩
  replace Z0 := hide (below_then (unhide Z0) hbs)
  replace Z5 := hide (below_then (unhide Z5) hbs)
  replace E2 := hide ((unhide E2).on hbs)
  replace K1 := hide ((unhide K1).on hbs)
  replace K2 := hide ((unhide K2).on hbs)
  replace E := hide ((unhide E).on hbs)
  replace F31 := hide ((unhide F31).on hbs)
  replace F32 := hide ((unhide F32).on hbs)
  replace F33 := hide ((unhide F33).on hbs)
  replace I := hide ((unhide I).on hbs)
  have hzy29 := hbs.size
  clear hbs
  go_wp2_with fail
  refine (eqOutS_any _ _ _ _ (unhide F33) ((unhide HDO).on (unhide Z5))).mono ?_
  rintro e y30 ⟨rfl, hbs⟩
  replace Z0 := hide (below_then (unhide Z0) hbs)
  replace Z5 := hide (below_then (unhide Z5) hbs)
  replace E2 := hide ((unhide E2).on hbs)
  replace K1 := hide ((unhide K1).on hbs)
  replace K2 := hide ((unhide K2).on hbs)
  replace E := hide ((unhide E).on hbs)
  replace F31 := hide ((unhide F31).on hbs)
  replace F32 := hide ((unhide F32).on hbs)
  replace F33 := hide ((unhide F33).on hbs)
  replace I := hide ((unhide I).on hbs)
  have hzy30 := hbs.size
  clear hbs
  have n0 : y30.cell? ⟨w9.heap.size, 0, none⟩ = some (.int .i64 P) := (unhide E) 0 (by simp)
  have n1 : y30.cell? ⟨w9.heap.size, 1, none⟩ = some (.int .i64 S.x) := (unhide E) 1 (by simp)
  have n2 : y30.cell? ⟨w9.heap.size, 2, none⟩ = some (.int .i64 S.y) := (unhide E) 2 (by simp)
  have n3 : y30.cell? ⟨w9.heap.size, 3, none⟩ = some (.int .i64 S.c) := (unhide E) 3 (by simp)
  have n4 : y30.cell? ⟨w9.heap.size, 4, none⟩ = some (.slice d9 PS.length k9) := (unhide E) 4 (by simp)
  go_wp2_with fail
  clear n0 n1 n2 n3 n4
  refine ((unhide HHELD) _ (unhide E2)).mono ?_
  rintro e y31 ⟨rfl, hbs⟩
  replace Z0 := hide (below_then (unhide Z0) hbs)
  replace Z5 := hide (below_then (unhide Z5) hbs)
  replace E2 := hide ((unhide E2).on hbs)
  replace K1 := hide ((unhide K1).on hbs)
  replace K2 := hide ((unhide K2).on hbs)
  replace E := hide ((unhide E).on hbs)
  replace F31 := hide ((unhide F31).on hbs)
  replace F32 := hide ((unhide F32).on hbs)
  replace F33 := hide ((unhide F33).on hbs)
  replace I := hide ((unhide I).on hbs)
  have hzy31 := hbs.size
  clear hbs
  go_wp2_with fail
  refine ((unhide HHEV) _ (unhide K1)).mono ?_
  rintro e wx ⟨rfl, hwx⟩
  obtain rfl := hwx.symm
  go_wp2_with fail
  refine ((unhide HHOU) _ (unhide K2)).mono ?_
  rintro e wx ⟨rfl, hwx⟩
  obtain rfl := hwx.symm
  go_wp2_with fail
  go_ret
  exact ⟨rfl, below_then (unhide HW) (unhide Z0)⟩
end Go.Proofs.Ythekkgndckkoaaa
