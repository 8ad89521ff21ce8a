/- spec.HubJudge. -/
import Derived.Test.YtimkamgghkjhhaaJudge6
import Derived.Test.YtimkamgghkjhhaaHub4
import Derived.Deep.Cut
namespace Go.Proofs.Ytimkamgghkjhhaa
open Go.RowKit
set_option linter.unusedVariables false
set_option linter.unusedSimpArgs false

theorem other_mem {i m : Nat} (hm : m < 3) (hne : m ≠ i) : (m : Int) ∈ othersTo (i : Int) 3 :=
  List.mem_filter.2 ⟨List.mem_map.2 ⟨m, List.mem_range.2 hm, rfl⟩, by simp; omega⟩
theorem nodeL_no {n : HubV} {i k : Nat} (hi : i < 3) (hk : k < 3) (hne : k ≠ i) (h : pairB (oneL n k) (twoL n i) i = false) : nodeL n i = false := by
  have : ((othersTo (i : Int) 3).all fun z => pairB (oneL n z.toNat) (twoL n i) i) = false := by
    rw [List.all_eq_false]
    exact ⟨(k : Int), other_mem hk hne, by rw [Int.toNat_natCast, h]; simp⟩
  rw [nodeL, this, Bool.and_false]
theorem nodeL_yes {n : HubV} {i : Nat} (hi : i < 3) (h1 : ((oneL n i).inc == (twoL n i).inc) = true) (h : ∀ m, m < 3 → m ≠ i → pairB (oneL n m) (twoL n i) i = true) : nodeL n i = true := by
  rw [nodeL, h1, Bool.true_and, List.all_eq_true]
  intro z hz
  obtain ⟨m, hm, rfl⟩ := other_in hz
  have hne : m ≠ i := by
    have := (List.mem_filter.1 hz).2
    simp at this
    omega
  rw [Int.toNat_natCast]
  exact h m hm hne
theorem judgeL_no {n : HubV} {i : Nat} (hi : i < 3) (h : nodeL n i = false) : judgeL n = false := by
  have : i = 0 ∨ i = 1 ∨ i = 2 := by omega
  rcases this with rfl | rfl | rfl <;> simp [judgeL, h]
theorem judge_not {n : HubV} {i : Nat} (hi : i < 3) (h : nodeL n i = false) : Ending.returned (.tuple #[.int .i64 0, .bool false]) = Ending.returned (.tuple #[.int .i64 (judgeG n), .bool (judgeL n)]) := by
  have e := judgeL_no hi h
  rw [judgeG, e]; rfl
theorem word_cells {w : World} {a : Option Addr} {c len : Nat} {ns : List WordV} (h : WordsAt w (.slice a len c) ns) (hne : ns ≠ []) : ∃ b off, a = some ⟨b, off, none⟩ ∧ ∀ k, k < ns.length → ∃ s, CellsAt w b (off + k * 11) (wcl (ns.getD k wz) s) ∧ WordS w (ns.getD k wz) s := by
  obtain ⟨ad, cap, e, _, _, hc⟩ := h
  simp only [Value.slice.injEq] at e
  obtain ⟨rfl, _, _⟩ := e
  rcases hc with h | ⟨b, off, h1, h2⟩
  · exact absurd h hne
  · refine ⟨b, off, h1, fun k hk => ?_⟩
    obtain ⟨vi, vv, ve, vo, h3, h4⟩ := h2 k hk
    obtain ⟨s, e1, _, e3⟩ := h4.sl
    rw [e1] at h3
    have eg : ns.getD k wz = ns[k] := by rw [List.getD_eq_getElem?_getD, List.getElem?_eq_getElem hk]; rfl
    rw [eg]
    exact ⟨s, h3, e3⟩

set_option maxRecDepth 100000 in
set_option maxHeartbeats 8000000 in
theorem specHubJudge_any (n : HubV) (v1 v2 v3 : Value) (w : World) (h : HubAt w n v1 v2 v3) :
    Calls Try.prog 21 #[hubAgg n v1 v2 v3] w fun e w' => e = .returned (.tuple #[.int .i64 (judgeG n), .bool (judgeL n)]) ∧ Below w.heap.size w w' := by
  obtain ⟨⟨a0, ac0, e1⟩, ⟨a1, ac1, e2⟩, ⟨a2, ac2, e3⟩⟩ := h.sliced
  subst e1 e2 e3
  have hb0 : Below w.heap.size w (w.alloc (.cells #[.int .i64 n.rd, .slice a0 n.ones.length ac0, .slice a1 n.twos.length ac1, .slice a2 n.outs.length ac2] 51)) := (Below.refl _ _).alloc (Nat.le_refl _) _
  have HA := hide (cellsAt_new w [.int .i64 n.rd, .slice a0 n.ones.length ac0, .slice a1 n.twos.length ac1, .slice a2 n.outs.length ac2] 51)
  have H := hide (h.on hb0)
  have HB00 := hide hb0
  clear hb0 h
  go_enter Try.func21, Try.ntmps21
  go_upto_region 1 with fail
  change Hid (CellsAt (w.alloc (.cells #[.int .i64 n.rd, .slice a0 n.ones.length ac0, .slice a1 n.twos.length ac1, .slice a2 n.outs.length ac2] 51)) _ _ _) at HA
  generalize (w.alloc (.cells #[.int .i64 n.rd, .slice a0 n.ones.length ac0, .slice a1 n.twos.length ac1, .slice a2 n.outs.length ac2] 51)) = X0 at *
  have k0 : X0.cell? ⟨w.heap.size, 0, none⟩ = some (.int .i64 n.rd) := (unhide HA) 0 (by simp)
  have k1 : X0.cell? ⟨w.heap.size, 1, none⟩ = some (.slice a0 n.ones.length ac0) := (unhide HA) 1 (by simp)
  have k2 : X0.cell? ⟨w.heap.size, 2, none⟩ = some (.slice a1 n.twos.length ac1) := (unhide HA) 2 (by simp)
  have k3 : X0.cell? ⟨w.heap.size, 3, none⟩ = some (.slice a2 n.outs.length ac2) := (unhide HA) 3 (by simp)
  go_wp2_with fail
  refine (specHubOk_any n _ _ _ X0 (unhide H)).mono ?_
  rintro e X ⟨rfl, hb1⟩
  have hB1 := below_then (unhide HB00) hb1
  cases hok : hubOk n
  · go_wp2_with fail
    go_ret2
    exact ⟨by simp [judgeG, judgeL, hok], hB1⟩
  replace k0 := cell_on hb1 k0
  replace k1 := cell_on hb1 k1
  replace k2 := cell_on hb1 k2
  replace k3 := cell_on hb1 k3
  have HOK := hide hok
  have H1 := hide ((unhide H).on hb1)
  have HB0 := hide hB1
  clear H HA HB00 hb1 hB1 hok
  by_cases h3 : n.ones.length = 3
  rotate_left
  · have d1 : ((n.ones.length : Int) != 3) = true := by rw [show (3 : Int) = ((3 : Nat) : Int) from rfl, len_not]; simp [h3]
    have HE := hide (show judgeL n = false by simp [judgeL, h3])
    clear h3
    go_wp2_with fail
    go_ret2
    exact ⟨by rw [judgeG, unhide HE]; rfl, unhide HB0⟩
  have d1 : ((n.ones.length : Int) != 3) = false := by rw [show (3 : Int) = ((3 : Nat) : Int) from rfl, len_not]; simp [h3]
  by_cases h4 : n.twos.length = 3
  rotate_left
  · have d2 : ((n.twos.length : Int) != 3) = true := by rw [show (3 : Int) = ((3 : Nat) : Int) from rfl, len_not]; simp [h4]
    have HE := hide (show judgeL n = false by simp [judgeL, h4])
    clear h3 h4
    go_wp2_with fail
    go_ret2
    exact ⟨by rw [judgeG, unhide HE]; rfl, unhide HB0⟩
  have d2 : ((n.twos.length : Int) != 3) = false := by rw [show (3 : Int) = ((3 : Nat) : Int) from rfl, len_not]; simp [h4]
  have HL3 := hide h3
  have HL4 := hide h4
  obtain ⟨b1, o1, ha0, hw1⟩ := word_cells (unhide H1).a (by intro e; rw [e] at h3; cases h3)
  obtain ⟨b2, o2, ha1, hw2⟩ := word_cells (unhide H1).b (by intro e; rw [e] at h4; cases h4)
  have HW1 : Hid (∀ k, k < 3 → ∃ s, CellsAt X b1 (o1 + k * 11) (wcl (oneL n k) s) ∧ WordS X (oneL n k) s) := hide (fun k hk => hw1 k (by omega))
  have HW2 : Hid (∀ k, k < 3 → ∃ s, CellsAt X b2 (o2 + k * 11) (wcl (twoL n k) s) ∧ WordS X (twoL n k) s) := hide (fun k hk => hw2 k (by omega))
  have HLEN : Hid (∀ k, k < 3 → (oneL n k).incs.length = 3 ∧ (oneL n k).vers.length = 3) := hide (fun k hk => by
    have hkl : k < n.ones.length := by omega
    have he : oneL n k = n.ones[k] := by rw [oneL, List.getD_eq_getElem?_getD, List.getElem?_eq_getElem hkl]; rfl
    rw [he]
    exact kind_heard ((kept_asc (hubOk_parts (unhide HOK)).1).1 _ (List.getElem_mem hkl)))
  subst ha0 ha1
  clear hw1 hw2
  have x1 := k1
  have x2 := k2
  go_upto_region 3 with fail
  clear k0 k1 k2 k3 d1 d2 h3 h4
  have hn1 : (3 : Int) ≤ (n.ones.length : Int) := by have := unhide HL3; omega
  have hn2 : (3 : Int) ≤ (n.twos.length : Int) := by have := unhide HL4; omega
  go_wp2_with fail
  go_loopw [4, 5] (fun l ii wr => ∃ (i : Nat) (g : Int), i ≤ 3 ∧ ii = .int .i64 i ∧ l = .int .i64 g ∧ Hid (g = leastL n i) ∧ Hid (∀ j, j < i → nodeL n j = true) ∧ Hid (Below X.heap.size X wr)) (fun _ ii _ => 3 - (intOf ii).toNat)
  case atStart => exact ⟨0, 41, by omega, rfl, rfl, hide rfl, hide (fun j h => absurd h (Nat.not_lt_zero _)), hide (Below.refl _ _)⟩
  case round =>
    obtain ⟨i, g, hi3, rfl, rfl, HG, HN, HB⟩ := hrel
    by_cases hi : i < 3
    · have hiI : (i : Int) < 3 := by omega
      have hi0 : (0 : Int) ≤ (i : Int) := by omega
      have hN1i : (i : Int) < (n.ones.length : Int) := by omega
      have hN2i : (i : Int) < (n.twos.length : Int) := by omega
      obtain ⟨s1, hc1, _⟩ := (unhide HW1) i hi
      obtain ⟨s2, hc2, _⟩ := (unhide HW2) i hi
      have q3 := (hc1.on (unhide HB)) 3 (by simp)
      have q6 := (hc1.on (unhide HB)) 6 (by simp)
      have w3 := hc2 3 (by simp)
      have w4 := hc2 4 (by simp)
      have p3 := cell_on (unhide HB) w3
      have z1 := cell_on (unhide HB) x1
      have z2 := cell_on (unhide HB) x2
      simp only [List.getElem_cons_succ, List.getElem_cons_zero] at q3 q6 w3 w4 p3
      clear hc1 hc2
      go_upto_region 7 with fail
      go_quiet (fail)
      cases hinc : ((oneL n i).inc == (twoL n i).inc)
      · have hd : ((oneL n i).inc != (twoL n i).inc) = true := by simp [bne, hinc]
        have HNI := hide (show nodeL n i = false by rw [nodeL, hinc, Bool.false_and])
        clear hinc
        go_wp2_with fail
        go_ret2
        exact ⟨judge_not hi (unhide HNI), below_then (unhide HB0) (below_drewN (unhide HB) _)⟩
      have hd : ((oneL n i).inc != (twoL n i).inc) = false := by simp [bne, hinc]
      have HINC := hide hinc
      have HGS : Hid (leastL n (i + 1) = minI g (oneL n i).g) := hide (by rw [leastL, unhide HG])
      clear hinc q3 p3
      generalize (oneL n i).g = gi at *
      by_cases hmin : gi < g
      · have HG2 : Hid (gi = leastL n (i + 1)) := hide (by rw [unhide HGS, minI, if_pos hmin])
        go_wp2_with fail
        go_loopw [6] (fun kk wy => ∃ k : Nat, k ≤ 3 ∧ kk = .int .i64 k ∧ Hid (∀ m, m < k → m ≠ i → pairB (oneL n m) (twoL n i) i = true) ∧ Hid (Below X.heap.size X wy)) (fun kk _ => 3 - (intOf kk).toNat)
        case atStart => exact ⟨0, by omega, rfl, hide (fun m h => absurd h (Nat.not_lt_zero _)), hide (below_drewN (unhide HB) _)⟩
        case round =>
          obtain ⟨k, hk, rfl, HP, HBy⟩ := hrel
          by_cases hkl : k < 3
          · have hkI : (k : Int) < 3 := by omega
            have hk0 : (0 : Int) ≤ (k : Int) := by omega
            have y1 := cell_on (unhide HBy) x1
            have y2 := cell_on (unhide HBy) x2
            by_cases hki : k = i
            · have hne : ((k : Int) != (i : Int)) = false := by simp [hki]
              have HKI := hide hki
              clear hki
              go_upto_region 14 with fail
              go_quiet (fail)
              go_wp2_with fail
              go_roundw
              case rel => exact ⟨k + 1, by omega, by simp, hide (fun m hm hmi => by
                by_cases e : m = k
                · exact absurd (e.trans (unhide HKI)) hmi
                · exact (unhide HP) m (by omega) hmi), hide (below_drewN (unhide HBy) _)⟩
              case measure => (simp [intOf]; try omega)
            have hne : ((k : Int) != (i : Int)) = true := by simp; omega
            have HKI := hide hki
            obtain ⟨sk, hck, hsk⟩ := (unhide HW1) k (by omega)
            obtain ⟨hik, hvk⟩ := (unhide HLEN) k (by omega)
            obtain ⟨bi, oi, hai, ki⟩ := nums_cell hsk.i (show i < (oneL n k).incs.length by omega)
            obtain ⟨bv, ov, hav, kv⟩ := nums_cell hsk.v (show i < (oneL n k).vers.length by omega)
            have hL1 : (i : Int) < ((oneL n k).incs.length : Int) := by omega
            have hL2 : (i : Int) < ((oneL n k).vers.length : Int) := by omega
            have hN1 : (k : Int) < (n.ones.length : Int) := by omega
            replace ki := cell_on (unhide HBy) ki
            replace kv := cell_on (unhide HBy) kv
            have u7 := (hck.on (unhide HBy)) 7 (by simp)
            have u8 := (hck.on (unhide HBy)) 8 (by simp)
            have t3 := cell_on (unhide HBy) w3
            have t4 := cell_on (unhide HBy) w4
            have hpr : Hid (pairB (oneL n k) (twoL n i) i = (((oneL n k).incs.getD i 0 == (twoL n i).inc) && ((oneL n k).vers.getD i 0 == (twoL n i).ver))) := hide rfl
            have HNF : Hid (pairB (oneL n k) (twoL n i) i = false → nodeL n i = false) := hide (fun h => nodeL_no hi hkl (unhide HKI) h)
            simp only [List.getElem_cons_succ, List.getElem_cons_zero] at u7 u8
            clear hck hsk hik hvk hki
            generalize (oneL n k).incs.getD i 0 = xi at *
            generalize (oneL n k).vers.getD i 0 = xv at *
            generalize (oneL n k).incs.length = li at *
            generalize (oneL n k).vers.length = lv at *
            generalize (twoL n i).inc = yi at *
            generalize (twoL n i).ver = yv at *
            rw [hai] at u7
            rw [hav] at u8
            clear hai hav
            cases hq1 : (xi == yi)
            · have hd1 : (xi != yi) = true := by simp [bne, hq1]
              have HPF := hide ((unhide HNF) (by rw [unhide hpr, hq1]; rfl))
              clear hpr hq1
              go_upto_region 14 with fail
              go_quiet (fail)
              go_wp2_with fail
              go_ret2
              exact ⟨judge_not hi (unhide HPF), below_then (unhide HB0) (below_drewN (unhide HBy) _)⟩
            have hd1 : (xi != yi) = false := by simp [bne, hq1]
            cases hq2 : (xv == yv)
            · have hd2 : (xv != yv) = true := by simp [bne, hq2]
              have HPF := hide ((unhide HNF) (by rw [unhide hpr, hq2, Bool.and_false]))
              clear hpr hq1 hq2
              go_upto_region 14 with fail
              go_quiet (fail)
              go_wp2_with fail
              go_ret2
              exact ⟨judge_not hi (unhide HPF), below_then (unhide HB0) (below_drewN (unhide HBy) _)⟩
            have hd2 : (xv != yv) = false := by simp [bne, hq2]
            have HPT := hide (show pairB (oneL n k) (twoL n i) i = true by rw [unhide hpr, hq1, hq2]; rfl)
            clear hpr hq1 hq2
            go_upto_region 14 with fail
            go_quiet (fail)
            go_wp2_with fail
            go_roundw
            case rel => exact ⟨k + 1, by omega, by simp, hide (fun m hm hmi => by
              by_cases e : m = k
              · subst e; exact unhide HPT
              · exact (unhide HP) m (by omega) hmi), hide (below_drewN (unhide HBy) _)⟩
            case measure => (simp [intOf]; try omega)
          · have hk3 : k = 3 := by omega
            subst hk3
            have HNI := hide (nodeL_yes hi (unhide HINC) (unhide HP))
            go_wp2_with fail
            go_roundw
            case rel => exact ⟨i + 1, _, by omega, by simp, rfl, HG2, hide (fun j hj => by
              by_cases e : j = i
              · subst e; exact unhide HNI
              · exact (unhide HN) j (by omega)), HBy⟩
            case measure => (simp [intOf]; try omega)
      · have HG2 : Hid (g = leastL n (i + 1)) := hide (by rw [unhide HGS, minI, if_neg hmin])
        go_wp2_with fail
        go_loopw [6] (fun kk wy => ∃ k : Nat, k ≤ 3 ∧ kk = .int .i64 k ∧ Hid (∀ m, m < k → m ≠ i → pairB (oneL n m) (twoL n i) i = true) ∧ Hid (Below X.heap.size X wy)) (fun kk _ => 3 - (intOf kk).toNat)
        case atStart => exact ⟨0, by omega, rfl, hide (fun m h => absurd h (Nat.not_lt_zero _)), hide (below_drewN (unhide HB) _)⟩
        case round =>
          obtain ⟨k, hk, rfl, HP, HBy⟩ := hrel
          by_cases hkl : k < 3
          · have hkI : (k : Int) < 3 := by omega
            have hk0 : (0 : Int) ≤ (k : Int) := by omega
            have y1 := cell_on (unhide HBy) x1
            have y2 := cell_on (unhide HBy) x2
            by_cases hki : k = i
            · have hne : ((k : Int) != (i : Int)) = false := by simp [hki]
              have HKI := hide hki
              clear hki
              go_upto_region 14 with fail
              go_quiet (fail)
              go_wp2_with fail
              go_roundw
              case rel => exact ⟨k + 1, by omega, by simp, hide (fun m hm hmi => by
                by_cases e : m = k
                · exact absurd (e.trans (unhide HKI)) hmi
                · exact (unhide HP) m (by omega) hmi), hide (below_drewN (unhide HBy) _)⟩
              case measure => (simp [intOf]; try omega)
            have hne : ((k : Int) != (i : Int)) = true := by simp; omega
            have HKI := hide hki
            obtain ⟨sk, hck, hsk⟩ := (unhide HW1) k (by omega)
            obtain ⟨hik, hvk⟩ := (unhide HLEN) k (by omega)
            obtain ⟨bi, oi, hai, ki⟩ := nums_cell hsk.i (show i < (oneL n k).incs.length by omega)
            obtain ⟨bv, ov, hav, kv⟩ := nums_cell hsk.v (show i < (oneL n k).vers.length by omega)
            have hL1 : (i : Int) < ((oneL n k).incs.length : Int) := by omega
            have hL2 : (i : Int) < ((oneL n k).vers.length : Int) := by omega
            have hN1 : (k : Int) < (n.ones.length : Int) := by omega
            replace ki := cell_on (unhide HBy) ki
            replace kv := cell_on (unhide HBy) kv
            have u7 := (hck.on (unhide HBy)) 7 (by simp)
            have u8 := (hck.on (unhide HBy)) 8 (by simp)
            have t3 := cell_on (unhide HBy) w3
            have t4 := cell_on (unhide HBy) w4
            have hpr : Hid (pairB (oneL n k) (twoL n i) i = (((oneL n k).incs.getD i 0 == (twoL n i).inc) && ((oneL n k).vers.getD i 0 == (twoL n i).ver))) := hide rfl
            have HNF : Hid (pairB (oneL n k) (twoL n i) i = false → nodeL n i = false) := hide (fun h => nodeL_no hi hkl (unhide HKI) h)
            simp only [List.getElem_cons_succ, List.getElem_cons_zero] at u7 u8
            clear hck hsk hik hvk hki
            generalize (oneL n k).incs.getD i 0 = xi at *
            generalize (oneL n k).vers.getD i 0 = xv at *
            generalize (oneL n k).incs.length = li at *
            generalize (oneL n k).vers.length = lv at *
            generalize (twoL n i).inc = yi at *
            generalize (twoL n i).ver = yv at *
            rw [hai] at u7
            rw [hav] at u8
            clear hai hav
            cases hq1 : (xi == yi)
            · have hd1 : (xi != yi) = true := by simp [bne, hq1]
              have HPF := hide ((unhide HNF) (by rw [unhide hpr, hq1]; rfl))
              clear hpr hq1
              go_upto_region 14 with fail
              go_quiet (fail)
              go_wp2_with fail
              go_ret2
              exact ⟨judge_not hi (unhide HPF), below_then (unhide HB0) (below_drewN (unhide HBy) _)⟩
            have hd1 : (xi != yi) = false := by simp [bne, hq1]
            cases hq2 : (xv == yv)
            · have hd2 : (xv != yv) = true := by simp [bne, hq2]
              have HPF := hide ((unhide HNF) (by rw [unhide hpr, hq2, Bool.and_false]))
              clear hpr hq1 hq2
              go_upto_region 14 with fail
              go_quiet (fail)
              go_wp2_with fail
              go_ret2
              exact ⟨judge_not hi (unhide HPF), below_then (unhide HB0) (below_drewN (unhide HBy) _)⟩
            have hd2 : (xv != yv) = false := by simp [bne, hq2]
            have HPT := hide (show pairB (oneL n k) (twoL n i) i = true by rw [unhide hpr, hq1, hq2]; rfl)
            clear hpr hq1 hq2
            go_upto_region 14 with fail
            go_quiet (fail)
            go_wp2_with fail
            go_roundw
            case rel => exact ⟨k + 1, by omega, by simp, hide (fun m hm hmi => by
              by_cases e : m = k
              · subst e; exact unhide HPT
              · exact (unhide HP) m (by omega) hmi), hide (below_drewN (unhide HBy) _)⟩
            case measure => (simp [intOf]; try omega)
          · have hk3 : k = 3 := by omega
            subst hk3
            have HNI := hide (nodeL_yes hi (unhide HINC) (unhide HP))
            go_wp2_with fail
            go_roundw
            case rel => exact ⟨i + 1, _, by omega, by simp, rfl, HG2, hide (fun j hj => by
              by_cases e : j = i
              · subst e; exact unhide HNI
              · exact (unhide HN) j (by omega)), HBy⟩
            case measure => (simp [intOf]; try omega)
    · have hie : i = 3 := by omega
      subst hie
      have hge : g = leastL n 3 := unhide HG
      subst hge
      have hj : judgeL n = true := by
        simp [judgeL, unhide HOK, unhide HL3, unhide HL4, (unhide HN) 0, (unhide HN) 1, (unhide HN) 2]
      have HJ := hide hj
      clear hj
      go_wp2_with fail
      go_ret2
      exact ⟨by rw [judgeG, if_pos (unhide HJ), unhide HJ]; rfl, below_then (unhide HB0) (unhide HB)⟩
end Go.Proofs.Ytimkamgghkjhhaa
