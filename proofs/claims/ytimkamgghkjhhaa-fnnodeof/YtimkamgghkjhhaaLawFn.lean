/- The walk of laws.FnNodeOf: it answers true. -/
import Derived.Test.YtimkamgghkjhhaaDrP
import Derived.Test.YtimkamgghkjhhaaLt3
import Derived.Test.YtimkamgghkjhhaaStart2
import Derived.Deep.Cut
import Derived.Deep.RegionHeld3
namespace Go.Proofs.Ytimkamgghkjhhaa
open Go.RowKit
set_option linter.unusedVariables false
set_option linter.unusedSimpArgs false

/-- How often a process was found up to a node. -/
def cntN (q : Int) (i : Nat) : Int := if 0 ≤ q ∧ q < (i : Int) then 1 else 0
def cntL (p : Int) (ls : List LaneV) (k : Nat) : Nat := ((ls.take k).filter fun l => l.proc == p).length

theorem startL (i : Nat) (hi : i < 3) : (nodeStart (i : Int)).lanes = nilLanes (xsOf (procsTo (i : Int) 4)) := by
  have h : inR 0 2 (i : Int) = true := by simp [inR]; omega
  rw [nodeStart, if_pos h]
  simp only [startN, zip_zeros]
theorem startP (i : Nat) (hi : i < 3) (k : Nat) (hk : k < (nodeStart (i : Int)).lanes.length) : nodeOf ((nodeStart (i : Int)).lanes[k]).proc = (i : Int) := by
  have hm : ((nodeStart (i : Int)).lanes[k]) ∈ nilLanes (xsOf (procsTo (i : Int) 4)) := by rw [← startL i hi]; exact List.getElem_mem hk
  obtain ⟨x, hx, he⟩ := List.mem_map.1 hm
  obtain ⟨z, hz, rfl⟩ := List.mem_map.1 hx
  rw [← he]
  have := (List.mem_filter.1 hz).2
  simpa using this
theorem startN_few (i : Nat) (hi : i < 3) : (nodeStart (i : Int)).lanes.length ≤ 4 := by
  rw [startL i hi, nilLanes_len, xsOf_len]
  exact procsTo_len _ 4
theorem cntL_all (p : Int) (i : Nat) (hi : i < 3) (hp0 : -2 ≤ p) (hp1 : p ≤ 5) : cntN (nodeOf p) i + (cntL p (nodeStart (i : Int)).lanes (nodeStart (i : Int)).lanes.length : Int) = cntN (nodeOf p) (i + 1) := by
  have hp : p = -2 ∨ p = -1 ∨ p = 0 ∨ p = 1 ∨ p = 2 ∨ p = 3 ∨ p = 4 ∨ p = 5 := by omega
  have hi' : i = 0 ∨ i = 1 ∨ i = 2 := by omega
  rcases hi' with rfl | rfl | rfl <;> rcases hp with rfl | rfl | rfl | rfl | rfl | rfl | rfl | rfl <;> exact of_decide_eq_true (by kernel_rfl)
theorem cntL_step (p : Int) (ls : List LaneV) (k : Nat) (hk : k < ls.length) : cntL p ls (k + 1) = cntL p ls k + if ls[k].proc = p then 1 else 0 := by
  unfold cntL
  rw [List.take_succ_eq_append_getElem hk, List.filter_append]
  by_cases h : ls[k].proc = p <;> simp [h]
theorem cntL_le (p : Int) (ls : List LaneV) (k : Nat) : cntL p ls k ≤ ls.length := by
  unfold cntL
  exact Nat.le_trans (List.length_filter_le _ _) (by rw [List.length_take]; omega)
theorem cntN_bd (q : Int) (i : Nat) : 0 ≤ cntN q i ∧ cntN q i ≤ 1 := by
  unfold cntN
  split <;> omega

theorem zeroN_newF (N : Nat) (w : World) : NodeNew N w zeroN (.slice none 0 0) (.slice none 0 0) (.slice none 0 0) (.slice none 0 0) (.slice none 0 0) := fun w2 _ => (zeroN_own w2.heap.size w2).at
theorem specNodeStart_any (id : Int) (w : World) :
    Calls Try.prog 12 #[.int .i64 id] w fun e w' => ∃ ul uk uo uv un, e = .returned (nodeAgg (nodeStart id) ul uk uo uv un) ∧ NodeNew w.heap.size w' (nodeStart id) ul uk uo uv un ∧ Below w.heap.size w w' := by
  by_cases h : inR 0 2 id = true
  · rw [nodeStart, if_pos h]
    exact specNodeStart_in id w h
  · rw [nodeStart, if_neg h]
    exact (specNodeStart_no id w (by simpa using h)).mono fun e w' ⟨h1, h2⟩ => ⟨_, _, _, _, _, h1, zeroN_newF _ _, h2⟩
theorem implNodeStart_any (id : Int) (w : World) :
    Calls Try.prog 10 #[.int .i64 id] w fun e w' => ToNode (nodeStart id) w e w' := by
  by_cases h : inR 0 2 id = true
  · rw [nodeStart, if_pos h]
    exact nodeStart_in id w h
  · rw [nodeStart, if_neg h]
    exact (nodeStart_no id w (by simpa using h)).mono fun e w' ⟨h1, h2⟩ => ⟨_, _, _, _, _, h1, (zeroN_own w.heap.size w').wide (Nat.le_refl _) h2.size, h2⟩

theorem sFn_of {W2 w' : World} {qb : Nat} {c0 c1 c2 c3 c4 c5 c6 c7 c8 c9 c10 c11 c12 : Value} (h : CellsAt W2 qb 0 [c0, c1, c2, c3, c4, c5, c6, c7, c8, c9, c10, c11, c12]) (hb : Below W2.heap.size W2 w') :
    w'.cell? ⟨qb, 0, none⟩ = some c0 ∧ w'.cell? ⟨qb, 1, none⟩ = some c1 ∧ w'.cell? ⟨qb, 2, none⟩ = some c2 ∧ w'.cell? ⟨qb, 3, none⟩ = some c3 ∧ w'.cell? ⟨qb, 4, none⟩ = some c4 ∧ w'.cell? ⟨qb, 5, none⟩ = some c5 ∧ w'.cell? ⟨qb, 6, none⟩ = some c6 ∧ w'.cell? ⟨qb, 7, none⟩ = some c7 ∧ w'.cell? ⟨qb, 8, none⟩ = some c8 ∧ w'.cell? ⟨qb, 9, none⟩ = some c9 ∧ w'.cell? ⟨qb, 10, none⟩ = some c10 ∧ w'.cell? ⟨qb, 11, none⟩ = some c11 ∧ w'.cell? ⟨qb, 12, none⟩ = some c12 ∧ Below W2.heap.size W2 w' :=
  ⟨(h.on hb) 0 (by simp), (h.on hb) 1 (by simp), (h.on hb) 2 (by simp), (h.on hb) 3 (by simp), (h.on hb) 4 (by simp), (h.on hb) 5 (by simp), (h.on hb) 6 (by simp), (h.on hb) 7 (by simp), (h.on hb) 8 (by simp), (h.on hb) 9 (by simp), (h.on hb) 10 (by simp), (h.on hb) 11 (by simp), (h.on hb) 12 (by simp), hb⟩

set_option maxRecDepth 100000 in
set_option maxHeartbeats 4000000 in
theorem lawNodeOfD_walk (v : Value) (zs : List Int) (w : World) (h : BytesAt w v zs) :
    Calls Try.prog 3 #[v] w fun e w' => e = .returned (.bool true) ∧ Below w.heap.size w w' := by
  obtain ⟨ad, cap, hv, hm⟩ : ∃ ad cap, v = .slice ad zs.length cap ∧ zs.length ≤ maxLen := by obtain ⟨a, c, h, h2, h3, _⟩ := h; exact ⟨a, c, h, Nat.le_trans h2 h3⟩
  subst hv
  unfold maxLen at hm
  have H1 := hide h
  clear h
  rcases Int.lt_or_le 1048576 (zs.length : Int) with hl | hl
  · go_enter Try.func3, Try.ntmps3
    go_wp2
    go_ret
    exact ⟨rfl, Below.refl _ _⟩
  go_enter Try.func3, Try.ntmps3
  go_wp2_with fail
  refine (DrawNodeOf_any _ zs _ (unhide H1)).mono ?_
  rintro e w1 ⟨p, rfl, hp0, hp1, hb1⟩
  have HB1 := hide hb1
  clear hb1 H1
  go_wp2_with fail
  refine (implNodeOf_any p _).mono ?_
  rintro e w2 ⟨rfl, hw2⟩
  obtain rfl := hw2.symm
  clear hw2
  go_wp2_with fail
  refine (specNodeOf_any p _).mono ?_
  rintro e w3 ⟨rfl, hw3⟩
  obtain rfl := hw3.symm
  clear hw3
  have hqm : ∀ z : Int, (z != z) = false := by intro z; simp
  have HALL : Hid (∀ (i : Nat), i < 3 → cntN (nodeOf p) i + (cntL p (nodeStart (i : Int)).lanes (nodeStart (i : Int)).lanes.length : Int) = cntN (nodeOf p) (i + 1)) := hide (fun i hi => cntL_all p i hi hp0 hp1)
  have HSAME : Hid (∀ (i : Nat) (hi : i < 3) (k : Nat) (hk : k < (nodeStart (i : Int)).lanes.length), ((nodeStart (i : Int)).lanes[k]).proc = p → (i : Int) = nodeOf p) := hide (fun i hi k hk e => by rw [← e]; exact (startP i hi k hk).symm)
  rcases (show (0 ≤ p ∧ p < 4) ∨ p < 0 ∨ (0 ≤ p ∧ 4 ≤ p) by omega) with ⟨ha, hb⟩ | ha | ⟨ha, hb⟩
  · have hq0 : 0 ≤ nodeOf p := by rw [nodeOf, if_pos (by omega)]; omega
    have hq1 : nodeOf p < 3 := by rw [nodeOf, if_pos (by omega)]; omega
    have HEND : Hid (cntN (nodeOf p) 3 = 1) := hide (by rw [cntN, if_pos (by omega)])
    have hq2 : -1 ≤ nodeOf p := by omega
    generalize nodeOf p = q at *
    have d1 : decide (0 ≤ q) = true := decide_eq_true hq0
    have d2 : decide (0 ≤ p) = true := decide_eq_true ha
    have d3 : decide (p < 4) = true := decide_eq_true hb
    go_wp2_with fail
    go_loopw [5, 6] (fun f i wr => ∃ (j : Nat) (c : Int), j ≤ 3 ∧ i = .int .i64 j ∧ f = .int .i64 c ∧ 0 ≤ c ∧ c ≤ 1 ∧ Hid (c = cntN q j) ∧ Hid (Below w1.heap.size w1 wr)) (fun _ i _ => 3 - (intOf i).toNat)
    case atStart => exact ⟨0, 0, by omega, rfl, rfl, by omega, by omega, hide (by rw [cntN, if_neg (by omega)]), hide (Below.refl _ _)⟩
    case round =>
      obtain ⟨j, c, hj, rfl, rfl, hc0, hc1, HC, HB⟩ := hrel
      by_cases hlt : j < 3
      · have hjI : (j : Int) < 3 := by omega
        have hj0 : (0 : Int) ≤ (j : Int) := by omega
        obtain ⟨N, hN⟩ : ∃ N, N = nodeStart (j : Int) := ⟨_, rfl⟩
        have HALLJ := hide ((unhide HALL) j hlt)
        have HSAMEJ := hide ((unhide HSAME) j hlt)
        have hfew := startN_few j hlt
        rw [← hN] at HALLJ HSAMEJ hfew
        have HN := hide hN
        clear hN
        go_wp2_with fail
        refine (implNodeStart_any (j : Int) _).mono ?_
        rw [← unhide HN]
        rintro e w2 ⟨vl, vk, vo, vv, vn, rfl, hn2, hb2⟩
        obtain ⟨⟨bl, blc, e1⟩, ⟨bk, bkc, e2⟩, ⟨bo, boc, e3⟩, ⟨bv, bvc, e4⟩, ⟨bn, bnc, e5⟩⟩ := hn2.at.sliced
        subst e1 e2 e3 e4 e5
        have hx : Below w2.heap.size w2 (w2.alloc (.cells #[.int .i64 N.id, .bool N.up, .int .i64 N.inc, .int .i64 N.g, .slice bl N.lanes.length blc, .slice bk N.kept.length bkc, .slice bo N.outs.length boc, .int .i64 N.led, .int .i64 N.ver, .slice bv N.views.length bvc, .slice bn N.known.length bnc, .int .i64 N.round, .int .i64 N.low] 31)) := (Below.refl _ _).alloc (Nat.le_refl _) _
        have HW := hide (below_then (unhide HB) (below_then hb2 hx))
        have HO := hide (hn2.at.on hx)
        have CB := hide (cellsAt_new w2 [.int .i64 N.id, .bool N.up, .int .i64 N.inc, .int .i64 N.g, .slice bl N.lanes.length blc, .slice bk N.kept.length bkc, .slice bo N.outs.length boc, .int .i64 N.led, .int .i64 N.ver, .slice bv N.views.length bvc, .slice bn N.known.length bnc, .int .i64 N.round, .int .i64 N.low] 31)
        clear hn2 hb2 hx HB
        go_upto_region 12 with fail
        change Hid (CellsAt (w2.alloc (.cells #[.int .i64 N.id, .bool N.up, .int .i64 N.inc, .int .i64 N.g, .slice bl N.lanes.length blc, .slice bk N.kept.length bkc, .slice bo N.outs.length boc, .int .i64 N.led, .int .i64 N.ver, .slice bv N.views.length bvc, .slice bn N.known.length bnc, .int .i64 N.round, .int .i64 N.low] 31)) _ _ _) at CB
        generalize (w2.alloc (.cells #[.int .i64 N.id, .bool N.up, .int .i64 N.inc, .int .i64 N.g, .slice bl N.lanes.length blc, .slice bk N.kept.length bkc, .slice bo N.outs.length boc, .int .i64 N.led, .int .i64 N.ver, .slice bv N.views.length bvc, .slice bn N.known.length bnc, .int .i64 N.round, .int .i64 N.low] 31)) = W2 at *
        generalize w2.heap.size = qb at *
        obtain ⟨x1, x2, hx1, _, hmL, hcl⟩ := (unhide HO).l
        simp only [Value.slice.injEq, true_and] at hx1
        obtain ⟨rfl, rfl⟩ := hx1
        have HLC := hide hcl
        unfold maxLen at hmL
        clear hcl
        have m4 : W2.cell? ⟨qb, 4, none⟩ = some (.slice bl N.lanes.length blc) := (unhide CB) 4 (by simp)
        go_wp2_with fail
        go_loop [5, 8] (fun f i => ∃ (k : Nat) (d : Int), k ≤ N.lanes.length ∧ i = .int .i64 k ∧ f = .int .i64 d ∧ 0 ≤ d ∧ d ≤ 5 ∧ Hid (d = c + (cntL p N.lanes k : Int))) (fun _ i => N.lanes.length - (intOf i).toNat)
        case atStart => exact ⟨0, c, by omega, rfl, rfl, hc0, by omega, hide (by simp [cntL])⟩
        case round =>
          obtain ⟨k, d, hk, rfl, rfl, hd0, hd1, HD⟩ := hrel
          by_cases hkl : k < N.lanes.length
          · have hkI : (k : Int) < (N.lanes.length : Int) := by omega
            have hk0 : (0 : Int) ≤ (k : Int) := by omega
            obtain ⟨b, off, had, p0⟩ : ∃ b off, bl = some ⟨b, off, none⟩ ∧ W2.cell? ⟨b, off + k * 5, none⟩ = some (.int .i64 N.lanes[k].proc) := by
              rcases unhide HLC with h | ⟨b, off, h1, h2⟩
              · rw [h] at hkl; exact absurd hkl (Nat.not_lt_zero _)
              · obtain ⟨vd, h3, _⟩ := h2 k hkl
                exact ⟨b, off, h1, h3 0 (by simp)⟩
            subst had
            have HST := hide (cntL_step p N.lanes k hkl)
            have HSK := hide ((unhide HSAMEJ) k hkl)
            have hcl := cntL_le p N.lanes (k + 1)
            generalize N.lanes[k].proc = x at *
            by_cases hxp : x = p
            · have hx1 : (x == p) = true := by simp [hxp]
              have hx2 : ((j : Int) != q) = false := by simp [(unhide HSK) hxp]
              have HD2 : Hid (d + 1 = c + (cntL p N.lanes (k + 1) : Int)) := hide (by rw [unhide HST, if_pos hxp, unhide HD]; omega)
              have hd2 : d + 1 ≤ 5 := by have := unhide HD2; omega
              clear hxp
              go_wp2_with fail
              go_round
              case rel => exact ⟨k + 1, d + 1, by omega, by go_num, by go_num, by omega, by omega, HD2⟩
              case measure => (simp [intOf]; try omega)
            · have hx1 : (x == p) = false := by simp [hxp]
              have HD2 : Hid (d = c + (cntL p N.lanes (k + 1) : Int)) := hide (by rw [unhide HST, if_neg hxp, unhide HD]; omega)
              clear hxp
              go_wp2_with fail
              go_round
              case rel => exact ⟨k + 1, d, by omega, by go_num, rfl, by omega, by omega, HD2⟩
              case measure => (simp [intOf]; try omega)
          · have hke : k = N.lanes.length := by omega
            have hkI : ¬ (k : Int) < (N.lanes.length : Int) := by omega
            have HD3 : Hid (d = cntN q (j + 1)) := hide (by rw [unhide HD, hke, unhide HC]; exact unhide HALLJ)
            have hd3 : d ≤ 1 := by rw [unhide HD3]; exact (cntN_bd q (j + 1)).2
            clear hke HLC HC HD
            go_upto_region 19 with fail
            clear m4
            go_region_held3 (fun w' => w'.cell? ⟨qb, 0, none⟩ = some (.int .i64 N.id) ∧ w'.cell? ⟨qb, 1, none⟩ = some (.bool N.up) ∧ w'.cell? ⟨qb, 2, none⟩ = some (.int .i64 N.inc) ∧ w'.cell? ⟨qb, 3, none⟩ = some (.int .i64 N.g) ∧ w'.cell? ⟨qb, 4, none⟩ = some (.slice bl N.lanes.length blc) ∧ w'.cell? ⟨qb, 5, none⟩ = some (.slice bk N.kept.length bkc) ∧ w'.cell? ⟨qb, 6, none⟩ = some (.slice bo N.outs.length boc) ∧ w'.cell? ⟨qb, 7, none⟩ = some (.int .i64 N.led) ∧ w'.cell? ⟨qb, 8, none⟩ = some (.int .i64 N.ver) ∧ w'.cell? ⟨qb, 9, none⟩ = some (.slice bv N.views.length bvc) ∧ w'.cell? ⟨qb, 10, none⟩ = some (.slice bn N.known.length bnc) ∧ w'.cell? ⟨qb, 11, none⟩ = some (.int .i64 N.round) ∧ w'.cell? ⟨qb, 12, none⟩ = some (.int .i64 N.low) ∧ Below W2.heap.size W2 w')
              ((go_split_ands; refine sFn_of (unhide CB) ?_; first | exact (Below.refl _ _).drew | exact below_then (by assumption) hba | exact below_then (by assumption) hbe))
              (first
                | (go_at_call 12; refine (specNodeStart_any (j : Int) _).mono ?_; rw [← unhide HN]; rintro e wa ⟨ul, uk, uo, uv, un, rfl, hfr, hba⟩; have hBa := below_then (a := W2) (by go_split_ands; assumption) hba)
                | (go_at_call 11; refine (L.ltNode_any N _ _ _ _ _ _ _ _ _ _ _ ((unhide HO).on hBa) hfr.at).mono ?_; rintro e we ⟨rfl, hbe⟩; have hBe := below_then hBa hbe))
            go_wp2_with fail
            go_roundw
            case rel => exact ⟨j + 1, d, by omega, by simp, rfl, hd0, hd3, HD3, hide (below_then (unhide HW) hBe)⟩
            case measure => (simp [intOf]; try omega)
      · have hj3 : j = 3 := by omega
        subst hj3
        have hce : c = cntN q 3 := unhide HC
        rw [unhide HEND] at hce
        subst hce
        clear HC hc0 hc1
        go_wp2_with fail
        go_ret
        exact ⟨rfl, below_then (unhide HB1) (unhide HB)⟩
  · have hq0 : nodeOf p = -1 := by rw [nodeOf, if_neg (by omega)]
    have HEND : Hid (cntN (nodeOf p) 3 = 0) := hide (by rw [cntN, if_neg (by omega)])
    have hq1 : nodeOf p < 3 := by omega
    have hq2 : -1 ≤ nodeOf p := by omega
    have hqn : ¬ 0 ≤ nodeOf p := by omega
    clear hq0
    generalize nodeOf p = q at *
    have hpn : ¬ 0 ≤ p := by omega
    have d1 : decide (0 ≤ q) = false := decide_eq_false hqn
    have d2 : decide (0 ≤ p) = false := decide_eq_false hpn
    go_wp2_with fail
    go_loopw [5, 6] (fun f i wr => ∃ (j : Nat) (c : Int), j ≤ 3 ∧ i = .int .i64 j ∧ f = .int .i64 c ∧ 0 ≤ c ∧ c ≤ 1 ∧ Hid (c = cntN q j) ∧ Hid (Below w1.heap.size w1 wr)) (fun _ i _ => 3 - (intOf i).toNat)
    case atStart => exact ⟨0, 0, by omega, rfl, rfl, by omega, by omega, hide (by rw [cntN, if_neg (by omega)]), hide (Below.refl _ _)⟩
    case round =>
      obtain ⟨j, c, hj, rfl, rfl, hc0, hc1, HC, HB⟩ := hrel
      by_cases hlt : j < 3
      · have hjI : (j : Int) < 3 := by omega
        have hj0 : (0 : Int) ≤ (j : Int) := by omega
        obtain ⟨N, hN⟩ : ∃ N, N = nodeStart (j : Int) := ⟨_, rfl⟩
        have HALLJ := hide ((unhide HALL) j hlt)
        have HSAMEJ := hide ((unhide HSAME) j hlt)
        have hfew := startN_few j hlt
        rw [← hN] at HALLJ HSAMEJ hfew
        have HN := hide hN
        clear hN
        go_wp2_with fail
        refine (implNodeStart_any (j : Int) _).mono ?_
        rw [← unhide HN]
        rintro e w2 ⟨vl, vk, vo, vv, vn, rfl, hn2, hb2⟩
        obtain ⟨⟨bl, blc, e1⟩, ⟨bk, bkc, e2⟩, ⟨bo, boc, e3⟩, ⟨bv, bvc, e4⟩, ⟨bn, bnc, e5⟩⟩ := hn2.at.sliced
        subst e1 e2 e3 e4 e5
        have hx : Below w2.heap.size w2 (w2.alloc (.cells #[.int .i64 N.id, .bool N.up, .int .i64 N.inc, .int .i64 N.g, .slice bl N.lanes.length blc, .slice bk N.kept.length bkc, .slice bo N.outs.length boc, .int .i64 N.led, .int .i64 N.ver, .slice bv N.views.length bvc, .slice bn N.known.length bnc, .int .i64 N.round, .int .i64 N.low] 31)) := (Below.refl _ _).alloc (Nat.le_refl _) _
        have HW := hide (below_then (unhide HB) (below_then hb2 hx))
        have HO := hide (hn2.at.on hx)
        have CB := hide (cellsAt_new w2 [.int .i64 N.id, .bool N.up, .int .i64 N.inc, .int .i64 N.g, .slice bl N.lanes.length blc, .slice bk N.kept.length bkc, .slice bo N.outs.length boc, .int .i64 N.led, .int .i64 N.ver, .slice bv N.views.length bvc, .slice bn N.known.length bnc, .int .i64 N.round, .int .i64 N.low] 31)
        clear hn2 hb2 hx HB
        go_upto_region 12 with fail
        change Hid (CellsAt (w2.alloc (.cells #[.int .i64 N.id, .bool N.up, .int .i64 N.inc, .int .i64 N.g, .slice bl N.lanes.length blc, .slice bk N.kept.length bkc, .slice bo N.outs.length boc, .int .i64 N.led, .int .i64 N.ver, .slice bv N.views.length bvc, .slice bn N.known.length bnc, .int .i64 N.round, .int .i64 N.low] 31)) _ _ _) at CB
        generalize (w2.alloc (.cells #[.int .i64 N.id, .bool N.up, .int .i64 N.inc, .int .i64 N.g, .slice bl N.lanes.length blc, .slice bk N.kept.length bkc, .slice bo N.outs.length boc, .int .i64 N.led, .int .i64 N.ver, .slice bv N.views.length bvc, .slice bn N.known.length bnc, .int .i64 N.round, .int .i64 N.low] 31)) = W2 at *
        generalize w2.heap.size = qb at *
        obtain ⟨x1, x2, hx1, _, hmL, hcl⟩ := (unhide HO).l
        simp only [Value.slice.injEq, true_and] at hx1
        obtain ⟨rfl, rfl⟩ := hx1
        have HLC := hide hcl
        unfold maxLen at hmL
        clear hcl
        have m4 : W2.cell? ⟨qb, 4, none⟩ = some (.slice bl N.lanes.length blc) := (unhide CB) 4 (by simp)
        go_wp2_with fail
        go_loop [5, 8] (fun f i => ∃ (k : Nat) (d : Int), k ≤ N.lanes.length ∧ i = .int .i64 k ∧ f = .int .i64 d ∧ 0 ≤ d ∧ d ≤ 5 ∧ Hid (d = c + (cntL p N.lanes k : Int))) (fun _ i => N.lanes.length - (intOf i).toNat)
        case atStart => exact ⟨0, c, by omega, rfl, rfl, hc0, by omega, hide (by simp [cntL])⟩
        case round =>
          obtain ⟨k, d, hk, rfl, rfl, hd0, hd1, HD⟩ := hrel
          by_cases hkl : k < N.lanes.length
          · have hkI : (k : Int) < (N.lanes.length : Int) := by omega
            have hk0 : (0 : Int) ≤ (k : Int) := by omega
            obtain ⟨b, off, had, p0⟩ : ∃ b off, bl = some ⟨b, off, none⟩ ∧ W2.cell? ⟨b, off + k * 5, none⟩ = some (.int .i64 N.lanes[k].proc) := by
              rcases unhide HLC with h | ⟨b, off, h1, h2⟩
              · rw [h] at hkl; exact absurd hkl (Nat.not_lt_zero _)
              · obtain ⟨vd, h3, _⟩ := h2 k hkl
                exact ⟨b, off, h1, h3 0 (by simp)⟩
            subst had
            have HST := hide (cntL_step p N.lanes k hkl)
            have HSK := hide ((unhide HSAMEJ) k hkl)
            have hcl := cntL_le p N.lanes (k + 1)
            generalize N.lanes[k].proc = x at *
            by_cases hxp : x = p
            · have hx1 : (x == p) = true := by simp [hxp]
              have hx2 : ((j : Int) != q) = false := by simp [(unhide HSK) hxp]
              have HD2 : Hid (d + 1 = c + (cntL p N.lanes (k + 1) : Int)) := hide (by rw [unhide HST, if_pos hxp, unhide HD]; omega)
              have hd2 : d + 1 ≤ 5 := by have := unhide HD2; omega
              clear hxp
              go_wp2_with fail
              go_round
              case rel => exact ⟨k + 1, d + 1, by omega, by go_num, by go_num, by omega, by omega, HD2⟩
              case measure => (simp [intOf]; try omega)
            · have hx1 : (x == p) = false := by simp [hxp]
              have HD2 : Hid (d = c + (cntL p N.lanes (k + 1) : Int)) := hide (by rw [unhide HST, if_neg hxp, unhide HD]; omega)
              clear hxp
              go_wp2_with fail
              go_round
              case rel => exact ⟨k + 1, d, by omega, by go_num, rfl, by omega, by omega, HD2⟩
              case measure => (simp [intOf]; try omega)
          · have hke : k = N.lanes.length := by omega
            have hkI : ¬ (k : Int) < (N.lanes.length : Int) := by omega
            have HD3 : Hid (d = cntN q (j + 1)) := hide (by rw [unhide HD, hke, unhide HC]; exact unhide HALLJ)
            have hd3 : d ≤ 1 := by rw [unhide HD3]; exact (cntN_bd q (j + 1)).2
            clear hke HLC HC HD
            go_upto_region 19 with fail
            clear m4
            go_region_held3 (fun w' => w'.cell? ⟨qb, 0, none⟩ = some (.int .i64 N.id) ∧ w'.cell? ⟨qb, 1, none⟩ = some (.bool N.up) ∧ w'.cell? ⟨qb, 2, none⟩ = some (.int .i64 N.inc) ∧ w'.cell? ⟨qb, 3, none⟩ = some (.int .i64 N.g) ∧ w'.cell? ⟨qb, 4, none⟩ = some (.slice bl N.lanes.length blc) ∧ w'.cell? ⟨qb, 5, none⟩ = some (.slice bk N.kept.length bkc) ∧ w'.cell? ⟨qb, 6, none⟩ = some (.slice bo N.outs.length boc) ∧ w'.cell? ⟨qb, 7, none⟩ = some (.int .i64 N.led) ∧ w'.cell? ⟨qb, 8, none⟩ = some (.int .i64 N.ver) ∧ w'.cell? ⟨qb, 9, none⟩ = some (.slice bv N.views.length bvc) ∧ w'.cell? ⟨qb, 10, none⟩ = some (.slice bn N.known.length bnc) ∧ w'.cell? ⟨qb, 11, none⟩ = some (.int .i64 N.round) ∧ w'.cell? ⟨qb, 12, none⟩ = some (.int .i64 N.low) ∧ Below W2.heap.size W2 w')
              ((go_split_ands; refine sFn_of (unhide CB) ?_; first | exact (Below.refl _ _).drew | exact below_then (by assumption) hba | exact below_then (by assumption) hbe))
              (first
                | (go_at_call 12; refine (specNodeStart_any (j : Int) _).mono ?_; rw [← unhide HN]; rintro e wa ⟨ul, uk, uo, uv, un, rfl, hfr, hba⟩; have hBa := below_then (a := W2) (by go_split_ands; assumption) hba)
                | (go_at_call 11; refine (L.ltNode_any N _ _ _ _ _ _ _ _ _ _ _ ((unhide HO).on hBa) hfr.at).mono ?_; rintro e we ⟨rfl, hbe⟩; have hBe := below_then hBa hbe))
            go_wp2_with fail
            go_roundw
            case rel => exact ⟨j + 1, d, by omega, by simp, rfl, hd0, hd3, HD3, hide (below_then (unhide HW) hBe)⟩
            case measure => (simp [intOf]; try omega)
      · have hj3 : j = 3 := by omega
        subst hj3
        have hce : c = cntN q 3 := unhide HC
        rw [unhide HEND] at hce
        subst hce
        clear HC hc0 hc1
        go_wp2_with fail
        go_ret
        exact ⟨rfl, below_then (unhide HB1) (unhide HB)⟩
  · have hq0 : nodeOf p = -1 := by rw [nodeOf, if_neg (by omega)]
    have HEND : Hid (cntN (nodeOf p) 3 = 0) := hide (by rw [cntN, if_neg (by omega)])
    have hq1 : nodeOf p < 3 := by omega
    have hq2 : -1 ≤ nodeOf p := by omega
    have hqn : ¬ 0 ≤ nodeOf p := by omega
    clear hq0
    generalize nodeOf p = q at *
    have hpn : ¬ p < 4 := by omega
    have d1 : decide (0 ≤ q) = false := decide_eq_false hqn
    have d2 : decide (0 ≤ p) = true := decide_eq_true ha
    have d3 : decide (p < 4) = false := decide_eq_false hpn
    go_wp2_with fail
    go_loopw [5, 6] (fun f i wr => ∃ (j : Nat) (c : Int), j ≤ 3 ∧ i = .int .i64 j ∧ f = .int .i64 c ∧ 0 ≤ c ∧ c ≤ 1 ∧ Hid (c = cntN q j) ∧ Hid (Below w1.heap.size w1 wr)) (fun _ i _ => 3 - (intOf i).toNat)
    case atStart => exact ⟨0, 0, by omega, rfl, rfl, by omega, by omega, hide (by rw [cntN, if_neg (by omega)]), hide (Below.refl _ _)⟩
    case round =>
      obtain ⟨j, c, hj, rfl, rfl, hc0, hc1, HC, HB⟩ := hrel
      by_cases hlt : j < 3
      · have hjI : (j : Int) < 3 := by omega
        have hj0 : (0 : Int) ≤ (j : Int) := by omega
        obtain ⟨N, hN⟩ : ∃ N, N = nodeStart (j : Int) := ⟨_, rfl⟩
        have HALLJ := hide ((unhide HALL) j hlt)
        have HSAMEJ := hide ((unhide HSAME) j hlt)
        have hfew := startN_few j hlt
        rw [← hN] at HALLJ HSAMEJ hfew
        have HN := hide hN
        clear hN
        go_wp2_with fail
        refine (implNodeStart_any (j : Int) _).mono ?_
        rw [← unhide HN]
        rintro e w2 ⟨vl, vk, vo, vv, vn, rfl, hn2, hb2⟩
        obtain ⟨⟨bl, blc, e1⟩, ⟨bk, bkc, e2⟩, ⟨bo, boc, e3⟩, ⟨bv, bvc, e4⟩, ⟨bn, bnc, e5⟩⟩ := hn2.at.sliced
        subst e1 e2 e3 e4 e5
        have hx : Below w2.heap.size w2 (w2.alloc (.cells #[.int .i64 N.id, .bool N.up, .int .i64 N.inc, .int .i64 N.g, .slice bl N.lanes.length blc, .slice bk N.kept.length bkc, .slice bo N.outs.length boc, .int .i64 N.led, .int .i64 N.ver, .slice bv N.views.length bvc, .slice bn N.known.length bnc, .int .i64 N.round, .int .i64 N.low] 31)) := (Below.refl _ _).alloc (Nat.le_refl _) _
        have HW := hide (below_then (unhide HB) (below_then hb2 hx))
        have HO := hide (hn2.at.on hx)
        have CB := hide (cellsAt_new w2 [.int .i64 N.id, .bool N.up, .int .i64 N.inc, .int .i64 N.g, .slice bl N.lanes.length blc, .slice bk N.kept.length bkc, .slice bo N.outs.length boc, .int .i64 N.led, .int .i64 N.ver, .slice bv N.views.length bvc, .slice bn N.known.length bnc, .int .i64 N.round, .int .i64 N.low] 31)
        clear hn2 hb2 hx HB
        go_upto_region 12 with fail
        change Hid (CellsAt (w2.alloc (.cells #[.int .i64 N.id, .bool N.up, .int .i64 N.inc, .int .i64 N.g, .slice bl N.lanes.length blc, .slice bk N.kept.length bkc, .slice bo N.outs.length boc, .int .i64 N.led, .int .i64 N.ver, .slice bv N.views.length bvc, .slice bn N.known.length bnc, .int .i64 N.round, .int .i64 N.low] 31)) _ _ _) at CB
        generalize (w2.alloc (.cells #[.int .i64 N.id, .bool N.up, .int .i64 N.inc, .int .i64 N.g, .slice bl N.lanes.length blc, .slice bk N.kept.length bkc, .slice bo N.outs.length boc, .int .i64 N.led, .int .i64 N.ver, .slice bv N.views.length bvc, .slice bn N.known.length bnc, .int .i64 N.round, .int .i64 N.low] 31)) = W2 at *
        generalize w2.heap.size = qb at *
        obtain ⟨x1, x2, hx1, _, hmL, hcl⟩ := (unhide HO).l
        simp only [Value.slice.injEq, true_and] at hx1
        obtain ⟨rfl, rfl⟩ := hx1
        have HLC := hide hcl
        unfold maxLen at hmL
        clear hcl
        have m4 : W2.cell? ⟨qb, 4, none⟩ = some (.slice bl N.lanes.length blc) := (unhide CB) 4 (by simp)
        go_wp2_with fail
        go_loop [5, 8] (fun f i => ∃ (k : Nat) (d : Int), k ≤ N.lanes.length ∧ i = .int .i64 k ∧ f = .int .i64 d ∧ 0 ≤ d ∧ d ≤ 5 ∧ Hid (d = c + (cntL p N.lanes k : Int))) (fun _ i => N.lanes.length - (intOf i).toNat)
        case atStart => exact ⟨0, c, by omega, rfl, rfl, hc0, by omega, hide (by simp [cntL])⟩
        case round =>
          obtain ⟨k, d, hk, rfl, rfl, hd0, hd1, HD⟩ := hrel
          by_cases hkl : k < N.lanes.length
          · have hkI : (k : Int) < (N.lanes.length : Int) := by omega
            have hk0 : (0 : Int) ≤ (k : Int) := by omega
            obtain ⟨b, off, had, p0⟩ : ∃ b off, bl = some ⟨b, off, none⟩ ∧ W2.cell? ⟨b, off + k * 5, none⟩ = some (.int .i64 N.lanes[k].proc) := by
              rcases unhide HLC with h | ⟨b, off, h1, h2⟩
              · rw [h] at hkl; exact absurd hkl (Nat.not_lt_zero _)
              · obtain ⟨vd, h3, _⟩ := h2 k hkl
                exact ⟨b, off, h1, h3 0 (by simp)⟩
            subst had
            have HST := hide (cntL_step p N.lanes k hkl)
            have HSK := hide ((unhide HSAMEJ) k hkl)
            have hcl := cntL_le p N.lanes (k + 1)
            generalize N.lanes[k].proc = x at *
            by_cases hxp : x = p
            · have hx1 : (x == p) = true := by simp [hxp]
              have hx2 : ((j : Int) != q) = false := by simp [(unhide HSK) hxp]
              have HD2 : Hid (d + 1 = c + (cntL p N.lanes (k + 1) : Int)) := hide (by rw [unhide HST, if_pos hxp, unhide HD]; omega)
              have hd2 : d + 1 ≤ 5 := by have := unhide HD2; omega
              clear hxp
              go_wp2_with fail
              go_round
              case rel => exact ⟨k + 1, d + 1, by omega, by go_num, by go_num, by omega, by omega, HD2⟩
              case measure => (simp [intOf]; try omega)
            · have hx1 : (x == p) = false := by simp [hxp]
              have HD2 : Hid (d = c + (cntL p N.lanes (k + 1) : Int)) := hide (by rw [unhide HST, if_neg hxp, unhide HD]; omega)
              clear hxp
              go_wp2_with fail
              go_round
              case rel => exact ⟨k + 1, d, by omega, by go_num, rfl, by omega, by omega, HD2⟩
              case measure => (simp [intOf]; try omega)
          · have hke : k = N.lanes.length := by omega
            have hkI : ¬ (k : Int) < (N.lanes.length : Int) := by omega
            have HD3 : Hid (d = cntN q (j + 1)) := hide (by rw [unhide HD, hke, unhide HC]; exact unhide HALLJ)
            have hd3 : d ≤ 1 := by rw [unhide HD3]; exact (cntN_bd q (j + 1)).2
            clear hke HLC HC HD
            go_upto_region 19 with fail
            clear m4
            go_region_held3 (fun w' => w'.cell? ⟨qb, 0, none⟩ = some (.int .i64 N.id) ∧ w'.cell? ⟨qb, 1, none⟩ = some (.bool N.up) ∧ w'.cell? ⟨qb, 2, none⟩ = some (.int .i64 N.inc) ∧ w'.cell? ⟨qb, 3, none⟩ = some (.int .i64 N.g) ∧ w'.cell? ⟨qb, 4, none⟩ = some (.slice bl N.lanes.length blc) ∧ w'.cell? ⟨qb, 5, none⟩ = some (.slice bk N.kept.length bkc) ∧ w'.cell? ⟨qb, 6, none⟩ = some (.slice bo N.outs.length boc) ∧ w'.cell? ⟨qb, 7, none⟩ = some (.int .i64 N.led) ∧ w'.cell? ⟨qb, 8, none⟩ = some (.int .i64 N.ver) ∧ w'.cell? ⟨qb, 9, none⟩ = some (.slice bv N.views.length bvc) ∧ w'.cell? ⟨qb, 10, none⟩ = some (.slice bn N.known.length bnc) ∧ w'.cell? ⟨qb, 11, none⟩ = some (.int .i64 N.round) ∧ w'.cell? ⟨qb, 12, none⟩ = some (.int .i64 N.low) ∧ Below W2.heap.size W2 w')
              ((go_split_ands; refine sFn_of (unhide CB) ?_; first | exact (Below.refl _ _).drew | exact below_then (by assumption) hba | exact below_then (by assumption) hbe))
              (first
                | (go_at_call 12; refine (specNodeStart_any (j : Int) _).mono ?_; rw [← unhide HN]; rintro e wa ⟨ul, uk, uo, uv, un, rfl, hfr, hba⟩; have hBa := below_then (a := W2) (by go_split_ands; assumption) hba)
                | (go_at_call 11; refine (L.ltNode_any N _ _ _ _ _ _ _ _ _ _ _ ((unhide HO).on hBa) hfr.at).mono ?_; rintro e we ⟨rfl, hbe⟩; have hBe := below_then hBa hbe))
            go_wp2_with fail
            go_roundw
            case rel => exact ⟨j + 1, d, by omega, by simp, rfl, hd0, hd3, HD3, hide (below_then (unhide HW) hBe)⟩
            case measure => (simp [intOf]; try omega)
      · have hj3 : j = 3 := by omega
        subst hj3
        have hce : c = cntN q 3 := unhide HC
        rw [unhide HEND] at hce
        subst hce
        clear HC hc0 hc1
        go_wp2_with fail
        go_ret
        exact ⟨rfl, below_then (unhide HB1) (unhide HB)⟩
end Go.Proofs.Ytimkamgghkjhhaa
