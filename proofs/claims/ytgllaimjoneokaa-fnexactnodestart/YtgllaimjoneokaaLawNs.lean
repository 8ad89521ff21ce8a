/- The walk of laws.FnExactNodeStart: it answers true. -/
import Derived.Test.YtgllaimjoneokaaStart2
import Derived.Test.YtgllaimjoneokaaMark2
namespace Go.Proofs.Ytgllaimjoneokaa
open Go.RowKit
set_option linter.unusedVariables false
set_option linter.unusedSimpArgs false

theorem zeroN_new (N : Nat) (w : World) : NodeNew N w zeroN (.slice none 0 0) (.slice none 0 0) (.slice none 0 0) (.slice none 0 0) (.slice none 0 0) := fun w2 _ => (zeroN_own w2.heap.size w2).at

theorem specNodeStart_any (id : Int) (w : World) :
    Calls Try.prog 12 #[.int .i64 id] w fun e w' => ∃ ul uk uo uv un, e = .returned (nodeAgg (nodeStart id) ul uk uo uv un) ∧ NodeNew w.heap.size w' (nodeStart id) ul uk uo uv un ∧ Below w.heap.size w w' := by
  by_cases h : inR 0 2 id = true
  · rw [nodeStart, if_pos h]
    exact specNodeStart_in id w h
  · rw [nodeStart, if_neg h]
    exact (specNodeStart_no id w (by simpa using h)).mono fun e w' ⟨h1, h2⟩ => ⟨_, _, _, _, _, h1, zeroN_new _ _, h2⟩

theorem implNodeStart_any (id : Int) (w : World) :
    Calls Try.prog 10 #[.int .i64 id] w fun e w' => ToNode (nodeStart id) w e w' := by
  by_cases h : inR 0 2 id = true
  · rw [nodeStart, if_pos h]
    exact nodeStart_in id w h
  · rw [nodeStart, if_neg h]
    exact (nodeStart_no id w (by simpa using h)).mono fun e w' ⟨h1, h2⟩ => ⟨_, _, _, _, _, h1, (zeroN_own w.heap.size w').wide (Nat.le_refl _) h2.size, h2⟩

structure Small (n : NodeV) : Prop where
  ll : ∀ l ∈ n.lanes, l.ps.length ≤ 1048576 ∧ ∀ p ∈ l.ps, p.sends.length ≤ 1048576 ∧ p.outs.length ≤ 1048576
  lv : ∀ l ∈ n.views, l.es.length ≤ 1048576
  lk : n.kept.length ≤ 1000000000
  lo : n.outs.length ≤ 1000000000
  ln : n.known.length ≤ 1000000000
  sz : 0 ≤ szN n ∧ szN n ≤ 1000000

theorem nilLanes_small (xs : List (Int × StV)) : ∀ l ∈ nilLanes xs, l.ps.length ≤ 1048576 ∧ ∀ p ∈ l.ps, p.sends.length ≤ 1048576 ∧ p.outs.length ≤ 1048576 := fun l hl => by
  obtain ⟨x, _, rfl⟩ := List.mem_map.1 hl
  exact ⟨by simp, fun p hp => by cases hp⟩

theorem nodeStart_small (id : Int) : Small (nodeStart id) := by
  by_cases h : inR 0 2 id = true
  · rw [nodeStart, if_pos h]
    have hid : id = 0 ∨ id = 1 ∨ id = 2 := by
      simp only [inR, Bool.and_eq_true, decide_eq_true_eq] at h
      omega
    have hl := procsTo_len id 4
    refine ⟨nilLanes_small _, fun l hl2 => ?_, ?_, ?_, ?_, ?_⟩
    · have : l = ⟨0, 0, []⟩ := List.eq_of_mem_replicate hl2
      rw [this]; simp
    · simp [startN]; omega
    · simp [startN]
    · simp [startN]
    · rcases hid with rfl | rfl | rfl <;> exact of_decide_eq_true (by kernel_rfl)
  · rw [nodeStart, if_neg h]
    exact ⟨fun l hl => (by cases hl), fun l hl => (by cases hl), by simp [zeroN], by simp [zeroN], by simp [zeroN], of_decide_eq_true (by kernel_rfl)⟩

set_option maxRecDepth 100000 in
set_option maxHeartbeats 4000000 in
theorem lawNodeStart_walk (id : Int) (w : World) :
    Calls Try.prog 5 #[.int .i64 id] w fun e w' => e = .returned (.bool true) ∧ Below w.heap.size w w' := by
  have hqm : ∀ z : Int, (z != z) = false := by intro z; simp
  obtain ⟨N, hN⟩ : ∃ N, N = nodeStart id := ⟨_, rfl⟩
  have HSM := hide (nodeStart_small id)
  rw [← hN] at HSM
  have HN := hide hN
  clear hN
  go_enter Try.func5, Try.ntmps5
  go_wp2_with fail
  refine (specNodeStart_any id _).mono ?_
  rw [← unhide HN]
  rintro e w1 ⟨ul, uk, uo, uv, un, rfl, hn1, hb1⟩
  obtain ⟨⟨al, alc, e1⟩, ⟨ak, akc, e2⟩, ⟨ao, aoc, e3⟩, ⟨av, avc, e4⟩, ⟨an, anc, e5⟩⟩ := hn1.at.sliced
  subst e1 e2 e3 e4 e5
  have hx : Below w1.heap.size w1 (w1.alloc (.cells #[.int .i64 N.id, .bool N.up, .int .i64 N.inc, .int .i64 N.g, .slice al N.lanes.length alc, .slice ak N.kept.length akc, .slice ao N.outs.length aoc, .int .i64 N.led, .int .i64 N.ver, .slice av N.views.length avc, .slice an N.known.length anc, .int .i64 N.round, .int .i64 N.low] 31)) := (Below.refl _ _).alloc (Nat.le_refl _) _
  have HA := hide (hn1.at.on hx)
  have CA := hide (cellsAt_new w1 [.int .i64 N.id, .bool N.up, .int .i64 N.inc, .int .i64 N.g, .slice al N.lanes.length alc, .slice ak N.kept.length akc, .slice ao N.outs.length aoc, .int .i64 N.led, .int .i64 N.ver, .slice av N.views.length avc, .slice an N.known.length anc, .int .i64 N.round, .int .i64 N.low] 31)
  have HB := hide (below_then hb1 hx)
  clear hn1 hb1 hx
  go_upto_region 2 with fail
  change Hid (CellsAt (w1.alloc (.cells #[.int .i64 N.id, .bool N.up, .int .i64 N.inc, .int .i64 N.g, .slice al N.lanes.length alc, .slice ak N.kept.length akc, .slice ao N.outs.length aoc, .int .i64 N.led, .int .i64 N.ver, .slice av N.views.length avc, .slice an N.known.length anc, .int .i64 N.round, .int .i64 N.low] 31)) _ _ _) at CA
  generalize (w1.alloc (.cells #[.int .i64 N.id, .bool N.up, .int .i64 N.inc, .int .i64 N.g, .slice al N.lanes.length alc, .slice ak N.kept.length akc, .slice ao N.outs.length aoc, .int .i64 N.led, .int .i64 N.ver, .slice av N.views.length avc, .slice an N.known.length anc, .int .i64 N.round, .int .i64 N.low] 31)) = W1 at *
  generalize w1.heap.size = qa at *
  go_wp2_with fail
  refine (implNodeStart_any id _).mono ?_
  rw [← unhide HN]
  rintro e w2 ⟨vl, vk, vo, vv, vn, rfl, hn2, hb2⟩
  obtain ⟨⟨bl, blc, e1⟩, ⟨bk, bkc, e2⟩, ⟨bo, boc, e3⟩, ⟨bv, bvc, e4⟩, ⟨bn, bnc, e5⟩⟩ := hn2.at.sliced
  subst e1 e2 e3 e4 e5
  have hx : Below w2.heap.size w2 (w2.alloc (.cells #[.int .i64 N.id, .bool N.up, .int .i64 N.inc, .int .i64 N.g, .slice bl N.lanes.length blc, .slice bk N.kept.length bkc, .slice bo N.outs.length boc, .int .i64 N.led, .int .i64 N.ver, .slice bv N.views.length bvc, .slice bn N.known.length bnc, .int .i64 N.round, .int .i64 N.low] 31)) := (Below.refl _ _).alloc (Nat.le_refl _) _
  have HW := hide (below_then hb2 hx)
  have HO := hide (hn2.on hx)
  have CB := hide (cellsAt_new w2 [.int .i64 N.id, .bool N.up, .int .i64 N.inc, .int .i64 N.g, .slice bl N.lanes.length blc, .slice bk N.kept.length bkc, .slice bo N.outs.length boc, .int .i64 N.led, .int .i64 N.ver, .slice bv N.views.length bvc, .slice bn N.known.length bnc, .int .i64 N.round, .int .i64 N.low] 31)
  have HQ2 : Hid (w2.heap.size < (w2.alloc (.cells #[.int .i64 N.id, .bool N.up, .int .i64 N.inc, .int .i64 N.g, .slice bl N.lanes.length blc, .slice bk N.kept.length bkc, .slice bo N.outs.length boc, .int .i64 N.led, .int .i64 N.ver, .slice bv N.views.length bvc, .slice bn N.known.length bnc, .int .i64 N.round, .int .i64 N.low] 31)).heap.size) := hide (by simp)
  clear hn2 hb2 hx
  go_upto_region 3 with fail
  change Hid (CellsAt (w2.alloc (.cells #[.int .i64 N.id, .bool N.up, .int .i64 N.inc, .int .i64 N.g, .slice bl N.lanes.length blc, .slice bk N.kept.length bkc, .slice bo N.outs.length boc, .int .i64 N.led, .int .i64 N.ver, .slice bv N.views.length bvc, .slice bn N.known.length bnc, .int .i64 N.round, .int .i64 N.low] 31)) _ _ _) at CB
  generalize (w2.alloc (.cells #[.int .i64 N.id, .bool N.up, .int .i64 N.inc, .int .i64 N.g, .slice bl N.lanes.length blc, .slice bk N.kept.length bkc, .slice bo N.outs.length boc, .int .i64 N.led, .int .i64 N.ver, .slice bv N.views.length bvc, .slice bn N.known.length bnc, .int .i64 N.round, .int .i64 N.low] 31)) = W2 at *
  generalize w2.heap.size = qb at *
  have n0 : W2.cell? ⟨qa, 0, none⟩ = some (.int .i64 N.id) := ((unhide CA).on (unhide HW)) 0 (by simp)
  have n1 : W2.cell? ⟨qa, 1, none⟩ = some (.bool N.up) := ((unhide CA).on (unhide HW)) 1 (by simp)
  have n2 : W2.cell? ⟨qa, 2, none⟩ = some (.int .i64 N.inc) := ((unhide CA).on (unhide HW)) 2 (by simp)
  have n3 : W2.cell? ⟨qa, 3, none⟩ = some (.int .i64 N.g) := ((unhide CA).on (unhide HW)) 3 (by simp)
  have n4 : W2.cell? ⟨qa, 4, none⟩ = some (.slice al N.lanes.length alc) := ((unhide CA).on (unhide HW)) 4 (by simp)
  have n5 : W2.cell? ⟨qa, 5, none⟩ = some (.slice ak N.kept.length akc) := ((unhide CA).on (unhide HW)) 5 (by simp)
  have n6 : W2.cell? ⟨qa, 6, none⟩ = some (.slice ao N.outs.length aoc) := ((unhide CA).on (unhide HW)) 6 (by simp)
  have n7 : W2.cell? ⟨qa, 7, none⟩ = some (.int .i64 N.led) := ((unhide CA).on (unhide HW)) 7 (by simp)
  have n8 : W2.cell? ⟨qa, 8, none⟩ = some (.int .i64 N.ver) := ((unhide CA).on (unhide HW)) 8 (by simp)
  have n9 : W2.cell? ⟨qa, 9, none⟩ = some (.slice av N.views.length avc) := ((unhide CA).on (unhide HW)) 9 (by simp)
  have n10 : W2.cell? ⟨qa, 10, none⟩ = some (.slice an N.known.length anc) := ((unhide CA).on (unhide HW)) 10 (by simp)
  have n11 : W2.cell? ⟨qa, 11, none⟩ = some (.int .i64 N.round) := ((unhide CA).on (unhide HW)) 11 (by simp)
  have n12 : W2.cell? ⟨qa, 12, none⟩ = some (.int .i64 N.low) := ((unhide CA).on (unhide HW)) 12 (by simp)
  have m0 : W2.cell? ⟨qb, 0, none⟩ = some (.int .i64 N.id) := (unhide CB) 0 (by simp)
  have m1 : W2.cell? ⟨qb, 1, none⟩ = some (.bool N.up) := (unhide CB) 1 (by simp)
  have m2 : W2.cell? ⟨qb, 2, none⟩ = some (.int .i64 N.inc) := (unhide CB) 2 (by simp)
  have m3 : W2.cell? ⟨qb, 3, none⟩ = some (.int .i64 N.g) := (unhide CB) 3 (by simp)
  have m4 : W2.cell? ⟨qb, 4, none⟩ = some (.slice bl N.lanes.length blc) := (unhide CB) 4 (by simp)
  have m5 : W2.cell? ⟨qb, 5, none⟩ = some (.slice bk N.kept.length bkc) := (unhide CB) 5 (by simp)
  have m6 : W2.cell? ⟨qb, 6, none⟩ = some (.slice bo N.outs.length boc) := (unhide CB) 6 (by simp)
  have m7 : W2.cell? ⟨qb, 7, none⟩ = some (.int .i64 N.led) := (unhide CB) 7 (by simp)
  have m8 : W2.cell? ⟨qb, 8, none⟩ = some (.int .i64 N.ver) := (unhide CB) 8 (by simp)
  have m9 : W2.cell? ⟨qb, 9, none⟩ = some (.slice bv N.views.length bvc) := (unhide CB) 9 (by simp)
  have m10 : W2.cell? ⟨qb, 10, none⟩ = some (.slice bn N.known.length bnc) := (unhide CB) 10 (by simp)
  have m11 : W2.cell? ⟨qb, 11, none⟩ = some (.int .i64 N.round) := (unhide CB) 11 (by simp)
  have m12 : W2.cell? ⟨qb, 12, none⟩ = some (.int .i64 N.low) := (unhide CB) 12 (by simp)
  go_wp2_with fail
  clear n0 n1 n2 n3 n4 n5 n6 n7 n8 n9 n10 n11 n12 m0 m1 m2 m3 m4 m5 m6 m7 m8 m9 m10 m11 m12
  refine (eqNode_any N _ _ _ _ _ _ _ _ _ _ W2 (unhide HO).at ((unhide HA).on (unhide HW))).mono ?_
  rintro e w3 ⟨rfl, hb3⟩
  replace CB := hide ((unhide CB).on hb3)
  replace HO := hide ((unhide HO).on hb3)
  replace HW := hide (below_then (unhide HW) hb3)
  replace HQ2 := hide (Nat.lt_of_lt_of_le (unhide HQ2) hb3.size)
  clear hb3
  have m0 : w3.cell? ⟨qb, 0, none⟩ = some (.int .i64 N.id) := (unhide CB) 0 (by simp)
  have m1 : w3.cell? ⟨qb, 1, none⟩ = some (.bool N.up) := (unhide CB) 1 (by simp)
  have m2 : w3.cell? ⟨qb, 2, none⟩ = some (.int .i64 N.inc) := (unhide CB) 2 (by simp)
  have m3 : w3.cell? ⟨qb, 3, none⟩ = some (.int .i64 N.g) := (unhide CB) 3 (by simp)
  have m4 : w3.cell? ⟨qb, 4, none⟩ = some (.slice bl N.lanes.length blc) := (unhide CB) 4 (by simp)
  have m5 : w3.cell? ⟨qb, 5, none⟩ = some (.slice bk N.kept.length bkc) := (unhide CB) 5 (by simp)
  have m6 : w3.cell? ⟨qb, 6, none⟩ = some (.slice bo N.outs.length boc) := (unhide CB) 6 (by simp)
  have m7 : w3.cell? ⟨qb, 7, none⟩ = some (.int .i64 N.led) := (unhide CB) 7 (by simp)
  have m8 : w3.cell? ⟨qb, 8, none⟩ = some (.int .i64 N.ver) := (unhide CB) 8 (by simp)
  have m9 : w3.cell? ⟨qb, 9, none⟩ = some (.slice bv N.views.length bvc) := (unhide CB) 9 (by simp)
  have m10 : w3.cell? ⟨qb, 10, none⟩ = some (.slice bn N.known.length bnc) := (unhide CB) 10 (by simp)
  have m11 : w3.cell? ⟨qb, 11, none⟩ = some (.int .i64 N.round) := (unhide CB) 11 (by simp)
  have m12 : w3.cell? ⟨qb, 12, none⟩ = some (.int .i64 N.low) := (unhide CB) 12 (by simp)
  go_wp2_with fail
  clear m0 m1 m2 m3 m4 m5 m6 m7 m8 m9 m10 m11 m12
  refine (markNode_all W1.heap.size qb N _ _ _ _ _ 1 w3 (unhide HO) (Nat.le_of_lt (unhide HQ2)) (unhide HSM).ll (unhide HSM).lv (unhide HSM).lk (unhide HSM).lo (unhide HSM).ln (by omega) (by have := (unhide HSM).sz; omega)).mono ?_
  rintro e w4 ⟨rfl, hm4, hb4, ho4⟩
  have hq := ho4 qb (Nat.le_refl _) (unhide HQ2)
  replace CB := hide (fun (j : Nat) (hj : j < ([.int .i64 N.id, .bool N.up, .int .i64 N.inc, .int .i64 N.g, .slice bl N.lanes.length blc, .slice bk N.kept.length bkc, .slice bo N.outs.length boc, .int .i64 N.led, .int .i64 N.ver, .slice bv N.views.length bvc, .slice bn N.known.length bnc, .int .i64 N.round, .int .i64 N.low] : List Value).length) => (World.cell?_of_block (a := ⟨qb, 0 + j, none⟩) hq).trans ((unhide CB) j hj))
  replace HW := hide ((unhide HW).trans hb4)
  have HMK := hide hm4
  clear hm4 hb4 ho4 hq HO HQ2
  have hheld : ∀ W : World, NodeMarked W N 1 (.slice bl N.lanes.length blc) (.slice bk N.kept.length bkc) (.slice bo N.outs.length boc) (.slice bv N.views.length bvc) (.slice bn N.known.length bnc) → Calls Try.prog 18 #[nodeAgg N (.slice bl N.lanes.length blc) (.slice bk N.kept.length bkc) (.slice bo N.outs.length boc) (.slice bv N.views.length bvc) (.slice bn N.known.length bnc), .int .i64 1] W fun e w' => e = .returned (.int .i64 (1 + szN N)) ∧ Below W.heap.size W w' := fun W hW => heldNode_any N _ _ _ _ _ 1 W hW (unhide HSM).ll (unhide HSM).lv (unhide HSM).lk (unhide HSM).lo (unhide HSM).ln (by omega) (by have := (unhide HSM).sz; omega)
  have HHELD := hide hheld
  have hk1 : ¬ (1 + szN N < 0) := by have := (unhide HSM).sz; omega
  have hk2 : 0 ≤ 1 + szN N := by omega
  have hk3 : decide (1 + szN N < 0) = false := decide_eq_false hk1
  clear hheld
  generalize 1 + szN N = kk at *
  have m0 : w4.cell? ⟨qb, 0, none⟩ = some (.int .i64 N.id) := (unhide CB) 0 (by simp)
  have m1 : w4.cell? ⟨qb, 1, none⟩ = some (.bool N.up) := (unhide CB) 1 (by simp)
  have m2 : w4.cell? ⟨qb, 2, none⟩ = some (.int .i64 N.inc) := (unhide CB) 2 (by simp)
  have m3 : w4.cell? ⟨qb, 3, none⟩ = some (.int .i64 N.g) := (unhide CB) 3 (by simp)
  have m4 : w4.cell? ⟨qb, 4, none⟩ = some (.slice bl N.lanes.length blc) := (unhide CB) 4 (by simp)
  have m5 : w4.cell? ⟨qb, 5, none⟩ = some (.slice bk N.kept.length bkc) := (unhide CB) 5 (by simp)
  have m6 : w4.cell? ⟨qb, 6, none⟩ = some (.slice bo N.outs.length boc) := (unhide CB) 6 (by simp)
  have m7 : w4.cell? ⟨qb, 7, none⟩ = some (.int .i64 N.led) := (unhide CB) 7 (by simp)
  have m8 : w4.cell? ⟨qb, 8, none⟩ = some (.int .i64 N.ver) := (unhide CB) 8 (by simp)
  have m9 : w4.cell? ⟨qb, 9, none⟩ = some (.slice bv N.views.length bvc) := (unhide CB) 9 (by simp)
  have m10 : w4.cell? ⟨qb, 10, none⟩ = some (.slice bn N.known.length bnc) := (unhide CB) 10 (by simp)
  have m11 : w4.cell? ⟨qb, 11, none⟩ = some (.int .i64 N.round) := (unhide CB) 11 (by simp)
  have m12 : w4.cell? ⟨qb, 12, none⟩ = some (.int .i64 N.low) := (unhide CB) 12 (by simp)
  go_wp2_with fail
  clear m0 m1 m2 m3 m4 m5 m6 m7 m8 m9 m10 m11 m12
  refine ((unhide HHELD) w4 (unhide HMK)).mono ?_
  rintro e w5 ⟨rfl, hb5⟩
  replace CB := hide (CellsAt.on hb5 (unhide CB))
  replace HW := hide ((unhide HW).trans (hb5.mono (unhide HW).size))
  replace HMK := hide ((unhide HMK).on hb5)
  clear hb5
  go_wp2_with fail
  refine (implNodeStart_any id _).mono ?_
  rw [← unhide HN]
  rintro e w6 ⟨vl, vk, vo, vv, vn, rfl, hn6, hb6⟩
  obtain ⟨⟨cl, clc, e1⟩, ⟨ck, ckc, e2⟩, ⟨co, coc, e3⟩, ⟨cv, cvc, e4⟩, ⟨cn, cnc, e5⟩⟩ := hn6.at.sliced
  subst e1 e2 e3 e4 e5
  have hx : Below w6.heap.size w6 (w6.alloc (.cells #[.int .i64 N.id, .bool N.up, .int .i64 N.inc, .int .i64 N.g, .slice cl N.lanes.length clc, .slice ck N.kept.length ckc, .slice co N.outs.length coc, .int .i64 N.led, .int .i64 N.ver, .slice cv N.views.length cvc, .slice cn N.known.length cnc, .int .i64 N.round, .int .i64 N.low] 31)) := (Below.refl _ _).alloc (Nat.le_refl _) _
  have HC := hide (hn6.at.on hx)
  have CC := hide (cellsAt_new w6 [.int .i64 N.id, .bool N.up, .int .i64 N.inc, .int .i64 N.g, .slice cl N.lanes.length clc, .slice ck N.kept.length ckc, .slice co N.outs.length coc, .int .i64 N.led, .int .i64 N.ver, .slice cv N.views.length cvc, .slice cn N.known.length cnc, .int .i64 N.round, .int .i64 N.low] 31)
  replace CB := hide (CellsAt.on (below_then hb6 hx) (unhide CB))
  replace HMK := hide ((unhide HMK).on (below_then hb6 hx))
  replace HW := hide ((unhide HW).trans ((below_then hb6 hx).mono (unhide HW).size))
  clear hn6 hb6 hx
  go_upto_region 14 with fail
  change Hid (CellsAt (w6.alloc (.cells #[.int .i64 N.id, .bool N.up, .int .i64 N.inc, .int .i64 N.g, .slice cl N.lanes.length clc, .slice ck N.kept.length ckc, .slice co N.outs.length coc, .int .i64 N.led, .int .i64 N.ver, .slice cv N.views.length cvc, .slice cn N.known.length cnc, .int .i64 N.round, .int .i64 N.low] 31)) _ _ _) at CC
  generalize (w6.alloc (.cells #[.int .i64 N.id, .bool N.up, .int .i64 N.inc, .int .i64 N.g, .slice cl N.lanes.length clc, .slice ck N.kept.length ckc, .slice co N.outs.length coc, .int .i64 N.led, .int .i64 N.ver, .slice cv N.views.length cvc, .slice cn N.known.length cnc, .int .i64 N.round, .int .i64 N.low] 31)) = W6 at *
  generalize w6.heap.size = qc at *
  have n0 : W6.cell? ⟨qa, 0, none⟩ = some (.int .i64 N.id) := ((unhide CA).on (unhide HW)) 0 (by simp)
  have n1 : W6.cell? ⟨qa, 1, none⟩ = some (.bool N.up) := ((unhide CA).on (unhide HW)) 1 (by simp)
  have n2 : W6.cell? ⟨qa, 2, none⟩ = some (.int .i64 N.inc) := ((unhide CA).on (unhide HW)) 2 (by simp)
  have n3 : W6.cell? ⟨qa, 3, none⟩ = some (.int .i64 N.g) := ((unhide CA).on (unhide HW)) 3 (by simp)
  have n4 : W6.cell? ⟨qa, 4, none⟩ = some (.slice al N.lanes.length alc) := ((unhide CA).on (unhide HW)) 4 (by simp)
  have n5 : W6.cell? ⟨qa, 5, none⟩ = some (.slice ak N.kept.length akc) := ((unhide CA).on (unhide HW)) 5 (by simp)
  have n6 : W6.cell? ⟨qa, 6, none⟩ = some (.slice ao N.outs.length aoc) := ((unhide CA).on (unhide HW)) 6 (by simp)
  have n7 : W6.cell? ⟨qa, 7, none⟩ = some (.int .i64 N.led) := ((unhide CA).on (unhide HW)) 7 (by simp)
  have n8 : W6.cell? ⟨qa, 8, none⟩ = some (.int .i64 N.ver) := ((unhide CA).on (unhide HW)) 8 (by simp)
  have n9 : W6.cell? ⟨qa, 9, none⟩ = some (.slice av N.views.length avc) := ((unhide CA).on (unhide HW)) 9 (by simp)
  have n10 : W6.cell? ⟨qa, 10, none⟩ = some (.slice an N.known.length anc) := ((unhide CA).on (unhide HW)) 10 (by simp)
  have n11 : W6.cell? ⟨qa, 11, none⟩ = some (.int .i64 N.round) := ((unhide CA).on (unhide HW)) 11 (by simp)
  have n12 : W6.cell? ⟨qa, 12, none⟩ = some (.int .i64 N.low) := ((unhide CA).on (unhide HW)) 12 (by simp)
  have m0 : W6.cell? ⟨qc, 0, none⟩ = some (.int .i64 N.id) := (unhide CC) 0 (by simp)
  have m1 : W6.cell? ⟨qc, 1, none⟩ = some (.bool N.up) := (unhide CC) 1 (by simp)
  have m2 : W6.cell? ⟨qc, 2, none⟩ = some (.int .i64 N.inc) := (unhide CC) 2 (by simp)
  have m3 : W6.cell? ⟨qc, 3, none⟩ = some (.int .i64 N.g) := (unhide CC) 3 (by simp)
  have m4 : W6.cell? ⟨qc, 4, none⟩ = some (.slice cl N.lanes.length clc) := (unhide CC) 4 (by simp)
  have m5 : W6.cell? ⟨qc, 5, none⟩ = some (.slice ck N.kept.length ckc) := (unhide CC) 5 (by simp)
  have m6 : W6.cell? ⟨qc, 6, none⟩ = some (.slice co N.outs.length coc) := (unhide CC) 6 (by simp)
  have m7 : W6.cell? ⟨qc, 7, none⟩ = some (.int .i64 N.led) := (unhide CC) 7 (by simp)
  have m8 : W6.cell? ⟨qc, 8, none⟩ = some (.int .i64 N.ver) := (unhide CC) 8 (by simp)
  have m9 : W6.cell? ⟨qc, 9, none⟩ = some (.slice cv N.views.length cvc) := (unhide CC) 9 (by simp)
  have m10 : W6.cell? ⟨qc, 10, none⟩ = some (.slice cn N.known.length cnc) := (unhide CC) 10 (by simp)
  have m11 : W6.cell? ⟨qc, 11, none⟩ = some (.int .i64 N.round) := (unhide CC) 11 (by simp)
  have m12 : W6.cell? ⟨qc, 12, none⟩ = some (.int .i64 N.low) := (unhide CC) 12 (by simp)
  go_wp2_with fail
  clear n0 n1 n2 n3 n4 n5 n6 n7 n8 n9 n10 n11 n12 m0 m1 m2 m3 m4 m5 m6 m7 m8 m9 m10 m11 m12
  refine (eqNode_any N _ _ _ _ _ _ _ _ _ _ W6 (unhide HC) ((unhide HA).on (unhide HW))).mono ?_
  rintro e w7 ⟨rfl, hb7⟩
  replace CB := hide (CellsAt.on hb7 (unhide CB))
  replace HMK := hide ((unhide HMK).on hb7)
  replace HW := hide ((unhide HW).trans (hb7.mono (unhide HW).size))
  clear hb7
  have m0 : w7.cell? ⟨qb, 0, none⟩ = some (.int .i64 N.id) := (unhide CB) 0 (by simp)
  have m1 : w7.cell? ⟨qb, 1, none⟩ = some (.bool N.up) := (unhide CB) 1 (by simp)
  have m2 : w7.cell? ⟨qb, 2, none⟩ = some (.int .i64 N.inc) := (unhide CB) 2 (by simp)
  have m3 : w7.cell? ⟨qb, 3, none⟩ = some (.int .i64 N.g) := (unhide CB) 3 (by simp)
  have m4 : w7.cell? ⟨qb, 4, none⟩ = some (.slice bl N.lanes.length blc) := (unhide CB) 4 (by simp)
  have m5 : w7.cell? ⟨qb, 5, none⟩ = some (.slice bk N.kept.length bkc) := (unhide CB) 5 (by simp)
  have m6 : w7.cell? ⟨qb, 6, none⟩ = some (.slice bo N.outs.length boc) := (unhide CB) 6 (by simp)
  have m7 : w7.cell? ⟨qb, 7, none⟩ = some (.int .i64 N.led) := (unhide CB) 7 (by simp)
  have m8 : w7.cell? ⟨qb, 8, none⟩ = some (.int .i64 N.ver) := (unhide CB) 8 (by simp)
  have m9 : w7.cell? ⟨qb, 9, none⟩ = some (.slice bv N.views.length bvc) := (unhide CB) 9 (by simp)
  have m10 : w7.cell? ⟨qb, 10, none⟩ = some (.slice bn N.known.length bnc) := (unhide CB) 10 (by simp)
  have m11 : w7.cell? ⟨qb, 11, none⟩ = some (.int .i64 N.round) := (unhide CB) 11 (by simp)
  have m12 : w7.cell? ⟨qb, 12, none⟩ = some (.int .i64 N.low) := (unhide CB) 12 (by simp)
  go_wp2_with fail
  clear m0 m1 m2 m3 m4 m5 m6 m7 m8 m9 m10 m11 m12
  refine ((unhide HHELD) w7 (unhide HMK)).mono ?_
  rintro e w8 ⟨rfl, hb8⟩
  replace HW := hide ((unhide HW).trans (hb8.mono (unhide HW).size))
  clear hb8
  go_wp2_with fail
  go_ret
  exact ⟨rfl, below_then (unhide HB) (unhide HW)⟩
end Go.Proofs.Ytgllaimjoneokaa
