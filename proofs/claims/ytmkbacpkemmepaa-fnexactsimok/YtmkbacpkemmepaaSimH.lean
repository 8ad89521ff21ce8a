/- Contracts of the exact laws' functions over machines: eqSim, markSim, heldSim. -/
import Derived.Test.YtmkbacpkemmepaaFlatOut
namespace Go.Proofs.Ytmkbacpkemmepaa
open Go.RowKit
set_option linter.unusedVariables false

/-- A machine's three lists in memory. -/
structure SimAt (w : World) (vs vq vo : Value) (ss qs os : List (List Int)) : Prop where
  s : RowsAt 3 w vs ss
  q : RowsAt 7 w vq qs
  o : RowsAt 5 w vo os

theorem SimAt.on {w w' : World} {vs vq vo : Value} {ss qs os : List (List Int)} (hb : Below w.heap.size w w') (h : SimAt w vs vq vo ss qs os) : SimAt w' vs vq vo ss qs os :=
  ⟨h.s.on hb, h.q.on hb, h.o.on hb⟩

/-- .. each in a block of its own, from block N on. -/
structure SimFr (N : Nat) (w : World) (vs vq vo : Value) (ss qs os : List (List Int)) : Prop where
  s : RowsFr N 77 3 w vs ss
  q : RowsFr N 24 7 w vq qs
  o : RowsFr N 102 5 w vo os
  sq : vs.ownBlock = none ∨ vs.ownBlock ≠ vq.ownBlock
  so : vs.ownBlock = none ∨ vs.ownBlock ≠ vo.ownBlock
  qo : vq.ownBlock = none ∨ vq.ownBlock ≠ vo.ownBlock

theorem SimFr.at {N : Nat} {w : World} {vs vq vo : Value} {ss qs os : List (List Int)} (h : SimFr N w vs vq vo ss qs os) : SimAt w vs vq vo ss qs os := ⟨h.s.at, h.q.at, h.o.at⟩

theorem SimFr.on {N : Nat} {w w' : World} {vs vq vo : Value} {ss qs os : List (List Int)} (hb : Below w.heap.size w w') (h : SimFr N w vs vq vo ss qs os) : SimFr N w' vs vq vo ss qs os :=
  ⟨h.s.on hb, h.q.on hb, h.o.on hb, h.sq, h.so, h.qo⟩

theorem rows_slice {n : Nat} {w : World} {v : Value} {rs : List (List Int)} (h : RowsAt n w v rs) : ∃ a c, v = .slice a rs.length c := by
  obtain ⟨a, c, h, _⟩ := h; exact ⟨a, c, h⟩

theorem RowsFr.apart {N t n : Nat} {w w' : World} {v v2 : Value} {rs : List (List Int)} (h : RowsFr N t n w v2 rs) (ho : OnlyOf v w w') (hne : v.ownBlock = none ∨ v.ownBlock ≠ v2.ownBlock) : RowsFr N t n w' v2 rs :=
  h.block (fun g hg _ => ho.other g (fun e => by
    rcases hne with h | h
    · rw [h] at e; cases e
    · exact h (e.trans hg.symm)))

theorem ne_turn {a b : Option Nat} (h : a = none ∨ a ≠ b) : b = none ∨ b ≠ a := by
  rcases h with rfl | h
  · cases b
    · exact Or.inl rfl
    · exact Or.inr (by simp)
  · exact Or.inr (fun e => h e.symm)

theorem RowsFr.only_below {N t n : Nat} {w0 w w' : World} {v : Value} {rs : List (List Int)} (h : RowsFr N t n w v rs) (ho : OnlyOf v w w') (hb : Below N w0 w) : Below N w0 w' :=
  hb.trans (ho.below N (fun g hg => (h.blk g hg).1))

set_option maxHeartbeats 1000000 in
theorem eqSim_any (vs vq vo us uq uo : Value) (ss qs os : List (List Int)) (w : World) (h1 : SimAt w vs vq vo ss qs os) (h2 : SimAt w us uq uo ss qs os) :
    Calls Try.prog 24 #[.agg #[vs, vq, vo], .agg #[us, uq, uo]] w fun e w' => e = .returned (.bool true) ∧ Below w.heap.size w w' := by
  obtain ⟨a1, c1, rfl⟩ := rows_slice h1.s
  obtain ⟨a2, c2, rfl⟩ := rows_slice h1.q
  obtain ⟨a3, c3, rfl⟩ := rows_slice h1.o
  obtain ⟨b1, d1, rfl⟩ := rows_slice h2.s
  obtain ⟨b2, d2, rfl⟩ := rows_slice h2.q
  obtain ⟨b3, d3, rfl⟩ := rows_slice h2.o
  have hb : Below w.heap.size w ((w.alloc (.cells #[.slice a1 ss.length c1, .slice a2 qs.length c2, .slice a3 os.length c3] 45)).alloc (.cells #[.slice b1 ss.length d1, .slice b2 qs.length d2, .slice b3 os.length d3] 45)) := ((Below.refl _ _).alloc (Nat.le_refl _) _).alloc (by simp) _
  have H1 := hide (h1.on hb)
  have H2 := hide (h2.on hb)
  clear h1 h2
  have x0 : ((w.alloc (.cells #[.slice a1 ss.length c1, .slice a2 qs.length c2, .slice a3 os.length c3] 45)).alloc (.cells #[.slice b1 ss.length d1, .slice b2 qs.length d2, .slice b3 os.length d3] 45)).cell? ⟨w.heap.size, 1, none⟩ = some (.slice a2 qs.length c2) := by simp [go_sem]
  have x1 : ((w.alloc (.cells #[.slice a1 ss.length c1, .slice a2 qs.length c2, .slice a3 os.length c3] 45)).alloc (.cells #[.slice b1 ss.length d1, .slice b2 qs.length d2, .slice b3 os.length d3] 45)).cell? ⟨w.heap.size + 1, 1, none⟩ = some (.slice b2 qs.length d2) := by simp [go_sem]
  have x2 : ((w.alloc (.cells #[.slice a1 ss.length c1, .slice a2 qs.length c2, .slice a3 os.length c3] 45)).alloc (.cells #[.slice b1 ss.length d1, .slice b2 qs.length d2, .slice b3 os.length d3] 45)).cell? ⟨w.heap.size, 2, none⟩ = some (.slice a3 os.length c3) := by simp [go_sem]
  have x3 : ((w.alloc (.cells #[.slice a1 ss.length c1, .slice a2 qs.length c2, .slice a3 os.length c3] 45)).alloc (.cells #[.slice b1 ss.length d1, .slice b2 qs.length d2, .slice b3 os.length d3] 45)).cell? ⟨w.heap.size + 1, 2, none⟩ = some (.slice b3 os.length d3) := by simp [go_sem]
  go_enter Try.func24, Try.ntmps24
  go_wp2_with fail
  generalize ((w.alloc (.cells #[.slice a1 ss.length c1, .slice a2 qs.length c2, .slice a3 os.length c3] 45)).alloc (.cells #[.slice b1 ss.length d1, .slice b2 qs.length d2, .slice b3 os.length d3] 45)) = W at *
  refine (eqStateS_any _ _ ss _ (unhide H1).s (unhide H2).s).mono ?_
  rintro e w1 ⟨rfl, hb1⟩
  have y0 := cell_on hb1 x0
  have y1 := cell_on hb1 x1
  have y2 := cell_on hb1 x2
  have y3 := cell_on hb1 x3
  clear x0 x1 x2 x3
  go_wp2_with fail
  clear y0 y1
  refine (eqEventS_any _ _ qs _ ((unhide H1).q.on hb1) ((unhide H2).q.on hb1)).mono ?_
  rintro e w2 ⟨rfl, hb2⟩
  have z2 := cell_on hb2 y2
  have z3 := cell_on hb2 y3
  clear y2 y3
  go_wp2_with fail
  clear z2 z3
  refine (eqOutS_any _ _ os _ ((unhide H1).o.on (below_then hb1 hb2)) ((unhide H2).o.on (below_then hb1 hb2))).mono ?_
  rintro e w3 ⟨rfl, hb3⟩
  go_wp2_with fail
  go_ret
  exact ⟨rfl, below_then hb (below_then (below_then hb1 hb2) hb3)⟩

set_option maxHeartbeats 1000000 in
theorem markSim_any (N : Nat) (vs vq vo : Value) (ss qs os : List (List Int)) (k0 : Int) (w : World) (h : SimFr N w vs vq vo ss qs os) (hN : N ≤ w.heap.size) (hs : ss.length ≤ 10000000) (hq : qs.length ≤ 10000000) (ho : os.length ≤ 10000000) (h0 : 0 ≤ k0) (h1 : k0 ≤ 1000000000000) :
    Calls Try.prog 25 #[.agg #[vs, vq, vo], .int .i64 k0] w fun e w' => e = .returned (.int .i64 (k0 + 3 * ss.length + 7 * qs.length + 5 * os.length)) ∧
      SimAt w' vs vq vo (markRows 3 k0 ss.length) (markRows 7 (k0 + 3 * ss.length) qs.length) (markRows 5 (k0 + 3 * ss.length + 7 * qs.length) os.length) ∧ Below N w w' ∧ ∀ b, b < w.heap.size → vs.ownBlock ≠ some b → vq.ownBlock ≠ some b → vo.ownBlock ≠ some b → w'.heap[b]? = w.heap[b]? := by
  obtain ⟨a1, c1, rfl⟩ := rows_slice h.s.at
  obtain ⟨a2, c2, rfl⟩ := rows_slice h.q.at
  obtain ⟨a3, c3, rfl⟩ := rows_slice h.o.at
  have hb : Below w.heap.size w (w.alloc (.cells #[.slice a1 ss.length c1, .slice a2 qs.length c2, .slice a3 os.length c3] 45)) := (Below.refl _ _).alloc (Nat.le_refl _) _
  have hnew : ∀ v n t rs, RowsFr N t n w v rs → ∀ g, v.ownBlock = some g → g ≠ w.heap.size := fun v n t rs hr g hg => by have := (hr.blk g hg).2; omega
  have n1 := hnew _ _ _ _ h.s
  have n2 := hnew _ _ _ _ h.q
  have H := hide (h.on hb)
  have HB := hide (hb.mono hN)
  have HBL := hide hb.block
  clear h hnew
  have x1 : (w.alloc (.cells #[.slice a1 ss.length c1, .slice a2 qs.length c2, .slice a3 os.length c3] 45)).cell? ⟨w.heap.size, 1, none⟩ = some (.slice a2 qs.length c2) := by simp [go_sem]
  have x2 : (w.alloc (.cells #[.slice a1 ss.length c1, .slice a2 qs.length c2, .slice a3 os.length c3] 45)).cell? ⟨w.heap.size, 2, none⟩ = some (.slice a3 os.length c3) := by simp [go_sem]
  have N1 := hide n1
  have N2 := hide n2
  clear n1 n2 hb
  go_enter Try.func25, Try.ntmps25
  go_wp2_with fail
  generalize (w.alloc (.cells #[.slice a1 ss.length c1, .slice a2 qs.length c2, .slice a3 os.length c3] 45)) = W at *
  refine (markStateS_any N _ _ ss.length k0 _ (unhide H).s.room (by omega) (by omega) (by omega)).mono ?_
  rintro e w1 ⟨rfl, hm1, ho1⟩
  have y1 := (World.cell?_of_block (a := ⟨w.heap.size, 1, none⟩) (ho1.other w.heap.size (fun e => (unhide N1) _ e rfl))).trans x1
  have y2 := (World.cell?_of_block (a := ⟨w.heap.size, 2, none⟩) (ho1.other w.heap.size (fun e => (unhide N1) _ e rfl))).trans x2
  have M1 := hide hm1
  have Q1 := hide ((unhide H).q.apart ho1 (unhide H).sq)
  have O1 := hide ((unhide H).o.apart ho1 (unhide H).so)
  have HB1 := hide ((unhide H).s.only_below ho1 (unhide HB))
  have P1 := hide ho1.other
  clear hm1 ho1 x1 x2 HB
  go_wp2_with fail
  clear y1
  refine (markEventS_any N _ _ qs.length (k0 + 3 * ss.length) _ (unhide Q1).room (by omega) (by omega) (by omega)).mono ?_
  rintro e w2 ⟨rfl, hm2, ho2⟩
  have z2 := (World.cell?_of_block (a := ⟨w.heap.size, 2, none⟩) (ho2.other w.heap.size (fun e => (unhide N2) _ e rfl))).trans y2
  have M2 := hide hm2
  have M12 := hide ((unhide M1).apart ho2 (ne_turn (unhide H).sq))
  have O2 := hide ((unhide O1).apart ho2 (unhide H).qo)
  have HB2 := hide ((unhide Q1).only_below ho2 (unhide HB1))
  have P2 := hide ho2.other
  clear hm2 ho2 y2 HB1 M1 O1
  go_wp2_with fail
  clear z2
  refine (markOutS_any N _ _ os.length (k0 + 3 * ss.length + 7 * qs.length) _ (unhide O2).room (by omega) (by omega) (by omega)).mono ?_
  rintro e w3 ⟨rfl, hm3, ho3⟩
  have M3 := hide hm3
  have M13 := hide ((unhide M12).apart ho3 (ne_turn (unhide H).so))
  have M23 := hide ((unhide M2).apart ho3 (ne_turn (unhide H).qo))
  have HB3 := hide ((unhide O2).only_below ho3 (unhide HB2))
  have P3 := hide ho3.other
  clear hm3 ho3
  go_wp2_with fail
  go_ret
  exact ⟨rfl, ⟨(unhide M13).at, (unhide M23).at, (unhide M3).at⟩, unhide HB3, fun b hb k1 k2 k3 => ((unhide P3) b k3).trans (((unhide P2) b k2).trans (((unhide P1) b k1).trans ((unhide HBL) b hb)))⟩

set_option maxHeartbeats 1000000 in
theorem heldSim_any (vs vq vo : Value) (ls lq lo : Nat) (k0 : Int) (w : World) (h : SimAt w vs vq vo (markRows 3 k0 ls) (markRows 7 (k0 + 3 * ls) lq) (markRows 5 (k0 + 3 * ls + 7 * lq) lo)) (hs : ls ≤ 10000000) (hq : lq ≤ 10000000) (ho : lo ≤ 10000000) (h0 : 0 ≤ k0) (h1 : k0 ≤ 1000000000000) :
    Calls Try.prog 26 #[.agg #[vs, vq, vo], .int .i64 k0] w fun e w' => e = .returned (.int .i64 (k0 + 3 * ls + 7 * lq + 5 * lo)) ∧ Below w.heap.size w w' := by
  obtain ⟨a1, c1, hv1⟩ := rows_slice h.s
  obtain ⟨a2, c2, hv2⟩ := rows_slice h.q
  obtain ⟨a3, c3, hv3⟩ := rows_slice h.o
  rw [markRows_length] at hv1 hv2 hv3
  subst hv1 hv2 hv3
  have hb : Below w.heap.size w (w.alloc (.cells #[.slice a1 ls c1, .slice a2 lq c2, .slice a3 lo c3] 45)) := (Below.refl _ _).alloc (Nat.le_refl _) _
  have H := hide (h.on hb)
  clear h
  go_enter Try.func26, Try.ntmps26
  go_wp2_with fail
  refine (heldStateS_any _ ls k0 _ (unhide H).s (by omega) h0 (by omega)).mono ?_
  rintro e z1 ⟨rfl, hz⟩
  obtain rfl := hz.symm
  go_wp2_with fail
  refine (heldEventS_any _ lq (k0 + 3 * ls) _ (unhide H).q (by omega) (by omega) (by omega)).mono ?_
  rintro e z2 ⟨rfl, hz⟩
  obtain rfl := hz.symm
  go_wp2_with fail
  refine (heldOutS_any _ lo (k0 + 3 * ls + 7 * lq) _ (unhide H).o (by omega) (by omega) (by omega)).mono ?_
  rintro e z3 ⟨rfl, hz⟩
  obtain rfl := hz.symm
  go_wp2_with fail
  go_ret
  exact ⟨rfl, hb⟩
end Go.Proofs.Ytmkbacpkemmepaa
