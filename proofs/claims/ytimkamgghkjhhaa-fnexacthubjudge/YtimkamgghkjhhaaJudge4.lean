/- (*hubWork).judgeNode: what a round lacks of a node. -/
import Derived.Test.YtimkamgghkjhhaaJudge3
import Derived.Test.YtimkamgghkjhhaaOthers
namespace Go.Proofs.Ytimkamgghkjhhaa
open Go.RowKit
set_option linter.unusedVariables false
set_option linter.unusedSimpArgs false

def Ans.w (A : Ans) (i : Nat) : WordV := if i = 0 then A.x0 else if i = 1 then A.x1 else A.x2
def Ans.sl (A : Ans) (i : Nat) : Sl := if i = 0 then A.s0 else if i = 1 then A.s1 else A.s2
def pairB (x y : WordV) (i : Nat) : Bool := (x.incs.getD i 0 == y.inc) && (x.vers.getD i 0 == y.ver)
def nodeB (A B : Ans) (i : Nat) : Bool := ((A.w i).inc == (B.w i).inc) && (othersTo (i : Int) 3).all fun z => pairB (A.w z.toNat) (B.w i) i
/-- The first answers' numbers as they lie in memory. -/
def OnesMem (w : World) (A : Ans) : Prop := ∀ k, k < 3 → WordS w (A.w k) (A.sl k) ∧ (A.w k).incs.length = 3 ∧ (A.w k).vers.length = 3
theorem OnesMem.on {w w' : World} {A : Ans} (hb : Below w.heap.size w w') (h : OnesMem w A) : OnesMem w' A := fun k hk => ⟨(h k hk).1.on hb, (h k hk).2⟩

theorem work_one (rd : Int) (A B C : Ans) (i c : Nat) (hi : i < 3) (hc : c < 11) : workF rd A B C (1 + i * 11 + c) = (wcl (A.w i) (A.sl i))[c] := by
  have h1 : i = 0 ∨ i = 1 ∨ i = 2 := by omega
  have h2 : c = 0 ∨ c = 1 ∨ c = 2 ∨ c = 3 ∨ c = 4 ∨ c = 5 ∨ c = 6 ∨ c = 7 ∨ c = 8 ∨ c = 9 ∨ c = 10 := by omega
  rcases h1 with rfl | rfl | rfl <;> rcases h2 with rfl | rfl | rfl | rfl | rfl | rfl | rfl | rfl | rfl | rfl | rfl <;> rfl
theorem work_two (rd : Int) (A B C : Ans) (i c : Nat) (hi : i < 3) (hc : c < 11) : workF rd A B C (35 + i * 11 + c) = (wcl (B.w i) (B.sl i))[c] := by
  have h1 : i = 0 ∨ i = 1 ∨ i = 2 := by omega
  have h2 : c = 0 ∨ c = 1 ∨ c = 2 ∨ c = 3 ∨ c = 4 ∨ c = 5 ∨ c = 6 ∨ c = 7 ∨ c = 8 ∨ c = 9 ∨ c = 10 := by omega
  rcases h1 with rfl | rfl | rfl <;> rcases h2 with rfl | rfl | rfl | rfl | rfl | rfl | rfl | rfl | rfl | rfl | rfl <;> rfl
theorem row_one {w : World} {q : Nat} {rd : Int} {A B C : Ans} (h : w.rowIs q 137 103 (workF rd A B C)) {i : Nat} (hi : i < 3) (c : Nat) (hc : c < 11) : w.cell? ⟨q, 1 + i * 11 + c, none⟩ = some (wcl (A.w i) (A.sl i))[c] := by
  rw [h.cell (i := 1 + i * 11 + c) (by omega), work_one rd A B C i c hi hc]
theorem row_two {w : World} {q : Nat} {rd : Int} {A B C : Ans} (h : w.rowIs q 137 103 (workF rd A B C)) {i : Nat} (hi : i < 3) (c : Nat) (hc : c < 11) : w.cell? ⟨q, 35 + i * 11 + c, none⟩ = some (wcl (B.w i) (B.sl i))[c] := by
  rw [h.cell (i := 35 + i * 11 + c) (by omega), work_two rd A B C i c hi hc]
theorem nums_cell {w : World} {a : Option Addr} {c n : Nat} {zs : List Int} (h : NumsAt w (.slice a n c) zs) {i : Nat} (hi : i < zs.length) : ∃ b off, a = some ⟨b, off, none⟩ ∧ w.cell? ⟨b, off + i, none⟩ = some (.int .i64 (zs.getD i 0)) := by
  obtain ⟨ad, cap, e, hlc, hm, hc⟩ := h
  simp only [Value.slice.injEq] at e
  obtain ⟨rfl, _, _⟩ := e
  rcases hc with h | ⟨b, off, h1, h2⟩
  · simp at h; rw [h] at hi; exact absurd hi (Nat.not_lt_zero _)
  · refine ⟨b, off, h1, ?_⟩
    have h3 := h2 i (by simpa using hi) 0 (by omega)
    simp at h3
    rw [h3]
    simp [hi]
theorem other_in {i : Nat} {z : Int} (h : z ∈ othersTo (i : Int) 3) : ∃ m : Nat, m < 3 ∧ z = (m : Int) := by
  obtain ⟨h1, _⟩ := List.mem_filter.1 h
  obtain ⟨m, h2, rfl⟩ := List.mem_map.1 h1
  exact ⟨m, List.mem_range.1 h2, rfl⟩

set_option maxRecDepth 100000 in
set_option maxHeartbeats 4000000 in
theorem judgeNode_any (rd : Int) (A B C : Ans) (q i : Nat) (hi : i < 3) (w : World) (h : w.rowIs q 137 103 (workF rd A B C)) (hm : OnesMem w A) :
    Calls Try.prog 97 #[.pointer (some ⟨q, 0, none⟩), .int .i64 (i : Int)] w fun e w' => (nodeB A B i = true ∧ e = .returned Value.nilIface ∨ nodeB A B i = false ∧ ∃ p, e = .returned (.iface 161 p)) ∧ Below w.heap.size w w' := by
  have hI : (i : Int) < 3 := by omega
  have hI0 : (0 : Int) ≤ (i : Int) := by omega
  have hqw : q < w.heap.size := h.lt
  have hRW := fun c hc => row_two h hi c hc
  have HR := hide h
  have HM := hide hm
  obtain ⟨y, hy⟩ : ∃ y, y = B.w i := ⟨_, rfl⟩
  obtain ⟨sy, hsy⟩ : ∃ s, s = B.sl i := ⟨_, rfl⟩
  have HY := hide hy
  rw [← hy, ← hsy] at hRW
  clear hy hsy h hm
  have k0 : w.cell? ⟨q, 35 + i * 11, none⟩ = some (.int .i64 y.kind) := hRW 0 (by omega)
  have k1 : w.cell? ⟨q, 35 + i * 11 + 1, none⟩ = some (.int .i64 y.frm) := hRW 1 (by omega)
  have k2 : w.cell? ⟨q, 35 + i * 11 + 2, none⟩ = some (.int .i64 y.dst) := hRW 2 (by omega)
  have k3 : w.cell? ⟨q, 35 + i * 11 + 3, none⟩ = some (.int .i64 y.inc) := hRW 3 (by omega)
  have k4 : w.cell? ⟨q, 35 + i * 11 + 4, none⟩ = some (.int .i64 y.ver) := hRW 4 (by omega)
  have k5 : w.cell? ⟨q, 35 + i * 11 + 5, none⟩ = some (.int .i64 y.rd) := hRW 5 (by omega)
  have k6 : w.cell? ⟨q, 35 + i * 11 + 6, none⟩ = some (.int .i64 y.g) := hRW 6 (by omega)
  have k7 : w.cell? ⟨q, 35 + i * 11 + 7, none⟩ = some (.slice sy.a0 y.incs.length sy.c0) := hRW 7 (by omega)
  have k8 : w.cell? ⟨q, 35 + i * 11 + 8, none⟩ = some (.slice sy.a1 y.vers.length sy.c1) := hRW 8 (by omega)
  have k9 : w.cell? ⟨q, 35 + i * 11 + 9, none⟩ = some (.slice sy.a2 y.evs.length sy.c2) := hRW 9 (by omega)
  have k10 : w.cell? ⟨q, 35 + i * 11 + 10, none⟩ = some (.slice sy.a3 y.outs.length sy.c3) := hRW 10 (by omega)
  clear hRW
  have hb0 : Below w.heap.size w (w.alloc (.cells #[.int .i64 y.kind, .int .i64 y.frm, .int .i64 y.dst, .int .i64 y.inc, .int .i64 y.ver, .int .i64 y.rd, .int .i64 y.g, .slice sy.a0 y.incs.length sy.c0, .slice sy.a1 y.vers.length sy.c1, .slice sy.a2 y.evs.length sy.c2, .slice sy.a3 y.outs.length sy.c3] 41)) := (Below.refl _ _).alloc (Nat.le_refl _) _
  have HC := hide (cellsAt_new w (wcl y sy) 41)
  have HR1 := hide ((unhide HR).of_block (hb0.block q hqw))
  have HM1 := hide ((unhide HM).on hb0)
  have HB0 := hide hb0
  clear hb0 HR HM
  obtain ⟨R, hR⟩ : ∃ R, R = nodeB A B i := ⟨_, rfl⟩
  rw [← hR]
  have HRES : Hid (R = (((A.w i).inc == y.inc) && (othersTo (i : Int) 3).all fun z => pairB (A.w z.toNat) y i)) := hide (by rw [hR, nodeB, unhide HY])
  clear hR HY
  go_enter Try.func97, Try.ntmps97
  go_upto_region 2 with fail
  clear k0 k1 k2 k3 k4 k5 k6 k7 k8 k9 k10
  change Hid (CellsAt (w.alloc (.cells #[.int .i64 y.kind, .int .i64 y.frm, .int .i64 y.dst, .int .i64 y.inc, .int .i64 y.ver, .int .i64 y.rd, .int .i64 y.g, .slice sy.a0 y.incs.length sy.c0, .slice sy.a1 y.vers.length sy.c1, .slice sy.a2 y.evs.length sy.c2, .slice sy.a3 y.outs.length sy.c3] 41)) _ _ _) at HC
  generalize (w.alloc (.cells #[.int .i64 y.kind, .int .i64 y.frm, .int .i64 y.dst, .int .i64 y.inc, .int .i64 y.ver, .int .i64 y.rd, .int .i64 y.g, .slice sy.a0 y.incs.length sy.c0, .slice sy.a1 y.vers.length sy.c1, .slice sy.a2 y.evs.length sy.c2, .slice sy.a3 y.outs.length sy.c3] 41)) = X at *
  have p3 : X.cell? ⟨w.heap.size, 3, none⟩ = some (.int .i64 y.inc) := (unhide HC) 3 (by simp)
  have k3 : X.cell? ⟨q, 1 + i * 11 + 3, none⟩ = some (.int .i64 (A.w i).inc) := row_one (unhide HR1) hi 3 (by omega)
  go_quiet (fail)
  cases hinc : ((A.w i).inc == y.inc)
  · have hd : ((A.w i).inc != y.inc) = true := by simp [bne, hinc]
    go_wp2_with fail
    go_ret
    exact ⟨Or.inr ⟨by rw [unhide HRES, hinc]; rfl, _, rfl⟩, (below_drewN (unhide HB0) _)⟩
  have hd : ((A.w i).inc != y.inc) = false := by simp [bne, hinc]
  have HRES2 : Hid (R = (othersTo (i : Int) 3).all fun z => pairB (A.w z.toNat) y i) := hide (by rw [unhide HRES, hinc, Bool.true_and])
  clear HRES hinc p3 k3
  go_wp2_with fail
  refine (othersOf_any (i : Int) _).mono ?_
  rintro e w1 ⟨vo, rfl, hro, hb1⟩
  obtain ⟨ao, co, evo⟩ := rowsLen hro.at
  subst evo
  have hX1 : Below X.heap.size X w1 := (below_drewN (Below.refl _ _) _).trans hb1
  have HO := hide hro.at
  have HR2 := hide ((unhide HR1).of_block (hX1.block q (unhide HR1).lt))
  have HM2 := hide ((unhide HM1).on hX1)
  have HC2 := hide ((unhide HC).on hX1)
  have HB1 := hide (below_then (unhide HB0) hX1)
  clear hro hb1 hX1 HR1 HM1 HC HB0
  obtain ⟨os, hos⟩ : ∃ os, os = othersTo (i : Int) 3 := ⟨_, rfl⟩
  have HOI : Hid (∀ z ∈ os, ∃ m : Nat, m < 3 ∧ z = (m : Int)) := hide (by rw [hos]; exact fun z hz => other_in hz)
  have hol : os.length ≤ 3 := by rw [hos]; exact othersTo_len _ 3
  rw [← hos] at HO HRES2 ⊢
  clear hos
  go_wp2_with fail
  go_loopw [33] (fun l wr => ∃ k : Nat, k ≤ os.length ∧ l = .int .i64 k ∧ Hid ((os.take k).all (fun z => pairB (A.w z.toNat) y i) = true) ∧ Hid (Below w1.heap.size w1 wr)) (fun l _ => os.length - (intOf l).toNat)
  case atStart => exact ⟨0, Nat.zero_le _, rfl, hide (by simp), hide (Below.refl _ _)⟩
  case round =>
    obtain ⟨k, hk, rfl, HA, HB⟩ := hrel
    by_cases hlt : k < os.length
    · have hkI : (k : Int) < (os.length : Int) := by omega
      have hk0 : (0 : Int) ≤ (k : Int) := by omega
      have HYES := hide (fun h => all_take_more (fun z => pairB (A.w z.toNat) y i) os k hlt (unhide HA) h)
      have HNO := hide (fun h => all_false_at (fun z => pairB (A.w z.toNat) y i) os k hlt h)
      obtain ⟨m, hm3, hmz⟩ := (unhide HOI) os[k] (List.getElem_mem hlt)
      obtain ⟨bo, oo, hao, ko⟩ := nums_cell (unhide HO) hlt
      rw [List.getD_eq_getElem?_getD, List.getElem?_eq_getElem hlt, Option.getD_some, hmz] at ko
      replace ko := cell_on (unhide HB) ko
      rw [hmz, Int.toNat_natCast] at HYES HNO
      subst hao
      clear hmz
      have hmI : (m : Int) < 3 := by omega
      have hm0 : (0 : Int) ≤ (m : Int) := by omega
      have hRr := (unhide HR2).of_block ((unhide HB).block q (unhide HR2).lt)
      have hqr := hRr.lt
      have hRW := fun c hc => row_one hRr hm3 c hc
      obtain ⟨hs1, hs2, hs3⟩ := ((unhide HM2).on (unhide HB)) m hm3
      obtain ⟨x, hx⟩ : ∃ x, x = A.w m := ⟨_, rfl⟩
      obtain ⟨sx, hsx⟩ : ∃ s, s = A.sl m := ⟨_, rfl⟩
      rw [← hx, ← hsx] at hRW hs1
      rw [← hx] at hs2 hs3 HYES HNO
      clear hx hsx hRr
      have l0 : wr.cell? ⟨q, 1 + m * 11, none⟩ = some (.int .i64 x.kind) := hRW 0 (by omega)
      have l1 : wr.cell? ⟨q, 1 + m * 11 + 1, none⟩ = some (.int .i64 x.frm) := hRW 1 (by omega)
      have l2 : wr.cell? ⟨q, 1 + m * 11 + 2, none⟩ = some (.int .i64 x.dst) := hRW 2 (by omega)
      have l3 : wr.cell? ⟨q, 1 + m * 11 + 3, none⟩ = some (.int .i64 x.inc) := hRW 3 (by omega)
      have l4 : wr.cell? ⟨q, 1 + m * 11 + 4, none⟩ = some (.int .i64 x.ver) := hRW 4 (by omega)
      have l5 : wr.cell? ⟨q, 1 + m * 11 + 5, none⟩ = some (.int .i64 x.rd) := hRW 5 (by omega)
      have l6 : wr.cell? ⟨q, 1 + m * 11 + 6, none⟩ = some (.int .i64 x.g) := hRW 6 (by omega)
      have l7 : wr.cell? ⟨q, 1 + m * 11 + 7, none⟩ = some (.slice sx.a0 x.incs.length sx.c0) := hRW 7 (by omega)
      have l8 : wr.cell? ⟨q, 1 + m * 11 + 8, none⟩ = some (.slice sx.a1 x.vers.length sx.c1) := hRW 8 (by omega)
      have l9 : wr.cell? ⟨q, 1 + m * 11 + 9, none⟩ = some (.slice sx.a2 x.evs.length sx.c2) := hRW 9 (by omega)
      have l10 : wr.cell? ⟨q, 1 + m * 11 + 10, none⟩ = some (.slice sx.a3 x.outs.length sx.c3) := hRW 10 (by omega)
      clear hRW
      obtain ⟨bi, oi, hai, ki⟩ := nums_cell hs1.i (show i < x.incs.length by omega)
      obtain ⟨bv, ov, hav, kv⟩ := nums_cell hs1.v (show i < x.vers.length by omega)
      have hbA : Below wr.heap.size wr (wr.alloc (.cells #[.int .i64 x.kind, .int .i64 x.frm, .int .i64 x.dst, .int .i64 x.inc, .int .i64 x.ver, .int .i64 x.rd, .int .i64 x.g, .slice sx.a0 x.incs.length sx.c0, .slice sx.a1 x.vers.length sx.c1, .slice sx.a2 x.evs.length sx.c2, .slice sx.a3 x.outs.length sx.c3] 41)) := (Below.refl _ _).alloc (Nat.le_refl _) _
      have HZ := hide (cellsAt_new wr (wcl x sx) 41)
      have ti := cell_on hbA ki
      have tv := cell_on hbA kv
      have t3 := cell_on hbA (cell_on (unhide HB) ((unhide HC2) 3 (by simp)))
      have t4 := cell_on hbA (cell_on (unhide HB) ((unhide HC2) 4 (by simp)))
      have HB2 := hide (below_then (unhide HB) hbA)
      have hL1 : (i : Int) < (x.incs.length : Int) := by omega
      have hL2 : (i : Int) < (x.vers.length : Int) := by omega
      have HAI := hide hai
      have HAV := hide hav
      clear ki kv hbA hs1 HB hs2 hs3 hai hav
      simp only [Nat.zero_add, List.getElem_cons_succ, List.getElem_cons_zero] at t3 t4
      have hpair : Hid (pairB x y i = ((x.incs.getD i 0 == y.inc) && (x.vers.getD i 0 == y.ver))) := hide rfl
      go_upto_region 8 with fail
      clear ko l0 l1 l2 l3 l4 l5 l6 l7 l8 l9 l10
      change Hid (CellsAt (wr.alloc (.cells #[.int .i64 x.kind, .int .i64 x.frm, .int .i64 x.dst, .int .i64 x.inc, .int .i64 x.ver, .int .i64 x.rd, .int .i64 x.g, .slice sx.a0 x.incs.length sx.c0, .slice sx.a1 x.vers.length sx.c1, .slice sx.a2 x.evs.length sx.c2, .slice sx.a3 x.outs.length sx.c3] 41)) _ _ _) at HZ
      generalize (wr.alloc (.cells #[.int .i64 x.kind, .int .i64 x.frm, .int .i64 x.dst, .int .i64 x.inc, .int .i64 x.ver, .int .i64 x.rd, .int .i64 x.g, .slice sx.a0 x.incs.length sx.c0, .slice sx.a1 x.vers.length sx.c1, .slice sx.a2 x.evs.length sx.c2, .slice sx.a3 x.outs.length sx.c3] 41)) = Y at *
      generalize wr.heap.size = r at *
      have z7 : Y.cell? ⟨r, 7, none⟩ = some (.slice (some ⟨bi, oi, none⟩) x.incs.length sx.c0) := by rw [← unhide HAI]; exact (unhide HZ) 7 (by simp)
      have z8 : Y.cell? ⟨r, 8, none⟩ = some (.slice (some ⟨bv, ov, none⟩) x.vers.length sx.c1) := by rw [← unhide HAV]; exact (unhide HZ) 8 (by simp)
      clear HAI HAV
      generalize x.incs.getD i 0 = xi at *
      generalize x.vers.getD i 0 = xv at *
      cases hq1 : (xi == y.inc)
      · have hd1 : (xi != y.inc) = true := by simp [bne, hq1]
        have HPF : Hid (pairB x y i = false) := hide (by rw [unhide hpair, hq1]; rfl)
        clear hpair hq1
        go_quiet (fail)
        go_wp2_with fail
        go_ret
        exact ⟨Or.inr ⟨by rw [unhide HRES2]; exact (unhide HNO) (unhide HPF), _, rfl⟩, below_then (unhide HB1) (below_drewN (unhide HB2) _)⟩
      have hd1 : (xi != y.inc) = false := by simp [bne, hq1]
      cases hq2 : (xv == y.ver)
      · have hd2 : (xv != y.ver) = true := by simp [bne, hq2]
        have HPF : Hid (pairB x y i = false) := hide (by rw [unhide hpair, hq2, Bool.and_false])
        clear hpair hq1 hq2
        go_quiet (fail)
        go_wp2_with fail
        go_ret
        exact ⟨Or.inr ⟨by rw [unhide HRES2]; exact (unhide HNO) (unhide HPF), _, rfl⟩, below_then (unhide HB1) (below_drewN (unhide HB2) _)⟩
      have hd2 : (xv != y.ver) = false := by simp [bne, hq2]
      have HPT : Hid (pairB x y i = true) := hide (by rw [unhide hpair, hq1, hq2]; rfl)
      clear hpair hq1 hq2
      go_quiet (fail)
      go_wp2_with fail
      go_roundw
      case rel => exact ⟨k + 1, by omega, by go_num, hide ((unhide HYES) (unhide HPT)), hide (below_drewN (unhide HB2) _)⟩
      case measure => (simp [intOf]; try omega)
    · have hke : k = os.length := by omega
      subst hke
      have hkI : ¬ (os.length : Int) < (os.length : Int) := by omega
      go_wp2_with fail
      go_ret
      refine ⟨Or.inl ⟨?_, rfl⟩, below_then (unhide HB1) (unhide HB)⟩
      rw [unhide HRES2]
      have := unhide HA
      rwa [List.take_length] at this
end Go.Proofs.Ytimkamgghkjhhaa
