/- impl.HubJudge. -/
import Derived.Test.YtimkamgghkjhhaaJudge5
namespace Go.Proofs.Ytimkamgghkjhhaa
open Go.RowKit
set_option linter.unusedVariables false
set_option linter.unusedSimpArgs false

def oneL (n : HubV) (k : Nat) : WordV := n.ones.getD k wz
def twoL (n : HubV) (k : Nat) : WordV := n.twos.getD k wz
def nodeL (n : HubV) (i : Nat) : Bool := ((oneL n i).inc == (twoL n i).inc) && (othersTo (i : Int) 3).all fun z => pairB (oneL n z.toNat) (twoL n i) i
def judgeL (n : HubV) : Bool := hubOk n && (decide (n.ones.length = 3) && (decide (n.twos.length = 3) && (nodeL n 0 && (nodeL n 1 && nodeL n 2))))
def leastL (n : HubV) : Nat → Int
  | 0 => 41
  | k + 1 => minI (leastL n k) (oneL n k).g
def judgeG (n : HubV) : Int := if judgeL n = true then leastL n 3 else 0

theorem kept_asc {kind : Int} {ns : List WordV} (h : keptOk kind ns = true) : (∀ n ∈ ns, kindOk kind n = true) ∧ ∀ j (hj : j + 1 < ns.length), (ns[j]'(by omega)).frm < ns[j + 1].frm := by
  simp only [keptOk, Bool.and_eq_true, List.all_eq_true] at h
  refine ⟨h.1, fun j hj => ?_⟩
  have := (ascB_iff wLess ns).1 h.2 j hj
  simpa [wLess] using this
theorem kind_frm {kind : Int} {n : WordV} (h : kindOk kind n = true) : 0 ≤ n.frm ∧ n.frm ≤ 2 := by
  simp only [kindOk, wordOk, inR, Bool.and_eq_true, decide_eq_true_eq] at h
  omega
theorem kind_heard {n : WordV} (h : kindOk 3 n = true) : n.incs.length = 3 ∧ n.vers.length = 3 := by
  simp [kindOk, heardB] at h
  exact h.2.2
theorem kept_in {kind : Int} {ns : List WordV} (h : keptOk kind ns = true) : FrmIn ns := fun n hn => kind_frm ((kept_asc h).1 n hn)
/-- A list of all three has them at their places. -/
theorem kept_three {kind : Int} {ns : List WordV} (h : keptOk kind ns = true) : ns.length ≤ 3 ∧ (ns.length = 3 → ∀ k (hk : k < ns.length), ns[k].frm = (k : Int)) := by
  obtain ⟨h1, h2⟩ := kept_asc h
  have hb : ∀ k (hk : k < ns.length), 0 ≤ ns[k].frm ∧ ns[k].frm ≤ 2 := fun k hk => kind_frm (h1 _ (List.getElem_mem hk))
  have hle : ns.length ≤ 3 := by
    rcases Nat.lt_or_ge 3 ns.length with hl | hl
    · have a0 := hb 0 (by omega)
      have a3 := hb 3 (by omega)
      have l0 := h2 0 (by omega)
      have l1 := h2 1 (by omega)
      have l2 := h2 2 (by omega)
      simp only [Nat.zero_add, Nat.reduceAdd] at l0 l1 l2
      omega
    · exact hl
  refine ⟨hle, fun h3 k hk => ?_⟩
  have a0 := hb 0 (by omega)
  have a2 := hb 2 (by omega)
  have l0 := h2 0 (by omega)
  have l1 := h2 1 (by omega)
  simp only [Nat.zero_add, Nat.reduceAdd] at l0 l1
  have : k = 0 ∨ k = 1 ∨ k = 2 := by omega
  rcases this with rfl | rfl | rfl
  · show ns[0].frm = 0; omega
  · show ns[1].frm = 1; omega
  · show ns[2].frm = 2; omega
theorem slot_there {w : World} {ns : List WordV} {id : Nat} {x : WordV} {s : Sl} {t : Bool} (h3 : ns.length = 3) (hp : ∀ k (hk : k < ns.length), ns[k].frm = (k : Int)) (hid : id < 3) (h : SlotOf w ns ns.length (id : Int) x s t) : t = true ∧ x = ns.getD id wz ∧ WordS w x s := by
  rcases h with ⟨_, h2⟩ | ⟨h1, j, hj, _, h4, h5, h6⟩
  · exact absurd (hp id (by omega)) (h2 id (by omega) (by omega))
  · have e := hp j hj
    have : j = id := by omega
    subst this
    exact ⟨h1, by rw [h5, List.getD_eq_getElem?_getD, List.getElem?_eq_getElem hj]; rfl, h6⟩
theorem slot_few {w : World} {ns : List WordV} {k : Nat} {id : Int} {x : WordV} {s : Sl} (h : SlotOf w ns k id x s true) : ∃ j, ∃ (hj : j < ns.length), ns[j].frm = id := by
  rcases h with ⟨h1, _⟩ | ⟨_, j, hj, _, h4, _⟩
  · cases h1
  · exact ⟨j, hj, h4⟩
theorem ans_three {kind : Int} {w : World} {A : Ans} {ns : List WordV} (hk : keptOk kind ns = true) (h : AnsOf w A ns ns.length) : A.all = decide (ns.length = 3) ∧ (ns.length = 3 → ∀ k, k < 3 → A.w k = ns.getD k wz ∧ WordS w (A.w k) (A.sl k)) := by
  obtain ⟨hle, hp⟩ := kept_three hk
  obtain ⟨g0, g1, g2⟩ := h
  by_cases h3 : ns.length = 3
  · have s0 := slot_there (id := 0) h3 (hp h3) (by omega) g0
    have s1 := slot_there (id := 1) h3 (hp h3) (by omega) g1
    have s2 := slot_there (id := 2) h3 (hp h3) (by omega) g2
    refine ⟨by simp [Ans.all, s0.1, s1.1, s2.1, h3], fun _ k hk => ?_⟩
    have : k = 0 ∨ k = 1 ∨ k = 2 := by omega
    rcases this with rfl | rfl | rfl
    · exact s0.2
    · exact s1.2
    · exact s2.2
  · refine ⟨?_, fun h => absurd h h3⟩
    rw [decide_eq_false h3]
    cases hall : A.all
    · rfl
    simp only [Ans.all, Bool.and_eq_true] at hall
    obtain ⟨t0, t1, t2⟩ := hall
    rw [t0] at g0; rw [t1] at g1; rw [t2] at g2
    obtain ⟨j0, hj0, e0⟩ := slot_few g0
    obtain ⟨j1, hj1, e1⟩ := slot_few g1
    obtain ⟨j2, hj2, e2⟩ := slot_few g2
    have d1 : j0 ≠ j1 := fun e => by subst e; omega
    have d2 : j0 ≠ j2 := fun e => by subst e; omega
    have d3 : j1 ≠ j2 := fun e => by subst e; omega
    omega
theorem hubOk_parts {n : HubV} (h : hubOk n = true) : keptOk 3 n.ones = true ∧ keptOk 5 n.twos = true ∧ keptOk 7 n.outs = true := by
  simp only [hubOk, Bool.and_eq_true] at h
  exact h.2
theorem judge_same {w : World} {n : HubV} {A B : Ans} (h : hubOk n = true) (hA : AnsOf w A n.ones n.ones.length) (hB : AnsOf w B n.twos n.twos.length) :
    okAB A B = judgeL n ∧ (judgeL n = true → leastK A 3 = leastL n 3) ∧ (A.all = true → OnesMem w A) := by
  obtain ⟨k1, k2, _⟩ := hubOk_parts h
  obtain ⟨a1, a2⟩ := ans_three k1 hA
  obtain ⟨b1, b2⟩ := ans_three k2 hB
  have hm : A.all = true → OnesMem w A := fun hall k hk => by
    rw [a1] at hall
    have h3 := of_decide_eq_true hall
    obtain ⟨e1, e2⟩ := a2 h3 k hk
    have hkl : k < n.ones.length := by omega
    have he : A.w k = n.ones[k] := by rw [e1, List.getD_eq_getElem?_getD, List.getElem?_eq_getElem hkl]; rfl
    have hh := kind_heard ((kept_asc k1).1 _ (List.getElem_mem hkl))
    rw [← he] at hh
    exact ⟨e2, hh.1, hh.2⟩
  by_cases h3 : n.ones.length = 3
  rotate_left
  · have e1 : judgeL n = false := by simp [judgeL, h3]
    refine ⟨by simp [okAB, a1, h3, e1], fun h => absurd (e1.symm.trans h) (by simp), hm⟩
  by_cases h4 : n.twos.length = 3
  rotate_left
  · have e1 : judgeL n = false := by simp [judgeL, h4]
    refine ⟨by simp [okAB, b1, h4, e1], fun h => absurd (e1.symm.trans h) (by simp), hm⟩
  have hw : ∀ k, k < 3 → A.w k = oneL n k := fun k hk => (a2 h3 k hk).1
  have hv : ∀ k, k < 3 → B.w k = twoL n k := fun k hk => (b2 h4 k hk).1
  have hn : ∀ i, i < 3 → nodeB A B i = nodeL n i := fun i hi => by
    rw [nodeB, nodeL, hw i hi, hv i hi]
    congr 1
    have he : ∀ z ∈ othersTo (i : Int) 3, pairB (A.w z.toNat) (twoL n i) i = pairB (oneL n z.toNat) (twoL n i) i := fun z hz => by
      obtain ⟨m, hm, rfl⟩ := other_in hz
      rw [Int.toNat_natCast, hw m hm]
    rw [Bool.eq_iff_iff, List.all_eq_true, List.all_eq_true]
    exact ⟨fun g z hz => (he z hz).symm.trans (g z hz), fun g z hz => (he z hz).trans (g z hz)⟩
  refine ⟨?_, fun _ => ?_, hm⟩
  · rw [okAB, judgeL, a1, b1, h, hn 0 (by omega), hn 1 (by omega), hn 2 (by omega), Bool.true_and]
  · show minI (minI (minI 41 (A.w 0).g) (A.w 1).g) (A.w 2).g = minI (minI (minI 41 (oneL n 0).g) (oneL n 1).g) (oneL n 2).g
    rw [hw 0 (by omega), hw 1 (by omega), hw 2 (by omega)]

set_option maxRecDepth 100000 in
set_option maxHeartbeats 2000000 in
theorem implHubJudge_any (n : HubV) (v1 v2 v3 : Value) (w : World) (h : HubAt w n v1 v2 v3) :
    Calls Try.prog 22 #[hubAgg n v1 v2 v3] w fun e w' => e = .returned (.tuple #[.int .i64 (judgeG n), .bool (judgeL n)]) ∧ Below w.heap.size w w' := by
  obtain ⟨⟨a0, ac0, e1⟩, ⟨a1, ac1, e2⟩, ⟨a2, ac2, e3⟩⟩ := h.sliced
  subst e1 e2 e3
  have hb0 : Below w.heap.size w (w.alloc (.cells #[.int .i64 n.rd, .slice a0 n.ones.length ac0, .slice a1 n.twos.length ac1, .slice a2 n.outs.length ac2] 51)) := (Below.refl _ _).alloc (Nat.le_refl _) _
  have HA := hide (cellsAt_new w [.int .i64 n.rd, .slice a0 n.ones.length ac0, .slice a1 n.twos.length ac1, .slice a2 n.outs.length ac2] 51)
  have H := hide (h.on hb0)
  have HB0 := hide hb0
  clear hb0 h
  go_enter Try.func22, Try.ntmps22
  go_upto_region 1 with fail
  change Hid (CellsAt (w.alloc (.cells #[.int .i64 n.rd, .slice a0 n.ones.length ac0, .slice a1 n.twos.length ac1, .slice a2 n.outs.length ac2] 51)) _ _ _) at HA
  generalize (w.alloc (.cells #[.int .i64 n.rd, .slice a0 n.ones.length ac0, .slice a1 n.twos.length ac1, .slice a2 n.outs.length ac2] 51)) = X at *
  have k0 : X.cell? ⟨w.heap.size, 0, none⟩ = some (.int .i64 n.rd) := (unhide HA) 0 (by simp)
  have k1 : X.cell? ⟨w.heap.size, 1, none⟩ = some (.slice a0 n.ones.length ac0) := (unhide HA) 1 (by simp)
  have k2 : X.cell? ⟨w.heap.size, 2, none⟩ = some (.slice a1 n.twos.length ac1) := (unhide HA) 2 (by simp)
  have k3 : X.cell? ⟨w.heap.size, 3, none⟩ = some (.slice a2 n.outs.length ac2) := (unhide HA) 3 (by simp)
  go_wp2_with fail
  refine (implHubOk_any n _ _ _ X (unhide H)).mono ?_
  rintro e w1 ⟨rfl, hb1⟩
  have hB1 := below_then (unhide HB0) hb1
  cases hok : hubOk n
  · go_wp2_with fail
    go_ret2
    exact ⟨by simp [judgeG, judgeL, hok], hB1⟩
  replace k0 := cell_on hb1 k0
  replace k1 := cell_on hb1 k1
  replace k2 := cell_on hb1 k2
  replace k3 := cell_on hb1 k3
  have HOK := hide hok
  have H1 := hide ((unhide H).on hb1)
  have HB1 := hide hB1
  clear H HA HB0 hb1 hB1 hok
  go_wp2_with fail
  clear k0 k1 k2 k3
  refine (openHub_any n _ _ _ w1 (unhide H1) (kept_in (hubOk_parts (unhide HOK)).1) (kept_in (hubOk_parts (unhide HOK)).2.1) (kept_in (hubOk_parts (unhide HOK)).2.2)).mono ?_
  rintro e w2 ⟨A, B, C, q, rfl, hrow, hA, hB, hC, _, hb2⟩
  obtain ⟨j1, j2, j3⟩ := judge_same (unhide HOK) hA hB
  have HJ1 := hide j1
  have HJ2 := hide j2
  have HJ3 := hide j3
  have HRW := hide hrow
  have HB2 := hide (below_then (unhide HB1) hb2)
  clear j1 j2 j3 hrow hA hB hC hb2 H1 HB1
  go_wp2_with fail
  refine (judge_any n.rd A B C q w2 (unhide HRW) (unhide HJ3)).mono ?_
  rintro e w3 ⟨hr3, hb3⟩
  have HB3 := hide (below_then (unhide HB2) hb3)
  clear hb3
  rcases hr3 with ⟨ho, rfl⟩ | ⟨ho, p, rfl⟩
  · have hj : judgeL n = true := by rw [← unhide HJ1]; exact ho
    have hg : judgeG n = leastK A 3 := by rw [judgeG, if_pos hj, (unhide HJ2) hj]
    have HJT := hide hj
    have HGT := hide hg
    clear hj hg ho
    go_wp2_with fail
    go_quiet (fail)
    go_wp2_with fail
    go_ret2
    exact ⟨by rw [unhide HJT, unhide HGT]; rfl, below_drewN (unhide HB3) _⟩
  · have hj : judgeL n = false := by rw [← unhide HJ1]; exact ho
    have hg : judgeG n = 0 := by rw [judgeG, if_neg (by rw [hj]; simp)]
    have HJT := hide hj
    have HGT := hide hg
    clear hj hg ho
    go_wp2_with fail
    go_quiet (fail)
    go_wp2_with fail
    go_ret2
    exact ⟨by rw [unhide HJT, unhide HGT]; rfl, below_drewN (unhide HB3) _⟩
end Go.Proofs.Ytimkamgghkjhhaa
