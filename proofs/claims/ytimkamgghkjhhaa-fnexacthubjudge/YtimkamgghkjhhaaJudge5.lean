/- (*hubWork).judge: what a round settles, or what it lacks. -/
import Derived.Test.YtimkamgghkjhhaaJudge4
namespace Go.Proofs.Ytimkamgghkjhhaa
open Go.RowKit
set_option linter.unusedVariables false
set_option linter.unusedSimpArgs false

def minI (a b : Int) : Int := if b < a then b else a
def leastK (A : Ans) : Nat → Int
  | 0 => 41
  | k + 1 => minI (leastK A k) (A.w k).g
def okAB (A B : Ans) : Bool := A.all && (B.all && (nodeB A B 0 && (nodeB A B 1 && nodeB A B 2)))
theorem okAB_no {A B : Ans} {k : Nat} (hk : k < 3) (h : nodeB A B k = false) : okAB A B = false := by
  have : k = 0 ∨ k = 1 ∨ k = 2 := by omega
  rcases this with rfl | rfl | rfl <;> simp [okAB, h]
theorem okAB_yes {A B : Ans} (h1 : A.all = true) (h2 : B.all = true) (h : ∀ k, k < 3 → nodeB A B k = true) : okAB A B = true := by
  simp [okAB, h1, h2, h 0, h 1, h 2]

set_option maxRecDepth 100000 in
set_option maxHeartbeats 4000000 in
theorem judge_any (rd : Int) (A B C : Ans) (q : Nat) (w : World) (h : w.rowIs q 137 103 (workF rd A B C)) (hm : A.all = true → OnesMem w A) :
    Calls Try.prog 58 #[.pointer (some ⟨q, 0, none⟩)] w fun e w' => (okAB A B = true ∧ e = .returned (.tuple #[.int .i64 (leastK A 3), Value.nilIface]) ∨ okAB A B = false ∧ ∃ p, e = .returned (.tuple #[.int .i64 0, .iface 161 p])) ∧ Below w.heap.size w w' := by
  have HR := hide h
  have HM := hide hm
  have hc1 : w.cell? ⟨q, 1 + 33, none⟩ = some (.int .u8 (bitsB A.t0 A.t1 A.t2)) := by rw [h.cell (i := 1 + 33) (by omega)]; rfl
  have hc2 : w.cell? ⟨q, 35 + 33, none⟩ = some (.int .u8 (bitsB B.t0 B.t1 B.t2)) := by rw [h.cell (i := 35 + 33) (by omega)]; rfl
  have HC1 := hide hc1
  have HC2 := hide hc2
  clear h hm hc1 hc2
  go_enter Try.func58, Try.ntmps58
  go_wp2_with fail
  refine (needAll_any A q 1 _ ⟨_, rfl⟩ w (unhide HC1)).mono ?_
  rintro e w1 ⟨hr1, hw1⟩
  obtain rfl := hw1.symm
  clear hw1
  rcases hr1 with ⟨hA, rfl⟩ | ⟨hA, p, rfl⟩
  rotate_left
  · go_wp2_with fail
    go_ret2
    exact ⟨Or.inr ⟨by simp [okAB, hA], _, rfl⟩, Below.refl _ _⟩
  go_wp2_with fail
  refine (needAll_any B q 35 _ ⟨_, rfl⟩ w (unhide HC2)).mono ?_
  rintro e w2 ⟨hr2, hw2⟩
  obtain rfl := hw2.symm
  clear hw2
  rcases hr2 with ⟨hB, rfl⟩ | ⟨hB, p, rfl⟩
  rotate_left
  · go_wp2_with fail
    go_ret2
    exact ⟨Or.inr ⟨by simp [okAB, hB], _, rfl⟩, Below.refl _ _⟩
  have HOM := hide ((unhide HM) hA)
  have HAA := hide hA
  have HBB := hide hB
  clear HM HC1 HC2 hA hB
  go_wp2_with fail
  go_loopw [6, 23] (fun l i wr => ∃ (k : Nat) (g : Int), k ≤ 3 ∧ i = .int .i64 k ∧ l = .int .i64 g ∧ Hid (g = leastK A k) ∧ Hid (∀ j, j < k → nodeB A B j = true) ∧ Hid (Below w.heap.size w wr)) (fun _ i _ => 3 - (intOf i).toNat)
  case atStart => exact ⟨0, 41, by omega, rfl, rfl, hide rfl, hide (fun j h => absurd h (Nat.not_lt_zero _)), hide (Below.refl _ _)⟩
  case round =>
    obtain ⟨k, g, hk, rfl, rfl, HG, HA, HB⟩ := hrel
    by_cases hlt : k < 3
    · have hkI : (k : Int) < 3 := by omega
      have hk0 : (0 : Int) ≤ (k : Int) := by omega
      have HRk := hide ((unhide HR).of_block ((unhide HB).block q (unhide HR).lt))
      go_wp2_with fail
      refine (judgeNode_any rd A B C q k hlt wr (unhide HRk) ((unhide HOM).on (unhide HB))).mono ?_
      rintro e w3 ⟨hr3, hb3⟩
      have HB3 := hide (below_then (unhide HB) hb3)
      have HR3 := hide ((unhide HRk).of_block (hb3.block q (unhide HRk).lt))
      clear HRk hb3 HB
      rcases hr3 with ⟨hn, rfl⟩ | ⟨hn, p, rfl⟩
      rotate_left
      · go_wp2_with fail
        go_ret2
        exact ⟨Or.inr ⟨okAB_no hlt hn, _, rfl⟩, unhide HB3⟩
      have HN := hide hn
      clear hn
      have g6 : w3.cell? ⟨q, 1 + k * 11 + 6, none⟩ = some (.int .i64 (A.w k).g) := row_one (unhide HR3) hlt 6 (by omega)
      have HGS : Hid (leastK A (k + 1) = minI g (A.w k).g) := hide (by rw [leastK, unhide HG])
      generalize (A.w k).g = gk at *
      by_cases hmin : gk < g
      · have hm2 : minI g gk = gk := if_pos hmin
        have hm3 : min g gk = gk := by omega
        have HG2 : Hid (gk = leastK A (k + 1)) := hide (by rw [unhide HGS, hm2])
        clear hm2
        go_wp2_with fail
        go_roundw
        case rel => exact ⟨k + 1, gk, by omega, by go_num, by simp [hm3], HG2, hide (fun j hj => by
          by_cases e : j = k
          · subst e; exact unhide HN
          · exact (unhide HA) j (by omega)), HB3⟩
        case measure => (simp [intOf]; try omega)
      · have hm2 : minI g gk = g := if_neg hmin
        have hm3 : min g gk = g := by omega
        have HG2 : Hid (g = leastK A (k + 1)) := hide (by rw [unhide HGS, hm2])
        clear hm2
        go_wp2_with fail
        go_roundw
        case rel => exact ⟨k + 1, g, by omega, by go_num, by simp [hm3], HG2, hide (fun j hj => by
          by_cases e : j = k
          · subst e; exact unhide HN
          · exact (unhide HA) j (by omega)), HB3⟩
        case measure => (simp [intOf]; try omega)
    · have hk3 : k = 3 := by omega
      subst hk3
      have hge : g = leastK A 3 := unhide HG
      subst hge
      go_wp2_with fail
      go_ret2
      exact ⟨Or.inl ⟨okAB_yes (unhide HAA) (unhide HBB) (unhide HA), rfl⟩, unhide HB⟩
end Go.Proofs.Ytimkamgghkjhhaa
