/- The walk of laws.FnExactSimStart: it answers true. -/
import Derived.Test.YtmkbacpkemmepaaSim3
import Derived.Deep.Cut
namespace Go.Proofs.Ytmkbacpkemmepaa
open Go.RowKit
set_option linter.unusedVariables false

/-- A machine at a block. -/
structure SimCell (w : World) (q : Nat) (vs vq : Value) : Prop where
  c0 : w.cell? ⟨q, 0, none⟩ = some vs
  c1 : w.cell? ⟨q, 1, none⟩ = some vq
  c2 : w.cell? ⟨q, 2, none⟩ = some (.slice none 0 0)

theorem SimCell.on {w w' : World} {q : Nat} {vs vq : Value} (hb : Below w.heap.size w w') (h : SimCell w q vs vq) : SimCell w' q vs vq := ⟨cell_on hb h.c0, cell_on hb h.c1, cell_on hb h.c2⟩

theorem four_slice {n : Nat} {w : World} {v : Value} {rs : List (List Int)} (h : RowsAt n w v rs) (hl : rs.length = 4) : ∃ a c, v = .slice a 4 c := by
  obtain ⟨a, c, h, _⟩ := h; rw [hl] at h; exact ⟨a, c, h⟩

theorem SimCell.new (w : World) (vs vq : Value) (t : TypeId) : SimCell (w.alloc (.cells #[vs, vq, .slice none 0 0] t)) w.heap.size vs vq :=
  ⟨by simp [go_sem], by simp [go_sem], by simp [go_sem]⟩

theorem len_ss : ((zeros 4).map stRow).length = 4 := rfl
theorem len_qs : ((firsts 4).map evRow).length = 4 := rfl

set_option maxRecDepth 100000 in
set_option maxHeartbeats 1000000 in
theorem lawSimStart_walk (w : World) :
    Calls Try.prog 7 #[] w fun e w' => e = .returned (.bool true) ∧ Below w.heap.size w w' := by
  have hqm : ∀ z : Int, (z != z) = false := by intro z; simp
  go_enter Try.func7, Try.ntmps7
  go_wp2_with fail
  refine (specSimStart_any _).mono ?_
  rintro e w1 ⟨vs1, vq1, rfl, hf1, hb1⟩
  obtain ⟨sa1, sc1, rfl⟩ := four_slice hf1.s.at len_ss
  obtain ⟨qa1, qc1, rfl⟩ := four_slice hf1.q.at len_qs
  have hx1 : Below w1.heap.size w1 (w1.alloc (.cells #[.slice sa1 4 sc1, .slice qa1 4 qc1, .slice none 0 0] 45)) := (Below.refl _ _).alloc (Nat.le_refl _) _
  have A1 := hide (hf1.at.on hx1)
  have C1 := hide (SimCell.new w1 (.slice sa1 4 sc1) (.slice qa1 4 qc1) 45)
  have HB1 := hide (below_then hb1 hx1)
  clear hf1 hb1 hx1
  go_wp2_with fail
  generalize w1.alloc (.cells #[.slice sa1 4 sc1, .slice qa1 4 qc1, .slice none 0 0] 45) = W1 at *
  generalize w1.heap.size = q1 at *
  refine (implSimStart_any _).mono ?_
  rintro e w2 ⟨vs2, vq2, rfl, hf2, hb2⟩
  obtain ⟨sa2, sc2, rfl⟩ := four_slice hf2.s.at len_ss
  obtain ⟨qa2, qc2, rfl⟩ := four_slice hf2.q.at len_qs
  have hx2 : Below w2.heap.size w2 (w2.alloc (.cells #[.slice sa2 4 sc2, .slice qa2 4 qc2, .slice none 0 0] 45)) := (Below.refl _ _).alloc (Nat.le_refl _) _
  have F2 := hide (hf2.on hx2)
  have C2 := hide (SimCell.new w2 (.slice sa2 4 sc2) (.slice qa2 4 qc2) 45)
  have hW := hide (below_then hb2 hx2)
  have HS2 : Hid (W1.heap.size ≤ w2.heap.size) := hide hb2.size
  have HN1 : Hid (∀ g, (Value.slice sa2 4 sc2).ownBlock = some g → g < w2.heap.size) := hide (fun g hg => (hf2.s.blk g hg).2)
  have HN2 : Hid (∀ g, (Value.slice qa2 4 qc2).ownBlock = some g → g < w2.heap.size) := hide (fun g hg => (hf2.q.blk g hg).2)
  clear hf2 hb2 hx2
  go_upto_region 3 with fail
  generalize w2.alloc (.cells #[.slice sa2 4 sc2, .slice qa2 4 qc2, .slice none 0 0] 45) = W2 at *
  generalize w2.heap.size = q2 at *
  have C12 := hide ((unhide C1).on (unhide hW))
  obtain ⟨k0, k1, k2⟩ := unhide C12
  obtain ⟨m0, m1, m2⟩ := unhide C2
  go_wp2_with fail
  clear k0 k1 k2
  refine (eqSim_any _ _ _ _ _ _ _ _ _ _ (unhide F2).at ((unhide A1).on (unhide hW))).mono ?_
  rintro e w3 ⟨rfl, hb3⟩
  have C23 := hide ((unhide C2).on hb3)
  have F3 := hide ((unhide F2).on hb3)
  have HW3 := hide (below_then (unhide hW) hb3)
  have hs3 : W1.heap.size ≤ w3.heap.size := (unhide HW3).size
  clear m0 m1 m2 C2 F2 hW hb3 C12
  obtain ⟨m0, m1, m2⟩ := unhide C23
  go_wp2_with fail
  clear m0 m1 m2
  refine (markSim_any W1.heap.size _ _ _ _ _ _ 1 _ (unhide F3) hs3 (by rw [len_ss]; omega) (by rw [len_qs]; omega) (by simp) (by omega) (by omega)).mono ?_
  rintro e w4 ⟨rfl, hm4, hb4, hp4⟩
  have hbl := hp4 q2 (World.block_lt_of_cell? w3 ⟨q2, 0, none⟩ (unhide C23).c0) (fun e => Nat.lt_irrefl _ ((unhide HN1) q2 e)) (fun e => Nat.lt_irrefl _ ((unhide HN2) q2 e)) (by simp [Value.ownBlock])
  have C24 : Hid (SimCell w4 q2 (.slice sa2 4 sc2) (.slice qa2 4 qc2)) := hide ⟨(World.cell?_of_block (a := ⟨q2, 0, none⟩) hbl).trans (unhide C23).c0, (World.cell?_of_block (a := ⟨q2, 1, none⟩) hbl).trans (unhide C23).c1, (World.cell?_of_block (a := ⟨q2, 2, none⟩) hbl).trans (unhide C23).c2⟩
  have M4 := hide hm4
  have HW4 := hide ((unhide HW3).trans hb4)
  clear hm4 hb4 C23 F3 HW3 hp4 hbl HN1 HN2
  rw [len_ss, len_qs] at M4
  simp only [len_ss, len_qs, List.length_nil] at M4 ⊢
  obtain ⟨m0, m1, m2⟩ := unhide C24
  go_wp2_with fail
  clear m0 m1 m2
  refine (heldSim_any _ _ _ 4 4 0 1 _ (unhide M4) (by omega) (by omega) (by omega) (by omega) (by omega)).mono ?_
  rintro e w5 ⟨rfl, hb5⟩
  have C25 := hide ((unhide C24).on hb5)
  have M5 := hide ((unhide M4).on hb5)
  have HW5 := hide ((unhide HW4).trans (hb5.mono (unhide HW4).size))
  clear C24 M4 HW4 hb5
  go_wp2_with fail
  refine (implSimStart_any _).mono ?_
  rintro e w6 ⟨vs6, vq6, rfl, hf6, hb6⟩
  obtain ⟨sa6, sc6, rfl⟩ := four_slice hf6.s.at len_ss
  obtain ⟨qa6, qc6, rfl⟩ := four_slice hf6.q.at len_qs
  have hx6 : Below w6.heap.size w6 (w6.alloc (.cells #[.slice sa6 4 sc6, .slice qa6 4 qc6, .slice none 0 0] 45)) := (Below.refl _ _).alloc (Nat.le_refl _) _
  have A6 := hide (hf6.at.on hx6)
  have C6 := hide (SimCell.new w6 (.slice sa6 4 sc6) (.slice qa6 4 qc6) 45)
  have hB6 := below_then hb6 hx6
  have C26 := hide ((unhide C25).on hB6)
  have M6 := hide ((unhide M5).on hB6)
  have HW6 := hide ((unhide HW5).trans (hB6.mono (unhide HW5).size))
  clear hf6 hb6 hx6 hB6 C25 M5 HW5
  go_upto_region 14 with fail
  generalize w6.alloc (.cells #[.slice sa6 4 sc6, .slice qa6 4 qc6, .slice none 0 0] 45) = W6 at *
  generalize w6.heap.size = q6 at *
  have C16 := hide ((unhide C1).on (unhide HW6))
  obtain ⟨k0, k1, k2⟩ := unhide C16
  obtain ⟨m0, m1, m2⟩ := unhide C6
  go_wp2_with fail
  clear k0 k1 k2 m0 m1 m2
  refine (eqSim_any _ _ _ _ _ _ _ _ _ _ (unhide A6) ((unhide A1).on (unhide HW6))).mono ?_
  rintro e w7 ⟨rfl, hb7⟩
  have C27 := hide ((unhide C26).on hb7)
  have M7 := hide ((unhide M6).on hb7)
  have HW7 := hide ((unhide HW6).trans (hb7.mono (unhide HW6).size))
  clear C26 M6 HW6 hb7 C16 C6 A6
  obtain ⟨m0, m1, m2⟩ := unhide C27
  go_wp2_with fail
  clear m0 m1 m2
  refine (heldSim_any _ _ _ 4 4 0 1 _ (unhide M7) (by omega) (by omega) (by omega) (by omega) (by omega)).mono ?_
  rintro e w8 ⟨rfl, hb8⟩
  go_wp2_with fail
  go_ret
  exact ⟨rfl, below_then (below_then (unhide HB1) (unhide HW7)) hb8⟩
end Go.Proofs.Ytmkbacpkemmepaa
