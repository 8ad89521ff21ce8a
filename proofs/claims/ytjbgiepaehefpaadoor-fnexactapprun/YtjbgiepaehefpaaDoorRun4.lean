/- Every op in form, by spec's l1Run.op; and what the ops of a rule do, one behind the other. -/
import Derived.Test.YtjbgiepaehefpaaDoorRun3
namespace Go.Proofs.YtjbgiepaehefpaaDoor
open Go.RowKit
set_option linter.unusedVariables false

theorem reg_of {a : Int} (h : inR 0 1 a = true) : a = 0 ∨ a = 1 := by simp [inR] at h; omega
theorem inR_of {lo hi a : Int} (h : inR lo hi a = true) : lo ≤ a ∧ a ≤ hi := by simpa [inR] using h
theorem and4 {a b c d : Bool} (h : (a && b && c && d) = true) : a = true ∧ b = true ∧ c = true ∧ d = true := by
  cases a <;> cases b <;> cases c <;> cases d <;> simp_all

theorem specOp_any (o : OpV) (h : opOk o = true) : SpecOp o := by
  obtain ⟨d, a, b, c, e⟩ := o
  by_cases hd : 1 ≤ d ∧ d ≤ 7
  · have h7 : d = 1 ∨ d = 2 ∨ d = 3 ∨ d = 4 ∨ d = 5 ∨ d = 6 ∨ d = 7 := by omega
    rcases h7 with rfl | rfl | rfl | rfl | rfl | rfl | rfl
    · rw [opOkB_1] at h
      obtain ⟨h1, h2, h3, h4⟩ := and4 h
      obtain rfl : c = 0 := by simpa using h3
      obtain rfl : e = 0 := by simpa using h4
      exact specOp_set a b (reg_of h1) (inR_of h2).1 (inR_of h2).2
    · rw [opOkB_2] at h
      obtain ⟨h1, h2, h3, h4⟩ := and4 h
      obtain rfl : c = 0 := by simpa using h3
      obtain rfl : e = 0 := by simpa using h4
      rcases reg_of h1 with rfl | rfl <;> rcases reg_of h2 with rfl | rfl
      · exact specOp_add00
      · exact specOp_add01
      · exact specOp_add10
      · exact specOp_add11
    · rw [opOkB_3] at h
      obtain ⟨h1, h2, h3, h4⟩ := and4 h
      obtain rfl : c = 0 := by simpa using h3
      obtain rfl : e = 0 := by simpa using h4
      rcases reg_of h1 with rfl | rfl
      · exact specOp_more0 b (inR_of h2).1 (inR_of h2).2
      · exact specOp_more1 b (inR_of h2).1 (inR_of h2).2
    · rw [opOkB_4] at h
      obtain ⟨h1, h2, h3, h4⟩ := and4 h
      obtain rfl : b = 0 := by simpa using h2
      obtain rfl : c = 0 := by simpa using h3
      obtain rfl : e = 0 := by simpa using h4
      rcases reg_of h1 with rfl | rfl
      · exact specOp_arg0
      · exact specOp_arg1
    · rw [opOkB_5] at h
      obtain ⟨h1, h2, h3, h4⟩ := and4 h
      obtain rfl : e = 0 := by simpa using h4
      exact specOp_skip a b c (reg_of h1) (inR_of h3).1 (inR_of h3).2
    · rw [opOkB_6] at h
      obtain ⟨h1, h2, h3, h4⟩ := and4 h
      intro q s ev vs vo sends outs w hR hs ha0 ha1 ht0 ht1 hls hlo
      by_cases hin : ev.time + c ≤ 40
      · refine (specOp_sent a b c e (reg_of h4) (inR_of h3).1 (inR_of h3).2 q s ev vs vo sends outs w hR hs ha0 ha1 ht0 ht1 hls hlo hin).mono ?_
        rintro r w' ⟨vs', hr, hm, hb⟩
        refine ⟨vs', vo, hr, ?_, hb⟩
        have e1 : opSends s ev sends ⟨6, a, b, c, e⟩ = sends ++ [⟨ev.time + c, a, ev.to, s.c, sends.length, b, getR s e⟩] := by simp [opSends, hin]
        rw [e1]
        exact hm
      · refine (specOp_late a b c e (inR_of h3).1 (inR_of h3).2 q s ev vs vo sends outs w hR hs ha0 ha1 ht0 ht1 hls hlo (by omega)).mono ?_
        rintro r w' ⟨hr, hm, hb⟩
        refine ⟨vs, vo, hr, ?_, hb⟩
        have e1 : opSends s ev sends ⟨6, a, b, c, e⟩ = sends := by simp [opSends, hin]
        rw [e1]
        exact hm
    · rw [opOkB_7] at h
      obtain ⟨h1, h2, h3, h4⟩ := and4 h
      obtain rfl : b = 0 := by simpa using h2
      obtain rfl : c = 0 := by simpa using h3
      obtain rfl : e = 0 := by simpa using h4
      exact specOp_out a (reg_of h1)
  · rw [opOk_none _ hd] at h
    cases h

structure RunV where
  st : StV
  sends : List EvV
  outs : List OutV

def stepRun (ev : EvV) (o : OpV) (R : RunV) : RunV := ⟨opSt R.st ev o, opSends R.st ev R.sends o, opOuts R.st ev R.outs o⟩

/-- The ops, one behind the other, the next so many left out. -/
def runOps (ev : EvV) : List OpV → Nat → RunV → RunV
  | [], _, R => R
  | o :: t, 0, R => runOps ev t (opSkip R.st o).toNat (stepRun ev o R)
  | _ :: t, k + 1, R => runOps ev t k R

theorem runOps_drop (ev : EvV) (R : RunV) : ∀ (ops : List OpV) (k : Nat), runOps ev ops k R = runOps ev (ops.drop k) 0 R
  | [], k => by simp [runOps]
  | _ :: t, 0 => by simp
  | _ :: t, k + 1 => by
    rw [runOps, runOps_drop ev R t k]
    simp

theorem runOps_at (ev : EvV) (R : RunV) (ops : List OpV) (k : Nat) (h : k < ops.length) :
    runOps ev (ops.drop k) 0 R = runOps ev (ops.drop (k + 1 + (opSkip R.st ops[k]).toNat)) 0 (stepRun ev ops[k] R) := by
  rw [List.drop_eq_getElem_cons h, runOps, runOps_drop ev (stepRun ev ops[k] R) (ops.drop (k + 1)), List.drop_drop]

theorem opSt_in {s : StV} (h : stIn s) (ev : EvV) (o : OpV) : stIn (opSt s ev o) := by
  unfold opSt
  split
  · exact putR_in h _ _
  · split
    · exact putR_in h _ _
    · split
      · exact putR_in h _ _
      · split
        · exact putR_in h _ _
        · exact h

theorem opSends_len (s : StV) (ev : EvV) (l : List EvV) (o : OpV) : (opSends s ev l o).length ≤ l.length + 1 := by
  unfold opSends; split <;> simp
theorem opOuts_len (s : StV) (ev : EvV) (l : List OutV) (o : OpV) : (opOuts s ev l o).length ≤ l.length + 1 := by
  unfold opOuts; split <;> simp
theorem opSkip_in (s : StV) (o : OpV) (h : opOk o = true) : 0 ≤ opSkip s o ∧ opSkip s o ≤ 8 := by
  unfold opSkip
  split
  · rename_i hc
    obtain ⟨d, a, b, c, e⟩ := o
    obtain rfl : d = 5 := hc.1
    rw [opOkB_5] at h
    have := inR_of (and4 h).2.2.1
    simp only
    omega
  · omega
end Go.Proofs.YtjbgiepaehefpaaDoor
