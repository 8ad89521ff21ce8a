/- One op of impl, chosen and done, whatever it is. -/
import Derived.Test.YtjbgiepaehefpaaDoorIm4
namespace Go.Proofs.YtjbgiepaehefpaaDoor
open Go.RowKit
set_option linter.unusedVariables false

/-- Which method is called for which type. -/
def DoOf (T : TypeId) (F : FuncId) : Prop :=
  (T = 157 ∧ F = 174) ∨ (T = 158 ∧ F = 176) ∨ (T = 160 ∧ F = 177) ∨ (T = 162 ∧ F = 178) ∨ (T = 164 ∧ F = 179)

def ImpStep (o : OpV) : Prop := ∀ (q : Nat) (s : StV) (ev : EvV) (vs vo : Value) (sends : List EvV) (outs : List OutV) (w : World), ImMem w q s ev 0 vs vo sends outs → stIn s → 0 ≤ ev.arg → ev.arg ≤ 999 → 0 ≤ ev.time → ev.time ≤ 40 → sends.length ≤ 100 → outs.length ≤ 100 →
  ∃ T pay F, DoOf T F ∧ (Calls Tryd.prog 106 #[.pointer (some ⟨q, 0, none⟩), opAgg o] w fun e w' => e = .returned (.iface T pay) ∧ Below w.heap.size w w')
    ∧ ∀ w', ImMem w' q s ev 0 vs vo sends outs → Calls Tryd.prog F #[pay, .pointer (some ⟨q, 0, none⟩)] w' fun e w'' => ∃ vs' vo', e = .returned (.tuple #[]) ∧ ImMem w'' q (opSt s ev o) ev (opSkip s o) vs' vo' (opSends s ev sends o) (opOuts s ev outs o) ∧ Below q w' w''

theorem doAdds (a n : Int) (ha : a = 0 ∨ a = 1) (hn : 0 ≤ n) (hn2 : n ≤ 2000) (q : Nat) (s : StV) (ev : EvV) (sk : Int) (vs vo : Value) (sends : List EvV) (outs : List OutV) (w : World) (hR : ImMem w q s ev sk vs vo sends outs) (hs : stIn s) :
    Calls Tryd.prog 176 #[.agg #[.int .i64 a, .int .i64 n], .pointer (some ⟨q, 0, none⟩)] w fun e w' => e = .returned (.tuple #[]) ∧ ImMem w' q (putR s a (getR s a + n)) ev sk vs vo sends outs ∧ Below q w w' := by
  rcases ha with rfl | rfl
  · exact doAdds0 n hn hn2 q s ev sk vs vo sends outs w hR hs
  · exact doAdds1 n hn hn2 q s ev sk vs vo sends outs w hR hs

theorem impStep_any (o : OpV) (h : opOk o = true) : ImpStep o := by
  obtain ⟨d, a, b, c, e⟩ := o
  intro q s ev vs vo sends outs w hR hs ha0 ha1 ht0 ht1 hls hlo
  by_cases hd : 1 ≤ d ∧ d ≤ 7
  · have h7 : d = 1 ∨ d = 2 ∨ d = 3 ∨ d = 4 ∨ d = 5 ∨ d = 6 ∨ d = 7 := by omega
    rcases h7 with rfl | rfl | rfl | rfl | rfl | rfl | rfl
    · rw [opOkB_1] at h
      obtain ⟨h1, h2, h3, h4⟩ := and4 h
      obtain rfl : c = 0 := by simpa using h3
      obtain rfl : e = 0 := by simpa using h4
      refine ⟨_, _, _, Or.inl ⟨rfl, rfl⟩, choose_set a b q w, fun w' hR' => ?_⟩
      refine (doPuts a b (reg_of h1) (inR_of h2).1 (by have := (inR_of h2).2; omega) q s ev 0 vs vo sends outs w' hR').mono ?_
      rintro r w'' ⟨hr, hm, hb⟩
      exact ⟨vs, vo, hr, hm, hb⟩
    · rw [opOkB_2] at h
      obtain ⟨h1, h2, h3, h4⟩ := and4 h
      obtain rfl : c = 0 := by simpa using h3
      obtain rfl : e = 0 := by simpa using h4
      have hg := getR_in hs b
      refine ⟨_, _, _, Or.inr (Or.inl ⟨rfl, rfl⟩), choose_add a b s (reg_of h2) q w hR.x0 hR.x1, fun w' hR' => ?_⟩
      refine (doAdds a (getR s b) (reg_of h1) hg.1 (by omega) q s ev 0 vs vo sends outs w' hR' hs).mono ?_
      rintro r w'' ⟨hr, hm, hb⟩
      exact ⟨vs, vo, hr, hm, hb⟩
    · rw [opOkB_3] at h
      obtain ⟨h1, h2, h3, h4⟩ := and4 h
      obtain rfl : c = 0 := by simpa using h3
      obtain rfl : e = 0 := by simpa using h4
      refine ⟨_, _, _, Or.inr (Or.inl ⟨rfl, rfl⟩), choose_more a b q w, fun w' hR' => ?_⟩
      refine (doAdds a b (reg_of h1) (inR_of h2).1 (by have := (inR_of h2).2; omega) q s ev 0 vs vo sends outs w' hR' hs).mono ?_
      rintro r w'' ⟨hr, hm, hb⟩
      exact ⟨vs, vo, hr, hm, hb⟩
    · rw [opOkB_4] at h
      obtain ⟨h1, h2, h3, h4⟩ := and4 h
      obtain rfl : b = 0 := by simpa using h2
      obtain rfl : c = 0 := by simpa using h3
      obtain rfl : e = 0 := by simpa using h4
      refine ⟨_, _, _, Or.inl ⟨rfl, rfl⟩, choose_arg a ev.arg q w hR.e6, fun w' hR' => ?_⟩
      refine (doPuts a ev.arg (reg_of h1) ha0 (by omega) q s ev 0 vs vo sends outs w' hR').mono ?_
      rintro r w'' ⟨hr, hm, hb⟩
      exact ⟨vs, vo, hr, hm, hb⟩
    · rw [opOkB_5] at h
      obtain ⟨h1, h2, h3, h4⟩ := and4 h
      obtain rfl : e = 0 := by simpa using h4
      refine ⟨_, _, _, Or.inr (Or.inr (Or.inl ⟨rfl, rfl⟩)), choose_skip a b c q w, fun w' hR' => ?_⟩
      by_cases hlt : getR s a < b
      · refine (doSkips_on a b c (reg_of h1) q s ev 0 vs vo sends outs w' hR' hlt).mono ?_
        rintro r w'' ⟨hr, hm, hb⟩
        refine ⟨vs, vo, hr, ?_, hb⟩
        have e1 : opSkip s ⟨5, a, b, c, 0⟩ = c := by simp [opSkip, hlt]
        rw [e1]; exact hm
      · refine (doSkips_off a b c (reg_of h1) q s ev 0 vs vo sends outs w' hR' hlt).mono ?_
        rintro r w'' ⟨hr, hm, hb⟩
        refine ⟨vs, vo, hr, ?_, hb⟩
        have e1 : opSkip s ⟨5, a, b, c, 0⟩ = 0 := by simp [opSkip, hlt]
        rw [e1]; exact hm
    · rw [opOkB_6] at h
      obtain ⟨h1, h2, h3, h4⟩ := and4 h
      refine ⟨_, _, _, Or.inr (Or.inr (Or.inr (Or.inl ⟨rfl, rfl⟩))), choose_send a b c e q w, fun w' hR' => ?_⟩
      by_cases hin : ev.time + c ≤ 40
      · refine (doSends_sent a b c e (reg_of h4) (inR_of h3).1 (inR_of h3).2 q s ev 0 vs vo sends outs w' hR' ht0 ht1 hls hin).mono ?_
        rintro r w'' ⟨vs', hr, hm, hb⟩
        refine ⟨vs', vo, hr, ?_, hb⟩
        have e1 : opSends s ev sends ⟨6, a, b, c, e⟩ = sends ++ [⟨ev.time + c, a, ev.to, s.c, sends.length, b, getR s e⟩] := by simp [opSends, hin]
        rw [e1]; exact hm
      · refine (doSends_late a b c e (inR_of h3).1 (inR_of h3).2 q s ev 0 vs vo sends outs w' hR' ht0 ht1 (by omega)).mono ?_
        rintro r w'' ⟨hr, hm, hb⟩
        refine ⟨vs, vo, hr, ?_, hb⟩
        have e1 : opSends s ev sends ⟨6, a, b, c, e⟩ = sends := by simp [opSends, hin]
        rw [e1]; exact hm
    · rw [opOkB_7] at h
      obtain ⟨h1, h2, h3, h4⟩ := and4 h
      obtain rfl : b = 0 := by simpa using h2
      obtain rfl : c = 0 := by simpa using h3
      obtain rfl : e = 0 := by simpa using h4
      refine ⟨_, _, _, Or.inr (Or.inr (Or.inr (Or.inr ⟨rfl, rfl⟩))), choose_out a q w, fun w' hR' => ?_⟩
      refine (doLets a (reg_of h1) q s ev 0 vs vo sends outs w' hR' hlo).mono ?_
      rintro r w'' ⟨vo', hr, hm, hb⟩
      exact ⟨vs, vo', hr, hm, hb⟩
  · rw [opOk_none _ hd] at h
    cases h
end Go.Proofs.YtjbgiepaehefpaaDoor
