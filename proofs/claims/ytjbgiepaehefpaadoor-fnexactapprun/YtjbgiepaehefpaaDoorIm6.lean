/- impl's doAll: the ops of a rule, one behind the other. -/
import Derived.Test.YtjbgiepaehefpaaDoorIm5
namespace Go.Proofs.YtjbgiepaehefpaaDoor
open Go.RowKit
set_option linter.unusedVariables false
set_option linter.unusedSimpArgs false

theorem runOps_do (ev : EvV) (R : RunV) (ops : List OpV) (k : Nat) (h : k < ops.length) :
    runOps ev (ops.drop k) 0 R = runOps ev (ops.drop (k + 1)) (opSkip R.st ops[k]).toNat (stepRun ev ops[k] R) := by
  rw [List.drop_eq_getElem_cons h, runOps]
theorem runOps_over (ev : EvV) (R : RunV) (ops : List OpV) (k n : Nat) (h : k < ops.length) :
    runOps ev (ops.drop k) (n + 1) R = runOps ev (ops.drop (k + 1)) n R := by
  rw [List.drop_eq_getElem_cons h, runOps]
theorem runOps_nil (ev : EvV) (R : RunV) (n : Nat) : runOps ev [] n R = R := by cases n <;> rfl

set_option maxRecDepth 100000 in
set_option maxHeartbeats 4000000 in
theorem doAll_any (ops : List OpV) (hok : opsOk ops = true) (h8 : ops.length ≤ 8) (ov : Value) (q : Nat) (s : StV) (ev : EvV) (w : World) (vs vo : Value) (hR : ImMem w q s ev 0 vs vo [] []) (hs : stIn s) (ha0 : 0 ≤ ev.arg) (ha1 : ev.arg ≤ 999) (ht0 : 0 ≤ ev.time) (ht1 : ev.time ≤ 40)
    (ho : ∀ w', Below q w w' → OpsAt w' ov ops) :
    Calls Tryd.prog 86 #[.pointer (some ⟨q, 0, none⟩), ov] w fun e w' => ∃ sk vs' vo', e = .returned (.tuple #[]) ∧ ImMem w' q (runOps ev ops 0 ⟨s, [], []⟩).st ev sk vs' vo' (runOps ev ops 0 ⟨s, [], []⟩).sends (runOps ev ops 0 ⟨s, [], []⟩).outs ∧ stIn (runOps ev ops 0 ⟨s, [], []⟩).st ∧ Below q w w' := by
  obtain ⟨oad, ocap, hov, hlc, hlm⟩ : ∃ oad ocap, ov = .slice oad ops.length ocap ∧ ops.length ≤ ocap ∧ ops.length ≤ maxLen := by obtain ⟨x, y, h, h2, h3, _⟩ := ho w (Below.refl _ _); exact ⟨x, y, h, h2, h3⟩
  subst hov
  obtain ⟨RA, hRA⟩ : ∃ RA, RA = runOps ev ops 0 ⟨s, [], []⟩ := ⟨_, rfl⟩
  rw [← hRA]
  have HRA := hide hRA
  have HO := hide ho
  have HR := hide hR
  have HS := hide hs
  have HOK := hide hok
  have HQ : Hid (q < w.heap.size) := hide (World.block_lt_of_cell? w ⟨q, 7, none⟩ hR.x0)
  clear hRA ho hR hs hok
  unfold maxLen at hlm
  go_enter Tryd.func86, Tryd.ntmps86
  go_wp2_with fail
  go_loopw [8] (fun i wr => ∃ (k : Nat) (R : RunV) (sk : Int) (vs2 vo2 : Value), k ≤ ops.length ∧ i = .int .i64 k ∧ 0 ≤ sk ∧ sk ≤ 8 ∧ RA = runOps ev (ops.drop k) sk.toNat R ∧ ImMem wr q R.st ev sk vs2 vo2 R.sends R.outs ∧ stIn R.st ∧ R.sends.length ≤ k ∧ R.outs.length ≤ k ∧ Below q w wr) (fun i _ => ops.length - (intOf i).toNat)
  case atStart => exact ⟨0, ⟨s, [], []⟩, 0, vs, vo, Nat.zero_le _, rfl, by omega, by omega, unhide HRA, unhide HR, unhide HS, by simp, by simp, Below.refl _ _⟩
  case round =>
    obtain ⟨k, R, sk, vs2, vo2, hk, rfl, hk0, hk8, hrun, hm0, hsi, hl1, hl2, hbr⟩ := hrel
    have HRUN := hide hrun
    have HM := hide hm0
    have HSI := hide hsi
    have HL1 := hide hl1
    have HL2 := hide hl2
    have HBR := hide hbr
    have hqz : q < wr.heap.size := World.block_lt_of_cell? wr ⟨q, 7, none⟩ hm0.x0
    clear hrun hm0 hsi hl1 hl2 hbr
    by_cases hlt : k < ops.length
    · obtain ⟨ad', cap', hv', hl', hm', hcc⟩ := (unhide HO) _ (unhide HBR)
      obtain ⟨rfl, rfl⟩ : ad' = oad ∧ cap' = ocap := by simp at hv'; exact ⟨hv'.1.symm, hv'.2.symm⟩
      clear hv' hl' hm'
      obtain ⟨ob, ooff, hoad, hoc⟩ : ∃ b off, ad' = some ⟨b, off, none⟩ ∧ OpCells wr b (off + k * 5) ops[k] := by
        rcases hcc with h | ⟨b, off, h1, h2⟩
        · rw [h] at hlt; exact absurd hlt (Nat.not_lt_zero _)
        · exact ⟨b, off, h1, h2 k hlt⟩
      subst hoad
      clear hcc
      have hoo := op_at (unhide HOK) k hlt
      have hdo := runOps_do ev R ops k hlt
      have hov := fun n => runOps_over ev R ops k n hlt
      generalize ops[k] = o at hoc hoo hdo
      have HDO := hide hdo
      have HOV := hide hov
      have HOO := hide hoo
      clear hdo hov hoo
      obtain ⟨c0, c1, c2, c3, c4⟩ := hoc
      have hob : ob < wr.heap.size := World.block_lt_of_cell? wr ⟨ob, _, none⟩ c0
      have hobn : ¬ ob = wr.heap.size := by omega
      have hqn : ¬ q = wr.heap.size := by omega
      have hqn2 : ¬ wr.heap.size = q := by omega
      have ck := (unhide HM).ck
      have fk := (unhide HM).fz 10
      have hkI : (k : Int) < (ops.length : Int) := by omega
      have hk0' : (0 : Int) ≤ (k : Int) := by omega
      by_cases hsk : 0 < sk
      · have HR1 : Hid (RA = runOps ev (ops.drop (k + 1)) (sk - 1).toNat R) := hide (by
          rw [unhide HRUN, show sk.toNat = (sk - 1).toNat + 1 by omega, (unhide HOV)])
        have HM1 := hide ((unhide HM).skip (sk - 1))
        go_wp2_with fail
        go_roundw
        case rel =>
          exact ⟨k + 1, R, sk - 1, vs2, vo2, by omega, by go_num, by omega, by omega, unhide HR1, (unhide HM1).on ((Below.refl _ _).alloc (Nat.le_refl _) _), unhide HSI, by have := unhide HL1; omega, by have := unhide HL2; omega, ((unhide HBR).setCell (Nat.le_refl q) _).alloc (by simp; omega) _⟩
        case measure => simp [intOf]; omega
      · have hsk0 : sk = 0 := by omega
        subst hsk0
        have HB1 : Hid (∀ x, Below wr.heap.size wr (wr.alloc x)) := hide (fun x => (Below.refl _ _).alloc (Nat.le_refl _) x)
        have HST := hide (impStep_any o (unhide HOO) q R.st ev vs2 vo2 R.sends R.outs (wr.alloc (.cells #[.int .i64 o.d, .int .i64 o.a, .int .i64 o.b, .int .i64 o.c, .int .i64 o.e] 77)) ((unhide HM).on ((unhide HB1) _)) (unhide HSI) ha0 ha1 ht0 ht1 (by have := unhide HL1; omega) (by have := unhide HL2; omega))
        have HB2 : Hid (Below q w (wr.alloc (.cells #[.int .i64 o.d, .int .i64 o.a, .int .i64 o.b, .int .i64 o.c, .int .i64 o.e] 77))) := hide ((unhide HBR).alloc (by omega) _)
        have HM2 := hide ((unhide HM).on ((unhide HB1) (.cells #[.int .i64 o.d, .int .i64 o.a, .int .i64 o.b, .int .i64 o.c, .int .i64 o.e] 77)))
        have hw1 : q < (wr.alloc (.cells #[.int .i64 o.d, .int .i64 o.a, .int .i64 o.b, .int .i64 o.c, .int .i64 o.e] 77)).heap.size := by simp; omega
        have HW1 := hide hw1
        clear hw1
        go_wp2_with fail
        obtain ⟨T, pay, F, hTF, hch, hdo⟩ := unhide HST
        have HDO2 := hide hdo
        clear hdo HST
        refine hch.mono ?_
        clear hch
        rintro e w4 ⟨rfl, hb4⟩
        have HM4 := hide ((unhide HM2).on hb4)
        have HB4 : Hid (Below q w w4) := hide ((unhide HB2).trans (hb4.mono (Nat.le_of_lt (unhide HW1))))
        clear hb4 HM2 HB2 HW1
        dsimp only
        generalize wr.alloc (.cells #[.int .i64 o.d, .int .i64 o.a, .int .i64 o.b, .int .i64 o.c, .int .i64 o.e] 77) = W1 at *
        rcases hTF with ⟨rfl, rfl⟩ | ⟨rfl, rfl⟩ | ⟨rfl, rfl⟩ | ⟨rfl, rfl⟩ | ⟨rfl, rfl⟩
        all_goals
          go_wp2_with fail
          refine ((unhide HDO2) _ (unhide HM4)).mono ?_
          rintro e w5 ⟨vs3, vo3, rfl, hm5, hb5⟩
          have HM5 := hide hm5
          have HB5 := hide ((unhide HB4).trans hb5)
          clear hm5 hb5
          dsimp only
          go_wp2_with fail
          go_roundw
          case rel =>
            have hsk2 := opSkip_in R.st o (unhide HOO)
            refine ⟨k + 1, stepRun ev o R, opSkip R.st o, vs3, vo3, by omega, by go_num, hsk2.1, hsk2.2, (unhide HRUN).trans (unhide HDO), unhide HM5, opSt_in (unhide HSI) ev o, ?_, ?_, unhide HB5⟩
            · have := unhide HL1; have := opSends_len R.st ev R.sends o; simp only [stepRun]; omega
            · have := unhide HL2; have := opOuts_len R.st ev R.outs o; simp only [stepRun]; omega
          case measure => simp [intOf]; omega
    · have hke : k = ops.length := by omega
      subst hke
      have hfin : RA = R := by have := unhide HRUN; rwa [List.drop_length, runOps_nil] at this
      have HF := hide hfin
      clear hfin
      have hkn : ¬ (ops.length : Int) < (ops.length : Int) := by omega
      go_wp2_with fail
      go_end0
      rw [unhide HF]
      exact ⟨rfl, ⟨sk, vs2, vo2, unhide HM⟩, unhide HSI, unhide HBR⟩
end Go.Proofs.YtjbgiepaehefpaaDoor
