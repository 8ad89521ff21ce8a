/- Steps: the exact laws' mark of them. -/
import Derived.Test.YtocgfngcgekciaaSteps2
namespace Go.Proofs.Ytocgfngcgekciaa
open Go.RowKit
set_option linter.unusedVariables false
set_option linter.unusedSimpArgs false


def szE (e : StepV) : Int := 4 + szT e
theorem szE_pos (e : StepV) : 0 ≤ szE e := by have := szT_pos e; unfold szE; omega
def markE (k : Int) (e : StepV) : StepV := ⟨(k % 3 == 0), k + 1, k + 2, k + 3, markN (k + 4) e.data⟩

set_option maxRecDepth 100000 in
set_option maxHeartbeats 2000000 in
theorem markSlotStepS_any (N : Nat) (v : Value) (vs : Nat → Value) (es : List StepV) (k0 : Int) (w : World) (h : StepsOwn N w v vs es) (hlen : ∀ e ∈ es, e.data.length ≤ 1000000000) (h0 : 0 ≤ k0) (h1 : k0 + gSz szE es ≤ 100000000000000) :
    Calls Try.prog 36 #[v, .int .i64 k0] w fun e w' => e = .returned (.int .i64 (k0 + gSz szE es)) ∧ StepsOwn N w' v vs (gMark markE szE k0 es) ∧ OnlyIn (stepBlk v es vs) w w' := by
  have HL := hide hlen
  have HTOT : Hid (∀ i, k0 + gSz szE (es.take i) ≤ 100000000000000 ∧ 0 ≤ k0 + gSz szE (es.take i)) := hide (fun i => by
    have h2 := gSz_take szE szE_pos es i
    have h3 := gSz_pos szE szE_pos (es.take i)
    omega)
  have H := hide h
  rcases h.lies with ⟨rfl, rfl⟩ | ⟨g, cap, f0, rfl, hN, hlc, hm, hr0, hf0⟩
  · go_enter Try.func36, Try.ntmps36
    go_wp2_with fail
    go_loop [1, 5] (fun a i => a = .int .i64 k0 ∧ i = .int .i64 0) (fun _ _ => 0)
    case atStart => exact ⟨rfl, rfl⟩
    case round =>
      obtain ⟨rfl, rfl⟩ := hrel
      go_wp2
      go_ret
      exact ⟨ret_int (by simp [gSz]), unhide H, OnlyIn.refl _ _⟩
  have HMX := hide hm
  unfold maxLen at hm
  have HR0 := hide hr0
  have HF0 := hide hf0
  clear h hlen hr0 hf0
  have hthree : (3 : Int) ≠ 0 := by decide
  go_enter Try.func36, Try.ntmps36
  go_wp2_with fail
  go_loopw [1, 5] (fun a i wr => ∃ (k : Nat) (m : Int) (f : Nat → Value), k ≤ es.length ∧ i = .int .i64 k ∧ a = .int .i64 m ∧ Hid (m = k0 + gSz szE (es.take k)) ∧ 0 ≤ m ∧ m ≤ 100000000000000 ∧ Hid (wr.rowIs g 45 (cap * 5) f) ∧ Hid (∀ i (h : i < (gMix markE szE k0 es k).length) j (hj : j < 5), f (i * 5 + j) = (stepCells (gMix markE szE k0 es k)[i] (vs i))[j]) ∧ Hid (∀ i (h : i < (gMix markE szE k0 es k).length), RowsFr N 3 1 wr (vs i) ((gMix markE szE k0 es k)[i].data.map fun z => [z])) ∧ Hid (OnlyIn (stepBlk (.slice (some ⟨g, 0, none⟩) es.length cap) es vs) w wr)) (fun _ i _ => es.length - (intOf i).toNat)
  case atStart => exact ⟨0, k0, f0, Nat.zero_le _, rfl, rfl, hide (by simp [gSz]), h0, by have := ((unhide HTOT) 0).1; simp [gSz] at this; omega, HR0, hide (by rw [gMix_zero]; exact unhide HF0), hide (by rw [gMix_zero]; exact (unhide H).rows), hide (OnlyIn.refl _ _)⟩
  case round =>
    obtain ⟨k, m, f, hk, rfl, rfl, HM, hm0, hm1, HROW, HF, HP, HW⟩ := hrel
    by_cases hlt : k < es.length
    · have hml := gMix_len markE szE k0 es k hk
      have hkm : k < (gMix markE szE k0 es k).length := by rw [hml]; exact hlt
      have hrow := unhide HROW
      have hcell : ∀ j (hj : j < 5), f (k * 5 + j) = (stepCells es[k] (vs k))[j] := fun j hj => by
        have e := (unhide HF) k hkm j hj
        rw [e]
        simp only [gMix_at markE szE k0 es k hlt hkm]
      have hown := (unhide HP) k hkm
      rw [gMix_at markE szE k0 es k hlt hkm] at hown
      have hlp := (unhide HL) es[k] (List.getElem_mem hlt)
      have htot := (unhide HTOT) (k + 1)
      rw [take_more es k hlt, gSz_snoc, ← Int.add_assoc, ← unhide HM] at htot
      obtain ⟨l, hle⟩ : ∃ l, l = es[k] := ⟨_, rfl⟩
      rw [← hle] at hown hlp htot
      simp only [← hle] at hcell
      have HLE := hide hle
      obtain ⟨ea, ca, hea⟩ := RowsFr_sliced hown
      rw [List.length_map] at hea
      have hkI : (k : Int) < (es.length : Int) := by omega
      have hk0 : (0 : Int) ≤ (k : Int) := by omega
      have g0 : wr.cell? ⟨g, k * 5, none⟩ = some (.bool l.sec) := by have x := hrow.cell (i := k * 5 + 0) (mul_place (by omega) (by omega)); rw [hcell 0 (by omega)] at x; exact x
      have g1 : wr.cell? ⟨g, k * 5 + 1, none⟩ = some (.int .i64 l.sct) := by have x := hrow.cell (i := k * 5 + 1) (mul_place (by omega) (by omega)); rw [hcell 1 (by omega)] at x; exact x
      have g2 : wr.cell? ⟨g, k * 5 + 2, none⟩ = some (.int .i64 l.num) := by have x := hrow.cell (i := k * 5 + 2) (mul_place (by omega) (by omega)); rw [hcell 2 (by omega)] at x; exact x
      have g3 : wr.cell? ⟨g, k * 5 + 3, none⟩ = some (.int .i64 l.cnt) := by have x := hrow.cell (i := k * 5 + 3) (mul_place (by omega) (by omega)); rw [hcell 3 (by omega)] at x; exact x
      have z0 : wr.frozen? ⟨g, k * 5, none⟩ = false := hrow.frozen (k * 5 + 0)
      have z1 : wr.frozen? ⟨g, k * 5 + 1, none⟩ = false := hrow.frozen (k * 5 + 1)
      have z2 : wr.frozen? ⟨g, k * 5 + 2, none⟩ = false := hrow.frozen (k * 5 + 2)
      have z3 : wr.frozen? ⟨g, k * 5 + 3, none⟩ = false := hrow.frozen (k * 5 + 3)
      have HF4 : Hid (f (k * 5 + 4) = vs k) := hide (hcell 4 (by omega))
      have HPO := hide hown
      have HEA := hide hea
      have HTO := hide htot
      have hto1 : m + 4 + (l.data.length : Int) ≤ 100000000000000 := by have := htot.1; unfold szE szT at this; omega
      have hrow1 := setVals_row [.bool (m % 3 == 0), .int .i64 (m + 1), .int .i64 (m + 1 + 1), .int .i64 (m + 1 + 1 + 1)] (k * 5) wr f hrow
      have HROW1 := hide hrow1
      have HSO := hide (fun b (hb : b ≠ g) => setVals_other (b := g) [.bool (m % 3 == 0), .int .i64 (m + 1), .int .i64 (m + 1 + 1), .int .i64 (m + 1 + 1 + 1)] (k * 5) wr b hb)
      have HSB := hide (fun B (hB : B ≤ g) => setVals_below (b := g) [.bool (m % 3 == 0), .int .i64 (m + 1), .int .i64 (m + 1 + 1), .int .i64 (m + 1 + 1 + 1)] (k * 5) wr (Below.refl B wr) hB)
      have HSS := hide (setVals_size (b := g) [.bool (m % 3 == 0), .int .i64 (m + 1), .int .i64 (m + 1 + 1), .int .i64 (m + 1 + 1 + 1)] (k * 5) wr)
      have c4 : (setVals wr g (k * 5) [.bool (m % 3 == 0), .int .i64 (m + 1), .int .i64 (m + 1 + 1), .int .i64 (m + 1 + 1 + 1)]).cell? ⟨g, k * 5 + 4, none⟩ = some (.slice ea l.data.length ca) := by
        rw [hrow1.cell (mul_place (by omega) (by omega))]
        show some (if k * 5 ≤ k * 5 + 4 ∧ k * 5 + 4 < k * 5 + 4 then _ else f (k * 5 + 4)) = _
        rw [if_neg (by omega), hcell 4 (by omega)]
        show some (vs k) = _
        rw [hea]
      have HCL := hide c4
      clear c4 hrow1 hcell hown hrow hle hea hml htot hkm
      go_upto_region 12 with fail
      clear g0 z0 g1 z1 g2 z2 g3 z3
      change Code.wp _ _ _ _ (setVals wr g (k * 5) [.bool (m % 3 == 0), .int .i64 (m + 1), .int .i64 (m + 1 + 1), .int .i64 (m + 1 + 1 + 1)])
      generalize setVals wr g (k * 5) [.bool (m % 3 == 0), .int .i64 (m + 1), .int .i64 (m + 1 + 1), .int .i64 (m + 1 + 1 + 1)] = w1 at *
      have c4 := unhide HCL
      have HPO1 := hide ((unhide HPO).block (w' := w1) (fun b hb _ => (unhide HSO) b (fun e => (unhide H).off k hlt b hb (by rw [e]; rfl))))
      have hroom := (unhide HPO1).room
      rw [List.length_map, unhide HEA] at hroom
      have HROOM := hide hroom
      clear hroom
      go_wp2_with fail
      refine (markIntS_any N 3 _ l.data.length (m + 1 + 1 + 1 + 1) w1 (unhide HROOM) (by omega) (by omega) (by omega)).mono ?_
      rintro e w2 ⟨rfl, hp2, ho2⟩
      have HP2 := hide hp2
      have HO2 := hide ho2
      clear hp2 ho2 c4
      go_wp2_with fail
      go_roundw
      case rel =>
        have hkm : k < (gMix markE szE k0 es k).length := by rw [gMix_len markE szE k0 es k hk]; exact hlt
        have hp2 := unhide HP2
        have ho2 := unhide HO2
        rw [← unhide HEA] at hp2 ho2
        rw [← markN_rows] at hp2
        have hr2 := (unhide HROW1).of_block (ho2.other g (fun e => (unhide H).off k hlt g e rfl))
        have e1 : (gMix markE szE k0 es k).set k (markE m l) = gMix markE szE k0 es (k + 1) := by
          rw [unhide HM, unhide HLE]
          exact gMix_set markE szE k0 es k hlt
        have hw1 : OnlyIn (stepBlk (.slice (some ⟨g, 0, none⟩) es.length cap) es vs) wr w1 := ⟨unhide HSS, fun b hb => (unhide HSO) b (fun e => hb (Or.inl (by rw [e]; rfl))), fun B hB => (unhide HSB) B (hB g (Or.inl rfl))⟩
        have hw2 : OnlyIn (stepBlk (.slice (some ⟨g, 0, none⟩) es.length cap) es vs) w1 w2 := OnlyIn.of_only ho2 (fun b hb => Or.inr ⟨k, hlt, hb⟩)
        have hmm : m + 1 + 1 + 1 + 1 + (l.data.length : Int) = m + szE l := by unfold szE szT; omega
        refine ⟨k + 1, _, _, by omega, by go_num, rfl, hide (by rw [hmm, unhide HM, take_more es k hlt, gSz_snoc, unhide HLE]; omega), by rw [hmm]; exact (unhide HTO).2, by rw [hmm]; exact (unhide HTO).1, hide hr2, hide ?_, hide ?_, hide ((unhide HW).trans (hw1.trans hw2))⟩
        · intro i hi j hj
          have hi' : i < (gMix markE szE k0 es k).length := by rw [← e1, List.length_set] at hi; exact hi
          have ei : (gMix markE szE k0 es (k + 1))[i] = ((gMix markE szE k0 es k).set k (markE m l))[i]'(by rw [List.length_set]; exact hi') := by simp only [e1]
          rw [ei]
          by_cases e : i = k
          · subst e
            simp only [List.getElem_set_self]
            show (if i * 5 ≤ i * 5 + j ∧ i * 5 + j < i * 5 + 4 then _ else f (i * 5 + j)) = _
            by_cases hj4 : j < 4
            · rw [if_pos (by omega), Nat.add_sub_cancel_left]
              have : j = 0 ∨ j = 1 ∨ j = 2 ∨ j = 3 := by omega
              rcases this with rfl | rfl | rfl | rfl
              · simp [stepCells, markE]
              · simp [stepCells, markE]
              · simp [stepCells, markE]; omega
              · simp [stepCells, markE]; omega
            · obtain rfl : j = 4 := by omega
              rw [if_neg (by omega), unhide HF4]
              rfl
          · have e2 : ((gMix markE szE k0 es k).set k (markE m l))[i]'(by rw [List.length_set]; exact hi') = (gMix markE szE k0 es k)[i] := by simp [List.getElem_set, Ne.symm e]
            rw [e2]
            show (if k * 5 ≤ i * 5 + j ∧ i * 5 + j < k * 5 + 4 then _ else f (i * 5 + j)) = _
            rw [if_neg (by rcases Nat.lt_or_gt_of_ne e with h1 | h1 <;> omega)]
            exact (unhide HF) i hi' j hj
        · intro i hi
          have hi' : i < (gMix markE szE k0 es k).length := by rw [← e1, List.length_set] at hi; exact hi
          have hie : i < es.length := by rw [gMix_len markE szE k0 es k hk] at hi'; exact hi'
          have ei : (gMix markE szE k0 es (k + 1))[i] = ((gMix markE szE k0 es k).set k (markE m l))[i]'(by rw [List.length_set]; exact hi') := by simp only [e1]
          rw [ei]
          by_cases e : i = k
          · subst e
            simp only [List.getElem_set_self, markE]
            rw [show m + 4 = m + 1 + 1 + 1 + 1 by omega]
            exact hp2
          · have e2 : ((gMix markE szE k0 es k).set k (markE m l))[i]'(by rw [List.length_set]; exact hi') = (gMix markE szE k0 es k)[i] := by simp [List.getElem_set, Ne.symm e]
            rw [e2]
            have hb1 := ((unhide HP) i hi').block (w' := w1) (fun b hb _ => (unhide HSO) b (fun eb => (unhide H).off i hie b hb (by rw [eb]; rfl)))
            refine hb1.block (fun b hb _ => ho2.other b (fun eb => ?_))
            rcases Nat.lt_or_gt_of_ne e with h2 | h2
            · exact (unhide H).sep i k h2 hlt b hb eb
            · exact (unhide H).sep k i h2 hie b eb hb
      case measure => (simp [intOf]; try omega)
    · have hke : k = es.length := by omega
      have hkI : ¬ (k : Int) < (es.length : Int) := by omega
      go_wp2_with fail
      go_ret
      have h1 := unhide HF
      have h2 := unhide HP
      rw [hke] at h1 h2
      simp only [gMix_all] at h1 h2
      refine ⟨ret_int (by rw [unhide HM, hke, List.take_length]), ⟨Or.inr ⟨g, cap, f, by rw [gMark_len], hN, by rw [gMark_len]; exact hlc, unhide HMX, unhide HROW, h1⟩, h2, fun i hi => ?_, fun i j hij hj => ?_⟩, unhide HW⟩
      · rw [gMark_len] at hi
        exact (unhide H).off i hi
      · rw [gMark_len] at hj
        exact (unhide H).sep i j hij hj
end Go.Proofs.Ytocgfngcgekciaa
