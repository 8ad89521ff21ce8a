/- Lists of lanes in memory of their own; their marks. -/
import Derived.Test.YtgllaimjoneokaaLanes1
import Derived.Test.YtgllaimjoneokaaOwn6
import Derived.Test.YtgllaimjoneokaaOwn5
import Derived.Test.YtgllaimjoneokaaGMark
namespace Go.Proofs.Ytgllaimjoneokaa
open Go.RowKit
set_option linter.unusedVariables false
set_option linter.unusedSimpArgs false

structure LanesRow (N M : Nat) (w : World) (g : Nat) (f : Nat → Value) (A B : Nat → Nat) (vs : Nat → Value) (ls : List LaneV) : Prop where
  cells : ∀ i (h : i < ls.length) j (hj : j < 5), f (i * 5 + j) = (laneCells ls[i].proc ls[i].s (vs i))[j]
  own : ∀ i (h : i < ls.length), PastsOwn (A i) (B i) w (vs i) ls[i].ps
  lo : ∀ i, i < ls.length → N ≤ A i
  hi : ∀ i, i < ls.length → B i ≤ M
  out : ∀ i, i < ls.length → g < A i ∨ B i ≤ g
  asc : ∀ i j, i < j → j < ls.length → B i ≤ A j

/-- A list of such in memory of its own, all within the blocks from N on ahead of M. -/
def LanesOwn (N M : Nat) (w : World) (v : Value) (ls : List LaneV) : Prop :=
  (v = .slice none 0 0 ∧ ls = []) ∨ ∃ g cap f, ∃ (A B : Nat → Nat) (vs : Nat → Value), v = .slice (some ⟨g, 0, none⟩) ls.length cap ∧ N ≤ g ∧ g < M ∧ ls.length ≤ cap ∧ cap ≤ maxLen ∧ w.rowIs g 37 (cap * 5) f ∧ LanesRow N M w g f A B vs ls

theorem LanesOwn.at {N M : Nat} {w : World} {v : Value} {ls : List LaneV} (h : LanesOwn N M w v ls) : LanesAt w v ls := by
  rcases h with ⟨rfl, rfl⟩ | ⟨g, cap, f, A, B, vs, rfl, hN, hM, hlc, hm, hr, h⟩
  · exact ⟨none, 0, rfl, Nat.le_refl _, Nat.zero_le _, Or.inl rfl⟩
  · refine ⟨_, cap, rfl, hlc, Nat.le_trans hlc hm, Or.inr ⟨g, 0, rfl, fun i hi => ⟨vs i, fun j hj => ?_, (h.own i hi).at⟩⟩⟩
    have hj5 : j < 5 := hj
    rw [Nat.zero_add, hr.cell (i := i * 5 + j) (mul_place (by omega) hj5), h.cells i hi j hj5]

theorem LanesOwn.keep {N M : Nat} {w w' : World} {v : Value} {ls : List LaneV} (hk : ∀ b, N ≤ b → b < M → b < w.heap.size → w'.heap[b]? = w.heap[b]?) (h : LanesOwn N M w v ls) : LanesOwn N M w' v ls := by
  rcases h with ⟨rfl, rfl⟩ | ⟨g, cap, f, A, B, vs, rfl, hN, hM, hlc, hm, hr, h⟩
  · exact Or.inl ⟨rfl, rfl⟩
  · exact Or.inr ⟨g, cap, f, A, B, vs, rfl, hN, hM, hlc, hm, hr.of_block (hk g hN hM hr.lt), ⟨h.cells, fun i hi => (h.own i hi).keep2 (fun b h1 h2 h3 => hk b (Nat.le_trans (h.lo i hi) h1) (Nat.lt_of_lt_of_le h2 (h.hi i hi)) h3), h.lo, h.hi, h.out, h.asc⟩⟩

theorem LanesOwn.on {N M : Nat} {w w' : World} {v : Value} {ls : List LaneV} (hb : Below w.heap.size w w') (h : LanesOwn N M w v ls) : LanesOwn N M w' v ls := h.keep (fun b _ _ hl => hb.block b hl)

theorem LanesOwn.wide {N M N' M' : Nat} {w : World} {v : Value} {ls : List LaneV} (hN' : N' ≤ N) (hM' : M ≤ M') (h : LanesOwn N M w v ls) : LanesOwn N' M' w v ls := by
  rcases h with ⟨rfl, rfl⟩ | ⟨g, cap, f, A, B, vs, rfl, hN, hM, hlc, hm, hr, h⟩
  · exact Or.inl ⟨rfl, rfl⟩
  · exact Or.inr ⟨g, cap, f, A, B, vs, rfl, by omega, by omega, hlc, hm, hr, ⟨h.cells, h.own, fun i hi => Nat.le_trans hN' (h.lo i hi), fun i hi => Nat.le_trans (h.hi i hi) hM', h.out, h.asc⟩⟩

theorem LanesRow.set {N M : Nat} {w w' : World} {g i : Nat} {f f' : Nat → Value} {A B : Nat → Nat} {vs : Nat → Value} {ms : List LaneV} {l : LaneV} (h : LanesRow N M w g f A B vs ms) (hi : i < ms.length)
    (hf : ∀ j, f' j = if i * 5 ≤ j ∧ j < i * 5 + 5 then (laneCells l.proc l.s (vs i)).getD (j - i * 5) undef else f j)
    (ho : ∀ b, b ≠ g → ¬ (A i ≤ b ∧ b < B i) → w'.heap[b]? = w.heap[b]?) (hq : PastsOwn (A i) (B i) w' (vs i) l.ps) :
    LanesRow N M w' g f' A B vs (ms.set i l) := by
  refine ⟨fun k hk j hj => ?_, fun k hk => ?_, fun k hk => h.lo k (by simpa using hk), fun k hk => h.hi k (by simpa using hk), fun k hk => h.out k (by simpa using hk), fun a b hab hb => h.asc a b hab (by simpa using hb)⟩
  · have hk2 : k < ms.length := by simpa using hk
    by_cases e : k = i
    · subst e
      have hj2 : j < (laneCells l.proc l.s (vs k)).length := hj
      rw [hf, if_pos (by omega), Nat.add_sub_cancel_left, List.getD_eq_getElem?_getD, List.getElem?_eq_getElem hj2, Option.getD_some]
      simp
    · have e2 : (ms.set i l)[k] = ms[k] := by simp [List.getElem_set, Ne.symm e]
      rw [hf, if_neg (by rcases Nat.lt_or_gt_of_ne e with h1 | h1 <;> omega), h.cells k hk2 j hj]
      simp only [e2]
  · have hk2 : k < ms.length := by simpa using hk
    by_cases e : k = i
    · subst e
      simpa using hq
    · have e2 : (ms.set i l)[k] = ms[k] := by simp [List.getElem_set, Ne.symm e]
      rw [e2]
      refine (h.own k hk2).keep (fun b h1 h2 => ho b ?_ ?_)
      · rintro rfl
        have := h.out k hk2
        omega
      · rintro ⟨h3, h4⟩
        rcases Nat.lt_or_gt_of_ne e with h5 | h5
        · have := h.asc k i h5 hi; omega
        · have := h.asc i k h5 hk2; omega

def szL (l : LaneV) : Int := 4 + szPs l.ps
def markL (k : Int) (l : LaneV) : LaneV := ⟨k, ⟨k + 1, k + 2, k + 3⟩, markPs (k + 4) l.ps⟩
theorem szL_pos (l : LaneV) : 0 ≤ szL l := by have := szPs_pos l.ps; unfold szL; omega
theorem markL_cells (m : Int) (l : LaneV) (a : Value) : ([.int .i64 m, .int .i64 (m + 1), .int .i64 (m + 1 + 1), .int .i64 (m + 1 + 1 + 1)] : List Value) ++ [a] = laneCells (markL m l).proc (markL m l).s a := by
  simp only [markL, laneCells, List.cons_append, List.nil_append, List.cons.injEq, Value.int.injEq, and_true, true_and]
  omega

set_option maxRecDepth 100000 in
set_option maxHeartbeats 2000000 in
theorem markLaneS_any (N M : Nat) (v : Value) (ls : List LaneV) (k0 : Int) (w : World) (h : LanesOwn N M w v ls) (hl : ∀ l ∈ ls, l.ps.length ≤ 1048576 ∧ ∀ p ∈ l.ps, p.sends.length ≤ 1048576 ∧ p.outs.length ≤ 1048576) (h0 : 0 ≤ k0) (h1 : k0 + gSz szL ls ≤ 100000000000000) :
    Calls Try.prog 56 #[v, .int .i64 k0] w fun e w' => e = .returned (.int .i64 (k0 + gSz szL ls)) ∧ LanesOwn N M w' v (gMark markL szL k0 ls) ∧ Within N M w w' := by
  have HL := hide hl
  rcases h with ⟨rfl, rfl⟩ | ⟨g, cap, f0, A, B, vs, rfl, hN, hM, hlc, hm, hr0, hin0⟩
  · go_enter Try.func56, Try.ntmps56
    go_wp2_with fail
    go_loop [1, 5] (fun a i => a = .int .i64 k0 ∧ i = .int .i64 0) (fun _ _ => 0)
    case atStart => exact ⟨rfl, rfl⟩
    case round =>
      obtain ⟨rfl, rfl⟩ := hrel
      go_wp2
      go_ret
      exact ⟨ret_int (by simp [gSz]), Or.inl ⟨rfl, rfl⟩, Within.refl _ _ _⟩
  have HMX := hide hm
  unfold maxLen at hm
  have HTOT : Hid (∀ i, k0 + gSz szL (ls.take i) ≤ 100000000000000 ∧ 0 ≤ k0 + gSz szL (ls.take i)) := hide (fun i => by
    have h2 := gSz_take szL szL_pos ls i
    have h3 := gSz_pos szL szL_pos (ls.take i)
    omega)
  have HR0 := hide hr0
  have HIN0 := hide hin0
  clear hr0 hin0 hl
  go_enter Try.func56, Try.ntmps56
  go_wp2_with fail
  go_loopw [1, 5] (fun a i wr => ∃ (k : Nat) (m : Int) (f : Nat → Value), k ≤ ls.length ∧ i = .int .i64 k ∧ a = .int .i64 m ∧ Hid (m = k0 + gSz szL (ls.take k)) ∧ 0 ≤ m ∧ m ≤ 100000000000000 ∧ Hid (wr.rowIs g 37 (cap * 5) f) ∧ Hid (LanesRow N M wr g f A B vs (gMix markL szL k0 ls k)) ∧ Hid (Within N M w wr)) (fun _ i _ => ls.length - (intOf i).toNat)
  case atStart => exact ⟨0, k0, f0, Nat.zero_le _, rfl, rfl, hide (by simp [gSz]), h0, by have := ((unhide HTOT) 0).1; simp [gSz] at this; omega, HR0, hide (by rw [gMix_zero]; exact unhide HIN0), hide (Within.refl _ _ _)⟩
  case round =>
    obtain ⟨k, m, f, hk, rfl, rfl, HM2, hm0, hm1, HROW, HP, HW⟩ := hrel
    by_cases hlt : k < ls.length
    · have hml := gMix_len markL szL k0 ls k hk
      have hrow := unhide HROW
      have hcell : ∀ j (hj : j < 5), f (k * 5 + j) = (laneCells ls[k].proc ls[k].s (vs k))[j] := fun j hj => by
        have e := (unhide HP).cells k (by omega) j hj
        rw [e]
        simp only [gMix_at markL szL k0 ls k hlt (by omega)]
      have hown := (unhide HP).own k (by omega)
      rw [gMix_at markL szL k0 ls k hlt (by omega)] at hown
      have hlp := (unhide HL) ls[k] (List.getElem_mem hlt)
      have htot := (unhide HTOT) (k + 1)
      rw [take_more ls k hlt, gSz_snoc, ← Int.add_assoc, ← unhide HM2] at htot
      obtain ⟨l, hle⟩ : ∃ l, l = ls[k] := ⟨_, rfl⟩
      rw [← hle] at hown hlp htot
      simp only [← hle] at hcell
      have HLE := hide hle
      obtain ⟨us, hpo, hnd⟩ := hown
      obtain ⟨ea, ca, hea⟩ := hpo.at.sliced
      have hkI : (k : Int) < (ls.length : Int) := by omega
      have g0 : wr.cell? ⟨g, k * 5, none⟩ = some (f (k * 5 + 0)) := hrow.cell (i := k * 5 + 0) (mul_place (by omega) (by omega))
      have z0 : wr.frozen? ⟨g, k * 5, none⟩ = false := hrow.frozen (k * 5 + 0)
      have g1 : wr.cell? ⟨g, k * 5 + 1, none⟩ = some (f (k * 5 + 1)) := hrow.cell (i := k * 5 + 1) (mul_place (by omega) (by omega))
      have z1 : wr.frozen? ⟨g, k * 5 + 1, none⟩ = false := hrow.frozen (k * 5 + 1)
      have g2 : wr.cell? ⟨g, k * 5 + 2, none⟩ = some (f (k * 5 + 2)) := hrow.cell (i := k * 5 + 2) (mul_place (by omega) (by omega))
      have z2 : wr.frozen? ⟨g, k * 5 + 2, none⟩ = false := hrow.frozen (k * 5 + 2)
      have g3 : wr.cell? ⟨g, k * 5 + 3, none⟩ = some (f (k * 5 + 3)) := hrow.cell (i := k * 5 + 3) (mul_place (by omega) (by omega))
      have z3 : wr.frozen? ⟨g, k * 5 + 3, none⟩ = false := hrow.frozen (k * 5 + 3)
      have hset : ((((wr.setCell ⟨g, k * 5, none⟩ (.int .i64 m)).setCell ⟨g, k * 5 + 1, none⟩ (.int .i64 (m + 1))).setCell ⟨g, k * 5 + 2, none⟩ (.int .i64 (m + 1 + 1))).setCell ⟨g, k * 5 + 3, none⟩ (.int .i64 (m + 1 + 1 + 1))) = setVals wr g (k * 5) [.int .i64 m, .int .i64 (m + 1), .int .i64 (m + 1 + 1), .int .i64 (m + 1 + 1 + 1)] := rfl
      have hrow1 := setVals_row [.int .i64 m, .int .i64 (m + 1), .int .i64 (m + 1 + 1), .int .i64 (m + 1 + 1 + 1)] (k * 5) wr f hrow
      have c4 : ((((wr.setCell ⟨g, k * 5, none⟩ (.int .i64 m)).setCell ⟨g, k * 5 + 1, none⟩ (.int .i64 (m + 1))).setCell ⟨g, k * 5 + 2, none⟩ (.int .i64 (m + 1 + 1))).setCell ⟨g, k * 5 + 3, none⟩ (.int .i64 (m + 1 + 1 + 1))).cell? ⟨g, k * 5 + 4, none⟩ = some (.slice ea l.ps.length ca) := by
        rw [hset, hrow1.cell (mul_place (by omega) (by omega))]
        show some (if k * 5 ≤ k * 5 + 4 ∧ k * 5 + 4 < k * 5 + 4 then _ else f (k * 5 + 4)) = _
        rw [if_neg (by omega), hcell 4 (by omega)]
        show some (vs k) = _
        rw [hea]
      have HCL := hide c4
      have HSET := hide hset
      have HROW1 := hide hrow1
      have HEA := hide hea
      have HF : Hid (f (k * 5 + 4) = vs k) := hide (hcell 4 (by omega))
      have HPO := hide hpo
      have HND := hide hnd
      have hlp1 := hlp.1
      have HLP := hide hlp.2
      have HTO := hide htot
      have hto1 : m + 4 + szPs l.ps ≤ 100000000000000 := by have := htot.1; unfold szL at this; omega
      have hto2 : 0 ≤ m + 4 + szPs l.ps := by have := szPs_pos l.ps; omega
      clear c4 hset hrow1 hcell hpo hnd hrow hle hea hml hlp htot
      go_upto_region 12 with fail
      clear g0 z0 g1 z1 g2 z2 g3 z3
      generalize ((((wr.setCell ⟨g, k * 5, none⟩ (.int .i64 m)).setCell ⟨g, k * 5 + 1, none⟩ (.int .i64 (m + 1))).setCell ⟨g, k * 5 + 2, none⟩ (.int .i64 (m + 1 + 1))).setCell ⟨g, k * 5 + 3, none⟩ (.int .i64 (m + 1 + 1 + 1))) = w1 at *
      have c4 := unhide HCL
      go_wp2_with fail
      refine (markPastS_any (A k) (B k) _ us l.ps (m + 1 + 1 + 1 + 1) w1 ?_ (by have := unhide HND; rw [unhide HEA] at this; exact this) hlp1 (unhide HLP) (by omega) (by have := szPs_pos l.ps; omega)).mono ?_
      · rw [← unhide HEA, unhide HSET]
        exact (unhide HPO).keep (fun b hb1 hb2 => setVals_other _ _ _ _ (by
          have := (unhide HP).out k (by rw [gMix_len markL szL k0 ls k hk]; exact hlt)
          omega))
      rintro e w2 ⟨rfl, hp2, hw2⟩
      have HP2 := hide hp2
      have HW2 := hide hw2
      clear hp2 hw2 c4
      go_wp2_with fail
      go_roundw
      case rel =>
        have hkm : k < (gMix markL szL k0 ls k).length := by rw [gMix_len markL szL k0 ls k hk]; exact hlt
        have hout := (unhide HP).out k hkm
        have hlo := (unhide HP).lo k hkm
        have hhi := (unhide HP).hi k hkm
        have hr1 := unhide HROW1
        rw [← unhide HSET] at hr1
        have hr2 := hr1.of_block ((unhide HW2).other g (by omega))
        have hw1 : Within N M wr w1 := by rw [unhide HSET]; exact Within.vals _ hN hM
        have hw12 : Within N M w1 w2 := ⟨(unhide HW2).size, fun b hb => (unhide HW2).other b (by omega), fun B' hB => (unhide HW2).below B' (by omega)⟩
        have hs : LanesRow N M w2 g (fun j => if k * 5 ≤ j ∧ j < k * 5 + ([.int .i64 m, .int .i64 (m + 1), .int .i64 (m + 1 + 1), .int .i64 (m + 1 + 1 + 1)] : List Value).length then ([.int .i64 m, .int .i64 (m + 1), .int .i64 (m + 1 + 1), .int .i64 (m + 1 + 1 + 1)] : List Value).getD (j - k * 5) undef else f j) A B vs ((gMix markL szL k0 ls k).set k (markL m l)) := by
          refine (unhide HP).set hkm (fun j => ?_) (fun b h1 h2 => ?_) ?_
          · by_cases hj : k * 5 ≤ j ∧ j < k * 5 + 5
            · rw [if_pos hj]
              obtain ⟨i, rfl⟩ : ∃ i, j = k * 5 + i := ⟨j - k * 5, by omega⟩
              rw [Nat.add_sub_cancel_left]
              show (if k * 5 ≤ k * 5 + i ∧ k * 5 + i < k * 5 + 4 then ([.int .i64 m, .int .i64 (m + 1), .int .i64 (m + 1 + 1), .int .i64 (m + 1 + 1 + 1)]).getD i undef else f (k * 5 + i)) = _
              rw [← markL_cells m l (vs k)]
              by_cases hi : i < 4
              · rw [if_pos (by omega)]
                simp only [List.getD_eq_getElem?_getD]
                rw [List.getElem?_append_left (by simpa using hi)]
              · rw [if_neg (by omega)]
                obtain rfl : i = 4 := by omega
                exact unhide HF
            · rw [if_neg hj]
              show (if k * 5 ≤ j ∧ j < k * 5 + 4 then _ else f j) = _
              rw [if_neg (by omega)]
          · rw [(unhide HW2).other b h2, unhide HSET]
            exact setVals_other _ _ _ _ h1
          · have hp := unhide HP2
            rw [← unhide HEA] at hp
            rw [show m + 1 + 1 + 1 + 1 = m + 4 by omega] at hp
            exact ⟨us, hp, unhide HND⟩
        have e1 : (gMix markL szL k0 ls k).set k (markL m l) = gMix markL szL k0 ls (k + 1) := by
          rw [unhide HM2, unhide HLE]
          exact gMix_set markL szL k0 ls k hlt
        rw [e1] at hs
        have hmm : m + 1 + 1 + 1 + 1 + szPs l.ps = m + szL l := by unfold szL; omega
        exact ⟨k + 1, _, _, by omega, by go_num, rfl, hide (by rw [hmm, unhide HM2, take_more ls k hlt, gSz_snoc, unhide HLE]; omega), by rw [hmm]; exact (unhide HTO).2, by rw [hmm]; exact (unhide HTO).1, hide hr2, hide hs, hide ((unhide HW).trans (hw1.trans hw12))⟩
      case measure => (simp [intOf]; try omega)
    · have hke : k = ls.length := by omega
      have hkI : ¬ (k : Int) < (ls.length : Int) := by omega
      go_wp2_with fail
      go_ret
      refine ⟨ret_int (by rw [unhide HM2, hke, List.take_length]), ?_, unhide HW⟩
      have h1 := unhide HP
      rw [hke, gMix_all] at h1
      exact Or.inr ⟨g, cap, f, A, B, vs, by rw [gMark_len], hN, hM, by rw [gMark_len]; exact hlc, unhide HMX, unhide HROW, h1⟩

set_option maxRecDepth 100000 in
set_option maxHeartbeats 2000000 in
theorem heldLaneS_any (v : Value) (ls : List LaneV) (k0 : Int) (w : World) (h : LanesAt w v (gMark markL szL k0 ls)) (hl : ∀ l ∈ ls, l.ps.length ≤ 1048576 ∧ ∀ p ∈ l.ps, p.sends.length ≤ 1048576 ∧ p.outs.length ≤ 1048576) (h0 : 0 ≤ k0) (h1 : k0 + gSz szL ls ≤ 100000000000000) :
    Calls Try.prog 61 #[v, .int .i64 k0] w fun e w' => e = .returned (.int .i64 (k0 + gSz szL ls)) ∧ w' = w := by
  obtain ⟨a1, c1, rfl, hlc, hm, hc⟩ := h
  rw [gMark_len] at hlc hm ⊢
  have HC := hide hc
  have HL := hide hl
  have HTOT : Hid (∀ i, k0 + gSz szL (ls.take i) ≤ 100000000000000 ∧ 0 ≤ k0 + gSz szL (ls.take i)) := hide (fun i => by
    have h2 := gSz_take szL szL_pos ls i
    have h3 := gSz_pos szL szL_pos (ls.take i)
    omega)
  clear hc hl
  unfold maxLen at hm
  have hne : ∀ x : Int, (x != x) = false := by intro x; simp
  go_enter Try.func61, Try.ntmps61
  go_wp2_with fail
  go_loop [1, 5] (fun a i => ∃ (k : Nat) (m : Int), k ≤ ls.length ∧ i = .int .i64 k ∧ a = .int .i64 m ∧ Hid (m = k0 + gSz szL (ls.take k)) ∧ 0 ≤ m ∧ m ≤ 100000000000000) (fun _ i => ls.length - (intOf i).toNat)
  case atStart => exact ⟨0, k0, Nat.zero_le _, rfl, rfl, hide (by simp [gSz]), h0, by have := ((unhide HTOT) 0).1; simp [gSz] at this; omega⟩
  case round =>
    obtain ⟨k, m, hk, rfl, rfl, HM2, hm0, hm1⟩ := hrel
    by_cases hlt : k < ls.length
    · have hmk := gMark_at markL szL ls k0 k hlt (by rw [gMark_len]; exact hlt)
      rw [← unhide HM2] at hmk
      obtain ⟨b, off, vd, had, hcc, hp⟩ : ∃ b off vd, a1 = some ⟨b, off, none⟩ ∧ CellsAt w b (off + k * 5) (laneCells (markL m ls[k]).proc (markL m ls[k]).s vd) ∧ PastsAt w vd (markL m ls[k]).ps := by
        rcases unhide HC with h | ⟨b, off, h1, h2⟩
        · have := congrArg List.length h
          rw [gMark_len] at this
          simp at this
          rw [this] at hlt
          exact absurd hlt (Nat.not_lt_zero _)
        · obtain ⟨vd, h3, h4⟩ := h2 k (by rw [gMark_len]; exact hlt)
          rw [hmk] at h3 h4
          exact ⟨b, off, vd, h1, h3, h4⟩
      subst had
      have hlp := (unhide HL) ls[k] (List.getElem_mem hlt)
      have htot := (unhide HTOT) (k + 1)
      rw [take_more ls k hlt, gSz_snoc, ← Int.add_assoc, ← unhide HM2] at htot
      obtain ⟨l, hle⟩ : ∃ l, l = ls[k] := ⟨_, rfl⟩
      rw [← hle] at hcc hp hlp htot
      have HLE := hide hle
      clear hle hmk
      obtain ⟨ea, ca, hea⟩ : ∃ a c, vd = .slice a l.ps.length c := by
        obtain ⟨a, c, h⟩ := hp.sliced
        exact ⟨a, c, by rw [h]; simp only [markL, markPs_len]⟩
      subst hea
      have hkI : (k : Int) < (ls.length : Int) := by omega
      have q0 : w.cell? ⟨b, off + k * 5, none⟩ = some (.int .i64 m) := hcc 0 (by simp)
      have q1 : w.cell? ⟨b, off + k * 5 + 1, none⟩ = some (.int .i64 (m + 1)) := by
        rw [show m + 1 = m + 1 by omega]
        exact hcc 1 (by simp)
      have q2 : w.cell? ⟨b, off + k * 5 + 2, none⟩ = some (.int .i64 (m + 1 + 1)) := by
        rw [show m + 1 + 1 = m + 2 by omega]
        exact hcc 2 (by simp)
      have q3 : w.cell? ⟨b, off + k * 5 + 3, none⟩ = some (.int .i64 (m + 1 + 1 + 1)) := by
        rw [show m + 1 + 1 + 1 = m + 3 by omega]
        exact hcc 3 (by simp)
      have q4 : w.cell? ⟨b, off + k * 5 + 4, none⟩ = some (.slice ea l.ps.length ca) := hcc 4 (by simp)
      have HPS := hide hp
      have hlp1 := hlp.1
      have HLP := hide hlp.2
      have HTO := hide htot
      have hsp := szPs_pos l.ps
      have hto1 : m + 4 + szPs l.ps ≤ 100000000000000 := by have := htot.1; unfold szL at this; omega
      clear hcc hp hlp htot
      go_wp2_with fail
      refine (heldPastS_any _ l.ps (m + 1 + 1 + 1 + 1) w (by have e := unhide HPS; simp only [markL] at e; rw [show m + 4 = m + 1 + 1 + 1 + 1 by omega] at e; exact e) hlp1 (unhide HLP) (by omega) (by omega)).mono ?_
      rintro e w2 ⟨rfl, hw2⟩
      obtain rfl := hw2.symm
      have hmm : m + 1 + 1 + 1 + 1 + szPs l.ps = m + szL l := by unfold szL; omega
      rw [hmm]
      have hz0 := (unhide HTO).2
      have hz1 := (unhide HTO).1
      have hzn : ¬ m + szL l < 0 := by omega
      clear hmm
      clear q0 q1 q2 q3 q4
      go_wp2_with fail
      go_round
      case rel => exact ⟨k + 1, _, by omega, by go_num, rfl, hide (by rw [unhide HM2, take_more ls k hlt, gSz_snoc, unhide HLE]; omega), hz0, hz1⟩
      case measure => (simp [intOf]; try omega)
    · have hke : k = ls.length := by omega
      have hkI : ¬ (k : Int) < (ls.length : Int) := by omega
      go_wp2_with fail
      go_ret
      exact ⟨ret_int (by rw [unhide HM2, hke, List.take_length]), rfl⟩
end Go.Proofs.Ytgllaimjoneokaa
