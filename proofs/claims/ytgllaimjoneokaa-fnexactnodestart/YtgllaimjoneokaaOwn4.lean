/- Marks of what was done, held: laws.heldPastS, laws.markLane, laws.heldLane. -/
import Derived.Test.YtgllaimjoneokaaOwn3
namespace Go.Proofs.Ytgllaimjoneokaa
open Go.RowKit
set_option linter.unusedVariables false
set_option linter.unusedSimpArgs false

theorem markPs_at : ∀ (ps : List PastV) (k0 : Int) (k : Nat) (h : k < ps.length) (h' : k < (markPs k0 ps).length), (markPs k0 ps)[k] = markP (k0 + szPs (ps.take k)) ps[k]
  | [], _, k, h, _ => absurd h (Nat.not_lt_zero _)
  | p :: ps, k0, 0, _, _ => by simp [markPs, szPs]
  | p :: ps, k0, k + 1, h, h' => by
    simp only [markPs, List.getElem_cons_succ, List.take_succ_cons, szPs]
    rw [markPs_at ps (k0 + szP p) k (by simpa using h)]
    rw [show k0 + szP p + szPs (ps.take k) = k0 + (szP p + szPs (ps.take k)) by omega]

set_option maxRecDepth 100000 in
set_option maxHeartbeats 2000000 in
theorem heldPastS_any (v : Value) (ps : List PastV) (k0 : Int) (w : World) (h : PastsAt w v (markPs k0 ps)) (hlen : ps.length ≤ 1048576) (hl : ∀ p ∈ ps, p.sends.length ≤ 1048576 ∧ p.outs.length ≤ 1048576) (h0 : 0 ≤ k0) (h1 : k0 ≤ 100000000000000) :
    Calls Try.prog 105 #[v, .int .i64 k0] w fun e w' => e = .returned (.int .i64 (k0 + szPs ps)) ∧ w' = w := by
  obtain ⟨a1, c1, rfl, hlc, hm, hc⟩ := h
  rw [markPs_len] at hlc hm ⊢
  have HC := hide hc
  have HL := hide hl
  clear hc hl
  unfold maxLen at hm
  have hne : ∀ x : Int, (x != x) = false := by intro x; simp
  go_enter Try.func105, Try.ntmps105
  go_wp2_with fail
  go_loop [1, 5] (fun a i => ∃ (k : Nat) (m : Int), k ≤ ps.length ∧ i = .int .i64 k ∧ a = .int .i64 m ∧ Hid (m = k0 + szPs (ps.take k)) ∧ 0 ≤ m ∧ m ≤ 100000000000000 + 12582922 * (k : Int)) (fun _ i => ps.length - (intOf i).toNat)
  case atStart => exact ⟨0, k0, Nat.zero_le _, rfl, rfl, hide (by simp [szPs]), h0, by omega⟩
  case round =>
    obtain ⟨k, m, hk, rfl, rfl, HM2, hm0, hm1⟩ := hrel
    by_cases hlt : k < ps.length
    · have hmk := markPs_at ps k0 k hlt (by rw [markPs_len]; exact hlt)
      rw [← unhide HM2] at hmk
      obtain ⟨b, off, vs, vo, had, hcc, hp⟩ : ∃ b off vs vo, a1 = some ⟨b, off, none⟩ ∧ CellsAt w b (off + k * 12) (pastCells (markP m ps[k]) vs vo) ∧ PastAt w vs vo (markP m ps[k]) := by
        rcases unhide HC with h | ⟨b, off, h1, h2⟩
        · have := congrArg List.length h
          rw [markPs_len] at this
          simp at this
          rw [this] at hlt
          exact absurd hlt (Nat.not_lt_zero _)
        · obtain ⟨vs, vo, h3, h4⟩ := h2 k (by rw [markPs_len]; exact hlt)
          rw [hmk] at h3 h4
          exact ⟨b, off, vs, vo, h1, h3, h4⟩
      subst had
      have hlp := (unhide HL) ps[k] (List.getElem_mem hlt)
      obtain ⟨p, hpe⟩ : ∃ p, p = ps[k] := ⟨_, rfl⟩
      rw [← hpe] at hcc hp hlp
      have HPE := hide hpe
      clear hpe hmk
      have hps := hp.s
      have hpo := hp.o
      simp only [markP, markEvs_rows, markOuts_rows] at hps hpo
      obtain ⟨ea, ca, hea⟩ : ∃ a c, vs = .slice a p.sends.length c := by
        obtain ⟨a, c, h, _⟩ := hps
        exact ⟨a, c, by rw [h, markRows_length]⟩
      obtain ⟨eb, cb, heb⟩ : ∃ a c, vo = .slice a p.outs.length c := by
        obtain ⟨a, c, h, _⟩ := hpo
        exact ⟨a, c, by rw [h, markRows_length]⟩
      subst hea heb
      have hkI : (k : Int) < (ps.length : Int) := by omega
      have hm2 : m + 12582922 ≤ 100000000000000 + 12582922 * 1048576 := by omega
      have q0 : w.cell? ⟨b, off + k * 12, none⟩ = some (.int .i64 m) := hcc 0 (by simp)
      have q1 : w.cell? ⟨b, off + k * 12 + 1, none⟩ = some (.int .i64 (m + 1)) := by
        rw [show m + 1 = m + 1 by omega]
        exact hcc 1 (by simp)
      have q2 : w.cell? ⟨b, off + k * 12 + 2, none⟩ = some (.int .i64 (m + 1 + 1)) := by
        rw [show m + 1 + 1 = m + 2 by omega]
        exact hcc 2 (by simp)
      have q3 : w.cell? ⟨b, off + k * 12 + 3, none⟩ = some (.int .i64 (m + 1 + 1 + 1)) := by
        rw [show m + 1 + 1 + 1 = m + 3 by omega]
        exact hcc 3 (by simp)
      have q4 : w.cell? ⟨b, off + k * 12 + 4, none⟩ = some (.int .i64 (m + 1 + 1 + 1 + 1)) := by
        rw [show m + 1 + 1 + 1 + 1 = m + 4 by omega]
        exact hcc 4 (by simp)
      have q5 : w.cell? ⟨b, off + k * 12 + 5, none⟩ = some (.int .i64 (m + 1 + 1 + 1 + 1 + 1)) := by
        rw [show m + 1 + 1 + 1 + 1 + 1 = m + 5 by omega]
        exact hcc 5 (by simp)
      have q6 : w.cell? ⟨b, off + k * 12 + 6, none⟩ = some (.int .i64 (m + 1 + 1 + 1 + 1 + 1 + 1)) := by
        rw [show m + 1 + 1 + 1 + 1 + 1 + 1 = m + 6 by omega]
        exact hcc 6 (by simp)
      have q7 : w.cell? ⟨b, off + k * 12 + 7, none⟩ = some (.int .i64 (m + 1 + 1 + 1 + 1 + 1 + 1 + 1)) := by
        rw [show m + 1 + 1 + 1 + 1 + 1 + 1 + 1 = m + 7 by omega]
        exact hcc 7 (by simp)
      have q8 : w.cell? ⟨b, off + k * 12 + 8, none⟩ = some (.int .i64 (m + 1 + 1 + 1 + 1 + 1 + 1 + 1 + 1)) := by
        rw [show m + 1 + 1 + 1 + 1 + 1 + 1 + 1 + 1 = m + 8 by omega]
        exact hcc 8 (by simp)
      have q9 : w.cell? ⟨b, off + k * 12 + 9, none⟩ = some (.int .i64 (m + 1 + 1 + 1 + 1 + 1 + 1 + 1 + 1 + 1)) := by
        rw [show m + 1 + 1 + 1 + 1 + 1 + 1 + 1 + 1 + 1 = m + 9 by omega]
        exact hcc 9 (by simp)
      have q10 : w.cell? ⟨b, off + k * 12 + 10, none⟩ = some (.slice ea p.sends.length ca) := hcc 10 (by simp)
      have q11 : w.cell? ⟨b, off + k * 12 + 11, none⟩ = some (.slice eb p.outs.length cb) := hcc 11 (by simp)
      have HPS := hide hps
      have HPO := hide hpo
      clear hcc hp hps hpo
      go_wp2_with fail
      refine (heldEventS_any _ p.sends.length _ w (by have e := unhide HPS; rw [show m + 10 = m + 1 + 1 + 1 + 1 + 1 + 1 + 1 + 1 + 1 + 1 by omega] at e; exact e) (by omega) (by omega) (by omega)).mono ?_
      rintro e w2 ⟨rfl, hw2⟩
      obtain rfl := hw2.symm
      clear q0 q1 q2 q3 q4 q5 q6 q7 q8 q9 q10
      generalize hq : m + 1 + 1 + 1 + 1 + 1 + 1 + 1 + 1 + 1 + 1 + 7 * (p.sends.length : Int) = q at *
      have hqe : q = m + 10 + 7 * (p.sends.length : Int) := by omega
      have hq0 : 0 ≤ q := by omega
      have hqn : ¬ q < 0 := by omega
      have hq1 : q ≤ 200000000000000 := by omega
      have HQE := hide hqe
      clear hq hqe
      go_wp2_with fail
      refine (heldOutS_any _ p.outs.length q w (by rw [unhide HQE]; exact unhide HPO) (by omega) (by omega) (by omega)).mono ?_
      rintro e w3 ⟨rfl, hw3⟩
      obtain rfl := hw3.symm
      have HQ3 : Hid (q + 5 * (p.outs.length : Int) = m + szP p) := hide (by have := unhide HQE; unfold szP; omega)
      have hz0 : 0 ≤ q + 5 * (p.outs.length : Int) := by omega
      have hzn : ¬ q + 5 * (p.outs.length : Int) < 0 := by omega
      have hz1 : q + 5 * (p.outs.length : Int) ≤ 100000000000000 + 12582922 * ((k : Int) + 1) := by have := unhide HQE; omega
      go_wp2_with fail
      go_round
      case rel => exact ⟨k + 1, _, by omega, by go_num, rfl, hide (by rw [unhide HQ3, unhide HM2, take_more ps k hlt, szPs_snoc, unhide HPE]; omega), hz0, by omega⟩
      case measure => (simp [intOf]; try omega)
    · have hke : k = ps.length := by omega
      have hkI : ¬ (k : Int) < (ps.length : Int) := by omega
      go_wp2_with fail
      go_ret
      exact ⟨ret_int (by rw [unhide HM2, hke, List.take_length]), rfl⟩

/-- What is written of what lay there lies within an interval of blocks. -/
structure Frame (N M : Nat) (w w' : World) : Prop where
  size : w.heap.size ≤ w'.heap.size
  other : ∀ b, b < w.heap.size → ¬ (N ≤ b ∧ b < M) → w'.heap[b]? = w.heap[b]?
  below : ∀ B, B ≤ N → B ≤ w.heap.size → Below B w w'

theorem Frame.of_below {N M : Nat} {w w' : World} (h : Below w.heap.size w w') : Frame N M w w' := ⟨h.size, fun b hb _ => h.block b hb, fun B _ hB => h.mono hB⟩
theorem Frame.of_within {N M : Nat} {w w' : World} (h : Within N M w w') : Frame N M w w' := ⟨Nat.le_of_eq h.size.symm, fun b _ hb => h.other b hb, fun B hB _ => h.below B hB⟩
theorem Frame.trans {N M : Nat} {a b c : World} (h : Frame N M a b) (k : Frame N M b c) : Frame N M a c :=
  ⟨Nat.le_trans h.size k.size, fun x hx hn => (k.other x (Nat.lt_of_lt_of_le hx h.size) hn).trans (h.other x hx hn), fun B hB hs => (h.below B hB hs).trans (k.below B hB (Nat.le_trans hs h.size))⟩
theorem Frame.wide {N M N' M' : Nat} {w w' : World} (hN : N' ≤ N) (hM : M ≤ M') (h : Frame N M w w') : Frame N' M' w w' :=
  ⟨h.size, fun b hb hn => h.other b hb (fun e => hn ⟨Nat.le_trans hN e.1, Nat.lt_of_lt_of_le e.2 hM⟩), fun B hB hs => h.below B (Nat.le_trans hB hN) hs⟩

end Go.Proofs.Ytgllaimjoneokaa
