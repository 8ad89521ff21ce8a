/- Marks of what was done: laws.markPastS, laws.heldPastS, laws.markLane, laws.heldLane. -/
import Derived.Test.YtgllaimjoneokaaOwn2
import Derived.Test.YtgllaimjoneokaaBox
namespace Go.Proofs.Ytgllaimjoneokaa
open Go.RowKit
set_option linter.unusedVariables false
set_option linter.unusedSimpArgs false

theorem markP_cells (m : Int) (p : PastV) (a b : Value) : ([.int .i64 m, .int .i64 (m + 1), .int .i64 (m + 1 + 1), .int .i64 (m + 1 + 1 + 1), .int .i64 (m + 1 + 1 + 1 + 1), .int .i64 (m + 1 + 1 + 1 + 1 + 1), .int .i64 (m + 1 + 1 + 1 + 1 + 1 + 1), .int .i64 (m + 1 + 1 + 1 + 1 + 1 + 1 + 1), .int .i64 (m + 1 + 1 + 1 + 1 + 1 + 1 + 1 + 1), .int .i64 (m + 1 + 1 + 1 + 1 + 1 + 1 + 1 + 1 + 1)] : List Value) ++ [a, b] = pastCells (markP m p) a b := by
  simp only [markP, evFrom, pastCells, List.cons_append, List.nil_append, List.cons.injEq, Value.int.injEq, and_true, true_and]
  omega

set_option maxRecDepth 100000 in
set_option maxHeartbeats 2000000 in
theorem markPastS_any (N M : Nat) (v : Value) (us : List (Value × Value)) (ps : List PastV) (k0 : Int) (w : World) (h : PastsO N M w v us ps) (hnd : (v.ownBlock.toList ++ blocksOf us).Nodup) (hlen : ps.length ≤ 1048576) (hl : ∀ p ∈ ps, p.sends.length ≤ 1048576 ∧ p.outs.length ≤ 1048576) (h0 : 0 ≤ k0) (h1 : k0 ≤ 100000000000000) :
    Calls Try.prog 104 #[v, .int .i64 k0] w fun e w' => e = .returned (.int .i64 (k0 + szPs ps)) ∧ PastsO N M w' v us (markPs k0 ps) ∧ Within N M w w' := by
  have HH := hide h
  have HL := hide hl
  rcases h with ⟨rfl, rfl, rfl⟩ | ⟨g, cap, f0, rfl, hN, hM, hlc, hm, hr0, hul, hin0⟩
  · go_enter Try.func104, Try.ntmps104
    go_wp2_with fail
    go_loop [1, 5] (fun a i => a = .int .i64 k0 ∧ i = .int .i64 0) (fun _ _ => 0)
    case atStart => exact ⟨rfl, rfl⟩
    case round =>
      obtain ⟨rfl, rfl⟩ := hrel
      go_wp2
      go_ret
      exact ⟨ret_int (by simp [szPs]), Or.inl ⟨rfl, rfl, rfl⟩, Within.refl _ _ _⟩
  have HMX := hide hm
  unfold maxLen at hm
  have HND : Hid ((g :: blocksOf us).Nodup) := hide (by simpa [Value.ownBlock] using hnd)
  have HUL := hide hul
  clear hnd hr0 hin0 hul hl
  go_enter Try.func104, Try.ntmps104
  go_wp2_with fail
  go_loopw [1, 5] (fun a i wr => ∃ (k : Nat) (m : Int), k ≤ ps.length ∧ i = .int .i64 k ∧ a = .int .i64 m ∧ Hid (m = k0 + szPs (ps.take k)) ∧ 0 ≤ m ∧ m ≤ 100000000000000 + 12582922 * (k : Int) ∧ Hid (PastsO N M wr (.slice (some ⟨g, 0, none⟩) ps.length cap) us (mixed k0 ps k)) ∧ Hid (Within N M w wr)) (fun _ i _ => ps.length - (intOf i).toNat)
  case atStart => exact ⟨0, k0, Nat.zero_le _, rfl, rfl, hide (by simp [szPs]), h0, by omega, hide (by rw [mixed_zero]; exact unhide HH), hide (Within.refl _ _ _)⟩
  case round =>
    obtain ⟨k, m, hk, rfl, rfl, HM2, hm0, hm1, HP, HW⟩ := hrel
    by_cases hlt : k < ps.length
    · have hml := mixed_len k0 ps k hk
      obtain ⟨f, hrow, hi2⟩ : ∃ f, wr.rowIs g 127 (cap * 12) f ∧ PastsIn2 N M wr f us (mixed k0 ps k) := by
        rcases unhide HP with ⟨h1, _⟩ | ⟨g', cap', f, h1, _, _, _, _, h6, _, h8⟩
        · cases h1
        · simp only [Value.slice.injEq, Option.some.injEq, Addr.mk.injEq, and_true] at h1
          obtain ⟨rfl, _, rfl⟩ := h1
          exact ⟨f, h6, h8⟩
      have hku : k < us.length := by rw [unhide HUL]; exact hlt
      obtain ⟨hcell, hpo⟩ := hi2 k hku (by omega)
      rw [mixed_at k0 ps k hlt (by omega)] at hcell hpo
      have hlp := (unhide HL) ps[k] (List.getElem_mem hlt)
      obtain ⟨p, hpe⟩ : ∃ p, p = ps[k] := ⟨_, rfl⟩
      obtain ⟨va, hva⟩ : ∃ va, va = us[k].1 := ⟨_, rfl⟩
      obtain ⟨vb, hvb⟩ : ∃ vb, vb = us[k].2 := ⟨_, rfl⟩
      rw [← hpe, ← hva, ← hvb] at hcell hpo
      rw [← hpe] at hlp
      have HI2 := hide hi2
      have HROW := hide hrow
      have HPE := hide hpe
      have HVA := hide hva
      have HVB := hide hvb
      have HPO := hide hpo
      obtain ⟨ea, ca, hea⟩ : ∃ a c, va = .slice a p.sends.length c := by
        obtain ⟨a, c, h⟩ := RowsFr_sliced hpo.fr.s
        exact ⟨a, c, by rw [h, List.length_map]⟩
      obtain ⟨eb, cb, heb⟩ : ∃ a c, vb = .slice a p.outs.length c := by
        obtain ⟨a, c, h⟩ := RowsFr_sliced hpo.fr.o
        exact ⟨a, c, by rw [h, List.length_map]⟩
      have hkI : (k : Int) < (ps.length : Int) := by omega
      have g0 : wr.cell? ⟨g, k * 12, none⟩ = some (f (k * 12 + 0)) := hrow.cell (i := k * 12 + 0) (mul_place (by omega) (by omega))
      have z0 : wr.frozen? ⟨g, k * 12, none⟩ = false := hrow.frozen (k * 12 + 0)
      have g1 : wr.cell? ⟨g, k * 12 + 1, none⟩ = some (f (k * 12 + 1)) := hrow.cell (i := k * 12 + 1) (mul_place (by omega) (by omega))
      have z1 : wr.frozen? ⟨g, k * 12 + 1, none⟩ = false := hrow.frozen (k * 12 + 1)
      have g2 : wr.cell? ⟨g, k * 12 + 2, none⟩ = some (f (k * 12 + 2)) := hrow.cell (i := k * 12 + 2) (mul_place (by omega) (by omega))
      have z2 : wr.frozen? ⟨g, k * 12 + 2, none⟩ = false := hrow.frozen (k * 12 + 2)
      have g3 : wr.cell? ⟨g, k * 12 + 3, none⟩ = some (f (k * 12 + 3)) := hrow.cell (i := k * 12 + 3) (mul_place (by omega) (by omega))
      have z3 : wr.frozen? ⟨g, k * 12 + 3, none⟩ = false := hrow.frozen (k * 12 + 3)
      have g4 : wr.cell? ⟨g, k * 12 + 4, none⟩ = some (f (k * 12 + 4)) := hrow.cell (i := k * 12 + 4) (mul_place (by omega) (by omega))
      have z4 : wr.frozen? ⟨g, k * 12 + 4, none⟩ = false := hrow.frozen (k * 12 + 4)
      have g5 : wr.cell? ⟨g, k * 12 + 5, none⟩ = some (f (k * 12 + 5)) := hrow.cell (i := k * 12 + 5) (mul_place (by omega) (by omega))
      have z5 : wr.frozen? ⟨g, k * 12 + 5, none⟩ = false := hrow.frozen (k * 12 + 5)
      have g6 : wr.cell? ⟨g, k * 12 + 6, none⟩ = some (f (k * 12 + 6)) := hrow.cell (i := k * 12 + 6) (mul_place (by omega) (by omega))
      have z6 : wr.frozen? ⟨g, k * 12 + 6, none⟩ = false := hrow.frozen (k * 12 + 6)
      have g7 : wr.cell? ⟨g, k * 12 + 7, none⟩ = some (f (k * 12 + 7)) := hrow.cell (i := k * 12 + 7) (mul_place (by omega) (by omega))
      have z7 : wr.frozen? ⟨g, k * 12 + 7, none⟩ = false := hrow.frozen (k * 12 + 7)
      have g8 : wr.cell? ⟨g, k * 12 + 8, none⟩ = some (f (k * 12 + 8)) := hrow.cell (i := k * 12 + 8) (mul_place (by omega) (by omega))
      have z8 : wr.frozen? ⟨g, k * 12 + 8, none⟩ = false := hrow.frozen (k * 12 + 8)
      have g9 : wr.cell? ⟨g, k * 12 + 9, none⟩ = some (f (k * 12 + 9)) := hrow.cell (i := k * 12 + 9) (mul_place (by omega) (by omega))
      have z9 : wr.frozen? ⟨g, k * 12 + 9, none⟩ = false := hrow.frozen (k * 12 + 9)
      have hm2 : m + 12582922 ≤ 100000000000000 + 12582922 * 1048576 := by omega
      have hset : ((((((((((wr.setCell ⟨g, k * 12, none⟩ (.int .i64 m)).setCell ⟨g, k * 12 + 1, none⟩ (.int .i64 (m + 1))).setCell ⟨g, k * 12 + 2, none⟩ (.int .i64 (m + 1 + 1))).setCell ⟨g, k * 12 + 3, none⟩ (.int .i64 (m + 1 + 1 + 1))).setCell ⟨g, k * 12 + 4, none⟩ (.int .i64 (m + 1 + 1 + 1 + 1))).setCell ⟨g, k * 12 + 5, none⟩ (.int .i64 (m + 1 + 1 + 1 + 1 + 1))).setCell ⟨g, k * 12 + 6, none⟩ (.int .i64 (m + 1 + 1 + 1 + 1 + 1 + 1))).setCell ⟨g, k * 12 + 7, none⟩ (.int .i64 (m + 1 + 1 + 1 + 1 + 1 + 1 + 1))).setCell ⟨g, k * 12 + 8, none⟩ (.int .i64 (m + 1 + 1 + 1 + 1 + 1 + 1 + 1 + 1))).setCell ⟨g, k * 12 + 9, none⟩ (.int .i64 (m + 1 + 1 + 1 + 1 + 1 + 1 + 1 + 1 + 1))) = setVals wr g (k * 12) [.int .i64 m, .int .i64 (m + 1), .int .i64 (m + 1 + 1), .int .i64 (m + 1 + 1 + 1), .int .i64 (m + 1 + 1 + 1 + 1), .int .i64 (m + 1 + 1 + 1 + 1 + 1), .int .i64 (m + 1 + 1 + 1 + 1 + 1 + 1), .int .i64 (m + 1 + 1 + 1 + 1 + 1 + 1 + 1), .int .i64 (m + 1 + 1 + 1 + 1 + 1 + 1 + 1 + 1), .int .i64 (m + 1 + 1 + 1 + 1 + 1 + 1 + 1 + 1 + 1)] := rfl
      have hrow1 := setVals_row [.int .i64 m, .int .i64 (m + 1), .int .i64 (m + 1 + 1), .int .i64 (m + 1 + 1 + 1), .int .i64 (m + 1 + 1 + 1 + 1), .int .i64 (m + 1 + 1 + 1 + 1 + 1), .int .i64 (m + 1 + 1 + 1 + 1 + 1 + 1), .int .i64 (m + 1 + 1 + 1 + 1 + 1 + 1 + 1), .int .i64 (m + 1 + 1 + 1 + 1 + 1 + 1 + 1 + 1), .int .i64 (m + 1 + 1 + 1 + 1 + 1 + 1 + 1 + 1 + 1)] (k * 12) wr f hrow
      have c10 : ((((((((((wr.setCell ⟨g, k * 12, none⟩ (.int .i64 m)).setCell ⟨g, k * 12 + 1, none⟩ (.int .i64 (m + 1))).setCell ⟨g, k * 12 + 2, none⟩ (.int .i64 (m + 1 + 1))).setCell ⟨g, k * 12 + 3, none⟩ (.int .i64 (m + 1 + 1 + 1))).setCell ⟨g, k * 12 + 4, none⟩ (.int .i64 (m + 1 + 1 + 1 + 1))).setCell ⟨g, k * 12 + 5, none⟩ (.int .i64 (m + 1 + 1 + 1 + 1 + 1))).setCell ⟨g, k * 12 + 6, none⟩ (.int .i64 (m + 1 + 1 + 1 + 1 + 1 + 1))).setCell ⟨g, k * 12 + 7, none⟩ (.int .i64 (m + 1 + 1 + 1 + 1 + 1 + 1 + 1))).setCell ⟨g, k * 12 + 8, none⟩ (.int .i64 (m + 1 + 1 + 1 + 1 + 1 + 1 + 1 + 1))).setCell ⟨g, k * 12 + 9, none⟩ (.int .i64 (m + 1 + 1 + 1 + 1 + 1 + 1 + 1 + 1 + 1))).cell? ⟨g, k * 12 + 10, none⟩ = some (.slice ea p.sends.length ca) := by
        rw [hset, hrow1.cell (mul_place (by omega) (by omega))]
        show some (if k * 12 ≤ k * 12 + 10 ∧ k * 12 + 10 < k * 12 + 10 then _ else f (k * 12 + 10)) = _
        rw [if_neg (by omega), hcell 10 (by omega)]
        show some va = _
        rw [hea]
      have c11 : ((((((((((wr.setCell ⟨g, k * 12, none⟩ (.int .i64 m)).setCell ⟨g, k * 12 + 1, none⟩ (.int .i64 (m + 1))).setCell ⟨g, k * 12 + 2, none⟩ (.int .i64 (m + 1 + 1))).setCell ⟨g, k * 12 + 3, none⟩ (.int .i64 (m + 1 + 1 + 1))).setCell ⟨g, k * 12 + 4, none⟩ (.int .i64 (m + 1 + 1 + 1 + 1))).setCell ⟨g, k * 12 + 5, none⟩ (.int .i64 (m + 1 + 1 + 1 + 1 + 1))).setCell ⟨g, k * 12 + 6, none⟩ (.int .i64 (m + 1 + 1 + 1 + 1 + 1 + 1))).setCell ⟨g, k * 12 + 7, none⟩ (.int .i64 (m + 1 + 1 + 1 + 1 + 1 + 1 + 1))).setCell ⟨g, k * 12 + 8, none⟩ (.int .i64 (m + 1 + 1 + 1 + 1 + 1 + 1 + 1 + 1))).setCell ⟨g, k * 12 + 9, none⟩ (.int .i64 (m + 1 + 1 + 1 + 1 + 1 + 1 + 1 + 1 + 1))).cell? ⟨g, k * 12 + 11, none⟩ = some (.slice eb p.outs.length cb) := by
        rw [hset, hrow1.cell (mul_place (by omega) (by omega))]
        show some (if k * 12 ≤ k * 12 + 11 ∧ k * 12 + 11 < k * 12 + 10 then _ else f (k * 12 + 11)) = _
        rw [if_neg (by omega), hcell 11 (by omega)]
        show some vb = _
        rw [heb]
      have HC10 := hide c10
      have HC11 := hide c11
      have HSET := hide hset
      have HROW1 := hide hrow1
      have HEA := hide hea
      have HEB := hide heb
      have HF10 := hide (hcell 10 (by omega))
      have HF11 := hide (hcell 11 (by omega))
      clear c10 c11 hset hrow1 hcell hpo hrow hi2 hpe hva hvb hea heb hml
      go_upto_region 24 with fail
      clear g0 z0 g1 z1 g2 z2 g3 z3 g4 z4 g5 z5 g6 z6 g7 z7 g8 z8 g9 z9
      generalize ((((((((((wr.setCell ⟨g, k * 12, none⟩ (.int .i64 m)).setCell ⟨g, k * 12 + 1, none⟩ (.int .i64 (m + 1))).setCell ⟨g, k * 12 + 2, none⟩ (.int .i64 (m + 1 + 1))).setCell ⟨g, k * 12 + 3, none⟩ (.int .i64 (m + 1 + 1 + 1))).setCell ⟨g, k * 12 + 4, none⟩ (.int .i64 (m + 1 + 1 + 1 + 1))).setCell ⟨g, k * 12 + 5, none⟩ (.int .i64 (m + 1 + 1 + 1 + 1 + 1))).setCell ⟨g, k * 12 + 6, none⟩ (.int .i64 (m + 1 + 1 + 1 + 1 + 1 + 1))).setCell ⟨g, k * 12 + 7, none⟩ (.int .i64 (m + 1 + 1 + 1 + 1 + 1 + 1 + 1))).setCell ⟨g, k * 12 + 8, none⟩ (.int .i64 (m + 1 + 1 + 1 + 1 + 1 + 1 + 1 + 1))).setCell ⟨g, k * 12 + 9, none⟩ (.int .i64 (m + 1 + 1 + 1 + 1 + 1 + 1 + 1 + 1 + 1))) = w1 at *
      have hgb : g ∉ blocksOf us := (List.nodup_cons.1 (unhide HND)).1
      have hown : ∀ b, (va.ownBlock = some b ∨ vb.ownBlock = some b) → b ∈ blocksOf us := fun b hb =>
        List.mem_flatMap.2 ⟨us[k], List.getElem_mem hku, List.mem_append.2 (hb.imp (fun h => by rw [← unhide HVA]; simp [h]) (fun h => by rw [← unhide HVB]; simp [h]))⟩
      have hapart : Apart va vb := fun b ha hb => by
        have h2 := (List.nodup_cons.1 (unhide HND)).2
        have hsub : (va.ownBlock.toList ++ vb.ownBlock.toList).Sublist (blocksOf us) := by
          rw [unhide HVA, unhide HVB]
          exact List.sublist_flatten_of_mem (List.mem_map.2 ⟨us[k], List.getElem_mem hku, rfl⟩)
        have h3 := hsub.nodup h2
        rw [List.nodup_append] at h3
        exact h3.2.2 b (by simp [ha]) b (by simp [hb]) rfl
      have HOWN := hide hown
      have HAP := hide hapart
      have HGB := hide hgb
      have hpo1 : PastO N M w1 va vb p := by
        rw [unhide HSET]
        exact (unhide HPO).only (fun b hb => setVals_other _ _ _ _ (fun e => hgb (e ▸ hown b (Or.inl hb)))) (fun b hb => setVals_other _ _ _ _ (fun e => hgb (e ▸ hown b (Or.inr hb))))
      have HPO1 := hide hpo1
      clear hown hapart hgb hpo1
      have c10 := unhide HC10
      go_wp2_with fail
      clear c10
      refine (markEventS_any N 61 _ p.sends.length _ w1 (by have := (unhide HPO1).fr.s.room; rw [List.length_map, unhide HEA] at this; exact this) (by omega) (by omega) (by omega)).mono ?_
      rintro e w2 ⟨rfl, hm2a, ho2⟩
      have c11 : w2.cell? ⟨g, k * 12 + 11, none⟩ = some (.slice eb p.outs.length cb) := by
        have hne : (Value.slice ea p.sends.length ca).ownBlock ≠ some g := fun e => (unhide HGB) ((unhide HOWN) g (Or.inl (by rw [unhide HEA]; exact e)))
        rw [unhide HSET] at ho2
        have hr := (unhide HROW1).of_block (ho2.other g hne)
        rw [hr.cell (mul_place (by omega) (by omega))]
        show some (if k * 12 ≤ k * 12 + 11 ∧ k * 12 + 11 < k * 12 + 10 then _ else f (k * 12 + 11)) = _
        rw [if_neg (by omega), unhide HF11]
        show some vb = _
        rw [unhide HEB]
      have HM2A := hide hm2a
      have HO2 := hide ho2
      clear hm2a ho2
      generalize hq : m + 1 + 1 + 1 + 1 + 1 + 1 + 1 + 1 + 1 + 1 + 7 * (p.sends.length : Int) = q at *
      have hqe : q = m + 10 + 7 * (p.sends.length : Int) := by omega
      have hq0 : 0 ≤ q := by omega
      have hq1 : q ≤ 200000000000000 := by omega
      have HQE := hide hqe
      clear hq hqe
      go_wp2_with fail
      refine (markOutS_any N 102 _ p.outs.length q w2 ?_ (by omega) (by omega) (by omega)).mono ?_
      · have h1 : RowsFr N 102 5 w2 vb (p.outs.map outRow) := (unhide HPO1).fr.o.block (fun b hb _ => (unhide HO2).other b (fun e => (unhide HAP) b (by rw [unhide HEA]; exact e) hb))
        have := h1.room
        rw [List.length_map, unhide HEB] at this
        exact this
      rintro e w3 ⟨rfl, hm3, ho3⟩
      have HM3 := hide hm3
      have HO3 := hide ho3
      clear hm3 ho3 c11
      have HQ3 : Hid (q + 5 * (p.outs.length : Int) = m + szP p) := hide (by have := unhide HQE; unfold szP; omega)
      have hz0 : 0 ≤ q + 5 * (p.outs.length : Int) := by omega
      have hz1 : q + 5 * (p.outs.length : Int) ≤ 100000000000000 + 12582922 * ((k : Int) + 1) := by have := unhide HQE; omega
      go_wp2_with fail
      go_roundw
      case rel =>
        have hneA : va.ownBlock ≠ some g := fun e => (unhide HGB) ((unhide HOWN) g (Or.inl e))
        have hneB : vb.ownBlock ≠ some g := fun e => (unhide HGB) ((unhide HOWN) g (Or.inr e))
        have ho2 : OnlyOf va w1 w2 := by rw [unhide HEA]; exact unhide HO2
        have ho3 : OnlyOf vb w2 w3 := by rw [unhide HEB]; exact unhide HO3
        have hw1 : Within N M wr w1 := by rw [unhide HSET]; exact Within.vals _ hN hM
        have hw2 : Within N M w1 w2 := Within.of_only ho2 (fun b hb => ⟨((unhide HPO1).fr.s.blk b hb).1, (unhide HPO1).hs b hb⟩)
        have hw3 : Within N M w2 w3 := Within.of_only ho3 (fun b hb => ⟨((unhide HPO1).fr.o.blk b hb).1, (unhide HPO1).ho b hb⟩)
        have hr1 := unhide HROW1
        rw [← unhide HSET] at hr1
        have hr3 := (hr1.of_block (ho2.other g hneA)).of_block (ho3.other g hneB)
        clear hr1
        have hfs : RowsFr N 61 7 w3 va ((markEvs (m + 10) p.sends.length).map evRow) := by
          rw [markEvs_rows, show m + 10 = m + 1 + 1 + 1 + 1 + 1 + 1 + 1 + 1 + 1 + 1 by omega]
          have h1 := unhide HM2A
          rw [← unhide HEA] at h1
          exact h1.block (fun b hb _ => ho3.other b (fun e => (unhide HAP) b hb e))
        have hfo : RowsFr N 102 5 w3 vb ((markOuts (m + 10 + 7 * (p.sends.length : Int)) p.outs.length).map outRow) := by
          rw [markOuts_rows, ← unhide HQE]
          have h1 := unhide HM3
          rw [← unhide HEB] at h1
          exact h1
        have hpo3 : PastO N M w3 va vb (markP m p) := ⟨⟨hfs, hfo⟩, (unhide HPO1).hs, (unhide HPO1).ho⟩
        have hset := PastsO.set (w := wr) (w' := w3) (f := f) (i := k) (q := markP m p) (qs := mixed k0 ps k) (us := us) (g := g) (cap := cap) (N := N) (M := M) (by rw [mixed_len k0 ps k hk]; exact hlt) hku hN hM (by rw [mixed_len k0 ps k hk]; exact hlc) (unhide HMX) (by rw [mixed_len k0 ps k hk]; exact unhide HUL) (unhide HI2) (unhide HND) hr3 (fun j => ?_) (fun b h1 h2 h3 => ?_) (by rw [← unhide HVA, ← unhide HVB]; exact hpo3)
        · have e1 : (mixed k0 ps k).set k (markP m p) = mixed k0 ps (k + 1) := by
            rw [unhide HM2, unhide HPE]
            exact mixed_set k0 ps k hlt
          rw [e1, mixed_len k0 ps (k + 1) (by omega)] at hset
          exact ⟨k + 1, _, by omega, by go_num, rfl, hide (by rw [unhide HQ3, unhide HM2, take_more ps k hlt, szPs_snoc, unhide HPE]; omega), hz0, by omega, hide hset, hide ((unhide HW).trans (hw1.trans (hw2.trans hw3)))⟩
        · rw [← unhide HVA, ← unhide HVB]
          by_cases hj : k * 12 ≤ j ∧ j < k * 12 + 12
          · rw [if_pos hj]
            obtain ⟨i, rfl⟩ : ∃ i, j = k * 12 + i := ⟨j - k * 12, by omega⟩
            rw [Nat.add_sub_cancel_left]
            show (if k * 12 ≤ k * 12 + i ∧ k * 12 + i < k * 12 + 10 then ([.int .i64 m, .int .i64 (m + 1), .int .i64 (m + 1 + 1), .int .i64 (m + 1 + 1 + 1), .int .i64 (m + 1 + 1 + 1 + 1), .int .i64 (m + 1 + 1 + 1 + 1 + 1), .int .i64 (m + 1 + 1 + 1 + 1 + 1 + 1), .int .i64 (m + 1 + 1 + 1 + 1 + 1 + 1 + 1), .int .i64 (m + 1 + 1 + 1 + 1 + 1 + 1 + 1 + 1), .int .i64 (m + 1 + 1 + 1 + 1 + 1 + 1 + 1 + 1 + 1)]).getD i undef else f (k * 12 + i)) = _
            rw [← markP_cells m p va vb]
            by_cases hi : i < 10
            · rw [if_pos (by omega)]
              simp only [List.getD_eq_getElem?_getD]
              rw [List.getElem?_append_left (by simpa using hi)]
            · rw [if_neg (by omega)]
              rcases (show i = 10 ∨ i = 11 by omega) with rfl | rfl
              · rw [unhide HF10]; rfl
              · rw [unhide HF11]; rfl
          · rw [if_neg hj]
            show (if k * 12 ≤ j ∧ j < k * 12 + 10 then _ else f j) = _
            rw [if_neg (by omega)]
        · rw [← unhide HVA] at h2
          rw [← unhide HVB] at h3
          rw [ho3.other b h3, ho2.other b h2, unhide HSET]
          exact setVals_other _ _ _ _ h1
      case measure => (simp [intOf]; try omega)
    · have hke : k = ps.length := by omega
      have hkI : ¬ (k : Int) < (ps.length : Int) := by omega
      go_wp2_with fail
      go_ret
      refine ⟨ret_int (by rw [unhide HM2, hke, List.take_length]), ?_, unhide HW⟩
      have h1 := unhide HP
      rw [hke, mixed_all] at h1
      exact h1
end Go.Proofs.Ytgllaimjoneokaa
