/- Lists of views, and of numbers, in memory of their own; their marks. -/
import Derived.Test.YtgllaimjoneokaaViews1
import Derived.Test.YtgllaimjoneokaaOwn6
import Derived.Test.YtgllaimjoneokaaOwn5
import Derived.Test.YtgllaimjoneokaaGMark
namespace Go.Proofs.Ytgllaimjoneokaa
open Go.RowKit
set_option linter.unusedVariables false
set_option linter.unusedSimpArgs false

structure ViewsRow (N M : Nat) (w : World) (g : Nat) (f : Nat → Value) (vs : Nat → Value) (ls : List ViewV) : Prop where
  cells : ∀ i (h : i < ls.length) j (hj : j < 3), f (i * 3 + j) = (viewCells ls[i].inc ls[i].ver (vs i))[j]
  own : ∀ i (h : i < ls.length), RowsFr N 61 7 w (vs i) (ls[i].es.map evRow)
  hi : ∀ i, i < ls.length → ∀ b, (vs i).ownBlock = some b → b < M
  out : ∀ i, i < ls.length → (vs i).ownBlock ≠ some g
  asc : ∀ i j, i < j → j < ls.length → Apart (vs i) (vs j)

/-- A list of such in memory of its own, all within the blocks from N on ahead of M. -/
def ViewsOwn (N M : Nat) (w : World) (v : Value) (ls : List ViewV) : Prop :=
  (v = .slice none 0 0 ∧ ls = []) ∨ ∃ g cap f, ∃ (vs : Nat → Value), v = .slice (some ⟨g, 0, none⟩) ls.length cap ∧ N ≤ g ∧ g < M ∧ ls.length ≤ cap ∧ cap ≤ maxLen ∧ w.rowIs g 104 (cap * 3) f ∧ ViewsRow N M w g f vs ls

theorem ViewsOwn.at {N M : Nat} {w : World} {v : Value} {ls : List ViewV} (h : ViewsOwn N M w v ls) : ViewsAt w v ls := by
  rcases h with ⟨rfl, rfl⟩ | ⟨g, cap, f, vs, rfl, hN, hM, hlc, hm, hr, h⟩
  · exact ⟨none, 0, rfl, Nat.le_refl _, Nat.zero_le _, Or.inl rfl⟩
  · refine ⟨_, cap, rfl, hlc, Nat.le_trans hlc hm, Or.inr ⟨g, 0, rfl, fun i hi => ⟨vs i, fun j hj => ?_, (h.own i hi).at⟩⟩⟩
    have hj5 : j < 3 := hj
    rw [Nat.zero_add, hr.cell (i := i * 3 + j) (mul_place (by omega) hj5), h.cells i hi j hj5]

theorem ViewsOwn.keep {N M : Nat} {w w' : World} {v : Value} {ls : List ViewV} (hk : ∀ b, N ≤ b → b < M → b < w.heap.size → w'.heap[b]? = w.heap[b]?) (h : ViewsOwn N M w v ls) : ViewsOwn N M w' v ls := by
  rcases h with ⟨rfl, rfl⟩ | ⟨g, cap, f, vs, rfl, hN, hM, hlc, hm, hr, h⟩
  · exact Or.inl ⟨rfl, rfl⟩
  · exact Or.inr ⟨g, cap, f, vs, rfl, hN, hM, hlc, hm, hr.of_block (hk g hN hM hr.lt), ⟨h.cells, fun i hi => (h.own i hi).block (fun b hb hl => hk b ((h.own i hi).blk b hb).1 (h.hi i hi b hb) hl), h.hi, h.out, h.asc⟩⟩

theorem ViewsOwn.on {N M : Nat} {w w' : World} {v : Value} {ls : List ViewV} (hb : Below w.heap.size w w') (h : ViewsOwn N M w v ls) : ViewsOwn N M w' v ls := h.keep (fun b _ _ hl => hb.block b hl)

theorem ViewsOwn.wide {N M N' M' : Nat} {w : World} {v : Value} {ls : List ViewV} (hN' : N' ≤ N) (hM' : M ≤ M') (h : ViewsOwn N M w v ls) : ViewsOwn N' M' w v ls := by
  rcases h with ⟨rfl, rfl⟩ | ⟨g, cap, f, vs, rfl, hN, hM, hlc, hm, hr, h⟩
  · exact Or.inl ⟨rfl, rfl⟩
  · exact Or.inr ⟨g, cap, f, vs, rfl, by omega, by omega, hlc, hm, hr, ⟨h.cells, fun i hi => (h.own i hi).less hN', fun i hi b hb => Nat.lt_of_lt_of_le (h.hi i hi b hb) hM', h.out, h.asc⟩⟩

theorem ViewsRow.set {N M : Nat} {w w' : World} {g i : Nat} {f f' : Nat → Value} {vs : Nat → Value} {ms : List ViewV} {l : ViewV} (h : ViewsRow N M w g f vs ms) (hi : i < ms.length)
    (hf : ∀ j, f' j = if i * 3 ≤ j ∧ j < i * 3 + 3 then (viewCells l.inc l.ver (vs i)).getD (j - i * 3) undef else f j)
    (ho : ∀ b, b ≠ g → (vs i).ownBlock ≠ some b → w'.heap[b]? = w.heap[b]?) (hq : RowsFr N 61 7 w' (vs i) (l.es.map evRow)) :
    ViewsRow N M w' g f' vs (ms.set i l) := by
  refine ⟨fun k hk j hj => ?_, fun k hk => ?_, fun k hk => h.hi k (by simpa using hk), fun k hk => h.out k (by simpa using hk), fun a b hab hb => h.asc a b hab (by simpa using hb)⟩
  · have hk2 : k < ms.length := by simpa using hk
    by_cases e : k = i
    · subst e
      have hj2 : j < (viewCells l.inc l.ver (vs k)).length := hj
      rw [hf, if_pos (by omega), Nat.add_sub_cancel_left, List.getD_eq_getElem?_getD, List.getElem?_eq_getElem hj2, Option.getD_some]
      simp
    · have e2 : (ms.set i l)[k] = ms[k] := by simp [List.getElem_set, Ne.symm e]
      rw [hf, if_neg (by rcases Nat.lt_or_gt_of_ne e with h1 | h1 <;> omega), h.cells k hk2 j hj]
      simp only [e2]
  · have hk2 : k < ms.length := by simpa using hk
    by_cases e : k = i
    · subst e
      simpa using hq
    · have e2 : (ms.set i l)[k] = ms[k] := by simp [List.getElem_set, Ne.symm e]
      rw [e2]
      refine (h.own k hk2).block (fun b hb _ => ho b (fun e3 => h.out k hk2 (e3 ▸ hb)) (fun h4 => ?_))
      rcases Nat.lt_or_gt_of_ne e with h5 | h5
      · exact h.asc k i h5 hi b hb h4
      · exact h.asc i k h5 hk2 b h4 hb

def szV (l : ViewV) : Int := 2 + 7 * (l.es.length : Int)
def markV (k : Int) (l : ViewV) : ViewV := ⟨k, k + 1, markEvs (k + 2) l.es.length⟩
theorem szV_pos (l : ViewV) : 0 ≤ szV l := by unfold szV; omega
theorem markV_cells (m : Int) (l : ViewV) (a : Value) : ([.int .i64 m, .int .i64 (m + 1)] : List Value) ++ [a] = viewCells (markV m l).inc (markV m l).ver a := by
  simp only [markV, viewCells, List.cons_append, List.nil_append]

set_option maxRecDepth 100000 in
set_option maxHeartbeats 2000000 in
theorem markViewS_any (N M : Nat) (v : Value) (ls : List ViewV) (k0 : Int) (w : World) (h : ViewsOwn N M w v ls) (hl : ∀ l ∈ ls, l.es.length ≤ 1048576) (h0 : 0 ≤ k0) (h1 : k0 + gSz szV ls ≤ 100000000000000) :
    Calls Try.prog 59 #[v, .int .i64 k0] w fun e w' => e = .returned (.int .i64 (k0 + gSz szV ls)) ∧ ViewsOwn N M w' v (gMark markV szV k0 ls) ∧ Within N M w w' := by
  have HL := hide hl
  rcases h with ⟨rfl, rfl⟩ | ⟨g, cap, f0, vs, rfl, hN, hM, hlc, hm, hr0, hin0⟩
  · go_enter Try.func59, Try.ntmps59
    go_wp2_with fail
    go_loop [1, 5] (fun a i => a = .int .i64 k0 ∧ i = .int .i64 0) (fun _ _ => 0)
    case atStart => exact ⟨rfl, rfl⟩
    case round =>
      obtain ⟨rfl, rfl⟩ := hrel
      go_wp2
      go_ret
      exact ⟨ret_int (by simp [gSz]), Or.inl ⟨rfl, rfl⟩, Within.refl _ _ _⟩
  have HMX := hide hm
  unfold maxLen at hm
  have HTOT : Hid (∀ i, k0 + gSz szV (ls.take i) ≤ 100000000000000 ∧ 0 ≤ k0 + gSz szV (ls.take i)) := hide (fun i => by
    have h2 := gSz_take szV szV_pos ls i
    have h3 := gSz_pos szV szV_pos (ls.take i)
    omega)
  have HR0 := hide hr0
  have HIN0 := hide hin0
  clear hr0 hin0 hl
  go_enter Try.func59, Try.ntmps59
  go_wp2_with fail
  go_loopw [1, 5] (fun a i wr => ∃ (k : Nat) (m : Int) (f : Nat → Value), k ≤ ls.length ∧ i = .int .i64 k ∧ a = .int .i64 m ∧ Hid (m = k0 + gSz szV (ls.take k)) ∧ 0 ≤ m ∧ m ≤ 100000000000000 ∧ Hid (wr.rowIs g 104 (cap * 3) f) ∧ Hid (ViewsRow N M wr g f vs (gMix markV szV k0 ls k)) ∧ Hid (Within N M w wr)) (fun _ i _ => ls.length - (intOf i).toNat)
  case atStart => exact ⟨0, k0, f0, Nat.zero_le _, rfl, rfl, hide (by simp [gSz]), h0, by have := ((unhide HTOT) 0).1; simp [gSz] at this; omega, HR0, hide (by rw [gMix_zero]; exact unhide HIN0), hide (Within.refl _ _ _)⟩
  case round =>
    obtain ⟨k, m, f, hk, rfl, rfl, HM2, hm0, hm1, HROW, HP, HW⟩ := hrel
    by_cases hlt : k < ls.length
    · have hml := gMix_len markV szV k0 ls k hk
      have hrow := unhide HROW
      have hcell : ∀ j (hj : j < 3), f (k * 3 + j) = (viewCells ls[k].inc ls[k].ver (vs k))[j] := fun j hj => by
        have e := (unhide HP).cells k (by omega) j hj
        rw [e]
        simp only [gMix_at markV szV k0 ls k hlt (by omega)]
      have hown := (unhide HP).own k (by omega)
      rw [gMix_at markV szV k0 ls k hlt (by omega)] at hown
      have hlp := (unhide HL) ls[k] (List.getElem_mem hlt)
      have htot := (unhide HTOT) (k + 1)
      rw [take_more ls k hlt, gSz_snoc, ← Int.add_assoc, ← unhide HM2] at htot
      obtain ⟨l, hle⟩ : ∃ l, l = ls[k] := ⟨_, rfl⟩
      rw [← hle] at hown hlp htot
      simp only [← hle] at hcell
      have HLE := hide hle
      obtain ⟨ea, ca, hea⟩ : ∃ a c, vs k = .slice a l.es.length c := by
        obtain ⟨a, c, h⟩ := RowsFr_sliced hown
        exact ⟨a, c, by rw [h, List.length_map]⟩
      have hkI : (k : Int) < (ls.length : Int) := by omega
      have g0 : wr.cell? ⟨g, k * 3, none⟩ = some (f (k * 3 + 0)) := hrow.cell (i := k * 3 + 0) (mul_place (by omega) (by omega))
      have z0 : wr.frozen? ⟨g, k * 3, none⟩ = false := hrow.frozen (k * 3 + 0)
      have g1 : wr.cell? ⟨g, k * 3 + 1, none⟩ = some (f (k * 3 + 1)) := hrow.cell (i := k * 3 + 1) (mul_place (by omega) (by omega))
      have z1 : wr.frozen? ⟨g, k * 3 + 1, none⟩ = false := hrow.frozen (k * 3 + 1)
      have hset : ((wr.setCell ⟨g, k * 3, none⟩ (.int .i64 m)).setCell ⟨g, k * 3 + 1, none⟩ (.int .i64 (m + 1))) = setVals wr g (k * 3) [.int .i64 m, .int .i64 (m + 1)] := rfl
      have hrow1 := setVals_row [.int .i64 m, .int .i64 (m + 1)] (k * 3) wr f hrow
      have c2 : ((wr.setCell ⟨g, k * 3, none⟩ (.int .i64 m)).setCell ⟨g, k * 3 + 1, none⟩ (.int .i64 (m + 1))).cell? ⟨g, k * 3 + 2, none⟩ = some (.slice ea l.es.length ca) := by
        rw [hset, hrow1.cell (mul_place (by omega) (by omega))]
        show some (if k * 3 ≤ k * 3 + 2 ∧ k * 3 + 2 < k * 3 + 2 then _ else f (k * 3 + 2)) = _
        rw [if_neg (by omega), hcell 2 (by omega)]
        show some (vs k) = _
        rw [hea]
      have HCL := hide c2
      have HSET := hide hset
      have HROW1 := hide hrow1
      have HEA := hide hea
      have HF : Hid (f (k * 3 + 2) = vs k) := hide (hcell 2 (by omega))
      have HPO := hide hown
      have HTO := hide htot
      have hto1 : m + 2 + 7 * (l.es.length : Int) ≤ 100000000000000 := by have := htot.1; unfold szV at this; omega
      clear c2 hset hrow1 hcell hown hrow hle hea hml htot
      go_upto_region 8 with fail
      clear g0 z0 g1 z1
      generalize ((wr.setCell ⟨g, k * 3, none⟩ (.int .i64 m)).setCell ⟨g, k * 3 + 1, none⟩ (.int .i64 (m + 1))) = w1 at *
      have c2 := unhide HCL
      go_wp2_with fail
      refine (markEventS_any N 61 _ l.es.length (m + 1 + 1) w1 ?_ (by omega) (by omega) (by omega)).mono ?_
      · have h2 : RowsFr N 61 7 w1 (vs k) (l.es.map evRow) := by
          rw [unhide HSET]
          exact (unhide HPO).block (fun b hb _ => setVals_other _ _ _ _ (fun e => (unhide HP).out k (by rw [gMix_len markV szV k0 ls k hk]; exact hlt) (e ▸ hb)))
        have := h2.room
        rw [List.length_map, unhide HEA] at this
        exact this
      rintro e w2 ⟨rfl, hp2, ho2⟩
      have HP2 := hide hp2
      have HO2 := hide ho2
      clear hp2 ho2 c2
      go_wp2_with fail
      go_roundw
      case rel =>
        have hkm : k < (gMix markV szV k0 ls k).length := by rw [gMix_len markV szV k0 ls k hk]; exact hlt
        have ho2 : OnlyOf (vs k) w1 w2 := by rw [unhide HEA]; exact unhide HO2
        have hr1 := unhide HROW1
        rw [← unhide HSET] at hr1
        have hr2 := hr1.of_block (ho2.other g ((unhide HP).out k hkm))
        have hw1 : Within N M wr w1 := by rw [unhide HSET]; exact Within.vals _ hN hM
        have hw12 : Within N M w1 w2 := Within.of_only ho2 (fun b hb => ⟨((unhide HPO).blk b hb).1, (unhide HP).hi k hkm b hb⟩)
        have hs : ViewsRow N M w2 g (fun j => if k * 3 ≤ j ∧ j < k * 3 + ([.int .i64 m, .int .i64 (m + 1)] : List Value).length then ([.int .i64 m, .int .i64 (m + 1)] : List Value).getD (j - k * 3) undef else f j) vs ((gMix markV szV k0 ls k).set k (markV m l)) := by
          refine (unhide HP).set hkm (fun j => ?_) (fun b h1 h2 => ?_) ?_
          · by_cases hj : k * 3 ≤ j ∧ j < k * 3 + 3
            · rw [if_pos hj]
              obtain ⟨i, rfl⟩ : ∃ i, j = k * 3 + i := ⟨j - k * 3, by omega⟩
              rw [Nat.add_sub_cancel_left]
              show (if k * 3 ≤ k * 3 + i ∧ k * 3 + i < k * 3 + 2 then ([.int .i64 m, .int .i64 (m + 1)]).getD i undef else f (k * 3 + i)) = _
              rw [← markV_cells m l (vs k)]
              by_cases hi : i < 2
              · rw [if_pos (by omega)]
                simp only [List.getD_eq_getElem?_getD]
                rw [List.getElem?_append_left (by simpa using hi)]
              · rw [if_neg (by omega)]
                obtain rfl : i = 2 := by omega
                exact unhide HF
            · rw [if_neg hj]
              show (if k * 3 ≤ j ∧ j < k * 3 + 2 then _ else f j) = _
              rw [if_neg (by omega)]
          · rw [ho2.other b h2, unhide HSET]
            exact setVals_other _ _ _ _ h1
          · have hp := unhide HP2
            rw [← unhide HEA] at hp
            simp only [markV]
            rw [markEvs_rows, show m + 2 = m + 1 + 1 by omega]
            exact hp
        have e1 : (gMix markV szV k0 ls k).set k (markV m l) = gMix markV szV k0 ls (k + 1) := by
          rw [unhide HM2, unhide HLE]
          exact gMix_set markV szV k0 ls k hlt
        rw [e1] at hs
        have hmm : m + 1 + 1 + 7 * (l.es.length : Int) = m + szV l := by unfold szV; omega
        exact ⟨k + 1, _, _, by omega, by go_num, rfl, hide (by rw [hmm, unhide HM2, take_more ls k hlt, gSz_snoc, unhide HLE]; omega), by rw [hmm]; exact (unhide HTO).2, by rw [hmm]; exact (unhide HTO).1, hide hr2, hide hs, hide ((unhide HW).trans (hw1.trans hw12))⟩
      case measure => (simp [intOf]; try omega)
    · have hke : k = ls.length := by omega
      have hkI : ¬ (k : Int) < (ls.length : Int) := by omega
      go_wp2_with fail
      go_ret
      refine ⟨ret_int (by rw [unhide HM2, hke, List.take_length]), ?_, unhide HW⟩
      have h1 := unhide HP
      rw [hke, gMix_all] at h1
      exact Or.inr ⟨g, cap, f, vs, by rw [gMark_len], hN, hM, by rw [gMark_len]; exact hlc, unhide HMX, unhide HROW, h1⟩

set_option maxRecDepth 100000 in
set_option maxHeartbeats 2000000 in
theorem heldViewS_any (v : Value) (ls : List ViewV) (k0 : Int) (w : World) (h : ViewsAt w v (gMark markV szV k0 ls)) (hl : ∀ l ∈ ls, l.es.length ≤ 1048576) (h0 : 0 ≤ k0) (h1 : k0 + gSz szV ls ≤ 100000000000000) :
    Calls Try.prog 64 #[v, .int .i64 k0] w fun e w' => e = .returned (.int .i64 (k0 + gSz szV ls)) ∧ w' = w := by
  obtain ⟨a1, c1, rfl, hlc, hm, hc⟩ := h
  rw [gMark_len] at hlc hm ⊢
  have HC := hide hc
  have HL := hide hl
  have HTOT : Hid (∀ i, k0 + gSz szV (ls.take i) ≤ 100000000000000 ∧ 0 ≤ k0 + gSz szV (ls.take i)) := hide (fun i => by
    have h2 := gSz_take szV szV_pos ls i
    have h3 := gSz_pos szV szV_pos (ls.take i)
    omega)
  clear hc hl
  unfold maxLen at hm
  have hne : ∀ x : Int, (x != x) = false := by intro x; simp
  go_enter Try.func64, Try.ntmps64
  go_wp2_with fail
  go_loop [1, 5] (fun a i => ∃ (k : Nat) (m : Int), k ≤ ls.length ∧ i = .int .i64 k ∧ a = .int .i64 m ∧ Hid (m = k0 + gSz szV (ls.take k)) ∧ 0 ≤ m ∧ m ≤ 100000000000000) (fun _ i => ls.length - (intOf i).toNat)
  case atStart => exact ⟨0, k0, Nat.zero_le _, rfl, rfl, hide (by simp [gSz]), h0, by have := ((unhide HTOT) 0).1; simp [gSz] at this; omega⟩
  case round =>
    obtain ⟨k, m, hk, rfl, rfl, HM2, hm0, hm1⟩ := hrel
    by_cases hlt : k < ls.length
    · have hmk := gMark_at markV szV ls k0 k hlt (by rw [gMark_len]; exact hlt)
      rw [← unhide HM2] at hmk
      obtain ⟨b, off, vd, had, hcc, hp⟩ : ∃ b off vd, a1 = some ⟨b, off, none⟩ ∧ CellsAt w b (off + k * 3) (viewCells (markV m ls[k]).inc (markV m ls[k]).ver vd) ∧ RowsAt 7 w vd ((markV m ls[k]).es.map evRow) := by
        rcases unhide HC with h | ⟨b, off, h1, h2⟩
        · have := congrArg List.length h
          rw [gMark_len] at this
          simp at this
          rw [this] at hlt
          exact absurd hlt (Nat.not_lt_zero _)
        · obtain ⟨vd, h3, h4⟩ := h2 k (by rw [gMark_len]; exact hlt)
          rw [hmk] at h3 h4
          exact ⟨b, off, vd, h1, h3, h4⟩
      subst had
      have hlp := (unhide HL) ls[k] (List.getElem_mem hlt)
      have htot := (unhide HTOT) (k + 1)
      rw [take_more ls k hlt, gSz_snoc, ← Int.add_assoc, ← unhide HM2] at htot
      obtain ⟨l, hle⟩ : ∃ l, l = ls[k] := ⟨_, rfl⟩
      rw [← hle] at hcc hp hlp htot
      have HLE := hide hle
      clear hle hmk
      obtain ⟨ea, ca, hea⟩ : ∃ a c, vd = .slice a l.es.length c := by
        obtain ⟨a, c, h, _⟩ := hp
        exact ⟨a, c, by rw [h]; simp [markV, markEvs_len]⟩
      subst hea
      have hkI : (k : Int) < (ls.length : Int) := by omega
      have q0 : w.cell? ⟨b, off + k * 3, none⟩ = some (.int .i64 m) := hcc 0 (by simp)
      have q1 : w.cell? ⟨b, off + k * 3 + 1, none⟩ = some (.int .i64 (m + 1)) := by
        rw [show m + 1 = m + 1 by omega]
        exact hcc 1 (by simp)
      have q2 : w.cell? ⟨b, off + k * 3 + 2, none⟩ = some (.slice ea l.es.length ca) := hcc 2 (by simp)
      have HPS := hide hp
      have HTO := hide htot
      have hto1 : m + 2 + 7 * (l.es.length : Int) ≤ 100000000000000 := by have := htot.1; unfold szV at this; omega
      clear hcc hp htot
      go_wp2_with fail
      refine (heldEventS_any _ l.es.length (m + 1 + 1) w (by have e := unhide HPS; simp only [markV] at e; rw [markEvs_rows, show m + 2 = m + 1 + 1 by omega] at e; exact e) (by omega) (by omega) (by omega)).mono ?_
      rintro e w2 ⟨rfl, hw2⟩
      obtain rfl := hw2.symm
      have hmm : m + 1 + 1 + 7 * (l.es.length : Int) = m + szV l := by unfold szV; omega
      rw [hmm]
      have hz0 := (unhide HTO).2
      have hz1 := (unhide HTO).1
      have hzn : ¬ m + szV l < 0 := by omega
      clear hmm
      clear q0 q1 q2
      go_wp2_with fail
      go_round
      case rel => exact ⟨k + 1, _, by omega, by go_num, rfl, hide (by rw [unhide HM2, take_more ls k hlt, gSz_snoc, unhide HLE]; omega), hz0, hz1⟩
      case measure => (simp [intOf]; try omega)
    · have hke : k = ls.length := by omega
      have hkI : ¬ (k : Int) < (ls.length : Int) := by omega
      go_wp2_with fail
      go_ret
      exact ⟨ret_int (by rw [unhide HM2, hke, List.take_length]), rfl⟩
end Go.Proofs.Ytgllaimjoneokaa
