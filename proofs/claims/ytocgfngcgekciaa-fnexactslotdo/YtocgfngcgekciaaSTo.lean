/- The exact laws' sz and to of lists of lists, slots, disks. -/
import Derived.Test.YtocgfngcgekciaaSlot2
import Derived.Test.YtocgfngcgekciaaSOk
namespace Go.Proofs.Ytocgfngcgekciaa
open Go.RowKit
set_option linter.unusedVariables false
set_option linter.unusedSimpArgs false


def szG (ls : List (List Int)) : Int := (ls.length : Int) + gSz szN ls
theorem gSz_mem : ∀ (ls : List (List Int)), ∀ l ∈ ls, (l.length : Int) ≤ gSz szN ls
  | x :: xs, l, h => by
    have h1 := gSz_pos szN szN_pos xs
    have h2 := szN_pos x
    rcases List.mem_cons.1 h with rfl | h
    · simp only [gSz, szN] at h1 ⊢; omega
    · have := gSz_mem xs l h
      simp only [gSz]; omega

set_option maxRecDepth 100000 in
set_option maxHeartbeats 1000000 in
theorem szInt23any (v : Value) (ls : List (List Int)) (left : Int) (w : World) (h : GridAt w v ls) (h0 : 0 ≤ left) (h1 : left ≤ 1048576) :
    Calls Try.prog 87 #[v, .int .i64 left] w fun e w' => ∃ r, e = .returned (.int .i64 r) ∧ (r = -1 ∨ 0 ≤ r ∧ r = left - szG ls) ∧ w' = w := by
  have hm := h.len
  obtain ⟨ad, cap, rfl⟩ := h.sliced
  unfold maxLen at hm
  have HC := hide h
  clear h
  rcases Int.lt_or_le left (ls.length : Int) with hx | hx
  · go_enter Try.func87, Try.ntmps87
    go_wp2
    go_ret
    exact ⟨-1, rfl, Or.inl rfl, rfl⟩
  go_enter Try.func87, Try.ntmps87
  go_wp2_with fail
  go_loop [1, 5] (fun a i => ∃ (k : Nat) (m : Int), k ≤ ls.length ∧ i = .int .i64 k ∧ a = .int .i64 m ∧ Hid (m = left - (ls.length : Int) - gSz szN (ls.take k)) ∧ 0 ≤ m ∧ m ≤ 1048576) (fun _ i => ls.length - (intOf i).toNat)
  case atStart => exact ⟨0, _, Nat.zero_le _, rfl, rfl, hide (by simp [gSz]), by omega, by omega⟩
  case round =>
    obtain ⟨k, m, hk, rfl, rfl, HM, hm0, hm1⟩ := hrel
    by_cases hlt : k < ls.length
    · obtain ⟨b, off, vd, had, p1, hp⟩ := (unhide HC).row hlt
      have hkI : (k : Int) < (ls.length : Int) := by omega
      have hk0 : (0 : Int) ≤ (k : Int) := by omega
      subst had
      have HP := hide hp
      obtain ⟨ea, ec, rfl⟩ := hp.sliced
      have HT := hide (show gSz szN (ls.take (k + 1)) = gSz szN (ls.take k) + (ls[k].length : Int) by rw [take_more ls k hlt, gSz_snoc]; rfl)
      clear hp
      generalize ls[k] = z at *
      go_wp2_with fail
      refine (szIntS_any _ z m _ (unhide HP) hm0 hm1).mono ?_
      rintro e w2 ⟨r, rfl, hr, hw2⟩
      obtain rfl := hw2.symm
      rcases hr with ⟨rfl, _⟩ | ⟨hr0, hr1⟩
      · go_wp2_with fail
        go_ret
        exact ⟨-1, rfl, Or.inl rfl, rfl⟩
      · have hrn : ¬ r < 0 := by omega
        have HR := hide hr1
        clear hr1
        go_wp2_with fail
        go_round
        case rel => exact ⟨k + 1, r, by omega, by go_num, rfl, hide (by rw [unhide HT, unhide HR, unhide HM]; omega), hr0, by have := unhide HR; omega⟩
        case measure => (simp [intOf]; try omega)
    · have hke : k = ls.length := by omega
      subst hke
      go_wp2_with fail
      go_ret
      exact ⟨m, rfl, Or.inr ⟨hm0, by have := unhide HM; rw [List.take_length] at this; unfold szG; omega⟩, rfl⟩

set_option maxRecDepth 100000 in
theorem szSlot_any (s : SlotV) (v : Value) (left : Int) (w : World) (h : GridAt w v s.rows) (h0 : 0 ≤ left) (h1 : left ≤ 1048576) :
    Calls Try.prog 62 #[slotAgg s v, .int .i64 left] w fun e w' => ∃ r, e = .returned (.int .i64 r) ∧ (r = -1 ∨ 0 ≤ r ∧ r = left - szG s.rows) ∧ Below w.heap.size w w' := by
  obtain ⟨a1, c1, rfl⟩ := h.sliced
  have hb0 : Below w.heap.size w (w.alloc (.cells #[.int .i64 s.num, .int .i64 s.cnt, .slice a1 s.rows.length c1] 49)) := (Below.refl _ _).alloc (Nat.le_refl _) _
  have K := hide (cellsAt_new w (slotCells s (.slice a1 s.rows.length c1)) 49)
  have H := hide (h.on hb0)
  have HB := hide hb0
  clear h hb0
  go_enter Try.func62, Try.ntmps62
  go_upto_region 1 with fail
  generalize (w.alloc (.cells #[.int .i64 s.num, .int .i64 s.cnt, .slice a1 s.rows.length c1] 49)) = W at *
  have m2 : W.cell? ⟨w.heap.size, 2, none⟩ = some (.slice a1 s.rows.length c1) := (unhide K) 2 (by simp)
  go_wp2_with fail
  refine (szInt23any _ s.rows left W (unhide H) h0 h1).mono ?_
  rintro e w' ⟨r, rfl, hr, hw⟩
  obtain rfl := hw.symm
  rcases hr with rfl | ⟨hr0, hr1⟩
  · go_wp2_with fail
    go_ret
    exact ⟨-1, rfl, Or.inl rfl, unhide HB⟩
  · have hrn : ¬ r < 0 := by omega
    have HR := hide hr1
    clear hr1
    go_wp2_with fail
    go_ret
    exact ⟨r, rfl, Or.inr ⟨hr0, unhide HR⟩, unhide HB⟩

set_option maxRecDepth 100000 in
set_option maxHeartbeats 1000000 in
theorem szSlotDisk_any (d : DiskV) (va vb : Value) (left : Int) (w : World) (h : DiskAt w d va vb) (h0 : 0 ≤ left) (h1 : left ≤ 1048576) :
    Calls Try.prog 28 #[diskAgg d va vb, .int .i64 left] w fun e w' => ∃ r, e = .returned (.int .i64 r) ∧ (r = -1 ∨ 0 ≤ r ∧ r = left - szG d.a.rows - szG d.b.rows) ∧ Below w.heap.size w w' := by
  have hpa : 0 ≤ szG d.a.rows := by have := gSz_pos szN szN_pos d.a.rows; unfold szG; omega
  have hpb : 0 ≤ szG d.b.rows := by have := gSz_pos szN szN_pos d.b.rows; unfold szG; omega
  obtain ⟨a1, c1, rfl⟩ := h.a.sliced
  obtain ⟨a2, c2, rfl⟩ := h.b.sliced
  have hb0 : Below w.heap.size w (w.alloc (.cells (diskCells d (.slice a1 d.a.rows.length c1) (.slice a2 d.b.rows.length c2)).toArray 51)) := (Below.refl _ _).alloc (Nat.le_refl _) _
  have K := hide (cellsAt_new w (diskCells d (.slice a1 d.a.rows.length c1) (.slice a2 d.b.rows.length c2)) 51)
  have H := hide (h.on hb0)
  have HB := hide hb0
  clear h hb0
  go_enter Try.func28, Try.ntmps28
  go_upto_region 1 with fail
  change Code.wp _ _ _ _ (w.alloc (.cells (diskCells d (.slice a1 d.a.rows.length c1) (.slice a2 d.b.rows.length c2)).toArray 51))
  generalize (w.alloc (.cells (diskCells d (.slice a1 d.a.rows.length c1) (.slice a2 d.b.rows.length c2)).toArray 51)) = W at *
  have m0 : W.cell? ⟨w.heap.size, 0, none⟩ = some (.int .i64 d.a.num) := (unhide K) 0 (by simp)
  have m1 : W.cell? ⟨w.heap.size, 1, none⟩ = some (.int .i64 d.a.cnt) := (unhide K) 1 (by simp)
  have m2 : W.cell? ⟨w.heap.size, 2, none⟩ = some (.slice a1 d.a.rows.length c1) := (unhide K) 2 (by simp)
  go_wp2_with fail
  refine (szSlot_any d.a _ left W (unhide H).a h0 h1).mono ?_
  rintro e w1 ⟨r, rfl, hr, hb1⟩
  clear m0 m1 m2
  have HB1 := hide (below_then (unhide HB) hb1)
  rcases hr with rfl | ⟨hr0, hr1⟩
  · go_wp2_with fail
    go_ret
    exact ⟨-1, rfl, Or.inl rfl, unhide HB1⟩
  have hrn : ¬ r < 0 := by omega
  have hrl : r ≤ 1048576 := by omega
  have HR := hide hr1
  have K1 := hide ((unhide K).on hb1)
  have H1 := hide ((unhide H).b.on hb1)
  clear hr1 hb1
  have m3 : w1.cell? ⟨w.heap.size, 3, none⟩ = some (.int .i64 d.b.num) := (unhide K1) 3 (by simp)
  have m4 : w1.cell? ⟨w.heap.size, 4, none⟩ = some (.int .i64 d.b.cnt) := (unhide K1) 4 (by simp)
  have m5 : w1.cell? ⟨w.heap.size, 5, none⟩ = some (.slice a2 d.b.rows.length c2) := (unhide K1) 5 (by simp)
  go_wp2_with fail
  refine (szSlot_any d.b _ r w1 (unhide H1) hr0 hrl).mono ?_
  rintro e w2 ⟨q, rfl, hq, hb2⟩
  clear m3 m4 m5
  have HB2 := hide (below_then (unhide HB1) hb2)
  rcases hq with rfl | ⟨hq0, hq1⟩
  · go_wp2_with fail
    go_ret
    exact ⟨-1, rfl, Or.inl rfl, unhide HB2⟩
  have hqn : ¬ q < 0 := by omega
  have HQ := hide hq1
  clear hq1
  go_wp2_with fail
  go_ret
  exact ⟨q, rfl, Or.inr ⟨hq0, by rw [unhide HQ, unhide HR]⟩, unhide HB2⟩

/-! Rows each in a block of its own, as they come one behind the other. -/
structure RowsUpTo (N : Nat) (w : World) (f : Nat → Value) (ls : List (List Int)) (k : Nat) : Prop where
  rows : ∀ i (h : i < ls.length), i < k → RowsFr N 3 1 w (f i) (ls[i].map fun z => [z])
  sep : ∀ i j, i < j → j < k → j < ls.length → Apart (f i) (f j)

theorem RowsUpTo.zero (N : Nat) (w : World) (f : Nat → Value) (ls : List (List Int)) : RowsUpTo N w f ls 0 := ⟨fun _ _ h => absurd h (Nat.not_lt_zero _), fun _ _ _ h => absurd h (Nat.not_lt_zero _)⟩

theorem RowsUpTo.next {N k q : Nat} {w w' : World} {f : Nat → Value} {ls : List (List Int)} {v : Value} (h : RowsUpTo N w f ls k) (hk : k < ls.length) (hb : Below w.heap.size w w') (hN : N ≤ w.heap.size)
    (hr : RowsFr w.heap.size 3 1 w' v (ls[k].map fun z => [z])) (hq : q < N) : RowsUpTo N (w'.setCell ⟨q, k, none⟩ v) (setF f k v) ls (k + 1) := by
  refine ⟨fun i hi hik => ?_, fun i j hij hjk hj => ?_⟩
  · by_cases e : i = k
    · subst e
      simp only [setF, if_pos]
      exact (hr.block (fun g hg _ => Below.heap_setCell w' ⟨q, i, none⟩ v g (by have := (hr.blk g hg).1; show g ≠ q; omega))).less hN
    · have h1 := h.rows i hi (by omega)
      simp only [setF, if_neg e]
      exact h1.block (fun g hg hlt => (Below.heap_setCell w' ⟨q, k, none⟩ v g (by have := (h1.blk g hg).1; show g ≠ q; omega)).trans (hb.block g hlt))
  · by_cases e : j = k
    · subst e
      have h1 := h.rows i (by omega) hij
      simp only [setF, if_neg (show ¬ i = j by omega), if_pos]
      intro g hg1 hg2
      have := (h1.blk g hg1).2
      have := (hr.blk g hg2).1
      omega
    · simp only [setF, if_neg e, if_neg (show ¬ i = k by omega)]
      exact h.sep i j hij (by omega) hj

theorem RowsUpTo.grid {N q t cap : Nat} {w : World} {f : Nat → Value} {ls : List (List Int)} (h : RowsUpTo (q + 1) w f ls ls.length) (hr : w.rowIs q t cap f) (hN : N ≤ q) (hm : ls.length ≤ maxLen) (hcap : ls.length ≤ cap) : GridOwn N w (.slice (some ⟨q, 0, none⟩) ls.length cap) f ls :=
  ⟨⟨_, cap, rfl, hcap, hm, Or.inr ⟨q, 0, rfl, hN, fun i hi => by rw [Nat.zero_add]; exact hr.cell (by omega)⟩⟩, fun i hi => (h.rows i hi hi).less (by omega), fun i hi g h1 h2 => by
    have := ((h.rows i hi hi).blk g h1).1
    have e : q = g := by simpa [Value.ownBlock] using h2
    omega, fun i j hij hj => h.sep i j hij hj hj, fun g hg => by
    have e : q = g := by simpa [Value.ownBlock] using hg
    subst e
    exact ⟨hN, hr.lt⟩⟩

set_option maxRecDepth 100000 in
set_option maxHeartbeats 1000000 in
theorem toInt23any (v : Value) (ls : List (List Int)) (w : World) (h : GridAt w v ls) (hlen : ls.length ≤ 1048576) (hl : ∀ l ∈ ls, l.length ≤ 1048576) :
    Calls Try.prog 88 #[v] w fun e w' => ∃ f, e = .returned (.slice (some ⟨w.heap.size, 0, none⟩) ls.length ls.length) ∧ GridOwn w.heap.size w' (.slice (some ⟨w.heap.size, 0, none⟩) ls.length ls.length) f ls ∧ Below w.heap.size w w' := by
  have HMX := hide h.len
  obtain ⟨ad, cap, rfl⟩ := h.sliced
  have hmk : ∀ w : World, (Instr.makeSlice 23 (.int .i64 (ls.length : Int)) (.int .i64 (ls.length : Int))).run Try.prog w = .ok (.slice (some ⟨w.heap.size, 0, none⟩) ls.length ls.length) (w.alloc (.cells (madeCells #[.slice none 0 0] ls.length) 28)) := fun w => by
    have h := run_make_n (P := Try.prog) 23 28 _ 1 24 slice_SS info_S1 ls.length (by omega) (by omega) w
    rw [Nat.mul_one] at h
    exact h
  have HC := hide h
  have HL := hide hl
  clear h hl
  go_enter Try.func88, Try.ntmps88
  go_wp2_with fail
  have hb1 : Below w.heap.size w (w.alloc (.cells (madeCells #[.slice none 0 0] ls.length) 28)) := (Below.refl _ _).alloc (Nat.le_refl _) _
  have hsz1 : (w.alloc (.cells (madeCells #[.slice none 0 0] ls.length) 28)).heap.size = w.heap.size + 1 := World.size_alloc _ _
  obtain ⟨f1, hr1⟩ : ∃ f, (w.alloc (.cells (madeCells #[.slice none 0 0] ls.length) 28)).rowIs w.heap.size 28 ls.length f :=
    ⟨_, row_made w #[.slice none 0 0] ls.length 28⟩
  clear hmk
  generalize w.alloc (.cells (madeCells #[.slice none 0 0] ls.length) 28) = w1 at *
  have HS1 := hide hsz1
  clear hsz1
  go_loopw [4] (fun i wr => ∃ (k : Nat) (f : Nat → Value), k ≤ ls.length ∧ i = .int .i64 k ∧ Hid (wr.rowIs w.heap.size 28 ls.length f) ∧ Hid (RowsUpTo (w.heap.size + 1) wr f ls k) ∧ Hid (w.heap.size + 1 ≤ wr.heap.size) ∧ Below w.heap.size w wr) (fun i _ => ls.length - (intOf i).toNat)
  case atStart => exact ⟨0, _, Nat.zero_le _, rfl, hide hr1, hide (RowsUpTo.zero _ _ _ _), hide (by have := unhide HS1; omega), hb1⟩
  case round =>
    obtain ⟨k, f, hk, rfl, HROW, HIN, HSZ, hb⟩ := hrel
    clear hr1
    by_cases hlt : k < ls.length
    · obtain ⟨b, off, vd, had, p1, hp⟩ := ((unhide HC).on hb).row hlt
      have hkI : (k : Int) < (ls.length : Int) := by omega
      have hk0 : (0 : Int) ≤ (k : Int) := by omega
      subst had
      have HP := hide hp
      obtain ⟨ea, ec, rfl⟩ := hp.sliced
      have hlk := (unhide HL) ls[k] (List.getElem_mem hlt)
      have hlt2 := (unhide HROW).lt
      have HLK := hide (show ∀ l, l = ls[k] → l = ls[k] from fun l h => h)
      clear hp
      obtain ⟨z, hz⟩ : ∃ z, z = ls[k] := ⟨_, rfl⟩
      rw [← hz] at p1 hlk
      have HZ := hide hz
      rw [← hz] at HP
      clear hz HLK
      go_wp2_with fail
      refine (toIntS_any _ z _ (unhide HP) hlk).mono ?_
      rintro e w2 ⟨v2, rfl, hf2, hb2⟩
      obtain ⟨ga, gc, hgv⟩ := RowsFr_sliced hf2
      rw [List.length_map] at hgv
      subst hgv
      have hrow2 := (unhide HROW).of_block (hb2.block w.heap.size hlt2)
      have g0 : w2.cell? ⟨w.heap.size, k, none⟩ = some (f k) := hrow2.cell (i := k) hlt
      have z0 : w2.frozen? ⟨w.heap.size, k, none⟩ = false := hrow2.frozen k
      have HROW2 := hide hrow2
      have HF2 := hide hf2
      have HB2 := hide hb2
      clear hf2 hb2 hrow2 p1 hlt2
      go_wp2_with fail
      go_roundw
      case rel =>
        have hf := unhide HF2
        rw [unhide HZ] at hf
        have hn := (unhide HIN).next (q := w.heap.size) (v := .slice ga z.length gc) hlt (unhide HB2) (unhide HSZ) (by rw [unhide HZ]; exact hf) (by omega)
        have hr2 := rowIs_set1 (j := k) (u := .slice ga z.length gc) (unhide HROW2)
        exact ⟨k + 1, _, by omega, by go_num, hide hr2, hide hn, hide (by have h1 := unhide HSZ; have h2 := (unhide HB2).size; simp; omega), (hb.trans ((unhide HB2).mono (by have := unhide HSZ; omega))).setCell (p := ⟨w.heap.size, k, none⟩) (Nat.le_refl _) _⟩
      case measure => (simp [intOf]; try omega)
    · have hke : k = ls.length := by omega
      subst hke
      go_wp2_with fail
      go_ret
      exact ⟨f, rfl, (unhide HIN).grid (unhide HROW) (Nat.le_refl _) (unhide HMX) (Nat.le_refl _), hb⟩

set_option maxRecDepth 100000 in
set_option maxHeartbeats 1000000 in
theorem toSlot_any (s : SlotV) (v : Value) (w : World) (h : GridAt w v s.rows) (hlen : s.rows.length ≤ 1048576) (hl : ∀ l ∈ s.rows, l.length ≤ 1048576) :
    Calls Try.prog 63 #[slotAgg s v] w fun e w' => ∃ v' f, e = .returned (slotAgg s v') ∧ GridOwn (w.heap.size + 3) w' v' f s.rows ∧ w.heap.size + 3 ≤ w'.heap.size ∧ Below w.heap.size w w' := by
  have H := hide h
  obtain ⟨a1, c1, rfl⟩ := h.sliced
  have HL := hide hl
  clear h hl
  obtain ⟨W0, hW0⟩ : ∃ W0, W0 = ((w.alloc (.cells #[.int .i64 s.num, .int .i64 s.cnt, .slice a1 s.rows.length c1] 49)).alloc (.cells #[.int .i64 0, .int .i64 0, .slice none 0 0] 25)).alloc (.cells #[.int .i64 s.num, .int .i64 s.cnt, .slice none 0 0] 25) := ⟨_, rfl⟩
  have hs1 : (w.alloc (.cells #[.int .i64 s.num, .int .i64 s.cnt, .slice a1 s.rows.length c1] 49)).heap.size = w.heap.size + 1 := World.size_alloc _ _
  have hs2 : ((w.alloc (.cells #[.int .i64 s.num, .int .i64 s.cnt, .slice a1 s.rows.length c1] 49)).alloc (.cells #[.int .i64 0, .int .i64 0, .slice none 0 0] 25)).heap.size = w.heap.size + 2 := by rw [World.size_alloc, hs1]
  have hs3 : W0.heap.size = w.heap.size + 3 := by rw [hW0, World.size_alloc, hs2]
  have b12 := (Below.refl (w.alloc (.cells #[.int .i64 s.num, .int .i64 s.cnt, .slice a1 s.rows.length c1] 49)).heap.size (w.alloc (.cells #[.int .i64 s.num, .int .i64 s.cnt, .slice a1 s.rows.length c1] 49))).alloc (Nat.le_refl _) (.cells #[.int .i64 0, .int .i64 0, .slice none 0 0] 25)
  have b23 := (Below.refl _ ((w.alloc (.cells #[.int .i64 s.num, .int .i64 s.cnt, .slice a1 s.rows.length c1] 49)).alloc (.cells #[.int .i64 0, .int .i64 0, .slice none 0 0] 25))).alloc (Nat.le_refl _) (.cells #[.int .i64 s.num, .int .i64 s.cnt, .slice none 0 0] 25)
  have b13 := below_then b12 b23
  rw [← hW0] at b13 b23
  have K1 := hide ((cellsAt_new w [.int .i64 s.num, .int .i64 s.cnt, .slice a1 s.rows.length c1] 49).on b13)
  have R2 := hide ((row_new (w.alloc (.cells #[.int .i64 s.num, .int .i64 s.cnt, .slice a1 s.rows.length c1] 49)) [.int .i64 0, .int .i64 0, .slice none 0 0] 25).of_block (b23.block _ (by rw [hs1, hs2]; omega)))
  have R3 := hide (row_new ((w.alloc (.cells #[.int .i64 s.num, .int .i64 s.cnt, .slice a1 s.rows.length c1] 49)).alloc (.cells #[.int .i64 0, .int .i64 0, .slice none 0 0] 25)) [.int .i64 s.num, .int .i64 s.cnt, .slice none 0 0] 25)
  rw [hs1] at R2
  rw [hs2] at R3
  have R3' : Hid (W0.rowIs (w.heap.size + 2) 25 3 (fun i => ([.int .i64 s.num, .int .i64 s.cnt, .slice none 0 0] : List Value).getD i undef)) := hide (by rw [hW0]; exact unhide R3)
  have HB : Hid (Below w.heap.size w W0) := hide (((Below.refl w.heap.size w).alloc (Nat.le_refl _) _).trans (b13.mono (by rw [hs1]; omega)))
  have HW := hide hW0
  have HS := hide hs3
  clear R3 b12 b23 b13 hs1 hs2 hs3 hW0
  go_enter Try.func63, Try.ntmps63
  go_upto_region 4 with fail
  rw [← unhide HW]
  clear HW
  have m2 : W0.cell? ⟨w.heap.size, 2, none⟩ = some (.slice a1 s.rows.length c1) := (unhide K1) 2 (by simp)
  go_wp2_with fail
  refine (toInt23any _ s.rows W0 ((unhide H).on (unhide HB)) hlen (unhide HL)).mono ?_
  rintro e w1 ⟨f, rfl, hg, hb1⟩
  clear m2
  have hs := unhide HS
  have r2 := (unhide R2).of_block (hb1.block (w.heap.size + 1) (by omega))
  have r3 := (unhide R3').of_block (hb1.block (w.heap.size + 2) (by omega))
  have hrow3 := rowIs_set1 (j := 2) (u := .slice (some ⟨W0.heap.size, 0, none⟩) s.rows.length s.rows.length) r3
  have r2' := r2.of_block (Below.heap_setCell w1 ⟨w.heap.size + 2, 2, none⟩ (.slice (some ⟨W0.heap.size, 0, none⟩) s.rows.length s.rows.length) (w.heap.size + 1) (by show w.heap.size + 1 ≠ w.heap.size + 2; omega))
  have hg3 := hg.keep (w' := w1.setCell ⟨w.heap.size + 2, 2, none⟩ (.slice (some ⟨W0.heap.size, 0, none⟩) s.rows.length s.rows.length)) (fun b h1 h2 => Below.heap_setCell w1 ⟨w.heap.size + 2, 2, none⟩ (.slice (some ⟨W0.heap.size, 0, none⟩) s.rows.length s.rows.length) b (by show b ≠ w.heap.size + 2; omega))
  have hb3 : Below w.heap.size w (w1.setCell ⟨w.heap.size + 2, 2, none⟩ (.slice (some ⟨W0.heap.size, 0, none⟩) s.rows.length s.rows.length)) := ((unhide HB).trans (hb1.mono (by omega))).setCell (p := ⟨w.heap.size + 2, 2, none⟩) (show w.heap.size ≤ w.heap.size + 2 by omega) _
  have g2 : w1.cell? ⟨w.heap.size + 2, 2, none⟩ = some (.slice none 0 0) := r3.cell (i := 2) (by omega)
  have z2 : w1.frozen? ⟨w.heap.size + 2, 2, none⟩ = false := r3.frozen 2
  have HR2 := hide r2'
  have HR3 := hide hrow3
  have HG := hide hg3
  have HB3 := hide hb3
  have HSZ : Hid (w.heap.size + 3 ≤ (w1.setCell ⟨w.heap.size + 2, 2, none⟩ (.slice (some ⟨W0.heap.size, 0, none⟩) s.rows.length s.rows.length)).heap.size) := hide (by have := hb1.size; simp; omega)
  clear r2 r3 hrow3 r2' hg3 hb3 hg hb1 hs
  go_upto_region 5 with fail
  clear g2 z2
  generalize w1.setCell ⟨w.heap.size + 2, 2, none⟩ (.slice (some ⟨W0.heap.size, 0, none⟩) s.rows.length s.rows.length) = W3 at *
  have k0 : W3.cell? ⟨w.heap.size + 2, 0, none⟩ = some (.int .i64 s.num) := by have e := (unhide HR3).cell (i := 0) (by omega); simpa [setF] using e
  have k1 : W3.cell? ⟨w.heap.size + 2, 1, none⟩ = some (.int .i64 s.cnt) := by have e := (unhide HR3).cell (i := 1) (by omega); simpa [setF] using e
  have k2 : W3.cell? ⟨w.heap.size + 2, 2, none⟩ = some (.slice (some ⟨W0.heap.size, 0, none⟩) s.rows.length s.rows.length) := by have e := (unhide HR3).cell (i := 2) (by omega); simpa [setF] using e
  have x0 : W3.cell? ⟨w.heap.size + 1, 0, none⟩ = some (.int .i64 0) := (unhide HR2).cell (i := 0) (by simp)
  have x1 : W3.cell? ⟨w.heap.size + 1, 1, none⟩ = some (.int .i64 0) := (unhide HR2).cell (i := 1) (by simp)
  have x2 : W3.cell? ⟨w.heap.size + 1, 2, none⟩ = some (.slice none 0 0) := (unhide HR2).cell (i := 2) (by simp)
  have z0 := (unhide HR2).frozen 0
  have z1 := (unhide HR2).frozen 1
  have z2 := (unhide HR2).frozen 2
  have hrow := setVals_row [.int .i64 s.num, .int .i64 s.cnt, .slice (some ⟨W0.heap.size, 0, none⟩) s.rows.length s.rows.length] 0 W3 _ (unhide HR2)
  have v0 := hrow.cell (i := 0) (by simp)
  have v1 := hrow.cell (i := 1) (by simp)
  have v2 := hrow.cell (i := 2) (by simp)
  simp at v0 v1 v2
  have V0 := hide v0
  have V1 := hide v1
  have V2 := hide v2
  have HBF := hide (setVals_below (b := w.heap.size + 1) [.int .i64 s.num, .int .i64 s.cnt, .slice (some ⟨W0.heap.size, 0, none⟩) s.rows.length s.rows.length] 0 W3 (unhide HB3) (by omega))
  have HGF := hide ((unhide HG).keep (w' := setVals W3 (w.heap.size + 1) 0 [.int .i64 s.num, .int .i64 s.cnt, .slice (some ⟨W0.heap.size, 0, none⟩) s.rows.length s.rows.length]) (fun b h1 h2 => setVals_other _ _ _ _ (by have := unhide HS; omega)))
  have HSF : Hid (w.heap.size + 3 ≤ (setVals W3 (w.heap.size + 1) 0 [.int .i64 s.num, .int .i64 s.cnt, .slice (some ⟨W0.heap.size, 0, none⟩) s.rows.length s.rows.length]).heap.size) := hide (by rw [setVals_size]; exact unhide HSZ)
  clear hrow v0 v1 v2
  go_wp2_with fail
  show bodyPost _ _ _ _ _ (setVals W3 (w.heap.size + 1) 0 [.int .i64 s.num, .int .i64 s.cnt, .slice (some ⟨W0.heap.size, 0, none⟩) s.rows.length s.rows.length])
  clear k0 k1 k2 x0 x1 x2 z0 z1 z2
  generalize setVals W3 (w.heap.size + 1) 0 [.int .i64 s.num, .int .i64 s.cnt, .slice (some ⟨W0.heap.size, 0, none⟩) s.rows.length s.rows.length] = W9 at *
  have v0 := unhide V0
  have v1 := unhide V1
  have v2 := unhide V2
  exact bodyPost_ret (v := slotAgg s (.slice (some ⟨W0.heap.size, 0, none⟩) s.rows.length s.rows.length)) (by simp [results, Try.results63, go_sem, v0, v1, v2]) rfl ⟨_, f, rfl, (unhide HGF).less (by have := unhide HS; omega), unhide HSF, unhide HBF⟩
end Go.Proofs.Ytocgfngcgekciaa
