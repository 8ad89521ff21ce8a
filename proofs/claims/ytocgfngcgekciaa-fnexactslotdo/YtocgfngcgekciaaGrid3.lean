/- Disks each list of which lies in memory of its own; their marks. -/
import Derived.Test.YtocgfngcgekciaaGrid2
namespace Go.Proofs.Ytocgfngcgekciaa
open Go.RowKit
set_option linter.unusedVariables false
set_option linter.unusedSimpArgs false


/-- What is written of what was there lies in the blocks of P alone. -/
structure Mostly (P : Nat → Prop) (w w' : World) : Prop where
  size : w.heap.size ≤ w'.heap.size
  other : ∀ b, b < w.heap.size → ¬ P b → w'.heap[b]? = w.heap[b]?
  below : ∀ B, B ≤ w.heap.size → (∀ g, P g → B ≤ g) → Below B w w'
theorem Mostly.of_below {P : Nat → Prop} {w w' : World} (h : Below w.heap.size w w') : Mostly P w w' := ⟨h.size, fun b hb _ => h.block b hb, fun B hB _ => h.mono hB⟩
theorem Mostly.of_only {P : Nat → Prop} {w w' : World} (h : OnlyIn P w w') : Mostly P w w' := ⟨Nat.le_of_eq h.size.symm, fun b _ hb => h.other b hb, fun B _ hB => h.below B hB⟩
theorem Mostly.trans {P : Nat → Prop} {a b c : World} (h : Mostly P a b) (k : Mostly P b c) : Mostly P a c :=
  ⟨Nat.le_trans h.size k.size, fun x hx hp => (k.other x (Nat.lt_of_lt_of_le hx h.size) hp).trans (h.other x hx hp), fun B hB hp => (h.below B hB hp).trans (k.below B (Nat.le_trans hB h.size) hp)⟩
theorem Mostly.more {P Q : Nat → Prop} {w w' : World} (hPQ : ∀ g, P g → Q g) (h : Mostly P w w') : Mostly Q w w' :=
  ⟨h.size, fun b hb hq => h.other b hb (fun e => hq (hPQ b e)), fun B hB hq => h.below B hB (fun g hg => hq g (hPQ g hg))⟩

theorem GridOwn.mostly {P : Nat → Prop} {N : Nat} {w w' : World} {v : Value} {vs : Nat → Value} {ls : List (List Int)} (hm : Mostly P w w') (h : GridOwn N w v vs ls) (hv : ∀ g, v.ownBlock = some g → ¬ P g) (hr : ∀ i, i < ls.length → ∀ g, (vs i).ownBlock = some g → ¬ P g) : GridOwn N w' v vs ls := by
  obtain ⟨ad, cap, e, hl, hmx, h1⟩ := h.lies
  refine ⟨⟨ad, cap, e, hl, hmx, ?_⟩, fun i hi => (h.rows i hi).block (fun g hg hlt => hm.other g hlt (hr i hi g hg)), h.off, h.sep, fun g hg => ⟨(h.blk g hg).1, Nat.lt_of_lt_of_le (h.blk g hg).2 hm.size⟩⟩
  rcases h1 with h1 | ⟨b, off, had, hN, hc⟩
  · exact Or.inl h1
  · exact Or.inr ⟨b, off, had, hN, fun i hi => by
      rw [cell_block (hm.other b (heap_lt_of_cell (hc i hi)) (hv b (by rw [e, had]; rfl)))]; exact hc i hi⟩

structure DiskOwn (N : Nat) (w : World) (d : DiskV) (va vb : Value) (us vs : Nat → Value) : Prop where
  a : GridOwn N w va us d.a.rows
  b : GridOwn N w vb vs d.b.rows
  x : ∀ i j, i < d.a.rows.length → j < d.b.rows.length → Apart (us i) (vs j)
  xa : ∀ i, i < d.a.rows.length → Apart (us i) vb
  xb : ∀ j, j < d.b.rows.length → Apart (vs j) va

theorem DiskOwn.at {N : Nat} {w : World} {d : DiskV} {va vb : Value} {us vs : Nat → Value} (h : DiskOwn N w d va vb us vs) : DiskAt w d va vb := ⟨h.a.at, h.b.at⟩
theorem DiskOwn.on {N : Nat} {w w' : World} {d : DiskV} {va vb : Value} {us vs : Nat → Value} (hb : Below w.heap.size w w') (h : DiskOwn N w d va vb us vs) : DiskOwn N w' d va vb us vs := ⟨h.a.on hb, h.b.on hb, h.x, h.xa, h.xb⟩
theorem DiskOwn.keep {N : Nat} {w w' : World} {d : DiskV} {va vb : Value} {us vs : Nat → Value} (hk : ∀ b, N ≤ b → b < w.heap.size → w'.heap[b]? = w.heap[b]?) (h : DiskOwn N w d va vb us vs) : DiskOwn N w' d va vb us vs := ⟨h.a.keep hk, h.b.keep hk, h.x, h.xa, h.xb⟩
theorem DiskOwn.less {N M : Nat} {w : World} {d : DiskV} {va vb : Value} {us vs : Nat → Value} (hM : M ≤ N) (h : DiskOwn N w d va vb us vs) : DiskOwn M w d va vb us vs := ⟨h.a.less hM, h.b.less hM, h.x, h.xa, h.xb⟩

/-- The blocks of its rows. -/
def diskBlk (d : DiskV) (us vs : Nat → Value) (b : Nat) : Prop := rowBlk d.a.rows.length us b ∨ rowBlk d.b.rows.length vs b

def szD (d : DiskV) : Int := gSz szN d.a.rows + gSz szN d.b.rows
def markD (k : Int) (d : DiskV) : DiskV := ⟨⟨d.a.num, d.a.cnt, gMark markN szN k d.a.rows⟩, ⟨d.b.num, d.b.cnt, gMark markN szN (k + gSz szN d.a.rows) d.b.rows⟩⟩

/-- Its lists are not too long. -/
def Small (ls : List (List Int)) : Prop := ∀ l ∈ ls, l.length ≤ 1000000000

set_option maxRecDepth 100000 in
theorem markSlot_any (N : Nat) (s : SlotV) (v : Value) (vs : Nat → Value) (k0 : Int) (w : World) (h : GridOwn N w v vs s.rows) (hlen : Small s.rows) (h0 : 0 ≤ k0) (h1 : k0 + gSz szN s.rows ≤ 100000000000000) :
    Calls Try.prog 60 #[slotAgg s v, .int .i64 k0] w fun e w' => e = .returned (.int .i64 (k0 + gSz szN s.rows)) ∧ GridOwn N w' v vs (gMark markN szN k0 s.rows) ∧ Mostly (rowBlk s.rows.length vs) w w' := by
  have H := hide h
  have HS := hide hlen
  obtain ⟨a1, c1, e1⟩ := h.at.sliced
  subst e1
  clear h hlen
  have hb0 : Below w.heap.size w (w.alloc (.cells #[.int .i64 s.num, .int .i64 s.cnt, .slice a1 s.rows.length c1] 25)) := (Below.refl _ _).alloc (Nat.le_refl _) _
  have HB0 := hide hb0
  clear hb0
  go_enter Try.func60, Try.ntmps60
  go_wp2_with fail
  refine (markIntSS_any N _ vs s.rows k0 _ ((unhide H).on (unhide HB0)) (unhide HS) h0 h1).mono ?_
  rintro e w2 ⟨rfl, hp, ho⟩
  have HP := hide hp
  have HO := hide ho
  clear hp ho
  go_wp2_with fail
  go_ret
  exact ⟨rfl, unhide HP, (Mostly.of_below (unhide HB0)).trans (Mostly.of_only (unhide HO))⟩

set_option maxRecDepth 100000 in
set_option maxHeartbeats 1000000 in
theorem markSlotDisk_any (N : Nat) (d : DiskV) (va vb : Value) (us vs : Nat → Value) (k0 : Int) (w : World) (h : DiskOwn N w d va vb us vs) (ha : Small d.a.rows) (hb : Small d.b.rows) (h0 : 0 ≤ k0) (h1 : k0 + szD d ≤ 100000000000000) :
    Calls Try.prog 26 #[diskAgg d va vb, .int .i64 k0] w fun e w' => e = .returned (.int .i64 (k0 + szD d)) ∧ DiskOwn N w' (markD k0 d) va vb us vs ∧ Mostly (diskBlk d us vs) w w' := by
  have hsa := gSz_pos szN szN_pos d.a.rows
  have hsb := gSz_pos szN szN_pos d.b.rows
  unfold szD at h1 ⊢
  have H := hide h
  have HA := hide ha
  have HBB := hide hb
  obtain ⟨a1, c1, e1⟩ := h.a.at.sliced
  obtain ⟨a2, c2, e2⟩ := h.b.at.sliced
  subst e1 e2
  clear h ha hb
  have hb0 : Below w.heap.size w (w.alloc (.cells (diskCells d (.slice a1 d.a.rows.length c1) (.slice a2 d.b.rows.length c2)).toArray 27)) := (Below.refl _ _).alloc (Nat.le_refl _) _
  have K1 := hide (cellsAt_new w (diskCells d (.slice a1 d.a.rows.length c1) (.slice a2 d.b.rows.length c2)) 27)
  have HB0 := hide hb0
  have HSZ : Hid ((w.alloc (.cells (diskCells d (.slice a1 d.a.rows.length c1) (.slice a2 d.b.rows.length c2)).toArray 27)).heap.size = w.heap.size + 1) := hide (World.size_alloc _ _)
  clear hb0
  go_enter Try.func26, Try.ntmps26
  go_upto_region 1 with fail
  change Code.wp _ _ _ _ (w.alloc (.cells (diskCells d (.slice a1 d.a.rows.length c1) (.slice a2 d.b.rows.length c2)).toArray 27))
  generalize (w.alloc (.cells (diskCells d (.slice a1 d.a.rows.length c1) (.slice a2 d.b.rows.length c2)).toArray 27)) = W at *
  have m0 : W.cell? ⟨w.heap.size, 0, none⟩ = some (.int .i64 d.a.num) := (unhide K1) 0 (by simp)
  have m1 : W.cell? ⟨w.heap.size, 1, none⟩ = some (.int .i64 d.a.cnt) := (unhide K1) 1 (by simp)
  have m2 : W.cell? ⟨w.heap.size, 2, none⟩ = some (.slice a1 d.a.rows.length c1) := (unhide K1) 2 (by simp)
  go_wp2_with fail
  refine (markSlot_any N d.a _ us k0 W ((unhide H).a.on (unhide HB0)) (unhide HA) h0 (by omega)).mono ?_
  rintro e w2 ⟨rfl, hp, ho⟩
  clear m0 m1 m2
  have HP := hide hp
  have hlt : ∀ b, w.heap.size ≤ b → ¬ rowBlk d.a.rows.length us b := fun b hb hr => by
    obtain ⟨i, hi, hg⟩ := hr
    have := (((unhide H).a.rows i hi).blk b hg).2
    omega
  have hqb : w2.heap[w.heap.size]? = W.heap[w.heap.size]? := ho.other _ (by have := unhide HSZ; omega) (hlt _ (Nat.le_refl _))
  have HO := hide ho
  have K2 : Hid (CellsAt w2 w.heap.size 0 (diskCells d (.slice a1 d.a.rows.length c1) (.slice a2 d.b.rows.length c2))) := hide (fun j hj => by rw [cell_block hqb]; exact (unhide K1) j hj)
  have hg2 : GridOwn N w2 (.slice a2 d.b.rows.length c2) vs d.b.rows := by
    refine ((unhide H).b.on (unhide HB0)).mostly ho (fun g hg hr => ?_) (fun j hj g hg hr => ?_)
    · obtain ⟨i, hi, hgi⟩ := hr
      exact (unhide H).xa i hi g hgi hg
    · obtain ⟨i, hi, hgi⟩ := hr
      exact (unhide H).x i j hi hj g hgi hg
  have HG2 := hide hg2
  clear hp ho hqb hg2 hlt
  have m3 : w2.cell? ⟨w.heap.size, 3, none⟩ = some (.int .i64 d.b.num) := (unhide K2) 3 (by simp)
  have m4 : w2.cell? ⟨w.heap.size, 4, none⟩ = some (.int .i64 d.b.cnt) := (unhide K2) 4 (by simp)
  have m5 : w2.cell? ⟨w.heap.size, 5, none⟩ = some (.slice a2 d.b.rows.length c2) := (unhide K2) 5 (by simp)
  go_wp2_with fail
  refine (markSlot_any N d.b _ vs (k0 + gSz szN d.a.rows) w2 (unhide HG2) (unhide HBB) (by omega) (by omega)).mono ?_
  rintro e w3 ⟨rfl, hp3, ho3⟩
  clear m3 m4 m5
  have HP3 := hide hp3
  have HO3 := hide ho3
  clear hp3 ho3
  go_wp2_with fail
  go_ret
  have hm2 : Mostly (diskBlk d us vs) W w2 := (unhide HO).more (fun g hg => Or.inl hg)
  have hm3 : Mostly (diskBlk d us vs) w2 w3 := (unhide HO3).more (fun g hg => Or.inr hg)
  refine ⟨ret_int (by omega), ⟨?_, unhide HP3, ?_, ?_, ?_⟩, (Mostly.of_below (unhide HB0)).trans (hm2.trans hm3)⟩
  · show GridOwn N w3 (.slice a1 d.a.rows.length c1) us (gMark markN szN k0 d.a.rows)
    refine (unhide HP).mostly (unhide HO3) (fun g hg hr => ?_) (fun i hi g hg hr => ?_)
    · obtain ⟨j, hj, hgj⟩ := hr
      exact (unhide H).xb j hj g hgj hg
    · obtain ⟨j, hj, hgj⟩ := hr
      rw [gMark_len] at hi
      exact (unhide H).x i j hi hj g hg hgj
  · intro i j hi hj
    simp only [markD, gMark_len] at hi hj
    exact (unhide H).x i j hi hj
  · intro i hi
    simp only [markD, gMark_len] at hi
    exact (unhide H).xa i hi
  · intro j hj
    simp only [markD, gMark_len] at hj
    exact (unhide H).xb j hj

set_option maxRecDepth 100000 in
theorem heldSlot_any (s : SlotV) (ls : List (List Int)) (v : Value) (k0 : Int) (w : World) (h : GridAt w v s.rows) (hs : s.rows = gMark markN szN k0 ls) (hlen : Small ls) (h0 : 0 ≤ k0) (h1 : k0 + gSz szN ls ≤ 100000000000000) :
    Calls Try.prog 61 #[slotAgg s v, .int .i64 k0] w fun e w' => e = .returned (.int .i64 (k0 + gSz szN ls)) ∧ Below w.heap.size w w' := by
  have hp := gSz_pos szN szN_pos ls
  obtain ⟨a1, c1, e1⟩ := h.sliced
  rw [hs] at h
  have H := hide h
  have HS := hide hlen
  subst e1
  clear h hlen
  have hb0 : Below w.heap.size w (w.alloc (.cells #[.int .i64 s.num, .int .i64 s.cnt, .slice a1 s.rows.length c1] 25)) := (Below.refl _ _).alloc (Nat.le_refl _) _
  have HB0 := hide hb0
  have hn : ¬ k0 + gSz szN ls < 0 := by omega
  clear hb0 hs
  go_enter Try.func61, Try.ntmps61
  go_wp2_with fail
  refine (heldIntSS_any _ ls k0 _ ((unhide H).on (unhide HB0)) (unhide HS) h0 h1).mono ?_
  rintro e w2 ⟨rfl, hw⟩
  have hB := hide (show Below w.heap.size w w2 by rw [hw]; exact unhide HB0)
  clear hw
  go_wp2_with fail
  go_ret
  exact ⟨rfl, unhide hB⟩

set_option maxRecDepth 100000 in
set_option maxHeartbeats 1000000 in
theorem heldSlotDisk_any (d : DiskV) (va vb : Value) (k0 : Int) (w : World) (h : DiskAt w (markD k0 d) va vb) (ha : Small d.a.rows) (hb : Small d.b.rows) (h0 : 0 ≤ k0) (h1 : k0 + szD d ≤ 100000000000000) :
    Calls Try.prog 27 #[diskAgg d va vb, .int .i64 k0] w fun e w' => e = .returned (.int .i64 (k0 + szD d)) ∧ Below w.heap.size w w' := by
  have hsa := gSz_pos szN szN_pos d.a.rows
  have hsb := gSz_pos szN szN_pos d.b.rows
  unfold szD at h1 ⊢
  have H := hide h
  have HA := hide ha
  have HBB := hide hb
  obtain ⟨a1, c1, e1⟩ := h.a.sliced
  obtain ⟨a2, c2, e2⟩ := h.b.sliced
  simp only [markD, gMark_len] at e1 e2
  subst e1 e2
  clear h ha hb
  have hb0 : Below w.heap.size w (w.alloc (.cells (diskCells d (.slice a1 d.a.rows.length c1) (.slice a2 d.b.rows.length c2)).toArray 27)) := (Below.refl _ _).alloc (Nat.le_refl _) _
  have K1 := hide (cellsAt_new w (diskCells d (.slice a1 d.a.rows.length c1) (.slice a2 d.b.rows.length c2)) 27)
  have HB0 := hide hb0
  clear hb0
  have hn : ¬ k0 + gSz szN d.a.rows < 0 := by omega
  have hn2 : ¬ k0 + gSz szN d.a.rows + gSz szN d.b.rows < 0 := by omega
  go_enter Try.func27, Try.ntmps27
  go_upto_region 1 with fail
  change Code.wp _ _ _ _ (w.alloc (.cells (diskCells d (.slice a1 d.a.rows.length c1) (.slice a2 d.b.rows.length c2)).toArray 27))
  generalize (w.alloc (.cells (diskCells d (.slice a1 d.a.rows.length c1) (.slice a2 d.b.rows.length c2)).toArray 27)) = W at *
  have m0 : W.cell? ⟨w.heap.size, 0, none⟩ = some (.int .i64 d.a.num) := (unhide K1) 0 (by simp)
  have m1 : W.cell? ⟨w.heap.size, 1, none⟩ = some (.int .i64 d.a.cnt) := (unhide K1) 1 (by simp)
  have m2 : W.cell? ⟨w.heap.size, 2, none⟩ = some (.slice a1 d.a.rows.length c1) := (unhide K1) 2 (by simp)
  have hh := (unhide H).a.on (unhide HB0)
  have HH := hide (show GridAt W (.slice a1 d.a.rows.length c1) (gMark markN szN k0 d.a.rows) from hh)
  clear hh
  go_wp2_with fail
  refine (heldSlot_any ⟨d.a.num, d.a.cnt, gMark markN szN k0 d.a.rows⟩ d.a.rows _ k0 W (unhide HH) rfl (unhide HA) h0 (by omega)).mono ?_
  rintro e w2 ⟨rfl, hb2⟩
  clear m0 m1 m2
  have K2 := hide ((unhide K1).on hb2)
  have HB2 := hide (below_then (unhide HB0) hb2)
  clear hb2
  have m3 : w2.cell? ⟨w.heap.size, 3, none⟩ = some (.int .i64 d.b.num) := (unhide K2) 3 (by simp)
  have m4 : w2.cell? ⟨w.heap.size, 4, none⟩ = some (.int .i64 d.b.cnt) := (unhide K2) 4 (by simp)
  have m5 : w2.cell? ⟨w.heap.size, 5, none⟩ = some (.slice a2 d.b.rows.length c2) := (unhide K2) 5 (by simp)
  have hh := (unhide H).b.on (unhide HB2)
  have HH2 := hide (show GridAt w2 (.slice a2 d.b.rows.length c2) (gMark markN szN (k0 + gSz szN d.a.rows) d.b.rows) from hh)
  clear hh
  go_wp2_with fail
  refine (heldSlot_any ⟨d.b.num, d.b.cnt, gMark markN szN (k0 + gSz szN d.a.rows) d.b.rows⟩ d.b.rows _ (k0 + gSz szN d.a.rows) w2 (unhide HH2) rfl (unhide HBB) (by omega) (by omega)).mono ?_
  rintro e w3 ⟨rfl, hb3⟩
  clear m3 m4 m5
  go_wp2_with fail
  go_ret
  exact ⟨ret_int (by omega), below_then (unhide HB2) hb3⟩
end Go.Proofs.Ytocgfngcgekciaa
