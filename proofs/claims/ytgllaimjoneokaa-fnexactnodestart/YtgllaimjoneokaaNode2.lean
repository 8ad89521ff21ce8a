/- Nodes in memory of their own; the exact laws' mark and held of them. -/
import Derived.Test.YtgllaimjoneokaaNode1
import Derived.Test.YtgllaimjoneokaaLanes2
import Derived.Test.YtgllaimjoneokaaViews2
import Derived.Test.YtgllaimjoneokaaNums2
import Derived.Deep.Cut
namespace Go.Proofs.Ytgllaimjoneokaa
open Go.RowKit
set_option linter.unusedVariables false
set_option linter.unusedSimpArgs false

/-- A node whose lists lie in memory of their own: lanes, what it kept, outs, what is known, views, in this order. -/
def NodeOwn (N M : Nat) (w : World) (n : NodeV) (vl vk vo vv vn : Value) : Prop :=
  ∃ p1 p2 p3 p4, N ≤ p1 ∧ p1 ≤ p2 ∧ p2 ≤ p3 ∧ p3 ≤ p4 ∧ p4 ≤ M ∧ LanesOwn N p1 w vl n.lanes ∧ RowsFr p1 61 7 w vk (n.kept.map evRow) ∧ (∀ b, vk.ownBlock = some b → b < p2) ∧ RowsFr p2 102 5 w vo (n.outs.map outRow) ∧ (∀ b, vo.ownBlock = some b → b < p3) ∧ RowsFr p3 3 1 w vn (n.known.map fun z => [z]) ∧ (∀ b, vn.ownBlock = some b → b < p4) ∧ ViewsOwn p4 M w vv n.views

theorem NodeOwn.at {N M : Nat} {w : World} {n : NodeV} {vl vk vo vv vn : Value} (h : NodeOwn N M w n vl vk vo vv vn) : NodeAt w n vl vk vo vv vn := by
  obtain ⟨_, _, _, _, _, _, _, _, _, hl, hk, _, ho, _, hn, _, hv⟩ := h
  exact ⟨hl.at, hk.at, ho.at, hv.at, hn.at⟩
theorem NodeOwn.on {N M : Nat} {w w' : World} {n : NodeV} {vl vk vo vv vn : Value} (hb : Below w.heap.size w w') (h : NodeOwn N M w n vl vk vo vv vn) : NodeOwn N M w' n vl vk vo vv vn := by
  obtain ⟨p1, p2, p3, p4, q0, q1, q2, q3, q4, hl, hk, hkb, ho, hob, hn, hnb, hv⟩ := h
  exact ⟨p1, p2, p3, p4, q0, q1, q2, q3, q4, hl.on hb, hk.on hb, hkb, ho.on hb, hob, hn.on hb, hnb, hv.on hb⟩

theorem LanesOwn.only {N M : Nat} {w w' : World} {v u : Value} {ls : List LaneV} (ho : OnlyOf u w w') (hb : ∀ g, u.ownBlock = some g → g < N ∨ M ≤ g) (h : LanesOwn N M w v ls) : LanesOwn N M w' v ls :=
  h.keep (fun b h1 h2 _ => ho.other b (fun e => by have := hb b e; omega))
theorem ViewsOwn.only {N M : Nat} {w w' : World} {v u : Value} {ls : List ViewV} (ho : OnlyOf u w w') (hb : ∀ g, u.ownBlock = some g → g < N ∨ M ≤ g) (h : ViewsOwn N M w v ls) : ViewsOwn N M w' v ls :=
  h.keep (fun b h1 h2 _ => ho.other b (fun e => by have := hb b e; omega))
theorem RowsFr.within {N t m A B : Nat} {w w' : World} {v : Value} {rs : List (List Int)} (hw : Within A B w w') (hb : ∀ g, v.ownBlock = some g → g < A ∨ B ≤ g) (h : RowsFr N t m w v rs) : RowsFr N t m w' v rs :=
  h.block (fun g hg _ => hw.other g (by have := hb g hg; omega))
theorem RowsFr.only {N t m : Nat} {w w' : World} {v u : Value} {rs : List (List Int)} (ho : OnlyOf u w w') (hb : ∀ g, v.ownBlock = some g → u.ownBlock ≠ some g) (h : RowsFr N t m w v rs) : RowsFr N t m w' v rs :=
  h.block (fun g hg _ => ho.other g (hb g hg))

def szN (n : NodeV) : Int := gSz szL n.lanes + 7 * (n.kept.length : Int) + 5 * (n.outs.length : Int) + gSz szV n.views + (n.known.length : Int)

/-- The lists of a node that was marked. -/
structure NodeMarked (w : World) (n : NodeV) (k0 : Int) (vl vk vo vv vn : Value) : Prop where
  l : LanesAt w vl (gMark markL szL k0 n.lanes)
  k : RowsAt 7 w vk (markRows 7 (k0 + gSz szL n.lanes) n.kept.length)
  o : RowsAt 5 w vo (markRows 5 (k0 + gSz szL n.lanes + 7 * (n.kept.length : Int)) n.outs.length)
  v : ViewsAt w vv (gMark markV szV (k0 + gSz szL n.lanes + 7 * (n.kept.length : Int) + 5 * (n.outs.length : Int)) n.views)
  n : RowsAt 1 w vn (markRows 1 (k0 + gSz szL n.lanes + 7 * (n.kept.length : Int) + 5 * (n.outs.length : Int) + gSz szV n.views) n.known.length)

theorem NodeMarked.on {w w' : World} {n : NodeV} {k0 : Int} {vl vk vo vv vn : Value} (hb : Below w.heap.size w w') (h : NodeMarked w n k0 vl vk vo vv vn) : NodeMarked w' n k0 vl vk vo vv vn :=
  ⟨h.l.on hb, h.k.on hb, h.o.on hb, h.v.on hb, h.n.on hb⟩

set_option maxRecDepth 100000 in
set_option maxHeartbeats 2000000 in
theorem markNode_any (N M : Nat) (n : NodeV) (vl vk vo vv vn : Value) (k0 : Int) (w : World) (h : NodeOwn N M w n vl vk vo vv vn) (hM : M ≤ w.heap.size) (hll : ∀ l ∈ n.lanes, l.ps.length ≤ 1048576 ∧ ∀ p ∈ l.ps, p.sends.length ≤ 1048576 ∧ p.outs.length ≤ 1048576) (hlv : ∀ l ∈ n.views, l.es.length ≤ 1048576) (hlk : n.kept.length ≤ 1000000000) (hlo : n.outs.length ≤ 1000000000) (hln : n.known.length ≤ 1000000000) (h0 : 0 ≤ k0) (h1 : k0 + szN n ≤ 100000000000000) :
    Calls Try.prog 17 #[nodeAgg n vl vk vo vv vn, .int .i64 k0] w fun e w' => e = .returned (.int .i64 (k0 + szN n)) ∧ NodeMarked w' n k0 vl vk vo vv vn ∧ Below N w w' := by
  obtain ⟨p1, p2, p3, p4, q0, q1, q2, q3, q4, hl, hk, hkb, ho, hob, hn, hnb, hv⟩ := h
  obtain ⟨al, acl, e1⟩ := hl.at.sliced
  obtain ⟨ak, ack, e2⟩ := RowsFr_sliced hk
  obtain ⟨ao, aco, e3⟩ := RowsFr_sliced ho
  obtain ⟨av, acv, e4⟩ := hv.at.sliced
  obtain ⟨an, acn, e5⟩ := RowsFr_sliced hn
  rw [List.length_map] at e2 e3 e5
  subst e1 e2 e3 e4 e5
  have hgl := gSz_pos szL szL_pos n.lanes
  have hgv := gSz_pos szV szV_pos n.views
  obtain ⟨m1, hm1⟩ : ∃ m1, m1 = k0 + gSz szL n.lanes := ⟨_, rfl⟩
  obtain ⟨m2, hm2⟩ : ∃ m2, m2 = m1 + 7 * (n.kept.length : Int) := ⟨_, rfl⟩
  obtain ⟨m3, hm3⟩ : ∃ m3, m3 = m2 + 5 * (n.outs.length : Int) := ⟨_, rfl⟩
  obtain ⟨m4, hm4⟩ : ∃ m4, m4 = m3 + gSz szV n.views := ⟨_, rfl⟩
  obtain ⟨m5, hm5⟩ : ∃ m5, m5 = m4 + (n.known.length : Int) := ⟨_, rfl⟩
  have h5 : k0 + szN n = m5 := by unfold szN; omega
  rw [h5] at h1 ⊢
  have b1 : 0 ≤ m1 := by omega
  have b2 : m1 ≤ m5 := by omega
  have b3 : 0 ≤ m2 ∧ m2 ≤ m5 := by omega
  have b4 : 0 ≤ m3 ∧ m3 ≤ m5 := by omega
  have b5 : 0 ≤ m4 ∧ m4 ≤ m5 := by omega
  have hb0 : Below w.heap.size w (w.alloc (.cells #[.int .i64 n.id, .bool n.up, .int .i64 n.inc, .int .i64 n.g, .slice al n.lanes.length acl, .slice ak n.kept.length ack, .slice ao n.outs.length aco, .int .i64 n.led, .int .i64 n.ver, .slice av n.views.length acv, .slice an n.known.length acn, .int .i64 n.round, .int .i64 n.low] 31)) := (Below.refl _ _).alloc (Nat.le_refl _) _
  have cA : CellsAt (w.alloc (.cells #[.int .i64 n.id, .bool n.up, .int .i64 n.inc, .int .i64 n.g, .slice al n.lanes.length acl, .slice ak n.kept.length ack, .slice ao n.outs.length aco, .int .i64 n.led, .int .i64 n.ver, .slice av n.views.length acv, .slice an n.known.length acn, .int .i64 n.round, .int .i64 n.low] 31)) w.heap.size 0 [.int .i64 n.id, .bool n.up, .int .i64 n.inc, .int .i64 n.g, .slice al n.lanes.length acl, .slice ak n.kept.length ack, .slice ao n.outs.length aco, .int .i64 n.led, .int .i64 n.ver, .slice av n.views.length acv, .slice an n.known.length acn, .int .i64 n.round, .int .i64 n.low] := cellsAt_new w [.int .i64 n.id, .bool n.up, .int .i64 n.inc, .int .i64 n.g, .slice al n.lanes.length acl, .slice ak n.kept.length ack, .slice ao n.outs.length aco, .int .i64 n.led, .int .i64 n.ver, .slice av n.views.length acv, .slice an n.known.length acn, .int .i64 n.round, .int .i64 n.low] 31
  have hl := hl.on hb0
  have hk := hk.on hb0
  have ho := ho.on hb0
  have hn := hn.on hb0
  have hv := hv.on hb0
  have HB0 := hide hb0
  have HA := hide cA
  have HKB := hide hkb
  have HOB := hide hob
  have HNB := hide hnb
  have HLL := hide hll
  have HLV := hide hlv
  have HM1 := hide hm1
  have HM2 := hide hm2
  have HM3 := hide hm3
  have HM4 := hide hm4
  have HM5 := hide hm5
  clear hm1 hm2 hm3 hm4 hm5 h5 hgl hgv
  clear hb0 cA hkb hob hnb hll hlv
  go_enter Try.func17, Try.ntmps17
  go_upto_region 1 with fail
  generalize (w.alloc (.cells #[.int .i64 n.id, .bool n.up, .int .i64 n.inc, .int .i64 n.g, .slice al n.lanes.length acl, .slice ak n.kept.length ack, .slice ao n.outs.length aco, .int .i64 n.led, .int .i64 n.ver, .slice av n.views.length acv, .slice an n.known.length acn, .int .i64 n.round, .int .i64 n.low] 31)) = X at *
  have c4 : X.cell? ⟨w.heap.size, 4, none⟩ = some (.slice al n.lanes.length acl) := (unhide HA) 4 (by simp)
  have c5 : X.cell? ⟨w.heap.size, 5, none⟩ = some (.slice ak n.kept.length ack) := (unhide HA) 5 (by simp)
  have c6 : X.cell? ⟨w.heap.size, 6, none⟩ = some (.slice ao n.outs.length aco) := (unhide HA) 6 (by simp)
  have c9 : X.cell? ⟨w.heap.size, 9, none⟩ = some (.slice av n.views.length acv) := (unhide HA) 9 (by simp)
  have c10 : X.cell? ⟨w.heap.size, 10, none⟩ = some (.slice an n.known.length acn) := (unhide HA) 10 (by simp)
  have HL := hide hl
  have HK := hide hk
  have HO := hide ho
  have HN := hide hn
  have HV := hide hv
  clear hl hk ho hn hv
  go_wp2_with fail
  refine (markLaneS_any N p1 _ n.lanes k0 X (unhide HL) (unhide HLL) h0 (by have := unhide HM1; omega)).mono ?_
  rintro e w1 ⟨rfl, hl1, hw1⟩
  rw [← unhide HM1]
  replace c4 := (World.cell?_of_block (a := ⟨w.heap.size, 4, none⟩) (hw1.other w.heap.size (by omega))).trans c4
  replace c5 := (World.cell?_of_block (a := ⟨w.heap.size, 5, none⟩) (hw1.other w.heap.size (by omega))).trans c5
  replace c6 := (World.cell?_of_block (a := ⟨w.heap.size, 6, none⟩) (hw1.other w.heap.size (by omega))).trans c6
  replace c9 := (World.cell?_of_block (a := ⟨w.heap.size, 9, none⟩) (hw1.other w.heap.size (by omega))).trans c9
  replace c10 := (World.cell?_of_block (a := ⟨w.heap.size, 10, none⟩) (hw1.other w.heap.size (by omega))).trans c10
  have HL1 := hide hl1
  have HK1 := hide ((unhide HK).within hw1 (fun g hg => by have := ((unhide HK).blk g hg).1; omega))
  have HO1 := hide ((unhide HO).within hw1 (fun g hg => by have := ((unhide HO).blk g hg).1; omega))
  have HN1 := hide ((unhide HN).within hw1 (fun g hg => by have := ((unhide HN).blk g hg).1; omega))
  have HV1 := hide ((unhide HV).keep (fun b g1 _ _ => hw1.other b (by omega)))
  have HZ1 := hide ((((unhide HB0).mono (show N ≤ w.heap.size by omega)).trans (hw1.below N (Nat.le_refl _))))
  clear hl1 hw1
  go_wp2_with fail
  refine (markEventS_any p1 61 _ n.kept.length m1 w1 (by have := (unhide HK1).room; rwa [List.length_map] at this) hlk b1 (by omega)).mono ?_
  rintro e w2 ⟨rfl, hk2, hw2⟩
  rw [← unhide HM2]
  replace c5 := (World.cell?_of_block (a := ⟨w.heap.size, 5, none⟩) (hw2.other w.heap.size (fun e => by have := (unhide HKB) _ e; omega))).trans c5
  replace c6 := (World.cell?_of_block (a := ⟨w.heap.size, 6, none⟩) (hw2.other w.heap.size (fun e => by have := (unhide HKB) _ e; omega))).trans c6
  replace c9 := (World.cell?_of_block (a := ⟨w.heap.size, 9, none⟩) (hw2.other w.heap.size (fun e => by have := (unhide HKB) _ e; omega))).trans c9
  replace c10 := (World.cell?_of_block (a := ⟨w.heap.size, 10, none⟩) (hw2.other w.heap.size (fun e => by have := (unhide HKB) _ e; omega))).trans c10
  have HL2 := hide ((unhide HL1).only hw2 (fun g hg => by have := ((unhide HK1).blk g hg).1; omega))
  have HK2 := hide hk2
  have HO2 := hide ((unhide HO1).only hw2 (fun g hg e => by have := ((unhide HO1).blk g hg).1; have := (unhide HKB) g e; omega))
  have HN2 := hide ((unhide HN1).only hw2 (fun g hg e => by have := ((unhide HN1).blk g hg).1; have := (unhide HKB) g e; omega))
  have HV2 := hide ((unhide HV1).only hw2 (fun g e => by have := (unhide HKB) g e; omega))
  have HZ2 := hide ((unhide HZ1).trans (hw2.below N (fun g hg => by have := ((unhide HK1).blk g hg).1; omega)))
  clear hk2 hw2
  go_wp2_with fail
  refine (markOutS_any p2 102 _ n.outs.length m2 w2 (by have := (unhide HO2).room; rwa [List.length_map] at this) hlo b3.1 (by omega)).mono ?_
  rintro e w3 ⟨rfl, ho3, hw3⟩
  rw [← unhide HM3]
  replace c6 := (World.cell?_of_block (a := ⟨w.heap.size, 6, none⟩) (hw3.other w.heap.size (fun e => by have := (unhide HOB) _ e; omega))).trans c6
  replace c9 := (World.cell?_of_block (a := ⟨w.heap.size, 9, none⟩) (hw3.other w.heap.size (fun e => by have := (unhide HOB) _ e; omega))).trans c9
  replace c10 := (World.cell?_of_block (a := ⟨w.heap.size, 10, none⟩) (hw3.other w.heap.size (fun e => by have := (unhide HOB) _ e; omega))).trans c10
  have HL3 := hide ((unhide HL2).only hw3 (fun g hg => by have := ((unhide HO2).blk g hg).1; omega))
  have HK3 := hide ((unhide HK2).only hw3 (fun g hg e => by have := (unhide HKB) g hg; have := ((unhide HO2).blk g e).1; omega))
  have HO3 := hide ho3
  have HN3 := hide ((unhide HN2).only hw3 (fun g hg e => by have := ((unhide HN2).blk g hg).1; have := (unhide HOB) g e; omega))
  have HV3 := hide ((unhide HV2).only hw3 (fun g e => by have := (unhide HOB) g e; omega))
  have HZ3 := hide ((unhide HZ2).trans (hw3.below N (fun g hg => by have := ((unhide HO2).blk g hg).1; omega)))
  clear ho3 hw3
  go_wp2_with fail
  refine (markViewS_any p4 M _ n.views m3 w3 (unhide HV3) (unhide HLV) b4.1 (by have := unhide HM4; omega)).mono ?_
  rintro e w4 ⟨rfl, hv4, hw4⟩
  rw [← unhide HM4]
  replace c9 := (World.cell?_of_block (a := ⟨w.heap.size, 9, none⟩) (hw4.other w.heap.size (by omega))).trans c9
  replace c10 := (World.cell?_of_block (a := ⟨w.heap.size, 10, none⟩) (hw4.other w.heap.size (by omega))).trans c10
  have HL4 := hide ((unhide HL3).keep (fun b _ g2 _ => hw4.other b (by omega)))
  have HK4 := hide ((unhide HK3).within hw4 (fun g hg => by have := (unhide HKB) g hg; omega))
  have HO4 := hide ((unhide HO3).within hw4 (fun g hg => by have := (unhide HOB) g hg; omega))
  have HN4 := hide ((unhide HN3).within hw4 (fun g hg => by have := (unhide HNB) g hg; omega))
  have HV4 := hide hv4
  have HZ4 := hide ((unhide HZ3).trans (hw4.below N (by omega)))
  clear hv4 hw4
  go_wp2_with fail
  refine (markIntS_any p3 3 _ n.known.length m4 w4 (by have := (unhide HN4).room; rwa [List.length_map] at this) hln b5.1 (by omega)).mono ?_
  rintro e w5 ⟨rfl, hn5, hw5⟩
  rw [← unhide HM5]
  have hl5 := (unhide HL4).only hw5 (fun g hg => by have := ((unhide HN4).blk g hg).1; omega)
  have hk5 := (unhide HK4).only hw5 (fun g hg e => by have := (unhide HKB) g hg; have := ((unhide HN4).blk g e).1; omega)
  have ho5 := (unhide HO4).only hw5 (fun g hg e => by have := (unhide HOB) g hg; have := ((unhide HN4).blk g e).1; omega)
  have hv5 := (unhide HV4).only hw5 (fun g e => by have := (unhide HNB) g e; omega)
  have hz5 := (unhide HZ4).trans (hw5.below N (fun g hg => by have := ((unhide HN4).blk g hg).1; omega))
  have HEND : Hid (NodeMarked w5 n k0 (.slice al n.lanes.length acl) (.slice ak n.kept.length ack) (.slice ao n.outs.length aco) (.slice av n.views.length acv) (.slice an n.known.length acn)) := hide (by
    have e1 := unhide HM1
    have e2 := unhide HM2
    have e3 := unhide HM3
    have e4 := unhide HM4
    refine ⟨hl5.at, ?_, ?_, ?_, ?_⟩
    · rw [← e1]; exact hk5.at
    · rw [← e1, ← e2]; exact ho5.at
    · rw [← e1, ← e2, ← e3]; exact hv5.at
    · rw [← e1, ← e2, ← e3, ← e4]; exact hn5.at)
  have HZ5 := hide hz5
  clear hl5 hk5 ho5 hv5 hn5 hw5 hz5
  go_wp2_with fail
  go_ret
  exact ⟨rfl, unhide HEND, unhide HZ5⟩

set_option maxRecDepth 100000 in
set_option maxHeartbeats 2000000 in
theorem heldNode_any (n : NodeV) (vl vk vo vv vn : Value) (k0 : Int) (w : World) (h : NodeMarked w n k0 vl vk vo vv vn) (hll : ∀ l ∈ n.lanes, l.ps.length ≤ 1048576 ∧ ∀ p ∈ l.ps, p.sends.length ≤ 1048576 ∧ p.outs.length ≤ 1048576) (hlv : ∀ l ∈ n.views, l.es.length ≤ 1048576) (hlk : n.kept.length ≤ 1000000000) (hlo : n.outs.length ≤ 1000000000) (hln : n.known.length ≤ 1000000000) (h0 : 0 ≤ k0) (h1 : k0 + szN n ≤ 100000000000000) :
    Calls Try.prog 18 #[nodeAgg n vl vk vo vv vn, .int .i64 k0] w fun e w' => e = .returned (.int .i64 (k0 + szN n)) ∧ Below w.heap.size w w' := by
  obtain ⟨al, acl, e1⟩ := h.l.sliced
  obtain ⟨ak, ack, e2, _⟩ := h.k
  obtain ⟨ao, aco, e3, _⟩ := h.o
  obtain ⟨av, acv, e4⟩ := h.v.sliced
  obtain ⟨an, acn, e5, _⟩ := h.n
  rw [gMark_len] at e1 e4
  rw [markRows_length] at e2 e3 e5
  subst e1 e2 e3 e4 e5
  have hgl := gSz_pos szL szL_pos n.lanes
  have hgv := gSz_pos szV szV_pos n.views
  obtain ⟨m1, hm1⟩ : ∃ m1, m1 = k0 + gSz szL n.lanes := ⟨_, rfl⟩
  obtain ⟨m2, hm2⟩ : ∃ m2, m2 = m1 + 7 * (n.kept.length : Int) := ⟨_, rfl⟩
  obtain ⟨m3, hm3⟩ : ∃ m3, m3 = m2 + 5 * (n.outs.length : Int) := ⟨_, rfl⟩
  obtain ⟨m4, hm4⟩ : ∃ m4, m4 = m3 + gSz szV n.views := ⟨_, rfl⟩
  obtain ⟨m5, hm5⟩ : ∃ m5, m5 = m4 + (n.known.length : Int) := ⟨_, rfl⟩
  have h5 : k0 + szN n = m5 := by unfold szN; omega
  rw [h5] at h1 ⊢
  have b1 : 0 ≤ m1 := by omega
  have b2 : m1 ≤ m5 := by omega
  have b3 : 0 ≤ m2 ∧ m2 ≤ m5 := by omega
  have b4 : 0 ≤ m3 ∧ m3 ≤ m5 := by omega
  have b5 : 0 ≤ m4 ∧ m4 ≤ m5 := by omega
  have g1 : ¬ m1 < 0 := by omega
  have g2 : ¬ m2 < 0 := by omega
  have g3 : ¬ m3 < 0 := by omega
  have g4 : ¬ m4 < 0 := by omega
  have g5 : ¬ m5 < 0 := by omega
  have hb0 : Below w.heap.size w (w.alloc (.cells #[.int .i64 n.id, .bool n.up, .int .i64 n.inc, .int .i64 n.g, .slice al n.lanes.length acl, .slice ak n.kept.length ack, .slice ao n.outs.length aco, .int .i64 n.led, .int .i64 n.ver, .slice av n.views.length acv, .slice an n.known.length acn, .int .i64 n.round, .int .i64 n.low] 31)) := (Below.refl _ _).alloc (Nat.le_refl _) _
  have cA : CellsAt (w.alloc (.cells #[.int .i64 n.id, .bool n.up, .int .i64 n.inc, .int .i64 n.g, .slice al n.lanes.length acl, .slice ak n.kept.length ack, .slice ao n.outs.length aco, .int .i64 n.led, .int .i64 n.ver, .slice av n.views.length acv, .slice an n.known.length acn, .int .i64 n.round, .int .i64 n.low] 31)) w.heap.size 0 [.int .i64 n.id, .bool n.up, .int .i64 n.inc, .int .i64 n.g, .slice al n.lanes.length acl, .slice ak n.kept.length ack, .slice ao n.outs.length aco, .int .i64 n.led, .int .i64 n.ver, .slice av n.views.length acv, .slice an n.known.length acn, .int .i64 n.round, .int .i64 n.low] := cellsAt_new w [.int .i64 n.id, .bool n.up, .int .i64 n.inc, .int .i64 n.g, .slice al n.lanes.length acl, .slice ak n.kept.length ack, .slice ao n.outs.length aco, .int .i64 n.led, .int .i64 n.ver, .slice av n.views.length acv, .slice an n.known.length acn, .int .i64 n.round, .int .i64 n.low] 31
  have HH := hide (h.on hb0)
  have HB0 := hide hb0
  have HA := hide cA
  have HLL := hide hll
  have HLV := hide hlv
  have HM1 := hide hm1
  have HM2 := hide hm2
  have HM3 := hide hm3
  have HM4 := hide hm4
  have HM5 := hide hm5
  clear hm1 hm2 hm3 hm4 hm5 h5 hgl hgv
  clear hb0 cA hll hlv h
  go_enter Try.func18, Try.ntmps18
  go_upto_region 1 with fail
  generalize (w.alloc (.cells #[.int .i64 n.id, .bool n.up, .int .i64 n.inc, .int .i64 n.g, .slice al n.lanes.length acl, .slice ak n.kept.length ack, .slice ao n.outs.length aco, .int .i64 n.led, .int .i64 n.ver, .slice av n.views.length acv, .slice an n.known.length acn, .int .i64 n.round, .int .i64 n.low] 31)) = X at *
  have c4 : X.cell? ⟨w.heap.size, 4, none⟩ = some (.slice al n.lanes.length acl) := (unhide HA) 4 (by simp)
  have c5 : X.cell? ⟨w.heap.size, 5, none⟩ = some (.slice ak n.kept.length ack) := (unhide HA) 5 (by simp)
  have c6 : X.cell? ⟨w.heap.size, 6, none⟩ = some (.slice ao n.outs.length aco) := (unhide HA) 6 (by simp)
  have c9 : X.cell? ⟨w.heap.size, 9, none⟩ = some (.slice av n.views.length acv) := (unhide HA) 9 (by simp)
  have c10 : X.cell? ⟨w.heap.size, 10, none⟩ = some (.slice an n.known.length acn) := (unhide HA) 10 (by simp)
  go_wp2_with fail
  refine (heldLaneS_any _ n.lanes k0 X (unhide HH).l (unhide HLL) h0 (by have := unhide HM1; omega)).mono ?_
  rintro e w1 ⟨rfl, hw⟩
  obtain rfl := hw.symm
  rw [← unhide HM1]
  go_wp2_with fail
  refine (heldEventS_any _ n.kept.length m1 X (by rw [unhide HM1]; exact (unhide HH).k) hlk b1 (by omega)).mono ?_
  rintro e w1 ⟨rfl, hw⟩
  obtain rfl := hw.symm
  rw [← unhide HM2]
  go_wp2_with fail
  refine (heldOutS_any _ n.outs.length m2 X (by rw [unhide HM2, unhide HM1]; exact (unhide HH).o) hlo b3.1 (by omega)).mono ?_
  rintro e w1 ⟨rfl, hw⟩
  obtain rfl := hw.symm
  rw [← unhide HM3]
  go_wp2_with fail
  refine (heldViewS_any _ n.views m3 X (by rw [unhide HM3, unhide HM2, unhide HM1]; exact (unhide HH).v) (unhide HLV) b4.1 (by have := unhide HM4; omega)).mono ?_
  rintro e w1 ⟨rfl, hw⟩
  obtain rfl := hw.symm
  rw [← unhide HM4]
  go_wp2_with fail
  refine (heldIntS_any _ n.known.length m4 X (by rw [unhide HM4, unhide HM3, unhide HM2, unhide HM1]; exact (unhide HH).n) hln b5.1 (by omega)).mono ?_
  rintro e w1 ⟨rfl, hw⟩
  obtain rfl := hw.symm
  rw [← unhide HM5]
  go_wp2_with fail
  go_ret
  exact ⟨rfl, unhide HB0⟩
end Go.Proofs.Ytgllaimjoneokaa
