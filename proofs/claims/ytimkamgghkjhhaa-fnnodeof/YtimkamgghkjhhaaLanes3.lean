/- nodeWork.lanes, of a node that has done nothing. -/
import Derived.Test.YtimkamgghkjhhaaLaneF
import Derived.Test.YtimkamgghkjhhaaProcs1
import Derived.Test.YtimkamgghkjhhaaHeld
import Derived.Deep.Cut
namespace Go.Proofs.Ytimkamgghkjhhaa
open Go.RowKit
set_option linter.unusedVariables false
set_option linter.unusedSimpArgs false

abbrev stRw (s : StV) : List Int := [s.x, s.y, s.c]

set_option maxRecDepth 100000 in
set_option maxHeartbeats 4000000 in
theorem lanes_nil (p d : Nat) (id : Int) (bs : List StV) (ba : Option Addr) (bc : Nat) (w : World) (hid : w.cell? ⟨p, 0, none⟩ = some (.int .i64 id)) (hcb : w.cell? ⟨p, 3, none⟩ = some (.slice ba bs.length bc)) (hcd : w.cell? ⟨p, 8, none⟩ = some (.slice (some ⟨d, 0, none⟩) bs.length bs.length))
    (hB : RowsAt 3 w (.slice ba bs.length bc) (bs.map stRw)) (hD : ∀ i, i < bs.length → w.cell? ⟨d, i, none⟩ = some (.slice none 0 0)) (hlen : (procsTo id 4).length = bs.length) :
    Calls Try.prog 60 #[.pointer (some ⟨p, 0, none⟩)] w fun e w' => ∃ v, e = .returned v ∧ LanesOwn w.heap.size w'.heap.size w' v (nilLanes ((procsTo id 4).zip bs)) ∧ Below w.heap.size w w' := by
  obtain ⟨i5, hi5, hz0, hz1, hz2⟩ := infoT_parts info_cpLane
  have hl4 := procsTo_len id 4
  have HB := hide hB
  have HD := hide hD
  have HCB := hide hcb
  have HCD := hide hcd
  obtain ⟨zs, hzs⟩ : ∃ zs, zs = procsTo id 4 := ⟨_, rfl⟩
  rw [← hzs] at hlen hl4 ⊢
  have HZ := hide hzs
  clear hzs hB hD hcb hcd
  go_enter Try.func60, Try.ntmps60
  go_wp2_with fail
  refine (procsOf_any id w).mono ?_
  rintro e w2 ⟨vp, rfl, hr2, hb2⟩
  rw [← unhide HZ] at hr2
  obtain ⟨pa, pc, hvp⟩ := RowsFr_sliced hr2
  rw [List.length_map] at hvp
  subst hvp
  have HR2 := hide hr2
  have HB2 := hide hb2
  clear hr2 hb2 hid
  go_wp2_with fail
  go_loopw [3, 13] (fun v i wr => ∃ (k : Nat) (va : Option Addr) (vc : Nat), k ≤ zs.length ∧ v = .slice va k vc ∧ i = .int .i64 k ∧ Hid (wr.ownsRow w2.heap.size 37 5 (.slice va k vc) k (laneFlat ((zs.zip bs).take k))) ∧ Hid (Below w2.heap.size w2 wr)) (fun _ i _ => zs.length - (intOf i).toNat)
  case atStart => exact ⟨0, none, 0, Nat.zero_le _, rfl, rfl, hide (World.ownsRow_nil _ _ _ _), hide (Below.refl _ _)⟩
  case round =>
    obtain ⟨k, va, vc, hk, rfl, rfl, HO, HW⟩ := hrel
    have hsz := (unhide HW).size
    have hzl : (zs.zip bs).length = zs.length := by simp [List.length_zip]; omega
    by_cases hlt : k < zs.length
    · have hltb : k < bs.length := by omega
      obtain ⟨b1, off1, hpa, c1⟩ : ∃ b off, pa = some ⟨b, off, none⟩ ∧ wr.cell? ⟨b, off + k, none⟩ = some (.int .i64 zs[k]) := by
        obtain ⟨ad, cp, hv, _, _, hc⟩ := (unhide HR2).at.on (unhide HW)
        simp only [Value.slice.injEq] at hv
        rcases hc with h | ⟨b, off, h1, h2⟩
        · have : zs = [] := by simpa using h
          rw [this] at hlt; exact absurd hlt (Nat.not_lt_zero _)
        · have h3 := h2 k (by simpa using hlt) 0 (by omega)
          simp at h3
          exact ⟨b, off, hv.1.trans h1, h3⟩
      obtain ⟨b2, off2, hba, c2⟩ : ∃ b off, ba = some ⟨b, off, none⟩ ∧ ∀ j, j < 3 → w2.cell? ⟨b, off + k * 3 + j, none⟩ = some (.int .i64 ((stRw bs[k]).getD j 0)) := by
        obtain ⟨ad, cp, hv, _, _, hc⟩ := (unhide HB).on (unhide HB2)
        simp only [Value.slice.injEq] at hv
        rcases hc with h | ⟨b, off, h1, h2⟩
        · have : bs = [] := by simpa using h
          rw [this] at hltb; exact absurd hltb (Nat.not_lt_zero _)
        · refine ⟨b, off, hv.1.trans h1, fun j hj => ?_⟩
          have h3 := h2 k (by simpa using hltb) j hj
          rw [List.getElem_map] at h3
          exact h3
      obtain ⟨x, hxe⟩ : ∃ x, x = bs[k] := ⟨_, rfl⟩
      obtain ⟨z, hze⟩ : ∃ z, z = zs[k] := ⟨_, rfl⟩
      rw [← hxe] at c2
      rw [← hze] at c1
      have HXE := hide hxe
      have HZE := hide hze
      subst hpa hba
      have G0 := hide (cell_on (unhide HB2) (unhide HCB))
      have G1 := hide (cell_on (unhide HB2) (unhide HCD))
      have G2 : Hid (w2.cell? ⟨b2, off2 + k * 3, none⟩ = some (.int .i64 x.x)) := hide (by have := c2 0 (by omega); simpa using this)
      have G3 : Hid (w2.cell? ⟨b2, off2 + k * 3 + 1, none⟩ = some (.int .i64 x.y)) := hide (by have := c2 1 (by omega); simpa using this)
      have G4 : Hid (w2.cell? ⟨b2, off2 + k * 3 + 2, none⟩ = some (.int .i64 x.c)) := hide (by have := c2 2 (by omega); simpa using this)
      have G5 := hide (cell_on (unhide HB2) ((unhide HD) k hltb))
      have hkI : (k : Int) < (zs.length : Int) := by omega
      have hkB : (k : Int) < (bs.length : Int) := by omega
      have hk0 : (0 : Int) ≤ (k : Int) := by omega
      clear c2 hxe hze
      go_upto_region 5 with fail
      clear c1
      refine wp_region_last (L := 20) (S := fun w' : World => w'.cell? ⟨p, 3, none⟩ = some (.slice (some ⟨b2, off2, none⟩) bs.length bc) ∧ w'.cell? ⟨p, 8, none⟩ = some (.slice (some ⟨d, 0, none⟩) bs.length bs.length) ∧ w'.cell? ⟨b2, off2 + k * 3, none⟩ = some (.int .i64 x.x) ∧ w'.cell? ⟨b2, off2 + k * 3 + 1, none⟩ = some (.int .i64 x.y) ∧ w'.cell? ⟨b2, off2 + k * 3 + 2, none⟩ = some (.int .i64 x.c) ∧ w'.cell? ⟨d, k, none⟩ = some (.slice none 0 0)) (by kernel_rfl) ?_
      have hHeld : (fun w' : World => w'.cell? ⟨p, 3, none⟩ = some (.slice (some ⟨b2, off2, none⟩) bs.length bc) ∧ w'.cell? ⟨p, 8, none⟩ = some (.slice (some ⟨d, 0, none⟩) bs.length bs.length) ∧ w'.cell? ⟨b2, off2 + k * 3, none⟩ = some (.int .i64 x.x) ∧ w'.cell? ⟨b2, off2 + k * 3 + 1, none⟩ = some (.int .i64 x.y) ∧ w'.cell? ⟨b2, off2 + k * 3 + 2, none⟩ = some (.int .i64 x.c) ∧ w'.cell? ⟨d, k, none⟩ = some (.slice none 0 0)) wr.drew := ⟨cell_on ((unhide HW).drew) (unhide G0), cell_on ((unhide HW).drew) (unhide G1), cell_on ((unhide HW).drew) (unhide G2), cell_on ((unhide HW).drew) (unhide G3), cell_on ((unhide HW).drew) (unhide G4), cell_on ((unhide HW).drew) (unhide G5)⟩
      refine wpAnyL_take (i := 0) (v := ?_) (by kernel_rfl) rfl (by kernel_rfl) (by kernel_rfl) (by kernel_rfl) (fun _ _ _ h => h) hHeld (Or.inl ⟨by kernel_rfl, ?_⟩) ?_
      rotate_left
      · (intro w hSw; (try dsimp only at hSw); obtain ⟨s0, s1, s2, s3, s4, s5⟩ := hSw; go_simp; try with_reducible rfl)
      refine wpAnyL_take (i := 1) (v := ?_) (by kernel_rfl) rfl (by kernel_rfl) (by kernel_rfl) (by kernel_rfl) (fun _ _ _ h => h) hHeld (Or.inl ⟨by kernel_rfl, ?_⟩) ?_
      rotate_left
      · (intro w hSw; (try dsimp only at hSw); obtain ⟨s0, s1, s2, s3, s4, s5⟩ := hSw; go_simp; try with_reducible rfl)
      refine wpAnyL_take (i := 2) (v := ?_) (by kernel_rfl) rfl (by kernel_rfl) (by kernel_rfl) (by kernel_rfl) (fun _ _ _ h => h) hHeld (Or.inl ⟨by kernel_rfl, ?_⟩) ?_
      rotate_left
      · (intro w hSw; (try dsimp only at hSw); obtain ⟨s0, s1, s2, s3, s4, s5⟩ := hSw; go_simp; try with_reducible rfl)
      refine wpAnyL_take (i := 3) (v := ?_) (by kernel_rfl) rfl (by kernel_rfl) (by kernel_rfl) (by kernel_rfl) (fun _ _ _ h => h) hHeld (Or.inl ⟨by kernel_rfl, ?_⟩) ?_
      rotate_left
      · (intro w hSw; (try dsimp only at hSw); obtain ⟨s0, s1, s2, s3, s4, s5⟩ := hSw; go_simp; try with_reducible rfl)
      refine wpAnyL_take (i := 4) (v := ?_) (by kernel_rfl) rfl (by kernel_rfl) (by kernel_rfl) (by kernel_rfl) (fun _ _ _ h => h) hHeld (Or.inl ⟨by kernel_rfl, ?_⟩) ?_
      rotate_left
      · (intro w hSw; (try dsimp only at hSw); obtain ⟨s0, s1, s2, s3, s4, s5⟩ := hSw; go_simp; try with_reducible rfl)
      refine wpAnyL_take (i := 5) (v := ?_) (by kernel_rfl) rfl (by kernel_rfl) (by kernel_rfl) (by kernel_rfl) (fun _ _ _ h => h) hHeld (Or.inl ⟨by kernel_rfl, ?_⟩) ?_
      rotate_left
      · (intro w hSw; (try dsimp only at hSw); obtain ⟨s0, s1, s2, s3, s4, s5⟩ := hSw; go_simp; try with_reducible rfl)
      refine wpAnyL_take (i := 6) (v := ?_) (by kernel_rfl) rfl (by kernel_rfl) (by kernel_rfl) (by kernel_rfl) (fun _ _ _ h => h) hHeld (Or.inl ⟨by kernel_rfl, ?_⟩) ?_
      rotate_left
      · (intro w hSw; (try dsimp only at hSw); obtain ⟨s0, s1, s2, s3, s4, s5⟩ := hSw; go_simp; try with_reducible rfl)
      refine wpAnyL_take (i := 7) (v := ?_) (by kernel_rfl) rfl (by kernel_rfl) (by kernel_rfl) (by kernel_rfl) (fun _ _ _ h => h) hHeld (Or.inl ⟨by kernel_rfl, ?_⟩) ?_
      rotate_left
      · (intro w hSw; (try dsimp only at hSw); obtain ⟨s0, s1, s2, s3, s4, s5⟩ := hSw; go_simp; try with_reducible rfl)
      refine wpAnyL_take (i := 8) (v := ?_) (by kernel_rfl) rfl (by kernel_rfl) (by kernel_rfl) (by kernel_rfl) (fun _ _ _ h => h) hHeld (Or.inl ⟨by kernel_rfl, ?_⟩) ?_
      rotate_left
      · (intro w hSw; (try dsimp only at hSw); obtain ⟨s0, s1, s2, s3, s4, s5⟩ := hSw; go_simp; try with_reducible rfl)
      refine wpAnyL_take (i := 9) (v := ?_) (by kernel_rfl) rfl (by kernel_rfl) (by kernel_rfl) (by kernel_rfl) (fun _ _ _ h => h) hHeld (Or.inl ⟨by kernel_rfl, ?_⟩) ?_
      rotate_left
      · (intro w hSw; (try dsimp only at hSw); obtain ⟨s0, s1, s2, s3, s4, s5⟩ := hSw; go_simp; try with_reducible rfl)
      refine wpAnyL_take (i := 10) (v := ?_) (by kernel_rfl) rfl (by kernel_rfl) (by kernel_rfl) (by kernel_rfl) (fun _ _ _ h => h) hHeld (Or.inl ⟨by kernel_rfl, ?_⟩) ?_
      rotate_left
      · (intro w hSw; (try dsimp only at hSw); obtain ⟨s0, s1, s2, s3, s4, s5⟩ := hSw; go_simp; try with_reducible rfl)
      refine wpAnyL_take (i := 11) (v := ?_) (by kernel_rfl) rfl (by kernel_rfl) (by kernel_rfl) (by kernel_rfl) (fun _ _ _ h => h) hHeld (Or.inl ⟨by kernel_rfl, ?_⟩) ?_
      rotate_left
      · (intro w hSw; (try dsimp only at hSw); obtain ⟨s0, s1, s2, s3, s4, s5⟩ := hSw; go_simp; try with_reducible rfl)
      refine wpAnyL_take (i := 12) (v := ?_) (by kernel_rfl) rfl (by kernel_rfl) (by kernel_rfl) (by kernel_rfl) (fun _ _ _ h => h) hHeld (Or.inl ⟨by kernel_rfl, ?_⟩) ?_
      rotate_left
      · (intro w hSw; (try dsimp only at hSw); obtain ⟨s0, s1, s2, s3, s4, s5⟩ := hSw; go_simp; try with_reducible rfl)
      refine wpAnyL_take (i := 13) (v := ?_) (by kernel_rfl) rfl (by kernel_rfl) (by kernel_rfl) (by kernel_rfl) (fun _ _ _ h => h) hHeld (Or.inl ⟨by kernel_rfl, ?_⟩) ?_
      rotate_left
      · (intro w hSw; (try dsimp only at hSw); obtain ⟨s0, s1, s2, s3, s4, s5⟩ := hSw; go_simp; try with_reducible rfl)
      refine wpAnyL_take (i := 14) (v := ?_) (by kernel_rfl) rfl (by kernel_rfl) (by kernel_rfl) (by kernel_rfl) (fun _ _ _ h => h) hHeld (Or.inl ⟨by kernel_rfl, ?_⟩) ?_
      rotate_left
      · (intro w hSw; (try dsimp only at hSw); obtain ⟨s0, s1, s2, s3, s4, s5⟩ := hSw; go_simp; try with_reducible rfl)
      refine wpAnyL_take (i := 15) (v := ?_) (by kernel_rfl) rfl (by kernel_rfl) (by kernel_rfl) (by kernel_rfl) (fun _ _ _ h => h) hHeld (Or.inl ⟨by kernel_rfl, ?_⟩) ?_
      rotate_left
      · (intro w hSw; (try dsimp only at hSw); obtain ⟨s0, s1, s2, s3, s4, s5⟩ := hSw; go_simp; try with_reducible rfl)
      refine wpAnyL_take (i := 16) (v := ?_) (by kernel_rfl) rfl (by kernel_rfl) (by kernel_rfl) (by kernel_rfl) (fun _ _ _ h => h) hHeld (Or.inl ⟨by kernel_rfl, ?_⟩) ?_
      rotate_left
      · (intro w hSw; (try dsimp only at hSw); obtain ⟨s0, s1, s2, s3, s4, s5⟩ := hSw; go_simp; try with_reducible rfl)
      refine wpAnyL_one (i := 17) (by kernel_rfl) rfl (fun K hK => ?_)
      go_simp
      refine held_on hK ?_ (fun hHeld => ?_)
      · exact hHeld
      clear hK K
      refine wpAnyL_one (i := 18) (by kernel_rfl) rfl (fun K hK => ?_)
      go_simp
      have hbA : Below wr.heap.size wr (wr.drew.alloc (.cells #[.int .i64 z, .int .i64 x.x, .int .i64 x.y, .int .i64 x.c, .slice none 0 0] 37)) := ((Below.refl _ _).drew).alloc (by simp) _
      have hbA2 : Below w2.heap.size w2 (wr.drew.alloc (.cells #[.int .i64 z, .int .i64 x.x, .int .i64 x.y, .int .i64 x.c, .slice none 0 0] 37)) := below_then (unhide HW) hbA
      refine held_on hK ?_ (fun hHeld => ?_)
      · exact ⟨cell_on (hbA2) (unhide G0), cell_on (hbA2) (unhide G1), cell_on (hbA2) (unhide G2), cell_on (hbA2) (unhide G3), cell_on (hbA2) (unhide G4), cell_on (hbA2) (unhide G5)⟩
      clear hK K
      have hownA : (wr.drew.alloc (.cells #[.int .i64 z, .int .i64 x.x, .int .i64 x.y, .int .i64 x.c, .slice none 0 0] 37)).ownsRow w2.heap.size 37 5 (.slice va k vc) k (laneFlat ((zs.zip bs).take k)) := ownsOn hbA (unhide HO)
      refine wpAnyL_one (i := 19) (by kernel_rfl) rfl (fun K hK => ?_)
      refine step_append_lies _ (by rfl) _ _ _ (by rfl) w2.heap.size 37 i5 _ 5 56 slice_cpLane hi5 hz0 hz1 hz2 (by rfl) (by omega) (.slice va k vc) k (laneFlat ((zs.zip bs).take k)) (by rfl) hownA ⟨wr.heap.size, 0, none⟩ 1 1 (laneNil (z, x)) (by rfl) (by rfl) (World.news_of_block (cs := #[.int .i64 z, .int .i64 x.x, .int .i64 x.y, .int .i64 x.c, .slice none 0 0]) (t := 37) (fr := (0, 0)) (heap_alloc_new wr.drew _)) (by simp [Value.oneCell']) (by omega) (by unfold maxLen; omega) (by omega) (by simp; omega) (wr.heap.size + 1) (by simp) ?_
      intro gg cap2 w3 hown3 hgrow hat hlt3
      have hb3 : Below w2.heap.size w2 w3 := Below.grown hbA2 hgrow (by simp; omega) (fun b hb => ((unhide HO).lt b hb).1)
      have HB3 := hide hb3
      have HO3 : Hid (w3.ownsRow w2.heap.size 37 5 (.slice (some ⟨gg, 0, none⟩) (k + 1) cap2) (k + 1) (laneFlat ((zs.zip bs).take (k + 1)))) := hide (by
        rw [take_more (zs.zip bs) k (by omega), laneFlat_snoc, List.getElem_zip, ← unhide HXE, ← unhide HZE]
        exact hown3)
      clear hown3 hgrow hat hlt3 hownA
      refine held_on hK ?_ (fun hHeld => ?_)
      · exact ⟨cell_on (hb3) (unhide G0), cell_on (hb3) (unhide G1), cell_on (hb3) (unhide G2), cell_on (hb3) (unhide G3), cell_on (hb3) (unhide G4), cell_on (hb3) (unhide G5)⟩
      clear hK K
      refine wpAnyL_end (by kernel_rfl) rfl (fun K hK => ?_)
      go_simp
      refine hK.out _ _ ?_
      clear hK K
      refine wpAnyL_done (by kernel_rfl) ?_ _
      go_wp2_with fail
      go_roundw
      case rel => exact ⟨k + 1, some ⟨gg, 0, none⟩, cap2, by omega, rfl, by go_num, HO3, HB3⟩
      case measure => (simp [intOf]; try omega)
    · have hke : k = zs.length := by omega
      subst hke
      go_wp2_with fail
      go_ret
      have e := unhide HO
      rw [List.take_of_length_le (by omega)] at e
      exact ⟨_, rfl, (lanesOwn_of_owns (xs := zs.zip bs) (by rw [hzl]; exact e) (Nat.le_refl _)).wide (unhide HB2).size (Nat.le_refl _), below_then (unhide HB2) (unhide HW)⟩
end Go.Proofs.Ytimkamgghkjhhaa
