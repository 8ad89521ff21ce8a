/- The walk of laws.FnExactSlotRead: it answers true. -/
import Derived.Test.YtocgfngcgekciaaSRead2
import Derived.Test.YtocgfngcgekciaaLawSk
namespace Go.Proofs.Ytocgfngcgekciaa
open Go.RowKit
set_option linter.unusedVariables false
set_option linter.unusedSimpArgs false

theorem readL_len {d : DiskV} (h1 : gSz szN d.a.rows ≤ 1048576) (h2 : gSz szN d.b.rows ≤ 1048576) : (readL d).length ≤ 1048576 := by
  unfold readL
  split
  · unfold saysL
    rw [List.length_take]
    have : (later d).rows.flatten.length ≤ 1048576 := by
      unfold later
      cases isB d
      · have := flat_gSz d.a.rows; simp; simp at this; omega
      · have := flat_gSz d.b.rows; simp; simp at this; omega
    omega
  · simp

set_option maxRecDepth 100000 in
set_option maxHeartbeats 2000000 in
theorem lawSlotRead_walk (d : DiskV) (va vb : Value) (w : World) (h : DiskAt w d va vb) : Calls Try.prog 9 #[diskAgg d va vb] w fun e w' => e = .returned (.bool true) ∧ Below w.heap.size w w' := by
  have hqm : ∀ b : Bool, (b != b) = false := by intro b; simp
  obtain ⟨a0, c0, rfl⟩ := h.a.sliced
  obtain ⟨b0, e0, rfl⟩ := h.b.sliced
  have hb0 : Below w.heap.size w (w.alloc (.cells #[.int .i64 d.a.num, .int .i64 d.a.cnt, .slice a0 d.a.rows.length c0, .int .i64 d.b.num, .int .i64 d.b.cnt, .slice b0 d.b.rows.length e0] 51)) := (Below.refl _ _).alloc (Nat.le_refl _) _
  have HB := hide hb0
  have A := hide (h.on hb0)
  have B := hide (cellsAt_new w (diskCells d (.slice a0 d.a.rows.length c0) (.slice b0 d.b.rows.length e0)) 51)
  clear h hb0
  have hzm : ∀ z : Int, (z != z) = false := by intro z; simp
  go_enter Try.func9, Try.ntmps9
  go_upto_region 2 with fail
  generalize (w.alloc (.cells #[.int .i64 d.a.num, .int .i64 d.a.cnt, .slice a0 d.a.rows.length c0, .int .i64 d.b.num, .int .i64 d.b.cnt, .slice b0 d.b.rows.length e0] 51)) = W0 at *
  have n0 : W0.cell? ⟨w.heap.size, 0, none⟩ = some (.int .i64 d.a.num) := (unhide B) 0 (by simp)
  have n1 : W0.cell? ⟨w.heap.size, 1, none⟩ = some (.int .i64 d.a.cnt) := (unhide B) 1 (by simp)
  have n2 : W0.cell? ⟨w.heap.size, 2, none⟩ = some (.slice a0 d.a.rows.length c0) := (unhide B) 2 (by simp)
  have n3 : W0.cell? ⟨w.heap.size, 3, none⟩ = some (.int .i64 d.b.num) := (unhide B) 3 (by simp)
  have n4 : W0.cell? ⟨w.heap.size, 4, none⟩ = some (.int .i64 d.b.cnt) := (unhide B) 4 (by simp)
  have n5 : W0.cell? ⟨w.heap.size, 5, none⟩ = some (.slice b0 d.b.rows.length e0) := (unhide B) 5 (by simp)
  go_wp2_with fail
  clear n0 n1 n2 n3 n4 n5
  refine (szSlotDisk_any d _ _ 1048576 W0 (unhide A) (by omega) (by omega)).mono ?_
  rintro e w1 ⟨r, rfl, hr, hb1⟩
  replace HB := hide (below_then (unhide HB) hb1)
  replace A := hide ((unhide A).on hb1)
  replace B := hide ((unhide B).on hb1)
  clear hb1
  rcases hr with rfl | ⟨hr0, hr1⟩
  · go_wp2_with fail
    go_ret
    exact ⟨rfl, unhide HB⟩
  have hrn : ¬ r < 0 := by omega
  have HLA := hide (len_of_sz hr0 hr1).1
  have HLB := hide (len_of_sz hr0 hr1).2
  have HGS := hide (gs_of_sz hr0 hr1)
  clear hr1
  have n0 : w1.cell? ⟨w.heap.size, 0, none⟩ = some (.int .i64 d.a.num) := (unhide B) 0 (by simp)
  have n1 : w1.cell? ⟨w.heap.size, 1, none⟩ = some (.int .i64 d.a.cnt) := (unhide B) 1 (by simp)
  have n2 : w1.cell? ⟨w.heap.size, 2, none⟩ = some (.slice a0 d.a.rows.length c0) := (unhide B) 2 (by simp)
  have n3 : w1.cell? ⟨w.heap.size, 3, none⟩ = some (.int .i64 d.b.num) := (unhide B) 3 (by simp)
  have n4 : w1.cell? ⟨w.heap.size, 4, none⟩ = some (.int .i64 d.b.cnt) := (unhide B) 4 (by simp)
  have n5 : w1.cell? ⟨w.heap.size, 5, none⟩ = some (.slice b0 d.b.rows.length e0) := (unhide B) 5 (by simp)
  go_wp2_with fail
  clear n0 n1 n2 n3 n4 n5
  refine (toSlotDisk_any d _ _ _ (unhide A) (unhide HLA).1 (unhide HLA).2 (unhide HLB).1 (unhide HLB).2).mono ?_
  rintro e w2 ⟨ua, ub, us0, vs0, rfl, hf2, -, hb2⟩
  replace HB := hide (below_then (unhide HB) hb2)
  replace A := hide ((unhide A).on hb2)
  replace B := hide ((unhide B).on hb2)
  have F := hide (hf2.at)
  clear hf2 hb2
  go_wp2_with fail
  refine (specSlotRead_any d _ _ w2 (unhide F)).mono ?_
  rintro e w3 ⟨z0, rfl, hz3, hb3⟩
  obtain ⟨za, zc, rfl⟩ := hz3.sliced
  clear F
  replace HB := hide (below_then (unhide HB) hb3)
  replace A := hide ((unhide A).on hb3)
  replace B := hide ((unhide B).on hb3)
  have Z := hide (hz3)
  clear hz3 hb3
  have n0 : w3.cell? ⟨w.heap.size, 0, none⟩ = some (.int .i64 d.a.num) := (unhide B) 0 (by simp)
  have n1 : w3.cell? ⟨w.heap.size, 1, none⟩ = some (.int .i64 d.a.cnt) := (unhide B) 1 (by simp)
  have n2 : w3.cell? ⟨w.heap.size, 2, none⟩ = some (.slice a0 d.a.rows.length c0) := (unhide B) 2 (by simp)
  have n3 : w3.cell? ⟨w.heap.size, 3, none⟩ = some (.int .i64 d.b.num) := (unhide B) 3 (by simp)
  have n4 : w3.cell? ⟨w.heap.size, 4, none⟩ = some (.int .i64 d.b.cnt) := (unhide B) 4 (by simp)
  have n5 : w3.cell? ⟨w.heap.size, 5, none⟩ = some (.slice b0 d.b.rows.length e0) := (unhide B) 5 (by simp)
  go_wp2_with fail
  clear n0 n1 n2 n3 n4 n5
  have HN : Hid (Below w3.heap.size w3 w3) := hide (Below.refl _ _)
  have hwq : w.heap.size < w3.heap.size := by
    have := heap_lt_of_cell ((unhide B) 0 (by simp))
    exact this
  refine (toSlotDisk_any d _ _ _ (unhide A) (unhide HLA).1 (unhide HLA).2 (unhide HLB).1 (unhide HLB).2).mono ?_
  rintro e w4 ⟨xa, xb, us, vs, rfl, hf4, -, hb4⟩
  obtain ⟨a1, c1, rfl⟩ := hf4.a.at.sliced
  obtain ⟨b1, e1, rfl⟩ := hf4.b.at.sliced
  have HRB : Hid (∀ g, diskBlk d us vs g → w3.heap.size ≤ g ∧ g < w4.heap.size) := hide (fun g hg => by
    rcases hg with ⟨i, hi, h⟩ | ⟨i, hi, h⟩
    · have := (hf4.a.rows i hi).blk g h; omega
    · have := (hf4.b.rows i hi).blk g h; omega)
  replace HN := hide (below_then (unhide HN) hb4)
  have F := hide (hf4)
  clear hf4 hb4
  have hx : Below w4.heap.size w4 (w4.alloc (.cells #[.int .i64 d.a.num, .int .i64 d.a.cnt, .slice a1 d.a.rows.length c1, .int .i64 d.b.num, .int .i64 d.b.cnt, .slice b1 d.b.rows.length e1] 27)) := (Below.refl _ _).alloc (Nat.le_refl _) _
  replace HN := hide (below_then (unhide HN) hx)
  replace F := hide ((unhide F).on hx)
  have X := hide (cellsAt_new w4 (diskCells d (.slice a1 d.a.rows.length c1) (.slice b1 d.b.rows.length e1)) 27)
  clear hx
  go_upto_region 7 with fail
  generalize (w4.alloc (.cells #[.int .i64 d.a.num, .int .i64 d.a.cnt, .slice a1 d.a.rows.length c1, .int .i64 d.b.num, .int .i64 d.b.cnt, .slice b1 d.b.rows.length e1] 27)) = W5 at *
  generalize w4.heap.size = q5 at *
  have hq5 : q5 < W5.heap.size := heap_lt_of_cell ((unhide X) 0 (by simp))
  have HWW := HN
  have n0 : W5.cell? ⟨q5, 0, none⟩ = some (.int .i64 d.a.num) := (unhide X) 0 (by simp)
  have n1 : W5.cell? ⟨q5, 1, none⟩ = some (.int .i64 d.a.cnt) := (unhide X) 1 (by simp)
  have n2 : W5.cell? ⟨q5, 2, none⟩ = some (.slice a1 d.a.rows.length c1) := (unhide X) 2 (by simp)
  have n3 : W5.cell? ⟨q5, 3, none⟩ = some (.int .i64 d.b.num) := (unhide X) 3 (by simp)
  have n4 : W5.cell? ⟨q5, 4, none⟩ = some (.int .i64 d.b.cnt) := (unhide X) 4 (by simp)
  have n5 : W5.cell? ⟨q5, 5, none⟩ = some (.slice b1 d.b.rows.length e1) := (unhide X) 5 (by simp)
  go_wp2_with fail
  clear n0 n1 n2 n3 n4 n5
  refine (implSlotRead_any d _ _ W5 (unhide F).at).mono ?_
  rintro e w6 ⟨g0, rfl, hg6, hb6⟩
  obtain ⟨ga, gc, rfl⟩ := RowsFr_sliced hg6
  rw [List.length_map] at hg6 ⊢
  replace HN := hide (below_then (unhide HN) hb6)
  replace F := hide ((unhide F).on hb6)
  replace X := hide ((unhide X).on hb6)
  have G := hide (hg6)
  clear hg6 hb6
  obtain ⟨ok, hok⟩ : ∃ ok, ok = readB d := ⟨_, rfl⟩
  rw [← hok]
  have HOKK : Hid (readB d = ok) := hide hok.symm
  clear hok
  obtain ⟨L, hL⟩ : ∃ L, L = readL d := ⟨_, rfl⟩
  rw [← hL] at Z G ⊢
  have HLL : Hid (readL d = L) := hide hL.symm
  clear hL
  have hlen : L.length ≤ 1048576 := by rw [← unhide HLL]; exact readL_len (unhide HGS).1 (unhide HGS).2.1
  go_wp2_with fail
  refine (eqIntS_any _ _ L w6 (unhide G).at ((unhide Z).on (unhide HN))).mono ?_
  rintro e w7 ⟨rfl, hb7⟩
  replace HN := hide (below_then (unhide HN) hb7)
  replace F := hide ((unhide F).on hb7)
  replace X := hide ((unhide X).on hb7)
  replace G := hide ((unhide G).on hb7)
  clear hb7
  go_upto_region 10 with fail
  have A7 := hide ((unhide A).on (unhide HN))
  have B7 := hide ((unhide B).on (unhide HN))
  go_region_held3 (fun w' => w'.cell? ⟨q5, 0, none⟩ = some (.int .i64 d.a.num) ∧ w'.cell? ⟨q5, 1, none⟩ = some (.int .i64 d.a.cnt) ∧ w'.cell? ⟨q5, 2, none⟩ = some (.slice a1 d.a.rows.length c1) ∧ w'.cell? ⟨q5, 3, none⟩ = some (.int .i64 d.b.num) ∧ w'.cell? ⟨q5, 4, none⟩ = some (.int .i64 d.b.cnt) ∧ w'.cell? ⟨q5, 5, none⟩ = some (.slice b1 d.b.rows.length e1) ∧ w'.cell? ⟨w.heap.size, 0, none⟩ = some (.int .i64 d.a.num) ∧ w'.cell? ⟨w.heap.size, 1, none⟩ = some (.int .i64 d.a.cnt) ∧ w'.cell? ⟨w.heap.size, 2, none⟩ = some (.slice a0 d.a.rows.length c0) ∧ w'.cell? ⟨w.heap.size, 3, none⟩ = some (.int .i64 d.b.num) ∧ w'.cell? ⟨w.heap.size, 4, none⟩ = some (.int .i64 d.b.cnt) ∧ w'.cell? ⟨w.heap.size, 5, none⟩ = some (.slice b0 d.b.rows.length e0) ∧ Below w7.heap.size w7 w')
    ((go_split_ands; refine two_disks (unhide X) (unhide B7) ?_; first | exact (Below.refl _ _).drew | exact below_then (by assumption) hba | exact below_then (by assumption) hbe))
    (first
      | (go_at_call 29; refine (toSlotDisk_any d _ _ _ ((unhide A7).on (by go_split_ands; assumption)) (unhide HLA).1 (unhide HLA).2 (unhide HLB).1 (unhide HLB).2).mono ?_; rintro e wa ⟨ua, ub, usx, vsx, rfl, hfr, -, hba⟩; have hBa := below_then (a := w7) (by go_split_ands; assumption) hba)
      | (go_at_call 25; refine (eqSlotDisk_any d _ _ _ _ _ ((unhide F).at.on hBa) hfr.at).mono ?_; rintro e we ⟨rfl, hbe⟩; have hBe := below_then hBa hbe))
  replace HN := hide (below_then (unhide HN) hBe)
  replace F := hide ((unhide F).on hBe)
  replace X := hide ((unhide X).on hBe)
  replace G := hide ((unhide G).on hBe)
  clear A7 B7 hBe hbe hBa hba hfr
  go_upto_region 13 with fail
  have n0 : we.cell? ⟨q5, 0, none⟩ = some (.int .i64 d.a.num) := (unhide X) 0 (by simp)
  have n1 : we.cell? ⟨q5, 1, none⟩ = some (.int .i64 d.a.cnt) := (unhide X) 1 (by simp)
  have n2 : we.cell? ⟨q5, 2, none⟩ = some (.slice a1 d.a.rows.length c1) := (unhide X) 2 (by simp)
  have n3 : we.cell? ⟨q5, 3, none⟩ = some (.int .i64 d.b.num) := (unhide X) 3 (by simp)
  have n4 : we.cell? ⟨q5, 4, none⟩ = some (.int .i64 d.b.cnt) := (unhide X) 4 (by simp)
  have n5 : we.cell? ⟨q5, 5, none⟩ = some (.slice b1 d.b.rows.length e1) := (unhide X) 5 (by simp)
  go_wp2_with fail
  clear n0 n1 n2 n3 n4 n5
  have hsp := gSz_pos szN szN_pos d.a.rows
  have hsp2 := gSz_pos szN szN_pos d.b.rows
  have hsD : szD d ≤ 1048576 ∧ 0 ≤ szD d := by have := (unhide HGS).2.2; unfold szD; omega
  have hkn : ¬ 1 + szD d < 0 := by omega
  clear hsp hsp2
  refine (markSlotDisk_any _ d _ _ us vs 1 we (unhide F) (fun l hl => by have := (unhide HLA).2 l hl; omega) (fun l hl => by have := (unhide HLB).2 l hl; omega) (by omega) (by omega)).mono ?_
  rintro e w9 ⟨rfl, -, hm9⟩
  replace HN := hide ((unhide HN).trans (hm9.below w3.heap.size (unhide HN).size (fun g hg => ((unhide HRB) g hg).1)))
  replace G := hide ((unhide G).block (fun g hg hlt => hm9.other g hlt (fun hd => by
    have h1 := ((unhide HRB) g hd).2
    have h2 := ((unhide G).blk g hg).1
    omega)))
  clear F X hm9
  go_wp2_with fail
  refine (eqIntS_any _ _ L w9 (unhide G).at ((unhide Z).on (unhide HN))).mono ?_
  rintro e w10 ⟨rfl, hb10⟩
  replace HN := hide (below_then (unhide HN) hb10)
  replace G := hide ((unhide G).on hb10)
  clear hb10
  go_wp2_with fail
  have hroom := (unhide G).room
  rw [List.length_map] at hroom
  refine (markIntS_any _ _ _ L.length 1 w10 hroom (by omega) (by omega) (by omega)).mono ?_
  rintro e w11 ⟨rfl, hr11, ho11⟩
  have h3W : w3.heap.size ≤ W5.heap.size := by
    have := (unhide HWW).size
    exact this
  replace HN := hide ((unhide HN).trans (ho11.below w3.heap.size (fun g hg => Nat.le_trans h3W ((unhide G).blk g hg).1)))
  replace G := hide hr11
  clear hroom hr11 ho11
  have hmn : ¬ 1 + (L.length : Int) < 0 := by omega
  go_wp2_with fail
  refine (heldIntS_any _ L.length 1 w11 (unhide G).at (by omega) (by omega) (by omega)).mono ?_
  rintro e w12 ⟨rfl, hw12⟩
  obtain rfl := hw12.symm
  have B11 := hide ((unhide B).on (unhide HN))
  have n0 : w11.cell? ⟨w.heap.size, 0, none⟩ = some (.int .i64 d.a.num) := (unhide B11) 0 (by simp)
  have n1 : w11.cell? ⟨w.heap.size, 1, none⟩ = some (.int .i64 d.a.cnt) := (unhide B11) 1 (by simp)
  have n2 : w11.cell? ⟨w.heap.size, 2, none⟩ = some (.slice a0 d.a.rows.length c0) := (unhide B11) 2 (by simp)
  have n3 : w11.cell? ⟨w.heap.size, 3, none⟩ = some (.int .i64 d.b.num) := (unhide B11) 3 (by simp)
  have n4 : w11.cell? ⟨w.heap.size, 4, none⟩ = some (.int .i64 d.b.cnt) := (unhide B11) 4 (by simp)
  have n5 : w11.cell? ⟨w.heap.size, 5, none⟩ = some (.slice b0 d.b.rows.length e0) := (unhide B11) 5 (by simp)
  go_wp2_with fail
  clear n0 n1 n2 n3 n4 n5
  clear B11
  refine (toSlotDisk_any d _ _ _ ((unhide A).on (unhide HN)) (unhide HLA).1 (unhide HLA).2 (unhide HLB).1 (unhide HLB).2).mono ?_
  rintro e w13 ⟨ya, yb, ys, zs, rfl, hf13, -, hb13⟩
  replace HN := hide (below_then (unhide HN) hb13)
  replace G := hide ((unhide G).on hb13)
  have F := hide (hf13.at)
  clear hf13 hb13
  go_wp2_with fail
  refine (implSlotRead_any d _ _ w13 (unhide F)).mono ?_
  rintro e w14 ⟨h0, rfl, hg14, hb14⟩
  rw [unhide HOKK]
  rw [unhide HLL] at hg14
  obtain ⟨ha, hc, rfl⟩ := RowsFr_sliced hg14
  rw [List.length_map] at hg14 ⊢
  clear F
  replace HN := hide (below_then (unhide HN) hb14)
  replace G := hide ((unhide G).on hb14)
  have H := hide (hg14)
  clear hg14 hb14
  go_wp2_with fail
  refine (eqIntS_any _ _ L w14 (unhide H).at ((unhide Z).on (unhide HN))).mono ?_
  rintro e w15 ⟨rfl, hb15⟩
  replace HN := hide (below_then (unhide HN) hb15)
  replace G := hide ((unhide G).on hb15)
  replace H := hide ((unhide H).on hb15)
  clear hb15
  go_wp2_with fail
  refine (heldIntS_any _ L.length 1 w15 (unhide G).at (by omega) (by omega) (by omega)).mono ?_
  rintro e w16 ⟨rfl, hw16⟩
  obtain rfl := hw16.symm
  go_wp2_with fail
  go_ret
  exact ⟨rfl, (unhide HB).trans ((unhide HN).mono (by omega))⟩
end Go.Proofs.Ytocgfngcgekciaa
