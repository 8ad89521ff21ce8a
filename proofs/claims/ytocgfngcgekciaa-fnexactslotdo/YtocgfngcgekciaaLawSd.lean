/- The walk of laws.FnExactSlotDo: it answers true. -/
import Derived.Test.YtocgfngcgekciaaSDo
import Derived.Test.YtocgfngcgekciaaSC4
import Derived.Test.YtocgfngcgekciaaSteps3
import Derived.Test.YtocgfngcgekciaaLawSk
import Derived.Test.YtocgfngcgekciaaGrid3
namespace Go.Proofs.Ytocgfngcgekciaa
open Go.RowKit
set_option linter.unusedVariables false
set_option linter.unusedSimpArgs false


theorem sz_le {d : DiskV} {r : Int} (h : r = 1048576 - szG d.a.rows - szG d.b.rows) : r ≤ 1048576 := by
  have h1 := gSz_pos szN szN_pos d.a.rows
  have h2 := gSz_pos szN szN_pos d.b.rows
  unfold szG at h
  omega
theorem gSzT_mem : ∀ (es : List StepV), ∀ e ∈ es, (e.data.length : Int) ≤ gSz szT es
  | x :: xs, e, h => by
    have h1 := gSz_pos szT szT_pos xs
    have h2 := szT_pos x
    rcases List.mem_cons.1 h with rfl | h
    · have h3 : szT e = (e.data.length : Int) := rfl
      simp only [gSz]
      omega
    · have := gSzT_mem xs e h
      simp only [gSz]
      omega
theorem gSzE_is : ∀ (es : List StepV), gSz szE es = 4 * (es.length : Int) + gSz szT es
  | [] => by simp [gSz]
  | x :: xs => by
    simp only [gSz, gSzE_is xs, List.length_cons]
    unfold szE
    omega
theorem steps_of_sz {es : List StepV} {r r2 : Int} (hr : r ≤ 1048576) (h0 : 0 ≤ r2) (h : r2 = r - (es.length : Int) - gSz szT es) : es.length ≤ 1048576 ∧ (∀ e ∈ es, e.data.length ≤ 1048576) ∧ gSz szE es ≤ 5242880 := by
  have h1 := gSz_pos szT szT_pos es
  refine ⟨by omega, fun e he => ?_, by rw [gSzE_is]; omega⟩
  have := gSzT_mem es e he
  omega
theorem slotDo_small (d : DiskV) (es : List StepV) (most : Int) : Small (slotDoD d es most).a.rows ∧ Small (slotDoD d es most).b.rows ∧ 0 ≤ szD (slotDoD d es most) ∧ szD (slotDoD d es most) ≤ 2560 := by
  unfold slotDoD
  split
  · rename_i hd
    have hok := stepsDo_ok (es.take (mostOf es.length most)) d hd
    generalize stepsDo d (es.take (mostOf es.length most)) = x at *
    unfold diskOk at hok
    simp only [Bool.and_eq_true] at hok
    have ha := slotOk_facts hok.1.1
    have hb := slotOk_facts hok.1.2
    have h1 := (slotOk_fits hok.1.1).2.2
    have h2 := (slotOk_fits hok.1.2).2.2
    have h3 := gSz_pos szN szN_pos x.a.rows
    have h4 := gSz_pos szN szN_pos x.b.rows
    have h5 := ha.2.2.2.2.2.2
    have h6 := hb.2.2.2.2.2.2
    refine ⟨fun l hl => by have := h1 l hl; omega, fun l hl => by have := h2 l hl; omega, ?_, ?_⟩ <;> unfold szD <;> omega
  · refine ⟨fun l hl => (by cases hl), fun l hl => (by cases hl), ?_, ?_⟩ <;> simp [szD, bareDisk, gSz]
theorem CellsAt.same {w w' : World} {b o : Nat} {cs : List Value} (h : CellsAt w b o cs) (hb : w'.heap[b]? = w.heap[b]?) : CellsAt w' b o cs := fun j hj => (cell_block hb).trans (h j hj)

set_option maxRecDepth 100000 in
set_option maxHeartbeats 4000000 in
theorem lawSlotDo_walk (d : DiskV) (va vb v : Value) (es : List StepV) (most : Int) (w : World) (h : DiskAt w d va vb) (hs : StepsAt w v es) : Calls Try.prog 11 #[diskAgg d va vb, v, .int .i64 most] w fun e w' => e = .returned (.bool true) ∧ Below w.heap.size w w' := by
  have hqm : ∀ b : Bool, (b != b) = false := by intro b; simp
  obtain ⟨a0, c0, rfl⟩ := h.a.sliced
  obtain ⟨b0, e0, rfl⟩ := h.b.sliced
  have hb0 : Below w.heap.size w (w.alloc (.cells #[.int .i64 d.a.num, .int .i64 d.a.cnt, .slice a0 d.a.rows.length c0, .int .i64 d.b.num, .int .i64 d.b.cnt, .slice b0 d.b.rows.length e0] 51)) := (Below.refl _ _).alloc (Nat.le_refl _) _
  have HB := hide hb0
  have A := hide (h.on hb0)
  have B := hide (cellsAt_new w (diskCells d (.slice a0 d.a.rows.length c0) (.slice b0 d.b.rows.length e0)) 51)
  obtain ⟨sa, sc, rfl⟩ := hs.sliced
  have AS := hide (hs.on hb0)
  clear h hs hb0
  have hzm : ∀ z : Int, (z != z) = false := by intro z; simp
  go_enter Try.func11, Try.ntmps11
  go_upto_region 2 with fail
  generalize (w.alloc (.cells #[.int .i64 d.a.num, .int .i64 d.a.cnt, .slice a0 d.a.rows.length c0, .int .i64 d.b.num, .int .i64 d.b.cnt, .slice b0 d.b.rows.length e0] 51)) = W0 at *
  have n0 : W0.cell? ⟨w.heap.size, 0, none⟩ = some (.int .i64 d.a.num) := (unhide B) 0 (by simp)
  have n1 : W0.cell? ⟨w.heap.size, 1, none⟩ = some (.int .i64 d.a.cnt) := (unhide B) 1 (by simp)
  have n2 : W0.cell? ⟨w.heap.size, 2, none⟩ = some (.slice a0 d.a.rows.length c0) := (unhide B) 2 (by simp)
  have n3 : W0.cell? ⟨w.heap.size, 3, none⟩ = some (.int .i64 d.b.num) := (unhide B) 3 (by simp)
  have n4 : W0.cell? ⟨w.heap.size, 4, none⟩ = some (.int .i64 d.b.cnt) := (unhide B) 4 (by simp)
  have n5 : W0.cell? ⟨w.heap.size, 5, none⟩ = some (.slice b0 d.b.rows.length e0) := (unhide B) 5 (by simp)
  go_wp2_with fail
  clear n0 n1 n2 n3 n4 n5
  refine (szSlotDisk_any d _ _ 1048576 W0 (unhide A) (by omega) (by omega)).mono ?_
  rintro e w1 ⟨r, rfl, hr, hb1⟩
  replace HB := hide (below_then (unhide HB) hb1)
  replace A := hide ((unhide A).on hb1)
  replace B := hide ((unhide B).on hb1)
  replace AS := hide ((unhide AS).on hb1)
  clear hb1
  rcases hr with rfl | ⟨hr0, hr1⟩
  · go_wp2_with fail
    go_ret
    exact ⟨rfl, unhide HB⟩
  have hrn : ¬ r < 0 := by omega
  have HLA := hide (len_of_sz hr0 hr1).1
  have HLB := hide (len_of_sz hr0 hr1).2
  have HGS := hide (gs_of_sz hr0 hr1)
  have hrle := sz_le hr1
  clear hr1
  go_wp2_with fail
  refine (szSlotStepS_any _ es r w1 (unhide AS) hr0 hrle).mono ?_
  rintro e w2 ⟨r2, rfl, hr2, hb2⟩
  replace HB := hide (below_then (unhide HB) hb2)
  replace A := hide ((unhide A).on hb2)
  replace B := hide ((unhide B).on hb2)
  replace AS := hide ((unhide AS).on hb2)
  clear hb2
  rcases hr2 with rfl | ⟨hr20, hr21⟩
  · go_wp2_with fail
    go_ret
    exact ⟨rfl, unhide HB⟩
  have hrn2 : ¬ r2 < 0 := by omega
  have HSL := hide (steps_of_sz hrle hr20 hr21)
  clear hr21 hrle hr0 hr20
  have n0 : w2.cell? ⟨w.heap.size, 0, none⟩ = some (.int .i64 d.a.num) := (unhide B) 0 (by simp)
  have n1 : w2.cell? ⟨w.heap.size, 1, none⟩ = some (.int .i64 d.a.cnt) := (unhide B) 1 (by simp)
  have n2 : w2.cell? ⟨w.heap.size, 2, none⟩ = some (.slice a0 d.a.rows.length c0) := (unhide B) 2 (by simp)
  have n3 : w2.cell? ⟨w.heap.size, 3, none⟩ = some (.int .i64 d.b.num) := (unhide B) 3 (by simp)
  have n4 : w2.cell? ⟨w.heap.size, 4, none⟩ = some (.int .i64 d.b.cnt) := (unhide B) 4 (by simp)
  have n5 : w2.cell? ⟨w.heap.size, 5, none⟩ = some (.slice b0 d.b.rows.length e0) := (unhide B) 5 (by simp)
  go_wp2_with fail
  clear n0 n1 n2 n3 n4 n5
  refine (toSlotDisk_any d _ _ _ (unhide A) (unhide HLA).1 (unhide HLA).2 (unhide HLB).1 (unhide HLB).2).mono ?_
  rintro e w3 ⟨ua, ub, us0, vs0, rfl, hf3, -, hb3⟩
  replace HB := hide (below_then (unhide HB) hb3)
  replace A := hide ((unhide A).on hb3)
  replace B := hide ((unhide B).on hb3)
  replace AS := hide ((unhide AS).on hb3)
  have F := hide (hf3.at)
  clear hf3 hb3
  go_wp2_with fail
  refine (toSlotStepS_any _ es _ (unhide AS) (unhide HSL).1 (unhide HSL).2.1).mono ?_
  rintro e w4 ⟨ts0, rfl, hf4, hb4⟩
  replace HB := hide (below_then (unhide HB) hb4)
  replace A := hide ((unhide A).on hb4)
  replace B := hide ((unhide B).on hb4)
  replace AS := hide ((unhide AS).on hb4)
  replace F := hide ((unhide F).on hb4)
  have T := hide (hf4.at)
  clear hf4 hb4
  go_wp2_with fail
  refine (specSlotDo_any d _ _ _ es most w4 (unhide F) (unhide T) (unhide HSL).1 (unhide HSL).2.1).mono ?_
  rintro e w5 ⟨za, zb, rfl, hz5, hb5⟩
  obtain ⟨z1, y1, rfl⟩ := hz5.a.sliced
  obtain ⟨z2, y2, rfl⟩ := hz5.b.sliced
  clear F
  clear T
  replace HB := hide (below_then (unhide HB) hb5)
  replace A := hide ((unhide A).on hb5)
  replace B := hide ((unhide B).on hb5)
  replace AS := hide ((unhide AS).on hb5)
  have Z := hide (hz5)
  clear hz5 hb5
  have HSM := hide (slotDo_small d es most)
  obtain ⟨dn, hdn⟩ : ∃ x, x = slotDoD d es most := ⟨_, rfl⟩
  rw [← hdn] at Z HSM ⊢
  have HDN : Hid (slotDoD d es most = dn) := hide hdn.symm
  clear hdn
  have hx : Below w5.heap.size w5 (w5.alloc (.cells #[.int .i64 dn.a.num, .int .i64 dn.a.cnt, .slice z1 dn.a.rows.length y1, .int .i64 dn.b.num, .int .i64 dn.b.cnt, .slice z2 dn.b.rows.length y2] 27)) := (Below.refl _ _).alloc (Nat.le_refl _) _
  replace HB := hide (below_then (unhide HB) hx)
  replace A := hide ((unhide A).on hx)
  replace B := hide ((unhide B).on hx)
  replace AS := hide ((unhide AS).on hx)
  replace Z := hide ((unhide Z).on hx)
  have WN := hide (cellsAt_new w5 (diskCells dn (.slice z1 dn.a.rows.length y1) (.slice z2 dn.b.rows.length y2)) 27)
  clear hx
  go_upto_region 9 with fail
  generalize (w5.alloc (.cells #[.int .i64 dn.a.num, .int .i64 dn.a.cnt, .slice z1 dn.a.rows.length y1, .int .i64 dn.b.num, .int .i64 dn.b.cnt, .slice z2 dn.b.rows.length y2] 27)) = W6 at *
  generalize w5.heap.size = q6 at *
  have HN : Hid (Below W6.heap.size W6 W6) := hide (Below.refl _ _)
  have hwq : w.heap.size < W6.heap.size := by
    have := heap_lt_of_cell ((unhide B) 0 (by simp))
    exact this
  have n0 : W6.cell? ⟨w.heap.size, 0, none⟩ = some (.int .i64 d.a.num) := (unhide B) 0 (by simp)
  have n1 : W6.cell? ⟨w.heap.size, 1, none⟩ = some (.int .i64 d.a.cnt) := (unhide B) 1 (by simp)
  have n2 : W6.cell? ⟨w.heap.size, 2, none⟩ = some (.slice a0 d.a.rows.length c0) := (unhide B) 2 (by simp)
  have n3 : W6.cell? ⟨w.heap.size, 3, none⟩ = some (.int .i64 d.b.num) := (unhide B) 3 (by simp)
  have n4 : W6.cell? ⟨w.heap.size, 4, none⟩ = some (.int .i64 d.b.cnt) := (unhide B) 4 (by simp)
  have n5 : W6.cell? ⟨w.heap.size, 5, none⟩ = some (.slice b0 d.b.rows.length e0) := (unhide B) 5 (by simp)
  go_wp2_with fail
  clear n0 n1 n2 n3 n4 n5
  refine (toSlotDisk_any d _ _ _ (unhide A) (unhide HLA).1 (unhide HLA).2 (unhide HLB).1 (unhide HLB).2).mono ?_
  rintro e w7 ⟨xa, xb, us, vs, rfl, hf7, hs7, hb7⟩
  obtain ⟨a1, c1, rfl⟩ := hf7.a.at.sliced
  obtain ⟨b1, e1, rfl⟩ := hf7.b.at.sliced
  have HRB : Hid (∀ g, diskBlk d us vs g → W6.heap.size ≤ g ∧ g < w7.heap.size) := hide (fun g hg => by
    rcases hg with ⟨i, hi, h⟩ | ⟨i, hi, h⟩
    · have := (hf7.a.rows i hi).blk g h; omega
    · have := (hf7.b.rows i hi).blk g h; omega)
  have HS67 : Hid (W6.heap.size ≤ w7.heap.size) := hide hb7.size
  clear hs7
  replace HN := hide (below_then (unhide HN) hb7)
  have F := hide (hf7)
  clear hf7 hb7
  have HS78 : Hid (w7.heap.size < (w7.alloc (.cells #[.int .i64 d.a.num, .int .i64 d.a.cnt, .slice a1 d.a.rows.length c1, .int .i64 d.b.num, .int .i64 d.b.cnt, .slice b1 d.b.rows.length e1] 27)).heap.size) := hide (by simp)
  have hx : Below w7.heap.size w7 (w7.alloc (.cells #[.int .i64 d.a.num, .int .i64 d.a.cnt, .slice a1 d.a.rows.length c1, .int .i64 d.b.num, .int .i64 d.b.cnt, .slice b1 d.b.rows.length e1] 27)) := (Below.refl _ _).alloc (Nat.le_refl _) _
  replace HN := hide (below_then (unhide HN) hx)
  replace F := hide ((unhide F).on hx)
  have X := hide (cellsAt_new w7 (diskCells d (.slice a1 d.a.rows.length c1) (.slice b1 d.b.rows.length e1)) 27)
  clear hx
  go_upto_region 10 with fail
  generalize (w7.alloc (.cells #[.int .i64 d.a.num, .int .i64 d.a.cnt, .slice a1 d.a.rows.length c1, .int .i64 d.b.num, .int .i64 d.b.cnt, .slice b1 d.b.rows.length e1] 27)) = W8 at *
  generalize w7.heap.size = q8 at *
  go_wp2_with fail
  refine (toSlotStepS_any _ es _ ((unhide AS).on (unhide HN)) (unhide HSL).1 (unhide HSL).2.1).mono ?_
  rintro e w9 ⟨ts, rfl, hf9, hb9⟩
  have HS89 : Hid (W8.heap.size ≤ w9.heap.size) := hide hb9.size
  have hblk9 : ∀ g, stepBlk (.slice (some ⟨W8.heap.size, 0, none⟩) es.length es.length) es ts g → W8.heap.size ≤ g ∧ g < w9.heap.size := fun g hg => by
    rcases hg with h | ⟨i, hi, h⟩
    · exact hf9.blk g h
    · exact (hf9.rows i hi).blk g h
  replace HN := hide (below_then (unhide HN) hb9)
  replace F := hide ((unhide F).on hb9)
  replace X := hide ((unhide X).on hb9)
  have T := hide (hf9)
  have HTB := hide hblk9
  clear hf9 hb9 hblk9
  generalize W8.heap.size = q9 at *
  have n0 : w9.cell? ⟨q8, 0, none⟩ = some (.int .i64 d.a.num) := (unhide X) 0 (by simp)
  have n1 : w9.cell? ⟨q8, 1, none⟩ = some (.int .i64 d.a.cnt) := (unhide X) 1 (by simp)
  have n2 : w9.cell? ⟨q8, 2, none⟩ = some (.slice a1 d.a.rows.length c1) := (unhide X) 2 (by simp)
  have n3 : w9.cell? ⟨q8, 3, none⟩ = some (.int .i64 d.b.num) := (unhide X) 3 (by simp)
  have n4 : w9.cell? ⟨q8, 4, none⟩ = some (.int .i64 d.b.cnt) := (unhide X) 4 (by simp)
  have n5 : w9.cell? ⟨q8, 5, none⟩ = some (.slice b1 d.b.rows.length e1) := (unhide X) 5 (by simp)
  go_wp2_with fail
  clear n0 n1 n2 n3 n4 n5
  refine (implSlotDo_any d _ _ _ es most w9 (unhide F).at (unhide T).at (unhide HSL).1).mono ?_
  rintro e w10 ⟨g1, g2, gus, gvs, rfl, hg10, hb10⟩
  rw [unhide HDN] at hg10 ⊢
  obtain ⟨ga, gc, rfl⟩ := hg10.a.at.sliced
  obtain ⟨gb, gd, rfl⟩ := hg10.b.at.sliced
  have HS9 : Hid (w9.heap.size ≤ w10.heap.size) := hide hb10.size
  have HGB : Hid (∀ g, diskBlk dn gus gvs g → w9.heap.size ≤ g ∧ g < w10.heap.size) := hide (fun g hg => by
    rcases hg with ⟨i, hi, h⟩ | ⟨i, hi, h⟩
    · exact (hg10.a.rows i hi).blk g h
    · exact (hg10.b.rows i hi).blk g h)
  replace HN := hide (below_then (unhide HN) hb10)
  replace F := hide ((unhide F).on hb10)
  replace X := hide ((unhide X).on hb10)
  replace T := hide ((unhide T).on hb10)
  have G := hide (hg10)
  clear hg10 hb10
  have hx : Below w10.heap.size w10 (w10.alloc (.cells #[.int .i64 dn.a.num, .int .i64 dn.a.cnt, .slice ga dn.a.rows.length gc, .int .i64 dn.b.num, .int .i64 dn.b.cnt, .slice gb dn.b.rows.length gd] 27)) := (Below.refl _ _).alloc (Nat.le_refl _) _
  replace HN := hide (below_then (unhide HN) hx)
  replace F := hide ((unhide F).on hx)
  replace X := hide ((unhide X).on hx)
  replace T := hide ((unhide T).on hx)
  replace G := hide ((unhide G).on hx)
  have GN := hide (cellsAt_new w10 (diskCells dn (.slice ga dn.a.rows.length gc) (.slice gb dn.b.rows.length gd)) 27)
  clear hx
  go_upto_region 12 with fail
  generalize (w10.alloc (.cells #[.int .i64 dn.a.num, .int .i64 dn.a.cnt, .slice ga dn.a.rows.length gc, .int .i64 dn.b.num, .int .i64 dn.b.cnt, .slice gb dn.b.rows.length gd] 27)) = W11 at *
  generalize w10.heap.size = q11 at *
  have n0 : W11.cell? ⟨q11, 0, none⟩ = some (.int .i64 dn.a.num) := (unhide GN) 0 (by simp)
  have n1 : W11.cell? ⟨q11, 1, none⟩ = some (.int .i64 dn.a.cnt) := (unhide GN) 1 (by simp)
  have n2 : W11.cell? ⟨q11, 2, none⟩ = some (.slice ga dn.a.rows.length gc) := (unhide GN) 2 (by simp)
  have n3 : W11.cell? ⟨q11, 3, none⟩ = some (.int .i64 dn.b.num) := (unhide GN) 3 (by simp)
  have n4 : W11.cell? ⟨q11, 4, none⟩ = some (.int .i64 dn.b.cnt) := (unhide GN) 4 (by simp)
  have n5 : W11.cell? ⟨q11, 5, none⟩ = some (.slice gb dn.b.rows.length gd) := (unhide GN) 5 (by simp)
  have WX := hide ((unhide WN).on (unhide HN))
  have m0 : W11.cell? ⟨q6, 0, none⟩ = some (.int .i64 dn.a.num) := (unhide WX) 0 (by simp)
  have m1 : W11.cell? ⟨q6, 1, none⟩ = some (.int .i64 dn.a.cnt) := (unhide WX) 1 (by simp)
  have m2 : W11.cell? ⟨q6, 2, none⟩ = some (.slice z1 dn.a.rows.length y1) := (unhide WX) 2 (by simp)
  have m3 : W11.cell? ⟨q6, 3, none⟩ = some (.int .i64 dn.b.num) := (unhide WX) 3 (by simp)
  have m4 : W11.cell? ⟨q6, 4, none⟩ = some (.int .i64 dn.b.cnt) := (unhide WX) 4 (by simp)
  have m5 : W11.cell? ⟨q6, 5, none⟩ = some (.slice z2 dn.b.rows.length y2) := (unhide WX) 5 (by simp)
  go_wp2_with fail
  clear n0 n1 n2 n3 n4 n5
  clear m0 m1 m2 m3 m4 m5
  clear WX
  refine (eqSlotDisk_any dn _ _ _ _ W11 (unhide G).at ((unhide Z).on (unhide HN))).mono ?_
  rintro e w12 ⟨rfl, hb12⟩
  replace HN := hide (below_then (unhide HN) hb12)
  replace F := hide ((unhide F).on hb12)
  replace X := hide ((unhide X).on hb12)
  replace T := hide ((unhide T).on hb12)
  replace G := hide ((unhide G).on hb12)
  replace GN := hide ((unhide GN).on hb12)
  clear hb12
  go_upto_region 14 with fail
  have A7 := hide ((unhide A).on (unhide HN))
  have B7 := hide ((unhide B).on (unhide HN))
  go_region_held3 (fun w' => w'.cell? ⟨q8, 0, none⟩ = some (.int .i64 d.a.num) ∧ w'.cell? ⟨q8, 1, none⟩ = some (.int .i64 d.a.cnt) ∧ w'.cell? ⟨q8, 2, none⟩ = some (.slice a1 d.a.rows.length c1) ∧ w'.cell? ⟨q8, 3, none⟩ = some (.int .i64 d.b.num) ∧ w'.cell? ⟨q8, 4, none⟩ = some (.int .i64 d.b.cnt) ∧ w'.cell? ⟨q8, 5, none⟩ = some (.slice b1 d.b.rows.length e1) ∧ w'.cell? ⟨w.heap.size, 0, none⟩ = some (.int .i64 d.a.num) ∧ w'.cell? ⟨w.heap.size, 1, none⟩ = some (.int .i64 d.a.cnt) ∧ w'.cell? ⟨w.heap.size, 2, none⟩ = some (.slice a0 d.a.rows.length c0) ∧ w'.cell? ⟨w.heap.size, 3, none⟩ = some (.int .i64 d.b.num) ∧ w'.cell? ⟨w.heap.size, 4, none⟩ = some (.int .i64 d.b.cnt) ∧ w'.cell? ⟨w.heap.size, 5, none⟩ = some (.slice b0 d.b.rows.length e0) ∧ Below w12.heap.size w12 w')
    ((go_split_ands; refine two_disks (unhide X) (unhide B7) ?_; first | exact (Below.refl _ _).drew | exact below_then (by assumption) hba | exact below_then (by assumption) hbe))
    (first
      | (go_at_call 29; refine (toSlotDisk_any d _ _ _ ((unhide A7).on (by go_split_ands; assumption)) (unhide HLA).1 (unhide HLA).2 (unhide HLB).1 (unhide HLB).2).mono ?_; rintro e wa ⟨ua, ub, usx, vsx, rfl, hfr, -, hba⟩; have hBa := below_then (a := w12) (by go_split_ands; assumption) hba)
      | (go_at_call 25; refine (eqSlotDisk_any d _ _ _ _ _ ((unhide F).at.on hBa) hfr.at).mono ?_; rintro e we ⟨rfl, hbe⟩; have hBe := below_then hBa hbe))
  replace HN := hide (below_then (unhide HN) hBe)
  replace F := hide ((unhide F).on hBe)
  replace X := hide ((unhide X).on hBe)
  replace T := hide ((unhide T).on hBe)
  replace G := hide ((unhide G).on hBe)
  replace GN := hide ((unhide GN).on hBe)
  clear A7 B7 hBe hbe hBa hba hfr
  generalize we = w13 at *
  go_wp2_with fail
  refine (toSlotStepS_any _ es _ ((unhide AS).on (unhide HN)) (unhide HSL).1 (unhide HSL).2.1).mono ?_
  rintro e wa ⟨tsx, rfl, hfr, hba⟩
  replace HN := hide (below_then (unhide HN) hba)
  replace F := hide ((unhide F).on hba)
  replace X := hide ((unhide X).on hba)
  replace T := hide ((unhide T).on hba)
  replace G := hide ((unhide G).on hba)
  replace GN := hide ((unhide GN).on hba)
  have TX := hide (hfr.at)
  clear hfr hba
  go_wp2_with fail
  refine (eqSlotStepS_any _ _ es _ (unhide T).at (unhide TX)).mono ?_
  rintro e w14 ⟨rfl, hb14⟩
  clear TX
  replace HN := hide (below_then (unhide HN) hb14)
  replace F := hide ((unhide F).on hb14)
  replace X := hide ((unhide X).on hb14)
  replace T := hide ((unhide T).on hb14)
  replace G := hide ((unhide G).on hb14)
  replace GN := hide ((unhide GN).on hb14)
  clear hb14
  go_upto_region 19 with fail
  have n0 : w14.cell? ⟨q8, 0, none⟩ = some (.int .i64 d.a.num) := (unhide X) 0 (by simp)
  have n1 : w14.cell? ⟨q8, 1, none⟩ = some (.int .i64 d.a.cnt) := (unhide X) 1 (by simp)
  have n2 : w14.cell? ⟨q8, 2, none⟩ = some (.slice a1 d.a.rows.length c1) := (unhide X) 2 (by simp)
  have n3 : w14.cell? ⟨q8, 3, none⟩ = some (.int .i64 d.b.num) := (unhide X) 3 (by simp)
  have n4 : w14.cell? ⟨q8, 4, none⟩ = some (.int .i64 d.b.cnt) := (unhide X) 4 (by simp)
  have n5 : w14.cell? ⟨q8, 5, none⟩ = some (.slice b1 d.b.rows.length e1) := (unhide X) 5 (by simp)
  go_wp2_with fail
  clear n0 n1 n2 n3 n4 n5
  have hsp := gSz_pos szN szN_pos d.a.rows
  have hsp2 := gSz_pos szN szN_pos d.b.rows
  have hsD : szD d ≤ 1048576 ∧ 0 ≤ szD d := by have := (unhide HGS).2.2; unfold szD; omega
  have hsE := gSz_pos szE szE_pos es
  have hsE2 := (unhide HSL).2.2
  clear hsp hsp2
  refine (markSlotDisk_any _ d _ _ us vs 1 w14 (unhide F) (fun l hl => by have := (unhide HLA).2 l hl; omega) (fun l hl => by have := (unhide HLB).2 l hl; omega) (by omega) (by omega)).mono ?_
  rintro e w15 ⟨rfl, -, hm15⟩
  have hx9 : ∀ b, q9 ≤ b → ¬ diskBlk d us vs b := fun b hb hd => by have := ((unhide HRB) b hd).2; have := unhide HS78; omega
  have hq11 : w9.heap.size ≤ q11 ∧ q9 ≤ q11 := by have := unhide HS9; have := unhide HS89; omega
  replace HN := hide ((unhide HN).trans (hm15.below W6.heap.size (unhide HN).size (fun g hg => ((unhide HRB) g hg).1)))
  replace T := hide ((unhide T).keep (fun b hb hl => hm15.other b hl (hx9 b hb)))
  replace G := hide ((unhide G).keep (fun b hb hl => hm15.other b hl (hx9 b (by have := unhide HS89; omega))))
  replace GN := hide ((unhide GN).same (hm15.other q11 (heap_lt_of_cell ((unhide GN) 0 (by simp))) (hx9 q11 hq11.2)))
  clear F X hm15 hx9
  go_wp2_with fail
  refine (markSlotStepS_any _ _ ts es (1 + szD d) w15 (unhide T) (fun e he => by have := (unhide HSL).2.1 e he; omega) (by omega) (by omega)).mono ?_
  rintro e w16 ⟨rfl, -, hm16⟩
  have hx10 : ∀ b, w9.heap.size ≤ b → ¬ stepBlk (.slice (some ⟨q9, 0, none⟩) es.length es.length) es ts b := fun b hb hd => by have := ((unhide HTB) b hd).2; omega
  have hW9 : W6.heap.size ≤ q9 := by have := unhide HS67; have := unhide HS78; omega
  replace HN := hide ((unhide HN).trans (hm16.below W6.heap.size (fun g hg => by have := ((unhide HTB) g hg).1; omega)))
  replace G := hide ((unhide G).keep (fun b hb _ => hm16.other b (hx10 b hb)))
  replace GN := hide ((unhide GN).same (hm16.other q11 (hx10 q11 hq11.1)))
  clear T hm16 hx10
  have hkn : ¬ 1 + szD d + gSz szE es < 0 := by omega
  have n0 : w16.cell? ⟨q11, 0, none⟩ = some (.int .i64 dn.a.num) := (unhide GN) 0 (by simp)
  have n1 : w16.cell? ⟨q11, 1, none⟩ = some (.int .i64 dn.a.cnt) := (unhide GN) 1 (by simp)
  have n2 : w16.cell? ⟨q11, 2, none⟩ = some (.slice ga dn.a.rows.length gc) := (unhide GN) 2 (by simp)
  have n3 : w16.cell? ⟨q11, 3, none⟩ = some (.int .i64 dn.b.num) := (unhide GN) 3 (by simp)
  have n4 : w16.cell? ⟨q11, 4, none⟩ = some (.int .i64 dn.b.cnt) := (unhide GN) 4 (by simp)
  have n5 : w16.cell? ⟨q11, 5, none⟩ = some (.slice gb dn.b.rows.length gd) := (unhide GN) 5 (by simp)
  have WX := hide ((unhide WN).on (unhide HN))
  have m0 : w16.cell? ⟨q6, 0, none⟩ = some (.int .i64 dn.a.num) := (unhide WX) 0 (by simp)
  have m1 : w16.cell? ⟨q6, 1, none⟩ = some (.int .i64 dn.a.cnt) := (unhide WX) 1 (by simp)
  have m2 : w16.cell? ⟨q6, 2, none⟩ = some (.slice z1 dn.a.rows.length y1) := (unhide WX) 2 (by simp)
  have m3 : w16.cell? ⟨q6, 3, none⟩ = some (.int .i64 dn.b.num) := (unhide WX) 3 (by simp)
  have m4 : w16.cell? ⟨q6, 4, none⟩ = some (.int .i64 dn.b.cnt) := (unhide WX) 4 (by simp)
  have m5 : w16.cell? ⟨q6, 5, none⟩ = some (.slice z2 dn.b.rows.length y2) := (unhide WX) 5 (by simp)
  go_wp2_with fail
  clear n0 n1 n2 n3 n4 n5
  clear m0 m1 m2 m3 m4 m5
  clear WX
  clear hkn
  refine (eqSlotDisk_any dn _ _ _ _ w16 (unhide G).at ((unhide Z).on (unhide HN))).mono ?_
  rintro e w17 ⟨rfl, hb17⟩
  replace HN := hide (below_then (unhide HN) hb17)
  replace G := hide ((unhide G).on hb17)
  replace GN := hide ((unhide GN).on hb17)
  clear hb17
  have n0 : w17.cell? ⟨q11, 0, none⟩ = some (.int .i64 dn.a.num) := (unhide GN) 0 (by simp)
  have n1 : w17.cell? ⟨q11, 1, none⟩ = some (.int .i64 dn.a.cnt) := (unhide GN) 1 (by simp)
  have n2 : w17.cell? ⟨q11, 2, none⟩ = some (.slice ga dn.a.rows.length gc) := (unhide GN) 2 (by simp)
  have n3 : w17.cell? ⟨q11, 3, none⟩ = some (.int .i64 dn.b.num) := (unhide GN) 3 (by simp)
  have n4 : w17.cell? ⟨q11, 4, none⟩ = some (.int .i64 dn.b.cnt) := (unhide GN) 4 (by simp)
  have n5 : w17.cell? ⟨q11, 5, none⟩ = some (.slice gb dn.b.rows.length gd) := (unhide GN) 5 (by simp)
  go_wp2_with fail
  clear n0 n1 n2 n3 n4 n5
  have hgn := (unhide HSM).2.2
  refine (markSlotDisk_any _ dn _ _ gus gvs 1 w17 (unhide G) (unhide HSM).1 (unhide HSM).2.1 (by omega) (by omega)).mono ?_
  rintro e w18 ⟨rfl, hg18, hm18⟩
  have hW69 : W6.heap.size ≤ w9.heap.size := by have := unhide HS89; omega
  replace HN := hide ((unhide HN).trans (hm18.below W6.heap.size (unhide HN).size (fun g hg => by have := ((unhide HGB) g hg).1; omega)))
  replace GN := hide ((unhide GN).same (hm18.other q11 (heap_lt_of_cell ((unhide GN) 0 (by simp))) (fun hd => by have := ((unhide HGB) q11 hd).2; omega)))
  replace G := hide hg18.at
  clear hg18 hm18
  have hmn : ¬ 1 + szD dn < 0 := by omega
  have n0 : w18.cell? ⟨q11, 0, none⟩ = some (.int .i64 dn.a.num) := (unhide GN) 0 (by simp)
  have n1 : w18.cell? ⟨q11, 1, none⟩ = some (.int .i64 dn.a.cnt) := (unhide GN) 1 (by simp)
  have n2 : w18.cell? ⟨q11, 2, none⟩ = some (.slice ga dn.a.rows.length gc) := (unhide GN) 2 (by simp)
  have n3 : w18.cell? ⟨q11, 3, none⟩ = some (.int .i64 dn.b.num) := (unhide GN) 3 (by simp)
  have n4 : w18.cell? ⟨q11, 4, none⟩ = some (.int .i64 dn.b.cnt) := (unhide GN) 4 (by simp)
  have n5 : w18.cell? ⟨q11, 5, none⟩ = some (.slice gb dn.b.rows.length gd) := (unhide GN) 5 (by simp)
  go_wp2_with fail
  clear n0 n1 n2 n3 n4 n5
  refine (heldSlotDisk_any dn _ _ 1 w18 (unhide G) (unhide HSM).1 (unhide HSM).2.1 (by omega) (by omega)).mono ?_
  rintro e w19 ⟨rfl, hb19⟩
  replace HN := hide (below_then (unhide HN) hb19)
  replace G := hide ((unhide G).on hb19)
  replace GN := hide ((unhide GN).on hb19)
  clear hb19
  have B19 := hide ((unhide B).on (unhide HN))
  have n0 : w19.cell? ⟨w.heap.size, 0, none⟩ = some (.int .i64 d.a.num) := (unhide B19) 0 (by simp)
  have n1 : w19.cell? ⟨w.heap.size, 1, none⟩ = some (.int .i64 d.a.cnt) := (unhide B19) 1 (by simp)
  have n2 : w19.cell? ⟨w.heap.size, 2, none⟩ = some (.slice a0 d.a.rows.length c0) := (unhide B19) 2 (by simp)
  have n3 : w19.cell? ⟨w.heap.size, 3, none⟩ = some (.int .i64 d.b.num) := (unhide B19) 3 (by simp)
  have n4 : w19.cell? ⟨w.heap.size, 4, none⟩ = some (.int .i64 d.b.cnt) := (unhide B19) 4 (by simp)
  have n5 : w19.cell? ⟨w.heap.size, 5, none⟩ = some (.slice b0 d.b.rows.length e0) := (unhide B19) 5 (by simp)
  go_wp2_with fail
  clear n0 n1 n2 n3 n4 n5
  clear B19
  refine (toSlotDisk_any d _ _ _ ((unhide A).on (unhide HN)) (unhide HLA).1 (unhide HLA).2 (unhide HLB).1 (unhide HLB).2).mono ?_
  rintro e w20 ⟨ha, hb, hus, hvs, rfl, hf20, -, hb20⟩
  replace HN := hide (below_then (unhide HN) hb20)
  replace G := hide ((unhide G).on hb20)
  replace GN := hide ((unhide GN).on hb20)
  have F := hide (hf20.at)
  clear hf20 hb20
  go_wp2_with fail
  refine (toSlotStepS_any _ es _ ((unhide AS).on (unhide HN)) (unhide HSL).1 (unhide HSL).2.1).mono ?_
  rintro e w21 ⟨ts2, rfl, hf21, hb21⟩
  replace HN := hide (below_then (unhide HN) hb21)
  replace G := hide ((unhide G).on hb21)
  replace GN := hide ((unhide GN).on hb21)
  replace F := hide ((unhide F).on hb21)
  have T := hide (hf21.at)
  clear hf21 hb21
  go_wp2_with fail
  refine (implSlotDo_any d _ _ _ es most w21 (unhide F) (unhide T) (unhide HSL).1).mono ?_
  rintro e w22 ⟨k1, k2, kus, kvs, rfl, hk22, hb22⟩
  rw [unhide HDN] at hk22 ⊢
  obtain ⟨ka, kc, rfl⟩ := hk22.a.at.sliced
  obtain ⟨kb, kd, rfl⟩ := hk22.b.at.sliced
  clear F
  clear T
  replace HN := hide (below_then (unhide HN) hb22)
  replace G := hide ((unhide G).on hb22)
  replace GN := hide ((unhide GN).on hb22)
  have K := hide (hk22.at)
  clear hk22 hb22
  have hx : Below w22.heap.size w22 (w22.alloc (.cells #[.int .i64 dn.a.num, .int .i64 dn.a.cnt, .slice ka dn.a.rows.length kc, .int .i64 dn.b.num, .int .i64 dn.b.cnt, .slice kb dn.b.rows.length kd] 27)) := (Below.refl _ _).alloc (Nat.le_refl _) _
  replace HN := hide (below_then (unhide HN) hx)
  replace G := hide ((unhide G).on hx)
  replace GN := hide ((unhide GN).on hx)
  replace K := hide ((unhide K).on hx)
  have KN := hide (cellsAt_new w22 (diskCells dn (.slice ka dn.a.rows.length kc) (.slice kb dn.b.rows.length kd)) 27)
  clear hx
  go_upto_region 32 with fail
  generalize (w22.alloc (.cells #[.int .i64 dn.a.num, .int .i64 dn.a.cnt, .slice ka dn.a.rows.length kc, .int .i64 dn.b.num, .int .i64 dn.b.cnt, .slice kb dn.b.rows.length kd] 27)) = W23 at *
  generalize w22.heap.size = q23 at *
  have n0 : W23.cell? ⟨q23, 0, none⟩ = some (.int .i64 dn.a.num) := (unhide KN) 0 (by simp)
  have n1 : W23.cell? ⟨q23, 1, none⟩ = some (.int .i64 dn.a.cnt) := (unhide KN) 1 (by simp)
  have n2 : W23.cell? ⟨q23, 2, none⟩ = some (.slice ka dn.a.rows.length kc) := (unhide KN) 2 (by simp)
  have n3 : W23.cell? ⟨q23, 3, none⟩ = some (.int .i64 dn.b.num) := (unhide KN) 3 (by simp)
  have n4 : W23.cell? ⟨q23, 4, none⟩ = some (.int .i64 dn.b.cnt) := (unhide KN) 4 (by simp)
  have n5 : W23.cell? ⟨q23, 5, none⟩ = some (.slice kb dn.b.rows.length kd) := (unhide KN) 5 (by simp)
  have WX := hide ((unhide WN).on (unhide HN))
  have m0 : W23.cell? ⟨q6, 0, none⟩ = some (.int .i64 dn.a.num) := (unhide WX) 0 (by simp)
  have m1 : W23.cell? ⟨q6, 1, none⟩ = some (.int .i64 dn.a.cnt) := (unhide WX) 1 (by simp)
  have m2 : W23.cell? ⟨q6, 2, none⟩ = some (.slice z1 dn.a.rows.length y1) := (unhide WX) 2 (by simp)
  have m3 : W23.cell? ⟨q6, 3, none⟩ = some (.int .i64 dn.b.num) := (unhide WX) 3 (by simp)
  have m4 : W23.cell? ⟨q6, 4, none⟩ = some (.int .i64 dn.b.cnt) := (unhide WX) 4 (by simp)
  have m5 : W23.cell? ⟨q6, 5, none⟩ = some (.slice z2 dn.b.rows.length y2) := (unhide WX) 5 (by simp)
  go_wp2_with fail
  clear n0 n1 n2 n3 n4 n5
  clear m0 m1 m2 m3 m4 m5
  clear WX
  refine (eqSlotDisk_any dn _ _ _ _ W23 (unhide K) ((unhide Z).on (unhide HN))).mono ?_
  rintro e w24 ⟨rfl, hb24⟩
  replace HN := hide (below_then (unhide HN) hb24)
  replace G := hide ((unhide G).on hb24)
  replace GN := hide ((unhide GN).on hb24)
  replace K := hide ((unhide K).on hb24)
  replace KN := hide ((unhide KN).on hb24)
  clear hb24
  have n0 : w24.cell? ⟨q11, 0, none⟩ = some (.int .i64 dn.a.num) := (unhide GN) 0 (by simp)
  have n1 : w24.cell? ⟨q11, 1, none⟩ = some (.int .i64 dn.a.cnt) := (unhide GN) 1 (by simp)
  have n2 : w24.cell? ⟨q11, 2, none⟩ = some (.slice ga dn.a.rows.length gc) := (unhide GN) 2 (by simp)
  have n3 : w24.cell? ⟨q11, 3, none⟩ = some (.int .i64 dn.b.num) := (unhide GN) 3 (by simp)
  have n4 : w24.cell? ⟨q11, 4, none⟩ = some (.int .i64 dn.b.cnt) := (unhide GN) 4 (by simp)
  have n5 : w24.cell? ⟨q11, 5, none⟩ = some (.slice gb dn.b.rows.length gd) := (unhide GN) 5 (by simp)
  go_wp2_with fail
  clear n0 n1 n2 n3 n4 n5
  refine (heldSlotDisk_any dn _ _ 1 w24 (unhide G) (unhide HSM).1 (unhide HSM).2.1 (by omega) (by omega)).mono ?_
  rintro e w25 ⟨rfl, hb25⟩
  replace HN := hide (below_then (unhide HN) hb25)
  replace G := hide ((unhide G).on hb25)
  replace GN := hide ((unhide GN).on hb25)
  replace K := hide ((unhide K).on hb25)
  replace KN := hide ((unhide KN).on hb25)
  clear hb25
  go_wp2_with fail
  go_ret
  exact ⟨rfl, (unhide HB).trans ((unhide HN).mono (by omega))⟩
end Go.Proofs.Ytocgfngcgekciaa
