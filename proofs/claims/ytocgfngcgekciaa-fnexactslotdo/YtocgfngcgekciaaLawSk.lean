/- The walk of laws.FnExactSlotOk: it answers true. -/
import Derived.Test.YtocgfngcgekciaaSOk2
import Derived.Test.YtocgfngcgekciaaSTo2
namespace Go.Proofs.Ytocgfngcgekciaa
open Go.RowKit
set_option linter.unusedVariables false
set_option linter.unusedSimpArgs false


theorem two_disks {W w' : World} {p q : Nat} {a b c d e f a' b' c' d' e' f' : Value} (h : CellsAt W p 0 [a, b, c, d, e, f]) (k : CellsAt W q 0 [a', b', c', d', e', f']) (hb : Below W.heap.size W w') :
    w'.cell? ⟨p, 0, none⟩ = some a ∧ w'.cell? ⟨p, 1, none⟩ = some b ∧ w'.cell? ⟨p, 2, none⟩ = some c ∧ w'.cell? ⟨p, 3, none⟩ = some d ∧ w'.cell? ⟨p, 4, none⟩ = some e ∧ w'.cell? ⟨p, 5, none⟩ = some f ∧ w'.cell? ⟨q, 0, none⟩ = some a' ∧ w'.cell? ⟨q, 1, none⟩ = some b' ∧ w'.cell? ⟨q, 2, none⟩ = some c' ∧ w'.cell? ⟨q, 3, none⟩ = some d' ∧ w'.cell? ⟨q, 4, none⟩ = some e' ∧ w'.cell? ⟨q, 5, none⟩ = some f' ∧ Below W.heap.size W w' :=
  ⟨(h.on hb) 0 (by simp), (h.on hb) 1 (by simp), (h.on hb) 2 (by simp), (h.on hb) 3 (by simp), (h.on hb) 4 (by simp), (h.on hb) 5 (by simp), (k.on hb) 0 (by simp), (k.on hb) 1 (by simp), (k.on hb) 2 (by simp), (k.on hb) 3 (by simp), (k.on hb) 4 (by simp), (k.on hb) 5 (by simp), hb⟩

/-- What sz has found: the lists are not too long. -/
theorem len_of_sz {d : DiskV} {r : Int} (h0 : 0 ≤ r) (h : r = 1048576 - szG d.a.rows - szG d.b.rows) : (d.a.rows.length ≤ 1048576 ∧ ∀ l ∈ d.a.rows, l.length ≤ 1048576) ∧ (d.b.rows.length ≤ 1048576 ∧ ∀ l ∈ d.b.rows, l.length ≤ 1048576) := by
  have h1 := gSz_pos szN szN_pos d.a.rows
  have h2 := gSz_pos szN szN_pos d.b.rows
  unfold szG at h
  refine ⟨⟨by omega, fun l hl => ?_⟩, by omega, fun l hl => ?_⟩
  · have := gSz_mem d.a.rows l hl; omega
  · have := gSz_mem d.b.rows l hl; omega

theorem gs_of_sz {d : DiskV} {r : Int} (h0 : 0 ≤ r) (h : r = 1048576 - szG d.a.rows - szG d.b.rows) : gSz szN d.a.rows ≤ 1048576 ∧ gSz szN d.b.rows ≤ 1048576 ∧ gSz szN d.a.rows + gSz szN d.b.rows ≤ 1048576 := by
  have h1 := gSz_pos szN szN_pos d.a.rows
  have h2 := gSz_pos szN szN_pos d.b.rows
  unfold szG at h
  refine ⟨by omega, by omega, by omega⟩

set_option maxRecDepth 100000 in
set_option maxHeartbeats 2000000 in
theorem lawSlotOk_walk (d : DiskV) (va vb : Value) (w : World) (h : DiskAt w d va vb) : Calls Try.prog 8 #[diskAgg d va vb] w fun e w' => e = .returned (.bool true) ∧ Below w.heap.size w w' := by
  have hqm : ∀ b : Bool, (b != b) = false := by intro b; simp
  obtain ⟨a0, c0, rfl⟩ := h.a.sliced
  obtain ⟨b0, e0, rfl⟩ := h.b.sliced
  have hb0 : Below w.heap.size w (w.alloc (.cells #[.int .i64 d.a.num, .int .i64 d.a.cnt, .slice a0 d.a.rows.length c0, .int .i64 d.b.num, .int .i64 d.b.cnt, .slice b0 d.b.rows.length e0] 51)) := (Below.refl _ _).alloc (Nat.le_refl _) _
  have HB := hide hb0
  have A := hide (h.on hb0)
  have B := hide (cellsAt_new w (diskCells d (.slice a0 d.a.rows.length c0) (.slice b0 d.b.rows.length e0)) 51)
  clear h hb0
  go_enter Try.func8, Try.ntmps8
  go_upto_region 2 with fail
  generalize (w.alloc (.cells #[.int .i64 d.a.num, .int .i64 d.a.cnt, .slice a0 d.a.rows.length c0, .int .i64 d.b.num, .int .i64 d.b.cnt, .slice b0 d.b.rows.length e0] 51)) = W0 at *
  have n0 : W0.cell? ⟨w.heap.size, 0, none⟩ = some (.int .i64 d.a.num) := (unhide B) 0 (by simp)
  have n1 : W0.cell? ⟨w.heap.size, 1, none⟩ = some (.int .i64 d.a.cnt) := (unhide B) 1 (by simp)
  have n2 : W0.cell? ⟨w.heap.size, 2, none⟩ = some (.slice a0 d.a.rows.length c0) := (unhide B) 2 (by simp)
  have n3 : W0.cell? ⟨w.heap.size, 3, none⟩ = some (.int .i64 d.b.num) := (unhide B) 3 (by simp)
  have n4 : W0.cell? ⟨w.heap.size, 4, none⟩ = some (.int .i64 d.b.cnt) := (unhide B) 4 (by simp)
  have n5 : W0.cell? ⟨w.heap.size, 5, none⟩ = some (.slice b0 d.b.rows.length e0) := (unhide B) 5 (by simp)
  go_wp2_with fail
  clear n0 n1 n2 n3 n4 n5
  refine (szSlotDisk_any d _ _ 1048576 W0 (unhide A) (by omega) (by omega)).mono ?_
  rintro e w1 ⟨r, rfl, hr, hb1⟩
  replace HB := hide (below_then (unhide HB) hb1)
  replace A := hide ((unhide A).on hb1)
  replace B := hide ((unhide B).on hb1)
  clear hb1
  rcases hr with rfl | ⟨hr0, hr1⟩
  · go_wp2_with fail
    go_ret
    exact ⟨rfl, unhide HB⟩
  have hrn : ¬ r < 0 := by omega
  have HLA := hide (len_of_sz hr0 hr1).1
  have HLB := hide (len_of_sz hr0 hr1).2
  clear hr1
  have n0 : w1.cell? ⟨w.heap.size, 0, none⟩ = some (.int .i64 d.a.num) := (unhide B) 0 (by simp)
  have n1 : w1.cell? ⟨w.heap.size, 1, none⟩ = some (.int .i64 d.a.cnt) := (unhide B) 1 (by simp)
  have n2 : w1.cell? ⟨w.heap.size, 2, none⟩ = some (.slice a0 d.a.rows.length c0) := (unhide B) 2 (by simp)
  have n3 : w1.cell? ⟨w.heap.size, 3, none⟩ = some (.int .i64 d.b.num) := (unhide B) 3 (by simp)
  have n4 : w1.cell? ⟨w.heap.size, 4, none⟩ = some (.int .i64 d.b.cnt) := (unhide B) 4 (by simp)
  have n5 : w1.cell? ⟨w.heap.size, 5, none⟩ = some (.slice b0 d.b.rows.length e0) := (unhide B) 5 (by simp)
  go_wp2_with fail
  clear n0 n1 n2 n3 n4 n5
  refine (toSlotDisk_any d _ _ _ (unhide A) (unhide HLA).1 (unhide HLA).2 (unhide HLB).1 (unhide HLB).2).mono ?_
  rintro e w2 ⟨ua, ub, us, vs, rfl, hf2, -, hb2⟩
  replace HB := hide (below_then (unhide HB) hb2)
  replace A := hide ((unhide A).on hb2)
  replace B := hide ((unhide B).on hb2)
  have F := hide (hf2.at)
  clear hf2 hb2
  go_wp2_with fail
  refine (specSlotOk_any d _ _ w2 (unhide F)).mono ?_
  rintro e w3 ⟨rfl, hb3⟩
  clear F
  replace HB := hide (below_then (unhide HB) hb3)
  replace A := hide ((unhide A).on hb3)
  replace B := hide ((unhide B).on hb3)
  clear hb3
  have n0 : w3.cell? ⟨w.heap.size, 0, none⟩ = some (.int .i64 d.a.num) := (unhide B) 0 (by simp)
  have n1 : w3.cell? ⟨w.heap.size, 1, none⟩ = some (.int .i64 d.a.cnt) := (unhide B) 1 (by simp)
  have n2 : w3.cell? ⟨w.heap.size, 2, none⟩ = some (.slice a0 d.a.rows.length c0) := (unhide B) 2 (by simp)
  have n3 : w3.cell? ⟨w.heap.size, 3, none⟩ = some (.int .i64 d.b.num) := (unhide B) 3 (by simp)
  have n4 : w3.cell? ⟨w.heap.size, 4, none⟩ = some (.int .i64 d.b.cnt) := (unhide B) 4 (by simp)
  have n5 : w3.cell? ⟨w.heap.size, 5, none⟩ = some (.slice b0 d.b.rows.length e0) := (unhide B) 5 (by simp)
  go_wp2_with fail
  clear n0 n1 n2 n3 n4 n5
  refine (toSlotDisk_any d _ _ _ (unhide A) (unhide HLA).1 (unhide HLA).2 (unhide HLB).1 (unhide HLB).2).mono ?_
  rintro e w4 ⟨xa, xb, xs, ys, rfl, hf4, -, hb4⟩
  obtain ⟨a1, c1, rfl⟩ := hf4.a.at.sliced
  obtain ⟨b1, e1, rfl⟩ := hf4.b.at.sliced
  replace HB := hide (below_then (unhide HB) hb4)
  replace A := hide ((unhide A).on hb4)
  replace B := hide ((unhide B).on hb4)
  have F := hide (hf4.at)
  clear hf4 hb4
  have hx : Below w4.heap.size w4 (w4.alloc (.cells #[.int .i64 d.a.num, .int .i64 d.a.cnt, .slice a1 d.a.rows.length c1, .int .i64 d.b.num, .int .i64 d.b.cnt, .slice b1 d.b.rows.length e1] 27)) := (Below.refl _ _).alloc (Nat.le_refl _) _
  replace HB := hide (below_then (unhide HB) hx)
  replace A := hide ((unhide A).on hx)
  replace B := hide ((unhide B).on hx)
  replace F := hide ((unhide F).on hx)
  have X := hide (cellsAt_new w4 (diskCells d (.slice a1 d.a.rows.length c1) (.slice b1 d.b.rows.length e1)) 27)
  clear hx
  go_upto_region 7 with fail
  generalize (w4.alloc (.cells #[.int .i64 d.a.num, .int .i64 d.a.cnt, .slice a1 d.a.rows.length c1, .int .i64 d.b.num, .int .i64 d.b.cnt, .slice b1 d.b.rows.length e1] 27)) = W5 at *
  generalize w4.heap.size = q5 at *
  have n0 : W5.cell? ⟨q5, 0, none⟩ = some (.int .i64 d.a.num) := (unhide X) 0 (by simp)
  have n1 : W5.cell? ⟨q5, 1, none⟩ = some (.int .i64 d.a.cnt) := (unhide X) 1 (by simp)
  have n2 : W5.cell? ⟨q5, 2, none⟩ = some (.slice a1 d.a.rows.length c1) := (unhide X) 2 (by simp)
  have n3 : W5.cell? ⟨q5, 3, none⟩ = some (.int .i64 d.b.num) := (unhide X) 3 (by simp)
  have n4 : W5.cell? ⟨q5, 4, none⟩ = some (.int .i64 d.b.cnt) := (unhide X) 4 (by simp)
  have n5 : W5.cell? ⟨q5, 5, none⟩ = some (.slice b1 d.b.rows.length e1) := (unhide X) 5 (by simp)
  go_wp2_with fail
  clear n0 n1 n2 n3 n4 n5
  refine (implSlotOk_any d _ _ W5 (unhide F)).mono ?_
  rintro e w6 ⟨rfl, hb6⟩
  replace HB := hide (below_then (unhide HB) hb6)
  replace A := hide ((unhide A).on hb6)
  replace B := hide ((unhide B).on hb6)
  replace F := hide ((unhide F).on hb6)
  replace X := hide ((unhide X).on hb6)
  clear hb6
  generalize diskOk d = ok at *
  go_upto_region 10 with fail
  go_region_held3 (fun w' => w'.cell? ⟨q5, 0, none⟩ = some (.int .i64 d.a.num) ∧ w'.cell? ⟨q5, 1, none⟩ = some (.int .i64 d.a.cnt) ∧ w'.cell? ⟨q5, 2, none⟩ = some (.slice a1 d.a.rows.length c1) ∧ w'.cell? ⟨q5, 3, none⟩ = some (.int .i64 d.b.num) ∧ w'.cell? ⟨q5, 4, none⟩ = some (.int .i64 d.b.cnt) ∧ w'.cell? ⟨q5, 5, none⟩ = some (.slice b1 d.b.rows.length e1) ∧ w'.cell? ⟨w.heap.size, 0, none⟩ = some (.int .i64 d.a.num) ∧ w'.cell? ⟨w.heap.size, 1, none⟩ = some (.int .i64 d.a.cnt) ∧ w'.cell? ⟨w.heap.size, 2, none⟩ = some (.slice a0 d.a.rows.length c0) ∧ w'.cell? ⟨w.heap.size, 3, none⟩ = some (.int .i64 d.b.num) ∧ w'.cell? ⟨w.heap.size, 4, none⟩ = some (.int .i64 d.b.cnt) ∧ w'.cell? ⟨w.heap.size, 5, none⟩ = some (.slice b0 d.b.rows.length e0) ∧ Below w6.heap.size w6 w')
    ((go_split_ands; refine two_disks (unhide X) (unhide B) ?_; first | exact (Below.refl _ _).drew | exact below_then (by assumption) hba | exact below_then (by assumption) hbe))
    (first
      | (go_at_call 29; refine (toSlotDisk_any d _ _ _ ((unhide A).on (by go_split_ands; assumption)) (unhide HLA).1 (unhide HLA).2 (unhide HLB).1 (unhide HLB).2).mono ?_; rintro e wa ⟨ua, ub, usx, vsx, rfl, hfr, -, hba⟩; have hBa := below_then (a := w6) (by go_split_ands; assumption) hba)
      | (go_at_call 25; refine (eqSlotDisk_any d _ _ _ _ _ ((unhide F).on hBa) hfr.at).mono ?_; rintro e we ⟨rfl, hbe⟩; have hBe := below_then hBa hbe))
  go_wp2_with fail
  go_ret
  exact ⟨rfl, below_then (unhide HB) hBe⟩
end Go.Proofs.Ytocgfngcgekciaa
