/- A sector of a disk at work is written; what a place asks for. -/
import Derived.Test.YtocgfngcgekciaaSWr1
import Derived.Test.YtocgfngcgekciaaGrid3
namespace Go.Proofs.Ytocgfngcgekciaa
open Go.RowKit
set_option linter.unusedVariables false
set_option linter.unusedSimpArgs false


set_option maxRecDepth 100000 in
set_option maxHeartbeats 4000000 in
theorem writeSector_false (w0 w : World) (p : Nat) (d : DiskV) (ga ca gb cb : Nat) (fa fb : Nat → Value) (k : Nat) (num cnt : Int) (data : List Int) (a : Option Addr) (c : Nat) (h : DiskW w0.heap.size w p d ga ca fa gb cb fb) (hb : Below w0.heap.size w0 w) (hk : k < d.a.rows.length) (hdat : NumsAt w (.slice a data.length c) data) :
    Calls Try.prog 82 #[.pointer (some ⟨p, 0, none⟩), .agg #[.bool false, .int .i64 (k : Int), .int .i64 num, .int .i64 cnt, .slice a data.length c]] w (Wrote w0 p (writeSectorD d false k data) ga ca gb cb) := by
  have hb0 : Below w.heap.size w (w.alloc (.cells #[.bool false, .int .i64 (k : Int), .int .i64 num, .int .i64 cnt, .slice a data.length c] 45)) := (Below.refl _ _).alloc (Nat.le_refl _) _
  have K := hide (cellsAt_new w [.bool false, .int .i64 (k : Int), .int .i64 num, .int .i64 cnt, .slice a data.length c] 45)
  have HQ := hide (show p < w.heap.size from h.row.lt)
  have HD := hide (h.on hb0)
  have HN := hide (below_then hb hb0)
  have HDAT := hide (hdat.on hb0)
  have HKL := hide hk
  clear hb0 h hb hdat hk
  go_enter Try.func82, Try.ntmps82
  go_upto_region 1 with fail
  generalize (w.alloc (.cells #[.bool false, .int .i64 (k : Int), .int .i64 num, .int .i64 cnt, .slice a data.length c] 45)) = W at *
  have m0 : W.cell? ⟨w.heap.size, 0, none⟩ = some (.bool false) := (unhide K) 0 (by simp)
  have m1 : W.cell? ⟨w.heap.size, 1, none⟩ = some (.int .i64 (k : Int)) := (unhide K) 1 (by simp)
  have m2 : W.cell? ⟨w.heap.size, 2, none⟩ = some (.int .i64 num) := (unhide K) 2 (by simp)
  have m3 : W.cell? ⟨w.heap.size, 3, none⟩ = some (.int .i64 cnt) := (unhide K) 3 (by simp)
  have m4 : W.cell? ⟨w.heap.size, 4, none⟩ = some (.slice a data.length c) := (unhide K) 4 (by simp)
  go_wp2_with fail
  refine (slotsFor_any p false k num cnt a data.length c W).mono ?_
  rintro r w1 ⟨rfl, hb1⟩
  clear m0 m1 m2 m3 m4
  replace K := hide ((unhide K).on hb1)
  replace HD := hide ((unhide HD).on hb1)
  replace HN := hide (below_then (unhide HN) hb1)
  replace HDAT := hide ((unhide HDAT).on hb1)
  clear hb1
  simp only [if_true, if_false, Bool.false_eq_true]
  generalize hq : w.heap.size = q at *
  have m4 : w1.cell? ⟨q, 4, none⟩ = some (.slice a data.length c) := (unhide K) 4 (by simp)
  go_wp2_with fail
  refine (sectorInForm_any _ data w1 (unhide HDAT)).mono ?_
  rintro r w' ⟨rfl, hw⟩
  obtain rfl := hw.symm
  clear hw m4
  cases hok : sectorOk data
  · go_wp2_with fail
    refine bodyPost_end (results_none rfl _ _ _) rfl ⟨rfl, ⟨fa, fb, ?_⟩, unhide HN⟩
    have e : writeSectorD d false k data = d := by simp [writeSectorD, hok]
    rw [e]
    exact unhide HD
  have HLEN : Hid (data.length ≤ 1048576) := hide (by
    unfold sectorOk at hok
    simp only [Bool.and_eq_true, decide_eq_true_eq] at hok
    omega)
  have HOK := hide hok
  clear hok
  go_upto_region 3 with fail
  have hkI : (k : Int) < (d.a.rows.length : Int) := by have := unhide HKL; omega
  have hk0 : (0 : Int) ≤ (k : Int) := by omega
  have HA : Hid (∀ w2, Below w1.heap.size w1 w2 → w2.cell? ⟨q, 1, none⟩ = some (.int .i64 (k : Int)) ∧ w2.cell? ⟨q, 4, none⟩ = some (.slice a data.length c) ∧ w2.cell? ⟨p, 2, none⟩ = some (gridV ga ca d.a.rows)) := hide (fun w2 h2 => ⟨((unhide K).on h2) 1 (by simp), ((unhide K).on h2) 4 (by simp), ((unhide HD).on h2).cells 2 (by simp)⟩)
  refine wp_region_last (L := 10) (S := fun w' : World => w'.cell? ⟨q, 1, none⟩ = some (.int .i64 (k : Int)) ∧ w'.cell? ⟨q, 4, none⟩ = some (.slice a data.length c) ∧ w'.cell? ⟨p, 2, none⟩ = some (gridV ga ca d.a.rows)) (by kernel_rfl) ?_
  have hHeld : (fun w' : World => w'.cell? ⟨q, 1, none⟩ = some (.int .i64 (k : Int)) ∧ w'.cell? ⟨q, 4, none⟩ = some (.slice a data.length c) ∧ w'.cell? ⟨p, 2, none⟩ = some (gridV ga ca d.a.rows)) w1.drew := (unhide HA) _ (Below.refl _ _).drew
  refine wpAnyL_take (i := 0) (v := ?_) (by kernel_rfl) rfl (by kernel_rfl) (by kernel_rfl) (by kernel_rfl) (fun _ _ _ h => h) hHeld (Or.inl ⟨by kernel_rfl, ?_⟩) ?_
  rotate_left
  · (intro w hSw; (try dsimp only at hSw); obtain ⟨s0, s1, s2⟩ := hSw; go_simp; try with_reducible rfl)
  refine wpAnyL_take (i := 1) (v := ?_) (by kernel_rfl) rfl (by kernel_rfl) (by kernel_rfl) (by kernel_rfl) (fun _ _ _ h => h) hHeld (Or.inl ⟨by kernel_rfl, ?_⟩) ?_
  rotate_left
  · (intro w hSw; (try dsimp only at hSw); obtain ⟨s0, s1, s2⟩ := hSw; go_simp; try with_reducible rfl)
  refine wpAnyL_take (i := 2) (v := ?_) (by kernel_rfl) rfl (by kernel_rfl) (by kernel_rfl) (by kernel_rfl) (fun _ _ _ h => h) hHeld (Or.inl ⟨by kernel_rfl, ?_⟩) ?_
  rotate_left
  · (intro w hSw; (try dsimp only at hSw); obtain ⟨s0, s1, s2⟩ := hSw; go_simp; try with_reducible rfl)
  refine wpAnyL_take (i := 3) (v := ?_) (by kernel_rfl) rfl (by kernel_rfl) (by kernel_rfl) (by kernel_rfl) (fun _ _ _ h => h) hHeld (Or.inl ⟨by kernel_rfl, ?_⟩) ?_
  rotate_left
  · (intro w hSw; (try dsimp only at hSw); obtain ⟨s0, s1, s2⟩ := hSw; go_simp; try with_reducible rfl)
  refine wpAnyL_take (i := 4) (v := ?_) (by kernel_rfl) rfl (by kernel_rfl) (by kernel_rfl) (by kernel_rfl) (fun _ _ _ h => h) hHeld (Or.inl ⟨by kernel_rfl, ?_⟩) ?_
  rotate_left
  · (intro w hSw; (try dsimp only at hSw); obtain ⟨s0, s1, s2⟩ := hSw; go_simp; try with_reducible rfl)
  refine wpAnyL_take (i := 5) (v := ?_) (by kernel_rfl) rfl (by kernel_rfl) (by kernel_rfl) (by kernel_rfl) (fun _ _ _ h => h) hHeld (Or.inl ⟨by kernel_rfl, ?_⟩) ?_
  rotate_left
  · (intro w hSw; (try dsimp only at hSw); obtain ⟨s0, s1, s2⟩ := hSw; go_simp; try with_reducible rfl)
  refine wpAnyL_take (i := 6) (v := ?_) (by kernel_rfl) rfl (by kernel_rfl) (by kernel_rfl) (by kernel_rfl) (fun _ _ _ h => h) hHeld (Or.inl ⟨by kernel_rfl, ?_⟩) ?_
  rotate_left
  · (intro w hSw; (try dsimp only at hSw); obtain ⟨s0, s1, s2⟩ := hSw; go_simp; try with_reducible rfl)
  refine wpAnyL_take (i := 7) (v := ?_) (by kernel_rfl) rfl (by kernel_rfl) (by kernel_rfl) (by kernel_rfl) (fun _ _ _ h => h) hHeld (Or.inl ⟨by kernel_rfl, ?_⟩) ?_
  rotate_left
  · (intro w hSw; (try dsimp only at hSw); obtain ⟨s0, s1, s2⟩ := hSw; go_simp; try with_reducible rfl)
  refine wpAnyL_one (i := 8) (by kernel_rfl) rfl (fun K hK => ?_)
  go_simp
  refine (copyListInt_any _ data _ ((unhide HDAT).on (Below.refl _ _).drew) (unhide HLEN)).mono ?_
  rintro e w2 ⟨v2, rfl, hf2, hb2⟩
  have hb12 := below_then (Below.refl _ _).drew hb2
  have HF2 : Hid (RowsFr w1.heap.size 3 1 w2 v2 (data.map fun z => [z])) := hide hf2
  have HB12 : Hid (Below w1.heap.size w1 w2) := hide hb12
  clear hf2 hb2
  (try go_simp)
  refine held_on hK ?_ (fun hHeld => ?_)
  · exact (unhide HA) _ hb12
  clear hK K hb12
  obtain ⟨g2, c2, hv2⟩ := RowsFr_sliced (unhide HF2)
  rw [List.length_map] at hv2
  subst hv2
  refine wpAnyL_one (i := 9) (by kernel_rfl) rfl (fun K hK => ?_)
  go_simp
  refine held_on hK ?_ (fun hHeld => ?_)
  · exact hHeld
  clear hK K
  have hcur := ((unhide HD).on (unhide HB12)).a.row.cell (i := k) (by have := (unhide HD).a.len; have := unhide HKL; omega)
  have hfro := ((unhide HD).on (unhide HB12)).a.row.frozen k
  refine wpAnyL_end (by kernel_rfl) rfl (fun K hK => ?_)
  go_simp
  refine hK.out _ _ ?_
  clear hK K
  refine wpAnyL_done (by kernel_rfl) ?_ _
  go_wp2_with fail
  refine bodyPost_end (results_none rfl _ _ _) rfl ?_
  show Wrote w0 p (writeSectorD d false k data) ga ca gb cb _ (w2.setCell ⟨ga, k, none⟩ (.slice g2 data.length c2))
  have e : writeSectorD d false k data = sectorD d false k data := by simp [writeSectorD, unhide HOK]
  rw [e]
  exact ⟨rfl, ⟨_, _, (unhide HD).putA (unhide HKL) (unhide HB12) (unhide HN).size (unhide HF2)⟩, setVals_below [.slice g2 data.length c2] k w2 (below_then (unhide HN) (unhide HB12)) (unhide HD).a.lo⟩

set_option maxRecDepth 100000 in
set_option maxHeartbeats 4000000 in
theorem writeSector_true (w0 w : World) (p : Nat) (d : DiskV) (ga ca gb cb : Nat) (fa fb : Nat → Value) (k : Nat) (num cnt : Int) (data : List Int) (a : Option Addr) (c : Nat) (h : DiskW w0.heap.size w p d ga ca fa gb cb fb) (hb : Below w0.heap.size w0 w) (hk : k < d.b.rows.length) (hdat : NumsAt w (.slice a data.length c) data) :
    Calls Try.prog 82 #[.pointer (some ⟨p, 0, none⟩), .agg #[.bool true, .int .i64 (k : Int), .int .i64 num, .int .i64 cnt, .slice a data.length c]] w (Wrote w0 p (writeSectorD d true k data) ga ca gb cb) := by
  have hb0 : Below w.heap.size w (w.alloc (.cells #[.bool true, .int .i64 (k : Int), .int .i64 num, .int .i64 cnt, .slice a data.length c] 45)) := (Below.refl _ _).alloc (Nat.le_refl _) _
  have K := hide (cellsAt_new w [.bool true, .int .i64 (k : Int), .int .i64 num, .int .i64 cnt, .slice a data.length c] 45)
  have HQ := hide (show p < w.heap.size from h.row.lt)
  have HD := hide (h.on hb0)
  have HN := hide (below_then hb hb0)
  have HDAT := hide (hdat.on hb0)
  have HKL := hide hk
  clear hb0 h hb hdat hk
  go_enter Try.func82, Try.ntmps82
  go_upto_region 1 with fail
  generalize (w.alloc (.cells #[.bool true, .int .i64 (k : Int), .int .i64 num, .int .i64 cnt, .slice a data.length c] 45)) = W at *
  have m0 : W.cell? ⟨w.heap.size, 0, none⟩ = some (.bool true) := (unhide K) 0 (by simp)
  have m1 : W.cell? ⟨w.heap.size, 1, none⟩ = some (.int .i64 (k : Int)) := (unhide K) 1 (by simp)
  have m2 : W.cell? ⟨w.heap.size, 2, none⟩ = some (.int .i64 num) := (unhide K) 2 (by simp)
  have m3 : W.cell? ⟨w.heap.size, 3, none⟩ = some (.int .i64 cnt) := (unhide K) 3 (by simp)
  have m4 : W.cell? ⟨w.heap.size, 4, none⟩ = some (.slice a data.length c) := (unhide K) 4 (by simp)
  go_wp2_with fail
  refine (slotsFor_any p true k num cnt a data.length c W).mono ?_
  rintro r w1 ⟨rfl, hb1⟩
  clear m0 m1 m2 m3 m4
  replace K := hide ((unhide K).on hb1)
  replace HD := hide ((unhide HD).on hb1)
  replace HN := hide (below_then (unhide HN) hb1)
  replace HDAT := hide ((unhide HDAT).on hb1)
  clear hb1
  simp only [if_true, if_false, Bool.false_eq_true]
  generalize hq : w.heap.size = q at *
  have m4 : w1.cell? ⟨q, 4, none⟩ = some (.slice a data.length c) := (unhide K) 4 (by simp)
  go_wp2_with fail
  refine (sectorInForm_any _ data w1 (unhide HDAT)).mono ?_
  rintro r w' ⟨rfl, hw⟩
  obtain rfl := hw.symm
  clear hw m4
  cases hok : sectorOk data
  · go_wp2_with fail
    refine bodyPost_end (results_none rfl _ _ _) rfl ⟨rfl, ⟨fa, fb, ?_⟩, unhide HN⟩
    have e : writeSectorD d true k data = d := by simp [writeSectorD, hok]
    rw [e]
    exact unhide HD
  have HLEN : Hid (data.length ≤ 1048576) := hide (by
    unfold sectorOk at hok
    simp only [Bool.and_eq_true, decide_eq_true_eq] at hok
    omega)
  have HOK := hide hok
  clear hok
  go_upto_region 3 with fail
  have hkI : (k : Int) < (d.b.rows.length : Int) := by have := unhide HKL; omega
  have hk0 : (0 : Int) ≤ (k : Int) := by omega
  have HA : Hid (∀ w2, Below w1.heap.size w1 w2 → w2.cell? ⟨q, 1, none⟩ = some (.int .i64 (k : Int)) ∧ w2.cell? ⟨q, 4, none⟩ = some (.slice a data.length c) ∧ w2.cell? ⟨p, 5, none⟩ = some (gridV gb cb d.b.rows)) := hide (fun w2 h2 => ⟨((unhide K).on h2) 1 (by simp), ((unhide K).on h2) 4 (by simp), ((unhide HD).on h2).cells 5 (by simp)⟩)
  refine wp_region_last (L := 10) (S := fun w' : World => w'.cell? ⟨q, 1, none⟩ = some (.int .i64 (k : Int)) ∧ w'.cell? ⟨q, 4, none⟩ = some (.slice a data.length c) ∧ w'.cell? ⟨p, 5, none⟩ = some (gridV gb cb d.b.rows)) (by kernel_rfl) ?_
  have hHeld : (fun w' : World => w'.cell? ⟨q, 1, none⟩ = some (.int .i64 (k : Int)) ∧ w'.cell? ⟨q, 4, none⟩ = some (.slice a data.length c) ∧ w'.cell? ⟨p, 5, none⟩ = some (gridV gb cb d.b.rows)) w1.drew := (unhide HA) _ (Below.refl _ _).drew
  refine wpAnyL_take (i := 0) (v := ?_) (by kernel_rfl) rfl (by kernel_rfl) (by kernel_rfl) (by kernel_rfl) (fun _ _ _ h => h) hHeld (Or.inl ⟨by kernel_rfl, ?_⟩) ?_
  rotate_left
  · (intro w hSw; (try dsimp only at hSw); obtain ⟨s0, s1, s2⟩ := hSw; go_simp; try with_reducible rfl)
  refine wpAnyL_take (i := 1) (v := ?_) (by kernel_rfl) rfl (by kernel_rfl) (by kernel_rfl) (by kernel_rfl) (fun _ _ _ h => h) hHeld (Or.inl ⟨by kernel_rfl, ?_⟩) ?_
  rotate_left
  · (intro w hSw; (try dsimp only at hSw); obtain ⟨s0, s1, s2⟩ := hSw; go_simp; try with_reducible rfl)
  refine wpAnyL_take (i := 2) (v := ?_) (by kernel_rfl) rfl (by kernel_rfl) (by kernel_rfl) (by kernel_rfl) (fun _ _ _ h => h) hHeld (Or.inl ⟨by kernel_rfl, ?_⟩) ?_
  rotate_left
  · (intro w hSw; (try dsimp only at hSw); obtain ⟨s0, s1, s2⟩ := hSw; go_simp; try with_reducible rfl)
  refine wpAnyL_take (i := 3) (v := ?_) (by kernel_rfl) rfl (by kernel_rfl) (by kernel_rfl) (by kernel_rfl) (fun _ _ _ h => h) hHeld (Or.inl ⟨by kernel_rfl, ?_⟩) ?_
  rotate_left
  · (intro w hSw; (try dsimp only at hSw); obtain ⟨s0, s1, s2⟩ := hSw; go_simp; try with_reducible rfl)
  refine wpAnyL_take (i := 4) (v := ?_) (by kernel_rfl) rfl (by kernel_rfl) (by kernel_rfl) (by kernel_rfl) (fun _ _ _ h => h) hHeld (Or.inl ⟨by kernel_rfl, ?_⟩) ?_
  rotate_left
  · (intro w hSw; (try dsimp only at hSw); obtain ⟨s0, s1, s2⟩ := hSw; go_simp; try with_reducible rfl)
  refine wpAnyL_take (i := 5) (v := ?_) (by kernel_rfl) rfl (by kernel_rfl) (by kernel_rfl) (by kernel_rfl) (fun _ _ _ h => h) hHeld (Or.inl ⟨by kernel_rfl, ?_⟩) ?_
  rotate_left
  · (intro w hSw; (try dsimp only at hSw); obtain ⟨s0, s1, s2⟩ := hSw; go_simp; try with_reducible rfl)
  refine wpAnyL_take (i := 6) (v := ?_) (by kernel_rfl) rfl (by kernel_rfl) (by kernel_rfl) (by kernel_rfl) (fun _ _ _ h => h) hHeld (Or.inl ⟨by kernel_rfl, ?_⟩) ?_
  rotate_left
  · (intro w hSw; (try dsimp only at hSw); obtain ⟨s0, s1, s2⟩ := hSw; go_simp; try with_reducible rfl)
  refine wpAnyL_take (i := 7) (v := ?_) (by kernel_rfl) rfl (by kernel_rfl) (by kernel_rfl) (by kernel_rfl) (fun _ _ _ h => h) hHeld (Or.inl ⟨by kernel_rfl, ?_⟩) ?_
  rotate_left
  · (intro w hSw; (try dsimp only at hSw); obtain ⟨s0, s1, s2⟩ := hSw; go_simp; try with_reducible rfl)
  refine wpAnyL_one (i := 8) (by kernel_rfl) rfl (fun K hK => ?_)
  go_simp
  refine (copyListInt_any _ data _ ((unhide HDAT).on (Below.refl _ _).drew) (unhide HLEN)).mono ?_
  rintro e w2 ⟨v2, rfl, hf2, hb2⟩
  have hb12 := below_then (Below.refl _ _).drew hb2
  have HF2 : Hid (RowsFr w1.heap.size 3 1 w2 v2 (data.map fun z => [z])) := hide hf2
  have HB12 : Hid (Below w1.heap.size w1 w2) := hide hb12
  clear hf2 hb2
  (try go_simp)
  refine held_on hK ?_ (fun hHeld => ?_)
  · exact (unhide HA) _ hb12
  clear hK K hb12
  obtain ⟨g2, c2, hv2⟩ := RowsFr_sliced (unhide HF2)
  rw [List.length_map] at hv2
  subst hv2
  refine wpAnyL_one (i := 9) (by kernel_rfl) rfl (fun K hK => ?_)
  go_simp
  refine held_on hK ?_ (fun hHeld => ?_)
  · exact hHeld
  clear hK K
  have hcur := ((unhide HD).on (unhide HB12)).b.row.cell (i := k) (by have := (unhide HD).b.len; have := unhide HKL; omega)
  have hfro := ((unhide HD).on (unhide HB12)).b.row.frozen k
  refine wpAnyL_end (by kernel_rfl) rfl (fun K hK => ?_)
  go_simp
  refine hK.out _ _ ?_
  clear hK K
  refine wpAnyL_done (by kernel_rfl) ?_ _
  go_wp2_with fail
  refine bodyPost_end (results_none rfl _ _ _) rfl ?_
  show Wrote w0 p (writeSectorD d true k data) ga ca gb cb _ (w2.setCell ⟨gb, k, none⟩ (.slice g2 data.length c2))
  have e : writeSectorD d true k data = sectorD d true k data := by simp [writeSectorD, unhide HOK]
  rw [e]
  exact ⟨rfl, ⟨_, _, (unhide HD).putB (unhide HKL) (unhide HB12) (unhide HN).size (unhide HF2)⟩, setVals_below [.slice g2 data.length c2] k w2 (below_then (unhide HN) (unhide HB12)) (unhide HD).b.lo⟩

theorem writeNothing_any (w0 w : World) (p : Nat) (d : DiskV) (ga ca gb cb : Nat) (fa fb : Nat → Value) (sec : Bool) (sct num cnt : Int) (a : Option Addr) (n c : Nat) (h : DiskW w0.heap.size w p d ga ca fa gb cb fb) (hb : Below w0.heap.size w0 w) :
    Calls Try.prog 83 #[.pointer (some ⟨p, 0, none⟩), .agg #[.bool sec, .int .i64 sct, .int .i64 num, .int .i64 cnt, .slice a n c]] w (Wrote w0 p d ga ca gb cb) := by
  have hb0 : Below w.heap.size w (w.alloc (.cells #[.bool sec, .int .i64 sct, .int .i64 num, .int .i64 cnt, .slice a n c] 45)) := (Below.refl _ _).alloc (Nat.le_refl _) _
  have HEND : Hid (Wrote w0 p d ga ca gb cb (.returned (.tuple #[])) (w.alloc (.cells #[.bool sec, .int .i64 sct, .int .i64 num, .int .i64 cnt, .slice a n c] 45))) := hide ⟨rfl, ⟨fa, fb, h.on hb0⟩, below_then hb hb0⟩
  clear hb0 h hb
  go_enter Try.func83, Try.ntmps83
  go_wp2_with fail
  exact bodyPost_end (results_none rfl _ _ _) rfl (unhide HEND)

/-- What a place asks for. -/
def writerOf (p : Nat) (sct : Int) : Value := if sct = -1 then .func (.func 81) #[.pointer (some ⟨p, 0, none⟩)] #[] else if inR 0 159 sct then .func (.func 82) #[.pointer (some ⟨p, 0, none⟩)] #[] else .func (.func 83) #[.pointer (some ⟨p, 0, none⟩)] #[]
theorem writeFor_any (p : Nat) (sct : Int) (w : World) :
    Calls Try.prog 57 #[.pointer (some ⟨p, 0, none⟩), .int .i64 sct] w fun e w' => e = .returned (writerOf p sct) ∧ w' = w := by
  go_enter Try.func57, Try.ntmps57
  by_cases h1 : sct = -1
  · have e1 : (sct == -1) = true := by simp [h1]
    have HR := hide (show writerOf p sct = .func (.func 81) #[.pointer (some ⟨p, 0, none⟩)] #[] by simp [writerOf, h1])
    clear h1
    go_wp2_with fail
    go_ret
    exact ⟨by rw [unhide HR]; rfl, rfl⟩
  · have e1 : (sct == -1) = false := by simp [h1]
    have HR := hide h1
    clear h1
    go_wp2_with fail
    refine (within_any sct 0 159 w).mono ?_
    rintro e w' ⟨rfl, hw⟩
    obtain rfl := hw.symm
    cases h2 : inR 0 159 sct
    · have HR2 := hide (show writerOf p sct = .func (.func 83) #[.pointer (some ⟨p, 0, none⟩)] #[] by simp [writerOf, unhide HR, h2])
      go_wp2_with fail
      go_ret
      exact ⟨by rw [unhide HR2]; rfl, rfl⟩
    · have HR2 := hide (show writerOf p sct = .func (.func 82) #[.pointer (some ⟨p, 0, none⟩)] #[] by simp [writerOf, unhide HR, h2])
      go_wp2_with fail
      go_ret
      exact ⟨by rw [unhide HR2]; rfl, rfl⟩
end Go.Proofs.Ytocgfngcgekciaa
