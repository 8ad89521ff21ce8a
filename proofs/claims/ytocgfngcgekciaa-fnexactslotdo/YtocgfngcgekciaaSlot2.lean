/- spec.SlotNew; lists of lists as they grow. -/
import Derived.Test.YtocgfngcgekciaaSlot1
import Derived.Test.YtocgfngcgekciaaSRk
namespace Go.Proofs.Ytocgfngcgekciaa
open Go.RowKit
set_option linter.unusedVariables false
set_option linter.unusedSimpArgs false


theorem owns_cells {w : World} {base : Nat} {e : TypeId} {v : Value} {n : Nat} {us : List Value} (h : w.ownsRow base e 1 v n us) (hn : 0 < n) :
    ∃ g cap, v = .slice (some ⟨g, 0, none⟩) n cap ∧ n ≤ cap ∧ cap ≤ maxLen ∧ base ≤ g ∧ g < w.heap.size ∧ us.length = n ∧ ∀ i (hi : i < us.length), w.cell? ⟨g, i, none⟩ = some us[i] := by
  obtain ⟨hlen, ⟨rfl, h0⟩ | ⟨g, cap, cur, rfl, hN, hb, hl, hm, hs, ht⟩⟩ := h
  · omega
  · have hl1 : us.length = n := by omega
    refine ⟨g, cap, rfl, hl, hm, hN, (Array.getElem?_eq_some_iff.1 hb).1, hl1, fun i hi => ?_⟩
    have hr : w.rowIs g e (cap * 1) (fun i => cur.getD i default) := ⟨cur, hb, hs, fun i hi => by
      have h9 : i < cur.size := by omega
      rw [Array.getElem?_eq_getElem h9]
      simp [Array.getD, h9]⟩
    rw [hr.cell (by omega)]
    have h1 : us[i]? = some us[i] := List.getElem?_eq_getElem hi
    have h4 : us[i]? = some (cur.getD i default) := by
      rw [← ht, List.getElem?_take, if_pos (by omega), Array.getElem?_toList, Array.getElem?_eq_getElem (show i < cur.size by omega)]
      simp [Array.getD, show i < cur.size by omega]
    rw [h1] at h4
    exact h4.symm

/-- Values of empty lists. -/
def Empties (us : List Value) : Prop := ∀ u ∈ us, ∃ a c, u = .slice a 0 c

theorem grid_empties {w : World} {base : Nat} {e : TypeId} {v : Value} {us : List Value} (h : w.ownsRow base e 1 v 160 us) (hu : Empties us) : GridAt w v noRows := by
  obtain ⟨g, cap, rfl, hl, hm, _, _, hlen, hc⟩ := owns_cells h (by omega)
  refine ⟨_, cap, by rw [noRows_len], by rw [noRows_len]; exact hl, by rw [noRows_len]; unfold maxLen; omega, Or.inr ⟨g, 0, rfl, fun i hi => ?_⟩⟩
  have hi' : i < us.length := by rw [noRows_len] at hi; omega
  refine ⟨us[i], by rw [Nat.zero_add]; exact hc i hi', ?_⟩
  obtain ⟨a, c, hac⟩ := hu us[i] (List.getElem_mem hi')
  have h0 : noRows[i] = [] := List.getElem_replicate ..
  rw [h0, hac]
  exact ⟨a, c, rfl, Nat.zero_le _, Nat.zero_le _, Or.inl rfl⟩

abbrev zeroDisk : List Value := [.int .i64 0, .int .i64 0, .slice none 0 0, .int .i64 0, .int .i64 0, .slice none 0 0]
def zf : Nat → Value := fun i => zeroDisk.getD i undef

set_option maxRecDepth 100000 in
set_option maxHeartbeats 4000000 in
theorem specSlotNew_any (w : World) : Calls Try.prog 21 #[] w fun e w' => ∃ va vb, e = .returned (diskAgg noDisk va vb) ∧ DiskAt w' noDisk va vb ∧ Below w.heap.size w w' := by
  obtain ⟨iS, hiS, hz0, hz1, hz2⟩ := infoT_parts info_S1
  obtain ⟨W2, hW2⟩ : ∃ W2, W2 = (w.alloc (.cells #[.int .i64 0, .int .i64 0, .slice none 0 0, .int .i64 0, .int .i64 0, .slice none 0 0] 27)).alloc (.cells #[.int .i64 0, .int .i64 0, .slice none 0 0, .int .i64 0, .int .i64 0, .slice none 0 0] 27) := ⟨_, rfl⟩
  have hs1 : (w.alloc (.cells #[.int .i64 0, .int .i64 0, .slice none 0 0, .int .i64 0, .int .i64 0, .slice none 0 0] 27)).heap.size = w.heap.size + 1 := World.size_alloc _ _
  have hs2 : W2.heap.size = w.heap.size + 2 := by rw [hW2, World.size_alloc, hs1]
  have hb2 : Below w.heap.size w W2 := by rw [hW2]; exact ((Below.refl _ _).alloc (Nat.le_refl _) _).alloc (by rw [hs1]; omega) _
  have hr0 : W2.rowIs w.heap.size 27 6 zf := by
    have h := row_new w zeroDisk 27
    refine h.of_block ?_
    rw [hW2]
    exact ((Below.refl _ _).alloc (Nat.le_refl _) _).block w.heap.size (by rw [hs1]; omega)
  have hr1 : W2.rowIs (w.heap.size + 1) 27 6 zf := by
    have h := row_new (w.alloc (.cells zeroDisk.toArray 27)) zeroDisk 27
    rw [World.size_alloc] at h
    rw [hW2]
    exact h
  have hrk : RowKeep W2.heap.size w.heap.size (w.heap.size + 1) 27 6 (setF (setF zf 2 (.slice none 0 0)) 5 (.slice none 0 0)) w W2 W2 := ⟨hr1.congr (fun i hi => by
    by_cases e5 : i = 5
    · subst e5; simp [setF, zf]
    · by_cases e2 : i = 2
      · subst e2; simp [setF, zf]
      · simp [setF, e5, e2]), fun _ _ _ => rfl, Nat.le_refl _, hb2⟩
  have HRK := hide hrk
  have HR0 := hide hr0
  have HW2 := hide hW2
  have hq2 : w.heap.size + 1 < W2.heap.size := by omega
  have hbx2 : w.heap.size ≤ W2.heap.size := by omega
  have hBq : w.heap.size ≤ w.heap.size + 1 := by omega
  have HS2 := hide hs2
  clear hs1 hs2 hb2 hr0 hr1 hrk hW2
  go_enter Try.func21, Try.ntmps21
  go_wp2_with fail
  rw [← unhide HW2]
  clear HW2
  go_loopw [2] (fun i wy => ∃ (k : Nat) (a1 a2 : Option Addr) (c1 c2 : Nat) (us vs : List Value), k ≤ 160 ∧ i = .int .i64 k ∧ Hid (RowKeep W2.heap.size w.heap.size (w.heap.size + 1) 27 6 (setF (setF zf 2 (.slice a1 k c1)) 5 (.slice a2 k c2)) w W2 wy) ∧ Hid (wy.ownsRow W2.heap.size 28 1 (.slice a1 k c1) k us) ∧ Hid (wy.ownsRow W2.heap.size 28 1 (.slice a2 k c2) k vs) ∧ Hid (Empties us ∧ Empties vs) ∧ Hid (Apart (.slice a1 k c1) (.slice a2 k c2))) (fun i _ => 160 - (intOf i).toNat)
  case atStart => exact ⟨0, none, none, 0, 0, [], [], Nat.zero_le _, rfl, HRK, hide (World.ownsRow_nil _ _ _ _), hide (World.ownsRow_nil _ _ _ _), hide ⟨(fun u hu => by cases hu), (fun u hu => by cases hu)⟩, hide (fun g e _ => by cases e)⟩
  case round =>
    obtain ⟨k, a1, a2, c1, c2, us, vs, hk3, rfl, HV2, HO1, HO2, HE, HAP⟩ := hrel
    have hv2 := unhide HV2
    have hvs2 := hv2.size
    by_cases hlt3 : k < 160
    · have hkI : (k : Int) < 160 := by omega
      have c9 : wr.cell? ⟨w.heap.size + 1, 2, none⟩ = some (.slice a1 k c1) := by
        have e := hv2.row.cell (i := 2) (by omega)
        simpa [setF] using e
      have f9 : wr.frozen? ⟨w.heap.size + 1, 2, none⟩ = false := hv2.row.frozen 2
      have hbA0 : Below wr.heap.size wr (wr.alloc (.cells #[] 3)) := (Below.refl _ _).alloc (Nat.le_refl _) _
      have hbA : Below wr.heap.size wr ((wr.alloc (.cells #[] 3)).alloc (.cells #[.slice (some ⟨wr.heap.size, 0, none⟩) 0 0] 28)) := hbA0.alloc (by simp) _
      have hownA := ownsOn hbA (unhide HO1)
      have hnew := World.news_of_block (w := (wr.alloc (.cells #[] 3)).alloc (.cells #[.slice (some ⟨wr.heap.size, 0, none⟩) 0 0] 28)) (B := wr.heap.size + 1) (cs := #[.slice (some ⟨wr.heap.size, 0, none⟩) 0 0]) (t := 28) (fr := (0, 0)) (by
        have h := heap_alloc_new (wr.alloc (.cells #[] 3)) (.cells #[.slice (some ⟨wr.heap.size, 0, none⟩) 0 0] 28)
        rw [World.size_alloc] at h
        exact h)
      have HLT := hide (unhide HO1).lt
      have hqw : w.heap.size + 1 < wr.heap.size := by omega
      clear hv2
      go_upto_region 6 with (at_builtin; refine wpList_append_lies _ (by rfl) _ _ _ (by rfl) W2.heap.size 28 iS _ 1 24 slice_SS hiS hz0 hz1 hz2 (by rfl) (by omega) (.slice a1 k c1) k us (by rfl) hownA ⟨wr.heap.size + 1, 0, none⟩ 1 1 [.slice (some ⟨wr.heap.size, 0, none⟩) 0 0] (by rfl) (by rfl) hnew (by simp [Value.oneCell']) (by omega) (by unfold maxLen; omega) (by omega) (by simp; omega) (wr.heap.size + 1 + 1) (by simp) ?_; intro gg cap w1 hown1 hgrow hat hlt1; have kc := hgrow.cell (cell_on hbA c9) (fun e => by have := (unhide HLT (w.heap.size + 1) e.symm).1; omega); have kf : w1.frozen? ⟨w.heap.size + 1, 2, none⟩ = false := (by rw [hgrow.frozen_far ⟨w.heap.size + 1, 2, none⟩ (show w.heap.size + 1 < _ by simp; omega) (fun e => by have := (unhide HLT (w.heap.size + 1) e.symm).1; omega), hbA.frozen (p := ⟨w.heap.size + 1, 2, none⟩) hqw]; exact f9))
      have hs1 := ((unhide HV2).grown hq2 hbx2 hbA hgrow (fun g e => (unhide HLT g e).1)).set (j := 2) (u := .slice (some ⟨gg, 0, none⟩) (k + 1) cap) hBq
      have hse : setF (setF (setF zf 2 (.slice a1 k c1)) 5 (.slice a2 k c2)) 2 (.slice (some ⟨gg, 0, none⟩) (k + 1) cap) = setF (setF zf 2 (.slice (some ⟨gg, 0, none⟩) (k + 1) cap)) 5 (.slice a2 k c2) := setF_mid _ (by omega) _ _ _
      rw [hse] at hs1
      obtain ⟨ho2, hap2⟩ := two_lists (gg := gg) (j := 2) (u := .slice (some ⟨gg, 0, none⟩) (k + 1) cap) (m := k + 1) (cap := cap) (unhide HO2) (unhide HAP) hbA hgrow (by rcases hat with h | h <;> simp [h]) hq2
      have ho1 := ownsNew (j := 2) (u := .slice (some ⟨gg, 0, none⟩) (k + 1) cap) (q := w.heap.size + 1) hown1 (fun g e => (hown1.lt g e).1) hq2
      have HV3 := hide hs1
      have HO3 := hide ho1
      have HO4 := hide ho2
      have HAP2 := hide hap2
      have HE2 : Hid (Empties (us ++ [.slice (some ⟨wr.heap.size, 0, none⟩) 0 0])) := hide (fun u hu => by
        rcases List.mem_append.1 hu with h | h
        · exact (unhide HE).1 u h
        · simp at h; exact ⟨_, _, h⟩)
      clear hs1 ho1 ho2 hap2 hse hown1 hat hlt1 hgrow kc kf hownA hbA hbA0 hnew f9 c9 HV2 HO1 HO2 HAP HLT
      generalize (us ++ [Value.slice (some ⟨wr.heap.size, 0, none⟩) 0 0]) = us2 at *
      generalize w1.setCell ⟨w.heap.size + 1, 2, none⟩ (.slice (some ⟨gg, 0, none⟩) (k + 1) cap) = W3 at *
      have hv3 := unhide HV3
      have hvs3 := hv3.size
      have c10 : W3.cell? ⟨w.heap.size + 1, 5, none⟩ = some (.slice a2 k c2) := by
        have e := hv3.row.cell (i := 5) (by omega)
        simpa [setF] using e
      have f10 : W3.frozen? ⟨w.heap.size + 1, 5, none⟩ = false := hv3.row.frozen 5
      have hbA0 : Below W3.heap.size W3 (W3.alloc (.cells #[] 3)) := (Below.refl _ _).alloc (Nat.le_refl _) _
      have hbA : Below W3.heap.size W3 ((W3.alloc (.cells #[] 3)).alloc (.cells #[.slice (some ⟨W3.heap.size, 0, none⟩) 0 0] 28)) := hbA0.alloc (by simp) _
      have hownA := ownsOn hbA (unhide HO4)
      have hnew := World.news_of_block (w := (W3.alloc (.cells #[] 3)).alloc (.cells #[.slice (some ⟨W3.heap.size, 0, none⟩) 0 0] 28)) (B := W3.heap.size + 1) (cs := #[.slice (some ⟨W3.heap.size, 0, none⟩) 0 0]) (t := 28) (fr := (0, 0)) (by
        have h := heap_alloc_new (W3.alloc (.cells #[] 3)) (.cells #[.slice (some ⟨W3.heap.size, 0, none⟩) 0 0] 28)
        rw [World.size_alloc] at h
        exact h)
      have HLT := hide (unhide HO4).lt
      have hqw3 : w.heap.size + 1 < W3.heap.size := by omega
      clear hv3
      go_wp2_with (at_builtin; refine wpList_append_lies _ (by rfl) _ _ _ (by rfl) W2.heap.size 28 iS _ 1 24 slice_SS hiS hz0 hz1 hz2 (by rfl) (by omega) (.slice a2 k c2) k vs (by rfl) hownA ⟨W3.heap.size + 1, 0, none⟩ 1 1 [.slice (some ⟨W3.heap.size, 0, none⟩) 0 0] (by rfl) (by rfl) hnew (by simp [Value.oneCell']) (by omega) (by unfold maxLen; omega) (by omega) (by simp; omega) (W3.heap.size + 1 + 1) (by simp) ?_; intro g4 cap4 w4 hown4 hgrow4 hat4 hlt4; have kc := hgrow4.cell (cell_on hbA c10) (fun e => by have := (unhide HLT (w.heap.size + 1) e.symm).1; omega); have kf : w4.frozen? ⟨w.heap.size + 1, 5, none⟩ = false := (by rw [hgrow4.frozen_far ⟨w.heap.size + 1, 5, none⟩ (show w.heap.size + 1 < _ by simp; omega) (fun e => by have := (unhide HLT (w.heap.size + 1) e.symm).1; omega), hbA.frozen (p := ⟨w.heap.size + 1, 5, none⟩) hqw3]; exact f10); have hs4 := hide (((unhide HV3).grown hq2 hbx2 hbA hgrow4 (fun g e => (unhide HLT g e).1)).set (j := 5) (u := .slice (some ⟨g4, 0, none⟩) (k + 1) cap4) hBq); have htl := hide (two_lists (gg := g4) (j := 5) (u := .slice (some ⟨g4, 0, none⟩) (k + 1) cap4) (m := k + 1) (cap := cap4) (unhide HO3) (apart_symm (unhide HAP2)) hbA hgrow4 (by rcases hat4 with h | h <;> simp [h]) hq2); have ho4 := hide (ownsNew (j := 5) (u := .slice (some ⟨g4, 0, none⟩) (k + 1) cap4) (q := w.heap.size + 1) hown4 (fun g e => (hown4.lt g e).1) hq2); clear hown4 hat4 hlt4 hgrow4)
      go_roundw
      case rel =>
        refine ⟨k + 1, _, _, _, _, _, _, by omega, by go_num, hide ?_, hide (unhide htl).1, hide (unhide ho4), hide ⟨unhide HE2, fun u hu => ?_⟩, hide (apart_symm (unhide htl).2)⟩
        · have e := unhide hs4
          have hse : setF (setF (setF zf 2 (.slice (some ⟨gg, 0, none⟩) (k + 1) cap)) 5 (.slice a2 k c2)) 5 (.slice (some ⟨g4, 0, none⟩) (k + 1) cap4) = setF (setF zf 2 (.slice (some ⟨gg, 0, none⟩) (k + 1) cap)) 5 (.slice (some ⟨g4, 0, none⟩) (k + 1) cap4) := setF_same _ _ _ _
          rwa [hse] at e
        · rcases List.mem_append.1 hu with h | h
          · exact (unhide HE).2 u h
          · simp at h; exact ⟨_, _, h⟩
      case measure => simp [intOf]; omega
    · obtain rfl : k = 160 := by omega
      have y0 : wr.cell? ⟨w.heap.size + 1, 0, none⟩ = some (.int .i64 0) := by
        have e := hv2.row.cell (i := 0) (by omega)
        simpa [setF, zf] using e
      have y1 : wr.cell? ⟨w.heap.size + 1, 1, none⟩ = some (.int .i64 0) := by
        have e := hv2.row.cell (i := 1) (by omega)
        simpa [setF, zf] using e
      have y2 : wr.cell? ⟨w.heap.size + 1, 2, none⟩ = some (.slice a1 160 c1) := by
        have e := hv2.row.cell (i := 2) (by omega)
        simpa [setF, zf] using e
      have y3 : wr.cell? ⟨w.heap.size + 1, 3, none⟩ = some (.int .i64 0) := by
        have e := hv2.row.cell (i := 3) (by omega)
        simpa [setF, zf] using e
      have y4 : wr.cell? ⟨w.heap.size + 1, 4, none⟩ = some (.int .i64 0) := by
        have e := hv2.row.cell (i := 4) (by omega)
        simpa [setF, zf] using e
      have y5 : wr.cell? ⟨w.heap.size + 1, 5, none⟩ = some (.slice a2 160 c2) := by
        have e := hv2.row.cell (i := 5) (by omega)
        simpa [setF, zf] using e
      have hrr := (unhide HR0).of_block (hv2.keep w.heap.size (by omega) (by omega))
      have x0 : wr.cell? ⟨w.heap.size, 0, none⟩ = some (.int .i64 0) := hrr.cell (i := 0) (by omega)
      have z0 : wr.frozen? ⟨w.heap.size, 0, none⟩ = false := hrr.frozen 0
      have x1 : wr.cell? ⟨w.heap.size, 1, none⟩ = some (.int .i64 0) := hrr.cell (i := 1) (by omega)
      have z1 : wr.frozen? ⟨w.heap.size, 1, none⟩ = false := hrr.frozen 1
      have x2 : wr.cell? ⟨w.heap.size, 2, none⟩ = some (.slice none 0 0) := hrr.cell (i := 2) (by omega)
      have z2 : wr.frozen? ⟨w.heap.size, 2, none⟩ = false := hrr.frozen 2
      have x3 : wr.cell? ⟨w.heap.size, 3, none⟩ = some (.int .i64 0) := hrr.cell (i := 3) (by omega)
      have z3 : wr.frozen? ⟨w.heap.size, 3, none⟩ = false := hrr.frozen 3
      have x4 : wr.cell? ⟨w.heap.size, 4, none⟩ = some (.int .i64 0) := hrr.cell (i := 4) (by omega)
      have z4 : wr.frozen? ⟨w.heap.size, 4, none⟩ = false := hrr.frozen 4
      have x5 : wr.cell? ⟨w.heap.size, 5, none⟩ = some (.slice none 0 0) := hrr.cell (i := 5) (by omega)
      have z5 : wr.frozen? ⟨w.heap.size, 5, none⟩ = false := hrr.frozen 5
      have hrow := setVals_row [.int .i64 0, .int .i64 0, .slice a1 160 c1, .int .i64 0, .int .i64 0, .slice a2 160 c2] 0 wr _ hrr
      have v0 := hrow.cell (i := 0) (by omega)
      have v1 := hrow.cell (i := 1) (by omega)
      have v2 := hrow.cell (i := 2) (by omega)
      have v3 := hrow.cell (i := 3) (by omega)
      have v4 := hrow.cell (i := 4) (by omega)
      have v5 := hrow.cell (i := 5) (by omega)
      simp at v0 v1 v2 v3 v4 v5
      have V0 := hide v0
      have V1 := hide v1
      have V2 := hide v2
      have V3 := hide v3
      have V4 := hide v4
      have V5 := hide v5
      have HBF := hide (setVals_below (b := w.heap.size) [.int .i64 0, .int .i64 0, .slice a1 160 c1, .int .i64 0, .int .i64 0, .slice a2 160 c2] 0 wr hv2.bel (Nat.le_refl _))
      have ho1 := ownsKeep (unhide HO1) (w' := setVals wr w.heap.size 0 [.int .i64 0, .int .i64 0, .slice a1 160 c1, .int .i64 0, .int .i64 0, .slice a2 160 c2]) (fun g e _ => setVals_other _ _ _ _ (by have := ((unhide HO1).lt g e).1; omega))
      have ho2 := ownsKeep (unhide HO2) (w' := setVals wr w.heap.size 0 [.int .i64 0, .int .i64 0, .slice a1 160 c1, .int .i64 0, .int .i64 0, .slice a2 160 c2]) (fun g e _ => setVals_other _ _ _ _ (by have := ((unhide HO2).lt g e).1; omega))
      have HG1 := hide (grid_empties ho1 (unhide HE).1)
      have HG2 := hide (grid_empties ho2 (unhide HE).2)
      clear hrow v0 v1 v2 v3 v4 v5 ho1 ho2 hv2 hrr
      go_wp2_with fail
      show bodyPost _ _ _ _ _ (setVals wr w.heap.size 0 [.int .i64 0, .int .i64 0, .slice a1 160 c1, .int .i64 0, .int .i64 0, .slice a2 160 c2])
      clear x0 x1 x2 x3 x4 x5 z0 z1 z2 z3 z4 z5 y0 y1 y2 y3 y4 y5
      generalize setVals wr w.heap.size 0 [.int .i64 0, .int .i64 0, .slice a1 160 c1, .int .i64 0, .int .i64 0, .slice a2 160 c2] = W9 at *
      have v0 := unhide V0
      have v1 := unhide V1
      have v2 := unhide V2
      have v3 := unhide V3
      have v4 := unhide V4
      have v5 := unhide V5
      exact bodyPost_ret (v := diskAgg noDisk (.slice a1 160 c1) (.slice a2 160 c2)) (by simp [results, Try.results21, go_sem, noDisk, noSlot, v0, v1, v2, v3, v4, v5]) rfl ⟨_, _, rfl, ⟨unhide HG1, unhide HG2⟩, unhide HBF⟩
end Go.Proofs.Ytocgfngcgekciaa
