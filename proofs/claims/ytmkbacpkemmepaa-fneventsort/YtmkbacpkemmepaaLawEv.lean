/- The walk of laws.FnEventSort: it answers true. -/
import Derived.Test.YtmkbacpkemmepaaDrawEs
import Derived.Deep.RegionHeld3
namespace Go.Proofs.Ytmkbacpkemmepaa.E
open Go.RowKit
set_option linter.unusedVariables false
set_option linter.unusedSimpArgs false

theorem RowsFr_cells {N t n : Nat} {w : World} {v : Value} {rs : List (List Int)} (h : RowsFr N t n w v rs) (hne : 0 < rs.length) : ∃ g cap, v = .slice (some ⟨g, 0, none⟩) rs.length cap ∧ rs.length ≤ cap ∧ cap ≤ maxLen ∧ ∀ i (hi : i < rs.length) j, j < n → w.cell? ⟨g, i * n + j, none⟩ = some (.int .i64 (rs[i].getD j 0)) := by
  obtain ⟨g, cap, h1, h2, h3, h4, _⟩ := h.own (by intro e; subst e; simp at hne)
  exact ⟨g, cap, h1, h2, h3, h4⟩

theorem rev_step (es : List EvV) (m : Nat) (hm : m < es.length) : (es.drop m).reverse = (es.drop (m + 1)).reverse ++ [es[m]] := by
  rw [List.drop_eq_getElem_cons hm, List.reverse_cons]

theorem sLess_of {W w' : World} {g m n : Nat} {x y : EvV} (A : ∀ j, j < 7 → W.cell? ⟨g, m * 7 + j, none⟩ = some (.int .i64 ((evRow x).getD j 0))) (B : ∀ j, j < 7 → W.cell? ⟨g, n + j, none⟩ = some (.int .i64 ((evRow y).getD j 0))) (hb : Below W.heap.size W w') :
    w'.cell? ⟨g, m * 7, none⟩ = some (.int .i64 x.time) ∧ w'.cell? ⟨g, m * 7 + 1, none⟩ = some (.int .i64 x.to) ∧ w'.cell? ⟨g, m * 7 + 2, none⟩ = some (.int .i64 x.src) ∧ w'.cell? ⟨g, m * 7 + 3, none⟩ = some (.int .i64 x.count) ∧ w'.cell? ⟨g, m * 7 + 4, none⟩ = some (.int .i64 x.n) ∧ w'.cell? ⟨g, m * 7 + 5, none⟩ = some (.int .i64 x.kind) ∧ w'.cell? ⟨g, m * 7 + 6, none⟩ = some (.int .i64 x.arg) ∧ w'.cell? ⟨g, n, none⟩ = some (.int .i64 y.time) ∧ w'.cell? ⟨g, n + 1, none⟩ = some (.int .i64 y.to) ∧ w'.cell? ⟨g, n + 2, none⟩ = some (.int .i64 y.src) ∧ w'.cell? ⟨g, n + 3, none⟩ = some (.int .i64 y.count) ∧ w'.cell? ⟨g, n + 4, none⟩ = some (.int .i64 y.n) ∧ w'.cell? ⟨g, n + 5, none⟩ = some (.int .i64 y.kind) ∧ w'.cell? ⟨g, n + 6, none⟩ = some (.int .i64 y.arg) ∧ Below W.heap.size W w' :=
  ⟨cell_on hb (A 0 (by omega)), cell_on hb (A 1 (by omega)), cell_on hb (A 2 (by omega)), cell_on hb (A 3 (by omega)), cell_on hb (A 4 (by omega)), cell_on hb (A 5 (by omega)), cell_on hb (A 6 (by omega)), cell_on hb (B 0 (by omega)), cell_on hb (B 1 (by omega)), cell_on hb (B 2 (by omega)), cell_on hb (B 3 (by omega)), cell_on hb (B 4 (by omega)), cell_on hb (B 5 (by omega)), cell_on hb (B 6 (by omega)), hb⟩

theorem c7_on {W V : World} {b o : Nat} {x : EvV} (h : W.cell? ⟨b, o, none⟩ = some (.int .i64 x.time) ∧ W.cell? ⟨b, o + 1, none⟩ = some (.int .i64 x.to) ∧ W.cell? ⟨b, o + 2, none⟩ = some (.int .i64 x.src) ∧ W.cell? ⟨b, o + 3, none⟩ = some (.int .i64 x.count) ∧ W.cell? ⟨b, o + 4, none⟩ = some (.int .i64 x.n) ∧ W.cell? ⟨b, o + 5, none⟩ = some (.int .i64 x.kind) ∧ W.cell? ⟨b, o + 6, none⟩ = some (.int .i64 x.arg)) (hb : Below W.heap.size W V) : V.cell? ⟨b, o, none⟩ = some (.int .i64 x.time) ∧ V.cell? ⟨b, o + 1, none⟩ = some (.int .i64 x.to) ∧ V.cell? ⟨b, o + 2, none⟩ = some (.int .i64 x.src) ∧ V.cell? ⟨b, o + 3, none⟩ = some (.int .i64 x.count) ∧ V.cell? ⟨b, o + 4, none⟩ = some (.int .i64 x.n) ∧ V.cell? ⟨b, o + 5, none⟩ = some (.int .i64 x.kind) ∧ V.cell? ⟨b, o + 6, none⟩ = some (.int .i64 x.arg) :=
  ⟨cell_on hb h.1, cell_on hb h.2.1, cell_on hb h.2.2.1, cell_on hb h.2.2.2.1, cell_on hb h.2.2.2.2.1, cell_on hb h.2.2.2.2.2.1, cell_on hb h.2.2.2.2.2.2⟩

theorem c7_of {W : World} {b o : Nat} {x : EvV} (h : ∀ j, j < 7 → W.cell? ⟨b, o + j, none⟩ = some (.int .i64 ((evRow x).getD j 0))) : W.cell? ⟨b, o, none⟩ = some (.int .i64 x.time) ∧ W.cell? ⟨b, o + 1, none⟩ = some (.int .i64 x.to) ∧ W.cell? ⟨b, o + 2, none⟩ = some (.int .i64 x.src) ∧ W.cell? ⟨b, o + 3, none⟩ = some (.int .i64 x.count) ∧ W.cell? ⟨b, o + 4, none⟩ = some (.int .i64 x.n) ∧ W.cell? ⟨b, o + 5, none⟩ = some (.int .i64 x.kind) ∧ W.cell? ⟨b, o + 6, none⟩ = some (.int .i64 x.arg) :=
  ⟨h 0 (by omega), h 1 (by omega), h 2 (by omega), h 3 (by omega), h 4 (by omega), h 5 (by omega), h 6 (by omega)⟩

set_option maxRecDepth 100000 in
set_option maxHeartbeats 2000000 in
theorem lawEventSortD_walk (v : Value) (zs : List Int) (w : World) (h : BytesAt w v zs) :
    Calls Try.prog 4 #[v] w fun e w' => e = .returned (.bool true) ∧ Below w.heap.size w w' := by
  obtain ⟨i7, hi7, hz70, hz71, hz72⟩ := infoT_parts infoT_EvH
  have S := evLess_strict
  have HH := hide h
  obtain ⟨ad, cap, hv, hlc, hmx, _⟩ := h
  subst hv
  unfold maxLen at hmx
  by_cases hbig : 1048576 < zs.length
  · have hbI : (1048576 : Int) < (zs.length : Int) := by omega
    go_enter Try.func4, Try.ntmps4
    go_wp2_with fail
    go_ret
    exact ⟨rfl, Below.refl _ _⟩
  have hbI : ¬ (1048576 : Int) < (zs.length : Int) := by omega
  go_enter Try.func4, Try.ntmps4
  go_wp2_with fail
  refine (DrawEventSort_any _ zs w (unhide HH)).mono ?_
  rintro e w1 ⟨vl, es, rfl, hel, hr1, hb1⟩
  have HR1 := hide hr1
  have HB1 := hide hb1
  clear hr1 hb1
  go_wp2_with fail
  refine (specEventSort_any S vl es w1 (unhide HR1).at (by omega)).mono ?_
  rintro e w2 ⟨v2, ss, rfl, ha2, hp2, hr2, hb2⟩
  have HUP := hide ha2
  have HME := hide hp2
  have HR2 := hide hr2
  have HR12 := hide ((unhide HR1).on hb2)
  have HB2 := hide (below_then (unhide HB1) hb2)
  clear ha2 hp2 hr2 hb2 HR1 HB1
  go_wp2_with fail
  refine (implEventSort_any S vl es w2 (unhide HR12).at (by omega)).mono ?_
  rintro e w3 ⟨v3, ss3, rfl, ha3, hp3, hl3, hr3, hb3⟩
  obtain rfl : ss3 = ss := up_unique S ha3 (unhide HUP) (fun a => (hp3 a).trans ((unhide HME) a).symm)
  have HR3 := hide hr3
  have HR13 := hide ((unhide HR12).on hb3)
  have HR23 := hide ((unhide HR2).on hb3)
  have HB3 := hide (below_then (unhide HB2) hb3)
  have hsl : ss3.length ≤ 14 := by omega
  clear ha3 hp3 hl3 hr3 hb3 HR12 HR2 HB2
  go_wp2_with fail
  refine (ltEvents_any v3 v2 _ w3 (unhide HR3).at (unhide HR23).at).mono ?_
  rintro e w4 ⟨rfl, hb4⟩
  have HR34 := hide ((unhide HR3).on hb4)
  have HR14 := hide ((unhide HR13).on hb4)
  have HB4 := hide (below_then (unhide HB3) hb4)
  clear hb4 HR3 HR13 HR23 HB3
  obtain ⟨la, lc, hvl⟩ := (unhide HR14).sliced
  obtain ⟨xa, xc, hvx⟩ := (unhide HR34).sliced
  rw [List.length_map] at hvl hvx
  subst hvl hvx
  have hbe : Below w4.heap.size w4 (w4.alloc (.cells #[] 24)) := (Below.refl _ _).alloc (Nat.le_refl _) _
  have ho5 : EvOwn w4.heap.size (w4.alloc (.cells #[] 24)) w4.heap.size 0 [] := RowsFr.of_owns (fun r hr => by simp at hr) (World.ownsRow_lit w4 #[] 0 (Nat.le_refl _) (Nat.zero_le _) rfl)
  have HO5 := hide ho5
  have HBE := hide hbe
  clear hbe ho5
  go_wp2_with fail
  generalize w4.alloc (.cells #[] 24) = W5 at *
  go_loopw [6, 7] (fun l i wr => ∃ (n g cp : Nat) (j : Int) (bs : List EvV), n ≤ es.length ∧ i = .int .i64 j ∧ Hid (j = (n : Int) - 1) ∧ -1 ≤ j ∧ j < es.length ∧ l = .slice (some ⟨g, 0, none⟩) bs.length cp ∧ bs.length ≤ 14 ∧ Hid (bs = (es.drop n).reverse) ∧ Hid (EvOwn w4.heap.size wr g cp bs) ∧ Hid (Below w4.heap.size w4 wr)) (fun _ i _ => (intOf i + 1).toNat)
  case atStart => exact ⟨es.length, w4.heap.size, 0, (es.length : Int) - 1, [], Nat.le_refl _, by simp, hide rfl, by omega, by omega, rfl, by simp, hide (by simp), HO5, HBE⟩
  case round =>
    obtain ⟨n, g, cp, j, bs, hn, rfl, HJ, hj1, hj2, rfl, hbl, HBS, HO, HB⟩ := hrel
    by_cases hj0 : 0 ≤ j
    · obtain ⟨m, rfl⟩ := Int.eq_ofNat_of_zero_le hj0
      have hnm : n = m + 1 := by have := unhide HJ; omega
      subst hnm
      have hm : m < es.length := by omega
      have hmI : (m : Int) < (es.length : Int) := by omega
      obtain ⟨lg, lcap, hlv, hlc1, _, hcs⟩ := RowsFr_cells (unhide HR14) (by rw [List.length_map]; omega)
      rw [List.length_map] at hlv
      simp only [Value.slice.injEq] at hlv
      obtain ⟨rfl, _, rfl⟩ := hlv
      have hcm := hcs m (by rw [List.length_map]; exact hm)
      rw [List.getElem_map] at hcm
      clear hcs
      have HXI : Hid (es[m] ∈ es) := hide (List.getElem_mem hm)
      have HREV : Hid ((es.drop m).reverse = (es.drop (m + 1)).reverse ++ [es[m]]) := hide (rev_step es m hm)
      generalize es[m] = x at *
      have HPX : Hid (w4.cell? ⟨lg, m * 7, none⟩ = some (.int .i64 x.time) ∧ w4.cell? ⟨lg, m * 7 + 1, none⟩ = some (.int .i64 x.to) ∧ w4.cell? ⟨lg, m * 7 + 2, none⟩ = some (.int .i64 x.src) ∧ w4.cell? ⟨lg, m * 7 + 3, none⟩ = some (.int .i64 x.count) ∧ w4.cell? ⟨lg, m * 7 + 4, none⟩ = some (.int .i64 x.n) ∧ w4.cell? ⟨lg, m * 7 + 5, none⟩ = some (.int .i64 x.kind) ∧ w4.cell? ⟨lg, m * 7 + 6, none⟩ = some (.int .i64 x.arg)) := hide (c7_of hcm)
      clear hcm
      obtain ⟨p0, p1, p2, p3, p4, p5, p6⟩ := c7_on (unhide HPX) (unhide HB)
      have hbA : Below wr.heap.size wr (wr.alloc (.cells #[.int .i64 x.time, .int .i64 x.to, .int .i64 x.src, .int .i64 x.count, .int .i64 x.n, .int .i64 x.kind, .int .i64 x.arg] 24)) := (Below.refl _ _).alloc (Nat.le_refl _) _
      have hownA : (wr.alloc (.cells #[.int .i64 x.time, .int .i64 x.to, .int .i64 x.src, .int .i64 x.count, .int .i64 x.n, .int .i64 x.kind, .int .i64 x.arg] 24)).ownsRow w4.heap.size 24 7 (.slice (some ⟨g, 0, none⟩) bs.length cp) bs.length (flatCells (bs.map evRow)) := by
        have e := ownsOn hbA (RowsFr.owns (by omega) (evRow_len bs) (unhide HO))
        rwa [List.length_map] at e
      have hsW : w4.heap.size ≤ wr.heap.size := (unhide HB).size
      have hblt : bs.length < 14 := by
        have := congrArg List.length (unhide HBS)
        rw [List.length_reverse, List.length_drop] at this
        omega
      go_wp2_with (at_builtin; refine wpList_append_lies _ (by rfl) _ _ _ (by rfl) w4.heap.size 24 i7 _ 7 56 slice_EvH hi7 hz70 hz71 hz72 (by rfl) (by omega) (.slice (some ⟨g, 0, none⟩) bs.length cp) bs.length (flatCells (bs.map evRow)) (by rfl) hownA ⟨wr.heap.size, 0, none⟩ 1 1 (evCells x) (by rfl) (by rfl) (World.news_of_block (cs := #[.int .i64 x.time, .int .i64 x.to, .int .i64 x.src, .int .i64 x.count, .int .i64 x.n, .int .i64 x.kind, .int .i64 x.arg]) (t := 24) (fr := (0, 0)) (heap_alloc_new wr _)) (by simp [Value.oneCell']) (by omega) (by unfold maxLen; omega) (by omega) (by simp; omega) (wr.heap.size + 1) (by simp) ?_; intro g2 cap2 w6 hown6 hgrow hat hlt6)
      have hB6 : Below w4.heap.size w4 w6 := Below.grown ((unhide HB).trans (hbA.mono hsW)) hgrow (by simp; omega) (fun q hq => (hownA.lt q hq).1)
      have hr6 : EvOwn w4.heap.size w6 g2 cap2 (bs ++ [x]) := by
        unfold EvOwn
        rw [List.length_append, List.map_append]
        refine rowsFr_snoc (n := 7) (fun r hr => ?_) (by rw [List.length_map]; exact hown6)
        have := evRow_len (bs ++ [x]); rw [List.map_append] at this; exact this r hr
      have HB6 := hide hB6
      have HR6 := hide hr6
      have HBS6 : Hid (bs ++ [x] = (es.drop m).reverse) := hide (by rw [unhide HREV, ← unhide HBS])
      clear hB6 hr6 hown6 hgrow hat hlt6 hownA hbA p0 p1 p2 p3 p4 p5 p6 HO HB
      go_loopw [8, 9] (fun f i wq => ∃ (c : Nat) (fb : Bool), c ≤ ss3.length ∧ i = .int .i64 c ∧ f = .bool fb ∧ Hid (fb = true ↔ x ∈ ss3.take c) ∧ Hid (Below w6.heap.size w6 wq)) (fun _ i _ => ss3.length - (intOf i).toNat)
      case atStart => exact ⟨0, false, Nat.zero_le _, rfl, rfl, hide (by simp), hide (Below.refl _ _)⟩
      case round =>
        obtain ⟨c, fb, hc, rfl, rfl, HFB, HBQ⟩ := hrel
        have HBQ4 := hide ((unhide HB6).trans ((unhide HBQ).mono (unhide HB6).size))
        by_cases hlt : c < ss3.length
        · have hcI : (c : Int) < (ss3.length : Int) := by omega
          have hc0 : (0 : Int) ≤ (c : Int) := by omega
          have HTK : Hid (ss3.take (c + 1) = ss3.take c ++ [ss3[c]]) := hide (take_more ss3 c hlt)
          cases fb
          · obtain ⟨p0, p1, p2, p3, p4, p5, p6⟩ := c7_on (unhide HPX) (unhide HBQ4)
            obtain ⟨sg, scap, hsv, hsc1, _, hcs⟩ := RowsFr_cells (unhide HR34) (by rw [List.length_map]; omega)
            rw [List.length_map] at hsv
            simp only [Value.slice.injEq] at hsv
            obtain ⟨rfl, _, rfl⟩ := hsv
            have hcm := hcs c (by rw [List.length_map]; exact hlt)
            rw [List.getElem_map] at hcm
            clear hcs
            generalize ss3[c] = y at *
            obtain ⟨y0, y1, y2, y3, y4, y5, y6⟩ := c7_on (c7_of hcm) (unhide HBQ4)
            clear hcm
            obtain ⟨r, hr⟩ := eq_event y x
            have hg1 := guard_ev
            have he1 : ∀ w, (binOp .eql 24 (.agg #[.int .i64 y.time, .int .i64 y.to, .int .i64 y.src, .int .i64 y.count, .int .i64 y.n, .int .i64 y.kind, .int .i64 y.arg]) (.agg #[.int .i64 x.time, .int .i64 x.to, .int .i64 x.src, .int .i64 x.count, .int .i64 x.n, .int .i64 x.kind, .int .i64 x.arg])).run Try.prog w = .ok (.bool r) w := hr.op
            have HRI := hide hr.iff
            clear hr
            go_upto_region 17 with fail
            go_quiet (fail)
            go_wp2_with fail
            go_roundw
            case rel =>
              refine ⟨c + 1, r, by omega, by simp, rfl, hide ?_, hide (below_then (unhide HBQ) (below_drewN (Below.refl _ _) _))⟩
              rw [unhide HTK, List.mem_append, List.mem_singleton, unhide HRI]
              have hno : ¬ x ∈ ss3.take c := fun h => by have := (unhide HFB).2 h; cases this
              constructor
              · intro h; exact Or.inr h.symm
              · rintro (h | h)
                · exact absurd h hno
                · exact h.symm
            case measure => (simp [intOf]; try omega)
          · go_upto_region 17 with fail
            go_quiet (fail)
            go_wp2_with fail
            go_roundw
            case rel =>
              refine ⟨c + 1, true, by omega, by simp, rfl, hide ?_, hide (below_then (unhide HBQ) (below_drewN (Below.refl _ _) _))⟩
              rw [unhide HTK, List.mem_append]
              exact ⟨fun _ => Or.inl ((unhide HFB).1 rfl), fun _ => rfl⟩
            case measure => (simp [intOf]; try omega)
        · have hce : c = ss3.length := by omega
          have hfb : fb = true := (unhide HFB).2 (by rw [hce, List.take_length]; exact ((unhide HME) x).2 (unhide HXI))
          subst hfb
          have HB7 := hide ((unhide HB6).trans ((unhide HBQ).mono (unhide HB6).size))
          have HR7 := hide ((unhide HR6).on (unhide HBQ))
          go_wp2_with fail
          go_roundw
          case rel => exact ⟨m, g2, cap2, (m : Int) - 1, bs ++ [x], by omega, by simp, hide rfl, by omega, by omega, by simp, by simp; omega, HBS6, HR7, HB7⟩
          case measure => (simp [intOf]; try omega)
    · have hn0 : n = 0 := by have := unhide HJ; omega
      subst hn0
      have HBE : Hid (bs = es.reverse) := hide (by rw [unhide HBS, List.drop_zero])
      clear HBS HJ
      have hj3 : ¬ (0 : Int) ≤ j := hj0
      go_wp2_with fail
      generalize wr = wo at *
      go_loopw [10] (fun i wq => ∃ c : Nat, 1 ≤ c ∧ c ≤ 15 ∧ i = .int .i64 c ∧ Hid (Below wo.heap.size wo wq)) (fun i _ => 15 - (intOf i).toNat)
      case atStart => exact ⟨1, Nat.le_refl _, by omega, rfl, hide (Below.refl _ _)⟩
      case round =>
        obtain ⟨c1, hc1, hc15, rfl, HBQ⟩ := hrel
        obtain ⟨c, rfl⟩ : ∃ c, c1 = c + 1 := ⟨c1 - 1, by omega⟩
        have HBQ4 := hide ((unhide HB).trans ((unhide HBQ).mono (unhide HB).size))
        by_cases hlt : c + 1 < ss3.length
        · have hcI : (c : Int) + 1 < (ss3.length : Int) := by omega
          have hcI2 : (c : Int) < (ss3.length : Int) := by omega
          have hc0 : (0 : Int) ≤ (c : Int) := by omega
          have hc01 : (0 : Int) ≤ (c : Int) + 1 := by omega
          obtain ⟨sg, scap, hsv, hsc1, _, hcs⟩ := RowsFr_cells ((unhide HR34).on (unhide HBQ4)) (by rw [List.length_map]; omega)
          rw [List.length_map] at hsv
          simp only [Value.slice.injEq] at hsv
          obtain ⟨rfl, _, rfl⟩ := hsv
          have hA := hcs c (by rw [List.length_map]; omega)
          have hB := hcs (c + 1) (by rw [List.length_map]; exact hlt)
          rw [List.getElem_map] at hA hB
          have hless : evLess ss3[c] ss3[c + 1] = true := pairwise_at (unhide HUP) (by omega) hlt
          clear hcs
          generalize ss3[c] = x at *
          generalize ss3[c + 1] = y at *
          have hw1 : IntKind.i64.wrap ((c : Int) + 1 - 1) = (c : Int) := by rw [IntKind.wrap_i64]; omega
          have hw2 : IntKind.i64.wrap (c : Int) = (c : Int) := by rw [IntKind.wrap_i64]; omega
          have hw3 : IntKind.i64.wrap (((c + 1 : Nat) : Int) - 1) = (c : Int) := by rw [IntKind.wrap_i64]; omega
          go_upto_region 23 with fail
          go_region_held3 (fun w' => w'.cell? ⟨sg, c * 7, none⟩ = some (.int .i64 x.time) ∧ w'.cell? ⟨sg, c * 7 + 1, none⟩ = some (.int .i64 x.to) ∧ w'.cell? ⟨sg, c * 7 + 2, none⟩ = some (.int .i64 x.src) ∧ w'.cell? ⟨sg, c * 7 + 3, none⟩ = some (.int .i64 x.count) ∧ w'.cell? ⟨sg, c * 7 + 4, none⟩ = some (.int .i64 x.n) ∧ w'.cell? ⟨sg, c * 7 + 5, none⟩ = some (.int .i64 x.kind) ∧ w'.cell? ⟨sg, c * 7 + 6, none⟩ = some (.int .i64 x.arg) ∧ w'.cell? ⟨sg, (c + 1) * 7, none⟩ = some (.int .i64 y.time) ∧ w'.cell? ⟨sg, (c + 1) * 7 + 1, none⟩ = some (.int .i64 y.to) ∧ w'.cell? ⟨sg, (c + 1) * 7 + 2, none⟩ = some (.int .i64 y.src) ∧ w'.cell? ⟨sg, (c + 1) * 7 + 3, none⟩ = some (.int .i64 y.count) ∧ w'.cell? ⟨sg, (c + 1) * 7 + 4, none⟩ = some (.int .i64 y.n) ∧ w'.cell? ⟨sg, (c + 1) * 7 + 5, none⟩ = some (.int .i64 y.kind) ∧ w'.cell? ⟨sg, (c + 1) * 7 + 6, none⟩ = some (.int .i64 y.arg) ∧ Below wr.heap.size wr w')
            ((go_split_ands; refine sLess_of hA hB ?_; first | exact (Below.refl _ _).drew | exact below_then (by assumption) hbe))
            (first
              | (go_at_call 10; refine (implEventLess_any x y _).mono ?_; rintro e we ⟨rfl, hbe⟩; have hBe := below_then (a := wr) (by go_split_ands; assumption) hbe))
          go_wp2_with fail
          go_roundw
          case rel => exact ⟨c + 2, by omega, by omega, by simp; omega, hide (below_then (unhide HBQ) hBe)⟩
          case measure => (simp [intOf]; try omega)
        · have hO8 := (unhide HO).on (unhide HBQ)
          have HX8 := hide ((unhide HR34).on (unhide HBQ4))
          have HB8 := hide (below_then (unhide HB4) (unhide HBQ4))
          have HO8 := hide hO8
          have hnl : ¬ (c : Int) + 1 < (ss3.length : Int) := by omega
          clear hO8
          go_wp2_with fail
          refine (implEventSort_any S _ bs wr (RowsFr.at (unhide HO8)) (by omega)).mono ?_
          rintro e w9 ⟨v9, ss9, rfl, ha9, hp9, _, hr9, hb9⟩
          obtain rfl : ss9 = ss3 := up_unique S ha9 (unhide HUP) (fun a => by rw [hp9 a, unhide HBE, List.mem_reverse, (unhide HME) a])
          have HR9 := hide hr9
          have HX9 := hide ((unhide HX8).on hb9)
          have HB9 := hide (below_then (unhide HB8) hb9)
          clear ha9 hp9 hr9 hb9 HX8 HB8 HO8
          go_wp2_with fail
          refine (ltEvents_any v9 _ _ w9 (unhide HR9).at (unhide HX9).at).mono ?_
          rintro e wA ⟨rfl, hbA⟩
          have HXA := hide ((unhide HX9).on hbA)
          have HBA := hide (below_then (unhide HB9) hbA)
          clear hbA HR9 HX9 HB9
          go_wp2_with fail
          refine (implEventSort_any S _ ss9 wA (unhide HXA).at (by omega)).mono ?_
          rintro e wB ⟨vB, ssB, rfl, haB, hpB, _, hrB, hbB⟩
          obtain rfl : ssB = ss9 := up_unique S haB (unhide HUP) hpB
          have HRB := hide hrB
          have HXB := hide ((unhide HXA).on hbB)
          have HBB := hide (below_then (unhide HBA) hbB)
          clear haB hpB hrB hbB HXA HBA
          go_wp2_with fail
          refine (ltEvents_any vB _ _ wB (unhide HRB).at (unhide HXB).at).mono ?_
          rintro e wC ⟨rfl, hbC⟩
          have HBC := hide (below_then (unhide HBB) hbC)
          go_wp2_with fail
          go_ret
          exact ⟨rfl, unhide HBC⟩
end Go.Proofs.Ytmkbacpkemmepaa.E
