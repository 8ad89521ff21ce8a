/- spec.DrawOutSort; the walk of laws.FnOutSort: it answers true. -/
import Derived.Test.YtamkoimadenmeaaDrawOl
import Derived.Test.YtamkoimadenmeaaSortO
import Derived.Test.YtamkoimadenmeaaHeapO9
import Derived.Test.YtamkoimadenmeaaEqOu
import Derived.WalkSmall
import Derived.Deep.QuietTactic
import Derived.BigQuiet
import Derived.Deep.Cut
import Derived.Deep.RegionHeld3
namespace Go.Proofs.Ytamkoimadenmeaa
open Go.RowKit
set_option linter.unusedVariables false
set_option linter.unusedSimpArgs false

set_option maxRecDepth 100000 in
set_option maxHeartbeats 1000000 in
theorem ltOuts_any (v1 v2 : Value) (es : List OutV) (w : World) (h1 : RowsAt 5 w v1 (es.map outRow)) (h2 : RowsAt 5 w v2 (es.map outRow)) :
    Calls Try.prog 11 #[v1, v2] w fun e w' => e = .returned (.bool true) ∧ Below w.heap.size w w' := by
  obtain ⟨ad1, cap1, rfl, hl1, hm, hc1⟩ := h1
  obtain ⟨ad2, cap2, rfl, hl2, _, hc2⟩ := h2
  rw [List.length_map] at *
  unfold maxLen at hm
  have hne0 : ((es.length : Int) != (es.length : Int)) = false := by simp
  have H1 := hide hc1
  have H2 := hide hc2
  clear hc1 hc2
  go_enter Try.func11, Try.ntmps11
  go_wp2_with fail
  go_loopw [5] (fun i wr => ∃ k : Nat, k ≤ es.length ∧ i = .int .i64 k ∧ Below w.heap.size w wr) (fun i _ => es.length - (intOf i).toNat)
  case atStart => exact ⟨0, Nat.zero_le _, rfl, Below.refl _ _⟩
  case round =>
    obtain ⟨k, hk, rfl, hb⟩ := hrel
    by_cases hlt : k < es.length
    · obtain ⟨b1, off1, had1, hc1⟩ : ∃ b off, ad1 = some ⟨b, off, none⟩ ∧ ∀ j, j < 5 → wr.cell? ⟨b, off + k * 5 + j, none⟩ = some (.int .i64 ((outRow es[k]).getD j 0)) := by
        rcases unhide H1 with h | ⟨b, off, h1, h2⟩
        · rw [List.map_eq_nil_iff] at h; subst h; simp at hlt
        · refine ⟨b, off, h1, fun j hj => ?_⟩
          have := cell_on hb (h2 k (by rw [List.length_map]; exact hlt) j hj)
          rwa [List.getElem_map] at this
      obtain ⟨b2, off2, had2, hc2⟩ : ∃ b off, ad2 = some ⟨b, off, none⟩ ∧ ∀ j, j < 5 → wr.cell? ⟨b, off + k * 5 + j, none⟩ = some (.int .i64 ((outRow es[k]).getD j 0)) := by
        rcases unhide H2 with h | ⟨b, off, h1, h2⟩
        · rw [List.map_eq_nil_iff] at h; subst h; simp at hlt
        · refine ⟨b, off, h1, fun j hj => ?_⟩
          have := cell_on hb (h2 k (by rw [List.length_map]; exact hlt) j hj)
          rwa [List.getElem_map] at this
      have hkI : (k : Int) < (es.length : Int) := by omega
      have hk0 : (0 : Int) ≤ (k : Int) := by omega
      subst had1 had2
      generalize es[k] = x at *
      have p0 := hc1 0 (by omega)
      have r0 := hc2 0 (by omega)
      have p1 := hc1 1 (by omega)
      have r1 := hc2 1 (by omega)
      have p2 := hc1 2 (by omega)
      have r2 := hc2 2 (by omega)
      have p3 := hc1 3 (by omega)
      have r3 := hc2 3 (by omega)
      have p4 := hc1 4 (by omega)
      have r4 := hc2 4 (by omega)
      simp [outRow] at p0 r0 p1 r1 p2 r2 p3 r3 p4 r4
      clear hc1 hc2
      obtain ⟨r, hr⟩ := O.eq_ou x x
      have hrt : r = true := hr.iff.2 rfl
      subst hrt
      have hg1 := O.guard_ou
      have he1 : ∀ w, (binOp .neq 24 (.agg #[.int .i64 x.time, .int .i64 x.proc, .int .i64 x.count, .int .i64 x.n, .int .i64 x.value]) (.agg #[.int .i64 x.time, .int .i64 x.proc, .int .i64 x.count, .int .i64 x.n, .int .i64 x.value])).run Try.prog w = .ok (.bool false) w := fun w => hr.neq w
      clear hr
      go_upto_region 6 with fail
      go_quiet (fail)
      go_wp2_with fail
      go_roundw
      case rel => exact ⟨k + 1, by omega, by simp, below_then hb (below_drewN (Below.refl _ _) _)⟩
      case measure => simp [intOf]; omega
    · go_wp2_with fail
      go_ret
      exact ⟨rfl, hb⟩

theorem Reader_grown {w0 A w' : World} {q : Nat} {v : Value} {zs : List Int} {p : Int} {row : Option Nat} (h : Reader w0 A q v zs p) (hg : A.grownBy w' row) (hne : some q ≠ row) (hr : ∀ k, row = some k → w0.heap.size ≤ k) : Reader w0 w' q v zs p := by
  have hq : q < A.heap.size := World.block_lt_of_cell? A ⟨q, 0, none⟩ h.rd.c0
  have e := hg.block q hq hne
  exact ⟨h.bytes, h.few, h.q0, Below.grown h.below hg h.below.size hr, ⟨(World.cell?_of_block (a := ⟨q, 0, none⟩) e).trans h.rd.c0, (World.cell?_of_block (a := ⟨q, 1, none⟩) e).trans h.rd.c1, frozen_block e h.rd.fz⟩, h.p0⟩

theorem OnlyB_grown {q : Nat} {w A w' : World} {row : Option Nat} (h : OnlyB q w A) (hg : A.grownBy w' row) (hr : ∀ k, row = some k → w.heap.size ≤ k) (hq : q < w.heap.size) : OnlyB q w w' :=
  ⟨Nat.le_trans h.size hg.size, fun b hb hl => (hg.block b (Nat.lt_of_lt_of_le hl h.size) (fun e => by have := hr b e.symm; omega)).trans (h.other b hb hl), Below.grown h.below hg (by have := h.size; omega) (fun k hk => by have := hr k hk; omega)⟩

theorem OutOwn.only {B g cap q : Nat} {w w' : World} {ys : List OutV} (h : OutOwn B w g cap ys) (ho : OnlyB q w w') (hne : g ≠ q) : OutOwn B w' g cap ys :=
  RowsFr.block (fun k hk hlt => ho.other k (by have : g = k := by simpa [Value.ownBlock] using hk
                                               omega) hlt) h
theorem OutOwn.gblk {B g cap : Nat} {w : World} {ys : List OutV} (h : OutOwn B w g cap ys) : B ≤ g := (RowsFr.blk h g rfl).1

set_option maxRecDepth 100000 in
set_option maxHeartbeats 2000000 in
theorem DrawOutSort_any (v : Value) (zs : List Int) (w : World) (h : BytesAt w v zs) :
    Calls Try.prog 8 #[v] w fun e w' => ∃ (vl : Value) (es : List OutV), e = .returned vl ∧ es.length ≤ 14 ∧ RowsFr w.heap.size 24 5 w' vl (es.map outRow) ∧ Below w.heap.size w w' := by
  obtain ⟨i7, hi7, hz70, hz71, hz72⟩ := infoT_parts infoT_Out
  have HH := hide h
  clear h
  go_enter Try.func8, Try.ntmps8
  go_wp2_with fail
  refine (l6Open_any v zs w (unhide HH)).mono ?_
  rintro e w1 ⟨v1, zs1, rfl, hr1, hb1⟩
  have hqw : w.heap.size < w1.heap.size := World.block_lt_of_cell? w1 ⟨w.heap.size, 0, none⟩ hr1.rd.c0
  have HR1 := hide (hr1.alloc (.cells #[] 24))
  have ho0 : OutOwn w1.heap.size (w1.alloc (.cells #[] 24)) w1.heap.size 0 [] := RowsFr.of_owns (fun r hr => by simp at hr) (World.ownsRow_lit w1 #[] 0 (Nat.le_refl _) (Nat.zero_le _) rfl)
  have HO1 := hide ho0
  have HB1 := hide (below_then hb1 ((Below.refl w1.heap.size w1).alloc (Nat.le_refl _) (.cells #[] 24)))
  clear hr1 hb1 ho0
  go_wp2_with fail
  generalize w1.alloc (.cells #[] 24) = W2 at *
  generalize w1.heap.size = B at *
  refine (pick_any w _ w.heap.size v1 zs1 _ 14 (unhide HR1) (by omega) (by omega) (by omega)).mono ?_
  rintro e W3 ⟨x0, rfl, hx0, hy0, hr, ho⟩
  have HO2 := hide ((unhide HO1).only ho (by omega))
  have HR2 := hide hr
  have HB2 := hide ((unhide HB1).trans ho.below)
  clear hr ho HO1 HR1 HB1
  obtain ⟨n0, rfl⟩ := Int.eq_ofNat_of_zero_le hx0
  go_wp2_with fail
  go_loopw [4, 5] (fun l i wr => ∃ (n g cp : Nat) (p' : Int) (es : List OutV), i = .int .i64 n ∧ l = .slice (some ⟨g, 0, none⟩) es.length cp ∧ es.length + n ≤ 14 ∧ p' ≤ 1 + 30 * (14 - (n : Int)) ∧ Hid (OutOwn B wr g cp es) ∧ Hid (Reader w wr w.heap.size v1 zs1 p') ∧ Hid (Below w.heap.size w wr)) (fun _ i _ => (intOf i).toNat)
  case atStart => exact ⟨n0, B, 0, _, [], rfl, rfl, by simp; omega, by omega, HO2, HR2, HB2⟩
  case round =>
    obtain ⟨n1, g, cp, p', es, rfl, rfl, hlen, hp', HO, HR, HN⟩ := hrel
    have hp0' := (unhide HR).p0
    have hgB := (unhide HO).gblk
    by_cases hgt : n1 = 0
    · subst hgt
      go_wp2_with fail
      go_ret
      exact ⟨_, es, rfl, by omega, (unhide HO).less (by omega), unhide HN⟩
    · obtain ⟨n, rfl⟩ : ∃ n, n1 = n + 1 := ⟨n1 - 1, by omega⟩
      have hgI : (0 : Int) < (n : Int) + 1 := by omega
      have hcp := (unhide HO).le
      have hcp1 := hcp.1
      have hcp2 := hcp.2
      unfold maxLen at hcp2
      clear hcp
      go_wp2_with fail
      refine (l72Out_any w _ w.heap.size v1 zs1 _ (unhide HR) (by omega)).mono ?_
      rintro e W4 ⟨x, p3, rfl, hp3, hr3, ho3⟩
      have HO4 := hide ((unhide HO).only ho3 (by omega))
      have hsB : B ≤ W4.heap.size := by
        have h1 := (RowsFr.blk (unhide HO4) g rfl).2
        omega
      have HR4 := hide hr3
      have HN4 := hide ((unhide HN).trans ho3.below)
      have hp30 := hr3.p0
      clear hr3 ho3 HO HR HN
      have hbA : Below W4.heap.size W4 (W4.alloc (.cells #[.int .i64 x.time, .int .i64 x.proc, .int .i64 x.count, .int .i64 x.n, .int .i64 x.value] 24)) := (Below.refl _ _).alloc (Nat.le_refl _) _
      have hownA : (W4.alloc (.cells #[.int .i64 x.time, .int .i64 x.proc, .int .i64 x.count, .int .i64 x.n, .int .i64 x.value] 24)).ownsRow B 24 5 (.slice (some ⟨g, 0, none⟩) es.length cp) es.length (flatCells (es.map outRow)) := by
        have e := ownsOn hbA (RowsFr.owns (by omega) (outRow_len es) (unhide HO4))
        rwa [List.length_map] at e
      go_wp2_with (at_builtin; refine wpList_append_lies _ (by rfl) _ _ _ (by rfl) B 24 i7 _ 5 40 slice_OutT hi7 hz70 hz71 hz72 (by rfl) (by omega) (.slice (some ⟨g, 0, none⟩) es.length cp) es.length (flatCells (es.map outRow)) (by rfl) hownA ⟨W4.heap.size, 0, none⟩ 1 1 (outCells x) (by rfl) (by rfl) (World.news_of_block (cs := #[.int .i64 x.time, .int .i64 x.proc, .int .i64 x.count, .int .i64 x.n, .int .i64 x.value]) (t := 24) (fr := (0, 0)) (heap_alloc_new W4 _)) (by simp [Value.oneCell']) (by omega) (by unfold maxLen; omega) (by omega) (by simp; omega) (W4.heap.size + 1) (by simp) ?_; intro g2 cap2 w9 hown9 hgrow hat hlt9; have hgb : ∀ k, (Value.slice (some ⟨g, 0, none⟩) es.length cp).ownBlock = some k → B ≤ k := (fun k hk => (hownA.lt k hk).1); have HO9 : Hid (OutOwn B w9 g2 cap2 (es ++ [x])) := hide (by
          unfold OutOwn
          rw [List.length_append, List.map_append]
          refine rowsFr_snoc (n := 5) (fun r hr => ?_) (by rw [List.length_map]; exact hown9)
          have := outRow_len (es ++ [x]); rw [List.map_append] at this; exact this r hr); have HR9 := hide (Reader_grown ((unhide HR4).alloc (.cells #[.int .i64 x.time, .int .i64 x.proc, .int .i64 x.count, .int .i64 x.n, .int .i64 x.value] 24)) hgrow (fun e => by have := hgb w.heap.size e.symm; omega) (fun k hk => by have := hgb k hk; omega)); have HN9 := hide (Below.grown ((unhide HN4).trans (hbA.mono (by omega))) hgrow (by simp; omega) (fun k hk => by have := hgb k hk; omega)); clear hown9 hgrow hat hlt9 hgb)
      go_roundw
      case rel => exact ⟨n, g2, cap2, _, es ++ [x], by simp, by simp, by simp; omega, by omega, HO9, HR9, HN9⟩
      case measure => simp [intOf]

theorem revO_step (es : List OutV) (m : Nat) (hm : m < es.length) : (es.drop m).reverse = (es.drop (m + 1)).reverse ++ [es[m]] := by
  rw [List.drop_eq_getElem_cons hm, List.reverse_cons]
theorem RowsFr_cellsO {N t n : Nat} {w : World} {v : Value} {rs : List (List Int)} (h : RowsFr N t n w v rs) (hne : 0 < rs.length) : ∃ g cap, v = .slice (some ⟨g, 0, none⟩) rs.length cap ∧ rs.length ≤ cap ∧ cap ≤ maxLen ∧ ∀ i (hi : i < rs.length) j, j < n → w.cell? ⟨g, i * n + j, none⟩ = some (.int .i64 (rs[i].getD j 0)) := by
  obtain ⟨g, cap, h1, h2, h3, h4, _⟩ := h.own (by intro e; subst e; simp at hne)
  exact ⟨g, cap, h1, h2, h3, h4⟩
abbrev C5 (W : World) (b o : Nat) (x : OutV) : Prop := W.cell? ⟨b, o, none⟩ = some (.int .i64 x.time) ∧ W.cell? ⟨b, o + 1, none⟩ = some (.int .i64 x.proc) ∧ W.cell? ⟨b, o + 2, none⟩ = some (.int .i64 x.count) ∧ W.cell? ⟨b, o + 3, none⟩ = some (.int .i64 x.n) ∧ W.cell? ⟨b, o + 4, none⟩ = some (.int .i64 x.value)
theorem c5_on {W V : World} {b o : Nat} {x : OutV} (h : C5 W b o x) (hb : Below W.heap.size W V) : C5 V b o x :=
  ⟨cell_on hb h.1, cell_on hb h.2.1, cell_on hb h.2.2.1, cell_on hb h.2.2.2.1, cell_on hb h.2.2.2.2⟩
theorem c5_of {W : World} {b o : Nat} {x : OutV} (h : ∀ j, j < 5 → W.cell? ⟨b, o + j, none⟩ = some (.int .i64 ((outRow x).getD j 0))) : C5 W b o x :=
  ⟨h 0 (by omega), h 1 (by omega), h 2 (by omega), h 3 (by omega), h 4 (by omega)⟩
theorem sLessO_of {W w' : World} {g m n : Nat} {x y : OutV} (A : ∀ j, j < 5 → W.cell? ⟨g, m * 5 + j, none⟩ = some (.int .i64 ((outRow x).getD j 0))) (B : ∀ j, j < 5 → W.cell? ⟨g, n + j, none⟩ = some (.int .i64 ((outRow y).getD j 0))) (hb : Below W.heap.size W w') :
    w'.cell? ⟨g, m * 5, none⟩ = some (.int .i64 x.time) ∧ w'.cell? ⟨g, m * 5 + 1, none⟩ = some (.int .i64 x.proc) ∧ w'.cell? ⟨g, m * 5 + 2, none⟩ = some (.int .i64 x.count) ∧ w'.cell? ⟨g, m * 5 + 3, none⟩ = some (.int .i64 x.n) ∧ w'.cell? ⟨g, m * 5 + 4, none⟩ = some (.int .i64 x.value) ∧ w'.cell? ⟨g, n, none⟩ = some (.int .i64 y.time) ∧ w'.cell? ⟨g, n + 1, none⟩ = some (.int .i64 y.proc) ∧ w'.cell? ⟨g, n + 2, none⟩ = some (.int .i64 y.count) ∧ w'.cell? ⟨g, n + 3, none⟩ = some (.int .i64 y.n) ∧ w'.cell? ⟨g, n + 4, none⟩ = some (.int .i64 y.value) ∧ Below W.heap.size W w' :=
  ⟨cell_on hb (A 0 (by omega)), cell_on hb (A 1 (by omega)), cell_on hb (A 2 (by omega)), cell_on hb (A 3 (by omega)), cell_on hb (A 4 (by omega)), cell_on hb (B 0 (by omega)), cell_on hb (B 1 (by omega)), cell_on hb (B 2 (by omega)), cell_on hb (B 3 (by omega)), cell_on hb (B 4 (by omega)), hb⟩

set_option maxRecDepth 100000 in
set_option maxHeartbeats 2000000 in
theorem lawOutSortD_walk (v : Value) (zs : List Int) (w : World) (h : BytesAt w v zs) :
    Calls Try.prog 4 #[v] w fun e w' => e = .returned (.bool true) ∧ Below w.heap.size w w' := by
  obtain ⟨i7, hi7, hz70, hz71, hz72⟩ := infoT_parts infoT_Out
  have S := outLess_strict
  have HH := hide h
  obtain ⟨ad, cap, hv, hlc, hmx, _⟩ := h
  subst hv
  unfold maxLen at hmx
  by_cases hbig : 1048576 < zs.length
  · have hbI : (1048576 : Int) < (zs.length : Int) := by omega
    go_enter Try.func4, Try.ntmps4
    go_wp2_with fail
    go_ret
    exact ⟨rfl, Below.refl _ _⟩
  have hbI : ¬ (1048576 : Int) < (zs.length : Int) := by omega
  go_enter Try.func4, Try.ntmps4
  go_wp2_with fail
  refine (DrawOutSort_any _ zs w (unhide HH)).mono ?_
  rintro e w1 ⟨vl, es, rfl, hel, hr1, hb1⟩
  have HR1 := hide hr1
  have HB1 := hide hb1
  clear hr1 hb1
  go_wp2_with fail
  refine (specOutSort_any S vl es w1 (unhide HR1).at (by omega)).mono ?_
  rintro e w2 ⟨v2, ss, rfl, hp2, ha2, hr2, hb2⟩
  have HAS := hide ha2
  have HPE := hide hp2
  have HR2 := hide hr2
  have HR12 := hide ((unhide HR1).on hb2)
  have HB2 := hide (below_then (unhide HB1) hb2)
  clear ha2 hp2 hr2 hb2 HR1 HB1
  go_wp2_with fail
  refine (implOutSort_any S vl es w2 (unhide HR12).at (by omega)).mono ?_
  rintro e w3 ⟨v3, ss3, rfl, hp3, ha3, hr3, hb3⟩
  obtain rfl : ss3 = ss := asc_unique S ha3 (unhide HAS) (hp3.trans (unhide HPE).symm)
  have HR3 := hide hr3
  have HR13 := hide ((unhide HR12).on hb3)
  have HR23 := hide ((unhide HR2).on hb3)
  have HB3 := hide (below_then (unhide HB2) hb3)
  have hsl : ss3.length = es.length := (unhide HPE).length_eq
  clear ha3 hp3 hr3 hb3 HR12 HR2 HB2
  go_wp2_with fail
  refine (ltOuts_any v3 v2 _ w3 (unhide HR3).at (unhide HR23).at).mono ?_
  rintro e w4 ⟨rfl, hb4⟩
  have HR34 := hide ((unhide HR3).on hb4)
  have HR14 := hide ((unhide HR13).on hb4)
  have HB4 := hide (below_then (unhide HB3) hb4)
  clear hb4 HR3 HR13 HR23 HB3
  obtain ⟨la, lc, hvl⟩ := (unhide HR14).sliced
  obtain ⟨xa, xc, hvx⟩ := (unhide HR34).sliced
  rw [List.length_map] at hvl hvx
  subst hvl hvx
  have hlne : ((ss3.length : Int) != (es.length : Int)) = false := by rw [hsl]; simp
  have HSL := hide hsl
  clear hsl
  have hbe : Below w4.heap.size w4 (w4.alloc (.cells #[] 24)) := (Below.refl _ _).alloc (Nat.le_refl _) _
  have ho5 : OutOwn w4.heap.size (w4.alloc (.cells #[] 24)) w4.heap.size 0 [] := RowsFr.of_owns (fun r hr => by simp at hr) (World.ownsRow_lit w4 #[] 0 (Nat.le_refl _) (Nat.zero_le _) rfl)
  have HO5 := hide ho5
  have HBE := hide hbe
  clear hbe ho5
  go_wp2_with fail
  generalize w4.alloc (.cells #[] 24) = W5 at *
  go_loopw [6, 7] (fun l i wr => ∃ (n g cp : Nat) (j : Int) (bs : List OutV), n ≤ es.length ∧ i = .int .i64 j ∧ Hid (j = (n : Int) - 1) ∧ -1 ≤ j ∧ j < es.length ∧ l = .slice (some ⟨g, 0, none⟩) bs.length cp ∧ bs.length ≤ 14 ∧ Hid (bs = (es.drop n).reverse) ∧ Hid (OutOwn w4.heap.size wr g cp bs) ∧ Hid (Below w4.heap.size w4 wr)) (fun _ i _ => (intOf i + 1).toNat)
  case atStart => exact ⟨es.length, w4.heap.size, 0, (es.length : Int) - 1, [], Nat.le_refl _, by simp, hide rfl, by omega, by omega, rfl, by simp, hide (by simp), HO5, HBE⟩
  case round =>
    obtain ⟨n, g, cp, j, bs, hn, rfl, HJ, hj1, hj2, rfl, hbl, HBS, HO, HB⟩ := hrel
    by_cases hj0 : 0 ≤ j
    · obtain ⟨m, rfl⟩ := Int.eq_ofNat_of_zero_le hj0
      have hnm : n = m + 1 := by have := unhide HJ; omega
      subst hnm
      have hm : m < es.length := by omega
      have hmI : (m : Int) < (es.length : Int) := by omega
      obtain ⟨lg, lcap, hlv, hlc1, _, hcs⟩ := RowsFr_cellsO (unhide HR14) (by rw [List.length_map]; omega)
      rw [List.length_map] at hlv
      simp only [Value.slice.injEq] at hlv
      obtain ⟨rfl, _, rfl⟩ := hlv
      have hcm := hcs m (by rw [List.length_map]; exact hm)
      rw [List.getElem_map] at hcm
      clear hcs
      have HREV : Hid ((es.drop m).reverse = (es.drop (m + 1)).reverse ++ [es[m]]) := hide (revO_step es m hm)
      generalize es[m] = x at *
      have HPX : Hid (C5 w4 lg (m * 5) x) := hide (c5_of hcm)
      clear hcm
      obtain ⟨p0, p1, p2, p3, p4⟩ := c5_on (unhide HPX) (unhide HB)
      have hbA : Below wr.heap.size wr (wr.alloc (.cells #[.int .i64 x.time, .int .i64 x.proc, .int .i64 x.count, .int .i64 x.n, .int .i64 x.value] 24)) := (Below.refl _ _).alloc (Nat.le_refl _) _
      have hownA : (wr.alloc (.cells #[.int .i64 x.time, .int .i64 x.proc, .int .i64 x.count, .int .i64 x.n, .int .i64 x.value] 24)).ownsRow w4.heap.size 24 5 (.slice (some ⟨g, 0, none⟩) bs.length cp) bs.length (flatCells (bs.map outRow)) := by
        have e := ownsOn hbA (RowsFr.owns (by omega) (outRow_len bs) (unhide HO))
        rwa [List.length_map] at e
      have hsW : w4.heap.size ≤ wr.heap.size := (unhide HB).size
      have hblt : bs.length < 14 := by
        have := congrArg List.length (unhide HBS)
        rw [List.length_reverse, List.length_drop] at this
        omega
      go_wp2_with (at_builtin; refine wpList_append_lies _ (by rfl) _ _ _ (by rfl) w4.heap.size 24 i7 _ 5 40 slice_OutT hi7 hz70 hz71 hz72 (by rfl) (by omega) (.slice (some ⟨g, 0, none⟩) bs.length cp) bs.length (flatCells (bs.map outRow)) (by rfl) hownA ⟨wr.heap.size, 0, none⟩ 1 1 (outCells x) (by rfl) (by rfl) (World.news_of_block (cs := #[.int .i64 x.time, .int .i64 x.proc, .int .i64 x.count, .int .i64 x.n, .int .i64 x.value]) (t := 24) (fr := (0, 0)) (heap_alloc_new wr _)) (by simp [Value.oneCell']) (by omega) (by unfold maxLen; omega) (by omega) (by simp; omega) (wr.heap.size + 1) (by simp) ?_; intro g2 cap2 w6 hown6 hgrow hat hlt6; have HB6 : Hid (Below w4.heap.size w4 w6) := hide (Below.grown ((unhide HB).trans (hbA.mono hsW)) hgrow (by simp; omega) (fun q hq => (hownA.lt q hq).1)); have HR6 : Hid (OutOwn w4.heap.size w6 g2 cap2 (bs ++ [x])) := hide (by
          unfold OutOwn
          rw [List.length_append, List.map_append]
          refine rowsFr_snoc (n := 5) (fun r hr => ?_) (by rw [List.length_map]; exact hown6)
          have := outRow_len (bs ++ [x]); rw [List.map_append] at this; exact this r hr); have HBS6 : Hid (bs ++ [x] = (es.drop m).reverse) := hide (by rw [unhide HREV, ← unhide HBS]); clear hown6 hgrow hat hlt6)
      go_roundw
      case rel => exact ⟨m, g2, cap2, (m : Int) - 1, bs ++ [x], by omega, by simp, hide rfl, by omega, by omega, by simp, by simp; omega, HBS6, HR6, HB6⟩
      case measure => (simp [intOf]; try omega)
    · have hn0 : n = 0 := by have := unhide HJ; omega
      subst hn0
      have HBE : Hid (bs = es.reverse) := hide (by rw [unhide HBS, List.drop_zero])
      clear HBS HJ
      have hj3 : ¬ (0 : Int) ≤ j := hj0
      have hs14 : ss3.length ≤ 14 := by have := unhide HSL; omega
      go_wp2_with fail
      generalize wr = wo at *
      go_loopw [8] (fun i wq => ∃ c : Nat, 1 ≤ c ∧ c ≤ 15 ∧ i = .int .i64 c ∧ Hid (Below wo.heap.size wo wq)) (fun i _ => 15 - (intOf i).toNat)
      case atStart => exact ⟨1, Nat.le_refl _, by omega, rfl, hide (Below.refl _ _)⟩
      case round =>
        obtain ⟨c1, hc1, hc15, rfl, HBQ⟩ := hrel
        obtain ⟨c, rfl⟩ : ∃ c, c1 = c + 1 := ⟨c1 - 1, by omega⟩
        have HBQ4 := hide ((unhide HB).trans ((unhide HBQ).mono (unhide HB).size))
        by_cases hlt : c + 1 < ss3.length
        · have hcI : (c : Int) + 1 < (ss3.length : Int) := by omega
          have hcI2 : (c : Int) < (ss3.length : Int) := by omega
          have hc0 : (0 : Int) ≤ (c : Int) := by omega
          have hc01 : (0 : Int) ≤ (c : Int) + 1 := by omega
          obtain ⟨sg, scap, hsv, hsc1, _, hcs⟩ := RowsFr_cellsO ((unhide HR34).on (unhide HBQ4)) (by rw [List.length_map]; omega)
          rw [List.length_map] at hsv
          simp only [Value.slice.injEq] at hsv
          obtain ⟨rfl, _, rfl⟩ := hsv
          have hA := hcs c (by rw [List.length_map]; omega)
          have hB := hcs (c + 1) (by rw [List.length_map]; exact hlt)
          rw [List.getElem_map] at hA hB
          have hless : outLess ss3[c + 1] ss3[c] = false := pairwise_at (unhide HAS) (by omega) hlt
          clear hcs
          generalize ss3[c] = x at *
          generalize ss3[c + 1] = y at *
          have hw1 : IntKind.i64.wrap ((c : Int) + 1 - 1) = (c : Int) := by rw [IntKind.wrap_i64]; omega
          have hw2 : IntKind.i64.wrap (c : Int) = (c : Int) := by rw [IntKind.wrap_i64]; omega
          have hw3 : IntKind.i64.wrap (((c + 1 : Nat) : Int) - 1) = (c : Int) := by rw [IntKind.wrap_i64]; omega
          go_upto_region 16 with fail
          go_region_held3 (fun w' => w'.cell? ⟨sg, c * 5, none⟩ = some (.int .i64 x.time) ∧ w'.cell? ⟨sg, c * 5 + 1, none⟩ = some (.int .i64 x.proc) ∧ w'.cell? ⟨sg, c * 5 + 2, none⟩ = some (.int .i64 x.count) ∧ w'.cell? ⟨sg, c * 5 + 3, none⟩ = some (.int .i64 x.n) ∧ w'.cell? ⟨sg, c * 5 + 4, none⟩ = some (.int .i64 x.value) ∧ w'.cell? ⟨sg, (c + 1) * 5, none⟩ = some (.int .i64 y.time) ∧ w'.cell? ⟨sg, (c + 1) * 5 + 1, none⟩ = some (.int .i64 y.proc) ∧ w'.cell? ⟨sg, (c + 1) * 5 + 2, none⟩ = some (.int .i64 y.count) ∧ w'.cell? ⟨sg, (c + 1) * 5 + 3, none⟩ = some (.int .i64 y.n) ∧ w'.cell? ⟨sg, (c + 1) * 5 + 4, none⟩ = some (.int .i64 y.value) ∧ Below wr.heap.size wr w')
            ((go_split_ands; refine sLessO_of hA hB ?_; first | exact (Below.refl _ _).drew | exact below_then (by assumption) hbe))
            (first
              | (go_at_call 6; refine (implOutLess_any y x _).mono ?_; rintro e we ⟨rfl, hbe⟩; have hBe := below_then (a := wr) (by go_split_ands; assumption) hbe))
          go_wp2_with fail
          go_roundw
          case rel => exact ⟨c + 2, by omega, by omega, by simp; omega, hide (below_then (unhide HBQ) hBe)⟩
          case measure => (simp [intOf]; try omega)
        · have HX8 := hide ((unhide HR34).on (unhide HBQ4))
          have HB8 := hide (below_then (unhide HB4) (unhide HBQ4))
          have HO8 := hide ((unhide HO).on (unhide HBQ))
          have hnl : ¬ (c : Int) + 1 < (ss3.length : Int) := by omega
          go_wp2_with fail
          refine (implOutSort_any S _ bs wr (RowsFr.at (unhide HO8)) (by omega)).mono ?_
          rintro e w9 ⟨v9, ss9, rfl, hp9, ha9, hr9, hb9⟩
          obtain rfl : ss9 = ss3 := asc_unique S ha9 (unhide HAS) (hp9.trans (by rw [unhide HBE]; exact (List.reverse_perm es).trans (unhide HPE).symm))
          have HR9 := hide hr9
          have HX9 := hide ((unhide HX8).on hb9)
          have HB9 := hide (below_then (unhide HB8) hb9)
          clear ha9 hp9 hr9 hb9 HX8 HB8 HO8
          go_wp2_with fail
          refine (ltOuts_any v9 _ _ w9 (unhide HR9).at (unhide HX9).at).mono ?_
          rintro e wA ⟨rfl, hbA⟩
          have HBA := hide (below_then (unhide HB9) hbA)
          go_wp2_with fail
          go_ret
          exact ⟨rfl, unhide HBA⟩
end Go.Proofs.Ytamkoimadenmeaa
