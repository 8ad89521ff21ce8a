/- spec.l72Events: events that are drawn. -/
import Derived.Test.YtiljjhipiinafaaGreatEvTw
import Derived.Test.YtiljjhipiinafaaGreatDrawEv
namespace Go.Proofs.YtiljjhipiinafaaGreat.E
open Go.RowKit
set_option linter.unusedVariables false
set_option linter.unusedSimpArgs false

theorem set_n {w : World} {r : Nat} {e : EvV} (h : EvRow w r e) (x : Int) : EvRow (w.setCell ⟨r, 4, none⟩ (.int .i64 x)) r ⟨e.time, e.to, e.src, e.count, x, e.kind, e.arg⟩ := by
  obtain ⟨c0, c1, c2, c3, c4, c5, c6, fz⟩ := h
  refine ⟨?_, ?_, ?_, ?_, ?_, ?_, ?_, fun i => ?_⟩ <;> simp [go_sem, c0, c1, c2, c3, c4, c5, c6, fz]

theorem put_row7 {w : World} {r : Nat} {e0 : EvV} (h : EvRow w r e0) (e : EvV) : EvRow (put7 w r e) r e := by
  obtain ⟨c0, c1, c2, c3, c4, c5, c6, fz⟩ := h
  unfold put7
  refine ⟨?_, ?_, ?_, ?_, ?_, ?_, ?_, fun i => ?_⟩ <;> simp [go_sem, c0, c1, c2, c3, c4, c5, c6, fz]

theorem EvOwn.set1 {B g cap r o : Nat} {w : World} {ys : List EvV} {u : Value} (h : EvOwn B w g cap ys) (hne : g ≠ r) : EvOwn B (w.setCell ⟨r, o, none⟩ u) g cap ys :=
  RowsFr.block (fun k hk _ => Below.heap_setCell w ⟨r, o, none⟩ u k (by
    have : g = k := by simpa [Value.ownBlock] using hk
    simp; omega)) h
theorem EvOwn.put7 {B g cap r : Nat} {w : World} {ys : List EvV} {e : EvV} (h : EvOwn B w g cap ys) (hne : g ≠ r) : EvOwn B (Go.Proofs.YtiljjhipiinafaaGreat.put7 w r e) g cap ys :=
  ((((((h.set1 hne).set1 hne).set1 hne).set1 hne).set1 hne).set1 hne).set1 hne

theorem evRow_new (w : World) (e : EvV) (t : TypeId) : EvRow (w.alloc (.cells #[.int .i64 e.time, .int .i64 e.to, .int .i64 e.src, .int .i64 e.count, .int .i64 e.n, .int .i64 e.kind, .int .i64 e.arg] t)) w.heap.size e := by
  refine ⟨?_, ?_, ?_, ?_, ?_, ?_, ?_, fun i => ?_⟩ <;> simp [go_sem]

/-- What the drawing has come to: events so far, the reader, the place of the new event. -/
structure Drawn (w0 w W : World) (q g cp r : Nat) (v : Value) (zs : List Int) (p : Int) (es : List EvV) (x : EvV) : Prop where
  own : EvOwn w.heap.size W g cp es
  rd : Reader w0 W q v zs p
  on : OnlyB q w W
  row : EvRow W r x
  rq : w.heap.size ≤ r
  gr : g ≠ r

set_option maxRecDepth 100000 in
set_option maxHeartbeats 2000000 in
theorem l72Events_any (w0 w : World) (q : Nat) (v : Value) (zs : List Int) (p : Int) (h : Reader w0 w q v zs p) (hp2 : p ≤ 10000) (m : Nat) (hm1 : 1 ≤ m) (hm2 : m ≤ 14) :
    Calls Tryz.prog 48 #[.pointer (some ⟨q, 0, none⟩), .int .i64 (m : Int)] w fun e w' => ∃ (vl : Value) (es : List EvV) (p9 : Int), e = .returned vl ∧ es.length ≤ 14 ∧ p9 ≤ p + 500 ∧ Reader w0 w' q v zs p9 ∧ RowsFr w.heap.size 56 7 w' vl (es.map evRow) ∧ OnlyB q w w' := by
  obtain ⟨i7, hi7, hz70, hz71, hz72⟩ := infoT_parts infoT_EvH
  have hq : q < w.heap.size := World.block_lt_of_cell? w ⟨q, 0, none⟩ h.rd.c0
  have hw0 : w0.heap.size ≤ w.heap.size := h.below.size
  have hp0 := h.p0
  have ho0 : EvOwn w.heap.size (w.alloc (.cells #[] 56)) w.heap.size 0 [] := RowsFr.of_owns (fun r hr => by simp at hr) (World.ownsRow_lit w #[] 0 (Nat.le_refl _) (Nat.zero_le _) rfl)
  have hr0 := h.alloc (.cells #[] 56)
  have hn0 : OnlyB q w (w.alloc (.cells #[] 56)) := OnlyB.alloc w _ (by omega)
  have HO0 := hide ho0
  have HR0 := hide hr0
  have HN0 := hide hn0
  clear h ho0 hr0 hn0
  go_enter Tryz.func48, Tryz.ntmps48
  go_wp2_with fail
  generalize w.alloc (.cells #[] 56) = W1 at *
  refine (pick_any w0 _ q v zs _ (m : Int) (unhide HR0) (by omega) (by omega) (by omega)).mono ?_
  rintro e W2 ⟨x0, rfl, hx0, hy0, hr, ho⟩
  have HO2 := hide ((unhide HO0).only ho (by omega))
  have HR2 := hide hr
  have HN2 := hide ((unhide HN0).trans ho)
  clear hr ho HO0 HR0 HN0
  obtain ⟨n0, rfl⟩ := Int.eq_ofNat_of_zero_le hx0
  go_wp2_with fail
  go_loopw [5, 6] (fun l i wr => ∃ (n g cp : Nat) (p' : Int) (es : List EvV), i = .int .i64 n ∧ l = .slice (some ⟨g, 0, none⟩) es.length cp ∧ es.length + n ≤ 14 ∧ p' ≤ p + 1 + 30 * (14 - (n : Int)) ∧ Hid (EvOwn w.heap.size wr g cp es) ∧ Hid (Reader w0 wr q v zs p') ∧ Hid (OnlyB q w wr)) (fun _ i _ => (intOf i).toNat)
  case atStart => exact ⟨n0, w.heap.size, 0, _, [], rfl, rfl, by simp; omega, by omega, HO2, HR2, HN2⟩
  case round =>
    obtain ⟨n1, g, cp, p', es, rfl, rfl, hlen, hp', HO, HR, HN⟩ := hrel
    have hp0' := (unhide HR).p0
    by_cases hgt : n1 = 0
    · subst hgt
      go_wp2_with fail
      go_ret
      exact ⟨_, es, p', rfl, by omega, by omega, unhide HR, unhide HO, unhide HN⟩
    · obtain ⟨n, rfl⟩ : ∃ n, n1 = n + 1 := ⟨n1 - 1, by omega⟩
      have hgI : (0 : Int) < (n : Int) + 1 := by omega
      have hgb := (unhide HO).blk
      have hgb1 := hgb.1
      have hcp := (unhide HO).le
      have hcp1 := hcp.1
      have hcp2 := hcp.2
      unfold maxLen at hcp2
      clear hgb hcp
      go_wp2_with fail
      refine (l72Event_any w0 _ q v zs _ (unhide HR) (by omega)).mono ?_
      rintro e W3 ⟨x, p3, rfl, hp3, _, _, hr3, ho3⟩
      have hs3 := ho3.size
      have hDr : Drawn w0 w (W3.alloc (.cells #[.int .i64 x.time, .int .i64 x.to, .int .i64 x.src, .int .i64 x.count, .int .i64 x.n, .int .i64 x.kind, .int .i64 x.arg] 56)) q g cp W3.heap.size v zs p3 es x := by
        have h1 := (unhide HO).only ho3 (by omega)
        have hblk := h1.blk
        have hbA : Below W3.heap.size W3 (W3.alloc (.cells #[.int .i64 x.time, .int .i64 x.to, .int .i64 x.src, .int .i64 x.count, .int .i64 x.n, .int .i64 x.kind, .int .i64 x.arg] 56)) := (Below.refl _ _).alloc (Nat.le_refl _) _
        exact ⟨h1.on hbA, hr3.alloc _, ((unhide HN).trans ho3).then (by have := (unhide HN).size; omega) hbA, evRow_new W3 x _, Nat.le_trans (unhide HN).size hs3, by omega⟩
      have HDR := hide hDr
      have hp30 := hr3.p0
      clear hDr hr3 ho3 HO HR HN
      go_upto_region 6 with fail
      generalize W3.alloc (.cells #[.int .i64 x.time, .int .i64 x.to, .int .i64 x.src, .int .i64 x.count, .int .i64 x.n, .int .i64 x.kind, .int .i64 x.arg] 56) = W4 at *
      generalize W3.heap.size = r at *
      by_cases he0 : es.length = 0
      · have hd1 : decide ((0 : Int) < (es.length : Int)) = false := decide_eq_false (by omega)
        have hd2 : ((0 : Int) < (es.length : Int)) = False := eq_false (by omega)
        have hd3 : (0 < es.length) = False := eq_false (by omega)
        have HE0 := hide he0
        clear he0
        have hD := unhide HDR
        obtain ⟨e0, e1, e2, e3, e4, e5, e6, _⟩ := hD.row
        have hbA : Below W4.heap.size W4 (W4.alloc (.cells #[.int .i64 x.time, .int .i64 x.to, .int .i64 x.src, .int .i64 x.count, .int .i64 x.n, .int .i64 x.kind, .int .i64 x.arg] 56)) := (Below.refl _ _).alloc (Nat.le_refl _) _
        have hownA : (W4.alloc (.cells #[.int .i64 x.time, .int .i64 x.to, .int .i64 x.src, .int .i64 x.count, .int .i64 x.n, .int .i64 x.kind, .int .i64 x.arg] 56)).ownsRow w.heap.size 56 7 (.slice (some ⟨g, 0, none⟩) es.length cp) es.length (flatCells (es.map evRow)) := by
          have e := ownsOn hbA (RowsFr.owns (by omega) (evRow_len es) hD.own)
          rwa [List.length_map] at e
        have hsW : w.heap.size ≤ W4.heap.size := hD.on.size
        clear hD
        go_wp2_with (at_builtin; refine wpList_append_lies _ (by rfl) _ _ _ (by rfl) w.heap.size 56 i7 _ 7 56 slice_EvH hi7 hz70 hz71 hz72 (by rfl) (by omega) (.slice (some ⟨g, 0, none⟩) es.length cp) es.length (flatCells (es.map evRow)) (by rfl) hownA ⟨W4.heap.size, 0, none⟩ 1 1 (evCells x) (by rfl) (by rfl) (World.news_of_block (cs := #[.int .i64 x.time, .int .i64 x.to, .int .i64 x.src, .int .i64 x.count, .int .i64 x.n, .int .i64 x.kind, .int .i64 x.arg]) (t := 56) (fr := (0, 0)) (heap_alloc_new W4 _)) (by simp [Value.oneCell']) (by omega) (by unfold maxLen; omega) (by omega) (by simp; omega) (W4.heap.size + 1) (by simp) ?_; intro g2 cap2 w9 hown9 hgrow hat hlt9)
        have hgb : ∀ k, (Value.slice (some ⟨g, 0, none⟩) es.length cp).ownBlock = some k → w.heap.size ≤ k := fun k hk => (hownA.lt k hk).1
        have hr9 : EvOwn w.heap.size w9 g2 cap2 (es ++ [x]) := by
          unfold EvOwn
          rw [List.length_append, List.map_append]
          refine rowsFr_snoc (n := 7) (fun r hr => ?_) (by rw [List.length_map]; exact hown9)
          have := evRow_len (es ++ [x]); rw [List.map_append] at this; exact this r hr
        have ho9 : OnlyB q w w9 := OnlyB_grown ((unhide HDR).on.then (by omega) hbA) hgrow hgb hq
        have hd9 : Reader w0 w9 q v zs _ := Reader_grown ((unhide HDR).rd.alloc _) hgrow (fun e => by have := hgb q e.symm; omega) (fun k hk => Nat.le_trans hw0 (hgb k hk))
        have HR9 := hide hr9
        have HO9 := hide ho9
        have HD9 := hide hd9
        clear hr9 ho9 hd9 hown9 hgrow hat hlt9 hownA hgb hbA e0 e1 e2 e3 e4 e5 e6
        go_wp2_with fail
        go_roundw
        case rel => exact ⟨n, g2, cap2, _, es ++ [x], by simp, by simp, by simp; omega, by omega, HR9, HD9, HO9⟩
        case measure => simp [intOf]
      · have hd0 : (0 : Int) < (es.length : Int) := by omega
        go_wp2_with fail
        refine (pick_any w0 _ q v zs _ 4 (unhide HDR).rd (by omega) (by omega) (by omega)).mono ?_
        rintro e W5 ⟨c, rfl, hc0, hc1, hr5, ho5⟩
        have HD5 : Hid (Drawn w0 w W5 q g cp r v zs (p3 + 1) es x) := hide ⟨(unhide HDR).own.only ho5 (by omega), hr5, (unhide HDR).on.trans ho5, (unhide HDR).row.only ho5 (by have := (unhide HDR).rq; omega), (unhide HDR).rq, (unhide HDR).gr⟩
        clear hr5 ho5 HDR
        by_cases hc : c = 0
        · subst hc
          go_wp2_with fail
          refine (pick_any w0 _ q v zs _ (es.length : Int) (unhide HD5).rd (by omega) (by omega) (by omega)).mono ?_
          rintro e W6 ⟨d, rfl, hd1, hd2, hr6, ho6⟩
          obtain ⟨i, rfl⟩ := Int.eq_ofNat_of_zero_le hd1
          have hi : i < es.length := by omega
          have HD6 : Hid (Drawn w0 w W6 q g cp r v zs (p3 + 1 + 1) es x) := hide ⟨(unhide HD5).own.only ho6 (by omega), hr6, (unhide HD5).on.trans ho6, (unhide HD5).row.only ho6 (by have := (unhide HD5).rq; omega), (unhide HD5).rq, (unhide HD5).gr⟩
          clear hr6 ho6 HD5
          have hB := (unhide HD6).own.cells i hi
          generalize es[i] = y at *
          have y0 := hB 0 (by omega)
          have y1 := hB 1 (by omega)
          have y2 := hB 2 (by omega)
          have y3 := hB 3 (by omega)
          have y4 := hB 4 (by omega)
          have y5 := hB 5 (by omega)
          have y6 := hB 6 (by omega)
          simp [evRow] at y0 y1 y2 y3 y4 y5 y6
          clear hB
          have hD6 := unhide HD6
          obtain ⟨f0, f1, f2, f3, f4, f5, f6, ff⟩ := hD6.row
          have hrq := hD6.rq
          have hgr : ¬ g = r := hD6.gr
          have hgr2 : ¬ r = g := fun e => hgr e.symm
          clear hD6
          have ff0 := ff 0
          have ff1 := ff 1
          have ff2 := ff 2
          have ff3 := ff 3
          have ff4 := ff 4
          have ff5 := ff 5
          have ff6 := ff 6
          clear ff
          go_upto_region 8 with fail
          have HD7 : Hid (Drawn w0 w (put7 W6 r y) q g cp r v zs (p3 + 1 + 1) es y) := hide ⟨(unhide HD6).own.put7 hgr, (unhide HD6).rd.put7 (by omega) y, (unhide HD6).on.put7 hrq (by omega) y, put_row7 (unhide HD6).row y, hrq, hgr⟩
          change Code.wp _ _ _ _ (put7 W6 r y)
          clear HD6 f0 f1 f2 f3 f4 f5 f6 ff0 ff1 ff2 ff3 ff4 ff5 ff6 y0 y1 y2 y3 y4 y5 y6
          generalize put7 W6 r y = W7 at *
          go_wp2_with fail
          refine (pick_any w0 _ q v zs _ 3 (unhide HD7).rd (by omega) (by omega) (by omega)).mono ?_
          rintro e W8 ⟨z, rfl, hz1, hz2, hr8, ho8⟩
          have HD8 : Hid (Drawn w0 w W8 q g cp r v zs (p3 + 1 + 1 + 1) es y) := hide ⟨(unhide HD7).own.only ho8 (by omega), hr8, (unhide HD7).on.trans ho8, (unhide HD7).row.only ho8 (by omega), hrq, hgr⟩
          have f4 := (unhide HD8).row.c4
          have ff4 := (unhide HD8).row.fz 4
          clear hr8 ho8 HD7
          have HD9 : Hid (Drawn w0 w (W8.setCell ⟨r, 4, none⟩ (.int .i64 z)) q g cp r v zs (p3 + 1 + 1 + 1) es ⟨y.time, y.to, y.src, y.count, z, y.kind, y.arg⟩) := hide ⟨(unhide HD8).own.set1 hgr, (unhide HD8).rd.setNew (by omega) _, (unhide HD8).on.setNew hrq (by omega) _, set_n (unhide HD8).row z, hrq, hgr⟩
          go_upto_region 9 with fail
          generalize W8.setCell ⟨r, 4, none⟩ (.int .i64 z) = WA at *
          obtain ⟨yz, hyz⟩ : ∃ yz : EvV, yz = ⟨y.time, y.to, y.src, y.count, z, y.kind, y.arg⟩ := ⟨_, rfl⟩
          rw [← hyz] at HD9
          clear hyz HD8 f4 ff4
          have hD := unhide HD9
          obtain ⟨e0, e1, e2, e3, e4, e5, e6, _⟩ := hD.row
          have hbA : Below WA.heap.size WA (WA.alloc (.cells #[.int .i64 yz.time, .int .i64 yz.to, .int .i64 yz.src, .int .i64 yz.count, .int .i64 yz.n, .int .i64 yz.kind, .int .i64 yz.arg] 56)) := (Below.refl _ _).alloc (Nat.le_refl _) _
          have hownA : (WA.alloc (.cells #[.int .i64 yz.time, .int .i64 yz.to, .int .i64 yz.src, .int .i64 yz.count, .int .i64 yz.n, .int .i64 yz.kind, .int .i64 yz.arg] 56)).ownsRow w.heap.size 56 7 (.slice (some ⟨g, 0, none⟩) es.length cp) es.length (flatCells (es.map evRow)) := by
            have e := ownsOn hbA (RowsFr.owns (by omega) (evRow_len es) hD.own)
            rwa [List.length_map] at e
          have hsW : w.heap.size ≤ WA.heap.size := hD.on.size
          clear hD
          go_wp2_with (at_builtin; refine wpList_append_lies _ (by rfl) _ _ _ (by rfl) w.heap.size 56 i7 _ 7 56 slice_EvH hi7 hz70 hz71 hz72 (by rfl) (by omega) (.slice (some ⟨g, 0, none⟩) es.length cp) es.length (flatCells (es.map evRow)) (by rfl) hownA ⟨WA.heap.size, 0, none⟩ 1 1 (evCells yz) (by rfl) (by rfl) (World.news_of_block (cs := #[.int .i64 yz.time, .int .i64 yz.to, .int .i64 yz.src, .int .i64 yz.count, .int .i64 yz.n, .int .i64 yz.kind, .int .i64 yz.arg]) (t := 56) (fr := (0, 0)) (heap_alloc_new WA _)) (by simp [Value.oneCell']) (by omega) (by unfold maxLen; omega) (by omega) (by simp; omega) (WA.heap.size + 1) (by simp) ?_; intro g2 cap2 w9 hown9 hgrow hat hlt9)
          have hgb : ∀ k, (Value.slice (some ⟨g, 0, none⟩) es.length cp).ownBlock = some k → w.heap.size ≤ k := fun k hk => (hownA.lt k hk).1
          have hr9 : EvOwn w.heap.size w9 g2 cap2 (es ++ [yz]) := by
            unfold EvOwn
            rw [List.length_append, List.map_append]
            refine rowsFr_snoc (n := 7) (fun r hr => ?_) (by rw [List.length_map]; exact hown9)
            have := evRow_len (es ++ [yz]); rw [List.map_append] at this; exact this r hr
          have ho9 : OnlyB q w w9 := OnlyB_grown ((unhide HD9).on.then (by omega) hbA) hgrow hgb hq
          have hd9 : Reader w0 w9 q v zs _ := Reader_grown ((unhide HD9).rd.alloc _) hgrow (fun e => by have := hgb q e.symm; omega) (fun k hk => Nat.le_trans hw0 (hgb k hk))
          have HR9 := hide hr9
          have HO9 := hide ho9
          have HD9 := hide hd9
          clear hr9 ho9 hd9 hown9 hgrow hat hlt9 hownA hgb hbA e0 e1 e2 e3 e4 e5 e6
          go_wp2_with fail
          go_roundw
          case rel => exact ⟨n, g2, cap2, _, es ++ [yz], by simp, by simp, by simp; omega, by omega, HR9, HD9, HO9⟩
          case measure => simp [intOf]
        · have hcb : (c == 0) = false := by simp [hc]
          have hD := unhide HD5
          obtain ⟨e0, e1, e2, e3, e4, e5, e6, _⟩ := hD.row
          have hbA : Below W5.heap.size W5 (W5.alloc (.cells #[.int .i64 x.time, .int .i64 x.to, .int .i64 x.src, .int .i64 x.count, .int .i64 x.n, .int .i64 x.kind, .int .i64 x.arg] 56)) := (Below.refl _ _).alloc (Nat.le_refl _) _
          have hownA : (W5.alloc (.cells #[.int .i64 x.time, .int .i64 x.to, .int .i64 x.src, .int .i64 x.count, .int .i64 x.n, .int .i64 x.kind, .int .i64 x.arg] 56)).ownsRow w.heap.size 56 7 (.slice (some ⟨g, 0, none⟩) es.length cp) es.length (flatCells (es.map evRow)) := by
            have e := ownsOn hbA (RowsFr.owns (by omega) (evRow_len es) hD.own)
            rwa [List.length_map] at e
          have hsW : w.heap.size ≤ W5.heap.size := hD.on.size
          clear hD
          go_wp2_with (at_builtin; refine wpList_append_lies _ (by rfl) _ _ _ (by rfl) w.heap.size 56 i7 _ 7 56 slice_EvH hi7 hz70 hz71 hz72 (by rfl) (by omega) (.slice (some ⟨g, 0, none⟩) es.length cp) es.length (flatCells (es.map evRow)) (by rfl) hownA ⟨W5.heap.size, 0, none⟩ 1 1 (evCells x) (by rfl) (by rfl) (World.news_of_block (cs := #[.int .i64 x.time, .int .i64 x.to, .int .i64 x.src, .int .i64 x.count, .int .i64 x.n, .int .i64 x.kind, .int .i64 x.arg]) (t := 56) (fr := (0, 0)) (heap_alloc_new W5 _)) (by simp [Value.oneCell']) (by omega) (by unfold maxLen; omega) (by omega) (by simp; omega) (W5.heap.size + 1) (by simp) ?_; intro g2 cap2 w9 hown9 hgrow hat hlt9)
          have hgb : ∀ k, (Value.slice (some ⟨g, 0, none⟩) es.length cp).ownBlock = some k → w.heap.size ≤ k := fun k hk => (hownA.lt k hk).1
          have hr9 : EvOwn w.heap.size w9 g2 cap2 (es ++ [x]) := by
            unfold EvOwn
            rw [List.length_append, List.map_append]
            refine rowsFr_snoc (n := 7) (fun r hr => ?_) (by rw [List.length_map]; exact hown9)
            have := evRow_len (es ++ [x]); rw [List.map_append] at this; exact this r hr
          have ho9 : OnlyB q w w9 := OnlyB_grown ((unhide HD5).on.then (by omega) hbA) hgrow hgb hq
          have hd9 : Reader w0 w9 q v zs _ := Reader_grown ((unhide HD5).rd.alloc _) hgrow (fun e => by have := hgb q e.symm; omega) (fun k hk => Nat.le_trans hw0 (hgb k hk))
          have HR9 := hide hr9
          have HO9 := hide ho9
          have HD9 := hide hd9
          clear hr9 ho9 hd9 hown9 hgrow hat hlt9 hownA hgb hbA e0 e1 e2 e3 e4 e5 e6
          go_wp2_with fail
          go_roundw
          case rel => exact ⟨n, g2, cap2, _, es ++ [x], by simp, by simp, by simp; omega, by omega, HR9, HD9, HO9⟩
          case measure => simp [intOf]

end Go.Proofs.YtiljjhipiinafaaGreat.E
