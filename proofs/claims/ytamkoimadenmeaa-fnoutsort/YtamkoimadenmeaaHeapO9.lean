/- impl's heap of things let out: takeAll, newOutHeap, OutSort. -/
import Derived.Test.YtamkoimadenmeaaHeapO8
namespace Go.Proofs.Ytamkoimadenmeaa
open Go.RowKit
set_option linter.unusedVariables false
set_option linter.unusedSimpArgs false

set_option maxRecDepth 100000 in
set_option maxHeartbeats 1000000 in
theorem takeAllOut_any (S : Strict outLess) (N q : Nat) (v : Value) (os : List OutV) (w : World) (h : HeapM N 24 q v w os) (hfz : ∀ i, w.frozen? ⟨q, i, none⟩ = false) (hH : Heap outLess os) (hx : os.length ≤ 1000000000) :
    Calls Try.prog 18 #[.pointer (some ⟨q, 0, none⟩)] w fun e w' => ∃ vr zs, e = .returned vr ∧ zs.Perm os ∧ Asc outLess zs ∧ RowsFr w.heap.size 24 5 w' vr (zs.map outRow) ∧ Both q v w w' := by
  obtain ⟨i7, hi7, hz70, hz71, hz72⟩ := infoT_parts infoT_Out
  have hq : q < w.heap.size := World.block_lt_of_cell? w ⟨q, 0, none⟩ h.c0
  have hvl : ∀ g, v.ownBlock = some g → g < w.heap.size := fun g hg => (h.rows.blk g hg).2
  have HVL := hide hvl
  have HH := hide h
  have HHP := hide hH
  have HFZ := hide hfz
  clear h hH hfz hvl
  go_enter Try.func18, Try.ntmps18
  go_wp2_with fail
  go_loopw [3] (fun l wr => ∃ (ys xs : List OutV) (vh : Value), Hid ((ys ++ xs).Perm os) ∧ Hid (Asc outLess ys) ∧ Hid (∀ y ∈ ys, ∀ x ∈ xs, outLess x y = false) ∧ Hid (Heap outLess xs) ∧ Hid (HeapM N 24 q vh wr xs) ∧ Hid (vh.ownBlock = v.ownBlock) ∧ Hid (∀ i, wr.frozen? ⟨q, i, none⟩ = false) ∧ Hid (RowsFr w.heap.size 24 5 wr l (ys.map outRow)) ∧ Hid (Both q v w wr)) (fun l _ => os.length - lenV l)
  case atStart => exact ⟨[], os, v, hide (List.Perm.refl _), hide List.Pairwise.nil, hide (fun y hy => by simp at hy), HHP, HH, hide rfl, HFZ, hide (Or.inl ⟨rfl, rfl⟩), hide (Both.refl _ _ _)⟩
  case round =>
    obtain ⟨ys, xs, vh, HP, HA, HL, HX, HM, HV, HF, HR, HB⟩ := hrel
    obtain ⟨la, lc, rfl⟩ := (unhide HR).sliced
    have hlen : ys.length + xs.length = os.length := by rw [← List.length_append]; exact (unhide HP).length_eq
    rw [List.length_map] at HR ⊢
    obtain ⟨ha, hc, hvh⟩ : ∃ a c, vh = .slice a xs.length c := by
      have := (unhide HM).rows.sliced; rwa [List.length_map] at this
    subst hvh
    have c0 := (unhide HM).c0
    by_cases hlt : 0 < xs.length
    · have hgt : (0 : Int) < (xs.length : Int) := by omega
      go_wp2_with fail
      have HA0 : Hid (xs[0]? = some xs[0]) := hide (List.getElem?_eq_getElem hlt)
      generalize xs[0] = a at *
      refine (takeOut_any S N q _ xs a _ (unhide HM) (unhide HF) (unhide HX) (unhide HA0) (by omega)).mono ?_
      rintro e w2 ⟨rfl, v2, xs2, hp2, hh2, hm2, hb2, hv2, hf2, _⟩
      have hvl2 : (Value.slice la ys.length lc).ownBlock ≠ some q := fun e => by have := ((unhide HR).blk q e).1; omega
      have hvl3 : (Value.slice la ys.length lc).ownBlock = none ∨ (Value.slice la ys.length lc).ownBlock ≠ (Value.slice ha xs.length hc).ownBlock := by
        cases e : (Value.slice la ys.length lc).ownBlock with
        | none => exact Or.inl rfl
        | some b =>
          refine Or.inr (fun e2 => ?_)
          have h1 := ((unhide HR).blk b e).1
          have h2 := (unhide HVL) b ((unhide HV).symm.trans e2.symm)
          omega
      have hr2 := hb2.rows (unhide HR) hvl2 hvl3
      have hbA : Below w2.heap.size w2 (w2.alloc (.cells #[.int .i64 a.time, .int .i64 a.proc, .int .i64 a.count, .int .i64 a.n, .int .i64 a.value] 24)) := (Below.refl _ _).alloc (Nat.le_refl _) _
      have hownA : (w2.alloc (.cells #[.int .i64 a.time, .int .i64 a.proc, .int .i64 a.count, .int .i64 a.n, .int .i64 a.value] 24)).ownsRow w.heap.size 24 5 (.slice la ys.length lc) ys.length (flatCells (ys.map outRow)) := by
        have e := ownsOn hbA (hr2.owns (by omega) (outRow_len ys))
        rwa [List.length_map] at e
      have HB2 := hide (((unhide HB).then hb2 (fun g hg => Or.inl ((unhide HV).symm.trans hg))))
      have hs2 : w.heap.size ≤ w2.heap.size := (unhide HB2).size
      have HM2 := hide hm2
      have HP2 := hide hp2
      have HH2 := hide hh2
      have HV2 := hide (hv2.trans (unhide HV))
      have HF2 := hide hf2
      have HBA := hide hbA
      clear hm2 hp2 hh2 hv2 hf2 hr2 hb2 hbA
      go_wp2_with (at_builtin; refine wpList_append_lies _ (by rfl) _ _ _ (by rfl) w.heap.size 24 i7 _ 5 40 slice_OutT hi7 hz70 hz71 hz72 (by rfl) (by omega) (.slice la ys.length lc) ys.length (flatCells (ys.map outRow)) (by rfl) hownA ⟨w2.heap.size, 0, none⟩ 1 1 (outCells a) (by rfl) (by rfl) (World.news_of_block (cs := #[.int .i64 a.time, .int .i64 a.proc, .int .i64 a.count, .int .i64 a.n, .int .i64 a.value]) (t := 24) (fr := (0, 0)) (heap_alloc_new w2 _)) (by simp [Value.oneCell']) (by omega) (by unfold maxLen; omega) (by omega) (by simp; omega) (w2.heap.size + 1) (by simp) ?_; intro gg cap w3 hown3 hgrow hat hlt3)
      have hfar : ∀ b, b < w.heap.size → w3.heap[b]? = w2.heap[b]? := fun b hb => by
        rw [hgrow.block b (by simp; omega) (fun e => by have := ((unhide HR).blk b e.symm).1; omega), (unhide HBA).block b (by omega)]
      have hm3 := (unhide HM2).block (hfar q hq) (fun g hg => hfar g ((unhide HVL) g ((unhide HV2).symm.trans hg)))
      have hb3 := (unhide HB2).later (unhide HBA) hgrow (fun g hg => ((unhide HR).blk g hg).1)
      have hr3 : RowsFr w.heap.size 24 5 w3 (.slice (some ⟨gg, 0, none⟩) (ys.length + 1) cap) ((ys ++ [a]).map outRow) := by
        rw [List.map_append]
        refine rowsFr_snoc (n := 5) (fun r hr => ?_) (by rw [List.length_map]; exact hown3)
        have := outRow_len (ys ++ [a]); rw [List.map_append] at this; exact this r hr
      have hfirst := heap_first S (unhide HX) (unhide HA0)
      have hmem : ∀ x ∈ xs2, x ∈ xs := fun x hx => (unhide HP2).mem_iff.1 (List.mem_cons_of_mem _ hx)
      have hain : a ∈ xs := (unhide HP2).mem_iff.1 (List.mem_cons_self ..)
      have hF3 := frozen_block (hfar q hq) (unhide HF2)
      go_wp2_with fail
      go_roundw
      case rel =>
        refine ⟨ys ++ [a], xs2, v2, hide ?_, hide ?_, hide ?_, HH2, hide hm3, HV2, hide hF3, hide hr3, hide hb3⟩
        · rw [List.append_assoc]
          exact (List.Perm.append_left ys (unhide HP2)).trans (unhide HP)
        · exact asc_snoc (unhide HA) (fun y hy => (unhide HL) y hy a hain)
        · intro y hy x hx
          rcases List.mem_append.1 hy with h | h
          · exact (unhide HL) y h x (hmem x hx)
          · obtain rfl : y = a := by simpa using h
            exact hfirst x (hmem x hx)
      case measure => simp [lenV]; omega
    · have hx0 : xs = [] := List.length_eq_zero_iff.1 (by omega)
      subst hx0
      go_wp2_with fail
      go_ret
      exact ⟨_, ys, rfl, by have := unhide HP; rwa [List.append_nil] at this, unhide HA, unhide HR, unhide HB⟩

set_option maxRecDepth 100000 in
set_option maxHeartbeats 1000000 in
theorem newOutHeap_any (S : Strict outLess) (v0 : Value) (os : List OutV) (w : World) (h : RowsAt 5 w v0 (os.map outRow)) (hx : os.length ≤ 1000000000) :
    Calls Try.prog 17 #[v0] w fun e w' => ∃ v xs, e = .returned (.pointer (some ⟨w.heap.size, 0, none⟩)) ∧ xs.Perm os ∧ Heap outLess xs ∧ HeapM w.heap.size 24 w.heap.size v w' xs ∧ (∀ i, w'.frozen? ⟨w.heap.size, i, none⟩ = false) ∧ Below w.heap.size w w' := by
  obtain ⟨ad, cap, rfl, hlc, hm, hc⟩ := h
  rw [List.length_map] at *
  unfold maxLen at hm
  have HC := hide hc
  clear hc
  have hb0 : Below w.heap.size w (w.alloc (.cells #[.slice none 0 0, .func (.func 6) #[] #[]] 49)) := (Below.refl _ _).alloc (Nat.le_refl _) _
  have hm0 : HeapM w.heap.size 24 w.heap.size (.slice none 0 0) (w.alloc (.cells #[.slice none 0 0, .func (.func 6) #[] #[]] 49)) [] := ⟨Or.inl ⟨rfl, rfl⟩, by simp [Value.ownBlock], by simp [go_sem], by simp [go_sem]⟩
  have hf0 : ∀ i, (w.alloc (.cells #[.slice none 0 0, .func (.func 6) #[] #[]] 49)).frozen? ⟨w.heap.size, i, none⟩ = false := fun i => by simp [go_sem]
  have HB0 := hide hb0
  have HM0 := hide hm0
  have HF0 := hide hf0
  clear hb0 hm0 hf0
  go_enter Try.func17, Try.ntmps17
  go_wp2_with fail
  generalize (w.alloc (.cells #[.slice none 0 0, .func (.func 6) #[] #[]] 49)) = W1 at *
  go_loopw [10] (fun i wr => ∃ (k : Nat) (xs : List OutV) (v : Value), k ≤ os.length ∧ i = .int .i64 k ∧ Hid (xs.Perm (os.take k)) ∧ Hid (Heap outLess xs) ∧ Hid (HeapM w.heap.size 24 w.heap.size v wr xs) ∧ Hid (∀ i, wr.frozen? ⟨w.heap.size, i, none⟩ = false) ∧ Hid (Below w.heap.size w wr)) (fun i _ => os.length - (intOf i).toNat)
  case atStart => exact ⟨0, [], _, Nat.zero_le _, rfl, hide (by simp), hide heap_nil, HM0, HF0, HB0⟩
  case round =>
    obtain ⟨k, xs, v, hk, rfl, HP, HX, HM, HF, HB⟩ := hrel
    by_cases hlt : k < os.length
    · have hkI : (k : Int) < (os.length : Int) := by omega
      have hk0 : (0 : Int) ≤ (k : Int) := by omega
      obtain ⟨b, off, had, hcell⟩ : ∃ b off, ad = some ⟨b, off, none⟩ ∧ ∀ j, j < 5 → wr.cell? ⟨b, off + k * 5 + j, none⟩ = some (.int .i64 ((outRow os[k]).getD j 0)) := by
        rcases unhide HC with h | ⟨b, off, h1, h2⟩
        · rw [List.map_eq_nil_iff] at h; subst h; simp at hlt
        · refine ⟨b, off, h1, fun j hj => ?_⟩
          have := cell_on (unhide HB) (h2 k (by rw [List.length_map]; exact hlt) j hj)
          rwa [List.getElem_map] at this
      subst had
      have HXK : Hid (os.take (k + 1) = os.take k ++ [os[k]]) := hide (take_more os k hlt)
      generalize os[k] = x at *
      have p0 := hcell 0 (by omega)
      have p1 := hcell 1 (by omega)
      have p2 := hcell 2 (by omega)
      have p3 := hcell 3 (by omega)
      have p4 := hcell 4 (by omega)
      simp [outRow] at p0 p1 p2 p3 p4
      clear hcell
      have hxl : xs.length = k := by rw [(unhide HP).length_eq, List.length_take]; omega
      have hbs := (unhide HB).size
      go_wp2_with fail
      have hbA : Below wr.heap.size wr (wr.alloc (.cells #[.int .i64 x.time, .int .i64 x.proc, .int .i64 x.count, .int .i64 x.n, .int .i64 x.value] 24)) := (Below.refl _ _).alloc (Nat.le_refl _) _
      refine (putOut_any S w.heap.size w.heap.size v xs x _ ((unhide HM).on hbA) (fun i => by rw [hbA.frozen (p := ⟨w.heap.size, i, none⟩) (World.block_lt_of_cell? _ ⟨w.heap.size, 0, none⟩ (unhide HM).c0)]; exact (unhide HF) i) (unhide HX) (by simp; omega) (by omega)).mono ?_
      rintro e w2 ⟨rfl, v2, xs2, hp2, hh2, hm2, hb2, _, hf2, _⟩
      have hbw := below_then (unhide HB) hbA
      have hB2 : Below w.heap.size w w2 := hbw.trans (hb2.below w.heap.size (Nat.le_refl _) hbw.size (fun g hg => ((unhide HM).rows.blk g hg).1))
      go_wp2_with fail
      go_roundw
      case rel => exact ⟨k + 1, xs2, v2, by omega, by simp, hide (by rw [unhide HXK]; exact hp2.trans (List.Perm.append_right [x] (unhide HP))), hide hh2, hide hm2, hide hf2, hide hB2⟩
      case measure => simp [intOf]; omega
    · have hke : k = os.length := by omega
      subst hke
      go_wp2_with fail
      go_ret
      exact ⟨v, xs, rfl, by have := unhide HP; rwa [List.take_length] at this, unhide HX, unhide HM, unhide HF, unhide HB⟩

set_option maxRecDepth 100000 in
theorem implOutSort_any (S : Strict outLess) (v0 : Value) (os : List OutV) (w : World) (h : RowsAt 5 w v0 (os.map outRow)) (hx : os.length ≤ 1000000000) :
    Calls Try.prog 10 #[v0] w fun e w' => ∃ vr zs, e = .returned vr ∧ zs.Perm os ∧ Asc outLess zs ∧ RowsFr w.heap.size 24 5 w' vr (zs.map outRow) ∧ Below w.heap.size w w' := by
  have HH := hide h
  clear h
  go_enter Try.func10, Try.ntmps10
  go_wp2_with fail
  refine (newOutHeap_any S v0 os w (unhide HH) hx).mono ?_
  rintro e w1 ⟨v, xs, rfl, hp, hh, hm, hf, hb⟩
  have HM := hide hm
  have HP := hide hp
  have HB := hide hb
  have HF := hide hf
  have hl : xs.length = os.length := hp.length_eq
  clear hm hp hb hf
  go_wp2_with fail
  refine (takeAllOut_any S w.heap.size w.heap.size v xs w1 (unhide HM) (unhide HF) hh (by omega)).mono ?_
  rintro e w2 ⟨vr, zs, rfl, hp2, ha2, hr2, hb2⟩
  have hB2 := (unhide HB).trans (hb2.below w.heap.size (Nat.le_refl _) (unhide HB).size (fun g hg => ((unhide HM).rows.blk g hg).1))
  go_wp2_with fail
  go_ret
  exact ⟨vr, zs, rfl, hp2.trans (unhide HP), ha2, hr2.less (unhide HB).size, hB2⟩
end Go.Proofs.Ytamkoimadenmeaa
