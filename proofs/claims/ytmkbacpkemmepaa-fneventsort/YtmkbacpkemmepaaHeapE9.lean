/- impl's heap of events: takeAll, newOutHeap, OutSort. -/
import Derived.Test.YtmkbacpkemmepaaHeapE8
namespace Go.Proofs.Ytmkbacpkemmepaa.E
open Go.RowKit
set_option linter.unusedVariables false
set_option linter.unusedSimpArgs false

set_option maxRecDepth 100000 in
set_option maxHeartbeats 1000000 in
theorem takeAllEv_any (S : Strict evLess) (N q : Nat) (v : Value) (os : List EvV) (w : World) (h : HeapM N 24 q v w os) (hfz : ∀ i, w.frozen? ⟨q, i, none⟩ = false) (hH : Heap evLess os) (hx : os.length ≤ 1000000000) :
    Calls Try.prog 38 #[.pointer (some ⟨q, 0, none⟩)] w fun e w' => ∃ vr zs, e = .returned vr ∧ zs.Perm os ∧ Asc evLess zs ∧ RowsFr w.heap.size 24 7 w' vr (zs.map evRow) ∧ Both q v w w' := by
  obtain ⟨i7, hi7, hz70, hz71, hz72⟩ := infoT_parts infoT_EvH
  have hq : q < w.heap.size := World.block_lt_of_cell? w ⟨q, 0, none⟩ h.c0
  have hvl : ∀ g, v.ownBlock = some g → g < w.heap.size := fun g hg => (h.rows.blk g hg).2
  have HVL := hide hvl
  have HH := hide h
  have HHP := hide hH
  have HFZ := hide hfz
  clear h hH hfz hvl
  go_enter Try.func38, Try.ntmps38
  go_wp2_with fail
  go_loopw [3] (fun l wr => ∃ (ys xs : List EvV) (vh : Value), Hid ((ys ++ xs).Perm os) ∧ Hid (Asc evLess ys) ∧ Hid (∀ y ∈ ys, ∀ x ∈ xs, evLess x y = false) ∧ Hid (Heap evLess xs) ∧ Hid (HeapM N 24 q vh wr xs) ∧ Hid (vh.ownBlock = v.ownBlock) ∧ Hid (∀ i, wr.frozen? ⟨q, i, none⟩ = false) ∧ Hid (RowsFr w.heap.size 24 7 wr l (ys.map evRow)) ∧ Hid (Both q v w wr)) (fun l _ => os.length - lenV l)
  case atStart => exact ⟨[], os, v, hide (List.Perm.refl _), hide List.Pairwise.nil, hide (fun y hy => by simp at hy), HHP, HH, hide rfl, HFZ, hide (Or.inl ⟨rfl, rfl⟩), hide (Both.refl _ _ _)⟩
  case round =>
    obtain ⟨ys, xs, vh, HP, HA, HL, HX, HM, HV, HF, HR, HB⟩ := hrel
    obtain ⟨la, lc, rfl⟩ := (unhide HR).sliced
    have hlen : ys.length + xs.length = os.length := by rw [← List.length_append]; exact (unhide HP).length_eq
    rw [List.length_map] at HR ⊢
    obtain ⟨ha, hc, hvh⟩ : ∃ a c, vh = .slice a xs.length c := by
      have := (unhide HM).rows.sliced; rwa [List.length_map] at this
    subst hvh
    have c0 := (unhide HM).c0
    by_cases hlt : 0 < xs.length
    · have hgt : (0 : Int) < (xs.length : Int) := by omega
      go_wp2_with fail
      have HA0 : Hid (xs[0]? = some xs[0]) := hide (List.getElem?_eq_getElem hlt)
      generalize xs[0] = a at *
      refine (takeEv_any S N q _ xs a _ (unhide HM) (unhide HF) (unhide HX) (unhide HA0) (by omega)).mono ?_
      rintro e w2 ⟨rfl, v2, xs2, hp2, hh2, hm2, hb2, hv2, hf2, _⟩
      have hvl2 : (Value.slice la ys.length lc).ownBlock ≠ some q := fun e => by have := ((unhide HR).blk q e).1; omega
      have hvl3 : (Value.slice la ys.length lc).ownBlock = none ∨ (Value.slice la ys.length lc).ownBlock ≠ (Value.slice ha xs.length hc).ownBlock := by
        cases e : (Value.slice la ys.length lc).ownBlock with
        | none => exact Or.inl rfl
        | some b =>
          refine Or.inr (fun e2 => ?_)
          have h1 := ((unhide HR).blk b e).1
          have h2 := (unhide HVL) b ((unhide HV).symm.trans e2.symm)
          omega
      have hr2 := hb2.rows (unhide HR) hvl2 hvl3
      have hbA : Below w2.heap.size w2 (w2.alloc (.cells #[.int .i64 a.time, .int .i64 a.to, .int .i64 a.src, .int .i64 a.count, .int .i64 a.n, .int .i64 a.kind, .int .i64 a.arg] 24)) := (Below.refl _ _).alloc (Nat.le_refl _) _
      have hownA : (w2.alloc (.cells #[.int .i64 a.time, .int .i64 a.to, .int .i64 a.src, .int .i64 a.count, .int .i64 a.n, .int .i64 a.kind, .int .i64 a.arg] 24)).ownsRow w.heap.size 24 7 (.slice la ys.length lc) ys.length (flatCells (ys.map evRow)) := by
        have e := ownsOn hbA (hr2.owns (by omega) (evRow_len ys))
        rwa [List.length_map] at e
      have HB2 := hide (((unhide HB).then hb2 (fun g hg => Or.inl ((unhide HV).symm.trans hg))))
      have hs2 : w.heap.size ≤ w2.heap.size := (unhide HB2).size
      have HM2 := hide hm2
      have HP2 := hide hp2
      have HH2 := hide hh2
      have HV2 := hide (hv2.trans (unhide HV))
      have HF2 := hide hf2
      have HBA := hide hbA
      clear hm2 hp2 hh2 hv2 hf2 hr2 hb2 hbA
      go_wp2_with (at_builtin; refine wpList_append_lies _ (by rfl) _ _ _ (by rfl) w.heap.size 24 i7 _ 7 56 slice_EvH hi7 hz70 hz71 hz72 (by rfl) (by omega) (.slice la ys.length lc) ys.length (flatCells (ys.map evRow)) (by rfl) hownA ⟨w2.heap.size, 0, none⟩ 1 1 (evCells a) (by rfl) (by rfl) (World.news_of_block (cs := #[.int .i64 a.time, .int .i64 a.to, .int .i64 a.src, .int .i64 a.count, .int .i64 a.n, .int .i64 a.kind, .int .i64 a.arg]) (t := 24) (fr := (0, 0)) (heap_alloc_new w2 _)) (by simp [Value.oneCell']) (by omega) (by unfold maxLen; omega) (by omega) (by simp; omega) (w2.heap.size + 1) (by simp) ?_; intro gg cap w3 hown3 hgrow hat hlt3)
      have hfar : ∀ b, b < w.heap.size → w3.heap[b]? = w2.heap[b]? := fun b hb => by
        rw [hgrow.block b (by simp; omega) (fun e => by have := ((unhide HR).blk b e.symm).1; omega), (unhide HBA).block b (by omega)]
      have hm3 := (unhide HM2).block (hfar q hq) (fun g hg => hfar g ((unhide HVL) g ((unhide HV2).symm.trans hg)))
      have hb3 := (unhide HB2).later (unhide HBA) hgrow (fun g hg => ((unhide HR).blk g hg).1)
      have hr3 : RowsFr w.heap.size 24 7 w3 (.slice (some ⟨gg, 0, none⟩) (ys.length + 1) cap) ((ys ++ [a]).map evRow) := by
        rw [List.map_append]
        refine rowsFr_snoc (n := 7) (fun r hr => ?_) (by rw [List.length_map]; exact hown3)
        have := evRow_len (ys ++ [a]); rw [List.map_append] at this; exact this r hr
      have hfirst := heap_first S (unhide HX) (unhide HA0)
      have hmem : ∀ x ∈ xs2, x ∈ xs := fun x hx => (unhide HP2).mem_iff.1 (List.mem_cons_of_mem _ hx)
      have hain : a ∈ xs := (unhide HP2).mem_iff.1 (List.mem_cons_self ..)
      have hF3 := frozen_block (hfar q hq) (unhide HF2)
      go_wp2_with fail
      go_roundw
      case rel =>
        refine ⟨ys ++ [a], xs2, v2, hide ?_, hide ?_, hide ?_, HH2, hide hm3, HV2, hide hF3, hide hr3, hide hb3⟩
        · rw [List.append_assoc]
          exact (List.Perm.append_left ys (unhide HP2)).trans (unhide HP)
        · exact asc_snoc (unhide HA) (fun y hy => (unhide HL) y hy a hain)
        · intro y hy x hx
          rcases List.mem_append.1 hy with h | h
          · exact (unhide HL) y h x (hmem x hx)
          · obtain rfl : y = a := by simpa using h
            exact hfirst x (hmem x hx)
      case measure => simp [lenV]; omega
    · have hx0 : xs = [] := List.length_eq_zero_iff.1 (by omega)
      subst hx0
      go_wp2_with fail
      go_ret
      exact ⟨_, ys, rfl, by have := unhide HP; rwa [List.append_nil] at this, unhide HA, unhide HR, unhide HB⟩

end Go.Proofs.Ytmkbacpkemmepaa.E
