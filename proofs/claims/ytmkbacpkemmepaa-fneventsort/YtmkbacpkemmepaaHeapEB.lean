/- impl's heap of events that has each once: newEventHeap, EventSort. -/
import Derived.Test.YtmkbacpkemmepaaHeapEA
namespace Go.Proofs.Ytmkbacpkemmepaa.E
open Go.RowKit
set_option linter.unusedVariables false
set_option linter.unusedSimpArgs false

set_option maxRecDepth 100000 in
set_option maxHeartbeats 1000000 in
theorem newEventHeap_any (S : Strict evLess) (vl : Value) (es : List EvV) (w : World) (h : RowsAt 7 w vl (es.map evRow)) (hx : es.length ≤ 1000000000) :
    Calls Try.prog 37 #[vl] w fun e w' => ∃ v xs, e = .returned (.pointer (some ⟨w.heap.size + 1, 0, none⟩)) ∧ EvHeap w.heap.size (w.heap.size + 1) w.heap.size v w' xs ∧ (∀ a, a ∈ xs ↔ a ∈ es) ∧ xs.length ≤ es.length ∧ Below w.heap.size w w' := by
  have hmm := @run_makeMap Try.prog
  have hb0 : Below w.heap.size w ((w.alloc (.map #[] 0)).alloc (.cells #[.slice none 0 0, .func (.func 10) #[] #[], .map (some w.heap.size)] 72)) := ((Below.refl _ _).alloc (Nat.le_refl _) _).alloc (by simp) _
  have hs1 : (w.alloc (.map #[] 0)).heap.size = w.heap.size + 1 := by simp
  have hm1 : MapOf ((w.alloc (.map #[] 0)).alloc (.cells #[.slice none 0 0, .func (.func 10) #[] #[], .map (some w.heap.size)] 72)) w.heap.size [] :=
    (MapOf.made w).block (((Below.refl _ _).alloc (Nat.le_refl _) _).block w.heap.size (by simp))
  have hE : EvHeap w.heap.size (w.heap.size + 1) w.heap.size (.slice none 0 0) ((w.alloc (.map #[] 0)).alloc (.cells #[.slice none 0 0, .func (.func 10) #[] #[], .map (some w.heap.size)] 72)) [] :=
    ⟨⟨Or.inl ⟨rfl, rfl⟩, by simp [Value.ownBlock], by simp [go_sem], by simp [go_sem]⟩, fun i => by simp [go_sem], by simp [go_sem], ⟨[], hm1, List.Perm.refl _⟩, heap_nil, by simp, by omega, by simp [Value.ownBlock], Nat.le_refl _, by omega, by simp; omega⟩
  have hl := h.on hb0
  have HL := hide hl
  have HB := hide hb0
  have HE := hide hE
  have HLA : Hid (es ≠ [] → ∀ ad n c, vl = .slice (some ad) n c → ¬ Its (w.heap.size + 1) w.heap.size (.slice none 0 0) ad.block) := hide (fun hne ad n c hv hi => by
    obtain ⟨ad', cap, hv', _, _, h3⟩ := h
    rw [hv'] at hv
    simp only [Value.slice.injEq] at hv
    obtain ⟨rfl, _, _⟩ := hv
    rcases h3 with h3 | ⟨b, off, h3, h4⟩
    · rw [List.map_eq_nil_iff] at h3; exact hne h3
    · simp only [Option.some.injEq] at h3
      subst h3
      have h5 := World.block_lt_of_cell? _ _ (h4 0 (by rw [List.length_map]; exact List.length_pos_iff.2 hne) 0 (by omega))
      rcases hi with h | h | h
      · simp at h h5; omega
      · simp at h h5; omega
      · simp [Value.ownBlock] at h)
  clear hb0 hm1 hE hl h
  go_enter Try.func37, Try.ntmps37
  go_wp2_with fail
  clear hmm
  generalize ((w.alloc (.map #[] 0)).alloc (.cells #[.slice none 0 0, .func (.func 10) #[] #[], .map (some w.heap.size)] 72)) = W1 at *
  refine (putAll_any S w.heap.size (w.heap.size + 1) w.heap.size _ vl [] es W1 (unhide HE) (unhide HL) (unhide HLA) (by simp; omega)).mono ?_
  rintro e w2 ⟨rfl, v2, xs2, hE2, hm2, hl2, ht2, _⟩
  have HE2 := hide hE2
  have HM2 := hide hm2
  have hb2 := ht2.below w.heap.size (unhide HB).size (fun x hx => ((unhide HE).its x hx).1)
  have HB2 := hide ((unhide HB).trans hb2)
  have hl3 : xs2.length ≤ es.length := by simpa using hl2
  clear hE2 hm2 ht2 hb2 hl2
  go_wp2_with fail
  go_ret
  exact ⟨v2, xs2, rfl, unhide HE2, fun a => by rw [(unhide HM2) a]; simp, hl3, unhide HB2⟩

set_option maxRecDepth 100000 in
theorem implEventSort_any (S : Strict evLess) (vl : Value) (es : List EvV) (w : World) (h : RowsAt 7 w vl (es.map evRow)) (hx : es.length ≤ 1000000000) :
    Calls Try.prog 14 #[vl] w fun e w' => ∃ vr zs, e = .returned vr ∧ Up evLess zs ∧ (∀ a, a ∈ zs ↔ a ∈ es) ∧ zs.length ≤ es.length ∧ RowsFr w.heap.size 24 7 w' vr (zs.map evRow) ∧ Below w.heap.size w w' := by
  have HH := hide h
  clear h
  go_enter Try.func14, Try.ntmps14
  go_wp2_with fail
  refine (newEventHeap_any S vl es w (unhide HH) hx).mono ?_
  rintro e w1 ⟨v, xs, rfl, hE, hm, hl, hb⟩
  have HE := hide hE
  have HM := hide hm
  have HB := hide hb
  clear hE hm hb
  go_wp2_with fail
  refine (takeAllEv_any S w.heap.size (w.heap.size + 1) v xs w1 (unhide HE).m (unhide HE).fz (unhide HE).hp (by omega)).mono ?_
  rintro e w2 ⟨vr, zs, rfl, hp2, ha2, hr2, hb2⟩
  have hB2 := (unhide HB).trans (hb2.below w.heap.size (by omega) (unhide HB).size (fun g hg => ((unhide HE).m.rows.blk g hg).1))
  go_wp2_with fail
  go_ret
  exact ⟨vr, zs, rfl, asc_up S ha2 (hp2.nodup_iff.2 (unhide HE).nd), fun a => by rw [hp2.mem_iff, (unhide HM) a], by rw [hp2.length_eq]; exact hl, hr2.less (unhide HB).size, hB2⟩
end Go.Proofs.Ytmkbacpkemmepaa.E
