/- spec.DrawWordUnpack: some bytes. -/
import Derived.Test.YtiljjhipiinafaaGreatWire19
import Derived.Test.YtiljjhipiinafaaGreatDrC
import Derived.Test.YtiljjhipiinafaaGreatAppAny
import Derived.Test.YtiljjhipiinafaaGreatHeapC
import Derived.Deep.Cut
import Derived.Deep.RegionHeld3
import Derived.BigRegion
namespace Go.Proofs.YtiljjhipiinafaaGreat
open Go.RowKit
set_option linter.unusedVariables false
set_option linter.unusedSimpArgs false

theorem ByFr.bytesD {N t : Nat} {w : World} {v : Value} {bs : List Int} (h : ByFr N t w v bs) (hr : ∀ z ∈ bs, 0 ≤ z ∧ z ≤ 255) : BytesAt w v bs := by
  have ha := h.at
  rcases h with ⟨rfl, rfl⟩ | ⟨g, cap, f, rfl, _, hl, hm, hrow, hf⟩
  · exact ⟨none, 0, rfl, Nat.le_refl _, Nat.zero_le _, (fun z hz => by cases hz), fun _ => rfl, Or.inl rfl⟩
  · obtain ⟨ad, cap', e, _, _, hc⟩ := ha
    simp only [Value.slice.injEq] at e
    obtain ⟨rfl, _, rfl⟩ := e
    exact ⟨some ⟨g, 0, none⟩, cap, rfl, hl, hm, hr, (fun h => by cases h), hc⟩
theorem ByFr.cellAt {N t g n cap : Nat} {w : World} {bs : List Int} (h : ByFr N t w (.slice (some ⟨g, 0, none⟩) n cap) bs) : n = bs.length ∧ bs.length ≤ cap ∧ cap ≤ maxLen ∧ N ≤ g ∧ g < w.heap.size ∧ ∀ i, i < bs.length → w.cell? ⟨g, i, none⟩ = some (.int .u8 (bs.getD i 0)) ∧ w.frozen? ⟨g, i, none⟩ = false := by
  rcases h with ⟨h, _⟩ | ⟨g', cap', f, hv, hN, hl, hm, hr, hf⟩
  · cases h
  · simp only [Value.slice.injEq, Option.some.injEq, Addr.mk.injEq, and_true] at hv
    obtain ⟨rfl, h2, h3⟩ := hv
    exact ⟨h2, by omega, by omega, hN, hr.lt, fun i hi => ⟨by rw [hr.cell (i := i) (by omega), hf i hi], hr.frozen i⟩⟩
theorem bytes_take {w : World} {g n cap k : Nat} {bs : List Int} (h : BytesAt w (.slice (some ⟨g, 0, none⟩) n cap) bs) (hk : k ≤ n) : BytesAt w (.slice (some ⟨g, 0, none⟩) k cap) (bs.take k) := by
  obtain ⟨ad, c, hv, hl, hm, hr, hn, hc⟩ := h
  simp only [Value.slice.injEq] at hv
  obtain ⟨rfl, h2, rfl⟩ := hv
  have hkl : (bs.take k).length = k := by rw [List.length_take]; omega
  refine ⟨_, _, by rw [hkl], by omega, hm, fun z hz => hr z (List.mem_of_mem_take hz), hn, ?_⟩
  rcases hc with rfl | ⟨b, off, e, hc⟩
  · exact Or.inl (by simp)
  · refine Or.inr ⟨b, off, e, fun i hi => ?_⟩
    rw [hkl] at hi
    rw [hc i (by omega)]
    simp
theorem bytes_set {N t g n cap k : Nat} {w : World} {bs : List Int} {x : Int} (h : ByFr N t w (.slice (some ⟨g, 0, none⟩) n cap) bs) (hk : k < bs.length) (hr : ∀ z ∈ bs, 0 ≤ z ∧ z ≤ 255) (hx : 0 ≤ x ∧ x ≤ 255) : BytesAt (w.setCell ⟨g, k, none⟩ (.int .u8 x)) (.slice (some ⟨g, 0, none⟩) n cap) (bs.set k x) := by
  obtain ⟨hn, hl, hm, _, hg, hc⟩ := h.cellAt
  subst hn
  refine ⟨_, _, by rw [List.length_set], by rw [List.length_set]; exact hl, hm, fun z hz => ?_, (fun e => by cases e), Or.inr ⟨g, 0, rfl, fun i hi => ?_⟩⟩
  · rcases List.mem_or_eq_of_mem_set hz with h1 | rfl
    · exact hr z h1
    · exact hx
  · rw [List.length_set] at hi
    rw [Nat.zero_add]
    have h1 := (hc i hi).1
    have h2 := (hc k hk).1
    by_cases e : i = k
    · subst e
      simp [go_sem, h1]
    · have e2 : ¬ k = i := fun h => e h.symm
      simp [go_sem, h1, List.getElem_set, e, e2, hi]
theorem one_u8 (bs : List Int) : ∀ u ∈ bs.map (Value.int .u8), u.oneCell' = true := fun u hu => by
  obtain ⟨x, _, rfl⟩ := List.mem_map.1 hu
  rfl
theorem news_take {N t g n cap k : Nat} {w : World} {bs : List Int} (h : ByFr N t w (.slice (some ⟨g, 0, none⟩) n cap) bs) (hk : k < bs.length) : ∀ j u, ((bs.take k).map (Value.int .u8))[j]? = some u → w.cell? ((⟨g, 0, none⟩ : Addr).add j) = some u := by
  intro j u hj
  rw [List.getElem?_map] at hj
  have hjl : j < (bs.take k).length := by
    rcases Nat.lt_or_ge j (bs.take k).length with h1 | h1
    · exact h1
    · rw [List.getElem?_eq_none h1] at hj; cases hj
  rw [List.getElem?_eq_getElem hjl] at hj
  simp only [Option.map_some, Option.some.injEq] at hj
  rw [List.length_take] at hjl
  have h1 := ((h.cellAt).2.2.2.2.2 j (by omega)).1
  rw [show ((⟨g, 0, none⟩ : Addr).add j) = ⟨g, j, none⟩ from by simp [Addr.add]; omega, h1, ← hj]
  have h2 : j < bs.length := by omega
  simp [List.getD, h2]
theorem news_drop {N t g n cap k : Nat} {w : World} {bs : List Int} (h : ByFr N t w (.slice (some ⟨g, 0, none⟩) n cap) bs) (hk : k < bs.length) : ∀ j u, ((bs.drop k).map (Value.int .u8))[j]? = some u → w.cell? ((⟨g, k, none⟩ : Addr).add j) = some u := by
  intro j u hj
  rw [List.getElem?_map] at hj
  have hjl : j < (bs.drop k).length := by
    rcases Nat.lt_or_ge j (bs.drop k).length with h1 | h1
    · exact h1
    · rw [List.getElem?_eq_none h1] at hj; cases hj
  rw [List.getElem?_eq_getElem hjl] at hj
  simp only [Option.map_some, Option.some.injEq] at hj
  rw [List.length_drop] at hjl
  have h1 := ((h.cellAt).2.2.2.2.2 (k + j) (by omega)).1
  rw [show ((⟨g, k, none⟩ : Addr).add j) = ⟨g, k + j, none⟩ from by simp [Addr.add], h1, ← hj]
  have h2 : k + j < bs.length := by omega
  simp [List.getD, h2]
set_option maxRecDepth 100000 in
set_option maxHeartbeats 8000000 in
theorem DrawWordUnpack_any (v : Value) (zs : List Int) (w : World) (h : BytesAt w v zs) :
    Calls Tryz.prog 4 #[v] w fun e w' => ∃ (vb : Value) (bs : List Int), e = .returned vb ∧ BytesAt w' vb bs ∧ bs.length ≤ 4000 ∧ Below w.heap.size w w' := by
  obtain ⟨i5, hi5, hz0, hz1, hz2⟩ := infoBy_parts
  obtain ⟨ad, cp, hv⟩ : ∃ ad cap, v = .slice ad zs.length cap := by obtain ⟨a, c, h, _⟩ := h; exact ⟨a, c, h⟩
  subst hv
  have HH := hide h
  clear h
  go_enter Tryz.func4, Tryz.ntmps4
  go_wp2_with fail
  refine (l6Open_any _ zs _ (unhide HH)).mono ?_
  rintro e w1 ⟨v', zs', rfl, hrd, hb1⟩
  have HR1 := hide hrd
  clear hrd hb1
  go_wp2_with fail
  refine (l72Word_any w w1 w.heap.size v' zs' 0 (unhide HR1) (by omega)).mono ?_
  rintro e w2 ⟨n, vi, vv, ve, vo, p', rfl, hp', hf, hr2, ho2⟩
  have hp0 := hr2.p0
  go_wp2_with fail
  refine (specWordPack_any n _ _ _ _ _ hf.at).mono ?_
  rintro e w3 ⟨vb, rfl, hown, hb3⟩
  have hq2 : w.heap.size < w2.heap.size := World.block_lt_of_cell? w2 ⟨w.heap.size, 0, none⟩ hr2.rd.c0
  obtain ⟨P, hP⟩ : ∃ P, P = (if wordOk n = true then packW n else []) := ⟨_, rfl⟩
  rw [← hP] at hown
  have HPR : Hid (∀ z ∈ P, 0 ≤ z ∧ z ≤ 255) := hide (by
    rw [hP]
    split
    · rename_i hok
      intro z hz
      exact packS_rng (wordNums_in (wordOk_in hok)) z hz
    · intro z hz; cases hz)
  have hPl : P.length ≤ 3000 := by
    rw [hP]
    split
    · rename_i hok
      have h1 := ouTo_len (wordOk_in hok) n.outs.length
      rw [ouTo_all] at h1
      have h2 := packI_len (wordNums n)
      unfold packW; omega
    · simp
  have HOW := hide hown
  have HR := hide (hr2.on hb3)
  have HQ := hide hq2
  clear hf hr2 ho2 hb3 hown hP HR1
  rcases Nat.eq_zero_or_pos P.length with hl0 | hl0
  · have hB := (unhide HR).below
    obtain ⟨ga, gc, rfl⟩ : ∃ a c, vb = .slice a P.length c := by obtain ⟨a, c, e, _⟩ := (ByFr.of_owns (unhide HOW)).at; exact ⟨a, c, e⟩
    have hlN : P = [] := List.eq_nil_of_length_eq_zero hl0
    subst hlN
    clear hl0 hPl
    go_wp2_with fail
    go_ret
    exact ⟨_, [], rfl, (ByFr.of_owns (unhide HOW)).bytesD (unhide HPR), Nat.zero_le _, hB⟩
  obtain ⟨g, cap, rfl⟩ : ∃ g cap, vb = .slice (some ⟨g, 0, none⟩) P.length cap := by
    rcases ByFr.of_owns (unhide HOW) with ⟨_, h0⟩ | ⟨g, cap, f, hv, _⟩
    · rw [h0] at hl0; exact absurd hl0 (Nat.lt_irrefl 0)
    · exact ⟨g, cap, hv⟩
  have hlI : ¬ (P.length : Int) = 0 := by omega
  have hlN : ¬ P = [] := by intro h; rw [h] at hl0; exact Nat.lt_irrefl 0 hl0
  have hG := (ByFr.of_owns (unhide HOW)).cellAt
  have hgq : g ≠ w.heap.size := by have := unhide HQ; have := hG.2.2.2.1; omega
  have hlc := hG.2.1
  have hcm := hG.2.2.1
  have hNg := hG.2.2.2.1
  unfold maxLen at hcm
  clear hG
  go_wp2_with fail
  refine (pick_any w _ w.heap.size v' zs' p' 2 (unhide HR) (by omega) (by omega) (by omega)).mono ?_
  rintro e w4 ⟨x, rfl, hx0, hx1, hr4, ho4⟩
  replace HR := hide hr4
  replace HOW := hide (owns_onlyB ho4 (unhide HQ) (unhide HOW))
  clear hr4 ho4
  by_cases hx : x = 0
  · subst hx
    have hB := (unhide HR).below
    go_wp2_with fail
    go_ret
    exact ⟨_, P, rfl, (ByFr.of_owns (unhide HOW)).bytesD (unhide HPR), by omega, hB⟩
  have hlq : ((P.length : Int) == 0) = false := beq_eq_false_iff_ne.2 hlI
  have hxq : (x == 0) = false := beq_eq_false_iff_ne.2 hx
  go_wp2_with fail
  clear hlq hxq
  refine (pick_any w _ w.heap.size v' zs' _ P.length (unhide HR) (by omega) (by omega) (by omega)).mono ?_
  rintro e w5 ⟨y, rfl, hy0, hy1, hr5, ho5⟩
  replace HR := hide hr5
  replace HOW := hide (owns_onlyB ho5 (unhide HQ) (unhide HOW))
  clear hr5 ho5 hx
  obtain ⟨k, rfl⟩ := Int.eq_ofNat_of_zero_le hy0
  have hk : k < P.length := by omega
  go_wp2_with fail
  refine (pick_any w _ w.heap.size v' zs' _ 4 (unhide HR) (by omega) (by omega) (by omega)).mono ?_
  rintro e w6 ⟨s, rfl, hs0, hs1, hr6, ho6⟩
  replace HR := hide hr6
  replace HOW := hide (owns_onlyB ho6 (unhide HQ) (unhide HOW))
  clear hr6 ho6
  have hs : s = 0 ∨ s = 1 ∨ s = 2 ∨ s = 3 := by omega
  clear hs0 hs1
  have hkc : (k : Int) ≤ (cap : Int) := by omega
  have hkP : (k : Int) < (P.length : Int) := by omega
  have hkl : ¬ (cap = k) := by omega
  have hkn : k ≤ P.length := by omega
  have hkm : k ≤ cap := by omega
  have hk0 : (0 : Int) ≤ (k : Int) := by omega
  rcases hs with rfl | rfl | rfl | rfl
  · have hB := (unhide HR).below
    go_wp2_with fail
    go_ret
    exact ⟨_, P.take k, rfl, bytes_take ((ByFr.of_owns (unhide HOW)).bytesD (unhide HPR)) (by omega), by rw [List.length_take]; omega, hB⟩
  · go_wp2_with fail
    refine (pick_any w _ w.heap.size v' zs' _ 256 (unhide HR) (by omega) (by omega) (by omega)).mono ?_
    rintro e w7 ⟨x, rfl, hx0, hx1, hr7, ho7⟩
    have HF := hide (ByFr.of_owns (owns_onlyB ho7 (unhide HQ) (unhide HOW)))
    have HB := hide hr7.below
    clear hr7 ho7 HR
    have c0 := (((unhide HF).cellAt).2.2.2.2.2 k hk).1
    have f0 := (((unhide HF).cellAt).2.2.2.2.2 k hk).2
    have hx8 : x % 256 = x := by omega
    have E1 := hide (bytes_set (x := x) (unhide HF) hk (unhide HPR) (by omega))
    have E2 := hide ((unhide HB).setCell (p := ⟨g, k, none⟩) (show w.heap.size ≤ g by have := unhide HQ; omega) (.int .u8 x))
    go_wp2_with fail
    go_ret
    exact ⟨_, P.set k x, rfl, unhide E1, by rw [List.length_set]; omega, unhide E2⟩
  · have HB := hide (unhide HR).below
    clear HR
    have hbA : Below w6.heap.size w6 (w6.alloc (.cells #[.int .u8 1] 5)) := (Below.refl _ _).alloc (Nat.le_refl _) _
    have hA := ownsBy_on hbA (unhide HOW)
    have hg6 := ((ByFr.of_owns (unhide HOW)).cellAt).2.2.2.2.1
    have HBA := hide hbA
    clear hbA
    go_wp2_with (at_builtin; refine wpList_append_lies _ (by rfl) _ _ _ (by rfl) w2.heap.size 5 i5 _ 1 1 slice_By hi5 hz0 hz1 hz2 (by rfl) (by omega) _ P.length (P.map (Value.int .u8)) (by rfl) hA ⟨w6.heap.size, 0, none⟩ 1 1 [.int .u8 1] (by rfl) (by rfl) (World.news_of_block (cs := #[.int .u8 1]) (t := 5) (fr := (0, 0)) (heap_alloc_new w6 _)) (by simp [Value.oneCell']) (by omega) (by unfold maxLen; omega) (by omega) (by simp; omega) (w6.heap.size + 1) (by simp) ?_; intro gg cap2 w7 hown7 hgrow hat hlt7)
    go_ret
    have hb1 := (unhide HB).trans ((unhide HBA).mono (unhide HB).size)
    refine ⟨_, P ++ [1], by simp, (ByFr.of_owns (ownsBy_more hown7)).bytesD (fun z hz => ?_), by simp; omega, Below.grown hb1 hgrow hb1.size (fun q hq => by have := (hA.lt q hq).1; have := unhide HQ; omega)⟩
    rcases List.mem_append.1 hz with h | h
    · exact (unhide HPR) z h
    · rw [List.mem_singleton] at h; omega
  · skip
    go_upto_region 14 with fail
    have hbd : Below w6.heap.size w6 w6.drew := (Below.refl _ _).drew
    have HF := hide (ByFr.of_owns (ownsBy_on hbd (unhide HOW)))
    have HR0 := hide ((unhide HR).on hbd)
    have hw0 : w.heap.size < w6.drew.heap.size := World.block_lt_of_cell? _ ⟨w.heap.size, 0, none⟩ (unhide HR0).rd.c0
    have hg0 : g < w6.drew.heap.size := ((unhide HF).cellAt).2.2.2.2.1
    refine wp_region_held_drew (S := fun _ => True) (by kernel_rfl) trivial (fun hHeld => ?_)
    clear hbd HR HOW
    generalize w6.drew = W0 at *
    refine wpAnyH_take (i := 1) (v := ?_) rfl (by kernel_rfl) (by kernel_rfl) (by kernel_rfl) (fun _ _ _ h => h) (Or.inl ⟨by kernel_rfl, ?_⟩) hHeld ?_
    rotate_left
    · (intro w hSw; go_simp; try with_reducible rfl)
    try simp only [Act.put, List.setIfInBounds_toArray, List.set_cons_zero, List.set_cons_succ]
    refine wpAnyH_take (i := 2) (v := ?_) rfl (by kernel_rfl) (by kernel_rfl) (by kernel_rfl) (fun _ _ _ h => h) (Or.inl ⟨by kernel_rfl, ?_⟩) hHeld ?_
    rotate_left
    · (intro w hSw; go_simp; try with_reducible rfl)
    try simp only [Act.put, List.setIfInBounds_toArray, List.set_cons_zero, List.set_cons_succ]
    refine wpAnyH_take (i := 3) (v := ?_) rfl (by kernel_rfl) (by kernel_rfl) (by kernel_rfl) (fun _ _ _ h => h) (Or.inl ⟨by kernel_rfl, ?_⟩) hHeld ?_
    rotate_left
    · (intro w hSw; go_simp; try with_reducible rfl)
    try simp only [Act.put, List.setIfInBounds_toArray, List.set_cons_zero, List.set_cons_succ]
    refine wpAnyH_take (i := 5) (v := ?_) rfl (by kernel_rfl) (by kernel_rfl) (by kernel_rfl) (fun _ _ _ h => h) (Or.inl ⟨by kernel_rfl, ?_⟩) hHeld ?_
    rotate_left
    · (intro w hSw; go_simp; try with_reducible rfl)
    try simp only [Act.put, List.setIfInBounds_toArray, List.set_cons_zero, List.set_cons_succ]
    refine wpAnyH_take (i := 11) (v := ?_) rfl (by kernel_rfl) (by kernel_rfl) (by kernel_rfl) (fun _ _ _ h => h) (Or.inl ⟨by kernel_rfl, ?_⟩) hHeld ?_
    rotate_left
    · (intro w hSw; go_simp; try with_reducible rfl)
    try simp only [Act.put, List.setIfInBounds_toArray, List.set_cons_zero, List.set_cons_succ]
    refine wpAnyH_take (i := 12) (v := ?_) rfl (by kernel_rfl) (by kernel_rfl) (by kernel_rfl) (fun _ _ _ h => h) (Or.inl ⟨by kernel_rfl, ?_⟩) hHeld ?_
    rotate_left
    · (intro w hSw; go_simp; try with_reducible rfl)
    try simp only [Act.put, List.setIfInBounds_toArray, List.set_cons_zero, List.set_cons_succ]
    refine wpAnyH_take (i := 13) (v := ?_) rfl (by kernel_rfl) (by kernel_rfl) (by kernel_rfl) (fun _ _ _ h => h) (Or.inl ⟨by kernel_rfl, ?_⟩) hHeld ?_
    rotate_left
    · (intro w hSw; go_simp; try with_reducible rfl)
    try simp only [Act.put, List.setIfInBounds_toArray, List.set_cons_zero, List.set_cons_succ]
    refine wpAnyH_ready (rs := [0]) (by kernel_rfl) (by simp) ?_
    refine AllReadyH.cons rfl (fun K hK => ?_) AllReadyH.nil
    go_simp
    have hbN : Below W0.heap.size W0 (W0.alloc (.cells #[] 5)) := (Below.refl _ _).alloc (Nat.le_refl _) _
    have ownE : (W0.alloc (.cells #[] 5)).ownsRow W0.heap.size 5 1 (.slice (some ⟨W0.heap.size, 0, none⟩) 0 0) 0 [] := World.ownsRow_lit W0 #[] 0 (Nat.le_refl _) (Nat.zero_le _) rfl
    have hB := hbN
    clear hbN
    generalize W0.alloc (.cells #[] 5) = V1 at *
    refine hK.out _ _ trivial (fun hHeld => ?_)
    clear hK K
    try simp only [Act.put, List.setIfInBounds_toArray, List.set_cons_zero, List.set_cons_succ]
    refine wpAnyH_ready (rs := [4]) (by kernel_rfl) (by simp) ?_
    refine AllReadyH.cons rfl (fun K hK => ?_) AllReadyH.nil
    refine step_append_any _ (by rfl) _ _ _ (by rfl) W0.heap.size 5 i5 _ 1 1 slice_By hi5 hz0 hz1 hz2 (by rfl) (by omega) (.slice (some ⟨W0.heap.size, 0, none⟩) 0 0) 0 [] (by rfl) ownE ⟨g, 0, none⟩ k cap ((P.take k).map (Value.int .u8)) (by rfl) (by rw [List.length_map, List.length_take]; omega) (news_take ((unhide HF).on hB) hk) (one_u8 _) (by unfold maxLen; omega) (by omega) hB.size ?_
    intro v4 V2 own4 grow4 hat4
    have hBn : Below W0.heap.size W0 V2 := Below.grown hB grow4 hB.size (fun q hq => (ownE.lt q hq).1)
    rw [Nat.zero_add, List.nil_append] at own4
    replace hB := hBn
    clear ownE grow4 hat4 hBn
    refine hK.out _ _ trivial (fun hHeld => ?_)
    clear hK K
    try simp only [Act.put, List.setIfInBounds_toArray, List.set_cons_zero, List.set_cons_succ]
    refine wpAnyH_ready (rs := [6]) (by kernel_rfl) (by simp) ?_
    refine AllReadyH.cons rfl (fun K hK => ?_) AllReadyH.nil
    go_simp
    refine (pick_any w _ w.heap.size v' zs' _ 128 ((unhide HR0).on hB) (by omega) (by omega) (by omega)).mono ?_
    rintro e V3 ⟨x, rfl, hx0, hx1, hr, ho⟩
    (try go_simp)
    have HFV := hide (((unhide HF).on hB).block (fun b hb hl => ho.other b (fun e => hgq ((show g = b by simpa [Value.ownBlock] using hb).trans e)) hl))
    replace own4 := owns_onlyB ho hw0 own4
    have hx8 : (128 + x) % 256 = 128 + x := by omega
    have hw7 : IntKind.i64.wrap (128 + x) = 128 + x := by simp [IntKind.wrap, IntKind.bits, IntKind.signed]; omega
    have hw8 : IntKind.u8.wrap (128 + x) = 128 + x := by simp [IntKind.wrap, IntKind.bits, IntKind.signed]; omega
    have HBV := hide hr.below
    have hs3 : W0.heap.size ≤ V3.heap.size := Nat.le_trans hB.size ho.size
    clear hr ho
    refine hK.out _ _ trivial (fun hHeld => ?_)
    clear hK K
    try simp only [Act.put, List.setIfInBounds_toArray, List.set_cons_zero, List.set_cons_succ]
    refine wpAnyH_take (i := 7) (v := ?_) rfl (by kernel_rfl) (by kernel_rfl) (by kernel_rfl) (fun _ _ _ h => h) (Or.inl ⟨by kernel_rfl, ?_⟩) hHeld ?_
    rotate_left
    · (intro w hSw; go_simp; try with_reducible rfl)
    try simp only [Act.put, List.setIfInBounds_toArray, List.set_cons_zero, List.set_cons_succ]
    refine wpAnyH_take (i := 8) (v := ?_) rfl (by kernel_rfl) (by kernel_rfl) (by kernel_rfl) (fun _ _ _ h => h) (Or.inl ⟨by kernel_rfl, ?_⟩) hHeld ?_
    rotate_left
    · (intro w hSw; go_simp; try with_reducible rfl)
    try simp only [Act.put, List.setIfInBounds_toArray, List.set_cons_zero, List.set_cons_succ]
    try simp only [hw7, hw8]
    refine wpAnyH_ready (rs := [9]) (by kernel_rfl) (by simp) ?_
    refine AllReadyH.cons rfl (fun K hK => ?_) AllReadyH.nil
    go_simp
    have hbN : Below V3.heap.size V3 (V3.alloc (.cells #[.int .u8 (128 + x)] 5)) := (Below.refl _ _).alloc (Nat.le_refl _) _
    have news : ∀ j u, ([.int .u8 (128 + x)] : List Value)[j]? = some u → (V3.alloc (.cells #[.int .u8 (128 + x)] 5)).cell? ((⟨V3.heap.size, 0, none⟩ : Addr).add j) = some u := World.news_of_block (cs := #[.int .u8 (128 + x)]) (t := 5) (fr := (0, 0)) (heap_alloc_new V3 _)
    replace own4 := ownsOn hbN own4
    replace HFV := hide ((unhide HFV).on hbN)
    replace HBV := hide ((unhide HBV).trans (hbN.mono (by omega)))
    have hs4 : W0.heap.size ≤ (V3.alloc (.cells #[.int .u8 (128 + x)] 5)).heap.size := by simp; omega
    clear hbN
    generalize V3.alloc (.cells #[.int .u8 (128 + x)] 5) = V4 at *
    refine hK.out _ _ trivial (fun hHeld => ?_)
    clear hK K
    try simp only [Act.put, List.setIfInBounds_toArray, List.set_cons_zero, List.set_cons_succ]
    refine wpAnyH_ready (rs := [10]) (by kernel_rfl) (by simp) ?_
    refine AllReadyH.cons rfl (fun K hK => ?_) AllReadyH.nil
    refine step_append_lies _ (by rfl) _ _ _ (by rfl) W0.heap.size 5 i5 _ 1 1 slice_By hi5 hz0 hz1 hz2 (by rfl) (by omega) v4 k ((P.take k).map (Value.int .u8)) (by rfl) own4 ⟨V3.heap.size, 0, none⟩ 1 1 [.int .u8 (128 + x)] (by rfl) (by rfl) news (by simp [Value.oneCell']) (by omega) (by unfold maxLen; omega) (by omega) hs4 V4.heap.size rfl ?_
    intro g5 cap5 V5 own5 grow5 hat5 hlt5
    have hl4 : ∀ q, v4.ownBlock = some q → W0.heap.size ≤ q := fun q hq => (own4.lt q hq).1
    replace HFV := hide ((unhide HFV).block (w' := V5) (fun b hb hl => grow5.block b hl (fun e => by
      have h9 : g = b := by simpa [Value.ownBlock] using hb
      have := hl4 b e.symm
      omega)))
    replace HBV := hide (Below.grown (unhide HBV) grow5 (unhide HBV).size (fun q hq => by have := hl4 q hq; omega))
    have hs5 : W0.heap.size ≤ V5.heap.size := Nat.le_trans hs4 grow5.size
    clear own4 grow5 hat5 news hl4
    refine hK.out _ _ trivial (fun hHeld => ?_)
    clear hK K
    try simp only [Act.put, List.setIfInBounds_toArray, List.set_cons_zero, List.set_cons_succ]
    refine wpAnyH_ready (rs := [14]) (by kernel_rfl) (by simp) ?_
    refine AllReadyH.cons rfl (fun K hK => ?_) AllReadyH.nil
    refine step_append_any _ (by rfl) _ _ _ (by rfl) W0.heap.size 5 i5 _ 1 1 slice_By hi5 hz0 hz1 hz2 (by rfl) (by omega) (.slice (some ⟨g5, 0, none⟩) (k + 1) cap5) (k + 1) ((P.take k).map (Value.int .u8) ++ [.int .u8 (128 + x)]) (by rfl) own5 ⟨g, k, none⟩ (P.length - k) (cap - k) ((P.drop k).map (Value.int .u8)) (by rfl) (by rw [List.length_map, List.length_drop]; omega) (news_drop (unhide HFV) hk) (one_u8 _) (by unfold maxLen; omega) (by omega) hs5 ?_
    intro v6 V6 own6 grow6 hat6
    replace HBV := hide (Below.grown (unhide HBV) grow6 (unhide HBV).size (fun q hq => by have := (own5.lt q hq).1; omega))
    have hlen : (P.take k ++ [128 + x] ++ P.drop k).length = k + 1 + (P.length - k) := by
      rw [List.length_append, List.length_append, List.length_take, List.length_drop, List.length_singleton]; omega
    have HO6 : Hid (OwnsBy V6 W0.heap.size v6 (P.take k ++ [128 + x] ++ P.drop k)) := hide (by
      unfold OwnsBy
      rw [hlen, List.map_append, List.map_append]
      exact own6)
    clear own5 own6 grow6 hat6
    obtain ⟨ys, hys⟩ : ∃ ys, ys = P.take k ++ [128 + x] ++ P.drop k := ⟨_, rfl⟩
    have HYS : Hid (∀ z ∈ ys, 0 ≤ z ∧ z ≤ 255) := hide (fun z hz => by
      rw [hys] at hz
      simp only [List.mem_append, List.mem_singleton] at hz
      rcases hz with (hz | hz) | hz
      · exact (unhide HPR) z (List.mem_of_mem_take hz)
      · omega
      · exact (unhide HPR) z (List.mem_of_mem_drop hz))
    rw [← hys] at HO6 hlen
    have HYL : Hid (ys.length ≤ 4000) := hide (by omega)
    clear hys hlen
    obtain ⟨ga, gc, rfl⟩ : ∃ a c, v6 = .slice a ys.length c := by obtain ⟨a, c, e, _⟩ := (ByFr.of_owns (unhide HO6)).at; exact ⟨a, c, e⟩
    refine hK.out _ _ trivial (fun hHeld => ?_)
    clear hK K
    try simp only [Act.put, List.setIfInBounds_toArray, List.set_cons_zero, List.set_cons_succ]
    refine wpAnyH_ready (rs := [15]) (by kernel_rfl) (by simp) ?_
    refine AllReadyH.cons rfl (fun K hK => ?_) AllReadyH.nil
    go_simp
    refine hK.out _ _ trivial (fun hHeld => ?_)
    clear hK K
    try simp only [Act.put, List.setIfInBounds_toArray, List.set_cons_zero, List.set_cons_succ]
    refine wpAnyH_done (by kernel_rfl) ?_ _
    go_wp2_with fail
    go_ret
    exact ⟨_, ys, rfl, (ByFr.of_owns (unhide HO6)).bytesD (unhide HYS), unhide HYL, unhide HBV⟩
end Go.Proofs.YtiljjhipiinafaaGreat
