/- A list of what was done under an append. No Go text is walked here. -/
import Derived.Test.YtimkamgghkjhhaaOwn2
import Derived.Test.YtimkamgghkjhhaaHeapC
namespace Go.Proofs.Ytimkamgghkjhhaa
open Go.RowKit
set_option linter.unusedVariables false
set_option linter.unusedSimpArgs false

def flatP : List (Value × Value) → List PastV → List Value
  | u :: us, p :: ps => pastCells p u.1 u.2 ++ flatP us ps
  | _, _ => []

theorem flatP_snoc : ∀ (us : List (Value × Value)) (ps : List PastV) (a b : Value) (p : PastV), us.length = ps.length → flatP (us ++ [(a, b)]) (ps ++ [p]) = flatP us ps ++ pastCells p a b
  | [], [], a, b, p, _ => by simp [flatP]
  | u :: us, q :: ps, a, b, p, h => by
    have ih := flatP_snoc us ps a b p (by simpa using h)
    rw [List.cons_append, List.cons_append, flatP, flatP, ih, List.append_assoc]
  | [], q :: ps, _, _, _, h => by simp at h
  | u :: us, [], _, _, _, h => by simp at h
theorem flatP_len : ∀ (us : List (Value × Value)) (ps : List PastV), us.length = ps.length → (flatP us ps).length = ps.length * 12
  | [], [], _ => rfl
  | u :: us, q :: ps, h => by
    have ih := flatP_len us ps (by simpa using h)
    rw [flatP, List.length_append, ih]
    show 12 + ps.length * 12 = (ps.length + 1) * 12
    omega
  | [], q :: ps, h => by simp at h
  | u :: us, [], h => by simp at h
theorem flatP_at : ∀ (us : List (Value × Value)) (ps : List PastV), us.length = ps.length → ∀ i (h : i < ps.length) (h' : i < us.length) j (hj : j < 12), (flatP us ps)[i * 12 + j]? = some (pastCells ps[i] us[i].1 us[i].2)[j]
  | [], [], _, i, h, _, _, _ => absurd h (Nat.not_lt_zero _)
  | u :: us, q :: ps, hl, 0, _, _, j, hj => by
    have hj2 : j < (pastCells q u.1 u.2).length := hj
    rw [flatP, Nat.zero_mul, Nat.zero_add, List.getElem?_append_left hj2, List.getElem?_eq_getElem hj2]
    rfl
  | u :: us, q :: ps, hl, i + 1, h, h', j, hj => by
    have ih := flatP_at us ps (by simpa using hl) i (by simpa using h) (by simpa using h') j hj
    have e : (i + 1) * 12 + j = 12 + (i * 12 + j) := by omega
    rw [flatP, e, List.getElem?_append_right (show (pastCells q u.1 u.2).length ≤ 12 + (i * 12 + j) from Nat.le_add_right 12 _)]
    show (flatP us ps)[12 + (i * 12 + j) - 12]? = _
    rw [Nat.add_sub_cancel_left]
    exact ih
  | [], q :: ps, h, _, _, _, _, _ => by simp at h
  | u :: us, [], h, _, _, _, _, _ => by simp at h

theorem PastsO.owns {N M : Nat} {w : World} {v : Value} {us : List (Value × Value)} {ps : List PastV} (h : PastsO N M w v us ps) : us.length = ps.length ∧ w.ownsRow N 142 12 v ps.length (flatP us ps) := by
  rcases h with ⟨rfl, rfl, rfl⟩ | ⟨g, cap, f, rfl, hN, hM, hl, hm, ⟨cur, hb, hs, hc⟩, hul, hin⟩
  · exact ⟨rfl, rfl, Or.inl ⟨rfl, rfl⟩⟩
  · refine ⟨hul, flatP_len us ps hul, Or.inr ⟨g, cap, cur, rfl, hN, hb, hl, hm, hs, ?_⟩⟩
    have h3 : ps.length * 12 ≤ cap * 12 := Nat.mul_le_mul_right 12 hl
    refine List.ext_getElem? (fun k => ?_)
    rw [List.getElem?_take]
    by_cases hk : k < ps.length * 12
    · have hd : k / 12 * 12 + k % 12 = k := by rw [Nat.mul_comm]; exact Nat.div_add_mod k 12
      have hq : k / 12 < ps.length := (Nat.div_lt_iff_lt_mul (by omega)).2 hk
      have hj : k % 12 < 12 := Nat.mod_lt _ (by omega)
      have h1 := flatP_at us ps hul (k / 12) hq (by omega) (k % 12) hj
      have h2 := (hin (k / 12) (by omega) hq).1 (k % 12) hj
      rw [hd] at h1 h2
      rw [if_pos hk, h1, Array.getElem?_toList, hc k (by omega), h2]
    · rw [if_neg hk, List.getElem?_eq_none (by rw [flatP_len us ps hul]; omega)]

theorem PastsO.blk {N M : Nat} {w : World} {v : Value} {us : List (Value × Value)} {ps : List PastV} (h : PastsO N M w v us ps) : ∀ g, v.ownBlock = some g → N ≤ g ∧ g < M := by
  intro g hg
  rcases h with ⟨rfl, _⟩ | ⟨g', cap, f, rfl, hN, hM, _⟩
  · simp [Value.ownBlock] at hg
  · obtain rfl : g' = g := by simpa [Value.ownBlock] using hg
    exact ⟨hN, hM⟩

theorem PastsO.elem {N M : Nat} {w : World} {v : Value} {us : List (Value × Value)} {ps : List PastV} (h : PastsO N M w v us ps) : ∀ i (hi : i < us.length) (hi' : i < ps.length), PastO N M w us[i].1 us[i].2 ps[i] := by
  intro i hi hi'
  rcases h with ⟨_, rfl, _⟩ | ⟨g', cap, f, rfl, hN, hM, _, _, _, _, hin⟩
  · exact absurd hi' (Nat.not_lt_zero _)
  · exact (hin i hi hi').2

theorem mem_blocks {us : List (Value × Value)} (l : Nat) (hl : l < us.length) (b : Nat) (hb : us[l].1.ownBlock = some b ∨ us[l].2.ownBlock = some b) : b ∈ blocksOf us :=
  List.mem_flatMap.2 ⟨us[l], List.getElem_mem hl, List.mem_append.2 (hb.imp (fun h => by simp [h]) (fun h => by simp [h]))⟩

theorem pasts_snoc {N M K : Nat} {w wA w' : World} {v : Value} {us : List (Value × Value)} {ps : List PastV} {a b : Value} {p : PastV} {g cap : Nat}
    (h : PastsO N M w v us ps) (hnd : (v.ownBlock.toList ++ blocksOf us).Nodup) (hM : M ≤ w.heap.size) (hN : N ≤ w.heap.size) (hbA : Below w.heap.size w wA) (hK : w.heap.size ≤ K) (hp : PastFr K wA a b p) (hap : Apart a b)
    (hgrow : wA.grownBy w' v.ownBlock) (hown : w'.ownsRow N 142 12 (.slice (some ⟨g, 0, none⟩) (ps.length + 1) cap) (ps.length + 1) (flatP us ps ++ pastCells p a b)) (hat : v.ownBlock = some g ∨ g = wA.heap.size) (hlt : g < w'.heap.size) :
    PastsO N w'.heap.size w' (.slice (some ⟨g, 0, none⟩) (ps ++ [p]).length cap) (us ++ [(a, b)]) (ps ++ [p]) ∧ ((Value.slice (some ⟨g, 0, none⟩) (ps ++ [p]).length cap).ownBlock.toList ++ blocksOf (us ++ [(a, b)])).Nodup := by
  obtain ⟨hul, _⟩ := h.owns
  have hvb := h.blk
  have hel := h.elem
  have hbl : ∀ x ∈ blocksOf us, N ≤ x ∧ x < M := by
    intro x hx
    obtain ⟨u, hu, hxu⟩ := List.mem_flatMap.1 hx
    obtain ⟨i, hi, rfl⟩ := List.getElem_of_mem hu
    have hpp := hel i hi (by omega)
    rcases List.mem_append.1 hxu with h4 | h4
    · have h5 : us[i].1.ownBlock = some x := by simpa using h4
      exact ⟨(hpp.fr.s.blk x h5).1, hpp.hs x h5⟩
    · have h5 : us[i].2.ownBlock = some x := by simpa using h4
      exact ⟨(hpp.fr.o.blk x h5).1, hpp.ho x h5⟩
  have hsA := hbA.size
  have hsw := hgrow.size
  have hnv : ∀ x ∈ blocksOf us, v.ownBlock ≠ some x := fun x hx e => by
    rw [e] at hnd
    exact (List.nodup_cons.1 hnd).1 hx
  have hnd2 : (blocksOf us).Nodup := (List.nodup_append.1 hnd).2.1
  have hA : ∀ x, a.ownBlock = some x → w.heap.size ≤ x ∧ x < wA.heap.size := fun x hx => ⟨Nat.le_trans hK (hp.s.blk x hx).1, (hp.s.blk x hx).2⟩
  have hB : ∀ x, b.ownBlock = some x → w.heap.size ≤ x ∧ x < wA.heap.size := fun x hx => ⟨Nat.le_trans hK (hp.o.blk x hx).1, (hp.o.blk x hx).2⟩
  have hvne : ∀ x, w.heap.size ≤ x → some x ≠ v.ownBlock := fun x hx e => by
    have := (hvb x e.symm).2
    omega
  have hold : ∀ x ∈ blocksOf us, w'.heap[x]? = w.heap[x]? := fun x hx => by
    have h1 := hbl x hx
    rw [hgrow.block x (by omega) (fun e => hnv x hx e.symm), hbA.block x (by omega)]
  obtain ⟨_, ⟨h1, _⟩ | ⟨g', cap', cur, h1, hNg, hb, hnc, hcm, hs, ht⟩⟩ := hown
  · cases h1
  simp only [Value.slice.injEq, Option.some.injEq, Addr.mk.injEq, and_true, true_and] at h1
  obtain ⟨rfl, rfl⟩ := h1
  constructor
  · refine Or.inr ⟨g, cap, fun i => cur.getD i default, rfl, hNg, hlt, by simpa using hnc, hcm, ⟨cur, hb, hs, fun i hi => ?_⟩, by simp [hul], fun i hi hi' => ⟨fun j hj => ?_, ?_⟩⟩
    · simp [Array.getD, hs, hi]
    · have hul2 : (us ++ [(a, b)]).length = (ps ++ [p]).length := by simp [hul]
      have h1 := flatP_at (us ++ [(a, b)]) (ps ++ [p]) hul2 i hi' hi j hj
      rw [flatP_snoc us ps a b p hul, ← ht] at h1
      have hi2 : i < ps.length + 1 := by simpa using hi'
      have h2 : i * 12 + j < (ps.length + 1) * 12 := mul_place hi2 hj
      have h3 : (ps.length + 1) * 12 ≤ cap * 12 := Nat.mul_le_mul_right 12 hnc
      rw [List.getElem?_take, if_pos h2, Array.getElem?_toList, Array.getElem?_eq_getElem (by omega)] at h1
      simp only [Option.some.injEq] at h1
      show cur.getD (i * 12 + j) default = _
      rw [← h1]
      simp [Array.getD, show i * 12 + j < cur.size by omega]
    · by_cases e : i < us.length
      · have e' : i < ps.length := by omega
        rw [List.getElem_append_left e, List.getElem_append_left e']
        exact ((hel i e e').only (fun x hx => hold x (mem_blocks i e x (Or.inl hx))) (fun x hx => hold x (mem_blocks i e x (Or.inr hx)))).wide (Nat.le_refl _) (by omega)
      · have e3 : (us ++ [(a, b)])[i] = (a, b) := by
          obtain rfl : i = us.length := by simp at hi; omega
          rw [List.getElem_append_right (by omega)]
          simp
        have e4 : (ps ++ [p])[i] = p := by
          obtain rfl : i = ps.length := by simp at hi; omega
          rw [List.getElem_append_right (by omega)]
          simp
        rw [e3, e4]
        refine ⟨⟨(hp.s.block (fun x hx _ => hgrow.block x (hA x hx).2 (hvne x (hA x hx).1))).less (by omega), (hp.o.block (fun x hx _ => hgrow.block x (hB x hx).2 (hvne x (hB x hx).1))).less (by omega)⟩, fun x hx => ?_, fun x hx => ?_⟩
        · have := (hA x hx).2; omega
        · have := (hB x hx).2; omega
  · have hm : ([] ++ blocksOf (us ++ [(a, b)])).Nodup := nodup_more (bs := []) (K := w.heap.size) (by simpa using hnd2) (fun x hx => by have := hbl x (by simpa using hx); omega) (fun x hx => (hA x hx).1) (fun x hx => (hB x hx).1) hap
    show ([g] ++ blocksOf (us ++ [(a, b)])).Nodup
    rcases hat with hv | rfl
    · rw [hv] at hnd
      exact nodup_more (bs := [g]) (K := w.heap.size) hnd (fun x hx => by
        rcases List.mem_append.1 hx with h4 | h4
        · obtain rfl := List.mem_singleton.1 h4
          have := (hvb x hv).2; omega
        · have := hbl x h4; omega) (fun x hx => (hA x hx).1) (fun x hx => (hB x hx).1) hap
    · rw [List.singleton_append, List.nodup_cons]
      refine ⟨fun hx => ?_, by simpa using hm⟩
      rw [blocksOf_snoc] at hx
      rcases List.mem_append.1 hx with h4 | h4
      · have := hbl _ h4; omega
      · rcases List.mem_append.1 h4 with h5 | h5
        · have := (hA _ (by simpa using h5)).2; omega
        · have := (hB _ (by simpa using h5)).2; omega
end Go.Proofs.Ytimkamgghkjhhaa
