/- Lists of what was done, each list in a block of its own, all within an interval of blocks; their marks, plainly. No Go text is walked here. -/
import Derived.Test.YtimkamgghkjhhaaPast4
namespace Go.Proofs.Ytimkamgghkjhhaa
open Go.RowKit
set_option linter.unusedVariables false
set_option linter.unusedSimpArgs false

def Apart (a b : Value) : Prop := ∀ g, a.ownBlock = some g → b.ownBlock = some g → False
def blocksOf (us : List (Value × Value)) : List Nat := us.flatMap fun u => u.1.ownBlock.toList ++ u.2.ownBlock.toList

structure PastO (N M : Nat) (w : World) (vs vo : Value) (p : PastV) : Prop where
  fr : PastFr N w vs vo p
  hs : ∀ g, vs.ownBlock = some g → g < M
  ho : ∀ g, vo.ownBlock = some g → g < M

theorem PastO.keep {N M : Nat} {w w' : World} {vs vo : Value} {p : PastV} (hk : ∀ b, N ≤ b → b < M → w'.heap[b]? = w.heap[b]?) (h : PastO N M w vs vo p) : PastO N M w' vs vo p :=
  ⟨⟨h.fr.s.block (fun g hg _ => hk g (h.fr.s.blk g hg).1 (h.hs g hg)), h.fr.o.block (fun g hg _ => hk g (h.fr.o.blk g hg).1 (h.ho g hg))⟩, h.hs, h.ho⟩
theorem PastO.only {N M : Nat} {w w' : World} {vs vo : Value} {p : PastV} (h1 : ∀ b, vs.ownBlock = some b → w'.heap[b]? = w.heap[b]?) (h2 : ∀ b, vo.ownBlock = some b → w'.heap[b]? = w.heap[b]?) (h : PastO N M w vs vo p) : PastO N M w' vs vo p :=
  ⟨⟨h.fr.s.block (fun g hg _ => h1 g hg), h.fr.o.block (fun g hg _ => h2 g hg)⟩, h.hs, h.ho⟩
theorem PastO.wide {N M N' M' : Nat} {w : World} {vs vo : Value} {p : PastV} (hN : N' ≤ N) (hM : M ≤ M') (h : PastO N M w vs vo p) : PastO N' M' w vs vo p :=
  ⟨h.fr.less hN, fun g hg => Nat.lt_of_lt_of_le (h.hs g hg) hM, fun g hg => Nat.lt_of_lt_of_le (h.ho g hg) hM⟩

/-- The first ones of a list of such, as many as us has, lie in the row. -/
def PastsIn2 (N M : Nat) (w : World) (f : Nat → Value) (us : List (Value × Value)) (ps : List PastV) : Prop :=
  ∀ i (h : i < us.length) (h' : i < ps.length), (∀ j (hj : j < 12), f (i * 12 + j) = (pastCells ps[i] us[i].1 us[i].2)[j]) ∧ PastO N M w us[i].1 us[i].2 ps[i]

def PastsO (N M : Nat) (w : World) (v : Value) (us : List (Value × Value)) (ps : List PastV) : Prop :=
  (v = .slice none 0 0 ∧ ps = [] ∧ us = []) ∨ ∃ g cap f, v = .slice (some ⟨g, 0, none⟩) ps.length cap ∧ N ≤ g ∧ g < M ∧ ps.length ≤ cap ∧ cap ≤ maxLen ∧ w.rowIs g 142 (cap * 12) f ∧ us.length = ps.length ∧ PastsIn2 N M w f us ps

def PastsOwn (N M : Nat) (w : World) (v : Value) (ps : List PastV) : Prop := ∃ us, PastsO N M w v us ps ∧ (v.ownBlock.toList ++ blocksOf us).Nodup

theorem PastsIn2.keep {N M : Nat} {w w' : World} {f : Nat → Value} {us : List (Value × Value)} {ps : List PastV} (hk : ∀ b, N ≤ b → b < M → w'.heap[b]? = w.heap[b]?) (h : PastsIn2 N M w f us ps) : PastsIn2 N M w' f us ps :=
  fun i hi hi' => ⟨(h i hi hi').1, (h i hi hi').2.keep hk⟩
theorem PastsIn2.wide {N M N' M' : Nat} {w : World} {f : Nat → Value} {us : List (Value × Value)} {ps : List PastV} (hN : N' ≤ N) (hM : M ≤ M') (h : PastsIn2 N M w f us ps) : PastsIn2 N' M' w f us ps :=
  fun i hi hi' => ⟨(h i hi hi').1, (h i hi hi').2.wide hN hM⟩

theorem PastsO.keep {N M : Nat} {w w' : World} {v : Value} {us : List (Value × Value)} {ps : List PastV} (hk : ∀ b, N ≤ b → b < M → w'.heap[b]? = w.heap[b]?) (h : PastsO N M w v us ps) : PastsO N M w' v us ps := by
  rcases h with h | ⟨g, cap, f, h1, h2, h3, h4, h5, h6, h7, h8⟩
  · exact Or.inl h
  · exact Or.inr ⟨g, cap, f, h1, h2, h3, h4, h5, h6.of_block (hk g h2 h3), h7, h8.keep hk⟩
theorem PastsO.wide {N M N' M' : Nat} {w : World} {v : Value} {us : List (Value × Value)} {ps : List PastV} (hN : N' ≤ N) (hM : M ≤ M') (h : PastsO N M w v us ps) : PastsO N' M' w v us ps := by
  rcases h with h | ⟨g, cap, f, h1, h2, h3, h4, h5, h6, h7, h8⟩
  · exact Or.inl h
  · exact Or.inr ⟨g, cap, f, h1, Nat.le_trans hN h2, Nat.lt_of_lt_of_le h3 hM, h4, h5, h6, h7, h8.wide hN hM⟩
theorem PastsO.at {N M : Nat} {w : World} {v : Value} {us : List (Value × Value)} {ps : List PastV} (h : PastsO N M w v us ps) : PastsAt w v ps := by
  rcases h with ⟨rfl, rfl, _⟩ | ⟨g, cap, f, rfl, h2, h3, h4, h5, h6, h7, h8⟩
  · exact ⟨none, 0, rfl, Nat.le_refl _, Nat.zero_le _, Or.inl rfl⟩
  · refine ⟨_, _, rfl, h4, Nat.le_trans h4 h5, Or.inr ⟨g, 0, rfl, fun i hi => ?_⟩⟩
    obtain ⟨hc, hp⟩ := h8 i (by omega) hi
    refine ⟨_, _, fun j hj => ?_, hp.fr.at⟩
    have hj' : j < 12 := hj
    rw [Nat.zero_add, h6.cell (mul_place (by omega) hj'), hc j hj']

theorem PastsOwn.at {N M : Nat} {w : World} {v : Value} {ps : List PastV} (h : PastsOwn N M w v ps) : PastsAt w v ps := by
  obtain ⟨us, h1, _⟩ := h
  exact h1.at
theorem PastsOwn.keep {N M : Nat} {w w' : World} {v : Value} {ps : List PastV} (hk : ∀ b, N ≤ b → b < M → w'.heap[b]? = w.heap[b]?) (h : PastsOwn N M w v ps) : PastsOwn N M w' v ps := by
  obtain ⟨us, h1, h2⟩ := h
  exact ⟨us, h1.keep hk, h2⟩
theorem PastsOwn.wide {N M N' M' : Nat} {w : World} {v : Value} {ps : List PastV} (hN : N' ≤ N) (hM : M ≤ M') (h : PastsOwn N M w v ps) : PastsOwn N' M' w v ps := by
  obtain ⟨us, h1, h2⟩ := h
  exact ⟨us, h1.wide hN hM, h2⟩

theorem blocksOf_snoc (us : List (Value × Value)) (a b : Value) : blocksOf (us ++ [(a, b)]) = blocksOf us ++ (a.ownBlock.toList ++ b.ownBlock.toList) := by
  simp [blocksOf]

theorem blocksOf_app (a b : List (Value × Value)) : blocksOf (a ++ b) = blocksOf a ++ blocksOf b := by
  simp [blocksOf]

theorem own_nodup {a b : Value} (h : Apart a b) : (a.ownBlock.toList ++ b.ownBlock.toList).Nodup := by
  rw [List.nodup_append]
  refine ⟨?_, ?_, fun x hx y hy e => ?_⟩
  · cases a.ownBlock <;> simp
  · cases b.ownBlock <;> simp
  · subst e
    exact h x (by simpa using hx) (by simpa using hy)

theorem nodup_more {bs : List Nat} {us : List (Value × Value)} {a b : Value} {K : Nat} (h : (bs ++ blocksOf us).Nodup) (hlt : ∀ x ∈ bs ++ blocksOf us, x < K) (h1 : ∀ g, a.ownBlock = some g → K ≤ g) (h2 : ∀ g, b.ownBlock = some g → K ≤ g) (ha : Apart a b) : (bs ++ blocksOf (us ++ [(a, b)])).Nodup := by
  rw [blocksOf_snoc, ← List.append_assoc, List.nodup_append]
  refine ⟨h, own_nodup ha, fun x hx y hy e => ?_⟩
  subst e
  have h3 := hlt x hx
  rcases List.mem_append.1 hy with h4 | h4
  · have := h1 x (by simpa using h4); omega
  · have := h2 x (by simpa using h4); omega

theorem blocks_lt {N M K : Nat} {w : World} {f : Nat → Value} {us : List (Value × Value)} {ps : List PastV} (hl : us.length ≤ ps.length) (h : PastsIn2 N M w f us ps) (hM : M ≤ K) : ∀ x ∈ blocksOf us, N ≤ x ∧ x < K := by
  intro x hx
  obtain ⟨u, hu, hxu⟩ := List.mem_flatMap.1 hx
  obtain ⟨i, hi, rfl⟩ := List.getElem_of_mem hu
  obtain ⟨_, hp⟩ := h i hi (by omega)
  rcases List.mem_append.1 hxu with h4 | h4
  · have h5 : us[i].1.ownBlock = some x := by simpa using h4
    exact ⟨(hp.fr.s.blk x h5).1, Nat.lt_of_lt_of_le (hp.hs x h5) hM⟩
  · have h5 : us[i].2.ownBlock = some x := by simpa using h4
    exact ⟨(hp.fr.o.blk x h5).1, Nat.lt_of_lt_of_le (hp.ho x h5) hM⟩

/-- What is written lies within an interval of blocks. -/
structure Within (N M : Nat) (w w' : World) : Prop where
  size : w'.heap.size = w.heap.size
  other : ∀ b, ¬ (N ≤ b ∧ b < M) → w'.heap[b]? = w.heap[b]?
  below : ∀ B, B ≤ N → Below B w w'

theorem Within.refl (N M : Nat) (w : World) : Within N M w w := ⟨rfl, fun _ _ => rfl, fun B _ => Below.refl B w⟩
theorem Within.trans {N M : Nat} {a b c : World} (h : Within N M a b) (k : Within N M b c) : Within N M a c :=
  ⟨k.size.trans h.size, fun x hx => (k.other x hx).trans (h.other x hx), fun B hB => (h.below B hB).trans (k.below B hB)⟩
theorem Within.of_only {N M : Nat} {v : Value} {w w' : World} (h : OnlyOf v w w') (hv : ∀ g, v.ownBlock = some g → N ≤ g ∧ g < M) : Within N M w w' :=
  ⟨h.size, fun b hb => h.other b (fun e => hb (hv b e)), fun B hB => h.below B (fun g hg => Nat.le_trans hB (hv g hg).1)⟩
theorem setVals_size {b : Nat} : ∀ (xs : List Value) (o : Nat) (w : World), (setVals w b o xs).heap.size = w.heap.size
  | [], _, _ => rfl
  | x :: xs, o, w => by
    rw [setVals, setVals_size xs (o + 1)]
    simp
theorem Within.vals {N M g o : Nat} {w : World} (xs : List Value) (h1 : N ≤ g) (h2 : g < M) : Within N M w (setVals w g o xs) :=
  ⟨setVals_size xs o w, fun b hb => setVals_other xs o w b (fun e => hb (by omega)), fun B hB => setVals_below xs o w (Below.refl _ _) (Nat.le_trans hB h1)⟩

/-! Marks. -/
def evFrom (k : Int) : EvV := ⟨k, k + 1, k + 2, k + 3, k + 4, k + 5, k + 6⟩
def outFrom (k : Int) : OutV := ⟨k, k + 1, k + 2, k + 3, k + 4⟩
def markEvs (k : Int) (n : Nat) : List EvV := (List.range n).map fun (i : Nat) => evFrom (k + ((i * 7 : Nat) : Int))
def markOuts (k : Int) (n : Nat) : List OutV := (List.range n).map fun (i : Nat) => outFrom (k + ((i * 5 : Nat) : Int))
def szP (p : PastV) : Int := 10 + 7 * (p.sends.length : Int) + 5 * (p.outs.length : Int)
def markP (k : Int) (p : PastV) : PastV := ⟨evFrom k, ⟨k + 7, k + 8, k + 9⟩, markEvs (k + 10) p.sends.length, markOuts (k + 10 + 7 * (p.sends.length : Int)) p.outs.length⟩
def markPs : Int → List PastV → List PastV
  | _, [] => []
  | k, p :: ps => markP k p :: markPs (k + szP p) ps
def szPs : List PastV → Int
  | [] => 0
  | p :: ps => szP p + szPs ps

theorem markEvs_rows (k : Int) (n : Nat) : (markEvs k n).map evRow = markRows 7 k n := by
  simp only [markEvs, markRows, List.map_map]
  refine List.map_congr_left (fun i _ => ?_)
  simp [Function.comp, evRow, evFrom, List.range, List.range.loop]
  omega
theorem markOuts_rows (k : Int) (n : Nat) : (markOuts k n).map outRow = markRows 5 k n := by
  simp only [markOuts, markRows, List.map_map]
  refine List.map_congr_left (fun i _ => ?_)
  simp [Function.comp, outRow, outFrom, List.range, List.range.loop]
  omega
theorem markEvs_len (k : Int) (n : Nat) : (markEvs k n).length = n := by simp [markEvs]
theorem markOuts_len (k : Int) (n : Nat) : (markOuts k n).length = n := by simp [markOuts]
theorem markPs_len : ∀ (ps : List PastV) (k : Int), (markPs k ps).length = ps.length
  | [], _ => rfl
  | p :: ps, k => by simp [markPs, markPs_len ps]
theorem szPs_snoc : ∀ (ps : List PastV) (p : PastV), szPs (ps ++ [p]) = szPs ps + szP p
  | [], p => by simp [szPs]
  | q :: ps, p => by simp [szPs, szPs_snoc ps p]; omega
theorem markPs_snoc : ∀ (ps : List PastV) (k : Int) (p : PastV), markPs k (ps ++ [p]) = markPs k ps ++ [markP (k + szPs ps) p]
  | [], k, p => by simp [markPs, szPs]
  | q :: ps, k, p => by
    simp only [List.cons_append, markPs, markPs_snoc ps, szPs]
    rw [show k + szP q + szPs ps = k + (szP q + szPs ps) by omega]
theorem szP_pos (p : PastV) : 10 ≤ szP p := by unfold szP; omega
theorem szPs_pos : ∀ (ps : List PastV), 0 ≤ szPs ps
  | [] => by simp [szPs]
  | p :: ps => by have := szP_pos p; have := szPs_pos ps; simp only [szPs]; omega
theorem szPs_le : ∀ (ps : List PastV), (∀ p ∈ ps, p.sends.length ≤ 1048576 ∧ p.outs.length ≤ 1048576) → szPs ps ≤ 12582922 * (ps.length : Int)
  | [], _ => by simp [szPs]
  | p :: ps, h => by
    have h1 := szPs_le ps (fun q hq => h q (List.mem_cons_of_mem _ hq))
    have h2 := h p (List.mem_cons_self ..)
    simp only [szPs, szP, List.length_cons]
    omega

/-- So far marked, the rest as it was. -/
def mixed (k0 : Int) (ps : List PastV) (i : Nat) : List PastV := markPs k0 (ps.take i) ++ ps.drop i
theorem mixed_len (k0 : Int) (ps : List PastV) (i : Nat) (h : i ≤ ps.length) : (mixed k0 ps i).length = ps.length := by
  simp [mixed, markPs_len]; omega
theorem mixed_zero (k0 : Int) (ps : List PastV) : mixed k0 ps 0 = ps := by simp [mixed, markPs]
theorem mixed_all (k0 : Int) (ps : List PastV) : mixed k0 ps ps.length = markPs k0 ps := by simp [mixed]
theorem mixed_at (k0 : Int) (ps : List PastV) (i : Nat) (h : i < ps.length) (h' : i < (mixed k0 ps i).length) : (mixed k0 ps i)[i] = ps[i] := by
  have h1 : (markPs k0 (ps.take i)).length = i := by rw [markPs_len]; simp; omega
  simp only [mixed]
  rw [List.getElem_append_right (by omega)]
  simp [h1]
theorem mixed_set (k0 : Int) (ps : List PastV) (i : Nat) (h : i < ps.length) : (mixed k0 ps i).set i (markP (k0 + szPs (ps.take i)) ps[i]) = mixed k0 ps (i + 1) := by
  have h1 : (markPs k0 (ps.take i)).length = i := by rw [markPs_len]; simp; omega
  simp only [mixed]
  rw [List.set_append_right _ _ (by omega), h1, Nat.sub_self, take_more ps i h, markPs_snoc, List.drop_eq_getElem_cons h]
  simp only [List.set_cons_zero, List.append_assoc, List.singleton_append]

theorem PastsO.set {N M : Nat} {w w' : World} {g cap i : Nat} {f f' : Nat → Value} {us : List (Value × Value)} {qs : List PastV} {q : PastV} (hi : i < qs.length) (hiu : i < us.length)
    (h2 : N ≤ g) (h3 : g < M) (h4 : qs.length ≤ cap) (h5 : cap ≤ maxLen) (h7 : us.length = qs.length) (h8 : PastsIn2 N M w f us qs) (hnd : (g :: blocksOf us).Nodup)
    (hr : w'.rowIs g 142 (cap * 12) f') (hf : ∀ j, f' j = if i * 12 ≤ j ∧ j < i * 12 + 12 then (pastCells q us[i].1 us[i].2).getD (j - i * 12) undef else f j)
    (ho : ∀ b, b ≠ g → us[i].1.ownBlock ≠ some b → us[i].2.ownBlock ≠ some b → w'.heap[b]? = w.heap[b]?) (hq : PastO N M w' us[i].1 us[i].2 q) :
    PastsO N M w' (.slice (some ⟨g, 0, none⟩) (qs.set i q).length cap) us (qs.set i q) := by
  refine Or.inr ⟨g, cap, f', rfl, h2, h3, by simpa using h4, h5, hr, by simpa using h7, fun k hk hk' => ?_⟩
  have hk2 : k < qs.length := by simpa using hk'
  by_cases e : k = i
  · subst e
    refine ⟨fun j hj => ?_, by simpa using hq⟩
    have hj2 : j < (pastCells q us[k].1 us[k].2).length := hj
    rw [hf, if_pos (by omega), Nat.add_sub_cancel_left, List.getD_eq_getElem?_getD, List.getElem?_eq_getElem hj2, Option.getD_some]
    simp
  · have e2 : (qs.set i q)[k] = qs[k] := by simp [List.getElem_set, Ne.symm e]
    rw [e2]
    obtain ⟨hc, hp⟩ := h8 k hk hk2
    refine ⟨fun j hj => ?_, ?_⟩
    · rw [hf, if_neg, hc j hj]
      rcases Nat.lt_or_gt_of_ne e with h | h
      · have := mul_place h hj; omega
      · have : (i + 1) * 12 ≤ k * 12 := Nat.mul_le_mul_right 12 h
        omega
    · have hmem : ∀ (l : Nat) (hl : l < us.length) (b : Nat), (us[l].1.ownBlock = some b ∨ us[l].2.ownBlock = some b) → b ∈ blocksOf us := fun l hl b hb =>
        List.mem_flatMap.2 ⟨us[l], List.getElem_mem hl, List.mem_append.2 (hb.imp (fun h => by simp [h]) (fun h => by simp [h]))⟩
      have hnd2 : (blocksOf us).Nodup := (List.nodup_cons.1 hnd).2
      have hg : g ∉ blocksOf us := (List.nodup_cons.1 hnd).1
      have hsep : ∀ b, (us[k].1.ownBlock = some b ∨ us[k].2.ownBlock = some b) → us[i].1.ownBlock ≠ some b ∧ us[i].2.ownBlock ≠ some b := by
        intro b hb
        have key : ∀ (x y : Nat) (hx : x < us.length) (hy : y < us.length), x < y → (us[x].1.ownBlock = some b ∨ us[x].2.ownBlock = some b) → (us[y].1.ownBlock = some b ∨ us[y].2.ownBlock = some b) → False := by
          intro x y hx hy hxy h1 h2
          have hb2 : blocksOf us = blocksOf (us.take (x + 1)) ++ blocksOf (us.drop (x + 1)) := by
            have e := blocksOf_app (us.take (x + 1)) (us.drop (x + 1))
            rwa [List.take_append_drop] at e
          rw [hb2, List.nodup_append] at hnd2
          refine hnd2.2.2 b (List.mem_flatMap.2 ⟨us[x], ?_, List.mem_append.2 (h1.imp (fun h => by simp [h]) (fun h => by simp [h]))⟩) b (List.mem_flatMap.2 ⟨us[y], ?_, List.mem_append.2 (h2.imp (fun h => by simp [h]) (fun h => by simp [h]))⟩) rfl
          · exact List.mem_take_iff_getElem.2 ⟨x, by omega, rfl⟩
          · exact List.mem_drop_iff_getElem.2 ⟨y - (x + 1), by omega, by simp [show x + 1 + (y - (x + 1)) = y by omega]⟩
        constructor <;> intro h <;> rcases Nat.lt_or_gt_of_ne e with hlt | hlt
        · exact key k i hk hiu hlt hb (Or.inl h)
        · exact key i k hiu hk hlt (Or.inl h) hb
        · exact key k i hk hiu hlt hb (Or.inr h)
        · exact key i k hiu hk hlt (Or.inr h) hb
      exact hp.only (fun b hb => ho b (fun e => hg (e ▸ hmem k hk b (Or.inl hb))) (hsep b (Or.inl hb)).1 (hsep b (Or.inl hb)).2) (fun b hb => ho b (fun e => hg (e ▸ hmem k hk b (Or.inr hb))) (hsep b (Or.inr hb)).1 (hsep b (Or.inr hb)).2)
end Go.Proofs.Ytimkamgghkjhhaa
