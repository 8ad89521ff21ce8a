/- Several texts in one. -/
import Derived.Test.YthekkgndckkoaaaPast4
import Derived.Test.YthekkgndckkoaaaBox
import Derived.Test.YthekkgndckkoaaaHeapC
/- Lists of what was done, each list in a block of its own, all within an interval of blocks; their marks, plainly. No Go text is walked here. -/
namespace Go.Proofs.Ythekkgndckkoaaa
open Go.RowKit
set_option linter.unusedVariables false
set_option linter.unusedSimpArgs false

def Apart (a b : Value) : Prop := ∀ g, a.ownBlock = some g → b.ownBlock = some g → False
def blocksOf (us : List (Value × Value)) : List Nat := us.flatMap fun u => u.1.ownBlock.toList ++ u.2.ownBlock.toList

structure PastO (N M : Nat) (w : World) (vs vo : Value) (p : PastV) : Prop where
  fr : PastFr N w vs vo p
  hs : ∀ g, vs.ownBlock = some g → g < M
  ho : ∀ g, vo.ownBlock = some g → g < M

theorem PastO.keep {N M : Nat} {w w' : World} {vs vo : Value} {p : PastV} (hk : ∀ b, N ≤ b → b < M → w'.heap[b]? = w.heap[b]?) (h : PastO N M w vs vo p) : PastO N M w' vs vo p :=
  ⟨⟨h.fr.s.block (fun g hg _ => hk g (h.fr.s.blk g hg).1 (h.hs g hg)), h.fr.o.block (fun g hg _ => hk g (h.fr.o.blk g hg).1 (h.ho g hg))⟩, h.hs, h.ho⟩
theorem PastO.only {N M : Nat} {w w' : World} {vs vo : Value} {p : PastV} (h1 : ∀ b, vs.ownBlock = some b → w'.heap[b]? = w.heap[b]?) (h2 : ∀ b, vo.ownBlock = some b → w'.heap[b]? = w.heap[b]?) (h : PastO N M w vs vo p) : PastO N M w' vs vo p :=
  ⟨⟨h.fr.s.block (fun g hg _ => h1 g hg), h.fr.o.block (fun g hg _ => h2 g hg)⟩, h.hs, h.ho⟩
theorem PastO.wide {N M N' M' : Nat} {w : World} {vs vo : Value} {p : PastV} (hN : N' ≤ N) (hM : M ≤ M') (h : PastO N M w vs vo p) : PastO N' M' w vs vo p :=
  ⟨h.fr.less hN, fun g hg => Nat.lt_of_lt_of_le (h.hs g hg) hM, fun g hg => Nat.lt_of_lt_of_le (h.ho g hg) hM⟩

/-- The first ones of a list of such, as many as us has, lie in the row. -/
def PastsIn2 (N M : Nat) (w : World) (f : Nat → Value) (us : List (Value × Value)) (ps : List PastV) : Prop :=
  ∀ i (h : i < us.length) (h' : i < ps.length), (∀ j (hj : j < 12), f (i * 12 + j) = (pastCells ps[i] us[i].1 us[i].2)[j]) ∧ PastO N M w us[i].1 us[i].2 ps[i]

def PastsO (N M : Nat) (w : World) (v : Value) (us : List (Value × Value)) (ps : List PastV) : Prop :=
  (v = .slice none 0 0 ∧ ps = [] ∧ us = []) ∨ ∃ g cap f, v = .slice (some ⟨g, 0, none⟩) ps.length cap ∧ N ≤ g ∧ g < M ∧ ps.length ≤ cap ∧ cap ≤ maxLen ∧ w.rowIs g 65 (cap * 12) f ∧ us.length = ps.length ∧ PastsIn2 N M w f us ps

def PastsOwn (N M : Nat) (w : World) (v : Value) (ps : List PastV) : Prop := ∃ us, PastsO N M w v us ps ∧ (v.ownBlock.toList ++ blocksOf us).Nodup

theorem PastsIn2.keep {N M : Nat} {w w' : World} {f : Nat → Value} {us : List (Value × Value)} {ps : List PastV} (hk : ∀ b, N ≤ b → b < M → w'.heap[b]? = w.heap[b]?) (h : PastsIn2 N M w f us ps) : PastsIn2 N M w' f us ps :=
  fun i hi hi' => ⟨(h i hi hi').1, (h i hi hi').2.keep hk⟩
theorem PastsIn2.wide {N M N' M' : Nat} {w : World} {f : Nat → Value} {us : List (Value × Value)} {ps : List PastV} (hN : N' ≤ N) (hM : M ≤ M') (h : PastsIn2 N M w f us ps) : PastsIn2 N' M' w f us ps :=
  fun i hi hi' => ⟨(h i hi hi').1, (h i hi hi').2.wide hN hM⟩

theorem PastsO.keep {N M : Nat} {w w' : World} {v : Value} {us : List (Value × Value)} {ps : List PastV} (hk : ∀ b, N ≤ b → b < M → w'.heap[b]? = w.heap[b]?) (h : PastsO N M w v us ps) : PastsO N M w' v us ps := by
  rcases h with h | ⟨g, cap, f, h1, h2, h3, h4, h5, h6, h7, h8⟩
  · exact Or.inl h
  · exact Or.inr ⟨g, cap, f, h1, h2, h3, h4, h5, h6.of_block (hk g h2 h3), h7, h8.keep hk⟩
theorem PastsO.wide {N M N' M' : Nat} {w : World} {v : Value} {us : List (Value × Value)} {ps : List PastV} (hN : N' ≤ N) (hM : M ≤ M') (h : PastsO N M w v us ps) : PastsO N' M' w v us ps := by
  rcases h with h | ⟨g, cap, f, h1, h2, h3, h4, h5, h6, h7, h8⟩
  · exact Or.inl h
  · exact Or.inr ⟨g, cap, f, h1, Nat.le_trans hN h2, Nat.lt_of_lt_of_le h3 hM, h4, h5, h6, h7, h8.wide hN hM⟩
theorem PastsO.at {N M : Nat} {w : World} {v : Value} {us : List (Value × Value)} {ps : List PastV} (h : PastsO N M w v us ps) : PastsAt w v ps := by
  rcases h with ⟨rfl, rfl, _⟩ | ⟨g, cap, f, rfl, h2, h3, h4, h5, h6, h7, h8⟩
  · exact ⟨none, 0, rfl, Nat.le_refl _, Nat.zero_le _, Or.inl rfl⟩
  · refine ⟨_, _, rfl, h4, Nat.le_trans h4 h5, Or.inr ⟨g, 0, rfl, fun i hi => ?_⟩⟩
    obtain ⟨hc, hp⟩ := h8 i (by omega) hi
    refine ⟨_, _, fun j hj => ?_, hp.fr.at⟩
    have hj' : j < 12 := hj
    rw [Nat.zero_add, h6.cell (mul_place (by omega) hj'), hc j hj']

theorem PastsOwn.at {N M : Nat} {w : World} {v : Value} {ps : List PastV} (h : PastsOwn N M w v ps) : PastsAt w v ps := by
  obtain ⟨us, h1, _⟩ := h
  exact h1.at
theorem PastsOwn.keep {N M : Nat} {w w' : World} {v : Value} {ps : List PastV} (hk : ∀ b, N ≤ b → b < M → w'.heap[b]? = w.heap[b]?) (h : PastsOwn N M w v ps) : PastsOwn N M w' v ps := by
  obtain ⟨us, h1, h2⟩ := h
  exact ⟨us, h1.keep hk, h2⟩
theorem PastsOwn.wide {N M N' M' : Nat} {w : World} {v : Value} {ps : List PastV} (hN : N' ≤ N) (hM : M ≤ M') (h : PastsOwn N M w v ps) : PastsOwn N' M' w v ps := by
  obtain ⟨us, h1, h2⟩ := h
  exact ⟨us, h1.wide hN hM, h2⟩

theorem blocksOf_snoc (us : List (Value × Value)) (a b : Value) : blocksOf (us ++ [(a, b)]) = blocksOf us ++ (a.ownBlock.toList ++ b.ownBlock.toList) := by
  simp [blocksOf]

theorem blocksOf_app (a b : List (Value × Value)) : blocksOf (a ++ b) = blocksOf a ++ blocksOf b := by
  simp [blocksOf]

theorem own_nodup {a b : Value} (h : Apart a b) : (a.ownBlock.toList ++ b.ownBlock.toList).Nodup := by
  rw [List.nodup_append]
  refine ⟨?_, ?_, fun x hx y hy e => ?_⟩
  · cases a.ownBlock <;> simp
  · cases b.ownBlock <;> simp
  · subst e
    exact h x (by simpa using hx) (by simpa using hy)

theorem nodup_more {bs : List Nat} {us : List (Value × Value)} {a b : Value} {K : Nat} (h : (bs ++ blocksOf us).Nodup) (hlt : ∀ x ∈ bs ++ blocksOf us, x < K) (h1 : ∀ g, a.ownBlock = some g → K ≤ g) (h2 : ∀ g, b.ownBlock = some g → K ≤ g) (ha : Apart a b) : (bs ++ blocksOf (us ++ [(a, b)])).Nodup := by
  rw [blocksOf_snoc, ← List.append_assoc, List.nodup_append]
  refine ⟨h, own_nodup ha, fun x hx y hy e => ?_⟩
  subst e
  have h3 := hlt x hx
  rcases List.mem_append.1 hy with h4 | h4
  · have := h1 x (by simpa using h4); omega
  · have := h2 x (by simpa using h4); omega

theorem blocks_lt {N M K : Nat} {w : World} {f : Nat → Value} {us : List (Value × Value)} {ps : List PastV} (hl : us.length ≤ ps.length) (h : PastsIn2 N M w f us ps) (hM : M ≤ K) : ∀ x ∈ blocksOf us, N ≤ x ∧ x < K := by
  intro x hx
  obtain ⟨u, hu, hxu⟩ := List.mem_flatMap.1 hx
  obtain ⟨i, hi, rfl⟩ := List.getElem_of_mem hu
  obtain ⟨_, hp⟩ := h i hi (by omega)
  rcases List.mem_append.1 hxu with h4 | h4
  · have h5 : us[i].1.ownBlock = some x := by simpa using h4
    exact ⟨(hp.fr.s.blk x h5).1, Nat.lt_of_lt_of_le (hp.hs x h5) hM⟩
  · have h5 : us[i].2.ownBlock = some x := by simpa using h4
    exact ⟨(hp.fr.o.blk x h5).1, Nat.lt_of_lt_of_le (hp.ho x h5) hM⟩

/-- What is written lies within an interval of blocks. -/
structure Within (N M : Nat) (w w' : World) : Prop where
  size : w'.heap.size = w.heap.size
  other : ∀ b, ¬ (N ≤ b ∧ b < M) → w'.heap[b]? = w.heap[b]?
  below : ∀ B, B ≤ N → Below B w w'

theorem Within.refl (N M : Nat) (w : World) : Within N M w w := ⟨rfl, fun _ _ => rfl, fun B _ => Below.refl B w⟩
theorem Within.trans {N M : Nat} {a b c : World} (h : Within N M a b) (k : Within N M b c) : Within N M a c :=
  ⟨k.size.trans h.size, fun x hx => (k.other x hx).trans (h.other x hx), fun B hB => (h.below B hB).trans (k.below B hB)⟩
theorem Within.of_only {N M : Nat} {v : Value} {w w' : World} (h : OnlyOf v w w') (hv : ∀ g, v.ownBlock = some g → N ≤ g ∧ g < M) : Within N M w w' :=
  ⟨h.size, fun b hb => h.other b (fun e => hb (hv b e)), fun B hB => h.below B (fun g hg => Nat.le_trans hB (hv g hg).1)⟩
theorem setVals_size {b : Nat} : ∀ (xs : List Value) (o : Nat) (w : World), (setVals w b o xs).heap.size = w.heap.size
  | [], _, _ => rfl
  | x :: xs, o, w => by
    rw [setVals, setVals_size xs (o + 1)]
    simp
theorem Within.vals {N M g o : Nat} {w : World} (xs : List Value) (h1 : N ≤ g) (h2 : g < M) : Within N M w (setVals w g o xs) :=
  ⟨setVals_size xs o w, fun b hb => setVals_other xs o w b (fun e => hb (by omega)), fun B hB => setVals_below xs o w (Below.refl _ _) (Nat.le_trans hB h1)⟩

/-! Marks. -/
def evFrom (k : Int) : EvV := ⟨k, k + 1, k + 2, k + 3, k + 4, k + 5, k + 6⟩
def outFrom (k : Int) : OutV := ⟨k, k + 1, k + 2, k + 3, k + 4⟩
def markEvs (k : Int) (n : Nat) : List EvV := (List.range n).map fun (i : Nat) => evFrom (k + ((i * 7 : Nat) : Int))
def markOuts (k : Int) (n : Nat) : List OutV := (List.range n).map fun (i : Nat) => outFrom (k + ((i * 5 : Nat) : Int))
def szP (p : PastV) : Int := 10 + 7 * (p.sends.length : Int) + 5 * (p.outs.length : Int)
def markP (k : Int) (p : PastV) : PastV := ⟨evFrom k, ⟨k + 7, k + 8, k + 9⟩, markEvs (k + 10) p.sends.length, markOuts (k + 10 + 7 * (p.sends.length : Int)) p.outs.length⟩
def markPs : Int → List PastV → List PastV
  | _, [] => []
  | k, p :: ps => markP k p :: markPs (k + szP p) ps
def szPs : List PastV → Int
  | [] => 0
  | p :: ps => szP p + szPs ps

theorem markEvs_rows (k : Int) (n : Nat) : (markEvs k n).map evRow = markRows 7 k n := by
  simp only [markEvs, markRows, List.map_map]
  refine List.map_congr_left (fun i _ => ?_)
  simp [Function.comp, evRow, evFrom, List.range, List.range.loop]
  omega
theorem markOuts_rows (k : Int) (n : Nat) : (markOuts k n).map outRow = markRows 5 k n := by
  simp only [markOuts, markRows, List.map_map]
  refine List.map_congr_left (fun i _ => ?_)
  simp [Function.comp, outRow, outFrom, List.range, List.range.loop]
  omega
theorem markEvs_len (k : Int) (n : Nat) : (markEvs k n).length = n := by simp [markEvs]
theorem markOuts_len (k : Int) (n : Nat) : (markOuts k n).length = n := by simp [markOuts]
theorem markPs_len : ∀ (ps : List PastV) (k : Int), (markPs k ps).length = ps.length
  | [], _ => rfl
  | p :: ps, k => by simp [markPs, markPs_len ps]
theorem szPs_snoc : ∀ (ps : List PastV) (p : PastV), szPs (ps ++ [p]) = szPs ps + szP p
  | [], p => by simp [szPs]
  | q :: ps, p => by simp [szPs, szPs_snoc ps p]; omega
theorem markPs_snoc : ∀ (ps : List PastV) (k : Int) (p : PastV), markPs k (ps ++ [p]) = markPs k ps ++ [markP (k + szPs ps) p]
  | [], k, p => by simp [markPs, szPs]
  | q :: ps, k, p => by
    simp only [List.cons_append, markPs, markPs_snoc ps, szPs]
    rw [show k + szP q + szPs ps = k + (szP q + szPs ps) by omega]
theorem szP_pos (p : PastV) : 10 ≤ szP p := by unfold szP; omega
theorem szPs_pos : ∀ (ps : List PastV), 0 ≤ szPs ps
  | [] => by simp [szPs]
  | p :: ps => by have := szP_pos p; have := szPs_pos ps; simp only [szPs]; omega
theorem szPs_le : ∀ (ps : List PastV), (∀ p ∈ ps, p.sends.length ≤ 1048576 ∧ p.outs.length ≤ 1048576) → szPs ps ≤ 12582922 * (ps.length : Int)
  | [], _ => by simp [szPs]
  | p :: ps, h => by
    have h1 := szPs_le ps (fun q hq => h q (List.mem_cons_of_mem _ hq))
    have h2 := h p (List.mem_cons_self ..)
    simp only [szPs, szP, List.length_cons]
    omega

/-- So far marked, the rest as it was. -/
def mixed (k0 : Int) (ps : List PastV) (i : Nat) : List PastV := markPs k0 (ps.take i) ++ ps.drop i
theorem mixed_len (k0 : Int) (ps : List PastV) (i : Nat) (h : i ≤ ps.length) : (mixed k0 ps i).length = ps.length := by
  simp [mixed, markPs_len]; omega
theorem mixed_zero (k0 : Int) (ps : List PastV) : mixed k0 ps 0 = ps := by simp [mixed, markPs]
theorem mixed_all (k0 : Int) (ps : List PastV) : mixed k0 ps ps.length = markPs k0 ps := by simp [mixed]
theorem mixed_at (k0 : Int) (ps : List PastV) (i : Nat) (h : i < ps.length) (h' : i < (mixed k0 ps i).length) : (mixed k0 ps i)[i] = ps[i] := by
  have h1 : (markPs k0 (ps.take i)).length = i := by rw [markPs_len]; simp; omega
  simp only [mixed]
  rw [List.getElem_append_right (by omega)]
  simp [h1]
theorem mixed_set (k0 : Int) (ps : List PastV) (i : Nat) (h : i < ps.length) : (mixed k0 ps i).set i (markP (k0 + szPs (ps.take i)) ps[i]) = mixed k0 ps (i + 1) := by
  have h1 : (markPs k0 (ps.take i)).length = i := by rw [markPs_len]; simp; omega
  simp only [mixed]
  rw [List.set_append_right _ _ (by omega), h1, Nat.sub_self, take_more ps i h, markPs_snoc, List.drop_eq_getElem_cons h]
  simp only [List.set_cons_zero, List.append_assoc, List.singleton_append]

theorem PastsO.set {N M : Nat} {w w' : World} {g cap i : Nat} {f f' : Nat → Value} {us : List (Value × Value)} {qs : List PastV} {q : PastV} (hi : i < qs.length) (hiu : i < us.length)
    (h2 : N ≤ g) (h3 : g < M) (h4 : qs.length ≤ cap) (h5 : cap ≤ maxLen) (h7 : us.length = qs.length) (h8 : PastsIn2 N M w f us qs) (hnd : (g :: blocksOf us).Nodup)
    (hr : w'.rowIs g 65 (cap * 12) f') (hf : ∀ j, f' j = if i * 12 ≤ j ∧ j < i * 12 + 12 then (pastCells q us[i].1 us[i].2).getD (j - i * 12) undef else f j)
    (ho : ∀ b, b ≠ g → us[i].1.ownBlock ≠ some b → us[i].2.ownBlock ≠ some b → w'.heap[b]? = w.heap[b]?) (hq : PastO N M w' us[i].1 us[i].2 q) :
    PastsO N M w' (.slice (some ⟨g, 0, none⟩) (qs.set i q).length cap) us (qs.set i q) := by
  refine Or.inr ⟨g, cap, f', rfl, h2, h3, by simpa using h4, h5, hr, by simpa using h7, fun k hk hk' => ?_⟩
  have hk2 : k < qs.length := by simpa using hk'
  by_cases e : k = i
  · subst e
    refine ⟨fun j hj => ?_, by simpa using hq⟩
    have hj2 : j < (pastCells q us[k].1 us[k].2).length := hj
    rw [hf, if_pos (by omega), Nat.add_sub_cancel_left, List.getD_eq_getElem?_getD, List.getElem?_eq_getElem hj2, Option.getD_some]
    simp
  · have e2 : (qs.set i q)[k] = qs[k] := by simp [List.getElem_set, Ne.symm e]
    rw [e2]
    obtain ⟨hc, hp⟩ := h8 k hk hk2
    refine ⟨fun j hj => ?_, ?_⟩
    · rw [hf, if_neg, hc j hj]
      rcases Nat.lt_or_gt_of_ne e with h | h
      · have := mul_place h hj; omega
      · have : (i + 1) * 12 ≤ k * 12 := Nat.mul_le_mul_right 12 h
        omega
    · have hmem : ∀ (l : Nat) (hl : l < us.length) (b : Nat), (us[l].1.ownBlock = some b ∨ us[l].2.ownBlock = some b) → b ∈ blocksOf us := fun l hl b hb =>
        List.mem_flatMap.2 ⟨us[l], List.getElem_mem hl, List.mem_append.2 (hb.imp (fun h => by simp [h]) (fun h => by simp [h]))⟩
      have hnd2 : (blocksOf us).Nodup := (List.nodup_cons.1 hnd).2
      have hg : g ∉ blocksOf us := (List.nodup_cons.1 hnd).1
      have hsep : ∀ b, (us[k].1.ownBlock = some b ∨ us[k].2.ownBlock = some b) → us[i].1.ownBlock ≠ some b ∧ us[i].2.ownBlock ≠ some b := by
        intro b hb
        have key : ∀ (x y : Nat) (hx : x < us.length) (hy : y < us.length), x < y → (us[x].1.ownBlock = some b ∨ us[x].2.ownBlock = some b) → (us[y].1.ownBlock = some b ∨ us[y].2.ownBlock = some b) → False := by
          intro x y hx hy hxy h1 h2
          have hb2 : blocksOf us = blocksOf (us.take (x + 1)) ++ blocksOf (us.drop (x + 1)) := by
            have e := blocksOf_app (us.take (x + 1)) (us.drop (x + 1))
            rwa [List.take_append_drop] at e
          rw [hb2, List.nodup_append] at hnd2
          refine hnd2.2.2 b (List.mem_flatMap.2 ⟨us[x], ?_, List.mem_append.2 (h1.imp (fun h => by simp [h]) (fun h => by simp [h]))⟩) b (List.mem_flatMap.2 ⟨us[y], ?_, List.mem_append.2 (h2.imp (fun h => by simp [h]) (fun h => by simp [h]))⟩) rfl
          · exact List.mem_take_iff_getElem.2 ⟨x, by omega, rfl⟩
          · exact List.mem_drop_iff_getElem.2 ⟨y - (x + 1), by omega, by simp [show x + 1 + (y - (x + 1)) = y by omega]⟩
        constructor <;> intro h <;> rcases Nat.lt_or_gt_of_ne e with hlt | hlt
        · exact key k i hk hiu hlt hb (Or.inl h)
        · exact key i k hiu hk hlt (Or.inl h) hb
        · exact key k i hk hiu hlt hb (Or.inr h)
        · exact key i k hiu hk hlt (Or.inr h) hb
      exact hp.only (fun b hb => ho b (fun e => hg (e ▸ hmem k hk b (Or.inl hb))) (hsep b (Or.inl hb)).1 (hsep b (Or.inl hb)).2) (fun b hb => ho b (fun e => hg (e ▸ hmem k hk b (Or.inr hb))) (hsep b (Or.inr hb)).1 (hsep b (Or.inr hb)).2)
end Go.Proofs.Ythekkgndckkoaaa
/- toPast, toPastS, toLane: each list in a block of its own. -/
namespace Go.Proofs.Ythekkgndckkoaaa
open Go.RowKit
set_option linter.unusedVariables false
set_option linter.unusedSimpArgs false

theorem PastsAt.sliced2 {w : World} {v : Value} {ps : List PastV} (h : PastsAt w v ps) : ∃ a c, v = .slice a ps.length c := by
  obtain ⟨a, c, e, _⟩ := h
  exact ⟨a, c, e⟩
theorem PastsOwn.setV {N M r o : Nat} {w : World} {v : Value} {ps : List PastV} (h : PastsOwn N M w v ps) (hr : r < N) (xs : List Value) : PastsOwn N M (setVals w r o xs) v ps :=
  h.keep (fun b hb _ => setVals_other xs o w b (by omega))

theorem pastsIn2_more {g M k : Nat} {w3 : World} {f : Nat → Value} {us : List (Value × Value)} {ps : List PastV} {a b : Value} {p : PastV} (hul : us.length = k) (hk : k < ps.length) (hp : p = ps[k]) (h : PastsIn2 (g + 1) M w3 f us ps) (hM : M ≤ w3.heap.size) (hn : PastFr (g + 1) w3 a b p) :
    PastsIn2 (g + 1) (setVals w3 g (k * 12) (pastCells p a b)).heap.size (setVals w3 g (k * 12) (pastCells p a b)) (fun j => if k * 12 ≤ j ∧ j < k * 12 + (pastCells p a b).length then (pastCells p a b).getD (j - k * 12) undef else f j) (us ++ [(a, b)]) ps := by
  intro i hi hi'
  rw [setVals_size]
  have hset : ∀ x, g + 1 ≤ x → x < w3.heap.size → (setVals w3 g (k * 12) (pastCells p a b)).heap[x]? = w3.heap[x]? := fun x hx _ => setVals_other _ _ _ _ (by omega)
  by_cases e : i < us.length
  · obtain ⟨h1, h2⟩ := h i e hi'
    rw [List.getElem_append_left e]
    refine ⟨fun j hj => ?_, (h2.wide (Nat.le_refl _) hM).keep hset⟩
    have := mul_place (show i < k by omega) hj
    show (if k * 12 ≤ i * 12 + j ∧ i * 12 + j < k * 12 + 12 then _ else f (i * 12 + j)) = _
    rw [if_neg (by omega)]
    exact h1 j hj
  · obtain rfl : i = k := by simp at hi; omega
    have e3 : (us ++ [(a, b)])[i] = (a, b) := by
      rw [List.getElem_append_right (by omega)]
      simp [hul]
    rw [e3, ← hp]
    refine ⟨fun j hj => ?_, PastO.keep hset ⟨hn, fun g hg => (hn.s.blk g hg).2, fun g hg => (hn.o.blk g hg).2⟩⟩
    have hj2 : j < (pastCells p a b).length := hj
    show (if i * 12 ≤ i * 12 + j ∧ i * 12 + j < i * 12 + 12 then (pastCells p a b).getD (i * 12 + j - i * 12) undef else f (i * 12 + j)) = _
    rw [if_pos (by omega), Nat.add_sub_cancel_left, List.getD_eq_getElem?_getD, List.getElem?_eq_getElem hj2, Option.getD_some]

set_option maxRecDepth 100000 in
set_option maxHeartbeats 2000000 in
theorem toPast_own (p : PastV) (vs vo : Value) (w : World) (h : PastAt w vs vo p) (hl1 : p.sends.length ≤ 1048576) (hl2 : p.outs.length ≤ 1048576) :
    Calls Try.prog 73 #[pastAgg p vs vo] w fun e w' => ∃ us uo, e = .returned (pastAgg p us uo) ∧ PastFr (w.heap.size + 1) w' us uo p ∧ Apart us uo ∧ Below w.heap.size w w' := by
  have H := hide h
  obtain ⟨a1, c1, e1, _⟩ := h.s
  obtain ⟨a2, c2, e2, _⟩ := h.o
  rw [List.length_map] at e1 e2
  subst e1 e2
  clear h
  have hb0 : Below w.heap.size w (((w.alloc (.cells #[.int .i64 p.ev.time, .int .i64 p.ev.to, .int .i64 p.ev.src, .int .i64 p.ev.count, .int .i64 p.ev.n, .int .i64 p.ev.kind, .int .i64 p.ev.arg, .int .i64 p.st.x, .int .i64 p.st.y, .int .i64 p.st.c, .slice a1 p.sends.length c1, .slice a2 p.outs.length c2] 96)).alloc (.cells #[.int .i64 0, .int .i64 0, .int .i64 0, .int .i64 0, .int .i64 0, .int .i64 0, .int .i64 0, .int .i64 0, .int .i64 0, .int .i64 0, .slice none 0 0, .slice none 0 0] 65)).alloc (.cells #[.int .i64 0, .int .i64 0, .int .i64 0, .int .i64 0, .int .i64 0, .int .i64 0, .int .i64 0, .int .i64 0, .int .i64 0, .int .i64 0, .slice none 0 0, .slice none 0 0] 65)) := (((Below.refl _ _).alloc (Nat.le_refl _) _).alloc (by simp) _).alloc (by simp; omega) _
  have cA : CellsAt (((w.alloc (.cells #[.int .i64 p.ev.time, .int .i64 p.ev.to, .int .i64 p.ev.src, .int .i64 p.ev.count, .int .i64 p.ev.n, .int .i64 p.ev.kind, .int .i64 p.ev.arg, .int .i64 p.st.x, .int .i64 p.st.y, .int .i64 p.st.c, .slice a1 p.sends.length c1, .slice a2 p.outs.length c2] 96)).alloc (.cells #[.int .i64 0, .int .i64 0, .int .i64 0, .int .i64 0, .int .i64 0, .int .i64 0, .int .i64 0, .int .i64 0, .int .i64 0, .int .i64 0, .slice none 0 0, .slice none 0 0] 65)).alloc (.cells #[.int .i64 0, .int .i64 0, .int .i64 0, .int .i64 0, .int .i64 0, .int .i64 0, .int .i64 0, .int .i64 0, .int .i64 0, .int .i64 0, .slice none 0 0, .slice none 0 0] 65)) w.heap.size 0 (pastCells p (.slice a1 p.sends.length c1) (.slice a2 p.outs.length c2)) := fun j hj => by
    match j, hj with
    | 0, _ => simp [go_sem]
    | 1, _ => simp [go_sem]
    | 2, _ => simp [go_sem]
    | 3, _ => simp [go_sem]
    | 4, _ => simp [go_sem]
    | 5, _ => simp [go_sem]
    | 6, _ => simp [go_sem]
    | 7, _ => simp [go_sem]
    | 8, _ => simp [go_sem]
    | 9, _ => simp [go_sem]
    | 10, _ => simp [go_sem]
    | 11, _ => simp [go_sem]
  have r2 : (((w.alloc (.cells #[.int .i64 p.ev.time, .int .i64 p.ev.to, .int .i64 p.ev.src, .int .i64 p.ev.count, .int .i64 p.ev.n, .int .i64 p.ev.kind, .int .i64 p.ev.arg, .int .i64 p.st.x, .int .i64 p.st.y, .int .i64 p.st.c, .slice a1 p.sends.length c1, .slice a2 p.outs.length c2] 96)).alloc (.cells #[.int .i64 0, .int .i64 0, .int .i64 0, .int .i64 0, .int .i64 0, .int .i64 0, .int .i64 0, .int .i64 0, .int .i64 0, .int .i64 0, .slice none 0 0, .slice none 0 0] 65)).alloc (.cells #[.int .i64 0, .int .i64 0, .int .i64 0, .int .i64 0, .int .i64 0, .int .i64 0, .int .i64 0, .int .i64 0, .int .i64 0, .int .i64 0, .slice none 0 0, .slice none 0 0] 65)).rowIs (w.heap.size + 1) 65 12 (fun j => if j < 10 then .int .i64 0 else .slice none 0 0) := by
    have e := World.rowIs_alloc (w.alloc (.cells #[.int .i64 p.ev.time, .int .i64 p.ev.to, .int .i64 p.ev.src, .int .i64 p.ev.count, .int .i64 p.ev.n, .int .i64 p.ev.kind, .int .i64 p.ev.arg, .int .i64 p.st.x, .int .i64 p.st.y, .int .i64 p.st.c, .slice a1 p.sends.length c1, .slice a2 p.outs.length c2] 96)) #[.int .i64 0, .int .i64 0, .int .i64 0, .int .i64 0, .int .i64 0, .int .i64 0, .int .i64 0, .int .i64 0, .int .i64 0, .int .i64 0, .slice none 0 0, .slice none 0 0] 65 (fun j => if j < 10 then .int .i64 0 else .slice none 0 0) (fun j hj => by
      match j, hj with
      | 0, _ => simp
      | 1, _ => simp
      | 2, _ => simp
      | 3, _ => simp
      | 4, _ => simp
      | 5, _ => simp
      | 6, _ => simp
      | 7, _ => simp
      | 8, _ => simp
      | 9, _ => simp
      | 10, _ => simp
      | 11, _ => simp)
    have hs1 : (w.alloc (.cells #[.int .i64 p.ev.time, .int .i64 p.ev.to, .int .i64 p.ev.src, .int .i64 p.ev.count, .int .i64 p.ev.n, .int .i64 p.ev.kind, .int .i64 p.ev.arg, .int .i64 p.st.x, .int .i64 p.st.y, .int .i64 p.st.c, .slice a1 p.sends.length c1, .slice a2 p.outs.length c2] 96)).heap.size = w.heap.size + 1 := by simp
    rw [hs1] at e
    exact e.of_block (((Below.refl _ _).alloc (Nat.le_refl _) _).block (w.heap.size + 1) (by simp))
  have r3 : (((w.alloc (.cells #[.int .i64 p.ev.time, .int .i64 p.ev.to, .int .i64 p.ev.src, .int .i64 p.ev.count, .int .i64 p.ev.n, .int .i64 p.ev.kind, .int .i64 p.ev.arg, .int .i64 p.st.x, .int .i64 p.st.y, .int .i64 p.st.c, .slice a1 p.sends.length c1, .slice a2 p.outs.length c2] 96)).alloc (.cells #[.int .i64 0, .int .i64 0, .int .i64 0, .int .i64 0, .int .i64 0, .int .i64 0, .int .i64 0, .int .i64 0, .int .i64 0, .int .i64 0, .slice none 0 0, .slice none 0 0] 65)).alloc (.cells #[.int .i64 0, .int .i64 0, .int .i64 0, .int .i64 0, .int .i64 0, .int .i64 0, .int .i64 0, .int .i64 0, .int .i64 0, .int .i64 0, .slice none 0 0, .slice none 0 0] 65)).rowIs (w.heap.size + 2) 65 12 (fun j => if j < 10 then .int .i64 0 else .slice none 0 0) := by
    have e := World.rowIs_alloc ((w.alloc (.cells #[.int .i64 p.ev.time, .int .i64 p.ev.to, .int .i64 p.ev.src, .int .i64 p.ev.count, .int .i64 p.ev.n, .int .i64 p.ev.kind, .int .i64 p.ev.arg, .int .i64 p.st.x, .int .i64 p.st.y, .int .i64 p.st.c, .slice a1 p.sends.length c1, .slice a2 p.outs.length c2] 96)).alloc (.cells #[.int .i64 0, .int .i64 0, .int .i64 0, .int .i64 0, .int .i64 0, .int .i64 0, .int .i64 0, .int .i64 0, .int .i64 0, .int .i64 0, .slice none 0 0, .slice none 0 0] 65)) #[.int .i64 0, .int .i64 0, .int .i64 0, .int .i64 0, .int .i64 0, .int .i64 0, .int .i64 0, .int .i64 0, .int .i64 0, .int .i64 0, .slice none 0 0, .slice none 0 0] 65 (fun j => if j < 10 then .int .i64 0 else .slice none 0 0) (fun j hj => by
      match j, hj with
      | 0, _ => simp
      | 1, _ => simp
      | 2, _ => simp
      | 3, _ => simp
      | 4, _ => simp
      | 5, _ => simp
      | 6, _ => simp
      | 7, _ => simp
      | 8, _ => simp
      | 9, _ => simp
      | 10, _ => simp
      | 11, _ => simp)
    have hs1 : ((w.alloc (.cells #[.int .i64 p.ev.time, .int .i64 p.ev.to, .int .i64 p.ev.src, .int .i64 p.ev.count, .int .i64 p.ev.n, .int .i64 p.ev.kind, .int .i64 p.ev.arg, .int .i64 p.st.x, .int .i64 p.st.y, .int .i64 p.st.c, .slice a1 p.sends.length c1, .slice a2 p.outs.length c2] 96)).alloc (.cells #[.int .i64 0, .int .i64 0, .int .i64 0, .int .i64 0, .int .i64 0, .int .i64 0, .int .i64 0, .int .i64 0, .int .i64 0, .int .i64 0, .slice none 0 0, .slice none 0 0] 65)).heap.size = w.heap.size + 2 := by simp
    rw [hs1] at e
    exact e
  have hs0 : (((w.alloc (.cells #[.int .i64 p.ev.time, .int .i64 p.ev.to, .int .i64 p.ev.src, .int .i64 p.ev.count, .int .i64 p.ev.n, .int .i64 p.ev.kind, .int .i64 p.ev.arg, .int .i64 p.st.x, .int .i64 p.st.y, .int .i64 p.st.c, .slice a1 p.sends.length c1, .slice a2 p.outs.length c2] 96)).alloc (.cells #[.int .i64 0, .int .i64 0, .int .i64 0, .int .i64 0, .int .i64 0, .int .i64 0, .int .i64 0, .int .i64 0, .int .i64 0, .int .i64 0, .slice none 0 0, .slice none 0 0] 65)).alloc (.cells #[.int .i64 0, .int .i64 0, .int .i64 0, .int .i64 0, .int .i64 0, .int .i64 0, .int .i64 0, .int .i64 0, .int .i64 0, .int .i64 0, .slice none 0 0, .slice none 0 0] 65)).heap.size = w.heap.size + 3 := by simp
  have HB00 := hide hb0
  have HA := hide cA
  have HZ := hide r2
  have HR0 := hide r3
  have HS0 := hide hs0
  clear hb0 cA r2 r3 hs0
  go_enter Try.func73, Try.ntmps73
  go_upto_region 2 with fail
  generalize (((w.alloc (.cells #[.int .i64 p.ev.time, .int .i64 p.ev.to, .int .i64 p.ev.src, .int .i64 p.ev.count, .int .i64 p.ev.n, .int .i64 p.ev.kind, .int .i64 p.ev.arg, .int .i64 p.st.x, .int .i64 p.st.y, .int .i64 p.st.c, .slice a1 p.sends.length c1, .slice a2 p.outs.length c2] 96)).alloc (.cells #[.int .i64 0, .int .i64 0, .int .i64 0, .int .i64 0, .int .i64 0, .int .i64 0, .int .i64 0, .int .i64 0, .int .i64 0, .int .i64 0, .slice none 0 0, .slice none 0 0] 65)).alloc (.cells #[.int .i64 0, .int .i64 0, .int .i64 0, .int .i64 0, .int .i64 0, .int .i64 0, .int .i64 0, .int .i64 0, .int .i64 0, .int .i64 0, .slice none 0 0, .slice none 0 0] 65)) = W0 at *
  have k0 : W0.cell? ⟨w.heap.size, 0, none⟩ = some (.int .i64 p.ev.time) := (unhide HA) 0 (by simp)
  have k1 : W0.cell? ⟨w.heap.size, 1, none⟩ = some (.int .i64 p.ev.to) := (unhide HA) 1 (by simp)
  have k2 : W0.cell? ⟨w.heap.size, 2, none⟩ = some (.int .i64 p.ev.src) := (unhide HA) 2 (by simp)
  have k3 : W0.cell? ⟨w.heap.size, 3, none⟩ = some (.int .i64 p.ev.count) := (unhide HA) 3 (by simp)
  have k4 : W0.cell? ⟨w.heap.size, 4, none⟩ = some (.int .i64 p.ev.n) := (unhide HA) 4 (by simp)
  have k5 : W0.cell? ⟨w.heap.size, 5, none⟩ = some (.int .i64 p.ev.kind) := (unhide HA) 5 (by simp)
  have k6 : W0.cell? ⟨w.heap.size, 6, none⟩ = some (.int .i64 p.ev.arg) := (unhide HA) 6 (by simp)
  have k7 : W0.cell? ⟨w.heap.size, 7, none⟩ = some (.int .i64 p.st.x) := (unhide HA) 7 (by simp)
  have k8 : W0.cell? ⟨w.heap.size, 8, none⟩ = some (.int .i64 p.st.y) := (unhide HA) 8 (by simp)
  have k9 : W0.cell? ⟨w.heap.size, 9, none⟩ = some (.int .i64 p.st.c) := (unhide HA) 9 (by simp)
  have k10 : W0.cell? ⟨w.heap.size, 10, none⟩ = some (.slice a1 p.sends.length c1) := (unhide HA) 10 (by simp)
  have k11 : W0.cell? ⟨w.heap.size, 11, none⟩ = some (.slice a2 p.outs.length c2) := (unhide HA) 11 (by simp)
  go_wp2_with fail
  refine (toEvent_any _ _ _ _ _ _ _ _).mono ?_
  rintro e w1 ⟨rfl, hb1⟩
  have hs1 : w.heap.size + 3 ≤ w1.heap.size := by have := hb1.size; rw [unhide HS0] at this; exact this
  have HR1 := hide ((unhide HR0).of_block (hb1.block (w.heap.size + 2) (by have := unhide HS0; omega)))
  have HB1 : Hid (Below (w.heap.size + 2) W0 w1) := hide (hb1.mono (by have := unhide HS0; omega))
  clear HR0 hb1
  clear k0 k1 k2 k3 k4 k5 k6 k7 k8 k9 k10 k11
  have g0 := (unhide HR1).cell (i := 0) (by omega)
  have z0 := (unhide HR1).frozen 0
  have g1 := (unhide HR1).cell (i := 1) (by omega)
  have z1 := (unhide HR1).frozen 1
  have g2 := (unhide HR1).cell (i := 2) (by omega)
  have z2 := (unhide HR1).frozen 2
  have g3 := (unhide HR1).cell (i := 3) (by omega)
  have z3 := (unhide HR1).frozen 3
  have g4 := (unhide HR1).cell (i := 4) (by omega)
  have z4 := (unhide HR1).frozen 4
  have g5 := (unhide HR1).cell (i := 5) (by omega)
  have z5 := (unhide HR1).frozen 5
  have g6 := (unhide HR1).cell (i := 6) (by omega)
  have z6 := (unhide HR1).frozen 6
  have hset : (((((((w1.setCell ⟨w.heap.size + 2, 0, none⟩ (.int .i64 p.ev.time)).setCell ⟨w.heap.size + 2, 1, none⟩ (.int .i64 p.ev.to)).setCell ⟨w.heap.size + 2, 2, none⟩ (.int .i64 p.ev.src)).setCell ⟨w.heap.size + 2, 3, none⟩ (.int .i64 p.ev.count)).setCell ⟨w.heap.size + 2, 4, none⟩ (.int .i64 p.ev.n)).setCell ⟨w.heap.size + 2, 5, none⟩ (.int .i64 p.ev.kind)).setCell ⟨w.heap.size + 2, 6, none⟩ (.int .i64 p.ev.arg)) = setVals w1 (w.heap.size + 2) 0 [.int .i64 p.ev.time, .int .i64 p.ev.to, .int .i64 p.ev.src, .int .i64 p.ev.count, .int .i64 p.ev.n, .int .i64 p.ev.kind, .int .i64 p.ev.arg] := rfl
  have HR2 : Hid ((((((((w1.setCell ⟨w.heap.size + 2, 0, none⟩ (.int .i64 p.ev.time)).setCell ⟨w.heap.size + 2, 1, none⟩ (.int .i64 p.ev.to)).setCell ⟨w.heap.size + 2, 2, none⟩ (.int .i64 p.ev.src)).setCell ⟨w.heap.size + 2, 3, none⟩ (.int .i64 p.ev.count)).setCell ⟨w.heap.size + 2, 4, none⟩ (.int .i64 p.ev.n)).setCell ⟨w.heap.size + 2, 5, none⟩ (.int .i64 p.ev.kind)).setCell ⟨w.heap.size + 2, 6, none⟩ (.int .i64 p.ev.arg)).rowIs (w.heap.size + 2) 65 12 _) := hide (by rw [hset]; exact setVals_row [.int .i64 p.ev.time, .int .i64 p.ev.to, .int .i64 p.ev.src, .int .i64 p.ev.count, .int .i64 p.ev.n, .int .i64 p.ev.kind, .int .i64 p.ev.arg] 0 w1 _ (unhide HR1))
  have HB2 : Hid (Below (w.heap.size + 2) W0 (((((((w1.setCell ⟨w.heap.size + 2, 0, none⟩ (.int .i64 p.ev.time)).setCell ⟨w.heap.size + 2, 1, none⟩ (.int .i64 p.ev.to)).setCell ⟨w.heap.size + 2, 2, none⟩ (.int .i64 p.ev.src)).setCell ⟨w.heap.size + 2, 3, none⟩ (.int .i64 p.ev.count)).setCell ⟨w.heap.size + 2, 4, none⟩ (.int .i64 p.ev.n)).setCell ⟨w.heap.size + 2, 5, none⟩ (.int .i64 p.ev.kind)).setCell ⟨w.heap.size + 2, 6, none⟩ (.int .i64 p.ev.arg))) := hide (by rw [hset]; exact setVals_below [.int .i64 p.ev.time, .int .i64 p.ev.to, .int .i64 p.ev.src, .int .i64 p.ev.count, .int .i64 p.ev.n, .int .i64 p.ev.kind, .int .i64 p.ev.arg] 0 w1 (unhide HB1) (Nat.le_refl _))
  clear hset
  go_upto_region 3 with fail
  clear g0 z0 g1 z1 g2 z2 g3 z3 g4 z4 g5 z5 g6 z6
  generalize (((((((w1.setCell ⟨w.heap.size + 2, 0, none⟩ (.int .i64 p.ev.time)).setCell ⟨w.heap.size + 2, 1, none⟩ (.int .i64 p.ev.to)).setCell ⟨w.heap.size + 2, 2, none⟩ (.int .i64 p.ev.src)).setCell ⟨w.heap.size + 2, 3, none⟩ (.int .i64 p.ev.count)).setCell ⟨w.heap.size + 2, 4, none⟩ (.int .i64 p.ev.n)).setCell ⟨w.heap.size + 2, 5, none⟩ (.int .i64 p.ev.kind)).setCell ⟨w.heap.size + 2, 6, none⟩ (.int .i64 p.ev.arg)) = w2 at *
  have hs2 : w.heap.size + 3 ≤ w2.heap.size := by have := (unhide HB2).size; rw [unhide HS0] at this; exact this
  have k7 := ((unhide HB2).cell (p := ⟨w.heap.size, 7, none⟩) (show w.heap.size < w.heap.size + 2 by omega)).trans ((unhide HA) 7 (by simp))
  have k8 := ((unhide HB2).cell (p := ⟨w.heap.size, 8, none⟩) (show w.heap.size < w.heap.size + 2 by omega)).trans ((unhide HA) 8 (by simp))
  have k9 := ((unhide HB2).cell (p := ⟨w.heap.size, 9, none⟩) (show w.heap.size < w.heap.size + 2 by omega)).trans ((unhide HA) 9 (by simp))
  simp at k7 k8 k9
  clear HR1 HB1
  go_wp2_with fail
  refine (toState_any _ _ _ _).mono ?_
  rintro e w3 ⟨rfl, hb3⟩
  have HR3 := hide ((unhide HR2).of_block (hb3.block (w.heap.size + 2) (by omega)))
  have HB3 : Hid (Below (w.heap.size + 2) W0 w3) := hide ((unhide HB2).trans (hb3.mono (by omega)))
  clear HR2 HB2 hb3 k7 k8 k9
  have g7 := (unhide HR3).cell (i := 7) (by omega)
  have z7 := (unhide HR3).frozen 7
  have g8 := (unhide HR3).cell (i := 8) (by omega)
  have z8 := (unhide HR3).frozen 8
  have g9 := (unhide HR3).cell (i := 9) (by omega)
  have z9 := (unhide HR3).frozen 9
  have hset : (((w3.setCell ⟨w.heap.size + 2, 7, none⟩ (.int .i64 p.st.x)).setCell ⟨w.heap.size + 2, 8, none⟩ (.int .i64 p.st.y)).setCell ⟨w.heap.size + 2, 9, none⟩ (.int .i64 p.st.c)) = setVals w3 (w.heap.size + 2) 7 [.int .i64 p.st.x, .int .i64 p.st.y, .int .i64 p.st.c] := rfl
  have HR4 : Hid ((((w3.setCell ⟨w.heap.size + 2, 7, none⟩ (.int .i64 p.st.x)).setCell ⟨w.heap.size + 2, 8, none⟩ (.int .i64 p.st.y)).setCell ⟨w.heap.size + 2, 9, none⟩ (.int .i64 p.st.c)).rowIs (w.heap.size + 2) 65 12 _) := hide (by rw [hset]; exact setVals_row [.int .i64 p.st.x, .int .i64 p.st.y, .int .i64 p.st.c] 7 w3 _ (unhide HR3))
  have HB4 : Hid (Below (w.heap.size + 2) W0 (((w3.setCell ⟨w.heap.size + 2, 7, none⟩ (.int .i64 p.st.x)).setCell ⟨w.heap.size + 2, 8, none⟩ (.int .i64 p.st.y)).setCell ⟨w.heap.size + 2, 9, none⟩ (.int .i64 p.st.c))) := hide (by rw [hset]; exact setVals_below [.int .i64 p.st.x, .int .i64 p.st.y, .int .i64 p.st.c] 7 w3 (unhide HB3) (Nat.le_refl _))
  clear hset
  simp at g7 g8 g9
  go_upto_region 4 with fail
  clear g7 z7 g8 z8 g9 z9
  generalize (((w3.setCell ⟨w.heap.size + 2, 7, none⟩ (.int .i64 p.st.x)).setCell ⟨w.heap.size + 2, 8, none⟩ (.int .i64 p.st.y)).setCell ⟨w.heap.size + 2, 9, none⟩ (.int .i64 p.st.c)) = w4 at *
  clear HR3 HB3
  have hs4 : w.heap.size + 3 ≤ w4.heap.size := by have := (unhide HB4).size; rw [unhide HS0] at this; exact this
  have k10 := ((unhide HB4).cell (p := ⟨w.heap.size, 10, none⟩) (show w.heap.size < w.heap.size + 2 by omega)).trans ((unhide HA) 10 (by simp))
  simp at k10
  have hw4 : Below w.heap.size w w4 := (unhide HB00).trans ((unhide HB4).mono (by omega))
  go_wp2_with fail
  refine (toEventS_any _ _ w4 ((unhide H).s.on hw4) (by rw [List.length_map]; exact hl1)).mono ?_
  rintro e w5 ⟨us, rfl, hu5, hb5⟩
  obtain ⟨ua, uc, hus⟩ := RowsFr_sliced hu5
  rw [List.length_map] at hus
  subst hus
  have HU5 := hide (hu5.less (show w.heap.size + 3 ≤ w4.heap.size from hs4))
  have HR5 := hide ((unhide HR4).of_block (hb5.block (w.heap.size + 2) (by omega)))
  have HB5 : Hid (Below (w.heap.size + 2) W0 w5) := hide ((unhide HB4).trans (hb5.mono (by omega)))
  clear HR4 HB4 hb5 k10 hu5 hw4
  have g10 := (unhide HR5).cell (i := 10) (by omega)
  have z10 := (unhide HR5).frozen 10
  have hset : (w5.setCell ⟨w.heap.size + 2, 10, none⟩ (.slice ua p.sends.length uc)) = setVals w5 (w.heap.size + 2) 10 [.slice ua p.sends.length uc] := rfl
  have HR6 : Hid ((w5.setCell ⟨w.heap.size + 2, 10, none⟩ (.slice ua p.sends.length uc)).rowIs (w.heap.size + 2) 65 12 _) := hide (by rw [hset]; exact setVals_row [.slice ua p.sends.length uc] 10 w5 _ (unhide HR5))
  have HB6 : Hid (Below (w.heap.size + 2) W0 (w5.setCell ⟨w.heap.size + 2, 10, none⟩ (.slice ua p.sends.length uc))) := hide (by rw [hset]; exact setVals_below [.slice ua p.sends.length uc] 10 w5 (unhide HB5) (Nat.le_refl _))
  have HU6 : Hid (RowsFr (w.heap.size + 3) 41 7 (w5.setCell ⟨w.heap.size + 2, 10, none⟩ (.slice ua p.sends.length uc)) (.slice ua p.sends.length uc) (p.sends.map evRow)) := hide (by rw [hset]; exact (unhide HU5).setV (by omega) _)
  clear hset
  simp at g10
  go_upto_region 5 with fail
  clear g10 z10
  generalize (w5.setCell ⟨w.heap.size + 2, 10, none⟩ (.slice ua p.sends.length uc)) = w6 at *
  clear HR5 HB5 HU5
  have hs6 : w.heap.size + 3 ≤ w6.heap.size := by have := (unhide HB6).size; rw [unhide HS0] at this; exact this
  have k11 := ((unhide HB6).cell (p := ⟨w.heap.size, 11, none⟩) (show w.heap.size < w.heap.size + 2 by omega)).trans ((unhide HA) 11 (by simp))
  simp at k11
  have hw6 : Below w.heap.size w w6 := (unhide HB00).trans ((unhide HB6).mono (by omega))
  go_wp2_with fail
  refine (toOutS_any _ _ w6 ((unhide H).o.on hw6) (by rw [List.length_map]; exact hl2)).mono ?_
  rintro e w7 ⟨uo, rfl, ho7, hb7⟩
  obtain ⟨oa, oc, huo⟩ := RowsFr_sliced ho7
  rw [List.length_map] at huo
  subst huo
  have HAP : Hid (Apart (.slice ua p.sends.length uc) (.slice oa p.outs.length oc)) := hide (fun g h1 h2 => by have := ((unhide HU6).blk g h1).2; have := (ho7.blk g h2).1; omega)
  have HO7 := hide (ho7.less (show w.heap.size + 3 ≤ w6.heap.size from hs6))
  have HU7 := hide ((unhide HU6).on hb7)
  have HR7 := hide ((unhide HR6).of_block (hb7.block (w.heap.size + 2) (by omega)))
  have HB7 : Hid (Below (w.heap.size + 2) W0 w7) := hide ((unhide HB6).trans (hb7.mono (by omega)))
  clear HR6 HB6 hb7 k11 ho7 HU6 hw6
  have g11 := (unhide HR7).cell (i := 11) (by omega)
  have z11 := (unhide HR7).frozen 11
  have hset : (w7.setCell ⟨w.heap.size + 2, 11, none⟩ (.slice oa p.outs.length oc)) = setVals w7 (w.heap.size + 2) 11 [.slice oa p.outs.length oc] := rfl
  have HR8 : Hid ((w7.setCell ⟨w.heap.size + 2, 11, none⟩ (.slice oa p.outs.length oc)).rowIs (w.heap.size + 2) 65 12 _) := hide (by rw [hset]; exact setVals_row [.slice oa p.outs.length oc] 11 w7 _ (unhide HR7))
  have HB8 : Hid (Below (w.heap.size + 2) W0 (w7.setCell ⟨w.heap.size + 2, 11, none⟩ (.slice oa p.outs.length oc))) := hide (by rw [hset]; exact setVals_below [.slice oa p.outs.length oc] 11 w7 (unhide HB7) (Nat.le_refl _))
  have HU8 : Hid (RowsFr (w.heap.size + 3) 41 7 (w7.setCell ⟨w.heap.size + 2, 11, none⟩ (.slice oa p.outs.length oc)) (.slice ua p.sends.length uc) (p.sends.map evRow)) := hide (by rw [hset]; exact (unhide HU7).setV (by omega) _)
  have HO8 : Hid (RowsFr (w.heap.size + 3) 92 5 (w7.setCell ⟨w.heap.size + 2, 11, none⟩ (.slice oa p.outs.length oc)) (.slice oa p.outs.length oc) (p.outs.map outRow)) := hide (by rw [hset]; exact (unhide HO7).setV (by omega) _)
  clear hset
  simp at g11
  go_upto_region 6 with fail
  clear g11 z11
  generalize (w7.setCell ⟨w.heap.size + 2, 11, none⟩ (.slice oa p.outs.length oc)) = w8 at *
  clear HR7 HB7 HU7 HO7
  have HZ8 := hide ((unhide HZ).of_block ((unhide HB8).block (w.heap.size + 1) (by omega)))
  have g0 := (unhide HR8).cell (i := 0) (by omega)
  have g1 := (unhide HR8).cell (i := 1) (by omega)
  have g2 := (unhide HR8).cell (i := 2) (by omega)
  have g3 := (unhide HR8).cell (i := 3) (by omega)
  have g4 := (unhide HR8).cell (i := 4) (by omega)
  have g5 := (unhide HR8).cell (i := 5) (by omega)
  have g6 := (unhide HR8).cell (i := 6) (by omega)
  have g7 := (unhide HR8).cell (i := 7) (by omega)
  have g8 := (unhide HR8).cell (i := 8) (by omega)
  have g9 := (unhide HR8).cell (i := 9) (by omega)
  have g10 := (unhide HR8).cell (i := 10) (by omega)
  have g11 := (unhide HR8).cell (i := 11) (by omega)
  have y0 := (unhide HZ8).cell (i := 0) (by omega)
  have x0 := (unhide HZ8).frozen 0
  have y1 := (unhide HZ8).cell (i := 1) (by omega)
  have x1 := (unhide HZ8).frozen 1
  have y2 := (unhide HZ8).cell (i := 2) (by omega)
  have x2 := (unhide HZ8).frozen 2
  have y3 := (unhide HZ8).cell (i := 3) (by omega)
  have x3 := (unhide HZ8).frozen 3
  have y4 := (unhide HZ8).cell (i := 4) (by omega)
  have x4 := (unhide HZ8).frozen 4
  have y5 := (unhide HZ8).cell (i := 5) (by omega)
  have x5 := (unhide HZ8).frozen 5
  have y6 := (unhide HZ8).cell (i := 6) (by omega)
  have x6 := (unhide HZ8).frozen 6
  have y7 := (unhide HZ8).cell (i := 7) (by omega)
  have x7 := (unhide HZ8).frozen 7
  have y8 := (unhide HZ8).cell (i := 8) (by omega)
  have x8 := (unhide HZ8).frozen 8
  have y9 := (unhide HZ8).cell (i := 9) (by omega)
  have x9 := (unhide HZ8).frozen 9
  have y10 := (unhide HZ8).cell (i := 10) (by omega)
  have x10 := (unhide HZ8).frozen 10
  have y11 := (unhide HZ8).cell (i := 11) (by omega)
  have x11 := (unhide HZ8).frozen 11
  simp at g0 g1 g2 g3 g4 g5 g6 g7 g8 g9 g10 g11
  simp at y0 y1 y2 y3 y4 y5 y6 y7 y8 y9 y10 y11
  have hw8 : Below w.heap.size w w8 := (unhide HB00).trans ((unhide HB8).mono (by omega))
  have HW8 := hide hw8
  clear hw8
  go_wp2_with fail
  refine bodyPost_ret (v := pastAgg p (.slice ua p.sends.length uc) (.slice oa p.outs.length oc)) (by simp [results, Try.results73, go_sem, y0, y1, y2, y3, y4, y5, y6, y7, y8, y9, y10, y11]) rfl ⟨_, _, rfl, ⟨?_, ?_⟩, unhide HAP, ?_⟩
  · exact ((unhide HU8).setV (r := w.heap.size + 1) (o := 0) (by omega) (pastCells p (.slice ua p.sends.length uc) (.slice oa p.outs.length oc))).less (by omega)
  · exact ((unhide HO8).setV (r := w.heap.size + 1) (o := 0) (by omega) (pastCells p (.slice ua p.sends.length uc) (.slice oa p.outs.length oc))).less (by omega)
  · exact setVals_below (pastCells p (.slice ua p.sends.length uc) (.slice oa p.outs.length oc)) 0 w8 (unhide HW8) (by omega)
set_option maxRecDepth 100000 in
set_option maxHeartbeats 2000000 in
theorem toPastS_own (v : Value) (ps : List PastV) (w : World) (h : PastsAt w v ps) (hlen : ps.length ≤ 1048576) (hl : ∀ p ∈ ps, p.sends.length ≤ 1048576 ∧ p.outs.length ≤ 1048576) :
    Calls Try.prog 40 #[v] w fun e w' => ∃ v', e = .returned v' ∧ PastsOwn w.heap.size w'.heap.size w' v' ps ∧ Below w.heap.size w w' := by
  obtain ⟨ad, cap, rfl, hlc, hm, hcells⟩ := h
  have HMX := hide hm
  have HL := hide hl
  clear hm hl
  have hmk := run_make_n (P := Try.prog) 30 65 _ 12 128 slice_PastT info_PastT ps.length (by omega) (by omega)
  have HC := hide hcells
  clear hcells
  go_enter Try.func40, Try.ntmps40
  go_wp2_with fail
  have hb1 : Below w.heap.size w (w.alloc (.cells (madeCells #[.int .i64 0, .int .i64 0, .int .i64 0, .int .i64 0, .int .i64 0, .int .i64 0, .int .i64 0, .int .i64 0, .int .i64 0, .int .i64 0, .slice none 0 0, .slice none 0 0] (ps.length * 12)) 65)) := (Below.refl _ _).alloc (Nat.le_refl _) _
  have hr1 := row_made w #[.int .i64 0, .int .i64 0, .int .i64 0, .int .i64 0, .int .i64 0, .int .i64 0, .int .i64 0, .int .i64 0, .int .i64 0, .int .i64 0, .slice none 0 0, .slice none 0 0] (ps.length * 12) 65
  clear hmk
  generalize w.alloc (.cells (madeCells #[.int .i64 0, .int .i64 0, .int .i64 0, .int .i64 0, .int .i64 0, .int .i64 0, .int .i64 0, .int .i64 0, .int .i64 0, .int .i64 0, .slice none 0 0, .slice none 0 0] (ps.length * 12)) 65) = w1 at *
  go_loopw [4] (fun i wr => ∃ (k : Nat) (f : Nat → Value) (us : List (Value × Value)), k ≤ ps.length ∧ i = .int .i64 k ∧ wr.rowIs w.heap.size 65 (ps.length * 12) f ∧ (us.length = k ∧ PastsIn2 (w.heap.size + 1) wr.heap.size wr f us ps ∧ ([w.heap.size] ++ blocksOf us).Nodup) ∧ Below w.heap.size w wr) (fun i _ => ps.length - (intOf i).toNat)
  case atStart => exact ⟨0, _, [], Nat.zero_le _, rfl, hr1, ⟨rfl, fun j h => absurd h (Nat.not_lt_zero _), by simp [blocksOf]⟩, hb1⟩
  case round =>
    obtain ⟨k, f, us0, hk, rfl, hrow, hin, hb⟩ := hrel
    have HROW := hide hrow
    have HIN := hide hin
    have hgl : w.heap.size < wr.heap.size := hrow.lt
    clear hrow hin hr1
    by_cases hlt : k < ps.length
    · obtain ⟨b, off, vs, vo, had, hc, hp⟩ : ∃ b off vs vo, ad = some ⟨b, off, none⟩ ∧ CellsAt wr b (off + k * 12) (pastCells ps[k] vs vo) ∧ PastAt wr vs vo ps[k] := by
        rcases unhide HC with h | ⟨b, off, h1, h2⟩
        · rw [h] at hlt; exact absurd hlt (Nat.not_lt_zero _)
        · obtain ⟨vs, vo, h3, h4⟩ := h2 k hlt
          exact ⟨b, off, vs, vo, h1, h3.on hb, h4.on hb⟩
      have hkI : (k : Int) < (ps.length : Int) := by omega
      have hk0 : (0 : Int) ≤ (k : Int) := by omega
      subst had
      have hlp := (unhide HL) ps[k] (List.getElem_mem hlt)
      obtain ⟨p, hpe⟩ : ∃ p, p = ps[k] := ⟨_, rfl⟩
      rw [← hpe] at hc hp hlp
      have HPE := hide hpe
      clear hpe
      have q0 : wr.cell? ⟨b, off + k * 12, none⟩ = some (.int .i64 p.ev.time) := hc 0 (by simp)
      have q1 : wr.cell? ⟨b, off + k * 12 + 1, none⟩ = some (.int .i64 p.ev.to) := hc 1 (by simp)
      have q2 : wr.cell? ⟨b, off + k * 12 + 2, none⟩ = some (.int .i64 p.ev.src) := hc 2 (by simp)
      have q3 : wr.cell? ⟨b, off + k * 12 + 3, none⟩ = some (.int .i64 p.ev.count) := hc 3 (by simp)
      have q4 : wr.cell? ⟨b, off + k * 12 + 4, none⟩ = some (.int .i64 p.ev.n) := hc 4 (by simp)
      have q5 : wr.cell? ⟨b, off + k * 12 + 5, none⟩ = some (.int .i64 p.ev.kind) := hc 5 (by simp)
      have q6 : wr.cell? ⟨b, off + k * 12 + 6, none⟩ = some (.int .i64 p.ev.arg) := hc 6 (by simp)
      have q7 : wr.cell? ⟨b, off + k * 12 + 7, none⟩ = some (.int .i64 p.st.x) := hc 7 (by simp)
      have q8 : wr.cell? ⟨b, off + k * 12 + 8, none⟩ = some (.int .i64 p.st.y) := hc 8 (by simp)
      have q9 : wr.cell? ⟨b, off + k * 12 + 9, none⟩ = some (.int .i64 p.st.c) := hc 9 (by simp)
      have q10 : wr.cell? ⟨b, off + k * 12 + 10, none⟩ = some (vs) := hc 10 (by simp)
      have q11 : wr.cell? ⟨b, off + k * 12 + 11, none⟩ = some (vo) := hc 11 (by simp)
      have HP := hide hp
      clear hc hp
      go_wp2_with fail
      refine (toPast_own p vs vo wr (unhide HP) hlp.1 hlp.2).mono ?_
      rintro e w3 ⟨us, uo, rfl, hf3, hap3, hb3⟩
      obtain ⟨ua, uc, hus⟩ := RowsFr_sliced hf3.s
      obtain ⟨oa, oc, huo⟩ := RowsFr_sliced hf3.o
      rw [List.length_map] at hus huo
      subst hus huo
      clear q0 q1 q2 q3 q4 q5 q6 q7 q8 q9 q10 q11
      have hr3 := (unhide HROW).of_block (hb3.block _ hgl)
      have g0 := hr3.cell (i := k * 12 + 0) (by omega)
      have z0 := hr3.frozen (k * 12 + 0)
      have g1 := hr3.cell (i := k * 12 + 1) (by omega)
      have z1 := hr3.frozen (k * 12 + 1)
      have g2 := hr3.cell (i := k * 12 + 2) (by omega)
      have z2 := hr3.frozen (k * 12 + 2)
      have g3 := hr3.cell (i := k * 12 + 3) (by omega)
      have z3 := hr3.frozen (k * 12 + 3)
      have g4 := hr3.cell (i := k * 12 + 4) (by omega)
      have z4 := hr3.frozen (k * 12 + 4)
      have g5 := hr3.cell (i := k * 12 + 5) (by omega)
      have z5 := hr3.frozen (k * 12 + 5)
      have g6 := hr3.cell (i := k * 12 + 6) (by omega)
      have z6 := hr3.frozen (k * 12 + 6)
      have g7 := hr3.cell (i := k * 12 + 7) (by omega)
      have z7 := hr3.frozen (k * 12 + 7)
      have g8 := hr3.cell (i := k * 12 + 8) (by omega)
      have z8 := hr3.frozen (k * 12 + 8)
      have g9 := hr3.cell (i := k * 12 + 9) (by omega)
      have z9 := hr3.frozen (k * 12 + 9)
      have g10 := hr3.cell (i := k * 12 + 10) (by omega)
      have z10 := hr3.frozen (k * 12 + 10)
      have g11 := hr3.cell (i := k * 12 + 11) (by omega)
      have z11 := hr3.frozen (k * 12 + 11)
      simp only [Nat.add_zero] at g0 z0
      have hset : ((((((((((((w3.setCell ⟨w.heap.size, k * 12, none⟩ (.int .i64 p.ev.time)).setCell ⟨w.heap.size, k * 12 + 1, none⟩ (.int .i64 p.ev.to)).setCell ⟨w.heap.size, k * 12 + 2, none⟩ (.int .i64 p.ev.src)).setCell ⟨w.heap.size, k * 12 + 3, none⟩ (.int .i64 p.ev.count)).setCell ⟨w.heap.size, k * 12 + 4, none⟩ (.int .i64 p.ev.n)).setCell ⟨w.heap.size, k * 12 + 5, none⟩ (.int .i64 p.ev.kind)).setCell ⟨w.heap.size, k * 12 + 6, none⟩ (.int .i64 p.ev.arg)).setCell ⟨w.heap.size, k * 12 + 7, none⟩ (.int .i64 p.st.x)).setCell ⟨w.heap.size, k * 12 + 8, none⟩ (.int .i64 p.st.y)).setCell ⟨w.heap.size, k * 12 + 9, none⟩ (.int .i64 p.st.c)).setCell ⟨w.heap.size, k * 12 + 10, none⟩ (.slice ua p.sends.length uc)).setCell ⟨w.heap.size, k * 12 + 11, none⟩ (.slice oa p.outs.length oc)) = setVals w3 w.heap.size (k * 12) (pastCells p (.slice ua p.sends.length uc) (.slice oa p.outs.length oc)) := rfl
      have HR4 := hide (setVals_row (pastCells p (.slice ua p.sends.length uc) (.slice oa p.outs.length oc)) (k * 12) w3 _ hr3)
      have HI4 : Hid ((us0 ++ [((.slice ua p.sends.length uc : Value), (.slice oa p.outs.length oc : Value))]).length = k + 1 ∧ PastsIn2 (w.heap.size + 1) (setVals w3 w.heap.size (k * 12) (pastCells p (.slice ua p.sends.length uc) (.slice oa p.outs.length oc))).heap.size (setVals w3 w.heap.size (k * 12) (pastCells p (.slice ua p.sends.length uc) (.slice oa p.outs.length oc))) (fun j => if k * 12 ≤ j ∧ j < k * 12 + (pastCells p (.slice ua p.sends.length uc) (.slice oa p.outs.length oc)).length then (pastCells p (.slice ua p.sends.length uc) (.slice oa p.outs.length oc)).getD (j - k * 12) undef else f j) (us0 ++ [((.slice ua p.sends.length uc : Value), (.slice oa p.outs.length oc : Value))]) ps ∧ ([w.heap.size] ++ blocksOf (us0 ++ [((.slice ua p.sends.length uc : Value), (.slice oa p.outs.length oc : Value))])).Nodup) := hide (by
        obtain ⟨hul, hi2, hnd⟩ := unhide HIN
        have hf3' : PastFr (w.heap.size + 1) w3 (.slice ua p.sends.length uc) (.slice oa p.outs.length oc) p := hf3.less (by omega)
        refine ⟨by simp [hul], pastsIn2_more hul hlt (by rw [← unhide HPE]) (hi2.keep (fun b _ h => hb3.block b h)) hb3.size hf3', nodup_more hnd (K := wr.heap.size) (fun x hx => ?_) (fun g hg => ?_) (fun g hg => ?_) hap3⟩
        · rcases List.mem_append.1 hx with h | h
          · have := List.mem_singleton.1 h; omega
          · exact (blocks_lt (by omega) hi2 (Nat.le_refl _) x h).2
        · have := (hf3.s.blk g hg).1; omega
        · have := (hf3.o.blk g hg).1; omega)
      have HB4 := hide (setVals_below (pastCells p (.slice ua p.sends.length uc) (.slice oa p.outs.length oc)) (k * 12) w3 (below_then hb hb3) (Nat.le_refl _))
      rw [← hset] at HR4 HI4 HB4
      clear hset hr3 hf3 hb3
      go_wp2_with fail
      go_roundw
      case rel => exact ⟨k + 1, _, _, by omega, by simp, unhide HR4, unhide HI4, unhide HB4⟩
      case measure => (simp [intOf]; try omega)
    · have hke : k = ps.length := by omega
      subst hke
      go_wp2_with fail
      go_ret
      obtain ⟨hul, hi2, hnd⟩ := unhide HIN
      exact ⟨_, rfl, ⟨us0, Or.inr ⟨w.heap.size, ps.length, f, rfl, Nat.le_refl _, hgl, Nat.le_refl _, unhide HMX, unhide HROW, hul, hi2.wide (Nat.le_succ _) (Nat.le_refl _)⟩, hnd⟩, hb⟩

set_option maxRecDepth 100000 in
set_option maxHeartbeats 1000000 in
theorem toLane_own (proc : Int) (s : StV) (v : Value) (ps : List PastV) (w : World) (h : PastsAt w v ps) (hlen : ps.length ≤ 1048576) (hl : ∀ p ∈ ps, p.sends.length ≤ 1048576 ∧ p.outs.length ≤ 1048576) :
    Calls Try.prog 10 #[laneAgg proc s v] w fun e w' => ∃ v', e = .returned (laneAgg proc s v') ∧ PastsOwn (w.heap.size + 1) w'.heap.size w' v' ps ∧ Below w.heap.size w w' := by
  have H := hide h
  obtain ⟨a1, c1, e1, _⟩ := h
  subst e1
  have HL := hide hl
  clear hl
  have hb0 : Below w.heap.size w (((w.alloc (.cells #[.int .i64 proc, .int .i64 s.x, .int .i64 s.y, .int .i64 s.c, .slice a1 ps.length c1] 26)).alloc (.cells #[.int .i64 0, .int .i64 0, .int .i64 0, .int .i64 0, .slice none 0 0] 32)).alloc (.cells #[.int .i64 proc, .int .i64 0, .int .i64 0, .int .i64 0, .slice none 0 0] 32)) := (((Below.refl _ _).alloc (Nat.le_refl _) _).alloc (by simp) _).alloc (by simp; omega) _
  have cA : CellsAt (((w.alloc (.cells #[.int .i64 proc, .int .i64 s.x, .int .i64 s.y, .int .i64 s.c, .slice a1 ps.length c1] 26)).alloc (.cells #[.int .i64 0, .int .i64 0, .int .i64 0, .int .i64 0, .slice none 0 0] 32)).alloc (.cells #[.int .i64 proc, .int .i64 0, .int .i64 0, .int .i64 0, .slice none 0 0] 32)) w.heap.size 0 (laneCells proc s (.slice a1 ps.length c1)) := fun j hj => by
    match j, hj with
    | 0, _ => simp [go_sem]
    | 1, _ => simp [go_sem]
    | 2, _ => simp [go_sem]
    | 3, _ => simp [go_sem]
    | 4, _ => simp [go_sem]
  have r2 : (((w.alloc (.cells #[.int .i64 proc, .int .i64 s.x, .int .i64 s.y, .int .i64 s.c, .slice a1 ps.length c1] 26)).alloc (.cells #[.int .i64 0, .int .i64 0, .int .i64 0, .int .i64 0, .slice none 0 0] 32)).alloc (.cells #[.int .i64 proc, .int .i64 0, .int .i64 0, .int .i64 0, .slice none 0 0] 32)).rowIs (w.heap.size + 1) 32 5 (fun j => if j < 4 then .int .i64 0 else .slice none 0 0) := by
    have e := World.rowIs_alloc (w.alloc (.cells #[.int .i64 proc, .int .i64 s.x, .int .i64 s.y, .int .i64 s.c, .slice a1 ps.length c1] 26)) #[.int .i64 0, .int .i64 0, .int .i64 0, .int .i64 0, .slice none 0 0] 32 (fun j => if j < 4 then .int .i64 0 else .slice none 0 0) (fun j hj => by
      match j, hj with
      | 0, _ => simp
      | 1, _ => simp
      | 2, _ => simp
      | 3, _ => simp
      | 4, _ => simp)
    have hs1 : (w.alloc (.cells #[.int .i64 proc, .int .i64 s.x, .int .i64 s.y, .int .i64 s.c, .slice a1 ps.length c1] 26)).heap.size = w.heap.size + 1 := by simp
    rw [hs1] at e
    exact e.of_block (((Below.refl _ _).alloc (Nat.le_refl _) _).block (w.heap.size + 1) (by simp))
  have r3 : (((w.alloc (.cells #[.int .i64 proc, .int .i64 s.x, .int .i64 s.y, .int .i64 s.c, .slice a1 ps.length c1] 26)).alloc (.cells #[.int .i64 0, .int .i64 0, .int .i64 0, .int .i64 0, .slice none 0 0] 32)).alloc (.cells #[.int .i64 proc, .int .i64 0, .int .i64 0, .int .i64 0, .slice none 0 0] 32)).rowIs (w.heap.size + 2) 32 5 (fun j => if j = 0 then .int .i64 proc else if j < 4 then .int .i64 0 else .slice none 0 0) := by
    have e := World.rowIs_alloc ((w.alloc (.cells #[.int .i64 proc, .int .i64 s.x, .int .i64 s.y, .int .i64 s.c, .slice a1 ps.length c1] 26)).alloc (.cells #[.int .i64 0, .int .i64 0, .int .i64 0, .int .i64 0, .slice none 0 0] 32)) #[.int .i64 proc, .int .i64 0, .int .i64 0, .int .i64 0, .slice none 0 0] 32 (fun j => if j = 0 then .int .i64 proc else if j < 4 then .int .i64 0 else .slice none 0 0) (fun j hj => by
      match j, hj with
      | 0, _ => simp
      | 1, _ => simp
      | 2, _ => simp
      | 3, _ => simp
      | 4, _ => simp)
    have hs1 : ((w.alloc (.cells #[.int .i64 proc, .int .i64 s.x, .int .i64 s.y, .int .i64 s.c, .slice a1 ps.length c1] 26)).alloc (.cells #[.int .i64 0, .int .i64 0, .int .i64 0, .int .i64 0, .slice none 0 0] 32)).heap.size = w.heap.size + 2 := by simp
    rw [hs1] at e
    exact e
  have hs0 : (((w.alloc (.cells #[.int .i64 proc, .int .i64 s.x, .int .i64 s.y, .int .i64 s.c, .slice a1 ps.length c1] 26)).alloc (.cells #[.int .i64 0, .int .i64 0, .int .i64 0, .int .i64 0, .slice none 0 0] 32)).alloc (.cells #[.int .i64 proc, .int .i64 0, .int .i64 0, .int .i64 0, .slice none 0 0] 32)).heap.size = w.heap.size + 3 := by simp
  have HB00 := hide hb0
  have HA := hide cA
  have HZ := hide r2
  have HR0 := hide r3
  have HS0 := hide hs0
  clear hb0 cA r2 r3 hs0
  go_enter Try.func10, Try.ntmps10
  go_upto_region 3 with fail
  generalize (((w.alloc (.cells #[.int .i64 proc, .int .i64 s.x, .int .i64 s.y, .int .i64 s.c, .slice a1 ps.length c1] 26)).alloc (.cells #[.int .i64 0, .int .i64 0, .int .i64 0, .int .i64 0, .slice none 0 0] 32)).alloc (.cells #[.int .i64 proc, .int .i64 0, .int .i64 0, .int .i64 0, .slice none 0 0] 32)) = W0 at *
  have k1 : W0.cell? ⟨w.heap.size, 1, none⟩ = some (.int .i64 s.x) := (unhide HA) 1 (by simp)
  have k2 : W0.cell? ⟨w.heap.size, 2, none⟩ = some (.int .i64 s.y) := (unhide HA) 2 (by simp)
  have k3 : W0.cell? ⟨w.heap.size, 3, none⟩ = some (.int .i64 s.c) := (unhide HA) 3 (by simp)
  go_wp2_with fail
  refine (toState_any _ _ _ _).mono ?_
  rintro e w1 ⟨rfl, hb1⟩
  have HR1 := hide ((unhide HR0).of_block (hb1.block (w.heap.size + 2) (by have := unhide HS0; omega)))
  have HB1 : Hid (Below (w.heap.size + 2) W0 w1) := hide (hb1.mono (by have := unhide HS0; omega))
  clear HR0 hb1 k1 k2 k3
  have g1 := (unhide HR1).cell (i := 1) (by omega)
  have g2 := (unhide HR1).cell (i := 2) (by omega)
  have g3 := (unhide HR1).cell (i := 3) (by omega)
  have z1 := (unhide HR1).frozen 1
  have z2 := (unhide HR1).frozen 2
  have z3 := (unhide HR1).frozen 3
  simp at g1 g2 g3
  have hset : (((w1.setCell ⟨w.heap.size + 2, 1, none⟩ (.int .i64 s.x)).setCell ⟨w.heap.size + 2, 2, none⟩ (.int .i64 s.y)).setCell ⟨w.heap.size + 2, 3, none⟩ (.int .i64 s.c)) = setVals w1 (w.heap.size + 2) 1 [.int .i64 s.x, .int .i64 s.y, .int .i64 s.c] := rfl
  have HR2 : Hid ((((w1.setCell ⟨w.heap.size + 2, 1, none⟩ (.int .i64 s.x)).setCell ⟨w.heap.size + 2, 2, none⟩ (.int .i64 s.y)).setCell ⟨w.heap.size + 2, 3, none⟩ (.int .i64 s.c)).rowIs (w.heap.size + 2) 32 5 _) := hide (by rw [hset]; exact setVals_row [.int .i64 s.x, .int .i64 s.y, .int .i64 s.c] 1 w1 _ (unhide HR1))
  have HB2 : Hid (Below (w.heap.size + 2) W0 (((w1.setCell ⟨w.heap.size + 2, 1, none⟩ (.int .i64 s.x)).setCell ⟨w.heap.size + 2, 2, none⟩ (.int .i64 s.y)).setCell ⟨w.heap.size + 2, 3, none⟩ (.int .i64 s.c))) := hide (by rw [hset]; exact setVals_below [.int .i64 s.x, .int .i64 s.y, .int .i64 s.c] 1 w1 (unhide HB1) (Nat.le_refl _))
  clear hset
  go_upto_region 4 with fail
  clear g1 g2 g3 z1 z2 z3
  generalize (((w1.setCell ⟨w.heap.size + 2, 1, none⟩ (.int .i64 s.x)).setCell ⟨w.heap.size + 2, 2, none⟩ (.int .i64 s.y)).setCell ⟨w.heap.size + 2, 3, none⟩ (.int .i64 s.c)) = w2 at *
  clear HR1 HB1
  have hs2 : w.heap.size + 3 ≤ w2.heap.size := by have := (unhide HB2).size; rw [unhide HS0] at this; exact this
  have k4 := ((unhide HB2).cell (p := ⟨w.heap.size, 4, none⟩) (show w.heap.size < w.heap.size + 2 by omega)).trans ((unhide HA) 4 (by simp))
  simp at k4
  have hw2 : Below w.heap.size w w2 := (unhide HB00).trans ((unhide HB2).mono (by omega))
  go_wp2_with fail
  refine (toPastS_own _ ps w2 ((unhide H).on hw2) hlen (unhide HL)).mono ?_
  rintro e w3 ⟨v', rfl, hf3, hb3⟩
  obtain ⟨ua, uc, hus⟩ : ∃ a c, v' = .slice a ps.length c := by
    exact hf3.at.sliced2
  subst hus
  have HF3 := hide hf3
  have HR3 := hide ((unhide HR2).of_block (hb3.block (w.heap.size + 2) (by omega)))
  have HB3 : Hid (Below (w.heap.size + 2) W0 w3) := hide ((unhide HB2).trans (hb3.mono (by omega)))
  clear HR2 HB2 hb3 k4 hf3 hw2
  have g4 := (unhide HR3).cell (i := 4) (by omega)
  have z4 := (unhide HR3).frozen 4
  simp at g4
  have hset : (w3.setCell ⟨w.heap.size + 2, 4, none⟩ (.slice ua ps.length uc)) = setVals w3 (w.heap.size + 2) 4 [.slice ua ps.length uc] := rfl
  have HR4 : Hid ((w3.setCell ⟨w.heap.size + 2, 4, none⟩ (.slice ua ps.length uc)).rowIs (w.heap.size + 2) 32 5 _) := hide (by rw [hset]; exact setVals_row [.slice ua ps.length uc] 4 w3 _ (unhide HR3))
  have HB4 : Hid (Below (w.heap.size + 2) W0 (w3.setCell ⟨w.heap.size + 2, 4, none⟩ (.slice ua ps.length uc))) := hide (by rw [hset]; exact setVals_below [.slice ua ps.length uc] 4 w3 (unhide HB3) (Nat.le_refl _))
  have HF4 : Hid (PastsOwn (w.heap.size + 3) (w3.setCell ⟨w.heap.size + 2, 4, none⟩ (.slice ua ps.length uc)).heap.size (w3.setCell ⟨w.heap.size + 2, 4, none⟩ (.slice ua ps.length uc)) (.slice ua ps.length uc) ps) := hide (by rw [hset]; rw [setVals_size]; exact ((unhide HF3).wide hs2 (Nat.le_refl _)).setV (by omega) _)
  clear hset
  go_upto_region 5 with fail
  clear g4 z4
  generalize (w3.setCell ⟨w.heap.size + 2, 4, none⟩ (.slice ua ps.length uc)) = w4 at *
  clear HR3 HB3 HF3
  have HZ4 := hide ((unhide HZ).of_block ((unhide HB4).block (w.heap.size + 1) (by omega)))
  have hw4 : Below w.heap.size w w4 := (unhide HB00).trans ((unhide HB4).mono (by omega))
  have HW4 := hide hw4
  clear hw4
  have g0 := (unhide HR4).cell (i := 0) (by omega)
  have g1 := (unhide HR4).cell (i := 1) (by omega)
  have g2 := (unhide HR4).cell (i := 2) (by omega)
  have g3 := (unhide HR4).cell (i := 3) (by omega)
  have g4 := (unhide HR4).cell (i := 4) (by omega)
  have y0 := (unhide HZ4).cell (i := 0) (by omega)
  have y1 := (unhide HZ4).cell (i := 1) (by omega)
  have y2 := (unhide HZ4).cell (i := 2) (by omega)
  have y3 := (unhide HZ4).cell (i := 3) (by omega)
  have y4 := (unhide HZ4).cell (i := 4) (by omega)
  have x0 := (unhide HZ4).frozen 0
  have x1 := (unhide HZ4).frozen 1
  have x2 := (unhide HZ4).frozen 2
  have x3 := (unhide HZ4).frozen 3
  have x4 := (unhide HZ4).frozen 4
  simp at g0 g1 g2 g3 g4
  simp at y0 y1 y2 y3 y4
  go_wp2_with fail
  refine bodyPost_ret (v := laneAgg proc s (.slice ua ps.length uc)) (by simp [results, Try.results10, go_sem, y0, y1, y2, y3, y4]) rfl ⟨_, rfl, ?_, ?_⟩
  · exact ((unhide HF4).setV (r := w.heap.size + 1) (o := 0) (by omega) (laneCells proc s (.slice ua ps.length uc))).wide (by omega) (Nat.le_of_eq (setVals_size (laneCells proc s (.slice ua ps.length uc)) 0 w4).symm)
  · exact setVals_below (laneCells proc s (.slice ua ps.length uc)) 0 w4 (unhide HW4) (by omega)
end Go.Proofs.Ythekkgndckkoaaa
/- Marks of what was done: laws.markPastS, laws.heldPastS, laws.markLane, laws.heldLane. -/
namespace Go.Proofs.Ythekkgndckkoaaa
open Go.RowKit
set_option linter.unusedVariables false
set_option linter.unusedSimpArgs false

theorem markP_cells (m : Int) (p : PastV) (a b : Value) : ([.int .i64 m, .int .i64 (m + 1), .int .i64 (m + 1 + 1), .int .i64 (m + 1 + 1 + 1), .int .i64 (m + 1 + 1 + 1 + 1), .int .i64 (m + 1 + 1 + 1 + 1 + 1), .int .i64 (m + 1 + 1 + 1 + 1 + 1 + 1), .int .i64 (m + 1 + 1 + 1 + 1 + 1 + 1 + 1), .int .i64 (m + 1 + 1 + 1 + 1 + 1 + 1 + 1 + 1), .int .i64 (m + 1 + 1 + 1 + 1 + 1 + 1 + 1 + 1 + 1)] : List Value) ++ [a, b] = pastCells (markP m p) a b := by
  simp only [markP, evFrom, pastCells, List.cons_append, List.nil_append, List.cons.injEq, Value.int.injEq, and_true, true_and]
  omega

set_option maxRecDepth 100000 in
set_option maxHeartbeats 2000000 in
theorem markPastS_any (N M : Nat) (v : Value) (us : List (Value × Value)) (ps : List PastV) (k0 : Int) (w : World) (h : PastsO N M w v us ps) (hnd : (v.ownBlock.toList ++ blocksOf us).Nodup) (hlen : ps.length ≤ 1048576) (hl : ∀ p ∈ ps, p.sends.length ≤ 1048576 ∧ p.outs.length ≤ 1048576) (h0 : 0 ≤ k0) (h1 : k0 ≤ 100000000000000) :
    Calls Try.prog 60 #[v, .int .i64 k0] w fun e w' => e = .returned (.int .i64 (k0 + szPs ps)) ∧ PastsO N M w' v us (markPs k0 ps) ∧ Within N M w w' := by
  have HH := hide h
  have HL := hide hl
  rcases h with ⟨rfl, rfl, rfl⟩ | ⟨g, cap, f0, rfl, hN, hM, hlc, hm, hr0, hul, hin0⟩
  · go_enter Try.func60, Try.ntmps60
    go_wp2_with fail
    go_loop [1, 5] (fun a i => a = .int .i64 k0 ∧ i = .int .i64 0) (fun _ _ => 0)
    case atStart => exact ⟨rfl, rfl⟩
    case round =>
      obtain ⟨rfl, rfl⟩ := hrel
      go_wp2
      go_ret
      exact ⟨ret_int (by simp [szPs]), Or.inl ⟨rfl, rfl, rfl⟩, Within.refl _ _ _⟩
  have HMX := hide hm
  unfold maxLen at hm
  have HND : Hid ((g :: blocksOf us).Nodup) := hide (by simpa [Value.ownBlock] using hnd)
  have HUL := hide hul
  clear hnd hr0 hin0 hul hl
  go_enter Try.func60, Try.ntmps60
  go_wp2_with fail
  go_loopw [1, 5] (fun a i wr => ∃ (k : Nat) (m : Int), k ≤ ps.length ∧ i = .int .i64 k ∧ a = .int .i64 m ∧ Hid (m = k0 + szPs (ps.take k)) ∧ 0 ≤ m ∧ m ≤ 100000000000000 + 12582922 * (k : Int) ∧ Hid (PastsO N M wr (.slice (some ⟨g, 0, none⟩) ps.length cap) us (mixed k0 ps k)) ∧ Hid (Within N M w wr)) (fun _ i _ => ps.length - (intOf i).toNat)
  case atStart => exact ⟨0, k0, Nat.zero_le _, rfl, rfl, hide (by simp [szPs]), h0, by omega, hide (by rw [mixed_zero]; exact unhide HH), hide (Within.refl _ _ _)⟩
  case round =>
    obtain ⟨k, m, hk, rfl, rfl, HM2, hm0, hm1, HP, HW⟩ := hrel
    by_cases hlt : k < ps.length
    · have hml := mixed_len k0 ps k hk
      obtain ⟨f, hrow, hi2⟩ : ∃ f, wr.rowIs g 65 (cap * 12) f ∧ PastsIn2 N M wr f us (mixed k0 ps k) := by
        rcases unhide HP with ⟨h1, _⟩ | ⟨g', cap', f, h1, _, _, _, _, h6, _, h8⟩
        · cases h1
        · simp only [Value.slice.injEq, Option.some.injEq, Addr.mk.injEq, and_true] at h1
          obtain ⟨rfl, _, rfl⟩ := h1
          exact ⟨f, h6, h8⟩
      have hku : k < us.length := by rw [unhide HUL]; exact hlt
      obtain ⟨hcell, hpo⟩ := hi2 k hku (by omega)
      rw [mixed_at k0 ps k hlt (by omega)] at hcell hpo
      have hlp := (unhide HL) ps[k] (List.getElem_mem hlt)
      obtain ⟨p, hpe⟩ : ∃ p, p = ps[k] := ⟨_, rfl⟩
      obtain ⟨va, hva⟩ : ∃ va, va = us[k].1 := ⟨_, rfl⟩
      obtain ⟨vb, hvb⟩ : ∃ vb, vb = us[k].2 := ⟨_, rfl⟩
      rw [← hpe, ← hva, ← hvb] at hcell hpo
      rw [← hpe] at hlp
      have HI2 := hide hi2
      have HROW := hide hrow
      have HPE := hide hpe
      have HVA := hide hva
      have HVB := hide hvb
      have HPO := hide hpo
      obtain ⟨ea, ca, hea⟩ : ∃ a c, va = .slice a p.sends.length c := by
        obtain ⟨a, c, h⟩ := RowsFr_sliced hpo.fr.s
        exact ⟨a, c, by rw [h, List.length_map]⟩
      obtain ⟨eb, cb, heb⟩ : ∃ a c, vb = .slice a p.outs.length c := by
        obtain ⟨a, c, h⟩ := RowsFr_sliced hpo.fr.o
        exact ⟨a, c, by rw [h, List.length_map]⟩
      have hkI : (k : Int) < (ps.length : Int) := by omega
      have g0 : wr.cell? ⟨g, k * 12, none⟩ = some (f (k * 12 + 0)) := hrow.cell (i := k * 12 + 0) (mul_place (by omega) (by omega))
      have z0 : wr.frozen? ⟨g, k * 12, none⟩ = false := hrow.frozen (k * 12 + 0)
      have g1 : wr.cell? ⟨g, k * 12 + 1, none⟩ = some (f (k * 12 + 1)) := hrow.cell (i := k * 12 + 1) (mul_place (by omega) (by omega))
      have z1 : wr.frozen? ⟨g, k * 12 + 1, none⟩ = false := hrow.frozen (k * 12 + 1)
      have g2 : wr.cell? ⟨g, k * 12 + 2, none⟩ = some (f (k * 12 + 2)) := hrow.cell (i := k * 12 + 2) (mul_place (by omega) (by omega))
      have z2 : wr.frozen? ⟨g, k * 12 + 2, none⟩ = false := hrow.frozen (k * 12 + 2)
      have g3 : wr.cell? ⟨g, k * 12 + 3, none⟩ = some (f (k * 12 + 3)) := hrow.cell (i := k * 12 + 3) (mul_place (by omega) (by omega))
      have z3 : wr.frozen? ⟨g, k * 12 + 3, none⟩ = false := hrow.frozen (k * 12 + 3)
      have g4 : wr.cell? ⟨g, k * 12 + 4, none⟩ = some (f (k * 12 + 4)) := hrow.cell (i := k * 12 + 4) (mul_place (by omega) (by omega))
      have z4 : wr.frozen? ⟨g, k * 12 + 4, none⟩ = false := hrow.frozen (k * 12 + 4)
      have g5 : wr.cell? ⟨g, k * 12 + 5, none⟩ = some (f (k * 12 + 5)) := hrow.cell (i := k * 12 + 5) (mul_place (by omega) (by omega))
      have z5 : wr.frozen? ⟨g, k * 12 + 5, none⟩ = false := hrow.frozen (k * 12 + 5)
      have g6 : wr.cell? ⟨g, k * 12 + 6, none⟩ = some (f (k * 12 + 6)) := hrow.cell (i := k * 12 + 6) (mul_place (by omega) (by omega))
      have z6 : wr.frozen? ⟨g, k * 12 + 6, none⟩ = false := hrow.frozen (k * 12 + 6)
      have g7 : wr.cell? ⟨g, k * 12 + 7, none⟩ = some (f (k * 12 + 7)) := hrow.cell (i := k * 12 + 7) (mul_place (by omega) (by omega))
      have z7 : wr.frozen? ⟨g, k * 12 + 7, none⟩ = false := hrow.frozen (k * 12 + 7)
      have g8 : wr.cell? ⟨g, k * 12 + 8, none⟩ = some (f (k * 12 + 8)) := hrow.cell (i := k * 12 + 8) (mul_place (by omega) (by omega))
      have z8 : wr.frozen? ⟨g, k * 12 + 8, none⟩ = false := hrow.frozen (k * 12 + 8)
      have g9 : wr.cell? ⟨g, k * 12 + 9, none⟩ = some (f (k * 12 + 9)) := hrow.cell (i := k * 12 + 9) (mul_place (by omega) (by omega))
      have z9 : wr.frozen? ⟨g, k * 12 + 9, none⟩ = false := hrow.frozen (k * 12 + 9)
      have hm2 : m + 12582922 ≤ 100000000000000 + 12582922 * 1048576 := by omega
      have hset : ((((((((((wr.setCell ⟨g, k * 12, none⟩ (.int .i64 m)).setCell ⟨g, k * 12 + 1, none⟩ (.int .i64 (m + 1))).setCell ⟨g, k * 12 + 2, none⟩ (.int .i64 (m + 1 + 1))).setCell ⟨g, k * 12 + 3, none⟩ (.int .i64 (m + 1 + 1 + 1))).setCell ⟨g, k * 12 + 4, none⟩ (.int .i64 (m + 1 + 1 + 1 + 1))).setCell ⟨g, k * 12 + 5, none⟩ (.int .i64 (m + 1 + 1 + 1 + 1 + 1))).setCell ⟨g, k * 12 + 6, none⟩ (.int .i64 (m + 1 + 1 + 1 + 1 + 1 + 1))).setCell ⟨g, k * 12 + 7, none⟩ (.int .i64 (m + 1 + 1 + 1 + 1 + 1 + 1 + 1))).setCell ⟨g, k * 12 + 8, none⟩ (.int .i64 (m + 1 + 1 + 1 + 1 + 1 + 1 + 1 + 1))).setCell ⟨g, k * 12 + 9, none⟩ (.int .i64 (m + 1 + 1 + 1 + 1 + 1 + 1 + 1 + 1 + 1))) = setVals wr g (k * 12) [.int .i64 m, .int .i64 (m + 1), .int .i64 (m + 1 + 1), .int .i64 (m + 1 + 1 + 1), .int .i64 (m + 1 + 1 + 1 + 1), .int .i64 (m + 1 + 1 + 1 + 1 + 1), .int .i64 (m + 1 + 1 + 1 + 1 + 1 + 1), .int .i64 (m + 1 + 1 + 1 + 1 + 1 + 1 + 1), .int .i64 (m + 1 + 1 + 1 + 1 + 1 + 1 + 1 + 1), .int .i64 (m + 1 + 1 + 1 + 1 + 1 + 1 + 1 + 1 + 1)] := rfl
      have hrow1 := setVals_row [.int .i64 m, .int .i64 (m + 1), .int .i64 (m + 1 + 1), .int .i64 (m + 1 + 1 + 1), .int .i64 (m + 1 + 1 + 1 + 1), .int .i64 (m + 1 + 1 + 1 + 1 + 1), .int .i64 (m + 1 + 1 + 1 + 1 + 1 + 1), .int .i64 (m + 1 + 1 + 1 + 1 + 1 + 1 + 1), .int .i64 (m + 1 + 1 + 1 + 1 + 1 + 1 + 1 + 1), .int .i64 (m + 1 + 1 + 1 + 1 + 1 + 1 + 1 + 1 + 1)] (k * 12) wr f hrow
      have c10 : ((((((((((wr.setCell ⟨g, k * 12, none⟩ (.int .i64 m)).setCell ⟨g, k * 12 + 1, none⟩ (.int .i64 (m + 1))).setCell ⟨g, k * 12 + 2, none⟩ (.int .i64 (m + 1 + 1))).setCell ⟨g, k * 12 + 3, none⟩ (.int .i64 (m + 1 + 1 + 1))).setCell ⟨g, k * 12 + 4, none⟩ (.int .i64 (m + 1 + 1 + 1 + 1))).setCell ⟨g, k * 12 + 5, none⟩ (.int .i64 (m + 1 + 1 + 1 + 1 + 1))).setCell ⟨g, k * 12 + 6, none⟩ (.int .i64 (m + 1 + 1 + 1 + 1 + 1 + 1))).setCell ⟨g, k * 12 + 7, none⟩ (.int .i64 (m + 1 + 1 + 1 + 1 + 1 + 1 + 1))).setCell ⟨g, k * 12 + 8, none⟩ (.int .i64 (m + 1 + 1 + 1 + 1 + 1 + 1 + 1 + 1))).setCell ⟨g, k * 12 + 9, none⟩ (.int .i64 (m + 1 + 1 + 1 + 1 + 1 + 1 + 1 + 1 + 1))).cell? ⟨g, k * 12 + 10, none⟩ = some (.slice ea p.sends.length ca) := by
        rw [hset, hrow1.cell (mul_place (by omega) (by omega))]
        show some (if k * 12 ≤ k * 12 + 10 ∧ k * 12 + 10 < k * 12 + 10 then _ else f (k * 12 + 10)) = _
        rw [if_neg (by omega), hcell 10 (by omega)]
        show some va = _
        rw [hea]
      have c11 : ((((((((((wr.setCell ⟨g, k * 12, none⟩ (.int .i64 m)).setCell ⟨g, k * 12 + 1, none⟩ (.int .i64 (m + 1))).setCell ⟨g, k * 12 + 2, none⟩ (.int .i64 (m + 1 + 1))).setCell ⟨g, k * 12 + 3, none⟩ (.int .i64 (m + 1 + 1 + 1))).setCell ⟨g, k * 12 + 4, none⟩ (.int .i64 (m + 1 + 1 + 1 + 1))).setCell ⟨g, k * 12 + 5, none⟩ (.int .i64 (m + 1 + 1 + 1 + 1 + 1))).setCell ⟨g, k * 12 + 6, none⟩ (.int .i64 (m + 1 + 1 + 1 + 1 + 1 + 1))).setCell ⟨g, k * 12 + 7, none⟩ (.int .i64 (m + 1 + 1 + 1 + 1 + 1 + 1 + 1))).setCell ⟨g, k * 12 + 8, none⟩ (.int .i64 (m + 1 + 1 + 1 + 1 + 1 + 1 + 1 + 1))).setCell ⟨g, k * 12 + 9, none⟩ (.int .i64 (m + 1 + 1 + 1 + 1 + 1 + 1 + 1 + 1 + 1))).cell? ⟨g, k * 12 + 11, none⟩ = some (.slice eb p.outs.length cb) := by
        rw [hset, hrow1.cell (mul_place (by omega) (by omega))]
        show some (if k * 12 ≤ k * 12 + 11 ∧ k * 12 + 11 < k * 12 + 10 then _ else f (k * 12 + 11)) = _
        rw [if_neg (by omega), hcell 11 (by omega)]
        show some vb = _
        rw [heb]
      have HC10 := hide c10
      have HC11 := hide c11
      have HSET := hide hset
      have HROW1 := hide hrow1
      have HEA := hide hea
      have HEB := hide heb
      have HF10 := hide (hcell 10 (by omega))
      have HF11 := hide (hcell 11 (by omega))
      clear c10 c11 hset hrow1 hcell hpo hrow hi2 hpe hva hvb hea heb hml
      go_upto_region 24 with fail
      clear g0 z0 g1 z1 g2 z2 g3 z3 g4 z4 g5 z5 g6 z6 g7 z7 g8 z8 g9 z9
      generalize ((((((((((wr.setCell ⟨g, k * 12, none⟩ (.int .i64 m)).setCell ⟨g, k * 12 + 1, none⟩ (.int .i64 (m + 1))).setCell ⟨g, k * 12 + 2, none⟩ (.int .i64 (m + 1 + 1))).setCell ⟨g, k * 12 + 3, none⟩ (.int .i64 (m + 1 + 1 + 1))).setCell ⟨g, k * 12 + 4, none⟩ (.int .i64 (m + 1 + 1 + 1 + 1))).setCell ⟨g, k * 12 + 5, none⟩ (.int .i64 (m + 1 + 1 + 1 + 1 + 1))).setCell ⟨g, k * 12 + 6, none⟩ (.int .i64 (m + 1 + 1 + 1 + 1 + 1 + 1))).setCell ⟨g, k * 12 + 7, none⟩ (.int .i64 (m + 1 + 1 + 1 + 1 + 1 + 1 + 1))).setCell ⟨g, k * 12 + 8, none⟩ (.int .i64 (m + 1 + 1 + 1 + 1 + 1 + 1 + 1 + 1))).setCell ⟨g, k * 12 + 9, none⟩ (.int .i64 (m + 1 + 1 + 1 + 1 + 1 + 1 + 1 + 1 + 1))) = w1 at *
      have hgb : g ∉ blocksOf us := (List.nodup_cons.1 (unhide HND)).1
      have hown : ∀ b, (va.ownBlock = some b ∨ vb.ownBlock = some b) → b ∈ blocksOf us := fun b hb =>
        List.mem_flatMap.2 ⟨us[k], List.getElem_mem hku, List.mem_append.2 (hb.imp (fun h => by rw [← unhide HVA]; simp [h]) (fun h => by rw [← unhide HVB]; simp [h]))⟩
      have hapart : Apart va vb := fun b ha hb => by
        have h2 := (List.nodup_cons.1 (unhide HND)).2
        have hsub : (va.ownBlock.toList ++ vb.ownBlock.toList).Sublist (blocksOf us) := by
          rw [unhide HVA, unhide HVB]
          exact List.sublist_flatten_of_mem (List.mem_map.2 ⟨us[k], List.getElem_mem hku, rfl⟩)
        have h3 := hsub.nodup h2
        rw [List.nodup_append] at h3
        exact h3.2.2 b (by simp [ha]) b (by simp [hb]) rfl
      have HOWN := hide hown
      have HAP := hide hapart
      have HGB := hide hgb
      have hpo1 : PastO N M w1 va vb p := by
        rw [unhide HSET]
        exact (unhide HPO).only (fun b hb => setVals_other _ _ _ _ (fun e => hgb (e ▸ hown b (Or.inl hb)))) (fun b hb => setVals_other _ _ _ _ (fun e => hgb (e ▸ hown b (Or.inr hb))))
      have HPO1 := hide hpo1
      clear hown hapart hgb hpo1
      have c10 := unhide HC10
      go_wp2_with fail
      clear c10
      refine (markEventS_any N 41 _ p.sends.length _ w1 (by have := (unhide HPO1).fr.s.room; rw [List.length_map, unhide HEA] at this; exact this) (by omega) (by omega) (by omega)).mono ?_
      rintro e w2 ⟨rfl, hm2a, ho2⟩
      have c11 : w2.cell? ⟨g, k * 12 + 11, none⟩ = some (.slice eb p.outs.length cb) := by
        have hne : (Value.slice ea p.sends.length ca).ownBlock ≠ some g := fun e => (unhide HGB) ((unhide HOWN) g (Or.inl (by rw [unhide HEA]; exact e)))
        rw [unhide HSET] at ho2
        have hr := (unhide HROW1).of_block (ho2.other g hne)
        rw [hr.cell (mul_place (by omega) (by omega))]
        show some (if k * 12 ≤ k * 12 + 11 ∧ k * 12 + 11 < k * 12 + 10 then _ else f (k * 12 + 11)) = _
        rw [if_neg (by omega), unhide HF11]
        show some vb = _
        rw [unhide HEB]
      have HM2A := hide hm2a
      have HO2 := hide ho2
      clear hm2a ho2
      generalize hq : m + 1 + 1 + 1 + 1 + 1 + 1 + 1 + 1 + 1 + 1 + 7 * (p.sends.length : Int) = q at *
      have hqe : q = m + 10 + 7 * (p.sends.length : Int) := by omega
      have hq0 : 0 ≤ q := by omega
      have hq1 : q ≤ 200000000000000 := by omega
      have HQE := hide hqe
      clear hq hqe
      go_wp2_with fail
      refine (markOutS_any N 92 _ p.outs.length q w2 ?_ (by omega) (by omega) (by omega)).mono ?_
      · have h1 : RowsFr N 92 5 w2 vb (p.outs.map outRow) := (unhide HPO1).fr.o.block (fun b hb _ => (unhide HO2).other b (fun e => (unhide HAP) b (by rw [unhide HEA]; exact e) hb))
        have := h1.room
        rw [List.length_map, unhide HEB] at this
        exact this
      rintro e w3 ⟨rfl, hm3, ho3⟩
      have HM3 := hide hm3
      have HO3 := hide ho3
      clear hm3 ho3 c11
      have HQ3 : Hid (q + 5 * (p.outs.length : Int) = m + szP p) := hide (by have := unhide HQE; unfold szP; omega)
      have hz0 : 0 ≤ q + 5 * (p.outs.length : Int) := by omega
      have hz1 : q + 5 * (p.outs.length : Int) ≤ 100000000000000 + 12582922 * ((k : Int) + 1) := by have := unhide HQE; omega
      go_wp2_with fail
      go_roundw
      case rel =>
        have hneA : va.ownBlock ≠ some g := fun e => (unhide HGB) ((unhide HOWN) g (Or.inl e))
        have hneB : vb.ownBlock ≠ some g := fun e => (unhide HGB) ((unhide HOWN) g (Or.inr e))
        have ho2 : OnlyOf va w1 w2 := by rw [unhide HEA]; exact unhide HO2
        have ho3 : OnlyOf vb w2 w3 := by rw [unhide HEB]; exact unhide HO3
        have hw1 : Within N M wr w1 := by rw [unhide HSET]; exact Within.vals _ hN hM
        have hw2 : Within N M w1 w2 := Within.of_only ho2 (fun b hb => ⟨((unhide HPO1).fr.s.blk b hb).1, (unhide HPO1).hs b hb⟩)
        have hw3 : Within N M w2 w3 := Within.of_only ho3 (fun b hb => ⟨((unhide HPO1).fr.o.blk b hb).1, (unhide HPO1).ho b hb⟩)
        have hr1 := unhide HROW1
        rw [← unhide HSET] at hr1
        have hr3 := (hr1.of_block (ho2.other g hneA)).of_block (ho3.other g hneB)
        clear hr1
        have hfs : RowsFr N 41 7 w3 va ((markEvs (m + 10) p.sends.length).map evRow) := by
          rw [markEvs_rows, show m + 10 = m + 1 + 1 + 1 + 1 + 1 + 1 + 1 + 1 + 1 + 1 by omega]
          have h1 := unhide HM2A
          rw [← unhide HEA] at h1
          exact h1.block (fun b hb _ => ho3.other b (fun e => (unhide HAP) b hb e))
        have hfo : RowsFr N 92 5 w3 vb ((markOuts (m + 10 + 7 * (p.sends.length : Int)) p.outs.length).map outRow) := by
          rw [markOuts_rows, ← unhide HQE]
          have h1 := unhide HM3
          rw [← unhide HEB] at h1
          exact h1
        have hpo3 : PastO N M w3 va vb (markP m p) := ⟨⟨hfs, hfo⟩, (unhide HPO1).hs, (unhide HPO1).ho⟩
        have hset := PastsO.set (w := wr) (w' := w3) (f := f) (i := k) (q := markP m p) (qs := mixed k0 ps k) (us := us) (g := g) (cap := cap) (N := N) (M := M) (by rw [mixed_len k0 ps k hk]; exact hlt) hku hN hM (by rw [mixed_len k0 ps k hk]; exact hlc) (unhide HMX) (by rw [mixed_len k0 ps k hk]; exact unhide HUL) (unhide HI2) (unhide HND) hr3 (fun j => ?_) (fun b h1 h2 h3 => ?_) (by rw [← unhide HVA, ← unhide HVB]; exact hpo3)
        · have e1 : (mixed k0 ps k).set k (markP m p) = mixed k0 ps (k + 1) := by
            rw [unhide HM2, unhide HPE]
            exact mixed_set k0 ps k hlt
          rw [e1, mixed_len k0 ps (k + 1) (by omega)] at hset
          exact ⟨k + 1, _, by omega, by go_num, rfl, hide (by rw [unhide HQ3, unhide HM2, take_more ps k hlt, szPs_snoc, unhide HPE]; omega), hz0, by omega, hide hset, hide ((unhide HW).trans (hw1.trans (hw2.trans hw3)))⟩
        · rw [← unhide HVA, ← unhide HVB]
          by_cases hj : k * 12 ≤ j ∧ j < k * 12 + 12
          · rw [if_pos hj]
            obtain ⟨i, rfl⟩ : ∃ i, j = k * 12 + i := ⟨j - k * 12, by omega⟩
            rw [Nat.add_sub_cancel_left]
            show (if k * 12 ≤ k * 12 + i ∧ k * 12 + i < k * 12 + 10 then ([.int .i64 m, .int .i64 (m + 1), .int .i64 (m + 1 + 1), .int .i64 (m + 1 + 1 + 1), .int .i64 (m + 1 + 1 + 1 + 1), .int .i64 (m + 1 + 1 + 1 + 1 + 1), .int .i64 (m + 1 + 1 + 1 + 1 + 1 + 1), .int .i64 (m + 1 + 1 + 1 + 1 + 1 + 1 + 1), .int .i64 (m + 1 + 1 + 1 + 1 + 1 + 1 + 1 + 1), .int .i64 (m + 1 + 1 + 1 + 1 + 1 + 1 + 1 + 1 + 1)]).getD i undef else f (k * 12 + i)) = _
            rw [← markP_cells m p va vb]
            by_cases hi : i < 10
            · rw [if_pos (by omega)]
              simp only [List.getD_eq_getElem?_getD]
              rw [List.getElem?_append_left (by simpa using hi)]
            · rw [if_neg (by omega)]
              rcases (show i = 10 ∨ i = 11 by omega) with rfl | rfl
              · rw [unhide HF10]; rfl
              · rw [unhide HF11]; rfl
          · rw [if_neg hj]
            show (if k * 12 ≤ j ∧ j < k * 12 + 10 then _ else f j) = _
            rw [if_neg (by omega)]
        · rw [← unhide HVA] at h2
          rw [← unhide HVB] at h3
          rw [ho3.other b h3, ho2.other b h2, unhide HSET]
          exact setVals_other _ _ _ _ h1
      case measure => (simp [intOf]; try omega)
    · have hke : k = ps.length := by omega
      have hkI : ¬ (k : Int) < (ps.length : Int) := by omega
      go_wp2_with fail
      go_ret
      refine ⟨ret_int (by rw [unhide HM2, hke, List.take_length]), ?_, unhide HW⟩
      have h1 := unhide HP
      rw [hke, mixed_all] at h1
      exact h1
end Go.Proofs.Ythekkgndckkoaaa
/- Marks of what was done, held: laws.heldPastS, laws.markLane, laws.heldLane. -/
namespace Go.Proofs.Ythekkgndckkoaaa
open Go.RowKit
set_option linter.unusedVariables false
set_option linter.unusedSimpArgs false

theorem markPs_at : ∀ (ps : List PastV) (k0 : Int) (k : Nat) (h : k < ps.length) (h' : k < (markPs k0 ps).length), (markPs k0 ps)[k] = markP (k0 + szPs (ps.take k)) ps[k]
  | [], _, k, h, _ => absurd h (Nat.not_lt_zero _)
  | p :: ps, k0, 0, _, _ => by simp [markPs, szPs]
  | p :: ps, k0, k + 1, h, h' => by
    simp only [markPs, List.getElem_cons_succ, List.take_succ_cons, szPs]
    rw [markPs_at ps (k0 + szP p) k (by simpa using h)]
    rw [show k0 + szP p + szPs (ps.take k) = k0 + (szP p + szPs (ps.take k)) by omega]

set_option maxRecDepth 100000 in
set_option maxHeartbeats 2000000 in
theorem heldPastS_any (v : Value) (ps : List PastV) (k0 : Int) (w : World) (h : PastsAt w v (markPs k0 ps)) (hlen : ps.length ≤ 1048576) (hl : ∀ p ∈ ps, p.sends.length ≤ 1048576 ∧ p.outs.length ≤ 1048576) (h0 : 0 ≤ k0) (h1 : k0 ≤ 100000000000000) :
    Calls Try.prog 61 #[v, .int .i64 k0] w fun e w' => e = .returned (.int .i64 (k0 + szPs ps)) ∧ w' = w := by
  obtain ⟨a1, c1, rfl, hlc, hm, hc⟩ := h
  rw [markPs_len] at hlc hm ⊢
  have HC := hide hc
  have HL := hide hl
  clear hc hl
  unfold maxLen at hm
  have hne : ∀ x : Int, (x != x) = false := by intro x; simp
  go_enter Try.func61, Try.ntmps61
  go_wp2_with fail
  go_loop [1, 5] (fun a i => ∃ (k : Nat) (m : Int), k ≤ ps.length ∧ i = .int .i64 k ∧ a = .int .i64 m ∧ Hid (m = k0 + szPs (ps.take k)) ∧ 0 ≤ m ∧ m ≤ 100000000000000 + 12582922 * (k : Int)) (fun _ i => ps.length - (intOf i).toNat)
  case atStart => exact ⟨0, k0, Nat.zero_le _, rfl, rfl, hide (by simp [szPs]), h0, by omega⟩
  case round =>
    obtain ⟨k, m, hk, rfl, rfl, HM2, hm0, hm1⟩ := hrel
    by_cases hlt : k < ps.length
    · have hmk := markPs_at ps k0 k hlt (by rw [markPs_len]; exact hlt)
      rw [← unhide HM2] at hmk
      obtain ⟨b, off, vs, vo, had, hcc, hp⟩ : ∃ b off vs vo, a1 = some ⟨b, off, none⟩ ∧ CellsAt w b (off + k * 12) (pastCells (markP m ps[k]) vs vo) ∧ PastAt w vs vo (markP m ps[k]) := by
        rcases unhide HC with h | ⟨b, off, h1, h2⟩
        · have := congrArg List.length h
          rw [markPs_len] at this
          simp at this
          rw [this] at hlt
          exact absurd hlt (Nat.not_lt_zero _)
        · obtain ⟨vs, vo, h3, h4⟩ := h2 k (by rw [markPs_len]; exact hlt)
          rw [hmk] at h3 h4
          exact ⟨b, off, vs, vo, h1, h3, h4⟩
      subst had
      have hlp := (unhide HL) ps[k] (List.getElem_mem hlt)
      obtain ⟨p, hpe⟩ : ∃ p, p = ps[k] := ⟨_, rfl⟩
      rw [← hpe] at hcc hp hlp
      have HPE := hide hpe
      clear hpe hmk
      have hps := hp.s
      have hpo := hp.o
      simp only [markP, markEvs_rows, markOuts_rows] at hps hpo
      obtain ⟨ea, ca, hea⟩ : ∃ a c, vs = .slice a p.sends.length c := by
        obtain ⟨a, c, h, _⟩ := hps
        exact ⟨a, c, by rw [h, markRows_length]⟩
      obtain ⟨eb, cb, heb⟩ : ∃ a c, vo = .slice a p.outs.length c := by
        obtain ⟨a, c, h, _⟩ := hpo
        exact ⟨a, c, by rw [h, markRows_length]⟩
      subst hea heb
      have hkI : (k : Int) < (ps.length : Int) := by omega
      have hm2 : m + 12582922 ≤ 100000000000000 + 12582922 * 1048576 := by omega
      have q0 : w.cell? ⟨b, off + k * 12, none⟩ = some (.int .i64 m) := hcc 0 (by simp)
      have q1 : w.cell? ⟨b, off + k * 12 + 1, none⟩ = some (.int .i64 (m + 1)) := by
        rw [show m + 1 = m + 1 by omega]
        exact hcc 1 (by simp)
      have q2 : w.cell? ⟨b, off + k * 12 + 2, none⟩ = some (.int .i64 (m + 1 + 1)) := by
        rw [show m + 1 + 1 = m + 2 by omega]
        exact hcc 2 (by simp)
      have q3 : w.cell? ⟨b, off + k * 12 + 3, none⟩ = some (.int .i64 (m + 1 + 1 + 1)) := by
        rw [show m + 1 + 1 + 1 = m + 3 by omega]
        exact hcc 3 (by simp)
      have q4 : w.cell? ⟨b, off + k * 12 + 4, none⟩ = some (.int .i64 (m + 1 + 1 + 1 + 1)) := by
        rw [show m + 1 + 1 + 1 + 1 = m + 4 by omega]
        exact hcc 4 (by simp)
      have q5 : w.cell? ⟨b, off + k * 12 + 5, none⟩ = some (.int .i64 (m + 1 + 1 + 1 + 1 + 1)) := by
        rw [show m + 1 + 1 + 1 + 1 + 1 = m + 5 by omega]
        exact hcc 5 (by simp)
      have q6 : w.cell? ⟨b, off + k * 12 + 6, none⟩ = some (.int .i64 (m + 1 + 1 + 1 + 1 + 1 + 1)) := by
        rw [show m + 1 + 1 + 1 + 1 + 1 + 1 = m + 6 by omega]
        exact hcc 6 (by simp)
      have q7 : w.cell? ⟨b, off + k * 12 + 7, none⟩ = some (.int .i64 (m + 1 + 1 + 1 + 1 + 1 + 1 + 1)) := by
        rw [show m + 1 + 1 + 1 + 1 + 1 + 1 + 1 = m + 7 by omega]
        exact hcc 7 (by simp)
      have q8 : w.cell? ⟨b, off + k * 12 + 8, none⟩ = some (.int .i64 (m + 1 + 1 + 1 + 1 + 1 + 1 + 1 + 1)) := by
        rw [show m + 1 + 1 + 1 + 1 + 1 + 1 + 1 + 1 = m + 8 by omega]
        exact hcc 8 (by simp)
      have q9 : w.cell? ⟨b, off + k * 12 + 9, none⟩ = some (.int .i64 (m + 1 + 1 + 1 + 1 + 1 + 1 + 1 + 1 + 1)) := by
        rw [show m + 1 + 1 + 1 + 1 + 1 + 1 + 1 + 1 + 1 = m + 9 by omega]
        exact hcc 9 (by simp)
      have q10 : w.cell? ⟨b, off + k * 12 + 10, none⟩ = some (.slice ea p.sends.length ca) := hcc 10 (by simp)
      have q11 : w.cell? ⟨b, off + k * 12 + 11, none⟩ = some (.slice eb p.outs.length cb) := hcc 11 (by simp)
      have HPS := hide hps
      have HPO := hide hpo
      clear hcc hp hps hpo
      go_wp2_with fail
      refine (heldEventS_any _ p.sends.length _ w (by have e := unhide HPS; rw [show m + 10 = m + 1 + 1 + 1 + 1 + 1 + 1 + 1 + 1 + 1 + 1 by omega] at e; exact e) (by omega) (by omega) (by omega)).mono ?_
      rintro e w2 ⟨rfl, hw2⟩
      obtain rfl := hw2.symm
      clear q0 q1 q2 q3 q4 q5 q6 q7 q8 q9 q10
      generalize hq : m + 1 + 1 + 1 + 1 + 1 + 1 + 1 + 1 + 1 + 1 + 7 * (p.sends.length : Int) = q at *
      have hqe : q = m + 10 + 7 * (p.sends.length : Int) := by omega
      have hq0 : 0 ≤ q := by omega
      have hqn : ¬ q < 0 := by omega
      have hq1 : q ≤ 200000000000000 := by omega
      have HQE := hide hqe
      clear hq hqe
      go_wp2_with fail
      refine (heldOutS_any _ p.outs.length q w (by rw [unhide HQE]; exact unhide HPO) (by omega) (by omega) (by omega)).mono ?_
      rintro e w3 ⟨rfl, hw3⟩
      obtain rfl := hw3.symm
      have HQ3 : Hid (q + 5 * (p.outs.length : Int) = m + szP p) := hide (by have := unhide HQE; unfold szP; omega)
      have hz0 : 0 ≤ q + 5 * (p.outs.length : Int) := by omega
      have hzn : ¬ q + 5 * (p.outs.length : Int) < 0 := by omega
      have hz1 : q + 5 * (p.outs.length : Int) ≤ 100000000000000 + 12582922 * ((k : Int) + 1) := by have := unhide HQE; omega
      go_wp2_with fail
      go_round
      case rel => exact ⟨k + 1, _, by omega, by go_num, rfl, hide (by rw [unhide HQ3, unhide HM2, take_more ps k hlt, szPs_snoc, unhide HPE]; omega), hz0, by omega⟩
      case measure => (simp [intOf]; try omega)
    · have hke : k = ps.length := by omega
      have hkI : ¬ (k : Int) < (ps.length : Int) := by omega
      go_wp2_with fail
      go_ret
      exact ⟨ret_int (by rw [unhide HM2, hke, List.take_length]), rfl⟩

/-- What is written of what lay there lies within an interval of blocks. -/
structure Frame (N M : Nat) (w w' : World) : Prop where
  size : w.heap.size ≤ w'.heap.size
  other : ∀ b, b < w.heap.size → ¬ (N ≤ b ∧ b < M) → w'.heap[b]? = w.heap[b]?
  below : ∀ B, B ≤ N → B ≤ w.heap.size → Below B w w'

theorem Frame.of_below {N M : Nat} {w w' : World} (h : Below w.heap.size w w') : Frame N M w w' := ⟨h.size, fun b hb _ => h.block b hb, fun B _ hB => h.mono hB⟩
theorem Frame.of_within {N M : Nat} {w w' : World} (h : Within N M w w') : Frame N M w w' := ⟨Nat.le_of_eq h.size.symm, fun b _ hb => h.other b hb, fun B hB _ => h.below B hB⟩
theorem Frame.trans {N M : Nat} {a b c : World} (h : Frame N M a b) (k : Frame N M b c) : Frame N M a c :=
  ⟨Nat.le_trans h.size k.size, fun x hx hn => (k.other x (Nat.lt_of_lt_of_le hx h.size) hn).trans (h.other x hx hn), fun B hB hs => (h.below B hB hs).trans (k.below B hB (Nat.le_trans hs h.size))⟩
theorem Frame.wide {N M N' M' : Nat} {w w' : World} (hN : N' ≤ N) (hM : M ≤ M') (h : Frame N M w w') : Frame N' M' w w' :=
  ⟨h.size, fun b hb hn => h.other b hb (fun e => hn ⟨Nat.le_trans hN e.1, Nat.lt_of_lt_of_le e.2 hM⟩), fun B hB hs => h.below B (Nat.le_trans hB hN) hs⟩

set_option maxRecDepth 100000 in
theorem markLane_any (N M : Nat) (proc : Int) (s : StV) (v : Value) (ps : List PastV) (k0 : Int) (w : World) (h : PastsOwn N M w v ps) (hM : M ≤ w.heap.size) (hlen : ps.length ≤ 1048576) (hl : ∀ p ∈ ps, p.sends.length ≤ 1048576 ∧ p.outs.length ≤ 1048576) (h0 : 0 ≤ k0) (h1 : k0 ≤ 100000000000000) :
    Calls Try.prog 24 #[laneAgg proc s v, .int .i64 k0] w fun e w' => e = .returned (.int .i64 (k0 + szPs ps)) ∧ PastsOwn N M w' v (markPs k0 ps) ∧ Frame N M w w' := by
  obtain ⟨us, ho, hnd⟩ := h
  obtain ⟨a1, c1, rfl⟩ := ho.at.sliced
  have hb0 : Below w.heap.size w (w.alloc (.cells #[.int .i64 proc, .int .i64 s.x, .int .i64 s.y, .int .i64 s.c, .slice a1 ps.length c1] 32)) := (Below.refl _ _).alloc (Nat.le_refl _) _
  have HO := hide (ho.keep (w' := (w.alloc (.cells #[.int .i64 proc, .int .i64 s.x, .int .i64 s.y, .int .i64 s.c, .slice a1 ps.length c1] 32))) (fun b _ hb => hb0.block b (by omega)))
  have HND := hide hnd
  have HL := hide hl
  have HB0 := hide hb0
  clear ho hnd hl hb0
  go_enter Try.func24, Try.ntmps24
  go_wp2_with fail
  refine (markPastS_any N M _ us ps k0 _ (unhide HO) (unhide HND) hlen (unhide HL) h0 h1).mono ?_
  rintro e w2 ⟨rfl, hp2, hw2⟩
  have HP2 := hide hp2
  have HW2 := hide hw2
  clear hp2 hw2
  go_wp2_with fail
  go_ret
  exact ⟨rfl, ⟨us, unhide HP2, unhide HND⟩, (Frame.of_below (unhide HB0)).trans (Frame.of_within (unhide HW2))⟩

set_option maxRecDepth 100000 in
theorem heldLane_any (proc : Int) (s : StV) (v : Value) (ps : List PastV) (k0 : Int) (w : World) (h : PastsAt w v (markPs k0 ps)) (hlen : ps.length ≤ 1048576) (hl : ∀ p ∈ ps, p.sends.length ≤ 1048576 ∧ p.outs.length ≤ 1048576) (h0 : 0 ≤ k0) (h1 : k0 ≤ 100000000000000) :
    Calls Try.prog 26 #[laneAgg proc s v, .int .i64 k0] w fun e w' => e = .returned (.int .i64 (k0 + szPs ps)) ∧ Below w.heap.size w w' := by
  obtain ⟨a1, c1, rfl⟩ := h.sliced
  have hb0 : Below w.heap.size w (w.alloc (.cells #[.int .i64 proc, .int .i64 s.x, .int .i64 s.y, .int .i64 s.c, .slice a1 (markPs k0 ps).length c1] 32)) := (Below.refl _ _).alloc (Nat.le_refl _) _
  have HO := hide (h.on hb0)
  have HL := hide hl
  have HB0 := hide hb0
  have hz := szPs_pos ps
  have hz2 := szPs_le ps hl
  clear h hl hb0
  go_enter Try.func26, Try.ntmps26
  go_wp2_with fail
  refine (heldPastS_any _ ps k0 _ (unhide HO) hlen (unhide HL) h0 h1).mono ?_
  rintro e w2 ⟨rfl, hw2⟩
  have hn : ¬ k0 + szPs ps < 0 := by omega
  have hn2 : 0 ≤ k0 + szPs ps := by omega
  subst hw2
  generalize hzz : k0 + szPs ps = z at *
  have HZ := hide hzz
  clear hzz
  go_wp2_with fail
  go_ret
  exact ⟨ret_int (unhide HZ).symm, unhide HB0⟩
end Go.Proofs.Ythekkgndckkoaaa
/- A list of what was done under an append. No Go text is walked here. -/
namespace Go.Proofs.Ythekkgndckkoaaa
open Go.RowKit
set_option linter.unusedVariables false
set_option linter.unusedSimpArgs false

def flatP : List (Value × Value) → List PastV → List Value
  | u :: us, p :: ps => pastCells p u.1 u.2 ++ flatP us ps
  | _, _ => []

theorem flatP_snoc : ∀ (us : List (Value × Value)) (ps : List PastV) (a b : Value) (p : PastV), us.length = ps.length → flatP (us ++ [(a, b)]) (ps ++ [p]) = flatP us ps ++ pastCells p a b
  | [], [], a, b, p, _ => by simp [flatP]
  | u :: us, q :: ps, a, b, p, h => by
    have ih := flatP_snoc us ps a b p (by simpa using h)
    rw [List.cons_append, List.cons_append, flatP, flatP, ih, List.append_assoc]
  | [], q :: ps, _, _, _, h => by simp at h
  | u :: us, [], _, _, _, h => by simp at h
theorem flatP_len : ∀ (us : List (Value × Value)) (ps : List PastV), us.length = ps.length → (flatP us ps).length = ps.length * 12
  | [], [], _ => rfl
  | u :: us, q :: ps, h => by
    have ih := flatP_len us ps (by simpa using h)
    rw [flatP, List.length_append, ih]
    show 12 + ps.length * 12 = (ps.length + 1) * 12
    omega
  | [], q :: ps, h => by simp at h
  | u :: us, [], h => by simp at h
theorem flatP_at : ∀ (us : List (Value × Value)) (ps : List PastV), us.length = ps.length → ∀ i (h : i < ps.length) (h' : i < us.length) j (hj : j < 12), (flatP us ps)[i * 12 + j]? = some (pastCells ps[i] us[i].1 us[i].2)[j]
  | [], [], _, i, h, _, _, _ => absurd h (Nat.not_lt_zero _)
  | u :: us, q :: ps, hl, 0, _, _, j, hj => by
    have hj2 : j < (pastCells q u.1 u.2).length := hj
    rw [flatP, Nat.zero_mul, Nat.zero_add, List.getElem?_append_left hj2, List.getElem?_eq_getElem hj2]
    rfl
  | u :: us, q :: ps, hl, i + 1, h, h', j, hj => by
    have ih := flatP_at us ps (by simpa using hl) i (by simpa using h) (by simpa using h') j hj
    have e : (i + 1) * 12 + j = 12 + (i * 12 + j) := by omega
    rw [flatP, e, List.getElem?_append_right (show (pastCells q u.1 u.2).length ≤ 12 + (i * 12 + j) from Nat.le_add_right 12 _)]
    show (flatP us ps)[12 + (i * 12 + j) - 12]? = _
    rw [Nat.add_sub_cancel_left]
    exact ih
  | [], q :: ps, h, _, _, _, _, _ => by simp at h
  | u :: us, [], h, _, _, _, _, _ => by simp at h

theorem PastsO.owns {N M : Nat} {w : World} {v : Value} {us : List (Value × Value)} {ps : List PastV} (h : PastsO N M w v us ps) : us.length = ps.length ∧ w.ownsRow N 65 12 v ps.length (flatP us ps) := by
  rcases h with ⟨rfl, rfl, rfl⟩ | ⟨g, cap, f, rfl, hN, hM, hl, hm, ⟨cur, hb, hs, hc⟩, hul, hin⟩
  · exact ⟨rfl, rfl, Or.inl ⟨rfl, rfl⟩⟩
  · refine ⟨hul, flatP_len us ps hul, Or.inr ⟨g, cap, cur, rfl, hN, hb, hl, hm, hs, ?_⟩⟩
    have h3 : ps.length * 12 ≤ cap * 12 := Nat.mul_le_mul_right 12 hl
    refine List.ext_getElem? (fun k => ?_)
    rw [List.getElem?_take]
    by_cases hk : k < ps.length * 12
    · have hd : k / 12 * 12 + k % 12 = k := by rw [Nat.mul_comm]; exact Nat.div_add_mod k 12
      have hq : k / 12 < ps.length := (Nat.div_lt_iff_lt_mul (by omega)).2 hk
      have hj : k % 12 < 12 := Nat.mod_lt _ (by omega)
      have h1 := flatP_at us ps hul (k / 12) hq (by omega) (k % 12) hj
      have h2 := (hin (k / 12) (by omega) hq).1 (k % 12) hj
      rw [hd] at h1 h2
      rw [if_pos hk, h1, Array.getElem?_toList, hc k (by omega), h2]
    · rw [if_neg hk, List.getElem?_eq_none (by rw [flatP_len us ps hul]; omega)]

theorem PastsO.blk {N M : Nat} {w : World} {v : Value} {us : List (Value × Value)} {ps : List PastV} (h : PastsO N M w v us ps) : ∀ g, v.ownBlock = some g → N ≤ g ∧ g < M := by
  intro g hg
  rcases h with ⟨rfl, _⟩ | ⟨g', cap, f, rfl, hN, hM, _⟩
  · simp [Value.ownBlock] at hg
  · obtain rfl : g' = g := by simpa [Value.ownBlock] using hg
    exact ⟨hN, hM⟩

theorem PastsO.elem {N M : Nat} {w : World} {v : Value} {us : List (Value × Value)} {ps : List PastV} (h : PastsO N M w v us ps) : ∀ i (hi : i < us.length) (hi' : i < ps.length), PastO N M w us[i].1 us[i].2 ps[i] := by
  intro i hi hi'
  rcases h with ⟨_, rfl, _⟩ | ⟨g', cap, f, rfl, hN, hM, _, _, _, _, hin⟩
  · exact absurd hi' (Nat.not_lt_zero _)
  · exact (hin i hi hi').2

theorem mem_blocks {us : List (Value × Value)} (l : Nat) (hl : l < us.length) (b : Nat) (hb : us[l].1.ownBlock = some b ∨ us[l].2.ownBlock = some b) : b ∈ blocksOf us :=
  List.mem_flatMap.2 ⟨us[l], List.getElem_mem hl, List.mem_append.2 (hb.imp (fun h => by simp [h]) (fun h => by simp [h]))⟩

theorem pasts_snoc {N M K : Nat} {w wA w' : World} {v : Value} {us : List (Value × Value)} {ps : List PastV} {a b : Value} {p : PastV} {g cap : Nat}
    (h : PastsO N M w v us ps) (hnd : (v.ownBlock.toList ++ blocksOf us).Nodup) (hM : M ≤ w.heap.size) (hN : N ≤ w.heap.size) (hbA : Below w.heap.size w wA) (hK : w.heap.size ≤ K) (hp : PastFr K wA a b p) (hap : Apart a b)
    (hgrow : wA.grownBy w' v.ownBlock) (hown : w'.ownsRow N 65 12 (.slice (some ⟨g, 0, none⟩) (ps.length + 1) cap) (ps.length + 1) (flatP us ps ++ pastCells p a b)) (hat : v.ownBlock = some g ∨ g = wA.heap.size) (hlt : g < w'.heap.size) :
    PastsO N w'.heap.size w' (.slice (some ⟨g, 0, none⟩) (ps ++ [p]).length cap) (us ++ [(a, b)]) (ps ++ [p]) ∧ ((Value.slice (some ⟨g, 0, none⟩) (ps ++ [p]).length cap).ownBlock.toList ++ blocksOf (us ++ [(a, b)])).Nodup := by
  obtain ⟨hul, _⟩ := h.owns
  have hvb := h.blk
  have hel := h.elem
  have hbl : ∀ x ∈ blocksOf us, N ≤ x ∧ x < M := by
    intro x hx
    obtain ⟨u, hu, hxu⟩ := List.mem_flatMap.1 hx
    obtain ⟨i, hi, rfl⟩ := List.getElem_of_mem hu
    have hpp := hel i hi (by omega)
    rcases List.mem_append.1 hxu with h4 | h4
    · have h5 : us[i].1.ownBlock = some x := by simpa using h4
      exact ⟨(hpp.fr.s.blk x h5).1, hpp.hs x h5⟩
    · have h5 : us[i].2.ownBlock = some x := by simpa using h4
      exact ⟨(hpp.fr.o.blk x h5).1, hpp.ho x h5⟩
  have hsA := hbA.size
  have hsw := hgrow.size
  have hnv : ∀ x ∈ blocksOf us, v.ownBlock ≠ some x := fun x hx e => by
    rw [e] at hnd
    exact (List.nodup_cons.1 hnd).1 hx
  have hnd2 : (blocksOf us).Nodup := (List.nodup_append.1 hnd).2.1
  have hA : ∀ x, a.ownBlock = some x → w.heap.size ≤ x ∧ x < wA.heap.size := fun x hx => ⟨Nat.le_trans hK (hp.s.blk x hx).1, (hp.s.blk x hx).2⟩
  have hB : ∀ x, b.ownBlock = some x → w.heap.size ≤ x ∧ x < wA.heap.size := fun x hx => ⟨Nat.le_trans hK (hp.o.blk x hx).1, (hp.o.blk x hx).2⟩
  have hvne : ∀ x, w.heap.size ≤ x → some x ≠ v.ownBlock := fun x hx e => by
    have := (hvb x e.symm).2
    omega
  have hold : ∀ x ∈ blocksOf us, w'.heap[x]? = w.heap[x]? := fun x hx => by
    have h1 := hbl x hx
    rw [hgrow.block x (by omega) (fun e => hnv x hx e.symm), hbA.block x (by omega)]
  obtain ⟨_, ⟨h1, _⟩ | ⟨g', cap', cur, h1, hNg, hb, hnc, hcm, hs, ht⟩⟩ := hown
  · cases h1
  simp only [Value.slice.injEq, Option.some.injEq, Addr.mk.injEq, and_true, true_and] at h1
  obtain ⟨rfl, rfl⟩ := h1
  constructor
  · refine Or.inr ⟨g, cap, fun i => cur.getD i default, rfl, hNg, hlt, by simpa using hnc, hcm, ⟨cur, hb, hs, fun i hi => ?_⟩, by simp [hul], fun i hi hi' => ⟨fun j hj => ?_, ?_⟩⟩
    · simp [Array.getD, hs, hi]
    · have hul2 : (us ++ [(a, b)]).length = (ps ++ [p]).length := by simp [hul]
      have h1 := flatP_at (us ++ [(a, b)]) (ps ++ [p]) hul2 i hi' hi j hj
      rw [flatP_snoc us ps a b p hul, ← ht] at h1
      have hi2 : i < ps.length + 1 := by simpa using hi'
      have h2 : i * 12 + j < (ps.length + 1) * 12 := mul_place hi2 hj
      have h3 : (ps.length + 1) * 12 ≤ cap * 12 := Nat.mul_le_mul_right 12 hnc
      rw [List.getElem?_take, if_pos h2, Array.getElem?_toList, Array.getElem?_eq_getElem (by omega)] at h1
      simp only [Option.some.injEq] at h1
      show cur.getD (i * 12 + j) default = _
      rw [← h1]
      simp [Array.getD, show i * 12 + j < cur.size by omega]
    · by_cases e : i < us.length
      · have e' : i < ps.length := by omega
        rw [List.getElem_append_left e, List.getElem_append_left e']
        exact ((hel i e e').only (fun x hx => hold x (mem_blocks i e x (Or.inl hx))) (fun x hx => hold x (mem_blocks i e x (Or.inr hx)))).wide (Nat.le_refl _) (by omega)
      · have e3 : (us ++ [(a, b)])[i] = (a, b) := by
          obtain rfl : i = us.length := by simp at hi; omega
          rw [List.getElem_append_right (by omega)]
          simp
        have e4 : (ps ++ [p])[i] = p := by
          obtain rfl : i = ps.length := by simp at hi; omega
          rw [List.getElem_append_right (by omega)]
          simp
        rw [e3, e4]
        refine ⟨⟨(hp.s.block (fun x hx _ => hgrow.block x (hA x hx).2 (hvne x (hA x hx).1))).less (by omega), (hp.o.block (fun x hx _ => hgrow.block x (hB x hx).2 (hvne x (hB x hx).1))).less (by omega)⟩, fun x hx => ?_, fun x hx => ?_⟩
        · have := (hA x hx).2; omega
        · have := (hB x hx).2; omega
  · have hm : ([] ++ blocksOf (us ++ [(a, b)])).Nodup := nodup_more (bs := []) (K := w.heap.size) (by simpa using hnd2) (fun x hx => by have := hbl x (by simpa using hx); omega) (fun x hx => (hA x hx).1) (fun x hx => (hB x hx).1) hap
    show ([g] ++ blocksOf (us ++ [(a, b)])).Nodup
    rcases hat with hv | rfl
    · rw [hv] at hnd
      exact nodup_more (bs := [g]) (K := w.heap.size) hnd (fun x hx => by
        rcases List.mem_append.1 hx with h4 | h4
        · obtain rfl := List.mem_singleton.1 h4
          have := (hvb x hv).2; omega
        · have := hbl x h4; omega) (fun x hx => (hA x hx).1) (fun x hx => (hB x hx).1) hap
    · rw [List.singleton_append, List.nodup_cons]
      refine ⟨fun hx => ?_, by simpa using hm⟩
      rw [blocksOf_snoc] at hx
      rcases List.mem_append.1 hx with h4 | h4
      · have := hbl _ h4; omega
      · rcases List.mem_append.1 h4 with h5 | h5
        · have := (hA _ (by simpa using h5)).2; omega
        · have := (hB _ (by simpa using h5)).2; omega
end Go.Proofs.Ythekkgndckkoaaa
/- What stays beside what is written. No Go text is walked here. -/
namespace Go.Proofs.Ythekkgndckkoaaa
open Go.RowKit
set_option linter.unusedVariables false

theorem PastsOwn.keep2 {N M : Nat} {w w' : World} {v : Value} {ps : List PastV} (hk : ∀ b, N ≤ b → b < M → b < w.heap.size → w'.heap[b]? = w.heap[b]?) (h : PastsOwn N M w v ps) : PastsOwn N M w' v ps := by
  obtain ⟨us, h1, h2⟩ := h
  refine ⟨us, ?_, h2⟩
  rcases h1 with h | ⟨g, cap, f, h1, h2, h3, h4, h5, h6, h7, h8⟩
  · exact Or.inl h
  · exact Or.inr ⟨g, cap, f, h1, h2, h3, h4, h5, h6.of_block (hk g h2 h3 h6.lt), h7, fun i hi hi' => ⟨(h8 i hi hi').1, (h8 i hi hi').2.only (fun b hb => hk b ((h8 i hi hi').2.fr.s.blk b hb).1 ((h8 i hi hi').2.hs b hb) ((h8 i hi hi').2.fr.s.blk b hb).2) (fun b hb => hk b ((h8 i hi hi').2.fr.o.blk b hb).1 ((h8 i hi hi').2.ho b hb) ((h8 i hi hi').2.fr.o.blk b hb).2)⟩⟩
theorem PastsOwn.on {N M : Nat} {w w' : World} {v : Value} {ps : List PastV} (hb : Below w.heap.size w w') (h : PastsOwn N M w v ps) : PastsOwn N M w' v ps := h.keep2 (fun b _ _ hl => hb.block b hl)
theorem PastsOwn.frame {N M N' M' : Nat} {w w' : World} {v : Value} {ps : List PastV} (hf : Frame N M w w') (hd : M ≤ N' ∨ M' ≤ N) (h : PastsOwn N' M' w v ps) : PastsOwn N' M' w' v ps :=
  h.keep2 (fun b h1 h2 hl => hf.other b hl (by omega))
theorem CellsAt.frame {N M b o : Nat} {w w' : World} {cs : List Value} (hf : Frame N M w w') (hd : b < N ∨ M ≤ b) (h : CellsAt w b o cs) : CellsAt w' b o cs := fun j hj =>
  (World.cell?_of_block (a := ⟨b, o + j, none⟩) (hf.other b (World.block_lt_of_cell? _ ⟨b, o + j, none⟩ (h j hj)) (by omega))).trans (h j hj)
theorem RowsFr.frame {N M K t n : Nat} {w w' : World} {v : Value} {rs : List (List Int)} (hf : Frame N M w w') (hd : ∀ g, v.ownBlock = some g → g < N ∨ M ≤ g) (h : RowsFr K t n w v rs) : RowsFr K t n w' v rs :=
  h.block (fun g hg hl => hf.other g hl (by have := hd g hg; omega))
theorem frame_of_only {N M : Nat} {v : Value} {w w' : World} (h : OnlyOf v w w') (hv : ∀ g, v.ownBlock = some g → N ≤ g ∧ g < M) : Frame N M w w' := Frame.of_within (Within.of_only h hv)
theorem Frame.then_below {N M B : Nat} {a w w' : World} (hf : Frame N M w w') (h : Below B a w) (hN : B ≤ N) (hs : B ≤ w.heap.size) : Below B a w' := h.trans (hf.below B hN hs)
end Go.Proofs.Ythekkgndckkoaaa
