/- Lists of what was done, each list in a block of its own, all within an interval of blocks; their marks, plainly. No Go text is walked here. -/
import Derived.Test.YtiljjhipiinafaaGreatPast4
namespace Go.Proofs.YtiljjhipiinafaaGreat
open Go.RowKit
set_option linter.unusedVariables false
set_option linter.unusedSimpArgs false

def Apart (a b : Value) : Prop := ∀ g, a.ownBlock = some g → b.ownBlock = some g → False
def blocksOf (us : List (Value × Value)) : List Nat := us.flatMap fun u => u.1.ownBlock.toList ++ u.2.ownBlock.toList

structure PastO (N M : Nat) (w : World) (vs vo : Value) (p : PastV) : Prop where
  fr : PastFr N w vs vo p
  hs : ∀ g, vs.ownBlock = some g → g < M
  ho : ∀ g, vo.ownBlock = some g → g < M

theorem PastO.keep {N M : Nat} {w w' : World} {vs vo : Value} {p : PastV} (hk : ∀ b, N ≤ b → b < M → w'.heap[b]? = w.heap[b]?) (h : PastO N M w vs vo p) : PastO N M w' vs vo p :=
  ⟨⟨h.fr.s.block (fun g hg _ => hk g (h.fr.s.blk g hg).1 (h.hs g hg)), h.fr.o.block (fun g hg _ => hk g (h.fr.o.blk g hg).1 (h.ho g hg))⟩, h.hs, h.ho⟩
theorem PastO.only {N M : Nat} {w w' : World} {vs vo : Value} {p : PastV} (h1 : ∀ b, vs.ownBlock = some b → w'.heap[b]? = w.heap[b]?) (h2 : ∀ b, vo.ownBlock = some b → w'.heap[b]? = w.heap[b]?) (h : PastO N M w vs vo p) : PastO N M w' vs vo p :=
  ⟨⟨h.fr.s.block (fun g hg _ => h1 g hg), h.fr.o.block (fun g hg _ => h2 g hg)⟩, h.hs, h.ho⟩
theorem PastO.wide {N M N' M' : Nat} {w : World} {vs vo : Value} {p : PastV} (hN : N' ≤ N) (hM : M ≤ M') (h : PastO N M w vs vo p) : PastO N' M' w vs vo p :=
  ⟨h.fr.less hN, fun g hg => Nat.lt_of_lt_of_le (h.hs g hg) hM, fun g hg => Nat.lt_of_lt_of_le (h.ho g hg) hM⟩

/-- The first ones of a list of such, as many as us has, lie in the row. -/
def PastsIn2 (N M : Nat) (w : World) (f : Nat → Value) (us : List (Value × Value)) (ps : List PastV) : Prop :=
  ∀ i (h : i < us.length) (h' : i < ps.length), (∀ j (hj : j < 12), f (i * 12 + j) = (pastCells ps[i] us[i].1 us[i].2)[j]) ∧ PastO N M w us[i].1 us[i].2 ps[i]

theorem PastsIn2.keep {N M : Nat} {w w' : World} {f : Nat → Value} {us : List (Value × Value)} {ps : List PastV} (hk : ∀ b, N ≤ b → b < M → w'.heap[b]? = w.heap[b]?) (h : PastsIn2 N M w f us ps) : PastsIn2 N M w' f us ps :=
  fun i hi hi' => ⟨(h i hi hi').1, (h i hi hi').2.keep hk⟩
theorem PastsIn2.wide {N M N' M' : Nat} {w : World} {f : Nat → Value} {us : List (Value × Value)} {ps : List PastV} (hN : N' ≤ N) (hM : M ≤ M') (h : PastsIn2 N M w f us ps) : PastsIn2 N' M' w f us ps :=
  fun i hi hi' => ⟨(h i hi hi').1, (h i hi hi').2.wide hN hM⟩

theorem blocksOf_snoc (us : List (Value × Value)) (a b : Value) : blocksOf (us ++ [(a, b)]) = blocksOf us ++ (a.ownBlock.toList ++ b.ownBlock.toList) := by
  simp [blocksOf]

theorem blocksOf_app (a b : List (Value × Value)) : blocksOf (a ++ b) = blocksOf a ++ blocksOf b := by
  simp [blocksOf]

theorem own_nodup {a b : Value} (h : Apart a b) : (a.ownBlock.toList ++ b.ownBlock.toList).Nodup := by
  rw [List.nodup_append]
  refine ⟨?_, ?_, fun x hx y hy e => ?_⟩
  · cases a.ownBlock <;> simp
  · cases b.ownBlock <;> simp
  · subst e
    exact h x (by simpa using hx) (by simpa using hy)

theorem nodup_more {bs : List Nat} {us : List (Value × Value)} {a b : Value} {K : Nat} (h : (bs ++ blocksOf us).Nodup) (hlt : ∀ x ∈ bs ++ blocksOf us, x < K) (h1 : ∀ g, a.ownBlock = some g → K ≤ g) (h2 : ∀ g, b.ownBlock = some g → K ≤ g) (ha : Apart a b) : (bs ++ blocksOf (us ++ [(a, b)])).Nodup := by
  rw [blocksOf_snoc, ← List.append_assoc, List.nodup_append]
  refine ⟨h, own_nodup ha, fun x hx y hy e => ?_⟩
  subst e
  have h3 := hlt x hx
  rcases List.mem_append.1 hy with h4 | h4
  · have := h1 x (by simpa using h4); omega
  · have := h2 x (by simpa using h4); omega

theorem blocks_lt {N M K : Nat} {w : World} {f : Nat → Value} {us : List (Value × Value)} {ps : List PastV} (hl : us.length ≤ ps.length) (h : PastsIn2 N M w f us ps) (hM : M ≤ K) : ∀ x ∈ blocksOf us, N ≤ x ∧ x < K := by
  intro x hx
  obtain ⟨u, hu, hxu⟩ := List.mem_flatMap.1 hx
  obtain ⟨i, hi, rfl⟩ := List.getElem_of_mem hu
  obtain ⟨_, hp⟩ := h i hi (by omega)
  rcases List.mem_append.1 hxu with h4 | h4
  · have h5 : us[i].1.ownBlock = some x := by simpa using h4
    exact ⟨(hp.fr.s.blk x h5).1, Nat.lt_of_lt_of_le (hp.hs x h5) hM⟩
  · have h5 : us[i].2.ownBlock = some x := by simpa using h4
    exact ⟨(hp.fr.o.blk x h5).1, Nat.lt_of_lt_of_le (hp.ho x h5) hM⟩

/-- What is written lies within an interval of blocks. -/
structure Within (N M : Nat) (w w' : World) : Prop where
  size : w'.heap.size = w.heap.size
  other : ∀ b, ¬ (N ≤ b ∧ b < M) → w'.heap[b]? = w.heap[b]?
  below : ∀ B, B ≤ N → Below B w w'

theorem Within.refl (N M : Nat) (w : World) : Within N M w w := ⟨rfl, fun _ _ => rfl, fun B _ => Below.refl B w⟩
theorem Within.trans {N M : Nat} {a b c : World} (h : Within N M a b) (k : Within N M b c) : Within N M a c :=
  ⟨k.size.trans h.size, fun x hx => (k.other x hx).trans (h.other x hx), fun B hB => (h.below B hB).trans (k.below B hB)⟩
theorem Within.of_only {N M : Nat} {v : Value} {w w' : World} (h : OnlyOf v w w') (hv : ∀ g, v.ownBlock = some g → N ≤ g ∧ g < M) : Within N M w w' :=
  ⟨h.size, fun b hb => h.other b (fun e => hb (hv b e)), fun B hB => h.below B (fun g hg => Nat.le_trans hB (hv g hg).1)⟩
theorem setVals_size {b : Nat} : ∀ (xs : List Value) (o : Nat) (w : World), (setVals w b o xs).heap.size = w.heap.size
  | [], _, _ => rfl
  | x :: xs, o, w => by
    rw [setVals, setVals_size xs (o + 1)]
    simp
theorem Within.vals {N M g o : Nat} {w : World} (xs : List Value) (h1 : N ≤ g) (h2 : g < M) : Within N M w (setVals w g o xs) :=
  ⟨setVals_size xs o w, fun b hb => setVals_other xs o w b (fun e => hb (by omega)), fun B hB => setVals_below xs o w (Below.refl _ _) (Nat.le_trans hB h1)⟩

/-! Marks. -/
def evFrom (k : Int) : EvV := ⟨k, k + 1, k + 2, k + 3, k + 4, k + 5, k + 6⟩
def outFrom (k : Int) : OutV := ⟨k, k + 1, k + 2, k + 3, k + 4⟩
def markEvs (k : Int) (n : Nat) : List EvV := (List.range n).map fun (i : Nat) => evFrom (k + ((i * 7 : Nat) : Int))
def markOuts (k : Int) (n : Nat) : List OutV := (List.range n).map fun (i : Nat) => outFrom (k + ((i * 5 : Nat) : Int))
def szP (p : PastV) : Int := 10 + 7 * (p.sends.length : Int) + 5 * (p.outs.length : Int)
def markP (k : Int) (p : PastV) : PastV := ⟨evFrom k, ⟨k + 7, k + 8, k + 9⟩, markEvs (k + 10) p.sends.length, markOuts (k + 10 + 7 * (p.sends.length : Int)) p.outs.length⟩
def markPs : Int → List PastV → List PastV
  | _, [] => []
  | k, p :: ps => markP k p :: markPs (k + szP p) ps
def szPs : List PastV → Int
  | [] => 0
  | p :: ps => szP p + szPs ps

theorem markEvs_rows (k : Int) (n : Nat) : (markEvs k n).map evRow = markRows 7 k n := by
  simp only [markEvs, markRows, List.map_map]
  refine List.map_congr_left (fun i _ => ?_)
  simp [Function.comp, evRow, evFrom, List.range, List.range.loop]
  omega
theorem markOuts_rows (k : Int) (n : Nat) : (markOuts k n).map outRow = markRows 5 k n := by
  simp only [markOuts, markRows, List.map_map]
  refine List.map_congr_left (fun i _ => ?_)
  simp [Function.comp, outRow, outFrom, List.range, List.range.loop]
  omega
theorem markEvs_len (k : Int) (n : Nat) : (markEvs k n).length = n := by simp [markEvs]
theorem markOuts_len (k : Int) (n : Nat) : (markOuts k n).length = n := by simp [markOuts]
theorem markPs_len : ∀ (ps : List PastV) (k : Int), (markPs k ps).length = ps.length
  | [], _ => rfl
  | p :: ps, k => by simp [markPs, markPs_len ps]
theorem szPs_snoc : ∀ (ps : List PastV) (p : PastV), szPs (ps ++ [p]) = szPs ps + szP p
  | [], p => by simp [szPs]
  | q :: ps, p => by simp [szPs, szPs_snoc ps p]; omega
theorem markPs_snoc : ∀ (ps : List PastV) (k : Int) (p : PastV), markPs k (ps ++ [p]) = markPs k ps ++ [markP (k + szPs ps) p]
  | [], k, p => by simp [markPs, szPs]
  | q :: ps, k, p => by
    simp only [List.cons_append, markPs, markPs_snoc ps, szPs]
    rw [show k + szP q + szPs ps = k + (szP q + szPs ps) by omega]
theorem szP_pos (p : PastV) : 10 ≤ szP p := by unfold szP; omega
theorem szPs_pos : ∀ (ps : List PastV), 0 ≤ szPs ps
  | [] => by simp [szPs]
  | p :: ps => by have := szP_pos p; have := szPs_pos ps; simp only [szPs]; omega
theorem szPs_le : ∀ (ps : List PastV), (∀ p ∈ ps, p.sends.length ≤ 1048576 ∧ p.outs.length ≤ 1048576) → szPs ps ≤ 12582922 * (ps.length : Int)
  | [], _ => by simp [szPs]
  | p :: ps, h => by
    have h1 := szPs_le ps (fun q hq => h q (List.mem_cons_of_mem _ hq))
    have h2 := h p (List.mem_cons_self ..)
    simp only [szPs, szP, List.length_cons]
    omega

/-- So far marked, the rest as it was. -/
def mixed (k0 : Int) (ps : List PastV) (i : Nat) : List PastV := markPs k0 (ps.take i) ++ ps.drop i
theorem mixed_len (k0 : Int) (ps : List PastV) (i : Nat) (h : i ≤ ps.length) : (mixed k0 ps i).length = ps.length := by
  simp [mixed, markPs_len]; omega
theorem mixed_zero (k0 : Int) (ps : List PastV) : mixed k0 ps 0 = ps := by simp [mixed, markPs]
theorem mixed_all (k0 : Int) (ps : List PastV) : mixed k0 ps ps.length = markPs k0 ps := by simp [mixed]
theorem mixed_at (k0 : Int) (ps : List PastV) (i : Nat) (h : i < ps.length) (h' : i < (mixed k0 ps i).length) : (mixed k0 ps i)[i] = ps[i] := by
  have h1 : (markPs k0 (ps.take i)).length = i := by rw [markPs_len]; simp; omega
  simp only [mixed]
  rw [List.getElem_append_right (by omega)]
  simp [h1]
theorem mixed_set (k0 : Int) (ps : List PastV) (i : Nat) (h : i < ps.length) : (mixed k0 ps i).set i (markP (k0 + szPs (ps.take i)) ps[i]) = mixed k0 ps (i + 1) := by
  have h1 : (markPs k0 (ps.take i)).length = i := by rw [markPs_len]; simp; omega
  simp only [mixed]
  rw [List.set_append_right _ _ (by omega), h1, Nat.sub_self, take_more ps i h, markPs_snoc, List.drop_eq_getElem_cons h]
  simp only [List.set_cons_zero, List.append_assoc, List.singleton_append]

end Go.Proofs.YtiljjhipiinafaaGreat
