/- What is due, plainly; append of rows in a plain region. -/
import Derived.Test.YthekkgndckkoaaaBndC
import Derived.Test.YthekkgndckkoaaaBndC
import Derived.Test.YthekkgndckkoaaaBndW
import Derived.Test.YthekkgndckkoaaaLane3
import Derived.Test.YthekkgndckkoaaaSortE
import Derived.Test.YthekkgndckkoaaaSortO
namespace Go.Proofs.Ythekkgndckkoaaa
open Go.RowKit
set_option linter.unusedVariables false
set_option linter.unusedSimpArgs false

theorem wpList_append_rowsAt {P : Program} (w : World) {ops : Array Oper} {rest : List Oper} {o : Oper} {a : Act} {Q : Exit → Act → World → Prop} (hgd : o.guard = none) (s x : Operand) (t : TypeId)
    (ho : o.op = .call { callee := .builtin .append, args := #[s, x], argTypes := #[t, t] })
    (base : Nat) (e : TypeId) (i : TypeInfo) (z : Value) (size bytes : Nat) (ht : P.underlying t = some (.slice e)) (hi : P.info? e = some i) (hz : i.zero = some z)
    (hsize : i.size = size) (hby : i.bytes = bytes) (hzs : z.cells.size = size) (hsz : 0 < size)
    (v : Value) (n : Nat) (xs : List Value) (hs : a.eval s = v) (hown : w.ownsRow base e size v n xs)
    (rs : List (List Int)) (vx : Value) (hx : a.eval x = vx) (hr : RowsAt size w vx rs) (hrl : ∀ r ∈ rs, r.length = size)
    (h63 : n + rs.length ≤ maxLen) (hbytes : (n + rs.length) * bytes ≤ 140737488355328) (hbase : base ≤ w.heap.size)
    (h : ∀ v' w', w'.ownsRow base e size v' (n + rs.length) (xs ++ flatCells rs) → w.grownBy w' v.ownBlock → (v'.ownBlock = v.ownBlock ∨ v'.ownBlock = some w.heap.size) → wpList P ops Q rest (a.put o.dst v') w') : wpList P ops Q (o :: rest) a w :=
  wpList_plain hgd fun K hK => by
    have hw : Region.wanted o (yielded ops a.tmps) = true := by simp [Region.wanted, hgd]
    have e := step_append_rowsAt (P := P) (ops := ops) (K := K) (Q := Q) (E := True) w hgd s x t ho base e i z size bytes ht hi hz hsize hby hzs hsz v n xs hs hown rs vx hx hr hrl h63 hbytes hbase (fun v' w' h1 h2 h3 => hK _ _ (h v' w' h1 h2 h3))
    rwa [if_pos hw] at e

structure Due (ps : List PastV) (u : Int) (n : Nat) : Prop where
  hp : n ≤ ps.length
  yes : ∀ i (h : i < ps.length), i < n → ps[i].ev.time < u
  stop : ∀ (h : n < ps.length), ¬ ps[n].ev.time < u
theorem Due.unique {ps : List PastV} {u : Int} {n m : Nat} (a : Due ps u n) (b : Due ps u m) : n = m := by
  rcases Nat.lt_trichotomy n m with h | h | h
  · have h1 := b.hp
    exact absurd (b.yes n (by omega) h) (a.stop (by omega))
  · exact h
  · have h1 := a.hp
    exact absurd (a.yes m (by omega) h) (b.stop (by omega))
theorem due_exists (u : Int) : ∀ (ps : List PastV), ∃ n, Due ps u n
  | [] => ⟨0, Nat.zero_le _, fun i h => absurd h (Nat.not_lt_zero _), fun h => absurd h (Nat.not_lt_zero _)⟩
  | p :: ps => by
    by_cases he : p.ev.time < u
    · obtain ⟨n, hn⟩ := due_exists u ps
      refine ⟨n + 1, by have := hn.hp; simp; omega, fun i h hi => ?_, fun h => ?_⟩
      · cases i with
        | zero => exact he
        | succ i => exact hn.yes i (by simpa using h) (by omega)
      · exact hn.stop (by simpa using h)
    · exact ⟨0, Nat.zero_le _, fun i _ hi => absurd hi (Nat.not_lt_zero _), fun _ => he⟩

def allS (ps : List PastV) (n : Nat) : List EvV := (ps.take n).flatMap (·.sends)
def allO (ps : List PastV) (n : Nat) : List OutV := (ps.take n).flatMap (·.outs)
theorem allS_more (ps : List PastV) (k : Nat) (h : k < ps.length) : allS ps (k + 1) = allS ps k ++ ps[k].sends := by
  unfold allS; rw [take_more ps k h, List.flatMap_append]; simp
theorem allO_more (ps : List PastV) (k : Nat) (h : k < ps.length) : allO ps (k + 1) = allO ps k ++ ps[k].outs := by
  unfold allO; rw [take_more ps k h, List.flatMap_append]; simp
def stAt (s : StV) (ps : List PastV) (n : Nat) : StV := ((baseQ s :: ps).getD n (baseQ s)).st
def laneSettle (proc : Int) (s : StV) (ps : List PastV) (n : Nat) : (Int × StV × List PastV) × List EvV × List OutV :=
  if laneOk proc s ps = true then ((proc, stAt s ps n, ps.drop n), allS ps n, allO ps n) else ((0, ⟨0, 0, 0⟩, []), [], [])

theorem lane_lens {proc : Int} {s : StV} {ps : List PastV} (h : laneOk proc s ps = true) : ps.length ≤ 100 ∧ ∀ p ∈ ps, p.sends.length ≤ 2 ∧ p.outs.length ≤ 2 := by
  simp only [laneOk, Bool.and_eq_true, decide_eq_true_eq] at h
  obtain ⟨_, _, h1, h2, _⟩ := h
  refine ⟨by omega, fun p hp => ?_⟩
  have h3 := List.all_eq_true.1 h2 p hp
  simp only [oneOk, pastOk, inOrder, Bool.and_eq_true, decide_eq_true_eq] at h3
  obtain ⟨_, _, _, ⟨⟨h4, _⟩, _⟩, ⟨⟨h5, _⟩, _⟩⟩ := h3
  exact ⟨by omega, by omega⟩
theorem allS_len {ps : List PastV} (h : ∀ p ∈ ps, p.sends.length ≤ 2 ∧ p.outs.length ≤ 2) : ∀ n, n ≤ ps.length → (allS ps n).length ≤ 2 * n ∧ (allO ps n).length ≤ 2 * n
  | 0, _ => by simp [allS, allO]
  | n + 1, hn => by
    have h1 := allS_len h n (by omega)
    have h2 := h ps[n] (List.getElem_mem (by omega))
    rw [allS_more ps n (by omega), allO_more ps n (by omega), List.length_append, List.length_append]
    omega

theorem Chain.drop {W w : World} {N : Nat} {gs : List Nat} {qs : List PastV} (n : Nat) (h : Chain W N w gs qs) : Chain W N w (gs.drop n) (qs.drop n) := by
  refine ⟨by simp [h.len], fun i hi => ?_, fun i j hi hj hij => ?_, fun i hi hi' => ?_⟩
  · rw [List.getElem_drop]; exact h.lo _ (by simp at hi; omega)
  · rw [List.getElem_drop, List.getElem_drop]; exact h.asc _ _ (by simp at hi; omega) (by simp at hj; omega) (by omega)
  · rw [List.getElem_drop, List.getElem_drop, List.getElem?_drop]
    exact h.node (n + i) (by simp at hi; omega) (by simp at hi'; omega)

/-- What LaneSettle leaves: three parts, each in blocks of its own. -/
structure Settled (N : Nat) (w : World) (v ve vo : Value) (ps : List PastV) (es : List EvV) (os : List OutV) (zs : List EvV) (ys : List OutV) (M1 M2 : Nat) : Prop where
  list : PastsOwn N M1 w v ps
  ev : RowsFr M1 41 7 w ve (zs.map evRow)
  evb : ∀ g, ve.ownBlock = some g → g < M2
  m12 : M1 ≤ M2
  out : RowsFr M2 92 5 w vo (ys.map outRow)
  m2 : M2 ≤ w.heap.size
  up : Up evLess zs
  mem : ∀ a, a ∈ zs ↔ a ∈ es
  perm : ys.Perm os
  asc : Asc outLess ys
  n1 : N ≤ M1
end Go.Proofs.Ythekkgndckkoaaa
