/- Grids of the specification; spec.l31Copy. -/
import Derived.Test.YtocgfngcgekciaaSCp2
import Derived.Test.YtocgfngcgekciaaSRk
import Derived.Deep.AppendSrc
import Derived.Deep.Upon
namespace Go.Proofs.Ytocgfngcgekciaa
open Go.RowKit
set_option linter.unusedVariables false
set_option linter.unusedSimpArgs false


section
variable {P : Program}
theorem rows_news {size : Nat} {w : World} {ad : Option Addr} {rs : List (List Int)} (hsz : 0 < size) (hrl : ∀ r ∈ rs, r.length = size)
    (hc : rs = [] ∨ ∃ b off, ad = some ⟨b, off, none⟩ ∧ ∀ i (h : i < rs.length) j, j < size → w.cell? ⟨b, off + i * size + j, none⟩ = some (.int .i64 (rs[i].getD j 0))) (a0 : Addr) (ha : ad = some a0) :
    ∀ j u, (flatCells rs)[j]? = some u → w.cell? (a0.add j) = some u := fun j u hu => by
  have hj : j < rs.length * size := by
    rw [← flatCells_len2 rs hrl]
    rcases Nat.lt_or_ge j (flatCells rs).length with h | h
    · exact h
    · rw [List.getElem?_eq_none h] at hu; cases hu
  rcases hc with h0 | ⟨b, off, had, hcc⟩
  · rw [h0] at hj; simp at hj
  · rw [ha] at had
    simp only [Option.some.injEq] at had
    subst had
    have hd : j / size < rs.length := Nat.div_lt_of_lt_mul (by rw [Nat.mul_comm]; exact hj)
    have hmod : j % size < size := Nat.mod_lt _ hsz
    have e1 : j / size * size + j % size = j := by rw [Nat.mul_comm]; exact Nat.div_add_mod j size
    have h2 := flatCells_at rs hrl (j / size) hd (j % size) hmod
    rw [e1, hu] at h2
    have h3 := hcc (j / size) hd (j % size) hmod
    rw [Nat.add_assoc, e1] at h3
    have hadd : (⟨b, off, none⟩ : Addr).add j = ⟨b, off + j, none⟩ := by unfold Addr.add; split <;> simp_all
    rw [hadd, h3, ← h2]

/-- A list of rows, in block g if there is any. -/
def RowsBl (g n : Nat) (w : World) (v : Value) (rs : List (List Int)) : Prop := RowsAt n w v rs ∧ (rs = [] ∨ v.ownBlock = some g)

theorem RowsBl.keep {g n : Nat} {w w' : World} {v : Value} {rs : List (List Int)} (h : RowsBl g n w v rs) (hk : rs ≠ [] → w'.heap[g]? = w.heap[g]?) : RowsBl g n w' v rs := by
  obtain ⟨⟨ad, cap, hv, hl, hm, hc⟩, hg⟩ := h
  refine ⟨⟨ad, cap, hv, hl, hm, ?_⟩, hg⟩
  rcases hc with hc | ⟨b, off, had, hcc⟩
  · exact Or.inl hc
  · by_cases h0 : rs = []
    · exact Or.inl h0
    · rcases hg with hg | hg
      · exact absurd hg h0
      · refine Or.inr ⟨b, off, had, fun i hi j hj => ?_⟩
        have hb : b = g := by
          rw [hv, had] at hg
          simpa [Value.ownBlock] using hg
        subst hb
        exact (World.cell?_of_block (a := ⟨b, off + i * n + j, none⟩) (hk h0)).trans (hcc i hi j hj)

theorem RowsBl.on {g n : Nat} {w w' : World} {v : Value} {rs : List (List Int)} (h : RowsBl g n w v rs) (hb : Below w.heap.size w w') : RowsBl g n w' v rs := ⟨h.1.on hb, h.2⟩

theorem RowsBl.lt {g n : Nat} {w : World} {v : Value} {rs : List (List Int)} (h : RowsBl g n w v rs) (hn : 0 < n) (h0 : rs ≠ []) : g < w.heap.size := by
  obtain ⟨⟨ad, cap, hv, hl, hm, hc⟩, hg⟩ := h
  rcases hc with hc | ⟨b, off, had, hcc⟩
  · exact absurd hc h0
  · rcases hg with hg | hg
    · exact absurd hg h0
    · have hb : b = g := by
        rw [hv, had] at hg
        simpa [Value.ownBlock] using hg
      subst hb
      exact World.block_lt_of_cell? _ _ (hcc 0 (List.length_pos_iff.2 h0) 0 hn)

theorem run_append_empty (w : World) (t ty e : TypeId) (i : TypeInfo) (z : Value) (size bytes : Nat) (ht : P.underlying t = some (.slice e)) (hi : P.info? e = some i) (hz : i.zero = some z)
    (hsize : i.size = size) (hby : i.bytes = bytes) (hsz : 0 < size) (b : Option Addr) (rs : List (List Int)) (vx : Value) (hr : RowsAt size w vx rs) (hrl : ∀ r ∈ rs, r.length = size)
    (hbytes : rs.length * bytes ≤ 140737488355328) :
    ∃ v' w', (Builtin.append_ #[t, t] ty #[.slice b 0 0, vx]).run P w = .ok v' w' ∧ RowsBl w.heap.size size w' v' rs ∧ Below w.heap.size w w' ∧ (rs = [] ∨ w.heap.size < w'.heap.size) := by
  subst hsize hby
  obtain ⟨ad, cap, rfl, hl, hm, hc⟩ := hr
  have hsrc : Src P i.size t (.slice ad rs.length cap) rs.length (flatCells rs) w := by
    cases ad with
    | none =>
      have h0 : rs = [] := by
        rcases hc with h | ⟨b, off, h, _⟩
        · exact h
        · cases h
      subst h0
      exact Src.ofNil w ht cap
    | some a0 => exact Src.ofSlice w ht a0 rs.length cap (flatCells rs) (flatCells_len2 rs hrl) (rows_news hsz hrl hc a0 rfl) (flat_one2 rs)
  cases rs with
  | nil => exact ⟨_, _, run_append_nothing w t t ty e i ht hi b 0 0 (Nat.le_refl _) _ (by simpa [flatCells] using hsrc), ⟨⟨b, 0, rfl, Nat.le_refl _, Nat.zero_le _, Or.inl rfl⟩, Or.inl rfl⟩, Below.refl _ _, Or.inl rfl⟩
  | cons r0 rest =>
    have hpos : 0 < (r0 :: rest).length := by simp
    have hold : ∀ w : World, (Builtin.firstCells i.size 0 (.slice b 0 0)).run P w = .ok (#[] : Array Value) w := fun w => by
      cases b with
      | none => exact run_firstCells_none w i.size 0 0 0
      | some a => exact run_firstCells_some w i.size 0 a 0 0 [] (by simp) (fun j v h => by simp at h)
    have hm2 : (r0 :: rest).length ≤ 9223372036854775807 := by unfold maxLen at hm; omega
    have hrun := run_append_grow_src w t t ty e i z ht hi hz b 0 0 [] (hold w.drew) _ _ _ hsrc (by omega) (by rw [Nat.zero_add]; exact Int.ofNat_le.2 hm2) (by rw [Nat.zero_add, nextslicecap_zero hpos]; omega)
    refine ⟨_, _, hrun, ⟨?_, Or.inr rfl⟩, ((Below.refl _ _).drew).alloc (Nat.le_refl w.heap.size) _, Or.inr (by simp)⟩
    rw [Nat.zero_add, List.nil_append]
    generalize hL : (r0 :: rest) = L at *
    refine ⟨some ⟨w.heap.size, 0, none⟩, _, rfl, grownCap_ge w _ _ _, hm, Or.inr ⟨w.heap.size, 0, rfl, fun k hk j hj => ?_⟩⟩
    generalize Builtin.zeroCells z.cells _ = zc
    have hrow := World.rowIs_alloc w.drew ((flatCells L).toArray ++ zc) e (fun i => ((flatCells L).toArray ++ zc).getD i undef) (fun i hi => by rw [Array.getElem?_eq_getElem hi, Array.getD_eq_getD_getElem?, Array.getElem?_eq_getElem hi]; rfl)
    have h1 := flatCells_at L hrl k hk j hj
    have hlt : k * i.size + j < (flatCells L).length := by rw [flatCells_len2 L hrl]; exact mul_place hk hj
    have h2 := hrow.cell (i := k * i.size + j) (by simp; omega)
    rw [Nat.zero_add]
    refine h2.trans ?_
    rw [← h1]
    rw [Array.getD_eq_getD_getElem?, Array.getElem?_append_left (by simpa using hlt), List.getElem?_toArray, List.getElem?_eq_getElem hlt]
    rfl

theorem step_append_empty (w : World) {ops : Array Oper} {o : Oper} {a : Act} {K : Act → World → Prop} {Q : Exit → Act → World → Prop} {E : Prop} (hgd : o.guard = none) (s x : Operand) (t : TypeId)
    (ho : o.op = .call { callee := .builtin .append, args := #[s, x], argTypes := #[t, t] })
    (e : TypeId) (i : TypeInfo) (z : Value) (size bytes : Nat) (ht : P.underlying t = some (.slice e)) (hi : P.info? e = some i) (hz : i.zero = some z)
    (hsize : i.size = size) (hby : i.bytes = bytes) (hsz : 0 < size) (b : Option Addr) (hs : a.eval s = .slice b 0 0)
    (rs : List (List Int)) (vx : Value) (hx : a.eval x = vx) (hr : RowsAt size w vx rs) (hrl : ∀ r ∈ rs, r.length = size) (hbytes : rs.length * bytes ≤ 140737488355328)
    (h : ∀ v' w', RowsBl w.heap.size size w' v' rs → Below w.heap.size w w' → (rs = [] ∨ w.heap.size < w'.heap.size) → K (a.put o.dst v') w') :
    if Region.wanted o (yielded ops a.tmps) = true then Oper.wp P o a w K Q else E := by
  have hw : Region.wanted o (yielded ops a.tmps) = true := by simp [Region.wanted, hgd]
  rw [if_pos hw]
  obtain ⟨v', w', hrun, h1, h2, h3⟩ := run_append_empty w t o.type e i z size bytes ht hi hz hsize hby hsz b rs vx hr hrl hbytes
  have hfin := h v' w' h1 h2 h3
  unfold Oper.wp execOp
  simp only [ho, resolve, invoke, builtin, Sem.run_bind, Sem.run_pure, Result.andThen_ok, List.map_toArray, List.map_cons, List.map_nil, hs, hx, hrun]
  exact hfin
end

/-- A list of lists whose own block may be written into; its lists are in blocks [N, M), not in that block. -/
structure SGrid (N M : Nat) (w : World) (g cap : Nat) (f : Nat → Value) (ls : List (List Int)) : Prop where
  row : w.rowIs g 28 cap f
  lo : N ≤ g
  hi : g < M
  len : ls.length ≤ cap
  max : cap ≤ maxLen
  rows : ∀ i (h : i < ls.length), ∃ b, RowsBl b 1 w (f i) (ls[i].map fun z => [z]) ∧ N ≤ b ∧ b < M ∧ b ≠ g

theorem SGrid.at {N M : Nat} {w : World} {g cap : Nat} {f : Nat → Value} {ls : List (List Int)} (h : SGrid N M w g cap f ls) : GridAt w (gridV g cap ls) ls :=
  ⟨_, cap, rfl, h.len, Nat.le_trans h.len h.max, Or.inr ⟨g, 0, rfl, fun i hi => ⟨f i, by rw [Nat.zero_add]; exact h.row.cell (by have := h.len; omega), by
    obtain ⟨b, hb, _⟩ := h.rows i hi
    exact hb.1⟩⟩⟩
theorem SGrid.keep {N M : Nat} {w w' : World} {g cap : Nat} {f : Nat → Value} {ls : List (List Int)} (h : SGrid N M w g cap f ls) (hk : ∀ b, N ≤ b → b < M → w'.heap[b]? = w.heap[b]?) : SGrid N M w' g cap f ls :=
  ⟨h.row.of_block (hk g h.lo h.hi), h.lo, h.hi, h.len, h.max, fun i hi => by
    obtain ⟨b, hb, h1, h2, h3⟩ := h.rows i hi
    exact ⟨b, hb.keep (fun _ => hk b h1 h2), h1, h2, h3⟩⟩
theorem SGrid.put {N M k b9 : Nat} {w w2 : World} {g cap : Nat} {f : Nat → Value} {ls : List (List Int)} {v : Value} {l : List Int} (h : SGrid N M w g cap f ls) (hk : k < ls.length) (hM : M ≤ w.heap.size) (hb : Below w.heap.size w w2)
    (hr : RowsBl b9 1 w2 v (l.map fun z => [z])) (hb9 : M ≤ b9) : GridAt (w2.setCell ⟨g, k, none⟩ v) (gridV g cap (ls.set k l)) (ls.set k l) := by
  have hgM := h.hi
  have hoth : ∀ b, b ≠ g → (w2.setCell ⟨g, k, none⟩ v).heap[b]? = w2.heap[b]? := fun b hb => Below.heap_setCell w2 ⟨g, k, none⟩ v b (by show b ≠ g; exact hb)
  have hrow : (w2.setCell ⟨g, k, none⟩ v).rowIs g 28 cap (setF f k v) := rowIs_set1 (h.row.of_block (hb.block g (by omega)))
  have hl := h.len
  have hm := h.max
  refine ⟨_, cap, rfl, by rw [List.length_set]; exact h.len, by rw [List.length_set]; omega, Or.inr ⟨g, 0, rfl, fun i hi => ?_⟩⟩
  have hi' : i < ls.length := by simpa using hi
  refine ⟨setF f k v i, by rw [Nat.zero_add]; exact hrow.cell (by omega), ?_⟩
  by_cases e : i = k
  · subst e
    simp only [setF, if_pos, List.getElem_set_self]
    exact (hr.keep (fun _ => hoth b9 (by omega))).1
  · have e2 : (ls.set k l)[i] = ls[i] := by simp [List.getElem_set, Ne.symm e]
    simp only [setF, if_neg e]
    rw [e2]
    obtain ⟨b, h1, h2, h3, h4⟩ := h.rows i hi'
    exact (h1.keep (w' := w2.setCell ⟨g, k, none⟩ v) (fun _ => (hoth b h4).trans (hb.block b (by omega)))).1

/-- It grows. -/
structure SGrow (N : Nat) (w : World) (v : Value) (us : List Value) (ls : List (List Int)) (k : Nat) : Prop where
  own : w.ownsRow N 28 1 v k us
  rows : ∀ i (h : i < us.length) (h2 : i < ls.length), ∃ b, RowsBl b 1 w us[i] (ls[i].map fun z => [z]) ∧ N ≤ b ∧ b < w.heap.size ∧ v.ownBlock ≠ some b

theorem SGrow.count {N : Nat} {w : World} {v : Value} {us : List Value} {ls : List (List Int)} {k : Nat} (h : SGrow N w v us ls k) : us.length = k := by
  have := h.own.1; omega
theorem SGrow.zero (N : Nat) (w : World) (ls : List (List Int)) : SGrow N w (.slice none 0 0) [] ls 0 :=
  ⟨World.ownsRow_nil _ _ _ _, fun i h => absurd h (Nat.not_lt_zero _)⟩
theorem SGrow.keep {N : Nat} {w w' : World} {v : Value} {us : List Value} {ls : List (List Int)} {k : Nat} (h : SGrow N w v us ls k) (hs : w.heap.size ≤ w'.heap.size) (hk : ∀ b, N ≤ b → b < w.heap.size → w'.heap[b]? = w.heap[b]?) : SGrow N w' v us ls k :=
  ⟨ownsKeep h.own (fun g e hl => hk g (h.own.lt g e).1 hl), fun i h1 h2 => by
    obtain ⟨b, h3, h4, h5, h6⟩ := h.rows i h1 h2
    exact ⟨b, h3.keep (fun _ => hk b h4 h5), h4, by omega, h6⟩⟩
theorem SGrow.next {N gg k m cap b9 : Nat} {w A w1 : World} {v x : Value} {us : List Value} {ls : List (List Int)} (h : SGrow N w v us ls k) (hk : k < ls.length) (hbA : Below w.heap.size w A) (hN : N ≤ w.heap.size)
    (hx : RowsBl b9 1 A x (ls[k].map fun z => [z])) (hb9 : w.heap.size ≤ b9 ∧ b9 < A.heap.size) (hown : w1.ownsRow N 28 1 (.slice (some ⟨gg, 0, none⟩) m cap) (k + 1) (us ++ [x])) (hg : A.grownBy w1 v.ownBlock) (hat : v.ownBlock = some gg ∨ gg = A.heap.size) :
    SGrow N w1 (.slice (some ⟨gg, 0, none⟩) m cap) (us ++ [x]) ls (k + 1) := by
  have hc := h.count
  have hs := hbA.size
  have hs1 := hg.size
  have hvb : ∀ b, v.ownBlock = some b → b < w.heap.size := fun b hb => (h.own.lt b hb).2
  have hgb : ∀ b, b < A.heap.size → v.ownBlock ≠ some b → (Value.slice (some ⟨gg, 0, none⟩) m cap).ownBlock ≠ some b := fun b hb hv e => by
    have eg : gg = b := by simpa [Value.ownBlock] using e
    rcases hat with h1 | h1
    · exact hv (by rw [h1, eg])
    · omega
  refine ⟨hown, fun i hi h2 => ?_⟩
  rw [List.length_append] at hi
  simp at hi
  by_cases e : i = k
  · subst e
    have hnew : (us ++ [x])[i]'(by simp; omega) = x := by
      rw [List.getElem_append_right (by omega)]
      simp [hc]
    rw [hnew]
    have hv9 : v.ownBlock ≠ some b9 := fun e => by have := hvb b9 e; omega
    exact ⟨b9, hx.keep (fun _ => hg.block b9 hb9.2 (fun e => hv9 e.symm)), by omega, by omega, hgb b9 hb9.2 hv9⟩
  · have hi' : i < us.length := by omega
    have hold : (us ++ [x])[i]'(by simp; omega) = us[i] := List.getElem_append_left hi'
    rw [hold]
    obtain ⟨b, h3, h4, h5, h6⟩ := h.rows i hi' h2
    exact ⟨b, h3.keep (fun _ => (hg.block b (by omega) (fun e => h6 e.symm)).trans (hbA.block b h5)), h4, by omega, hgb b (by omega) h6⟩
theorem SGrow.grid {N : Nat} {w : World} {v : Value} {us : List Value} {ls : List (List Int)} (h : SGrow N w v us ls ls.length) (h0 : 0 < ls.length) : ∃ g cap f, v = gridV g cap ls ∧ SGrid N w.heap.size w g cap f ls := by
  have hc := h.count
  have hlt := h.own.lt
  obtain ⟨hlen, ⟨rfl, h1⟩ | ⟨g, cap, cur, rfl, hN, hb, hl, hm, hs, ht⟩⟩ := h.own
  · omega
  · have hget : ∀ i (hi : i < us.length), cur.getD i default = us[i] := fun i hi => by
      have h2 : us[i]? = some us[i] := List.getElem?_eq_getElem hi
      have h4 : us[i]? = some (cur.getD i default) := by
        rw [← ht, List.getElem?_take, if_pos (by omega), Array.getElem?_toList, Array.getElem?_eq_getElem (show i < cur.size by omega)]
        simp [Array.getD, show i < cur.size by omega]
      rw [h2] at h4
      exact (Option.some.inj h4).symm
    refine ⟨g, cap, fun i => cur.getD i default, rfl, ⟨⟨cur, hb, by omega, fun i hi => ?_⟩, hN, (hlt g rfl).2, hl, hm, fun i hi => ?_⟩⟩
    · have h9 : i < cur.size := by omega
      rw [Array.getElem?_eq_getElem h9]
      simp [Array.getD, h9]
    · obtain ⟨b, h3, h4, h5, h6⟩ := h.rows i (by omega) hi
      refine ⟨b, ?_, h4, h5, fun e => h6 (by rw [e]; rfl)⟩
      show RowsBl b 1 w (cur.getD i default) _
      rw [hget i (by omega)]
      exact h3

def SlotCopiedS (s : SlotV) (w : World) (e : Ending) (w' : World) : Prop := ∃ g cap f, e = .returned (slotAgg s (gridV g cap s.rows)) ∧ SGrid w.heap.size w'.heap.size w' g cap f s.rows ∧ Below w.heap.size w w'

set_option maxRecDepth 100000 in
set_option maxHeartbeats 4000000 in
theorem l31Copy_any (s : SlotV) (v : Value) (w : World) (h : GridAt w v s.rows) (hf : Fits s.rows) :
    Calls Try.prog 67 #[slotAgg s v] w (SlotCopiedS s w) := by
  obtain ⟨iS, hiS, hz0, hz1, hz2⟩ := infoT_parts info_S1
  obtain ⟨iI, hiI, hzi0, hzi1, hzi2⟩ := infoT_parts info_cpInt
  have H := hide h
  obtain ⟨a1, c1, rfl⟩ := h.sliced
  obtain ⟨b, off, -, had, -⟩ := h.row hf.1
  subst had
  obtain ⟨W3, hW3⟩ : ∃ W3, W3 = (((w.alloc (.cells #[.int .i64 s.num, .int .i64 s.cnt, .slice (some ⟨b, off, none⟩) s.rows.length c1] 25)).alloc (.cells #[.int .i64 0, .int .i64 0, .slice none 0 0] 25)).alloc (.cells #[.int .i64 s.num, .int .i64 s.cnt, .slice none 0 0] 25)) := ⟨_, rfl⟩
  have hs1 : (w.alloc (.cells #[.int .i64 s.num, .int .i64 s.cnt, .slice (some ⟨b, off, none⟩) s.rows.length c1] 25)).heap.size = w.heap.size + 1 := by simp
  have hs2 : ((w.alloc (.cells #[.int .i64 s.num, .int .i64 s.cnt, .slice (some ⟨b, off, none⟩) s.rows.length c1] 25)).alloc (.cells #[.int .i64 0, .int .i64 0, .slice none 0 0] 25)).heap.size = w.heap.size + 2 := by simp
  have hs3 : W3.heap.size = w.heap.size + 3 := by rw [hW3]; simp
  have hb3 : Below w.heap.size w W3 := by rw [hW3]; exact (((Below.refl _ _).alloc (Nat.le_refl _) _).alloc (by simp only [World.size_alloc]; omega) _).alloc (by simp only [World.size_alloc]; omega) _
  have K := hide (show CellsAt W3 w.heap.size 0 (slotCells s (.slice (some ⟨b, off, none⟩) s.rows.length c1)) by
    rw [hW3]
    exact (cellsAt_new w (slotCells s (.slice (some ⟨b, off, none⟩) s.rows.length c1)) 25).on (((Below.refl _ _).alloc (Nat.le_refl _) _).alloc (by simp) _))
  have R1 : Hid (W3.rowIs (w.heap.size + 1) 25 3 (fun i => [Value.int .i64 0, .int .i64 0, .slice none 0 0].getD i undef)) := hide (by
    have e := row_new (w.alloc (.cells #[.int .i64 s.num, .int .i64 s.cnt, .slice (some ⟨b, off, none⟩) s.rows.length c1] 25)) [.int .i64 0, .int .i64 0, .slice none 0 0] 25
    rw [hs1] at e
    rw [hW3]
    exact e.of_block ((((Below.refl _ _).alloc (Nat.le_refl _) _).block (w.heap.size + 1) (by rw [hs2]; omega))))
  have R2 : W3.rowIs (w.heap.size + 2) 25 3 (fun i => [Value.int .i64 s.num, .int .i64 s.cnt, .slice none 0 0].getD i undef) := by
    have e := row_new ((w.alloc (.cells #[.int .i64 s.num, .int .i64 s.cnt, .slice (some ⟨b, off, none⟩) s.rows.length c1] 25)).alloc (.cells #[.int .i64 0, .int .i64 0, .slice none 0 0] 25)) [.int .i64 s.num, .int .i64 s.cnt, .slice none 0 0] 25
    rw [hs2] at e
    rw [hW3]
    exact e
  have HRK : Hid (RowKeep (w.heap.size + 3) w.heap.size (w.heap.size + 2) 25 3 (setF (fun i => [Value.int .i64 s.num, .int .i64 s.cnt, .slice none 0 0].getD i undef) 2 (.slice none 0 0)) w W3 W3) := hide ⟨R2.congr (fun i hi => by
    by_cases e : i = 2
    · subst e; simp [setF]
    · simp [setF, e]), fun _ _ _ => rfl, by omega, hb3⟩
  have HW3 := hide hW3
  have HS3 := hide hs3
  have HF := hide hf
  clear h hs1 hs2 hs3 hb3 R2 hW3 hf
  go_enter Try.func67, Try.ntmps67
  go_wp2_with fail
  rw [← unhide HW3]
  clear HW3
  go_loopw [4] (fun i wy => ∃ (k : Nat) (va : Option Addr) (vc : Nat) (us : List Value), k ≤ s.rows.length ∧ i = .int .i64 k ∧ Hid (RowKeep (w.heap.size + 3) w.heap.size (w.heap.size + 2) 25 3 (setF (fun i => [Value.int .i64 s.num, .int .i64 s.cnt, .slice none 0 0].getD i undef) 2 (.slice va k vc)) w W3 wy) ∧ Hid (SGrow (w.heap.size + 3) wy (.slice va k vc) us s.rows k)) (fun i _ => s.rows.length - (intOf i).toNat)
  case atStart => exact ⟨0, none, 0, [], Nat.zero_le _, rfl, HRK, hide (SGrow.zero _ _ _)⟩
  case round =>
    obtain ⟨k, va, vc, us, hk, rfl, HV, HG⟩ := hrel
    have hv := unhide HV
    have hvs := hv.size
    have hlen := (unhide HF).2.1
    have cq : wr.cell? ⟨w.heap.size, 2, none⟩ = some (.slice (some ⟨b, off, none⟩) s.rows.length c1) := (cell_block (hv.keep w.heap.size (by omega) (by omega))).trans ((unhide K) 2 (by simp))
    have hkI0 : (0 : Int) ≤ (k : Int) := by omega
    by_cases hlt : k < s.rows.length
    · obtain ⟨b', off', vd, had, p0, hp0⟩ := (unhide H).row hlt
      simp only [Option.some.injEq, Addr.mk.injEq, and_true] at had
      obtain ⟨rfl, rfl⟩ := had
      have hbw : b < w.heap.size := heap_lt_of_cell p0
      have HP := hide (hp0.on hv.bel)
      have p1 := cell_on hv.bel p0
      obtain ⟨ea, ec, rfl⟩ := hp0.sliced
      have hlk := (unhide HF).2.2 s.rows[k] (List.getElem_mem hlt)
      have hkI : (k : Int) < (s.rows.length : Int) := by omega
      have c2 : wr.cell? ⟨w.heap.size + 2, 2, none⟩ = some (.slice va k vc) := by
        have e := hv.row.cell (i := 2) (by omega)
        simpa [setF] using e
      have f2 : wr.frozen? ⟨w.heap.size + 2, 2, none⟩ = false := hv.row.frozen 2
      clear hp0 p0 hv
      obtain ⟨z, hz⟩ : ∃ z, z = s.rows[k] := ⟨_, rfl⟩
      rw [← hz] at p1 hlk HP
      have HZ := hide hz
      clear hz
      have HA : Hid (∀ w2, Below wr.heap.size wr w2 → w2.cell? ⟨w.heap.size, 2, none⟩ = some (.slice (some ⟨b, off, none⟩) s.rows.length c1) ∧ w2.cell? ⟨w.heap.size + 2, 2, none⟩ = some (.slice va k vc) ∧ w2.cell? ⟨b, off + k, none⟩ = some (.slice ea z.length ec)) := hide (fun w2 h2 => ⟨cell_on h2 cq, cell_on h2 c2, cell_on h2 p1⟩)
      have HLT := hide (unhide HG).own.lt
      go_upto_region 5 with fail
      refine wp_region_last (L := 12) (S := fun w' : World => w'.cell? ⟨w.heap.size, 2, none⟩ = some (.slice (some ⟨b, off, none⟩) s.rows.length c1) ∧ w'.cell? ⟨w.heap.size + 2, 2, none⟩ = some (.slice va k vc) ∧ w'.cell? ⟨b, off + k, none⟩ = some (.slice ea z.length ec)) (by kernel_rfl) ?_
      have hHeld : (fun w' : World => w'.cell? ⟨w.heap.size, 2, none⟩ = some (.slice (some ⟨b, off, none⟩) s.rows.length c1) ∧ w'.cell? ⟨w.heap.size + 2, 2, none⟩ = some (.slice va k vc) ∧ w'.cell? ⟨b, off + k, none⟩ = some (.slice ea z.length ec)) wr.drew := (unhide HA) _ (Below.refl _ _).drew
      refine wpAnyL_take (i := 0) (v := ?_) (by kernel_rfl) rfl (by kernel_rfl) (by kernel_rfl) (by kernel_rfl) (fun _ _ _ h => h) hHeld (Or.inl ⟨by kernel_rfl, ?_⟩) ?_
      rotate_left
      · (intro w hSw; (try dsimp only at hSw); obtain ⟨s0, s1, s2⟩ := hSw; go_simp; try with_reducible rfl)
      refine wpAnyL_take (i := 1) (v := ?_) (by kernel_rfl) rfl (by kernel_rfl) (by kernel_rfl) (by kernel_rfl) (fun _ _ _ h => h) hHeld (Or.inl ⟨by kernel_rfl, ?_⟩) ?_
      rotate_left
      · (intro w hSw; (try dsimp only at hSw); obtain ⟨s0, s1, s2⟩ := hSw; go_simp; try with_reducible rfl)
      refine wpAnyL_take (i := 3) (v := ?_) (by kernel_rfl) rfl (by kernel_rfl) (by kernel_rfl) (by kernel_rfl) (fun _ _ _ h => h) hHeld (Or.inl ⟨by kernel_rfl, ?_⟩) ?_
      rotate_left
      · (intro w hSw; (try dsimp only at hSw); obtain ⟨s0, s1, s2⟩ := hSw; go_simp; try with_reducible rfl)
      refine wpAnyL_take (i := 4) (v := ?_) (by kernel_rfl) rfl (by kernel_rfl) (by kernel_rfl) (by kernel_rfl) (fun _ _ _ h => h) hHeld (Or.inl ⟨by kernel_rfl, ?_⟩) ?_
      rotate_left
      · (intro w hSw; (try dsimp only at hSw); obtain ⟨s0, s1, s2⟩ := hSw; go_simp; try with_reducible rfl)
      refine wpAnyL_take (i := 5) (v := ?_) (by kernel_rfl) rfl (by kernel_rfl) (by kernel_rfl) (by kernel_rfl) (fun _ _ _ h => h) hHeld (Or.inl ⟨by kernel_rfl, ?_⟩) ?_
      rotate_left
      · (intro w hSw; (try dsimp only at hSw); obtain ⟨s0, s1, s2⟩ := hSw; go_simp; try with_reducible rfl)
      refine wpAnyL_take (i := 6) (v := ?_) (by kernel_rfl) rfl (by kernel_rfl) (by kernel_rfl) (by kernel_rfl) (fun _ _ _ h => h) hHeld (Or.inl ⟨by kernel_rfl, ?_⟩) ?_
      rotate_left
      · (intro w hSw; (try dsimp only at hSw); obtain ⟨s0, s1, s2⟩ := hSw; go_simp; try with_reducible rfl)
      refine wpAnyL_take (i := 7) (v := ?_) (by kernel_rfl) rfl (by kernel_rfl) (by kernel_rfl) (by kernel_rfl) (fun _ _ _ h => h) hHeld (Or.inl ⟨by kernel_rfl, ?_⟩) ?_
      rotate_left
      · (intro w hSw; (try dsimp only at hSw); obtain ⟨s0, s1, s2⟩ := hSw; go_simp; try with_reducible rfl)
      refine wpAnyL_one (i := 2) (by kernel_rfl) rfl (fun K hK => ?_)
      go_simp
      have hb4 : Below wr.heap.size wr (wr.alloc (.cells #[] 3)).drew := ((Below.refl _ _).alloc (Nat.le_refl _) _).drew
      refine held_on hK ?_ (fun hHeld => ?_)
      · exact (unhide HA) _ hb4
      clear hK K
      refine wpAnyL_one (i := 8) (by kernel_rfl) rfl (fun K hK => ?_)
      refine step_append_empty _ (by rfl) (.tmp 19) (.tmp 24) 28 (by rfl) 3 iI _ 1 8 slice_Int hiI hzi0 hzi1 hzi2 (by omega) (some ⟨wr.drew.heap.size, 0, none⟩) (by rfl) (z.map fun x => [x]) (.slice ea z.length ec) (by rfl) ((unhide HP).on hb4) (rowlenInt z) (by rw [List.length_map]; omega) ?_
      intro v2 w5 hv2 hb5 hne
      have hs4 : (wr.alloc (.cells #[] 3)).drew.heap.size = wr.heap.size + 1 := by simp
      have hb45 := below_then hb4 hb5
      have hs5 := hb5.size
      refine held_on hK ?_ (fun hHeld => ?_)
      · exact (unhide HA) _ hb45
      clear hK K
      obtain ⟨xa, xc, hxv⟩ : ∃ xa xc, v2 = .slice xa z.length xc := by
        obtain ⟨⟨xa, xc, e, _⟩, _⟩ := hv2
        rw [List.length_map] at e
        exact ⟨xa, xc, e⟩
      subst hxv
      refine wpAnyL_one (i := 9) (by kernel_rfl) rfl (fun K hK => ?_)
      go_simp
      have hb6 : Below wr.heap.size wr (w5.alloc (.cells #[.slice xa z.length xc] 28)) := below_then hb45 ((Below.refl _ _).alloc (Nat.le_refl _) _)
      have HX : Hid (RowsBl (wr.heap.size + 1) 1 (w5.alloc (.cells #[.slice xa z.length xc] 28)) (.slice xa z.length xc) (z.map fun x => [x])) := hide (by
        have e := hv2.on ((Below.refl _ _).alloc (Nat.le_refl _) (.cells #[.slice xa z.length xc] 28))
        rw [hs4] at e
        exact e)
      refine held_on hK ?_ (fun hHeld => ?_)
      · exact (unhide HA) _ hb6
      clear hK K
      have hownA := ownsOn hb6 (unhide HG).own
      refine wpAnyL_one (i := 10) (by kernel_rfl) rfl (fun K hK => ?_)
      refine step_append_lies _ (by rfl) _ _ _ (by rfl) (w.heap.size + 3) 28 iS _ 1 24 slice_SS hiS hz0 hz1 hz2 (by rfl) (by omega) (.slice va k vc) k us (by rfl) hownA ⟨w5.heap.size, 0, none⟩ 1 1 [.slice xa z.length xc] (by rfl) (by rfl) (World.news_of_block (cs := #[.slice xa z.length xc]) (t := 28) (fr := (0, 0)) (heap_alloc_new w5 _)) (by simp [Value.oneCell']) (by omega) (by unfold maxLen; omega) (by omega) (by simp; omega) (w5.heap.size + 1) (by simp) ?_
      intro gg cap2 w7 hown7 hgrow7 hat7 hlt7
      have hg7 := (unhide HG).next hlt hb6 (by omega) (by have e := unhide HX; rw [unhide HZ] at e ⊢; exact e) ⟨by omega, by simp; omega⟩ hown7 hgrow7 (by rw [World.size_alloc]; exact hat7)
      have hv7 := (unhide HV).grown (by omega) (by omega) hb6 hgrow7 (fun g e => (unhide HLT g e).1)
      have kq := hgrow7.cell (cell_on hb6 cq) (fun e => by have := (unhide HLT w.heap.size e.symm).1; omega)
      have k2 := hgrow7.cell (cell_on hb6 c2) (fun e => by have := (unhide HLT (w.heap.size + 2) e.symm).1; omega)
      have k1 := hgrow7.cell (cell_on hb6 p1) (fun e => by have := (unhide HLT b e.symm).1; omega)
      have hv8 := hv7.set (j := 2) (u := .slice (some ⟨gg, 0, none⟩) (k + 1) cap2) (by omega)
      rw [setF_same] at hv8
      have HV8 := hide hv8
      have hg8 := hg7.keep (w' := w7.setCell ⟨w.heap.size + 2, 2, none⟩ (.slice (some ⟨gg, 0, none⟩) (k + 1) cap2)) (by simp) (fun b hb _ => Below.heap_setCell w7 ⟨w.heap.size + 2, 2, none⟩ _ b (by show b ≠ w.heap.size + 2; omega))
      have HG8 := hide hg8
      have kf : w7.frozen? ⟨w.heap.size + 2, 2, none⟩ = false := hv7.row.frozen 2
      clear hg7 hv7 hv8 hg8 hown7 hgrow7 hat7 hlt7 hownA
      refine held_on hK ?_ (fun hHeld => ?_)
      · exact ⟨kq, k2, k1⟩
      clear hK K
      refine wpAnyL_one (i := 11) (by kernel_rfl) rfl (fun K hK => ?_)
      go_simp
      refine held_on hK ?_ (fun hHeld => ?_)
      · exact hHeld
      clear hK K
      refine wpAnyL_end (by kernel_rfl) rfl (fun K hK => ?_)
      go_simp
      refine hK.out _ _ ?_
      clear hK K
      refine wpAnyL_done (by kernel_rfl) ?_ _
      go_wp2_with fail
      go_roundw
      case rel => exact ⟨k + 1, _, _, _, by omega, by go_num, HV8, HG8⟩
      case measure => (simp [intOf]; try omega)
    · have hke : k = s.rows.length := by omega
      subst hke
      obtain ⟨g, cp, f, hgv, hgr⟩ := (unhide HG).grid (unhide HF).1
      have m0 : wr.cell? ⟨w.heap.size + 2, 0, none⟩ = some (.int .i64 s.num) := by
        have e := hv.row.cell (i := 0) (by omega)
        simpa [setF] using e
      have m1 : wr.cell? ⟨w.heap.size + 2, 1, none⟩ = some (.int .i64 s.cnt) := by
        have e := hv.row.cell (i := 1) (by omega)
        simpa [setF] using e
      have m2 : wr.cell? ⟨w.heap.size + 2, 2, none⟩ = some (gridV g cp s.rows) := by
        have e := hv.row.cell (i := 2) (by omega)
        rw [← hgv]
        simpa [setF] using e
      have hrr := (unhide R1).of_block (hv.keep (w.heap.size + 1) (by omega) (by omega))
      have e0 : wr.cell? ⟨w.heap.size + 1, 0, none⟩ = some (.int .i64 0) := hrr.cell (i := 0) (by omega)
      have e1 : wr.cell? ⟨w.heap.size + 1, 1, none⟩ = some (.int .i64 0) := hrr.cell (i := 1) (by omega)
      have e2 : wr.cell? ⟨w.heap.size + 1, 2, none⟩ = some (.slice none 0 0) := hrr.cell (i := 2) (by omega)
      have z0 := hrr.frozen 0
      have z1 := hrr.frozen 1
      have z2 := hrr.frozen 2
      have hrow := setVals_row (slotCells s (gridV g cp s.rows)) 0 wr _ hrr
      have y0 := hrow.cell (i := 0) (by simp)
      have y1 := hrow.cell (i := 1) (by simp)
      have y2 := hrow.cell (i := 2) (by simp)
      simp at y0 y1 y2
      have hfin : SlotCopiedS s w (.returned (slotAgg s (gridV g cp s.rows))) (setVals wr (w.heap.size + 1) 0 (slotCells s (gridV g cp s.rows))) := by
        refine ⟨g, cp, f, rfl, ?_, setVals_below _ 0 wr hv.bel (by omega)⟩
        rw [setVals_size]
        have e : SGrid (w.heap.size + 3) wr.heap.size (setVals wr (w.heap.size + 1) 0 (slotCells s (gridV g cp s.rows))) g cp f s.rows := hgr.keep (fun b hb _ => setVals_other _ _ _ b (by omega))
        exact ⟨e.row, by have := e.lo; omega, e.hi, e.len, e.max, fun i hi => by
          obtain ⟨b9, k1, k2, k3, k4⟩ := e.rows i hi
          exact ⟨b9, k1, by omega, k3, k4⟩⟩
      have HFIN := hide hfin
      have Y0 := hide y0
      have Y1 := hide y1
      have Y2 := hide y2
      clear y0 y1 y2 hrow hfin hgr hv hgv hrr
      go_wp2_with fail
      show bodyPost _ _ _ _ _ (setVals wr (w.heap.size + 1) 0 (slotCells s (gridV g cp s.rows)))
      clear m0 m1 m2 e0 e1 e2 z0 z1 z2
      generalize setVals wr (w.heap.size + 1) 0 (slotCells s (gridV g cp s.rows)) = W9 at *
      have y0 := unhide Y0
      have y1 := unhide Y1
      have y2 := unhide Y2
      exact bodyPost_ret (v := slotAgg s (gridV g cp s.rows)) (by simp [results, Try.results67, go_sem, y0, y1, y2]) rfl (unhide HFIN)
end Go.Proofs.Ytocgfngcgekciaa
