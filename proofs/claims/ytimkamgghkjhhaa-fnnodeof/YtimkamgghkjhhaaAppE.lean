/- Append of a list of rows to an empty list without room: all that lay there lies as it did. No Go text is walked here. -/
import Derived.Test.YtimkamgghkjhhaaApp2
import Derived.Deep.AppendSrc
import Derived.Deep.Upon
namespace Go.Proofs.Ytimkamgghkjhhaa
open Go.RowKit
set_option linter.unusedVariables false
set_option linter.unusedSimpArgs false

section
variable {P : Program}

theorem rows_news {size : Nat} {w : World} {ad : Option Addr} {rs : List (List Int)} (hsz : 0 < size) (hrl : ∀ r ∈ rs, r.length = size)
    (hc : rs = [] ∨ ∃ b off, ad = some ⟨b, off, none⟩ ∧ ∀ i (h : i < rs.length) j, j < size → w.cell? ⟨b, off + i * size + j, none⟩ = some (.int .i64 (rs[i].getD j 0))) (a0 : Addr) (ha : ad = some a0) :
    ∀ j u, (flatCells rs)[j]? = some u → w.cell? (a0.add j) = some u := fun j u hu => by
  have hj : j < rs.length * size := by
    rw [← flatCells_len2 rs hrl]
    rcases Nat.lt_or_ge j (flatCells rs).length with h | h
    · exact h
    · rw [List.getElem?_eq_none h] at hu; cases hu
  rcases hc with h0 | ⟨b, off, had, hcc⟩
  · rw [h0] at hj; simp at hj
  · rw [ha] at had
    simp only [Option.some.injEq] at had
    subst had
    have hd : j / size < rs.length := Nat.div_lt_of_lt_mul (by rw [Nat.mul_comm]; exact hj)
    have hmod : j % size < size := Nat.mod_lt _ hsz
    have e1 : j / size * size + j % size = j := by rw [Nat.mul_comm]; exact Nat.div_add_mod j size
    have h2 := flatCells_at rs hrl (j / size) hd (j % size) hmod
    rw [e1, hu] at h2
    have h3 := hcc (j / size) hd (j % size) hmod
    rw [Nat.add_assoc, e1] at h3
    have hadd : (⟨b, off, none⟩ : Addr).add j = ⟨b, off + j, none⟩ := by unfold Addr.add; split <;> simp_all
    rw [hadd, h3, ← h2]

/-- A list of rows, in block g if there is any. -/
def RowsBl (g n : Nat) (w : World) (v : Value) (rs : List (List Int)) : Prop := RowsAt n w v rs ∧ (rs = [] ∨ v.ownBlock = some g)
theorem RowsBl.keep {g n : Nat} {w w' : World} {v : Value} {rs : List (List Int)} (h : RowsBl g n w v rs) (hk : rs ≠ [] → w'.heap[g]? = w.heap[g]?) : RowsBl g n w' v rs := by
  obtain ⟨⟨ad, cap, hv, hl, hm, hc⟩, hg⟩ := h
  refine ⟨⟨ad, cap, hv, hl, hm, ?_⟩, hg⟩
  rcases hc with hc | ⟨b, off, had, hcc⟩
  · exact Or.inl hc
  · by_cases h0 : rs = []
    · exact Or.inl h0
    · rcases hg with hg | hg
      · exact absurd hg h0
      · refine Or.inr ⟨b, off, had, fun i hi j hj => ?_⟩
        have hb : b = g := by
          rw [hv, had] at hg
          simpa [Value.ownBlock] using hg
        subst hb
        exact (World.cell?_of_block (a := ⟨b, off + i * n + j, none⟩) (hk h0)).trans (hcc i hi j hj)
theorem RowsBl.on {g n : Nat} {w w' : World} {v : Value} {rs : List (List Int)} (h : RowsBl g n w v rs) (hb : Below w.heap.size w w') : RowsBl g n w' v rs := ⟨h.1.on hb, h.2⟩

theorem RowsBl.lt {g n : Nat} {w : World} {v : Value} {rs : List (List Int)} (h : RowsBl g n w v rs) (hn : 0 < n) (h0 : rs ≠ []) : g < w.heap.size := by
  obtain ⟨⟨ad, cap, hv, hl, hm, hc⟩, hg⟩ := h
  rcases hc with hc | ⟨b, off, had, hcc⟩
  · exact absurd hc h0
  · rcases hg with hg | hg
    · exact absurd hg h0
    · have hb : b = g := by
        rw [hv, had] at hg
        simpa [Value.ownBlock] using hg
      subst hb
      exact World.block_lt_of_cell? _ _ (hcc 0 (List.length_pos_iff.2 h0) 0 hn)

theorem run_append_empty (w : World) (t ty e : TypeId) (i : TypeInfo) (z : Value) (size bytes : Nat) (ht : P.underlying t = some (.slice e)) (hi : P.info? e = some i) (hz : i.zero = some z)
    (hsize : i.size = size) (hby : i.bytes = bytes) (hsz : 0 < size) (b : Option Addr) (rs : List (List Int)) (vx : Value) (hr : RowsAt size w vx rs) (hrl : ∀ r ∈ rs, r.length = size)
    (hbytes : rs.length * bytes ≤ 140737488355328) :
    ∃ v' w', (Builtin.append_ #[t, t] ty #[.slice b 0 0, vx]).run P w = .ok v' w' ∧ RowsBl w.heap.size size w' v' rs ∧ Below w.heap.size w w' ∧ (rs = [] ∨ w.heap.size < w'.heap.size) := by
  subst hsize hby
  obtain ⟨ad, cap, rfl, hl, hm, hc⟩ := hr
  have hsrc : Src P i.size t (.slice ad rs.length cap) rs.length (flatCells rs) w := by
    cases ad with
    | none =>
      have h0 : rs = [] := by
        rcases hc with h | ⟨b, off, h, _⟩
        · exact h
        · cases h
      subst h0
      exact Src.ofNil w ht cap
    | some a0 => exact Src.ofSlice w ht a0 rs.length cap (flatCells rs) (flatCells_len2 rs hrl) (rows_news hsz hrl hc a0 rfl) (flat_one2 rs)
  cases rs with
  | nil => exact ⟨_, _, run_append_nothing w t t ty e i ht hi b 0 0 (Nat.le_refl _) _ (by simpa [flatCells] using hsrc), ⟨⟨b, 0, rfl, Nat.le_refl _, Nat.zero_le _, Or.inl rfl⟩, Or.inl rfl⟩, Below.refl _ _, Or.inl rfl⟩
  | cons r0 rest =>
    have hpos : 0 < (r0 :: rest).length := by simp
    have hold : ∀ w : World, (Builtin.firstCells i.size 0 (.slice b 0 0)).run P w = .ok (#[] : Array Value) w := fun w => by
      cases b with
      | none => exact run_firstCells_none w i.size 0 0 0
      | some a => exact run_firstCells_some w i.size 0 a 0 0 [] (by simp) (fun j v h => by simp at h)
    have hm2 : (r0 :: rest).length ≤ 9223372036854775807 := by unfold maxLen at hm; omega
    have hrun := run_append_grow_src w t t ty e i z ht hi hz b 0 0 [] (hold w.drew) _ _ _ hsrc (by omega) (by rw [Nat.zero_add]; exact Int.ofNat_le.2 hm2) (by rw [Nat.zero_add, nextslicecap_zero hpos]; omega)
    refine ⟨_, _, hrun, ⟨?_, Or.inr rfl⟩, ((Below.refl _ _).drew).alloc (Nat.le_refl w.heap.size) _, Or.inr (by simp)⟩
    rw [Nat.zero_add, List.nil_append]
    generalize hL : (r0 :: rest) = L at *
    refine ⟨some ⟨w.heap.size, 0, none⟩, _, rfl, grownCap_ge w _ _ _, hm, Or.inr ⟨w.heap.size, 0, rfl, fun k hk j hj => ?_⟩⟩
    generalize Builtin.zeroCells z.cells _ = zc
    have hrow := World.rowIs_alloc w.drew ((flatCells L).toArray ++ zc) e (fun i => ((flatCells L).toArray ++ zc).getD i undef) (fun i hi => by rw [Array.getElem?_eq_getElem hi, Array.getD_eq_getD_getElem?, Array.getElem?_eq_getElem hi]; rfl)
    have h1 := flatCells_at L hrl k hk j hj
    have hlt : k * i.size + j < (flatCells L).length := by rw [flatCells_len2 L hrl]; exact mul_place hk hj
    have h2 := hrow.cell (i := k * i.size + j) (by simp; omega)
    rw [Nat.zero_add]
    refine h2.trans ?_
    rw [← h1]
    rw [Array.getD_eq_getD_getElem?, Array.getElem?_append_left (by simpa using hlt), List.getElem?_toArray, List.getElem?_eq_getElem hlt]
    rfl

theorem step_append_empty (w : World) {ops : Array Oper} {o : Oper} {a : Act} {K : Act → World → Prop} {Q : Exit → Act → World → Prop} {E : Prop} (hgd : o.guard = none) (s x : Operand) (t : TypeId)
    (ho : o.op = .call { callee := .builtin .append, args := #[s, x], argTypes := #[t, t] })
    (e : TypeId) (i : TypeInfo) (z : Value) (size bytes : Nat) (ht : P.underlying t = some (.slice e)) (hi : P.info? e = some i) (hz : i.zero = some z)
    (hsize : i.size = size) (hby : i.bytes = bytes) (hsz : 0 < size) (b : Option Addr) (hs : a.eval s = .slice b 0 0)
    (rs : List (List Int)) (vx : Value) (hx : a.eval x = vx) (hr : RowsAt size w vx rs) (hrl : ∀ r ∈ rs, r.length = size) (hbytes : rs.length * bytes ≤ 140737488355328)
    (h : ∀ v' w', RowsBl w.heap.size size w' v' rs → Below w.heap.size w w' → (rs = [] ∨ w.heap.size < w'.heap.size) → K (a.put o.dst v') w') :
    if Region.wanted o (yielded ops a.tmps) = true then Oper.wp P o a w K Q else E := by
  have hw : Region.wanted o (yielded ops a.tmps) = true := by simp [Region.wanted, hgd]
  rw [if_pos hw]
  obtain ⟨v', w', hrun, h1, h2, h3⟩ := run_append_empty w t o.type e i z size bytes ht hi hz hsize hby hsz b rs vx hr hrl hbytes
  have hfin := h v' w' h1 h2 h3
  unfold Oper.wp execOp
  simp only [ho, resolve, invoke, builtin, Sem.run_bind, Sem.run_pure, Result.andThen_ok, List.map_toArray, List.map_cons, List.map_nil, hs, hx, hrun]
  exact hfin
end
end Go.Proofs.Ytimkamgghkjhhaa
