/- Append of a whole list of rows; impl.copyList. -/
import Derived.Test.YtiljjhipiinafaaGreatOwn1
import Derived.Test.YtiljjhipiinafaaGreatBox
import Derived.Test.YtiljjhipiinafaaGreatHeapC
import Derived.Laws.OwnMore
import Derived.Deep.AppendLies
import Derived.Tactics
namespace Go.Proofs.YtiljjhipiinafaaGreat
open Go.RowKit
set_option linter.unusedVariables false
set_option linter.unusedSimpArgs false

section
variable {P : Program}
theorem run_append_none_any {w : World} (base : Nat) (t ty e : TypeId) (i : TypeInfo) (size : Nat) (ht : P.underlying t = some (.slice e)) (hi : P.info? e = some i)
    (v : Value) (n : Nat) (xs : List Value) (hown : w.ownsRow base e size v n xs) (c : Nat) :
    (Builtin.append_ #[t, t] ty #[v, .slice none 0 c]).run P w = .ok v w := by
  rcases hown.2 with ⟨rfl, rfl⟩ | ⟨g, cap, cur, rfl, _, _, hnc, _⟩
  · simp [Builtin.append_, run_underlying ht, sizeOf, typeInfo, hi, Builtin.lenOf, Builtin.firstCells]
  · simp [Builtin.append_, run_underlying ht, sizeOf, typeInfo, hi, Builtin.lenOf, Builtin.firstCells, hnc, storeCells]

theorem flatCells_len2 {n : Nat} : ∀ (rs : List (List Int)), (∀ r ∈ rs, r.length = n) → (flatCells rs).length = rs.length * n
  | [], _ => by simp [flatCells]
  | r :: t, h => by
    have h1 := flatCells_len2 t (fun x hx => h x (List.mem_cons_of_mem _ hx))
    have h2 := h r (List.mem_cons_self ..)
    unfold flatCells at h1 ⊢
    rw [List.flatMap_cons, List.length_append, h1, List.length_map, h2, List.length_cons, Nat.add_mul]
    omega

theorem flat_one2 (rs : List (List Int)) : ∀ u ∈ flatCells rs, u.oneCell' = true := by
  intro u hu
  obtain ⟨r, _, h⟩ := List.mem_flatMap.1 hu
  obtain ⟨x, _, rfl⟩ := List.mem_map.1 h
  rfl

theorem wp_append_rows (w : World) {o : Oper} {a : Act} {K : Act → World → Prop} {Q : Exit → Act → World → Prop} (s x : Operand) (t : TypeId)
    (ho : o.op = .call { callee := .builtin .append, args := #[s, x], argTypes := #[t, t] })
    (base : Nat) (e : TypeId) (i : TypeInfo) (z : Value) (size bytes : Nat) (ht : P.underlying t = some (.slice e)) (hi : P.info? e = some i) (hz : i.zero = some z)
    (hsize : i.size = size) (hby : i.bytes = bytes) (hzs : z.cells.size = size) (hsz : 0 < size)
    (v : Value) (n : Nat) (xs : List Value) (hs : a.eval s = v) (hown : w.ownsRow base e size v n xs)
    (rs : List (List Int)) (vx : Value) (hx : a.eval x = vx) (hr : RowsAt size w vx rs) (hrl : ∀ r ∈ rs, r.length = size)
    (h63 : n + rs.length ≤ maxLen) (hbytes : (n + rs.length) * bytes ≤ 140737488355328) (hbase : base ≤ w.heap.size)
    (h : ∀ v' w', w'.ownsRow base e size v' (n + rs.length) (xs ++ flatCells rs) → w.grownBy w' v.ownBlock → K (a.put o.dst v') w') : o.wp P a w K Q := by
  obtain ⟨ad, cap, rfl, hl, hm, hc⟩ := hr
  cases ad with
  | none =>
    have h0 : rs = [] := by
      rcases hc with h | ⟨b, off, h, _⟩
      · exact h
      · cases h
    subst h0
    have hrun := run_append_none_any (P := P) (w := w) base t o.type e i size ht hi v n xs hown cap
    have hfin := h v w (by simpa [flatCells] using hown) ⟨rfl, rfl, rfl, Nat.le_refl _, fun _ _ _ => rfl⟩
    unfold Oper.wp execOp
    simp only [ho, resolve, invoke, builtin, Sem.run_bind, Sem.run_pure, Result.andThen_ok, List.map_toArray, List.map_cons, List.map_nil, hs, hx, List.length_nil, hrun]
    exact hfin
  | some a0 =>
    refine wp_append_own w s x t ho base e i z size bytes ht hi hz hsize hby hzs hsz v n xs hs hown a0 rs.length cap (flatCells rs) hx (flatCells_len2 rs hrl) (fun j u hu => ?_) (flat_one2 rs) h63 hbytes hbase (fun v' w' h1 h2 _ => h v' w' h1 h2)
    have hj : j < rs.length * size := by
      rw [← flatCells_len2 rs hrl]
      rcases Nat.lt_or_ge j (flatCells rs).length with h | h
      · exact h
      · rw [List.getElem?_eq_none h] at hu; cases hu
    rcases hc with h0 | ⟨b, off, had, hcc⟩
    · rw [h0] at hj; simp at hj
    · simp only [Option.some.injEq] at had
      subst had
      have hd : j / size < rs.length := Nat.div_lt_of_lt_mul (by rw [Nat.mul_comm]; exact hj)
      have hmod : j % size < size := Nat.mod_lt _ hsz
      have e1 : j / size * size + j % size = j := by rw [Nat.mul_comm]; exact Nat.div_add_mod j size
      have h2 := flatCells_at rs hrl (j / size) hd (j % size) hmod
      rw [e1, hu] at h2
      have h3 := hcc (j / size) hd (j % size) hmod
      rw [Nat.add_assoc, e1] at h3
      have hadd : (⟨b, off, none⟩ : Addr).add j = ⟨b, off + j, none⟩ := by unfold Addr.add; split <;> simp_all
      rw [hadd, h3, ← h2]

theorem wpList_append_rows (w : World) {ops : Array Oper} {rest : List Oper} {o : Oper} {a : Act} {Q : Exit → Act → World → Prop} (hgd : o.guard = none) (s x : Operand) (t : TypeId)
    (ho : o.op = .call { callee := .builtin .append, args := #[s, x], argTypes := #[t, t] })
    (base : Nat) (e : TypeId) (i : TypeInfo) (z : Value) (size bytes : Nat) (ht : P.underlying t = some (.slice e)) (hi : P.info? e = some i) (hz : i.zero = some z)
    (hsize : i.size = size) (hby : i.bytes = bytes) (hzs : z.cells.size = size) (hsz : 0 < size)
    (v : Value) (n : Nat) (xs : List Value) (hs : a.eval s = v) (hown : w.ownsRow base e size v n xs)
    (rs : List (List Int)) (vx : Value) (hx : a.eval x = vx) (hr : RowsAt size w vx rs) (hrl : ∀ r ∈ rs, r.length = size)
    (h63 : n + rs.length ≤ maxLen) (hbytes : (n + rs.length) * bytes ≤ 140737488355328) (hbase : base ≤ w.heap.size)
    (h : ∀ v' w', w'.ownsRow base e size v' (n + rs.length) (xs ++ flatCells rs) → w.grownBy w' v.ownBlock → wpList P ops Q rest (a.put o.dst v') w') : wpList P ops Q (o :: rest) a w :=
  wpList_plain hgd fun _ hK => wp_append_rows w s x t ho base e i z size bytes ht hi hz hsize hby hzs hsz v n xs hs hown rs vx hx hr hrl h63 hbytes hbase fun v' w' h1 h2 => hK _ _ (h v' w' h1 h2)

theorem step_append_rows (w : World) {ops : Array Oper} {o : Oper} {a : Act} {K : Act → World → Prop} {Q : Exit → Act → World → Prop} {E : Prop} (hgd : o.guard = none) (s x : Operand) (t : TypeId)
    (ho : o.op = .call { callee := .builtin .append, args := #[s, x], argTypes := #[t, t] })
    (base : Nat) (e : TypeId) (i : TypeInfo) (z : Value) (size bytes : Nat) (ht : P.underlying t = some (.slice e)) (hi : P.info? e = some i) (hz : i.zero = some z)
    (hsize : i.size = size) (hby : i.bytes = bytes) (hzs : z.cells.size = size) (hsz : 0 < size)
    (v : Value) (n : Nat) (xs : List Value) (hs : a.eval s = v) (hown : w.ownsRow base e size v n xs)
    (rs : List (List Int)) (vx : Value) (hx : a.eval x = vx) (hr : RowsAt size w vx rs) (hrl : ∀ r ∈ rs, r.length = size)
    (h63 : n + rs.length ≤ maxLen) (hbytes : (n + rs.length) * bytes ≤ 140737488355328) (hbase : base ≤ w.heap.size)
    (h : ∀ v' w', w'.ownsRow base e size v' (n + rs.length) (xs ++ flatCells rs) → w.grownBy w' v.ownBlock → K (a.put o.dst v') w') :
    if Region.wanted o (yielded ops a.tmps) = true then Oper.wp P o a w K Q else E := by
  have hw : Region.wanted o (yielded ops a.tmps) = true := by simp [Region.wanted, hgd]
  rw [if_pos hw]
  exact wp_append_rows w s x t ho base e i z size bytes ht hi hz hsize hby hzs hsz v n xs hs hown rs vx hx hr hrl h63 hbytes hbase h
end


theorem slice_cpEvent : Tryz.prog.underlying 25 = some (.slice 56) := by kernel_rfl
theorem info_cpEvent : (Tryz.prog.info? 56).map (fun i => (i.zero, i.size, i.bytes)) = some (some (.agg #[.int .i64 0, .int .i64 0, .int .i64 0, .int .i64 0, .int .i64 0, .int .i64 0, .int .i64 0]), 7, 56) := by kernel_rfl
theorem rowlenEvent (l : List EvV) : ∀ r ∈ l.map evRow, r.length = 7 := fun r hr => by
  obtain ⟨x, _, rfl⟩ := List.mem_map.1 hr
  rfl
theorem slice_cpOut : Tryz.prog.underlying 26 = some (.slice 60) := by kernel_rfl
theorem info_cpOut : (Tryz.prog.info? 60).map (fun i => (i.zero, i.size, i.bytes)) = some (some (.agg #[.int .i64 0, .int .i64 0, .int .i64 0, .int .i64 0, .int .i64 0]), 5, 40) := by kernel_rfl
theorem rowlenOut (l : List OutV) : ∀ r ∈ l.map outRow, r.length = 5 := fun r hr => by
  obtain ⟨x, _, rfl⟩ := List.mem_map.1 hr
  rfl
end Go.Proofs.YtiljjhipiinafaaGreat
