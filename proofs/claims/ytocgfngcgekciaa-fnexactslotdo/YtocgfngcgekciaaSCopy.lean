/- Append of rows of numbers; impl.copyList of numbers (taken out of Copy1, CopyI by gen_snum.py). -/
import Derived.Test.YtocgfngcgekciaaSNum
namespace Go.Proofs.Ytocgfngcgekciaa
open Go.RowKit
set_option linter.unusedVariables false
set_option linter.unusedSimpArgs false

section
variable {P : Program}
theorem run_append_none_any {w : World} (base : Nat) (t ty e : TypeId) (i : TypeInfo) (size : Nat) (ht : P.underlying t = some (.slice e)) (hi : P.info? e = some i)
    (v : Value) (n : Nat) (xs : List Value) (hown : w.ownsRow base e size v n xs) (c : Nat) :
    (Builtin.append_ #[t, t] ty #[v, .slice none 0 c]).run P w = .ok v w := by
  rcases hown.2 with ⟨rfl, rfl⟩ | ⟨g, cap, cur, rfl, _, _, hnc, _⟩
  · simp [Builtin.append_, run_underlying ht, sizeOf, typeInfo, hi, Builtin.lenOf, Builtin.firstCells]
  · simp [Builtin.append_, run_underlying ht, sizeOf, typeInfo, hi, Builtin.lenOf, Builtin.firstCells, hnc, storeCells]

theorem flatCells_len2 {n : Nat} : ∀ (rs : List (List Int)), (∀ r ∈ rs, r.length = n) → (flatCells rs).length = rs.length * n
  | [], _ => by simp [flatCells]
  | r :: t, h => by
    have h1 := flatCells_len2 t (fun x hx => h x (List.mem_cons_of_mem _ hx))
    have h2 := h r (List.mem_cons_self ..)
    unfold flatCells at h1 ⊢
    rw [List.flatMap_cons, List.length_append, h1, List.length_map, h2, List.length_cons, Nat.add_mul]
    omega

theorem flat_one2 (rs : List (List Int)) : ∀ u ∈ flatCells rs, u.oneCell' = true := by
  intro u hu
  obtain ⟨r, _, h⟩ := List.mem_flatMap.1 hu
  obtain ⟨x, _, rfl⟩ := List.mem_map.1 h
  rfl

theorem wp_append_rows (w : World) {o : Oper} {a : Act} {K : Act → World → Prop} {Q : Exit → Act → World → Prop} (s x : Operand) (t : TypeId)
    (ho : o.op = .call { callee := .builtin .append, args := #[s, x], argTypes := #[t, t] })
    (base : Nat) (e : TypeId) (i : TypeInfo) (z : Value) (size bytes : Nat) (ht : P.underlying t = some (.slice e)) (hi : P.info? e = some i) (hz : i.zero = some z)
    (hsize : i.size = size) (hby : i.bytes = bytes) (hzs : z.cells.size = size) (hsz : 0 < size)
    (v : Value) (n : Nat) (xs : List Value) (hs : a.eval s = v) (hown : w.ownsRow base e size v n xs)
    (rs : List (List Int)) (vx : Value) (hx : a.eval x = vx) (hr : RowsAt size w vx rs) (hrl : ∀ r ∈ rs, r.length = size)
    (h63 : n + rs.length ≤ maxLen) (hbytes : (n + rs.length) * bytes ≤ 140737488355328) (hbase : base ≤ w.heap.size)
    (h : ∀ v' w', w'.ownsRow base e size v' (n + rs.length) (xs ++ flatCells rs) → w.grownBy w' v.ownBlock → K (a.put o.dst v') w') : o.wp P a w K Q := by
  obtain ⟨ad, cap, rfl, hl, hm, hc⟩ := hr
  cases ad with
  | none =>
    have h0 : rs = [] := by
      rcases hc with h | ⟨b, off, h, _⟩
      · exact h
      · cases h
    subst h0
    have hrun := run_append_none_any (P := P) (w := w) base t o.type e i size ht hi v n xs hown cap
    have hfin := h v w (by simpa [flatCells] using hown) ⟨rfl, rfl, rfl, Nat.le_refl _, fun _ _ _ => rfl⟩
    unfold Oper.wp execOp
    simp only [ho, resolve, invoke, builtin, Sem.run_bind, Sem.run_pure, Result.andThen_ok, List.map_toArray, List.map_cons, List.map_nil, hs, hx, List.length_nil, hrun]
    exact hfin
  | some a0 =>
    refine wp_append_own w s x t ho base e i z size bytes ht hi hz hsize hby hzs hsz v n xs hs hown a0 rs.length cap (flatCells rs) hx (flatCells_len2 rs hrl) (fun j u hu => ?_) (flat_one2 rs) h63 hbytes hbase (fun v' w' h1 h2 _ => h v' w' h1 h2)
    have hj : j < rs.length * size := by
      rw [← flatCells_len2 rs hrl]
      rcases Nat.lt_or_ge j (flatCells rs).length with h | h
      · exact h
      · rw [List.getElem?_eq_none h] at hu; cases hu
    rcases hc with h0 | ⟨b, off, had, hcc⟩
    · rw [h0] at hj; simp at hj
    · simp only [Option.some.injEq] at had
      subst had
      have hd : j / size < rs.length := Nat.div_lt_of_lt_mul (by rw [Nat.mul_comm]; exact hj)
      have hmod : j % size < size := Nat.mod_lt _ hsz
      have e1 : j / size * size + j % size = j := by rw [Nat.mul_comm]; exact Nat.div_add_mod j size
      have h2 := flatCells_at rs hrl (j / size) hd (j % size) hmod
      rw [e1, hu] at h2
      have h3 := hcc (j / size) hd (j % size) hmod
      rw [Nat.add_assoc, e1] at h3
      have hadd : (⟨b, off, none⟩ : Addr).add j = ⟨b, off + j, none⟩ := by unfold Addr.add; split <;> simp_all
      rw [hadd, h3, ← h2]

theorem wpList_append_rows (w : World) {ops : Array Oper} {rest : List Oper} {o : Oper} {a : Act} {Q : Exit → Act → World → Prop} (hgd : o.guard = none) (s x : Operand) (t : TypeId)
    (ho : o.op = .call { callee := .builtin .append, args := #[s, x], argTypes := #[t, t] })
    (base : Nat) (e : TypeId) (i : TypeInfo) (z : Value) (size bytes : Nat) (ht : P.underlying t = some (.slice e)) (hi : P.info? e = some i) (hz : i.zero = some z)
    (hsize : i.size = size) (hby : i.bytes = bytes) (hzs : z.cells.size = size) (hsz : 0 < size)
    (v : Value) (n : Nat) (xs : List Value) (hs : a.eval s = v) (hown : w.ownsRow base e size v n xs)
    (rs : List (List Int)) (vx : Value) (hx : a.eval x = vx) (hr : RowsAt size w vx rs) (hrl : ∀ r ∈ rs, r.length = size)
    (h63 : n + rs.length ≤ maxLen) (hbytes : (n + rs.length) * bytes ≤ 140737488355328) (hbase : base ≤ w.heap.size)
    (h : ∀ v' w', w'.ownsRow base e size v' (n + rs.length) (xs ++ flatCells rs) → w.grownBy w' v.ownBlock → wpList P ops Q rest (a.put o.dst v') w') : wpList P ops Q (o :: rest) a w :=
  wpList_plain hgd fun _ hK => wp_append_rows w s x t ho base e i z size bytes ht hi hz hsize hby hzs hsz v n xs hs hown rs vx hx hr hrl h63 hbytes hbase fun v' w' h1 h2 => hK _ _ (h v' w' h1 h2)

theorem step_append_rows (w : World) {ops : Array Oper} {o : Oper} {a : Act} {K : Act → World → Prop} {Q : Exit → Act → World → Prop} {E : Prop} (hgd : o.guard = none) (s x : Operand) (t : TypeId)
    (ho : o.op = .call { callee := .builtin .append, args := #[s, x], argTypes := #[t, t] })
    (base : Nat) (e : TypeId) (i : TypeInfo) (z : Value) (size bytes : Nat) (ht : P.underlying t = some (.slice e)) (hi : P.info? e = some i) (hz : i.zero = some z)
    (hsize : i.size = size) (hby : i.bytes = bytes) (hzs : z.cells.size = size) (hsz : 0 < size)
    (v : Value) (n : Nat) (xs : List Value) (hs : a.eval s = v) (hown : w.ownsRow base e size v n xs)
    (rs : List (List Int)) (vx : Value) (hx : a.eval x = vx) (hr : RowsAt size w vx rs) (hrl : ∀ r ∈ rs, r.length = size)
    (h63 : n + rs.length ≤ maxLen) (hbytes : (n + rs.length) * bytes ≤ 140737488355328) (hbase : base ≤ w.heap.size)
    (h : ∀ v' w', w'.ownsRow base e size v' (n + rs.length) (xs ++ flatCells rs) → w.grownBy w' v.ownBlock → K (a.put o.dst v') w') :
    if Region.wanted o (yielded ops a.tmps) = true then Oper.wp P o a w K Q else E := by
  have hw : Region.wanted o (yielded ops a.tmps) = true := by simp [Region.wanted, hgd]
  rw [if_pos hw]
  exact wp_append_rows w s x t ho base e i z size bytes ht hi hz hsize hby hzs hsz v n xs hs hown rs vx hx hr hrl h63 hbytes hbase h
end

theorem slice_cpInt : Try.prog.underlying 28 = some (.slice 3) := by kernel_rfl

theorem info_cpInt : (Try.prog.info? 3).map (fun i => (i.zero, i.size, i.bytes)) = some (some (.int .i64 0), 1, 8) := by kernel_rfl

theorem rowlenInt (l : List Int) : ∀ r ∈ l.map (fun z => [z]), r.length = 1 := fun r hr => by
  obtain ⟨x, _, rfl⟩ := List.mem_map.1 hr
  rfl

set_option maxRecDepth 100000 in
set_option maxHeartbeats 1000000 in
theorem copyListInt_any (v : Value) (l : List Int) (w : World) (h : NumsAt w v l) (hlen : l.length ≤ 1048576) :
    Calls Try.prog 75 #[v] w fun e w' => ∃ v', e = .returned v' ∧ RowsFr w.heap.size 3 1 w' v' (l.map fun z => [z]) ∧ Below w.heap.size w w' := by
  obtain ⟨i7, hi7, hz70, hz71, hz72⟩ := infoT_parts info_cpInt
  have H := hide h
  obtain ⟨a1, c1, h1, _⟩ := h
  rw [List.length_map] at h1
  subst h1
  have hbase : w.heap.size ≤ w.heap.size := Nat.le_refl _
  go_enter Try.func75, Try.ntmps75
  go_wp2_with (at_builtin; refine wpList_append_rows w (by rfl) _ _ _ (by rfl) w.heap.size 3 i7 _ 1 8 slice_cpInt hi7 hz70 hz71 hz72 (by rfl) (by omega) (.slice none 0 0) 0 [] (by rfl) (World.ownsRow_nil w _ _ _) (l.map fun z => [z]) _ (by rfl) (unhide H) (rowlenInt l) (by rw [List.length_map]; unfold maxLen; omega) (by rw [List.length_map]; omega) hbase ?_; intro v2 w2 hown hgrow)
  have hb2 : Below w.heap.size w w2 := Below.grown (Below.refl _ _) hgrow (Nat.le_refl _) (fun k hk => by simp [Value.ownBlock] at hk)
  have HB2 := hide hb2
  have HO := hide hown
  clear hb2 hown hgrow
  go_wp2_with fail
  go_ret
  refine ⟨_, rfl, ?_, unhide HB2⟩
  have e := unhide HO
  rw [Nat.zero_add, List.nil_append] at e
  exact RowsFr.of_owns (rowlenInt l) e
end Go.Proofs.Ytocgfngcgekciaa
