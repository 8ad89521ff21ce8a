/- Several texts in one. -/
import Derived.Test.YthekkgndckkoaaaBndW
import Derived.Test.YthekkgndckkoaaaBox
import Derived.Test.YthekkgndckkoaaaHeapC
import Derived.Laws.OwnMore
import Derived.Deep.AppendLies
import Derived.Tactics
import Derived.Test.YthekkgndckkoaaaHeld
import Derived.Test.YthekkgndckkoaaaBndW
import Derived.Deep.Cut
import Derived.Test.YthekkgndckkoaaaBndW
import Derived.Test.YthekkgndckkoaaaLink1
/- Append of a whole list of rows; impl.copyList. -/
namespace Go.Proofs.Ythekkgndckkoaaa
open Go.RowKit
set_option linter.unusedVariables false
set_option linter.unusedSimpArgs false

section
variable {P : Program}
theorem run_append_none_any {w : World} (base : Nat) (t ty e : TypeId) (i : TypeInfo) (size : Nat) (ht : P.underlying t = some (.slice e)) (hi : P.info? e = some i)
    (v : Value) (n : Nat) (xs : List Value) (hown : w.ownsRow base e size v n xs) (c : Nat) :
    (Builtin.append_ #[t, t] ty #[v, .slice none 0 c]).run P w = .ok v w := by
  rcases hown.2 with ⟨rfl, rfl⟩ | ⟨g, cap, cur, rfl, _, _, hnc, _⟩
  · simp [Builtin.append_, run_underlying ht, sizeOf, typeInfo, hi, Builtin.lenOf, Builtin.firstCells]
  · simp [Builtin.append_, run_underlying ht, sizeOf, typeInfo, hi, Builtin.lenOf, Builtin.firstCells, hnc, storeCells]

theorem flatCells_len2 {n : Nat} : ∀ (rs : List (List Int)), (∀ r ∈ rs, r.length = n) → (flatCells rs).length = rs.length * n
  | [], _ => by simp [flatCells]
  | r :: t, h => by
    have h1 := flatCells_len2 t (fun x hx => h x (List.mem_cons_of_mem _ hx))
    have h2 := h r (List.mem_cons_self ..)
    unfold flatCells at h1 ⊢
    rw [List.flatMap_cons, List.length_append, h1, List.length_map, h2, List.length_cons, Nat.add_mul]
    omega

theorem flat_one2 (rs : List (List Int)) : ∀ u ∈ flatCells rs, u.oneCell' = true := by
  intro u hu
  obtain ⟨r, _, h⟩ := List.mem_flatMap.1 hu
  obtain ⟨x, _, rfl⟩ := List.mem_map.1 h
  rfl

theorem wp_append_rows (w : World) {o : Oper} {a : Act} {K : Act → World → Prop} {Q : Exit → Act → World → Prop} (s x : Operand) (t : TypeId)
    (ho : o.op = .call { callee := .builtin .append, args := #[s, x], argTypes := #[t, t] })
    (base : Nat) (e : TypeId) (i : TypeInfo) (z : Value) (size bytes : Nat) (ht : P.underlying t = some (.slice e)) (hi : P.info? e = some i) (hz : i.zero = some z)
    (hsize : i.size = size) (hby : i.bytes = bytes) (hzs : z.cells.size = size) (hsz : 0 < size)
    (v : Value) (n : Nat) (xs : List Value) (hs : a.eval s = v) (hown : w.ownsRow base e size v n xs)
    (rs : List (List Int)) (vx : Value) (hx : a.eval x = vx) (hr : RowsAt size w vx rs) (hrl : ∀ r ∈ rs, r.length = size)
    (h63 : n + rs.length ≤ maxLen) (hbytes : (n + rs.length) * bytes ≤ 140737488355328) (hbase : base ≤ w.heap.size)
    (h : ∀ v' w', w'.ownsRow base e size v' (n + rs.length) (xs ++ flatCells rs) → w.grownBy w' v.ownBlock → K (a.put o.dst v') w') : o.wp P a w K Q := by
  obtain ⟨ad, cap, rfl, hl, hm, hc⟩ := hr
  cases ad with
  | none =>
    have h0 : rs = [] := by
      rcases hc with h | ⟨b, off, h, _⟩
      · exact h
      · cases h
    subst h0
    have hrun := run_append_none_any (P := P) (w := w) base t o.type e i size ht hi v n xs hown cap
    have hfin := h v w (by simpa [flatCells] using hown) ⟨rfl, rfl, rfl, Nat.le_refl _, fun _ _ _ => rfl⟩
    unfold Oper.wp execOp
    simp only [ho, resolve, invoke, builtin, Sem.run_bind, Sem.run_pure, Result.andThen_ok, List.map_toArray, List.map_cons, List.map_nil, hs, hx, List.length_nil, hrun]
    exact hfin
  | some a0 =>
    refine wp_append_own w s x t ho base e i z size bytes ht hi hz hsize hby hzs hsz v n xs hs hown a0 rs.length cap (flatCells rs) hx (flatCells_len2 rs hrl) (fun j u hu => ?_) (flat_one2 rs) h63 hbytes hbase (fun v' w' h1 h2 _ => h v' w' h1 h2)
    have hj : j < rs.length * size := by
      rw [← flatCells_len2 rs hrl]
      rcases Nat.lt_or_ge j (flatCells rs).length with h | h
      · exact h
      · rw [List.getElem?_eq_none h] at hu; cases hu
    rcases hc with h0 | ⟨b, off, had, hcc⟩
    · rw [h0] at hj; simp at hj
    · simp only [Option.some.injEq] at had
      subst had
      have hd : j / size < rs.length := Nat.div_lt_of_lt_mul (by rw [Nat.mul_comm]; exact hj)
      have hmod : j % size < size := Nat.mod_lt _ hsz
      have e1 : j / size * size + j % size = j := by rw [Nat.mul_comm]; exact Nat.div_add_mod j size
      have h2 := flatCells_at rs hrl (j / size) hd (j % size) hmod
      rw [e1, hu] at h2
      have h3 := hcc (j / size) hd (j % size) hmod
      rw [Nat.add_assoc, e1] at h3
      have hadd : (⟨b, off, none⟩ : Addr).add j = ⟨b, off + j, none⟩ := by unfold Addr.add; split <;> simp_all
      rw [hadd, h3, ← h2]

theorem wpList_append_rows (w : World) {ops : Array Oper} {rest : List Oper} {o : Oper} {a : Act} {Q : Exit → Act → World → Prop} (hgd : o.guard = none) (s x : Operand) (t : TypeId)
    (ho : o.op = .call { callee := .builtin .append, args := #[s, x], argTypes := #[t, t] })
    (base : Nat) (e : TypeId) (i : TypeInfo) (z : Value) (size bytes : Nat) (ht : P.underlying t = some (.slice e)) (hi : P.info? e = some i) (hz : i.zero = some z)
    (hsize : i.size = size) (hby : i.bytes = bytes) (hzs : z.cells.size = size) (hsz : 0 < size)
    (v : Value) (n : Nat) (xs : List Value) (hs : a.eval s = v) (hown : w.ownsRow base e size v n xs)
    (rs : List (List Int)) (vx : Value) (hx : a.eval x = vx) (hr : RowsAt size w vx rs) (hrl : ∀ r ∈ rs, r.length = size)
    (h63 : n + rs.length ≤ maxLen) (hbytes : (n + rs.length) * bytes ≤ 140737488355328) (hbase : base ≤ w.heap.size)
    (h : ∀ v' w', w'.ownsRow base e size v' (n + rs.length) (xs ++ flatCells rs) → w.grownBy w' v.ownBlock → wpList P ops Q rest (a.put o.dst v') w') : wpList P ops Q (o :: rest) a w :=
  wpList_plain hgd fun _ hK => wp_append_rows w s x t ho base e i z size bytes ht hi hz hsize hby hzs hsz v n xs hs hown rs vx hx hr hrl h63 hbytes hbase fun v' w' h1 h2 => hK _ _ (h v' w' h1 h2)

theorem step_append_rows (w : World) {ops : Array Oper} {o : Oper} {a : Act} {K : Act → World → Prop} {Q : Exit → Act → World → Prop} {E : Prop} (hgd : o.guard = none) (s x : Operand) (t : TypeId)
    (ho : o.op = .call { callee := .builtin .append, args := #[s, x], argTypes := #[t, t] })
    (base : Nat) (e : TypeId) (i : TypeInfo) (z : Value) (size bytes : Nat) (ht : P.underlying t = some (.slice e)) (hi : P.info? e = some i) (hz : i.zero = some z)
    (hsize : i.size = size) (hby : i.bytes = bytes) (hzs : z.cells.size = size) (hsz : 0 < size)
    (v : Value) (n : Nat) (xs : List Value) (hs : a.eval s = v) (hown : w.ownsRow base e size v n xs)
    (rs : List (List Int)) (vx : Value) (hx : a.eval x = vx) (hr : RowsAt size w vx rs) (hrl : ∀ r ∈ rs, r.length = size)
    (h63 : n + rs.length ≤ maxLen) (hbytes : (n + rs.length) * bytes ≤ 140737488355328) (hbase : base ≤ w.heap.size)
    (h : ∀ v' w', w'.ownsRow base e size v' (n + rs.length) (xs ++ flatCells rs) → w.grownBy w' v.ownBlock → K (a.put o.dst v') w') :
    if Region.wanted o (yielded ops a.tmps) = true then Oper.wp P o a w K Q else E := by
  have hw : Region.wanted o (yielded ops a.tmps) = true := by simp [Region.wanted, hgd]
  rw [if_pos hw]
  exact wp_append_rows w s x t ho base e i z size bytes ht hi hz hsize hby hzs hsz v n xs hs hown rs vx hx hr hrl h63 hbytes hbase h
end


theorem slice_cpEvent : Try.prog.underlying 44 = some (.slice 41) := by kernel_rfl
theorem info_cpEvent : (Try.prog.info? 41).map (fun i => (i.zero, i.size, i.bytes)) = some (some (.agg #[.int .i64 0, .int .i64 0, .int .i64 0, .int .i64 0, .int .i64 0, .int .i64 0, .int .i64 0]), 7, 56) := by kernel_rfl
theorem rowlenEvent (l : List EvV) : ∀ r ∈ l.map evRow, r.length = 7 := fun r hr => by
  obtain ⟨x, _, rfl⟩ := List.mem_map.1 hr
  rfl
set_option maxRecDepth 100000 in
set_option maxHeartbeats 1000000 in
theorem copyListEvent_any (v : Value) (l : List EvV) (w : World) (h : RowsAt 7 w v (l.map evRow)) (hlen : l.length ≤ 1048576) :
    Calls Try.prog 99 #[v] w fun e w' => ∃ v', e = .returned v' ∧ RowsFr w.heap.size 41 7 w' v' (l.map evRow) ∧ Below w.heap.size w w' := by
  obtain ⟨i7, hi7, hz70, hz71, hz72⟩ := infoT_parts info_cpEvent
  have H := hide h
  obtain ⟨a1, c1, h1, _⟩ := h
  rw [List.length_map] at h1
  subst h1
  have hbase : w.heap.size ≤ w.heap.size := Nat.le_refl _
  go_enter Try.func99, Try.ntmps99
  go_wp2_with (at_builtin; refine wpList_append_rows w (by rfl) _ _ _ (by rfl) w.heap.size 41 i7 _ 7 56 slice_cpEvent hi7 hz70 hz71 hz72 (by rfl) (by omega) (.slice none 0 0) 0 [] (by rfl) (World.ownsRow_nil w _ _ _) (l.map evRow) _ (by rfl) (unhide H) (rowlenEvent l) (by rw [List.length_map]; unfold maxLen; omega) (by rw [List.length_map]; omega) hbase ?_; intro v2 w2 hown hgrow)
  have hb2 : Below w.heap.size w w2 := Below.grown (Below.refl _ _) hgrow (Nat.le_refl _) (fun k hk => by simp [Value.ownBlock] at hk)
  have HB2 := hide hb2
  have HO := hide hown
  clear hb2 hown hgrow
  go_wp2_with fail
  go_ret
  refine ⟨_, rfl, ?_, unhide HB2⟩
  have e := unhide HO
  rw [Nat.zero_add, List.nil_append] at e
  exact RowsFr.of_owns (rowlenEvent l) e

theorem slice_cpOut : Try.prog.underlying 53 = some (.slice 92) := by kernel_rfl
theorem info_cpOut : (Try.prog.info? 92).map (fun i => (i.zero, i.size, i.bytes)) = some (some (.agg #[.int .i64 0, .int .i64 0, .int .i64 0, .int .i64 0, .int .i64 0]), 5, 40) := by kernel_rfl
theorem rowlenOut (l : List OutV) : ∀ r ∈ l.map outRow, r.length = 5 := fun r hr => by
  obtain ⟨x, _, rfl⟩ := List.mem_map.1 hr
  rfl
set_option maxRecDepth 100000 in
set_option maxHeartbeats 1000000 in
theorem copyListOut_any (v : Value) (l : List OutV) (w : World) (h : RowsAt 5 w v (l.map outRow)) (hlen : l.length ≤ 1048576) :
    Calls Try.prog 100 #[v] w fun e w' => ∃ v', e = .returned v' ∧ RowsFr w.heap.size 92 5 w' v' (l.map outRow) ∧ Below w.heap.size w w' := by
  obtain ⟨i7, hi7, hz70, hz71, hz72⟩ := infoT_parts info_cpOut
  have H := hide h
  obtain ⟨a1, c1, h1, _⟩ := h
  rw [List.length_map] at h1
  subst h1
  have hbase : w.heap.size ≤ w.heap.size := Nat.le_refl _
  go_enter Try.func100, Try.ntmps100
  go_wp2_with (at_builtin; refine wpList_append_rows w (by rfl) _ _ _ (by rfl) w.heap.size 92 i7 _ 5 40 slice_cpOut hi7 hz70 hz71 hz72 (by rfl) (by omega) (.slice none 0 0) 0 [] (by rfl) (World.ownsRow_nil w _ _ _) (l.map outRow) _ (by rfl) (unhide H) (rowlenOut l) (by rw [List.length_map]; unfold maxLen; omega) (by rw [List.length_map]; omega) hbase ?_; intro v2 w2 hown hgrow)
  have hb2 : Below w.heap.size w w2 := Below.grown (Below.refl _ _) hgrow (Nat.le_refl _) (fun k hk => by simp [Value.ownBlock] at hk)
  have HB2 := hide hb2
  have HO := hide hown
  clear hb2 hown hgrow
  go_wp2_with fail
  go_ret
  refine ⟨_, rfl, ?_, unhide HB2⟩
  have e := unhide HO
  rw [Nat.zero_add, List.nil_append] at e
  exact RowsFr.of_owns (rowlenOut l) e

end Go.Proofs.Ythekkgndckkoaaa
/- Append of a whole list of rows, and where it lies then; two operations that may come up. -/
namespace Go.Proofs.Ythekkgndckkoaaa
open Go.RowKit
set_option linter.unusedVariables false
set_option linter.unusedSimpArgs false

section
variable {P : Program}
theorem step_append_rowsAt (w : World) {ops : Array Oper} {o : Oper} {a : Act} {K : Act → World → Prop} {Q : Exit → Act → World → Prop} {E : Prop} (hgd : o.guard = none) (s x : Operand) (t : TypeId)
    (ho : o.op = .call { callee := .builtin .append, args := #[s, x], argTypes := #[t, t] })
    (base : Nat) (e : TypeId) (i : TypeInfo) (z : Value) (size bytes : Nat) (ht : P.underlying t = some (.slice e)) (hi : P.info? e = some i) (hz : i.zero = some z)
    (hsize : i.size = size) (hby : i.bytes = bytes) (hzs : z.cells.size = size) (hsz : 0 < size)
    (v : Value) (n : Nat) (xs : List Value) (hs : a.eval s = v) (hown : w.ownsRow base e size v n xs)
    (rs : List (List Int)) (vx : Value) (hx : a.eval x = vx) (hr : RowsAt size w vx rs) (hrl : ∀ r ∈ rs, r.length = size)
    (h63 : n + rs.length ≤ maxLen) (hbytes : (n + rs.length) * bytes ≤ 140737488355328) (hbase : base ≤ w.heap.size)
    (h : ∀ v' w', w'.ownsRow base e size v' (n + rs.length) (xs ++ flatCells rs) → w.grownBy w' v.ownBlock → (v'.ownBlock = v.ownBlock ∨ v'.ownBlock = some w.heap.size) → K (a.put o.dst v') w') :
    if Region.wanted o (yielded ops a.tmps) = true then Oper.wp P o a w K Q else E := by
  have hw : Region.wanted o (yielded ops a.tmps) = true := by simp [Region.wanted, hgd]
  rw [if_pos hw]
  obtain ⟨ad, cap, rfl, hl, hm, hc⟩ := hr
  cases ad with
  | none =>
    have h0 : rs = [] := by
      rcases hc with h | ⟨b, off, h, _⟩
      · exact h
      · cases h
    subst h0
    have hrun := run_append_none_any (P := P) (w := w) base t o.type e i size ht hi v n xs hown cap
    have hfin := h v w (by simpa [flatCells] using hown) ⟨rfl, rfl, rfl, Nat.le_refl _, fun _ _ _ => rfl⟩ (Or.inl rfl)
    unfold Oper.wp execOp
    simp only [ho, resolve, invoke, builtin, Sem.run_bind, Sem.run_pure, Result.andThen_ok, List.map_toArray, List.map_cons, List.map_nil, hs, hx, List.length_nil, hrun]
    exact hfin
  | some a0 =>
    have hnews : ∀ j u, (flatCells rs)[j]? = some u → w.cell? (a0.add j) = some u := fun j u hu => by
      have hj : j < rs.length * size := by
        rw [← flatCells_len2 rs hrl]
        rcases Nat.lt_or_ge j (flatCells rs).length with h | h
        · exact h
        · rw [List.getElem?_eq_none h] at hu; cases hu
      rcases hc with h0 | ⟨b, off, had, hcc⟩
      · rw [h0] at hj; simp at hj
      · simp only [Option.some.injEq] at had
        subst had
        have hd : j / size < rs.length := Nat.div_lt_of_lt_mul (by rw [Nat.mul_comm]; exact hj)
        have hmod : j % size < size := Nat.mod_lt _ hsz
        have e1 : j / size * size + j % size = j := by rw [Nat.mul_comm]; exact Nat.div_add_mod j size
        have h2 := flatCells_at rs hrl (j / size) hd (j % size) hmod
        rw [e1, hu] at h2
        have h3 := hcc (j / size) hd (j % size) hmod
        rw [Nat.add_assoc, e1] at h3
        have hadd : (⟨b, off, none⟩ : Addr).add j = ⟨b, off + j, none⟩ := by unfold Addr.add; split <;> simp_all
        rw [hadd, h3, ← h2]
    obtain ⟨v', w', hrun, h2, h3, _, h5⟩ := run_append_own_at (P := P) w base t o.type e i z size bytes ht hi hz hsize hby hzs hsz v n xs hown a0 rs.length cap (flatCells rs) (flatCells_len2 rs hrl) hnews (flat_one2 rs) h63 hbytes hbase
    have hfin := h v' w' h2 h3 h5
    unfold Oper.wp execOp
    simp only [ho, resolve, invoke, builtin, Sem.run_bind, Sem.run_pure, Result.andThen_ok, List.map_toArray, List.map_cons, List.map_nil, hs, hx, hrun]
    exact hfin

variable {ops : Array Oper} {Q : Exit → Act → World → Prop} {md : Region.Mode} {S : World → Prop} {L : Nat}
/-- Two operations may come up, neither the last. -/
theorem wpAnyL_two {i j : Nat} {o o2 : Oper} {fuel : Nat} {listed : Array Bool} {a : Act} {w : World} (hr : Region.ready md ops listed = [i, j]) (ho : ops[i]? = some o) (ho2 : ops[j]? = some o2)
    (h : ∀ K' : Act → World → Prop, Shut (∀ a w, S w → wpAnyL P md ops Q S L fuel (listed.setIfInBounds i true) a w → K' a w) → if Region.wanted o (yielded ops a.tmps) = true then Oper.wp P o a w K' Q else K' (a.put o.dst undef) w)
    (h2 : ∀ K' : Act → World → Prop, Shut (∀ a w, S w → wpAnyL P md ops Q S L fuel (listed.setIfInBounds j true) a w → K' a w) → if Region.wanted o2 (yielded ops a.tmps) = true then Oper.wp P o2 a w K' Q else K' (a.put o2.dst undef) w) :
    wpAnyL P md ops Q S L (fuel + 1) listed a w := by
  refine ⟨fun h0 => ?_, fun k hk => ?_⟩
  · rw [hr] at h0; cases h0
  · rw [hr] at hk
    rcases List.mem_cons.1 hk with rfl | hk
    · exact wpOp_step ho (fun K' hK => h K' (fun a w hS hW => hK a w ⟨fun _ => hS, hW⟩))
    · obtain rfl : k = j := by simpa using hk
      exact wpOp_step ho2 (fun K' hK => h2 K' (fun a w hS hW => hK a w ⟨fun _ => hS, hW⟩))
end
end Go.Proofs.Ythekkgndckkoaaa
/- impl.copyPast. -/
namespace Go.Proofs.Ythekkgndckkoaaa
open Go.RowKit
set_option linter.unusedVariables false
set_option linter.unusedSimpArgs false

set_option maxRecDepth 100000 in
set_option maxHeartbeats 2000000 in
theorem copyPast_any (p : PastV) (vs vo : Value) (w : World) (h : PastAt w vs vo p) (hl1 : p.sends.length ≤ 1048576) (hl2 : p.outs.length ≤ 1048576) :
    Calls Try.prog 83 #[pastAgg p vs vo] w fun e w' => ∃ us uo, e = .returned (pastAgg p us uo) ∧ PastFr (w.heap.size + 1) w' us uo p ∧ Apart us uo ∧ Below w.heap.size w w' := by
  have H := hide h
  obtain ⟨a1, c1, e1, _⟩ := h.s
  obtain ⟨a2, c2, e2, _⟩ := h.o
  rw [List.length_map] at e1 e2
  subst e1 e2
  clear h
  have hb0 : Below w.heap.size w ((w.alloc (.cells #[.int .i64 p.ev.time, .int .i64 p.ev.to, .int .i64 p.ev.src, .int .i64 p.ev.count, .int .i64 p.ev.n, .int .i64 p.ev.kind, .int .i64 p.ev.arg, .int .i64 p.st.x, .int .i64 p.st.y, .int .i64 p.st.c, .slice a1 p.sends.length c1, .slice a2 p.outs.length c2] 65)).alloc (.cells #[.int .i64 0, .int .i64 0, .int .i64 0, .int .i64 0, .int .i64 0, .int .i64 0, .int .i64 0, .int .i64 0, .int .i64 0, .int .i64 0, .slice none 0 0, .slice none 0 0] 65)) := ((Below.refl _ _).alloc (Nat.le_refl _) _).alloc (by simp) _
  have cA : CellsAt ((w.alloc (.cells #[.int .i64 p.ev.time, .int .i64 p.ev.to, .int .i64 p.ev.src, .int .i64 p.ev.count, .int .i64 p.ev.n, .int .i64 p.ev.kind, .int .i64 p.ev.arg, .int .i64 p.st.x, .int .i64 p.st.y, .int .i64 p.st.c, .slice a1 p.sends.length c1, .slice a2 p.outs.length c2] 65)).alloc (.cells #[.int .i64 0, .int .i64 0, .int .i64 0, .int .i64 0, .int .i64 0, .int .i64 0, .int .i64 0, .int .i64 0, .int .i64 0, .int .i64 0, .slice none 0 0, .slice none 0 0] 65)) w.heap.size 0 (pastCells p (.slice a1 p.sends.length c1) (.slice a2 p.outs.length c2)) := (cellsAt_new w (pastCells p (.slice a1 p.sends.length c1) (.slice a2 p.outs.length c2)) 65).on ((Below.refl _ _).alloc (Nat.le_refl _) _)
  have rB : ((w.alloc (.cells #[.int .i64 p.ev.time, .int .i64 p.ev.to, .int .i64 p.ev.src, .int .i64 p.ev.count, .int .i64 p.ev.n, .int .i64 p.ev.kind, .int .i64 p.ev.arg, .int .i64 p.st.x, .int .i64 p.st.y, .int .i64 p.st.c, .slice a1 p.sends.length c1, .slice a2 p.outs.length c2] 65)).alloc (.cells #[.int .i64 0, .int .i64 0, .int .i64 0, .int .i64 0, .int .i64 0, .int .i64 0, .int .i64 0, .int .i64 0, .int .i64 0, .int .i64 0, .slice none 0 0, .slice none 0 0] 65)).rowIs (w.heap.size + 1) 65 12 (fun i => [Value.int .i64 0, .int .i64 0, .int .i64 0, .int .i64 0, .int .i64 0, .int .i64 0, .int .i64 0, .int .i64 0, .int .i64 0, .int .i64 0, .slice none 0 0, .slice none 0 0].getD i undef) := by
    have e := row_new (w.alloc (.cells #[.int .i64 p.ev.time, .int .i64 p.ev.to, .int .i64 p.ev.src, .int .i64 p.ev.count, .int .i64 p.ev.n, .int .i64 p.ev.kind, .int .i64 p.ev.arg, .int .i64 p.st.x, .int .i64 p.st.y, .int .i64 p.st.c, .slice a1 p.sends.length c1, .slice a2 p.outs.length c2] 65)) [.int .i64 0, .int .i64 0, .int .i64 0, .int .i64 0, .int .i64 0, .int .i64 0, .int .i64 0, .int .i64 0, .int .i64 0, .int .i64 0, .slice none 0 0, .slice none 0 0] 65
    have hs : (w.alloc (.cells #[.int .i64 p.ev.time, .int .i64 p.ev.to, .int .i64 p.ev.src, .int .i64 p.ev.count, .int .i64 p.ev.n, .int .i64 p.ev.kind, .int .i64 p.ev.arg, .int .i64 p.st.x, .int .i64 p.st.y, .int .i64 p.st.c, .slice a1 p.sends.length c1, .slice a2 p.outs.length c2] 65)).heap.size = w.heap.size + 1 := by simp
    rw [hs] at e
    exact e
  have hs0 : ((w.alloc (.cells #[.int .i64 p.ev.time, .int .i64 p.ev.to, .int .i64 p.ev.src, .int .i64 p.ev.count, .int .i64 p.ev.n, .int .i64 p.ev.kind, .int .i64 p.ev.arg, .int .i64 p.st.x, .int .i64 p.st.y, .int .i64 p.st.c, .slice a1 p.sends.length c1, .slice a2 p.outs.length c2] 65)).alloc (.cells #[.int .i64 0, .int .i64 0, .int .i64 0, .int .i64 0, .int .i64 0, .int .i64 0, .int .i64 0, .int .i64 0, .int .i64 0, .int .i64 0, .slice none 0 0, .slice none 0 0] 65)).heap.size = w.heap.size + 2 := by simp
  have HB0 := hide hb0
  have HA := hide cA
  have HR := hide rB
  have HS0 := hide hs0
  clear hb0 cA rB hs0
  go_enter Try.func83, Try.ntmps83
  go_upto_region 1 with fail
  generalize ((w.alloc (.cells #[.int .i64 p.ev.time, .int .i64 p.ev.to, .int .i64 p.ev.src, .int .i64 p.ev.count, .int .i64 p.ev.n, .int .i64 p.ev.kind, .int .i64 p.ev.arg, .int .i64 p.st.x, .int .i64 p.st.y, .int .i64 p.st.c, .slice a1 p.sends.length c1, .slice a2 p.outs.length c2] 65)).alloc (.cells #[.int .i64 0, .int .i64 0, .int .i64 0, .int .i64 0, .int .i64 0, .int .i64 0, .int .i64 0, .int .i64 0, .int .i64 0, .int .i64 0, .slice none 0 0, .slice none 0 0] 65)) = X at *
  refine wp_region_last (L := 11) (S := fun w' : World => w'.cell? ⟨w.heap.size, 0, none⟩ = some (.int .i64 p.ev.time) ∧ w'.cell? ⟨w.heap.size, 1, none⟩ = some (.int .i64 p.ev.to) ∧ w'.cell? ⟨w.heap.size, 2, none⟩ = some (.int .i64 p.ev.src) ∧ w'.cell? ⟨w.heap.size, 3, none⟩ = some (.int .i64 p.ev.count) ∧ w'.cell? ⟨w.heap.size, 4, none⟩ = some (.int .i64 p.ev.n) ∧ w'.cell? ⟨w.heap.size, 5, none⟩ = some (.int .i64 p.ev.kind) ∧ w'.cell? ⟨w.heap.size, 6, none⟩ = some (.int .i64 p.ev.arg) ∧ w'.cell? ⟨w.heap.size, 7, none⟩ = some (.int .i64 p.st.x) ∧ w'.cell? ⟨w.heap.size, 8, none⟩ = some (.int .i64 p.st.y) ∧ w'.cell? ⟨w.heap.size, 9, none⟩ = some (.int .i64 p.st.c) ∧ w'.cell? ⟨w.heap.size, 10, none⟩ = some (.slice a1 p.sends.length c1) ∧ w'.cell? ⟨w.heap.size, 11, none⟩ = some (.slice a2 p.outs.length c2)) (by kernel_rfl) ?_
  have hHeld : (fun w' : World => w'.cell? ⟨w.heap.size, 0, none⟩ = some (.int .i64 p.ev.time) ∧ w'.cell? ⟨w.heap.size, 1, none⟩ = some (.int .i64 p.ev.to) ∧ w'.cell? ⟨w.heap.size, 2, none⟩ = some (.int .i64 p.ev.src) ∧ w'.cell? ⟨w.heap.size, 3, none⟩ = some (.int .i64 p.ev.count) ∧ w'.cell? ⟨w.heap.size, 4, none⟩ = some (.int .i64 p.ev.n) ∧ w'.cell? ⟨w.heap.size, 5, none⟩ = some (.int .i64 p.ev.kind) ∧ w'.cell? ⟨w.heap.size, 6, none⟩ = some (.int .i64 p.ev.arg) ∧ w'.cell? ⟨w.heap.size, 7, none⟩ = some (.int .i64 p.st.x) ∧ w'.cell? ⟨w.heap.size, 8, none⟩ = some (.int .i64 p.st.y) ∧ w'.cell? ⟨w.heap.size, 9, none⟩ = some (.int .i64 p.st.c) ∧ w'.cell? ⟨w.heap.size, 10, none⟩ = some (.slice a1 p.sends.length c1) ∧ w'.cell? ⟨w.heap.size, 11, none⟩ = some (.slice a2 p.outs.length c2)) X.drew := ⟨((unhide HA).on (Below.refl _ _).drew) 0 (by simp), ((unhide HA).on (Below.refl _ _).drew) 1 (by simp), ((unhide HA).on (Below.refl _ _).drew) 2 (by simp), ((unhide HA).on (Below.refl _ _).drew) 3 (by simp), ((unhide HA).on (Below.refl _ _).drew) 4 (by simp), ((unhide HA).on (Below.refl _ _).drew) 5 (by simp), ((unhide HA).on (Below.refl _ _).drew) 6 (by simp), ((unhide HA).on (Below.refl _ _).drew) 7 (by simp), ((unhide HA).on (Below.refl _ _).drew) 8 (by simp), ((unhide HA).on (Below.refl _ _).drew) 9 (by simp), ((unhide HA).on (Below.refl _ _).drew) 10 (by simp), ((unhide HA).on (Below.refl _ _).drew) 11 (by simp)⟩
  refine wpAnyL_take (i := 0) (v := ?_) (by kernel_rfl) rfl (by kernel_rfl) (by kernel_rfl) (by kernel_rfl) (fun _ _ _ h => h) hHeld (Or.inl ⟨by kernel_rfl, ?_⟩) ?_
  rotate_left
  · (intro w hSw; (try dsimp only at hSw); obtain ⟨s0, s1, s2, s3, s4, s5, s6, s7, s8, s9, s10, s11⟩ := hSw; go_simp; try with_reducible rfl)
  refine wpAnyL_take (i := 1) (v := ?_) (by kernel_rfl) rfl (by kernel_rfl) (by kernel_rfl) (by kernel_rfl) (fun _ _ _ h => h) hHeld (Or.inl ⟨by kernel_rfl, ?_⟩) ?_
  rotate_left
  · (intro w hSw; (try dsimp only at hSw); obtain ⟨s0, s1, s2, s3, s4, s5, s6, s7, s8, s9, s10, s11⟩ := hSw; go_simp; try with_reducible rfl)
  refine wpAnyL_take (i := 2) (v := ?_) (by kernel_rfl) rfl (by kernel_rfl) (by kernel_rfl) (by kernel_rfl) (fun _ _ _ h => h) hHeld (Or.inl ⟨by kernel_rfl, ?_⟩) ?_
  rotate_left
  · (intro w hSw; (try dsimp only at hSw); obtain ⟨s0, s1, s2, s3, s4, s5, s6, s7, s8, s9, s10, s11⟩ := hSw; go_simp; try with_reducible rfl)
  refine wpAnyL_take (i := 3) (v := ?_) (by kernel_rfl) rfl (by kernel_rfl) (by kernel_rfl) (by kernel_rfl) (fun _ _ _ h => h) hHeld (Or.inl ⟨by kernel_rfl, ?_⟩) ?_
  rotate_left
  · (intro w hSw; (try dsimp only at hSw); obtain ⟨s0, s1, s2, s3, s4, s5, s6, s7, s8, s9, s10, s11⟩ := hSw; go_simp; try with_reducible rfl)
  refine wpAnyL_take (i := 4) (v := ?_) (by kernel_rfl) rfl (by kernel_rfl) (by kernel_rfl) (by kernel_rfl) (fun _ _ _ h => h) hHeld (Or.inl ⟨by kernel_rfl, ?_⟩) ?_
  rotate_left
  · (intro w hSw; (try dsimp only at hSw); obtain ⟨s0, s1, s2, s3, s4, s5, s6, s7, s8, s9, s10, s11⟩ := hSw; go_simp; try with_reducible rfl)
  refine wpAnyL_take (i := 5) (v := ?_) (by kernel_rfl) rfl (by kernel_rfl) (by kernel_rfl) (by kernel_rfl) (fun _ _ _ h => h) hHeld (Or.inl ⟨by kernel_rfl, ?_⟩) ?_
  rotate_left
  · (intro w hSw; (try dsimp only at hSw); obtain ⟨s0, s1, s2, s3, s4, s5, s6, s7, s8, s9, s10, s11⟩ := hSw; go_simp; try with_reducible rfl)
  refine wpAnyL_take (i := 7) (v := ?_) (by kernel_rfl) rfl (by kernel_rfl) (by kernel_rfl) (by kernel_rfl) (fun _ _ _ h => h) hHeld (Or.inl ⟨by kernel_rfl, ?_⟩) ?_
  rotate_left
  · (intro w hSw; (try dsimp only at hSw); obtain ⟨s0, s1, s2, s3, s4, s5, s6, s7, s8, s9, s10, s11⟩ := hSw; go_simp; try with_reducible rfl)
  refine wpAnyL_take (i := 8) (v := ?_) (by kernel_rfl) rfl (by kernel_rfl) (by kernel_rfl) (by kernel_rfl) (fun _ _ _ h => h) hHeld (Or.inl ⟨by kernel_rfl, ?_⟩) ?_
  rotate_left
  · (intro w hSw; (try dsimp only at hSw); obtain ⟨s0, s1, s2, s3, s4, s5, s6, s7, s8, s9, s10, s11⟩ := hSw; go_simp; try with_reducible rfl)
  refine wpAnyL_one (i := 6) (by kernel_rfl) rfl (fun K hK => ?_)
  go_simp
  refine (copyListEvent_any _ p.sends X.drew ((unhide H).s.on (unhide HB0).drew) hl1).mono ?_
  rintro e w1 ⟨us, rfl, hu1, hb1⟩
  obtain ⟨ua, uc, hus⟩ := RowsFr_sliced hu1
  rw [List.length_map] at hus
  subst hus
  have hX1 : Below X.heap.size X w1 := ((Below.refl _ _).drew).trans hb1
  have HU1 := hide hu1
  have HX1 := hide hX1
  clear hu1 hb1 hX1
  (try go_simp)
  refine held_on hK ?_ (fun hHeld => ?_)
  · exact ⟨((unhide HA).on (unhide HX1)) 0 (by simp), ((unhide HA).on (unhide HX1)) 1 (by simp), ((unhide HA).on (unhide HX1)) 2 (by simp), ((unhide HA).on (unhide HX1)) 3 (by simp), ((unhide HA).on (unhide HX1)) 4 (by simp), ((unhide HA).on (unhide HX1)) 5 (by simp), ((unhide HA).on (unhide HX1)) 6 (by simp), ((unhide HA).on (unhide HX1)) 7 (by simp), ((unhide HA).on (unhide HX1)) 8 (by simp), ((unhide HA).on (unhide HX1)) 9 (by simp), ((unhide HA).on (unhide HX1)) 10 (by simp), ((unhide HA).on (unhide HX1)) 11 (by simp)⟩
  clear hK K
  refine wpAnyL_one (i := 9) (by kernel_rfl) rfl (fun K hK => ?_)
  go_simp
  refine (copyListOut_any _ p.outs w1 ((unhide H).o.on (below_then (unhide HB0) (unhide HX1))) hl2).mono ?_
  rintro e w2 ⟨uo, rfl, hu2, hb2⟩
  obtain ⟨oa, oc, huo⟩ := RowsFr_sliced hu2
  rw [List.length_map] at huo
  subst huo
  have HU2 := hide hu2
  have HU12 := hide ((unhide HU1).on hb2)
  have HX2 := hide (below_then (unhide HX1) hb2)
  have HAP : Hid (Apart (.slice ua p.sends.length uc) (.slice oa p.outs.length oc)) := hide (fun g h1 h2 => by have := ((unhide HU1).blk g h1).2; have := ((unhide HU2).blk g h2).1; omega)
  have hsz1 : X.heap.size ≤ w1.heap.size := (unhide HX1).size
  clear hu2 hb2
  (try go_simp)
  refine held_on hK ?_ (fun hHeld => ?_)
  · exact ⟨((unhide HA).on (unhide HX2)) 0 (by simp), ((unhide HA).on (unhide HX2)) 1 (by simp), ((unhide HA).on (unhide HX2)) 2 (by simp), ((unhide HA).on (unhide HX2)) 3 (by simp), ((unhide HA).on (unhide HX2)) 4 (by simp), ((unhide HA).on (unhide HX2)) 5 (by simp), ((unhide HA).on (unhide HX2)) 6 (by simp), ((unhide HA).on (unhide HX2)) 7 (by simp), ((unhide HA).on (unhide HX2)) 8 (by simp), ((unhide HA).on (unhide HX2)) 9 (by simp), ((unhide HA).on (unhide HX2)) 10 (by simp), ((unhide HA).on (unhide HX2)) 11 (by simp)⟩
  clear hK K
  refine wpAnyL_one (i := 10) (by kernel_rfl) rfl (fun K hK => ?_)
  go_simp
  refine held_on hK ?_ (fun hHeld => ?_)
  · exact hHeld
  clear hK K
  have hrx := (unhide HR).of_block ((unhide HX2).block (w.heap.size + 1) (unhide HR).lt)
  have y0 : w2.cell? ⟨w.heap.size + 1, 0, none⟩ = some (.int .i64 0) := hrx.cell (i := 0) (by omega)
  have z0 := hrx.frozen 0
  have y1 : w2.cell? ⟨w.heap.size + 1, 1, none⟩ = some (.int .i64 0) := hrx.cell (i := 1) (by omega)
  have z1 := hrx.frozen 1
  have y2 : w2.cell? ⟨w.heap.size + 1, 2, none⟩ = some (.int .i64 0) := hrx.cell (i := 2) (by omega)
  have z2 := hrx.frozen 2
  have y3 : w2.cell? ⟨w.heap.size + 1, 3, none⟩ = some (.int .i64 0) := hrx.cell (i := 3) (by omega)
  have z3 := hrx.frozen 3
  have y4 : w2.cell? ⟨w.heap.size + 1, 4, none⟩ = some (.int .i64 0) := hrx.cell (i := 4) (by omega)
  have z4 := hrx.frozen 4
  have y5 : w2.cell? ⟨w.heap.size + 1, 5, none⟩ = some (.int .i64 0) := hrx.cell (i := 5) (by omega)
  have z5 := hrx.frozen 5
  have y6 : w2.cell? ⟨w.heap.size + 1, 6, none⟩ = some (.int .i64 0) := hrx.cell (i := 6) (by omega)
  have z6 := hrx.frozen 6
  have y7 : w2.cell? ⟨w.heap.size + 1, 7, none⟩ = some (.int .i64 0) := hrx.cell (i := 7) (by omega)
  have z7 := hrx.frozen 7
  have y8 : w2.cell? ⟨w.heap.size + 1, 8, none⟩ = some (.int .i64 0) := hrx.cell (i := 8) (by omega)
  have z8 := hrx.frozen 8
  have y9 : w2.cell? ⟨w.heap.size + 1, 9, none⟩ = some (.int .i64 0) := hrx.cell (i := 9) (by omega)
  have z9 := hrx.frozen 9
  have y10 : w2.cell? ⟨w.heap.size + 1, 10, none⟩ = some (.slice none 0 0) := hrx.cell (i := 10) (by omega)
  have z10 := hrx.frozen 10
  have y11 : w2.cell? ⟨w.heap.size + 1, 11, none⟩ = some (.slice none 0 0) := hrx.cell (i := 11) (by omega)
  have z11 := hrx.frozen 11
  clear hrx
  refine wpAnyL_end (by kernel_rfl) rfl (fun K hK => ?_)
  go_simp
  refine hK.out _ _ ?_
  clear hK K
  refine wpAnyL_done (by kernel_rfl) ?_ _
  go_wp2_with fail
  have hss := unhide HS0
  refine bodyPost_ret (v := pastAgg p (.slice ua p.sends.length uc) (.slice oa p.outs.length oc)) (by simp [results, Try.results83, go_sem, y0, y1, y2, y3, y4, y5, y6, y7, y8, y9, y10, y11]) rfl ⟨_, _, rfl, ⟨?_, ?_⟩, unhide HAP, ?_⟩
  · exact (((unhide HU12).less (show w.heap.size + 2 ≤ X.drew.heap.size by simp; omega)).setV (r := w.heap.size + 1) (o := 0) (by omega) (pastCells p (.slice ua p.sends.length uc) (.slice oa p.outs.length oc))).less (by omega)
  · exact (((unhide HU2).less (show w.heap.size + 2 ≤ w1.heap.size by omega)).setV (r := w.heap.size + 1) (o := 0) (by omega) (pastCells p (.slice ua p.sends.length uc) (.slice oa p.outs.length oc))).less (by omega)
  · exact setVals_below (pastCells p (.slice ua p.sends.length uc) (.slice oa p.outs.length oc)) 0 w2 (below_then (unhide HB0) (unhide HX2)) (by omega)
end Go.Proofs.Ythekkgndckkoaaa
/- impl.unlinkLane. -/
namespace Go.Proofs.Ythekkgndckkoaaa
open Go.RowKit
set_option linter.unusedVariables false
set_option linter.unusedSimpArgs false

theorem info_cpPast : (Try.prog.info? 65).map (fun i => (i.zero, i.size, i.bytes)) = some (some (.agg #[.int .i64 0, .int .i64 0, .int .i64 0, .int .i64 0, .int .i64 0, .int .i64 0, .int .i64 0, .int .i64 0, .int .i64 0, .int .i64 0, .slice none 0 0, .slice none 0 0]), 12, 128) := by kernel_rfl
theorem slice_cpPast : Try.prog.underlying 30 = some (.slice 65) := by kernel_rfl

/-- What the loop has so far: the lane's block q with its list, all of it new. -/
structure Taken (N : Nat) (w : World) (q : Nat) (proc : Int) (s : StV) (v : Value) (us : List (Value × Value)) (ps : List PastV) : Prop where
  row : w.rowIs q 32 5 (fun i => (laneCells proc s v).getD i undef)
  list : PastsO N w.heap.size w v us ps
  nd : (v.ownBlock.toList ++ blocksOf us).Nodup

set_option maxRecDepth 100000 in
set_option maxHeartbeats 4000000 in
theorem unlinkLane_any (W : World) (N : Nat) (proc : Int) (g : Nat) (gs : List Nat) (q0 : PastV) (ps : List PastV) (w : World) (hch : Chain W N w (g :: gs) (q0 :: ps)) (hW : Below W.heap.size W w) (hlen : ps.length ≤ 1048576) (hl : ∀ p ∈ ps, p.sends.length ≤ 1048576 ∧ p.outs.length ≤ 1048576) :
    Calls Try.prog 59 #[.int .i64 proc, .pointer (some ⟨g, 0, none⟩)] w fun e w' => ∃ v', e = .returned (laneAgg proc q0.st v') ∧ PastsOwn w.heap.size w'.heap.size w' v' ps ∧ Below w.heap.size w w' := by
  obtain ⟨i12, hi12, hz0, hz1, hz2⟩ := infoT_parts info_cpPast
  have hgl : gs.length = ps.length := by have := hch.len; simpa using this
  have hlk := hch.node 0 (by simp) (by simp)
  obtain ⟨_, _, hc0, hn0, _, _⟩ := hlk.cells
  have x7 : w.cell? ⟨g, 7, none⟩ = some (.int .i64 q0.st.x) := hc0 7 (by simp)
  have x8 : w.cell? ⟨g, 8, none⟩ = some (.int .i64 q0.st.y) := hc0 8 (by simp)
  have x9 : w.cell? ⟨g, 9, none⟩ = some (.int .i64 q0.st.c) := hc0 9 (by simp)
  have x12 : w.cell? ⟨g, 12, none⟩ = some (ptrTo gs[0]?) := by simpa using hn0
  have hglt : g < w.heap.size := hlk.lt
  have hb1 : Below w.heap.size w ((w.alloc (.cells #[.int .i64 0, .int .i64 0, .int .i64 0, .int .i64 0, .slice none 0 0] 32)).alloc (.cells #[.int .i64 proc, .int .i64 q0.st.x, .int .i64 q0.st.y, .int .i64 q0.st.c, .slice none 0 0] 32)) := ((Below.refl _ _).alloc (Nat.le_refl _) _).alloc (by simp) _
  have hs1 : ((w.alloc (.cells #[.int .i64 0, .int .i64 0, .int .i64 0, .int .i64 0, .slice none 0 0] 32)).alloc (.cells #[.int .i64 proc, .int .i64 q0.st.x, .int .i64 q0.st.y, .int .i64 q0.st.c, .slice none 0 0] 32)).heap.size = w.heap.size + 2 := by simp
  have rR : ((w.alloc (.cells #[.int .i64 0, .int .i64 0, .int .i64 0, .int .i64 0, .slice none 0 0] 32)).alloc (.cells #[.int .i64 proc, .int .i64 q0.st.x, .int .i64 q0.st.y, .int .i64 q0.st.c, .slice none 0 0] 32)).rowIs w.heap.size 32 5 (fun i => ([Value.int .i64 0, .int .i64 0, .int .i64 0, .int .i64 0, .slice none 0 0] : List Value).getD i undef) :=
    (row_new w [.int .i64 0, .int .i64 0, .int .i64 0, .int .i64 0, .slice none 0 0] 32).of_block (((Below.refl _ _).alloc (Nat.le_refl _) _).block w.heap.size (by simp))
  have rL : ((w.alloc (.cells #[.int .i64 0, .int .i64 0, .int .i64 0, .int .i64 0, .slice none 0 0] 32)).alloc (.cells #[.int .i64 proc, .int .i64 q0.st.x, .int .i64 q0.st.y, .int .i64 q0.st.c, .slice none 0 0] 32)).rowIs (w.heap.size + 1) 32 5 (fun i => (laneCells proc q0.st (.slice none 0 0)).getD i undef) := by
    have e := row_new (w.alloc (.cells #[.int .i64 0, .int .i64 0, .int .i64 0, .int .i64 0, .slice none 0 0] 32)) (laneCells proc q0.st (.slice none 0 0)) 32
    have hs : (w.alloc (.cells #[.int .i64 0, .int .i64 0, .int .i64 0, .int .i64 0, .slice none 0 0] 32)).heap.size = w.heap.size + 1 := by simp
    rw [hs] at e
    exact e
  have HB1 := hide hb1
  have HS1 := hide hs1
  have HRR := hide rR
  have HRL := hide rL
  have HCH := hide hch
  have HW := hide hW
  have HL := hide hl
  have HGL := hide hgl
  have y12 : ((w.alloc (.cells #[.int .i64 0, .int .i64 0, .int .i64 0, .int .i64 0, .slice none 0 0] 32)).alloc (.cells #[.int .i64 proc, .int .i64 q0.st.x, .int .i64 q0.st.y, .int .i64 q0.st.c, .slice none 0 0] 32)).cell? ⟨g, 12, none⟩ = some (ptrTo gs[0]?) := cell_on hb1 x12
  have Y12 := hide y12
  clear hb1 hs1 rR rL hch hW hl hc0 hn0 hlk hgl x12 y12
  go_enter Try.func59, Try.ntmps59
  go_upto_region 2 with fail
  clear x7 x8 x9
  generalize ((w.alloc (.cells #[.int .i64 0, .int .i64 0, .int .i64 0, .int .i64 0, .slice none 0 0] 32)).alloc (.cells #[.int .i64 proc, .int .i64 q0.st.x, .int .i64 q0.st.y, .int .i64 q0.st.c, .slice none 0 0] 32)) = X at *
  have y12 := unhide Y12
  obtain ⟨nx, hnx⟩ : ∃ nx, nx = gs[0]? := ⟨_, rfl⟩
  rw [← hnx] at y12
  have HNX := hide hnx
  clear hnx
  go_wp2_with fail
  clear y12
  go_loopw [6] (fun l wr => ∃ (k : Nat) (va : Option Addr) (vc : Nat) (us : List (Value × Value)), k ≤ ps.length ∧ l = ptrTo gs[k]? ∧ Hid (Taken (w.heap.size + 2) wr (w.heap.size + 1) proc q0.st (.slice va k vc) us (ps.take k)) ∧ Hid (wr.rowIs w.heap.size 32 5 (fun i => ([Value.int .i64 0, .int .i64 0, .int .i64 0, .int .i64 0, .slice none 0 0] : List Value).getD i undef)) ∧ Hid (Below w.heap.size w wr)) (fun l _ => match l with | .pointer (some a) => (g :: gs)[gs.length]'(by simp) + 1 - a.block | _ => 0)
  case atStart =>
    refine ⟨0, none, 0, [], Nat.zero_le _, by rw [unhide HNX], hide ⟨unhide HRL, Or.inl ⟨rfl, rfl, rfl⟩, by simp [blocksOf, Value.ownBlock]⟩, HRR, HB1⟩
  case round =>
    obtain ⟨k, va, vc, us, hk, rfl, HT, HRES, HB⟩ := hrel
    have hgl2 := unhide HGL
    have hsz : w.heap.size + 2 ≤ wr.heap.size := by have h1 := (unhide HT).row.lt; omega
    by_cases hlt : k < ps.length
    · have hkg : k < gs.length := by omega
      obtain ⟨g2, hg2⟩ : ∃ g2, g2 = gs[k] := ⟨_, rfl⟩
      have hpt : gs[k]? = some g2 := by rw [List.getElem?_eq_getElem hkg, hg2]
      have hlkk := ((unhide HCH).on (unhide HB)).node (k + 1) (by simp; omega) (by simp; omega)
      simp only [List.getElem_cons_succ] at hlkk
      rw [← hg2] at hlkk
      obtain ⟨p, hpe⟩ : ∃ p, p = ps[k] := ⟨_, rfl⟩
      have hlp := (unhide HL) ps[k] (List.getElem_mem hlt)
      rw [← hpe] at hlkk hlp
      obtain ⟨vs, vo, hcl, hcn, _, hpa⟩ := hlkk.cells
      have hg2lt : g2 < w.heap.size := by
        have h1 := (unhide HCH).node (k + 1) (by simp; omega) (by simp; omega)
        simp only [List.getElem_cons_succ] at h1
        rw [← hg2] at h1
        exact h1.lt
      obtain ⟨a1, c1, e1, _⟩ := hpa.s
      obtain ⟨a2, c2, e2, _⟩ := hpa.o
      rw [List.length_map] at e1 e2
      subst e1 e2
      have HPA := hide (hpa.on (below_then (unhide HW) (unhide HB)))
      have HLC := hide hcl
      have HPE := hide hpe
      have HG2 := hide hg2
      have HTK := hide (take_more ps k hlt)
      rw [← hpe] at HTK
      have HNXT : Hid (wr.cell? ⟨g2, 12, none⟩ = some (ptrTo gs[k + 1]?)) := hide (by simpa using hcn)
      have kd : wr.cell? ⟨w.heap.size + 1, 4, none⟩ = some (.slice va k vc) := (unhide HT).row.cell (i := 4) (by omega)
      rw [hpt]
      simp only [ptrTo, Option.map_some]
      clear hpa hcl hpe hg2 hpt hcn hlkk
      go_upto_region 5 with fail
      refine wp_region_last (L := 10) (S := fun w' : World => w'.cell? ⟨w.heap.size + 1, 4, none⟩ = some (.slice va k vc) ∧ w'.cell? ⟨g2, 0, none⟩ = some (.int .i64 p.ev.time) ∧ w'.cell? ⟨g2, 1, none⟩ = some (.int .i64 p.ev.to) ∧ w'.cell? ⟨g2, 2, none⟩ = some (.int .i64 p.ev.src) ∧ w'.cell? ⟨g2, 3, none⟩ = some (.int .i64 p.ev.count) ∧ w'.cell? ⟨g2, 4, none⟩ = some (.int .i64 p.ev.n) ∧ w'.cell? ⟨g2, 5, none⟩ = some (.int .i64 p.ev.kind) ∧ w'.cell? ⟨g2, 6, none⟩ = some (.int .i64 p.ev.arg) ∧ w'.cell? ⟨g2, 7, none⟩ = some (.int .i64 p.st.x) ∧ w'.cell? ⟨g2, 8, none⟩ = some (.int .i64 p.st.y) ∧ w'.cell? ⟨g2, 9, none⟩ = some (.int .i64 p.st.c) ∧ w'.cell? ⟨g2, 10, none⟩ = some (.slice a1 p.sends.length c1) ∧ w'.cell? ⟨g2, 11, none⟩ = some (.slice a2 p.outs.length c2)) (by kernel_rfl) ?_
      have hHeld : (fun w' : World => w'.cell? ⟨w.heap.size + 1, 4, none⟩ = some (.slice va k vc) ∧ w'.cell? ⟨g2, 0, none⟩ = some (.int .i64 p.ev.time) ∧ w'.cell? ⟨g2, 1, none⟩ = some (.int .i64 p.ev.to) ∧ w'.cell? ⟨g2, 2, none⟩ = some (.int .i64 p.ev.src) ∧ w'.cell? ⟨g2, 3, none⟩ = some (.int .i64 p.ev.count) ∧ w'.cell? ⟨g2, 4, none⟩ = some (.int .i64 p.ev.n) ∧ w'.cell? ⟨g2, 5, none⟩ = some (.int .i64 p.ev.kind) ∧ w'.cell? ⟨g2, 6, none⟩ = some (.int .i64 p.ev.arg) ∧ w'.cell? ⟨g2, 7, none⟩ = some (.int .i64 p.st.x) ∧ w'.cell? ⟨g2, 8, none⟩ = some (.int .i64 p.st.y) ∧ w'.cell? ⟨g2, 9, none⟩ = some (.int .i64 p.st.c) ∧ w'.cell? ⟨g2, 10, none⟩ = some (.slice a1 p.sends.length c1) ∧ w'.cell? ⟨g2, 11, none⟩ = some (.slice a2 p.outs.length c2)) wr.drew := ⟨cell_on (Below.refl _ _).drew kd, ((unhide HLC).on (Below.refl _ _).drew) 0 (by simp), ((unhide HLC).on (Below.refl _ _).drew) 1 (by simp), ((unhide HLC).on (Below.refl _ _).drew) 2 (by simp), ((unhide HLC).on (Below.refl _ _).drew) 3 (by simp), ((unhide HLC).on (Below.refl _ _).drew) 4 (by simp), ((unhide HLC).on (Below.refl _ _).drew) 5 (by simp), ((unhide HLC).on (Below.refl _ _).drew) 6 (by simp), ((unhide HLC).on (Below.refl _ _).drew) 7 (by simp), ((unhide HLC).on (Below.refl _ _).drew) 8 (by simp), ((unhide HLC).on (Below.refl _ _).drew) 9 (by simp), ((unhide HLC).on (Below.refl _ _).drew) 10 (by simp), ((unhide HLC).on (Below.refl _ _).drew) 11 (by simp)⟩
      refine wpAnyL_take (i := 0) (v := ?_) (by kernel_rfl) rfl (by kernel_rfl) (by kernel_rfl) (by kernel_rfl) (fun _ _ _ h => h) hHeld (Or.inl ⟨by kernel_rfl, ?_⟩) ?_
      rotate_left
      · (intro w hSw; (try dsimp only at hSw); obtain ⟨s0, s1, s2, s3, s4, s5, s6, s7, s8, s9, s10, s11, s12⟩ := hSw; go_simp; try with_reducible rfl)
      refine wpAnyL_take (i := 1) (v := ?_) (by kernel_rfl) rfl (by kernel_rfl) (by kernel_rfl) (by kernel_rfl) (fun _ _ _ h => h) hHeld (Or.inl ⟨by kernel_rfl, ?_⟩) ?_
      rotate_left
      · (intro w hSw; (try dsimp only at hSw); obtain ⟨s0, s1, s2, s3, s4, s5, s6, s7, s8, s9, s10, s11, s12⟩ := hSw; go_simp; try with_reducible rfl)
      refine wpAnyL_take (i := 2) (v := ?_) (by kernel_rfl) rfl (by kernel_rfl) (by kernel_rfl) (by kernel_rfl) (fun _ _ _ h => h) hHeld (Or.inl ⟨by kernel_rfl, ?_⟩) ?_
      rotate_left
      · (intro w hSw; (try dsimp only at hSw); obtain ⟨s0, s1, s2, s3, s4, s5, s6, s7, s8, s9, s10, s11, s12⟩ := hSw; go_simp; try with_reducible rfl)
      refine wpAnyL_take (i := 3) (v := ?_) (by kernel_rfl) rfl (by kernel_rfl) (by kernel_rfl) (by kernel_rfl) (fun _ _ _ h => h) hHeld (Or.inl ⟨by kernel_rfl, ?_⟩) ?_
      rotate_left
      · (intro w hSw; (try dsimp only at hSw); obtain ⟨s0, s1, s2, s3, s4, s5, s6, s7, s8, s9, s10, s11, s12⟩ := hSw; go_simp; try with_reducible rfl)
      refine wpAnyL_take (i := 4) (v := ?_) (by kernel_rfl) rfl (by kernel_rfl) (by kernel_rfl) (by kernel_rfl) (fun _ _ _ h => h) hHeld (Or.inl ⟨by kernel_rfl, ?_⟩) ?_
      rotate_left
      · (intro w hSw; (try dsimp only at hSw); obtain ⟨s0, s1, s2, s3, s4, s5, s6, s7, s8, s9, s10, s11, s12⟩ := hSw; go_simp; try with_reducible rfl)
      refine wpAnyL_take (i := 5) (v := ?_) (by kernel_rfl) rfl (by kernel_rfl) (by kernel_rfl) (by kernel_rfl) (fun _ _ _ h => h) hHeld (Or.inl ⟨by kernel_rfl, ?_⟩) ?_
      rotate_left
      · (intro w hSw; (try dsimp only at hSw); obtain ⟨s0, s1, s2, s3, s4, s5, s6, s7, s8, s9, s10, s11, s12⟩ := hSw; go_simp; try with_reducible rfl)
      refine wpAnyL_one (i := 6) (by kernel_rfl) rfl (fun K hK => ?_)
      go_simp
      refine (copyPast_any p _ _ wr.drew ((unhide HPA).on (Below.refl _ _).drew) hlp.1 hlp.2).mono ?_
      rintro e w1 ⟨us2, uo2, rfl, hf1, hap1, hb1⟩
      obtain ⟨ua, uc, hus⟩ := RowsFr_sliced hf1.s
      obtain ⟨oa, oc, huo⟩ := RowsFr_sliced hf1.o
      rw [List.length_map] at hus huo
      subst hus huo
      have hX1 : Below wr.heap.size wr w1 := ((Below.refl _ _).drew).trans hb1
      have HX1 := hide hX1
      have HF1 := hide hf1
      have HAP := hide hap1
      clear hf1 hap1 hb1 hX1
      (try go_simp)
      refine held_on hK ?_ (fun hHeld => ?_)
      · exact ⟨cell_on (unhide HX1) kd, ((unhide HLC).on (unhide HX1)) 0 (by simp), ((unhide HLC).on (unhide HX1)) 1 (by simp), ((unhide HLC).on (unhide HX1)) 2 (by simp), ((unhide HLC).on (unhide HX1)) 3 (by simp), ((unhide HLC).on (unhide HX1)) 4 (by simp), ((unhide HLC).on (unhide HX1)) 5 (by simp), ((unhide HLC).on (unhide HX1)) 6 (by simp), ((unhide HLC).on (unhide HX1)) 7 (by simp), ((unhide HLC).on (unhide HX1)) 8 (by simp), ((unhide HLC).on (unhide HX1)) 9 (by simp), ((unhide HLC).on (unhide HX1)) 10 (by simp), ((unhide HLC).on (unhide HX1)) 11 (by simp)⟩
      clear hK K
      have hbA : Below wr.heap.size wr (w1.alloc (.cells #[.int .i64 p.ev.time, .int .i64 p.ev.to, .int .i64 p.ev.src, .int .i64 p.ev.count, .int .i64 p.ev.n, .int .i64 p.ev.kind, .int .i64 p.ev.arg, .int .i64 p.st.x, .int .i64 p.st.y, .int .i64 p.st.c, .slice ua p.sends.length uc, .slice oa p.outs.length oc] 65)) := below_then (unhide HX1) ((Below.refl _ _).alloc (Nat.le_refl _) _)
      have hsA : (w1.alloc (.cells #[.int .i64 p.ev.time, .int .i64 p.ev.to, .int .i64 p.ev.src, .int .i64 p.ev.count, .int .i64 p.ev.n, .int .i64 p.ev.kind, .int .i64 p.ev.arg, .int .i64 p.st.x, .int .i64 p.st.y, .int .i64 p.st.c, .slice ua p.sends.length uc, .slice oa p.outs.length oc] 65)).heap.size = w1.heap.size + 1 := by simp
      have HBA := hide hbA
      have HSA := hide hsA
      clear hbA hsA
      refine wpAnyL_one (i := 7) (by kernel_rfl) rfl (fun K hK => ?_)
      go_simp
      refine held_on hK ?_ (fun hHeld => ?_)
      · exact ⟨cell_on (unhide HBA) kd, ((unhide HLC).on (unhide HBA)) 0 (by simp), ((unhide HLC).on (unhide HBA)) 1 (by simp), ((unhide HLC).on (unhide HBA)) 2 (by simp), ((unhide HLC).on (unhide HBA)) 3 (by simp), ((unhide HLC).on (unhide HBA)) 4 (by simp), ((unhide HLC).on (unhide HBA)) 5 (by simp), ((unhide HLC).on (unhide HBA)) 6 (by simp), ((unhide HLC).on (unhide HBA)) 7 (by simp), ((unhide HLC).on (unhide HBA)) 8 (by simp), ((unhide HLC).on (unhide HBA)) 9 (by simp), ((unhide HLC).on (unhide HBA)) 10 (by simp), ((unhide HLC).on (unhide HBA)) 11 (by simp)⟩
      clear hK K
      have HLTK : Hid ((ps.take k).length = k) := hide (by simp; omega)
      have hownA : (w1.alloc (.cells #[.int .i64 p.ev.time, .int .i64 p.ev.to, .int .i64 p.ev.src, .int .i64 p.ev.count, .int .i64 p.ev.n, .int .i64 p.ev.kind, .int .i64 p.ev.arg, .int .i64 p.st.x, .int .i64 p.st.y, .int .i64 p.st.c, .slice ua p.sends.length uc, .slice oa p.outs.length oc] 65)).ownsRow (w.heap.size + 2) 65 12 (.slice va k vc) k (flatP us (ps.take k)) := by
        have e := ownsOn (unhide HBA) (unhide HT).list.owns.2
        rwa [unhide HLTK] at e
      refine wpAnyL_one (i := 8) (by kernel_rfl) rfl (fun K hK => ?_)
      refine step_append_lies _ (by rfl) _ _ _ (by rfl) (w.heap.size + 2) 65 i12 _ 12 128 slice_cpPast hi12 hz0 hz1 hz2 (by rfl) (by omega) (.slice va k vc) k (flatP us (ps.take k)) (by rfl) hownA ⟨w1.heap.size, 0, none⟩ 1 1 (pastCells p (.slice ua p.sends.length uc) (.slice oa p.outs.length oc)) (by rfl) (by rfl) (World.news_of_block (cs := #[.int .i64 p.ev.time, .int .i64 p.ev.to, .int .i64 p.ev.src, .int .i64 p.ev.count, .int .i64 p.ev.n, .int .i64 p.ev.kind, .int .i64 p.ev.arg, .int .i64 p.st.x, .int .i64 p.st.y, .int .i64 p.st.c, .slice ua p.sends.length uc, .slice oa p.outs.length oc]) (t := 65) (fr := (0, 0)) (heap_alloc_new w1 _)) (by simp [Value.oneCell']) (by omega) (by unfold maxLen; omega) (by omega) (by have h1 := (unhide HBA).size; omega) (w1.alloc (.cells #[.int .i64 p.ev.time, .int .i64 p.ev.to, .int .i64 p.ev.src, .int .i64 p.ev.count, .int .i64 p.ev.n, .int .i64 p.ev.kind, .int .i64 p.ev.arg, .int .i64 p.st.x, .int .i64 p.st.y, .int .i64 p.st.c, .slice ua p.sends.length uc, .slice oa p.outs.length oc] 65)).heap.size rfl ?_
      intro g3 cap3 w8 hown8 hgrow8 hat8 hlt8
      have hown9 : w8.ownsRow (w.heap.size + 2) 65 12 (.slice (some ⟨g3, 0, none⟩) ((ps.take k).length + 1) cap3) ((ps.take k).length + 1) (flatP us (ps.take k) ++ pastCells p (.slice ua p.sends.length uc) (.slice oa p.outs.length oc)) := by
        rw [unhide HLTK]; exact hown8
      have hsn := pasts_snoc (unhide HT).list (unhide HT).nd (Nat.le_refl _) hsz (unhide HBA) (K := wr.heap.size) (Nat.le_refl _) (((unhide HF1).less (by simp)).on ((Below.refl _ _).alloc (Nat.le_refl _) _)) (unhide HAP) hgrow8 hown9 hat8 hlt8
      rw [← unhide HTK, show (ps.take (k + 1)).length = k + 1 by simp; omega] at hsn
      have hrowb : ∀ b, b < w.heap.size + 2 → w8.heap[b]? = wr.heap[b]? := fun b hb => by
        rw [hgrow8.block b (by have h1 := (unhide HBA).size; omega) (fun e => by have := ((unhide HT).list.blk b e.symm).1; omega), (unhide HBA).block b (by omega)]
      have hB8 : Below w.heap.size w w8 := Below.grown (below_then (unhide HB) (unhide HBA)) hgrow8 (by have h1 := (unhide HBA).size; omega) (fun b hb => by have := ((unhide HT).list.blk b hb).1; omega)
      have HSN := hide hsn
      have HB8 := hide hB8
      have hr8 := (unhide HT).row.of_block (hrowb (w.heap.size + 1) (by omega))
      have hs8 := (unhide HRES).of_block (hrowb w.heap.size (by omega))
      have k8 : w8.cell? ⟨w.heap.size + 1, 4, none⟩ = some (.slice va k vc) := hr8.cell (i := 4) (by omega)
      have f8 := hr8.frozen 4
      have hc8 : ∀ j u, wr.cell? ⟨g2, j, none⟩ = some u → w8.cell? ⟨g2, j, none⟩ = some u := fun j u hu => (World.cell?_of_block (a := ⟨g2, j, none⟩) (hrowb g2 (by omega))).trans hu
      have HR8 := hide hr8
      have HS8 := hide hs8
      have HN8 := hide (hc8 12 _ (unhide HNXT))
      refine held_on hK ?_ (fun hHeld => ?_)
      · exact ⟨k8, hc8 0 _ ((unhide HLC) 0 (by simp)), hc8 1 _ ((unhide HLC) 1 (by simp)), hc8 2 _ ((unhide HLC) 2 (by simp)), hc8 3 _ ((unhide HLC) 3 (by simp)), hc8 4 _ ((unhide HLC) 4 (by simp)), hc8 5 _ ((unhide HLC) 5 (by simp)), hc8 6 _ ((unhide HLC) 6 (by simp)), hc8 7 _ ((unhide HLC) 7 (by simp)), hc8 8 _ ((unhide HLC) 8 (by simp)), hc8 9 _ ((unhide HLC) 9 (by simp)), hc8 10 _ ((unhide HLC) 10 (by simp)), hc8 11 _ ((unhide HLC) 11 (by simp))⟩
      clear hK K hsn hrowb hB8 hr8 hs8 hown8 hown9 hgrow8 hat8 hlt8 hownA hc8
      refine wpAnyL_one (i := 9) (by kernel_rfl) rfl (fun K hK => ?_)
      go_simp
      refine held_on hK ?_ (fun hHeld => ?_)
      · exact hHeld
      clear hK K
      refine wpAnyL_end (by kernel_rfl) rfl (fun K hK => ?_)
      go_simp
      refine hK.out _ _ ?_
      clear hK K hHeld
      refine wpAnyL_done (by kernel_rfl) ?_ _
      have hne : g2 ≠ w.heap.size + 1 := by omega
      have n12 : (w8.setCell ⟨w.heap.size + 1, 4, none⟩ (.slice (some ⟨g3, 0, none⟩) (k + 1) cap3)).cell? ⟨g2, 12, none⟩ = some (ptrTo gs[k + 1]?) :=
        (World.cell?_of_block (a := ⟨g2, 12, none⟩) (Below.heap_setCell w8 ⟨w.heap.size + 1, 4, none⟩ _ g2 hne)).trans (unhide HN8)
      have HT2 : Hid (Taken (w.heap.size + 2) (w8.setCell ⟨w.heap.size + 1, 4, none⟩ (.slice (some ⟨g3, 0, none⟩) (k + 1) cap3)) (w.heap.size + 1) proc q0.st (.slice (some ⟨g3, 0, none⟩) (k + 1) cap3) (us ++ [(.slice ua p.sends.length uc, .slice oa p.outs.length oc)]) (ps.take (k + 1))) := hide (by
        refine ⟨((unhide HR8).set 4 _).congr (fun i hi => ?_), ?_, (unhide HSN).2⟩
        · show (if i = 4 then _ else _) = _
          match i, hi with
          | 0, _ => rfl
          | 1, _ => rfl
          | 2, _ => rfl
          | 3, _ => rfl
          | 4, _ => rfl
        · have h1 := (unhide HSN).1
          rw [show (w8.setCell ⟨w.heap.size + 1, 4, none⟩ (.slice (some ⟨g3, 0, none⟩) (k + 1) cap3)).heap.size = w8.heap.size by simp]
          exact h1.keep (fun b hb _ => Below.heap_setCell w8 ⟨w.heap.size + 1, 4, none⟩ _ b (by show b ≠ w.heap.size + 1; omega)))
      have HS2 := hide ((unhide HS8).of_block (Below.heap_setCell w8 ⟨w.heap.size + 1, 4, none⟩ (.slice (some ⟨g3, 0, none⟩) (k + 1) cap3) w.heap.size (by show w.heap.size ≠ w.heap.size + 1; omega)))
      have HB2 := hide ((unhide HB8).setCell (p := ⟨w.heap.size + 1, 4, none⟩) (Nat.le_succ _) (.slice (some ⟨g3, 0, none⟩) (k + 1) cap3))
      generalize (w8.setCell ⟨w.heap.size + 1, 4, none⟩ (.slice (some ⟨g3, 0, none⟩) (k + 1) cap3)) = w9 at *
      obtain ⟨nx2, hnx2⟩ : ∃ nx2, nx2 = gs[k + 1]? := ⟨_, rfl⟩
      rw [← hnx2] at n12
      have HNX2 := hide hnx2
      clear hnx2 k8 f8 kd
      go_wp2_with fail
      go_roundw
      case rel => exact ⟨k + 1, _, _, _, by omega, by rw [unhide HNX2], HT2, HS2, HB2⟩
      case measure =>
        rw [unhide HNX2]
        have a3 := unhide HG2
        have a5 : g2 < (g :: gs)[gs.length]'(by simp) + 1 := by
          rw [a3]
          by_cases e : k + 1 = gs.length
          · simp [← e]
          · have := (unhide HCH).asc (k + 1) gs.length (by simp; omega) (by simp) (by omega)
            simp only [List.getElem_cons_succ] at this
            omega
        by_cases e : k + 1 < gs.length
        · have a1 := (unhide HCH).asc (k + 1) (k + 2) (by simp; omega) (by simp; omega) (by omega)
          simp only [List.getElem_cons_succ] at a1
          rw [List.getElem?_eq_getElem e]
          simp only [ptrTo, Option.map_some]
          omega
        · rw [List.getElem?_eq_none (by omega)]
          simp only [ptrTo, Option.map_none]
          omega
    · have hke : k = ps.length := by omega
      have hpt : gs[k]? = none := List.getElem?_eq_none (by omega)
      rw [hpt]
      simp only [ptrTo, Option.map_none]
      subst hke
      have HTF := unhide HT
      rw [List.take_length] at HTF
      have HT2 := hide HTF
      clear HTF HT
      have y0 : wr.cell? ⟨w.heap.size, 0, none⟩ = some (.int .i64 0) := (unhide HRES).cell (i := 0) (by omega)
      have z0 := (unhide HRES).frozen 0
      have y1 : wr.cell? ⟨w.heap.size, 1, none⟩ = some (.int .i64 0) := (unhide HRES).cell (i := 1) (by omega)
      have z1 := (unhide HRES).frozen 1
      have y2 : wr.cell? ⟨w.heap.size, 2, none⟩ = some (.int .i64 0) := (unhide HRES).cell (i := 2) (by omega)
      have z2 := (unhide HRES).frozen 2
      have y3 : wr.cell? ⟨w.heap.size, 3, none⟩ = some (.int .i64 0) := (unhide HRES).cell (i := 3) (by omega)
      have z3 := (unhide HRES).frozen 3
      have y4 : wr.cell? ⟨w.heap.size, 4, none⟩ = some (.slice none 0 0) := (unhide HRES).cell (i := 4) (by omega)
      have z4 := (unhide HRES).frozen 4
      have l0 : wr.cell? ⟨w.heap.size + 1, 0, none⟩ = some (.int .i64 proc) := (unhide HT2).row.cell (i := 0) (by omega)
      have l1 : wr.cell? ⟨w.heap.size + 1, 1, none⟩ = some (.int .i64 q0.st.x) := (unhide HT2).row.cell (i := 1) (by omega)
      have l2 : wr.cell? ⟨w.heap.size + 1, 2, none⟩ = some (.int .i64 q0.st.y) := (unhide HT2).row.cell (i := 2) (by omega)
      have l3 : wr.cell? ⟨w.heap.size + 1, 3, none⟩ = some (.int .i64 q0.st.c) := (unhide HT2).row.cell (i := 3) (by omega)
      have l4 : wr.cell? ⟨w.heap.size + 1, 4, none⟩ = some (.slice va ps.length vc) := (unhide HT2).row.cell (i := 4) (by omega)
      go_wp2_with fail
      refine bodyPost_ret (v := laneAgg proc q0.st (.slice va ps.length vc)) (by simp [results, Try.results59, go_sem, y0, y1, y2, y3, y4]) rfl ⟨_, rfl, ?_, ?_⟩
      · refine ⟨us, ?_, (unhide HT2).nd⟩
        have h1 : PastsO w.heap.size wr.heap.size (setVals wr w.heap.size 0 (laneCells proc q0.st (.slice va ps.length vc))) (.slice va ps.length vc) us ps := ((unhide HT2).list.keep (fun b hb _ => setVals_other (laneCells proc q0.st (.slice va ps.length vc)) 0 wr b (by omega))).wide (by omega) (Nat.le_refl _)
        rw [← setVals_size (laneCells proc q0.st (.slice va ps.length vc)) 0 wr (b := w.heap.size)] at h1
        exact h1
      · exact setVals_below (laneCells proc q0.st (.slice va ps.length vc)) 0 wr (unhide HB) (Nat.le_refl _)
end Go.Proofs.Ythekkgndckkoaaa
/- spec.l21Copy. -/
namespace Go.Proofs.Ythekkgndckkoaaa
open Go.RowKit
set_option linter.unusedVariables false
set_option linter.unusedSimpArgs false

/-- Both lists are there. -/
structure BothL (Y wz : World) (p : PastV) (ve vo : Value) : Prop where
  fr : PastFr Y.heap.size wz ve vo p
  ap : Apart ve vo
  be : Below Y.heap.size Y wz

theorem both_of {Y w9 wz : World} {p : PastV} {ve vo : Value} {re ro : Option Nat} (he : w9.ownsRow Y.heap.size 41 7 ve (0 + (p.sends.map evRow).length) ([] ++ flatCells (p.sends.map evRow))) (ho : wz.ownsRow Y.heap.size 92 5 vo (0 + (p.outs.map outRow).length) ([] ++ flatCells (p.outs.map outRow)))
    (hkeep : ∀ b, ve.ownBlock = some b → wz.heap[b]? = w9.heap[b]?) (hap : Apart ve vo) (hb : Below Y.heap.size Y wz) : BothL Y wz p ve vo := by
  rw [Nat.zero_add, List.nil_append] at he ho
  have h1 := RowsFr.of_owns (rowlenEvent p.sends) he
  have h2 := RowsFr.of_owns (rowlenOut p.outs) ho
  exact ⟨⟨h1.block (fun b hb _ => hkeep b hb), h2⟩, hap, hb⟩

set_option maxRecDepth 100000 in
set_option maxHeartbeats 8000000 in
theorem l21Copy_any (proc : Int) (s : StV) (v : Value) (ps : List PastV) (a b : Nat) (w : World) (h : PastsAt w v ps) (hab : a ≤ b) (hbp : b ≤ ps.length) (hlen : ps.length ≤ 1048576) (hl : ∀ p ∈ ps, p.sends.length ≤ 1048576 ∧ p.outs.length ≤ 1048576) :
    Calls Try.prog 57 #[laneAgg proc s v, .int .i64 a, .int .i64 b] w fun e w' => ∃ v', e = .returned (laneAgg proc s v') ∧ PastsOwn w.heap.size w'.heap.size w' v' ((ps.take b).drop a) ∧ Below w.heap.size w w' := by
  obtain ⟨i12, hi12, hz0, hz1, hz2⟩ := infoT_parts info_cpPast
  obtain ⟨i7, hi7, hz70, hz71, hz72⟩ := infoT_parts info_cpEvent
  obtain ⟨i5, hi5, hz50, hz51, hz52⟩ := infoT_parts info_cpOut
  obtain ⟨a0, c0, rfl, hlc, hm, hcc⟩ := h
  unfold maxLen at hm
  have HC := hide hcc
  have HL := hide hl
  have hb2 : Below w.heap.size w (((w.alloc (.cells #[.int .i64 proc, .int .i64 s.x, .int .i64 s.y, .int .i64 s.c, .slice a0 ps.length c0] 32)).alloc (.cells #[.int .i64 0, .int .i64 0, .int .i64 0, .int .i64 0, .slice none 0 0] 32)).alloc (.cells #[.int .i64 proc, .int .i64 s.x, .int .i64 s.y, .int .i64 s.c, .slice none 0 0] 32)) := (((Below.refl _ _).alloc (Nat.le_refl _) _).alloc (by simp) _).alloc (by simp; omega) _
  have cA : CellsAt (((w.alloc (.cells #[.int .i64 proc, .int .i64 s.x, .int .i64 s.y, .int .i64 s.c, .slice a0 ps.length c0] 32)).alloc (.cells #[.int .i64 0, .int .i64 0, .int .i64 0, .int .i64 0, .slice none 0 0] 32)).alloc (.cells #[.int .i64 proc, .int .i64 s.x, .int .i64 s.y, .int .i64 s.c, .slice none 0 0] 32)) w.heap.size 0 (laneCells proc s (.slice a0 ps.length c0)) := (cellsAt_new w (laneCells proc s (.slice a0 ps.length c0)) 32).on (((Below.refl _ _).alloc (Nat.le_refl _) _).alloc (by simp) _)
  have rR : (((w.alloc (.cells #[.int .i64 proc, .int .i64 s.x, .int .i64 s.y, .int .i64 s.c, .slice a0 ps.length c0] 32)).alloc (.cells #[.int .i64 0, .int .i64 0, .int .i64 0, .int .i64 0, .slice none 0 0] 32)).alloc (.cells #[.int .i64 proc, .int .i64 s.x, .int .i64 s.y, .int .i64 s.c, .slice none 0 0] 32)).rowIs (w.heap.size + 1) 32 5 (fun i => ([Value.int .i64 0, .int .i64 0, .int .i64 0, .int .i64 0, .slice none 0 0] : List Value).getD i undef) := by
    have e := row_new (w.alloc (.cells #[.int .i64 proc, .int .i64 s.x, .int .i64 s.y, .int .i64 s.c, .slice a0 ps.length c0] 32)) [.int .i64 0, .int .i64 0, .int .i64 0, .int .i64 0, .slice none 0 0] 32
    have hs : (w.alloc (.cells #[.int .i64 proc, .int .i64 s.x, .int .i64 s.y, .int .i64 s.c, .slice a0 ps.length c0] 32)).heap.size = w.heap.size + 1 := by simp
    rw [hs] at e
    exact e.of_block (((Below.refl _ _).alloc (Nat.le_refl _) _).block (w.heap.size + 1) (by simp))
  have rL : (((w.alloc (.cells #[.int .i64 proc, .int .i64 s.x, .int .i64 s.y, .int .i64 s.c, .slice a0 ps.length c0] 32)).alloc (.cells #[.int .i64 0, .int .i64 0, .int .i64 0, .int .i64 0, .slice none 0 0] 32)).alloc (.cells #[.int .i64 proc, .int .i64 s.x, .int .i64 s.y, .int .i64 s.c, .slice none 0 0] 32)).rowIs (w.heap.size + 2) 32 5 (fun i => (laneCells proc s (.slice none 0 0)).getD i undef) := by
    have e := row_new ((w.alloc (.cells #[.int .i64 proc, .int .i64 s.x, .int .i64 s.y, .int .i64 s.c, .slice a0 ps.length c0] 32)).alloc (.cells #[.int .i64 0, .int .i64 0, .int .i64 0, .int .i64 0, .slice none 0 0] 32)) (laneCells proc s (.slice none 0 0)) 32
    have hs : ((w.alloc (.cells #[.int .i64 proc, .int .i64 s.x, .int .i64 s.y, .int .i64 s.c, .slice a0 ps.length c0] 32)).alloc (.cells #[.int .i64 0, .int .i64 0, .int .i64 0, .int .i64 0, .slice none 0 0] 32)).heap.size = w.heap.size + 2 := by simp
    rw [hs] at e
    exact e
  have HB2 := hide hb2
  have HA := hide cA
  have HRR := hide rR
  have HRL := hide rL
  clear hb2 cA rR rL hcc hl
  go_enter Try.func57, Try.ntmps57
  go_upto_region 2 with fail
  generalize (((w.alloc (.cells #[.int .i64 proc, .int .i64 s.x, .int .i64 s.y, .int .i64 s.c, .slice a0 ps.length c0] 32)).alloc (.cells #[.int .i64 0, .int .i64 0, .int .i64 0, .int .i64 0, .slice none 0 0] 32)).alloc (.cells #[.int .i64 proc, .int .i64 s.x, .int .i64 s.y, .int .i64 s.c, .slice none 0 0] 32)) = X at *
  go_wp2_with fail
  go_loopw [8] (fun l wr => ∃ (k : Nat) (va : Option Addr) (vc : Nat) (us : List (Value × Value)), a + k ≤ b ∧ l = .int .i64 ((a + k : Nat) : Int) ∧ Hid (Taken (w.heap.size + 3) wr (w.heap.size + 2) proc s (.slice va k vc) us ((ps.take (a + k)).drop a)) ∧ Hid (wr.rowIs (w.heap.size + 1) 32 5 (fun i => ([Value.int .i64 0, .int .i64 0, .int .i64 0, .int .i64 0, .slice none 0 0] : List Value).getD i undef)) ∧ Hid (CellsAt wr w.heap.size 0 (laneCells proc s (.slice a0 ps.length c0))) ∧ Hid (Below w.heap.size w wr)) (fun l _ => b - (intOf l).toNat)
  case atStart =>
    refine ⟨0, none, 0, [], by omega, by simp, hide ⟨unhide HRL, Or.inl ⟨rfl, ?_, rfl⟩, by simp [blocksOf, Value.ownBlock]⟩, HRR, HA, HB2⟩
    simp
  case round =>
    obtain ⟨k, va, vc, us, hk, rfl, HT, HRES, HBX, HB⟩ := hrel
    have hsz : w.heap.size + 3 ≤ wr.heap.size := by have h1 := (unhide HT).row.lt; omega
    have n4 : wr.cell? ⟨w.heap.size, 4, none⟩ = some (.slice a0 ps.length c0) := (unhide HBX) 4 (by simp)
    by_cases hlt : a + k < b
    · have hltp : a + k < ps.length := by omega
      have hI1 : ((a + k : Nat) : Int) < (b : Int) := by omega
      have hI2 : ((a + k : Nat) : Int) < (ps.length : Int) := by omega
      have hI0 : (0 : Int) ≤ ((a + k : Nat) : Int) := by omega
      obtain ⟨bb, off, vs, vo, had, hcl, hpa⟩ : ∃ b off vs vo, a0 = some ⟨b, off, none⟩ ∧ CellsAt wr b (off + (a + k) * 12) (pastCells ps[a + k] vs vo) ∧ PastAt wr vs vo ps[a + k] := by
        rcases unhide HC with h | ⟨b, off, h1, h2⟩
        · rw [h] at hltp; exact absurd hltp (Nat.not_lt_zero _)
        · obtain ⟨vs, vo, h3, h4⟩ := h2 (a + k) hltp
          exact ⟨b, off, vs, vo, h1, h3.on (unhide HB), h4.on (unhide HB)⟩
      subst had
      have hlp := (unhide HL) ps[a + k] (List.getElem_mem hltp)
      have HTK : Hid ((ps.take (a + (k + 1))).drop a = (ps.take (a + k)).drop a ++ [ps[a + k]]) := hide (by
        rw [show a + (k + 1) = a + k + 1 by omega, take_more ps (a + k) hltp, List.drop_append_of_le_length (by simp; omega)])
      obtain ⟨p, hpe⟩ : ∃ p, p = ps[a + k] := ⟨_, rfl⟩
      rw [← hpe] at hcl hpa hlp HTK
      clear hpe
      obtain ⟨a1, c1, e1, _⟩ := hpa.s
      obtain ⟨a2, c2, e2, _⟩ := hpa.o
      rw [List.length_map] at e1 e2
      subst e1 e2
      have hkl : k ≤ 1048576 := by omega
      generalize hj : a + k = j at *
      have HJ := hide hj
      have q0 : wr.cell? ⟨bb, off + j * 12, none⟩ = some (.int .i64 p.ev.time) := hcl 0 (by simp)
      have q1 : wr.cell? ⟨bb, off + j * 12 + 1, none⟩ = some (.int .i64 p.ev.to) := hcl 1 (by simp)
      have q2 : wr.cell? ⟨bb, off + j * 12 + 2, none⟩ = some (.int .i64 p.ev.src) := hcl 2 (by simp)
      have q3 : wr.cell? ⟨bb, off + j * 12 + 3, none⟩ = some (.int .i64 p.ev.count) := hcl 3 (by simp)
      have q4 : wr.cell? ⟨bb, off + j * 12 + 4, none⟩ = some (.int .i64 p.ev.n) := hcl 4 (by simp)
      have q5 : wr.cell? ⟨bb, off + j * 12 + 5, none⟩ = some (.int .i64 p.ev.kind) := hcl 5 (by simp)
      have q6 : wr.cell? ⟨bb, off + j * 12 + 6, none⟩ = some (.int .i64 p.ev.arg) := hcl 6 (by simp)
      have q7 : wr.cell? ⟨bb, off + j * 12 + 7, none⟩ = some (.int .i64 p.st.x) := hcl 7 (by simp)
      have q8 : wr.cell? ⟨bb, off + j * 12 + 8, none⟩ = some (.int .i64 p.st.y) := hcl 8 (by simp)
      have q9 : wr.cell? ⟨bb, off + j * 12 + 9, none⟩ = some (.int .i64 p.st.c) := hcl 9 (by simp)
      have q10 : wr.cell? ⟨bb, off + j * 12 + 10, none⟩ = some (.slice a1 p.sends.length c1) := hcl 10 (by simp)
      have q11 : wr.cell? ⟨bb, off + j * 12 + 11, none⟩ = some (.slice a2 p.outs.length c2) := hcl 11 (by simp)
      have hbY : Below wr.heap.size wr (wr.alloc (.cells #[.int .i64 p.ev.time, .int .i64 p.ev.to, .int .i64 p.ev.src, .int .i64 p.ev.count, .int .i64 p.ev.n, .int .i64 p.ev.kind, .int .i64 p.ev.arg, .int .i64 p.st.x, .int .i64 p.st.y, .int .i64 p.st.c, .slice a1 p.sends.length c1, .slice a2 p.outs.length c2] 65)) := (Below.refl _ _).alloc (Nat.le_refl _) _
      have HLC := hide (cellsAt_new wr (pastCells p (.slice a1 p.sends.length c1) (.slice a2 p.outs.length c2)) 65)
      have HPY := hide (hpa.on hbY)
      have HY := hide hbY
      have HKD : Hid ((wr.alloc (.cells #[.int .i64 p.ev.time, .int .i64 p.ev.to, .int .i64 p.ev.src, .int .i64 p.ev.count, .int .i64 p.ev.n, .int .i64 p.ev.kind, .int .i64 p.ev.arg, .int .i64 p.st.x, .int .i64 p.st.y, .int .i64 p.st.c, .slice a1 p.sends.length c1, .slice a2 p.outs.length c2] 65)).cell? ⟨w.heap.size + 2, 4, none⟩ = some (.slice va k vc)) := hide (cell_on hbY ((unhide HT).row.cell (i := 4) (by omega)))
      have hsY : wr.heap.size < (wr.alloc (.cells #[.int .i64 p.ev.time, .int .i64 p.ev.to, .int .i64 p.ev.src, .int .i64 p.ev.count, .int .i64 p.ev.n, .int .i64 p.ev.kind, .int .i64 p.ev.arg, .int .i64 p.st.x, .int .i64 p.st.y, .int .i64 p.st.c, .slice a1 p.sends.length c1, .slice a2 p.outs.length c2] 65)).heap.size := by simp
      have HSY := hide hsY
      clear hcl hpa hbY hj hsY
      go_upto_region 6 with fail
      clear q0 q1 q2 q3 q4 q5 q6 q7 q8 q9 q10 q11
      generalize (wr.alloc (.cells #[.int .i64 p.ev.time, .int .i64 p.ev.to, .int .i64 p.ev.src, .int .i64 p.ev.count, .int .i64 p.ev.n, .int .i64 p.ev.kind, .int .i64 p.ev.arg, .int .i64 p.st.x, .int .i64 p.st.y, .int .i64 p.st.c, .slice a1 p.sends.length c1, .slice a2 p.outs.length c2] 65)) = Y at *
      have hrY : wr.heap.size < Y.heap.size := unhide HSY
      have kd := unhide HKD
      clear n4
      refine wp_region_last (L := 18) (S := fun w' : World => w'.cell? ⟨w.heap.size + 2, 4, none⟩ = some (.slice va k vc) ∧ w'.cell? ⟨wr.heap.size, 0, none⟩ = some (.int .i64 p.ev.time) ∧ w'.cell? ⟨wr.heap.size, 1, none⟩ = some (.int .i64 p.ev.to) ∧ w'.cell? ⟨wr.heap.size, 2, none⟩ = some (.int .i64 p.ev.src) ∧ w'.cell? ⟨wr.heap.size, 3, none⟩ = some (.int .i64 p.ev.count) ∧ w'.cell? ⟨wr.heap.size, 4, none⟩ = some (.int .i64 p.ev.n) ∧ w'.cell? ⟨wr.heap.size, 5, none⟩ = some (.int .i64 p.ev.kind) ∧ w'.cell? ⟨wr.heap.size, 6, none⟩ = some (.int .i64 p.ev.arg) ∧ w'.cell? ⟨wr.heap.size, 7, none⟩ = some (.int .i64 p.st.x) ∧ w'.cell? ⟨wr.heap.size, 8, none⟩ = some (.int .i64 p.st.y) ∧ w'.cell? ⟨wr.heap.size, 9, none⟩ = some (.int .i64 p.st.c) ∧ w'.cell? ⟨wr.heap.size, 10, none⟩ = some (.slice a1 p.sends.length c1) ∧ w'.cell? ⟨wr.heap.size, 11, none⟩ = some (.slice a2 p.outs.length c2)) (by kernel_rfl) ?_
      have hHeld : (fun w' : World => w'.cell? ⟨w.heap.size + 2, 4, none⟩ = some (.slice va k vc) ∧ w'.cell? ⟨wr.heap.size, 0, none⟩ = some (.int .i64 p.ev.time) ∧ w'.cell? ⟨wr.heap.size, 1, none⟩ = some (.int .i64 p.ev.to) ∧ w'.cell? ⟨wr.heap.size, 2, none⟩ = some (.int .i64 p.ev.src) ∧ w'.cell? ⟨wr.heap.size, 3, none⟩ = some (.int .i64 p.ev.count) ∧ w'.cell? ⟨wr.heap.size, 4, none⟩ = some (.int .i64 p.ev.n) ∧ w'.cell? ⟨wr.heap.size, 5, none⟩ = some (.int .i64 p.ev.kind) ∧ w'.cell? ⟨wr.heap.size, 6, none⟩ = some (.int .i64 p.ev.arg) ∧ w'.cell? ⟨wr.heap.size, 7, none⟩ = some (.int .i64 p.st.x) ∧ w'.cell? ⟨wr.heap.size, 8, none⟩ = some (.int .i64 p.st.y) ∧ w'.cell? ⟨wr.heap.size, 9, none⟩ = some (.int .i64 p.st.c) ∧ w'.cell? ⟨wr.heap.size, 10, none⟩ = some (.slice a1 p.sends.length c1) ∧ w'.cell? ⟨wr.heap.size, 11, none⟩ = some (.slice a2 p.outs.length c2)) Y.drew := ⟨cell_on (Below.refl _ _).drew kd, ((unhide HLC).on (Below.refl _ _).drew) 0 (by simp), ((unhide HLC).on (Below.refl _ _).drew) 1 (by simp), ((unhide HLC).on (Below.refl _ _).drew) 2 (by simp), ((unhide HLC).on (Below.refl _ _).drew) 3 (by simp), ((unhide HLC).on (Below.refl _ _).drew) 4 (by simp), ((unhide HLC).on (Below.refl _ _).drew) 5 (by simp), ((unhide HLC).on (Below.refl _ _).drew) 6 (by simp), ((unhide HLC).on (Below.refl _ _).drew) 7 (by simp), ((unhide HLC).on (Below.refl _ _).drew) 8 (by simp), ((unhide HLC).on (Below.refl _ _).drew) 9 (by simp), ((unhide HLC).on (Below.refl _ _).drew) 10 (by simp), ((unhide HLC).on (Below.refl _ _).drew) 11 (by simp)⟩
      refine wpAnyL_take (i := 0) (v := ?_) (by kernel_rfl) rfl (by kernel_rfl) (by kernel_rfl) (by kernel_rfl) (fun _ _ _ h => h) hHeld (Or.inl ⟨by kernel_rfl, ?_⟩) ?_
      rotate_left
      · (intro w hSw; (try dsimp only at hSw); obtain ⟨s0, s1, s2, s3, s4, s5, s6, s7, s8, s9, s10, s11, s12⟩ := hSw; go_simp; try with_reducible rfl)
      refine wpAnyL_take (i := 1) (v := ?_) (by kernel_rfl) rfl (by kernel_rfl) (by kernel_rfl) (by kernel_rfl) (fun _ _ _ h => h) hHeld (Or.inl ⟨by kernel_rfl, ?_⟩) ?_
      rotate_left
      · (intro w hSw; (try dsimp only at hSw); obtain ⟨s0, s1, s2, s3, s4, s5, s6, s7, s8, s9, s10, s11, s12⟩ := hSw; go_simp; try with_reducible rfl)
      refine wpAnyL_take (i := 2) (v := ?_) (by kernel_rfl) rfl (by kernel_rfl) (by kernel_rfl) (by kernel_rfl) (fun _ _ _ h => h) hHeld (Or.inl ⟨by kernel_rfl, ?_⟩) ?_
      rotate_left
      · (intro w hSw; (try dsimp only at hSw); obtain ⟨s0, s1, s2, s3, s4, s5, s6, s7, s8, s9, s10, s11, s12⟩ := hSw; go_simp; try with_reducible rfl)
      refine wpAnyL_take (i := 3) (v := ?_) (by kernel_rfl) rfl (by kernel_rfl) (by kernel_rfl) (by kernel_rfl) (fun _ _ _ h => h) hHeld (Or.inl ⟨by kernel_rfl, ?_⟩) ?_
      rotate_left
      · (intro w hSw; (try dsimp only at hSw); obtain ⟨s0, s1, s2, s3, s4, s5, s6, s7, s8, s9, s10, s11, s12⟩ := hSw; go_simp; try with_reducible rfl)
      refine wpAnyL_take (i := 4) (v := ?_) (by kernel_rfl) rfl (by kernel_rfl) (by kernel_rfl) (by kernel_rfl) (fun _ _ _ h => h) hHeld (Or.inl ⟨by kernel_rfl, ?_⟩) ?_
      rotate_left
      · (intro w hSw; (try dsimp only at hSw); obtain ⟨s0, s1, s2, s3, s4, s5, s6, s7, s8, s9, s10, s11, s12⟩ := hSw; go_simp; try with_reducible rfl)
      refine wpAnyL_take (i := 5) (v := ?_) (by kernel_rfl) rfl (by kernel_rfl) (by kernel_rfl) (by kernel_rfl) (fun _ _ _ h => h) hHeld (Or.inl ⟨by kernel_rfl, ?_⟩) ?_
      rotate_left
      · (intro w hSw; (try dsimp only at hSw); obtain ⟨s0, s1, s2, s3, s4, s5, s6, s7, s8, s9, s10, s11, s12⟩ := hSw; go_simp; try with_reducible rfl)
      refine wpAnyL_take (i := 7) (v := ?_) (by kernel_rfl) rfl (by kernel_rfl) (by kernel_rfl) (by kernel_rfl) (fun _ _ _ h => h) hHeld (Or.inl ⟨by kernel_rfl, ?_⟩) ?_
      rotate_left
      · (intro w hSw; (try dsimp only at hSw); obtain ⟨s0, s1, s2, s3, s4, s5, s6, s7, s8, s9, s10, s11, s12⟩ := hSw; go_simp; try with_reducible rfl)
      refine wpAnyL_take (i := 8) (v := ?_) (by kernel_rfl) rfl (by kernel_rfl) (by kernel_rfl) (by kernel_rfl) (fun _ _ _ h => h) hHeld (Or.inl ⟨by kernel_rfl, ?_⟩) ?_
      rotate_left
      · (intro w hSw; (try dsimp only at hSw); obtain ⟨s0, s1, s2, s3, s4, s5, s6, s7, s8, s9, s10, s11, s12⟩ := hSw; go_simp; try with_reducible rfl)
      refine wpAnyL_take (i := 11) (v := ?_) (by kernel_rfl) rfl (by kernel_rfl) (by kernel_rfl) (by kernel_rfl) (fun _ _ _ h => h) hHeld (Or.inl ⟨by kernel_rfl, ?_⟩) ?_
      rotate_left
      · (intro w hSw; (try dsimp only at hSw); obtain ⟨s0, s1, s2, s3, s4, s5, s6, s7, s8, s9, s10, s11, s12⟩ := hSw; go_simp; try with_reducible rfl)
      refine wpAnyL_take (i := 12) (v := ?_) (by kernel_rfl) rfl (by kernel_rfl) (by kernel_rfl) (by kernel_rfl) (fun _ _ _ h => h) hHeld (Or.inl ⟨by kernel_rfl, ?_⟩) ?_
      rotate_left
      · (intro w hSw; (try dsimp only at hSw); obtain ⟨s0, s1, s2, s3, s4, s5, s6, s7, s8, s9, s10, s11, s12⟩ := hSw; go_simp; try with_reducible rfl)
      refine wpAnyL_two (i := 6) (j := 10) (by kernel_rfl) rfl rfl (fun K hK => ?_) (fun K hK => ?_)
      · go_simp
        have hb6 : Below Y.heap.size Y (Y.alloc (.cells #[] 41)).drew := ((Below.refl _ _).alloc (Nat.le_refl _) _).drew
        have own6 : (Y.alloc (.cells #[] 41)).drew.ownsRow Y.heap.size 41 7 (.slice (some ⟨Y.heap.size, 0, none⟩) 0 0) 0 [] := ownsOn ((Below.refl _ _).drew) (World.ownsRow_made Y #[] 0 (Nat.le_refl _) (Nat.zero_le _) rfl)
        (try go_simp)
        refine held_on hK ?_ (fun hHeld => ?_)
        · exact ⟨cell_on hb6 kd, ((unhide HLC).on hb6) 0 (by simp), ((unhide HLC).on hb6) 1 (by simp), ((unhide HLC).on hb6) 2 (by simp), ((unhide HLC).on hb6) 3 (by simp), ((unhide HLC).on hb6) 4 (by simp), ((unhide HLC).on hb6) 5 (by simp), ((unhide HLC).on hb6) 6 (by simp), ((unhide HLC).on hb6) 7 (by simp), ((unhide HLC).on hb6) 8 (by simp), ((unhide HLC).on hb6) 9 (by simp), ((unhide HLC).on hb6) 10 (by simp), ((unhide HLC).on hb6) 11 (by simp)⟩
        clear hK K
        refine wpAnyL_two (i := 9) (j := 10) (by kernel_rfl) rfl rfl (fun K hK => ?_) (fun K hK => ?_)
        · refine step_append_rowsAt ((Y.alloc (.cells #[] 41)).drew) (by rfl) _ _ _ (by rfl) Y.heap.size 41 i7 _ 7 56 slice_cpEvent hi7 hz70 hz71 hz72 (by rfl) (by omega) _ 0 [] (by rfl) own6 (p.sends.map evRow) _ (by rfl) ((unhide HPY).s.on hb6) (rowlenEvent p.sends) (by rw [List.length_map]; unfold maxLen; omega) (by rw [List.length_map]; omega) (hb6).size ?_
          intro ve w9 howne hgrowe hate
          obtain ⟨ua, uc, hve⟩ : ∃ a c, ve = .slice a p.sends.length c := by
            have e := howne
            rw [Nat.zero_add, List.nil_append] at e
            obtain ⟨a, c, h⟩ := RowsFr_sliced (RowsFr.of_owns (rowlenEvent p.sends) e)
            exact ⟨a, c, by rw [h, List.length_map]⟩
          subst hve
          have hb9 : Below Y.heap.size Y w9 := Below.grown hb6 hgrowe hb6.size (fun b hb => by simp [Value.ownBlock] at hb; omega)
          have hl9 : ∀ b, (Value.slice ua p.sends.length uc).ownBlock = some b → b < w9.heap.size := fun b hb => (howne.lt b hb).2
          (try go_simp)
          refine held_on hK ?_ (fun hHeld => ?_)
          · exact ⟨cell_on hb9 kd, ((unhide HLC).on hb9) 0 (by simp), ((unhide HLC).on hb9) 1 (by simp), ((unhide HLC).on hb9) 2 (by simp), ((unhide HLC).on hb9) 3 (by simp), ((unhide HLC).on hb9) 4 (by simp), ((unhide HLC).on hb9) 5 (by simp), ((unhide HLC).on hb9) 6 (by simp), ((unhide HLC).on hb9) 7 (by simp), ((unhide HLC).on hb9) 8 (by simp), ((unhide HLC).on hb9) 9 (by simp), ((unhide HLC).on hb9) 10 (by simp), ((unhide HLC).on hb9) 11 (by simp)⟩
          clear hK K
          refine wpAnyL_one (i := 10) (by kernel_rfl) rfl (fun K hK => ?_)
          go_simp
          have hb10 : Below Y.heap.size Y (w9.alloc (.cells #[] 92)) := below_then hb9 ((Below.refl _ _).alloc (Nat.le_refl _) _)
          have own10 : (w9.alloc (.cells #[] 92)).ownsRow Y.heap.size 92 5 (.slice (some ⟨w9.heap.size, 0, none⟩) 0 0) 0 [] := World.ownsRow_made w9 #[] 0 hb9.size (Nat.zero_le _) rfl
          (try go_simp)
          refine held_on hK ?_ (fun hHeld => ?_)
          · exact ⟨cell_on hb10 kd, ((unhide HLC).on hb10) 0 (by simp), ((unhide HLC).on hb10) 1 (by simp), ((unhide HLC).on hb10) 2 (by simp), ((unhide HLC).on hb10) 3 (by simp), ((unhide HLC).on hb10) 4 (by simp), ((unhide HLC).on hb10) 5 (by simp), ((unhide HLC).on hb10) 6 (by simp), ((unhide HLC).on hb10) 7 (by simp), ((unhide HLC).on hb10) 8 (by simp), ((unhide HLC).on hb10) 9 (by simp), ((unhide HLC).on hb10) 10 (by simp), ((unhide HLC).on hb10) 11 (by simp)⟩
          clear hK K
          refine wpAnyL_one (i := 13) (by kernel_rfl) rfl (fun K hK => ?_)
          refine step_append_rowsAt (w9.alloc (.cells #[] 92)) (by rfl) _ _ _ (by rfl) Y.heap.size 92 i5 _ 5 40 slice_cpOut hi5 hz50 hz51 hz52 (by rfl) (by omega) _ 0 [] (by rfl) own10 (p.outs.map outRow) _ (by rfl) ((unhide HPY).o.on hb10) (rowlenOut p.outs) (by rw [List.length_map]; unfold maxLen; omega) (by rw [List.length_map]; omega) (hb10).size ?_
          intro vo2 wz howno hgrowo hato
          obtain ⟨oa, oc, hvo⟩ : ∃ a c, vo2 = .slice a p.outs.length c := by
            have e := howno
            rw [Nat.zero_add, List.nil_append] at e
            obtain ⟨a, c, h⟩ := RowsFr_sliced (RowsFr.of_owns (rowlenOut p.outs) e)
            exact ⟨a, c, by rw [h, List.length_map]⟩
          subst hvo
          have hbz : Below Y.heap.size Y wz := Below.grown hb10 hgrowo hb10.size (fun b hb => by simp [Value.ownBlock] at hb; have := hb9.size; omega)
          have hBL : BothL Y wz p (.slice ua p.sends.length uc) (.slice oa p.outs.length oc) := both_of (re := none) (ro := none) howne howno (fun b hb => (hgrowo.block b (by have := hl9 b hb; simp; omega) (fun e => by simp [Value.ownBlock] at e; have := hl9 b hb; omega)).trans (((Below.refl _ _).alloc (Nat.le_refl _) _).block b (hl9 b hb))) (fun b h1 h2 => by have h3 := hl9 b h1; rcases hato with h4 | h4 <;> rw [h4] at h2 <;> simp [Value.ownBlock] at h2 <;> omega) hbz
          (try go_simp)
          refine held_on hK ?_ (fun hHeld => ?_)
          · exact ⟨cell_on hbz kd, ((unhide HLC).on hbz) 0 (by simp), ((unhide HLC).on hbz) 1 (by simp), ((unhide HLC).on hbz) 2 (by simp), ((unhide HLC).on hbz) 3 (by simp), ((unhide HLC).on hbz) 4 (by simp), ((unhide HLC).on hbz) 5 (by simp), ((unhide HLC).on hbz) 6 (by simp), ((unhide HLC).on hbz) 7 (by simp), ((unhide HLC).on hbz) 8 (by simp), ((unhide HLC).on hbz) 9 (by simp), ((unhide HLC).on hbz) 10 (by simp), ((unhide HLC).on hbz) 11 (by simp)⟩
          clear hK K
          have HF := hide hBL.fr
          have HAP := hide hBL.ap
          have HZ := hide hBL.be
          clear hBL
          clear howne hgrowe hate howno hgrowo hato hbz hb10 own10 hb9 hl9 hb6 own6
          refine wpAnyL_one (i := 14) (by kernel_rfl) rfl (fun K hK => ?_)
          go_simp
          refine held_on hK ?_ (fun hHeld => ?_)
          · exact hHeld
          clear hK K
          have hbA : Below Y.heap.size Y (wz.alloc (.cells #[.int .i64 p.ev.time, .int .i64 p.ev.to, .int .i64 p.ev.src, .int .i64 p.ev.count, .int .i64 p.ev.n, .int .i64 p.ev.kind, .int .i64 p.ev.arg, .int .i64 p.st.x, .int .i64 p.st.y, .int .i64 p.st.c, .slice ua p.sends.length uc, .slice oa p.outs.length oc] 65)) := below_then (unhide HZ) ((Below.refl _ _).alloc (Nat.le_refl _) _)
          have HYA := hide hbA
          have HBA := hide (below_then (unhide HY) hbA)
          clear hbA
          refine wpAnyL_one (i := 15) (by kernel_rfl) rfl (fun K hK => ?_)
          go_simp
          refine held_on hK ?_ (fun hHeld => ?_)
          · exact ⟨cell_on (unhide HYA) kd, ((unhide HLC).on (unhide HYA)) 0 (by simp), ((unhide HLC).on (unhide HYA)) 1 (by simp), ((unhide HLC).on (unhide HYA)) 2 (by simp), ((unhide HLC).on (unhide HYA)) 3 (by simp), ((unhide HLC).on (unhide HYA)) 4 (by simp), ((unhide HLC).on (unhide HYA)) 5 (by simp), ((unhide HLC).on (unhide HYA)) 6 (by simp), ((unhide HLC).on (unhide HYA)) 7 (by simp), ((unhide HLC).on (unhide HYA)) 8 (by simp), ((unhide HLC).on (unhide HYA)) 9 (by simp), ((unhide HLC).on (unhide HYA)) 10 (by simp), ((unhide HLC).on (unhide HYA)) 11 (by simp)⟩
          clear hK K
          have HLTK : Hid (((ps.take j).drop a).length = k) := hide (by have := unhide HJ; simp; omega)
          have hownA : (wz.alloc (.cells #[.int .i64 p.ev.time, .int .i64 p.ev.to, .int .i64 p.ev.src, .int .i64 p.ev.count, .int .i64 p.ev.n, .int .i64 p.ev.kind, .int .i64 p.ev.arg, .int .i64 p.st.x, .int .i64 p.st.y, .int .i64 p.st.c, .slice ua p.sends.length uc, .slice oa p.outs.length oc] 65)).ownsRow (w.heap.size + 3) 65 12 (.slice va k vc) k (flatP us ((ps.take j).drop a)) := by
            have e := ownsOn (unhide HBA) (unhide HT).list.owns.2
            rwa [unhide HLTK] at e
          refine wpAnyL_one (i := 16) (by kernel_rfl) rfl (fun K hK => ?_)
          refine step_append_lies _ (by rfl) _ _ _ (by rfl) (w.heap.size + 3) 65 i12 _ 12 128 slice_cpPast hi12 hz0 hz1 hz2 (by rfl) (by omega) (.slice va k vc) k (flatP us ((ps.take j).drop a)) (by rfl) hownA ⟨wz.heap.size, 0, none⟩ 1 1 (pastCells p (.slice ua p.sends.length uc) (.slice oa p.outs.length oc)) (by rfl) (by rfl) (World.news_of_block (cs := #[.int .i64 p.ev.time, .int .i64 p.ev.to, .int .i64 p.ev.src, .int .i64 p.ev.count, .int .i64 p.ev.n, .int .i64 p.ev.kind, .int .i64 p.ev.arg, .int .i64 p.st.x, .int .i64 p.st.y, .int .i64 p.st.c, .slice ua p.sends.length uc, .slice oa p.outs.length oc]) (t := 65) (fr := (0, 0)) (heap_alloc_new wz _)) (by simp [Value.oneCell']) (by omega) (by unfold maxLen; omega) (by omega) (by have h1 := (unhide HBA).size; omega) (wz.alloc (.cells #[.int .i64 p.ev.time, .int .i64 p.ev.to, .int .i64 p.ev.src, .int .i64 p.ev.count, .int .i64 p.ev.n, .int .i64 p.ev.kind, .int .i64 p.ev.arg, .int .i64 p.st.x, .int .i64 p.st.y, .int .i64 p.st.c, .slice ua p.sends.length uc, .slice oa p.outs.length oc] 65)).heap.size rfl ?_
          intro g3 cap3 w8 hown8 hgrow8 hat8 hlt8
          have hown9 : w8.ownsRow (w.heap.size + 3) 65 12 (.slice (some ⟨g3, 0, none⟩) (((ps.take j).drop a).length + 1) cap3) (((ps.take j).drop a).length + 1) (flatP us ((ps.take j).drop a) ++ pastCells p (.slice ua p.sends.length uc) (.slice oa p.outs.length oc)) := by
            rw [unhide HLTK]; exact hown8
          have hsn := pasts_snoc (unhide HT).list (unhide HT).nd (Nat.le_refl _) (by omega) (unhide HBA) (K := wr.heap.size) (Nat.le_refl _) (((unhide HF).less (unhide HY).size).on ((Below.refl _ _).alloc (Nat.le_refl _) _)) (unhide HAP) hgrow8 hown9 hat8 hlt8
          rw [← unhide HTK, show ((ps.take (a + (k + 1))).drop a).length = k + 1 by have := unhide HJ; simp; omega] at hsn
          have hrowb : ∀ b, b < w.heap.size + 3 → w8.heap[b]? = wr.heap[b]? := fun b hb => by
            rw [hgrow8.block b (by have h1 := (unhide HBA).size; omega) (fun e => by have := ((unhide HT).list.blk b e.symm).1; omega), (unhide HBA).block b (by omega)]
          have hrowr : w8.heap[wr.heap.size]? = Y.heap[wr.heap.size]? := by
            rw [hgrow8.block wr.heap.size (by have h1 := (unhide HYA).size; omega) (fun e => by have := ((unhide HT).list.blk wr.heap.size e.symm).2; omega), (unhide HYA).block wr.heap.size hrY]
          have hB8 : Below w.heap.size w w8 := Below.grown (below_then (unhide HB) (unhide HBA)) hgrow8 (by have h1 := (unhide HBA).size; omega) (fun b hb => by have := ((unhide HT).list.blk b hb).1; omega)
          have HSN := hide hsn
          have HB8 := hide hB8
          have hr8 := (unhide HT).row.of_block (hrowb (w.heap.size + 2) (by omega))
          have hs8 := (unhide HRES).of_block (hrowb (w.heap.size + 1) (by omega))
          have HBX8 : Hid (CellsAt w8 w.heap.size 0 (laneCells proc s (.slice (some ⟨bb, off, none⟩) ps.length c0))) := hide (fun j hj => (World.cell?_of_block (a := ⟨w.heap.size, 0 + j, none⟩) (hrowb w.heap.size (by omega))).trans ((unhide HBX) j hj))
          have k8 : w8.cell? ⟨w.heap.size + 2, 4, none⟩ = some (.slice va k vc) := hr8.cell (i := 4) (by omega)
          have f8 := hr8.frozen 4
          have hc8 : ∀ j u, Y.cell? ⟨wr.heap.size, j, none⟩ = some u → w8.cell? ⟨wr.heap.size, j, none⟩ = some u := fun j u hu => (World.cell?_of_block (a := ⟨wr.heap.size, j, none⟩) hrowr).trans hu
          have HR8 := hide hr8
          have HS8 := hide hs8
          refine held_on hK ?_ (fun hHeld => ?_)
          · exact ⟨k8, hc8 0 _ ((unhide HLC) 0 (by simp)), hc8 1 _ ((unhide HLC) 1 (by simp)), hc8 2 _ ((unhide HLC) 2 (by simp)), hc8 3 _ ((unhide HLC) 3 (by simp)), hc8 4 _ ((unhide HLC) 4 (by simp)), hc8 5 _ ((unhide HLC) 5 (by simp)), hc8 6 _ ((unhide HLC) 6 (by simp)), hc8 7 _ ((unhide HLC) 7 (by simp)), hc8 8 _ ((unhide HLC) 8 (by simp)), hc8 9 _ ((unhide HLC) 9 (by simp)), hc8 10 _ ((unhide HLC) 10 (by simp)), hc8 11 _ ((unhide HLC) 11 (by simp))⟩
          clear hK K hsn hrowb hrowr hB8 hr8 hs8 hown8 hown9 hgrow8 hat8 hlt8 hownA hc8
          refine wpAnyL_one (i := 17) (by kernel_rfl) rfl (fun K hK => ?_)
          go_simp
          refine held_on hK ?_ (fun hHeld => ?_)
          · exact hHeld
          clear hK K
          refine wpAnyL_end (by kernel_rfl) rfl (fun K hK => ?_)
          go_simp
          refine hK.out _ _ ?_
          clear hK K hHeld
          refine wpAnyL_done (by kernel_rfl) ?_ _
          have HT2 : Hid (Taken (w.heap.size + 3) (w8.setCell ⟨w.heap.size + 2, 4, none⟩ (.slice (some ⟨g3, 0, none⟩) (k + 1) cap3)) (w.heap.size + 2) proc s (.slice (some ⟨g3, 0, none⟩) (k + 1) cap3) (us ++ [(.slice ua p.sends.length uc, .slice oa p.outs.length oc)]) ((ps.take (a + (k + 1))).drop a)) := hide (by
            refine ⟨((unhide HR8).set 4 _).congr (fun i hi => ?_), ?_, (unhide HSN).2⟩
            · show (if i = 4 then _ else _) = _
              match i, hi with
              | 0, _ => rfl
              | 1, _ => rfl
              | 2, _ => rfl
              | 3, _ => rfl
              | 4, _ => rfl
            · have h1 := (unhide HSN).1
              rw [show (w8.setCell ⟨w.heap.size + 2, 4, none⟩ (.slice (some ⟨g3, 0, none⟩) (k + 1) cap3)).heap.size = w8.heap.size by simp]
              exact h1.keep (fun b hb _ => Below.heap_setCell w8 ⟨w.heap.size + 2, 4, none⟩ _ b (by show b ≠ w.heap.size + 2; omega)))
          have HS2 := hide ((unhide HS8).of_block (Below.heap_setCell w8 ⟨w.heap.size + 2, 4, none⟩ (.slice (some ⟨g3, 0, none⟩) (k + 1) cap3) (w.heap.size + 1) (by show w.heap.size + 1 ≠ w.heap.size + 2; omega)))
          have HBX2 : Hid (CellsAt (w8.setCell ⟨w.heap.size + 2, 4, none⟩ (.slice (some ⟨g3, 0, none⟩) (k + 1) cap3)) w.heap.size 0 (laneCells proc s (.slice (some ⟨bb, off, none⟩) ps.length c0))) := hide (fun j hj => (World.cell?_of_block (a := ⟨w.heap.size, 0 + j, none⟩) (Below.heap_setCell w8 ⟨w.heap.size + 2, 4, none⟩ _ w.heap.size (by show w.heap.size ≠ w.heap.size + 2; omega))).trans ((unhide HBX8) j hj))
          have HB2 := hide ((unhide HB8).setCell (p := ⟨w.heap.size + 2, 4, none⟩) (by show w.heap.size ≤ w.heap.size + 2; omega) (.slice (some ⟨g3, 0, none⟩) (k + 1) cap3))
          generalize (w8.setCell ⟨w.heap.size + 2, 4, none⟩ (.slice (some ⟨g3, 0, none⟩) (k + 1) cap3)) = w9 at *
          clear k8 f8 kd
          go_wp2_with fail
          go_roundw
          case rel => exact ⟨k + 1, _, _, _, by have := unhide HJ; omega, by rw [show ((a + (k + 1) : Nat) : Int) = (j : Int) + 1 by have := unhide HJ; omega], HT2, HS2, HBX2, HB2⟩
          case measure => (simp [intOf]; omega)
        · go_simp
          have hbW : Below Y.heap.size Y ((Y.alloc (.cells #[] 41)).alloc (.cells #[] 92)).drew := (((Below.refl _ _).alloc (Nat.le_refl _) _).alloc (by simp) _).drew
          have ownE : ((Y.alloc (.cells #[] 41)).alloc (.cells #[] 92)).drew.ownsRow Y.heap.size 41 7 (.slice (some ⟨Y.heap.size, 0, none⟩) 0 0) 0 [] := ownsOn ((Below.refl _ _).drew) ((World.ownsRow_made Y #[] 0 (Nat.le_refl _) (Nat.zero_le _) rfl).alloc _)
          have ownO : ((Y.alloc (.cells #[] 41)).alloc (.cells #[] 92)).drew.ownsRow Y.heap.size 92 5 (.slice (some ⟨Y.heap.size + 1, 0, none⟩) 0 0) 0 [] := by
            have e := World.ownsRow_made (base := Y.heap.size) (e := 92) (size := 5) (Y.alloc (.cells #[] 41)) #[] 0 (by simp) (Nat.zero_le _) rfl
            rw [show (Y.alloc (.cells #[] 41)).heap.size = Y.heap.size + 1 by simp] at e
            exact ownsOn ((Below.refl _ _).drew) e
          (try go_simp)
          refine held_on hK ?_ (fun hHeld => ?_)
          · exact ⟨cell_on hbW kd, ((unhide HLC).on hbW) 0 (by simp), ((unhide HLC).on hbW) 1 (by simp), ((unhide HLC).on hbW) 2 (by simp), ((unhide HLC).on hbW) 3 (by simp), ((unhide HLC).on hbW) 4 (by simp), ((unhide HLC).on hbW) 5 (by simp), ((unhide HLC).on hbW) 6 (by simp), ((unhide HLC).on hbW) 7 (by simp), ((unhide HLC).on hbW) 8 (by simp), ((unhide HLC).on hbW) 9 (by simp), ((unhide HLC).on hbW) 10 (by simp), ((unhide HLC).on hbW) 11 (by simp)⟩
          clear hK K
          refine wpAnyL_one (i := 9) (by kernel_rfl) rfl (fun K hK => ?_)
          refine step_append_rowsAt (((Y.alloc (.cells #[] 41)).alloc (.cells #[] 92)).drew) (by rfl) _ _ _ (by rfl) Y.heap.size 41 i7 _ 7 56 slice_cpEvent hi7 hz70 hz71 hz72 (by rfl) (by omega) _ 0 [] (by rfl) ownE (p.sends.map evRow) _ (by rfl) ((unhide HPY).s.on hbW) (rowlenEvent p.sends) (by rw [List.length_map]; unfold maxLen; omega) (by rw [List.length_map]; omega) (hbW).size ?_
          intro ve w9 howne hgrowe hate
          obtain ⟨ua, uc, hve⟩ : ∃ a c, ve = .slice a p.sends.length c := by
            have e := howne
            rw [Nat.zero_add, List.nil_append] at e
            obtain ⟨a, c, h⟩ := RowsFr_sliced (RowsFr.of_owns (rowlenEvent p.sends) e)
            exact ⟨a, c, by rw [h, List.length_map]⟩
          subst hve
          have hb9 : Below Y.heap.size Y w9 := Below.grown hbW hgrowe hbW.size (fun b hb => by simp [Value.ownBlock] at hb; omega)
          have hl9 : ∀ b, (Value.slice ua p.sends.length uc).ownBlock = some b → b < w9.heap.size := fun b hb => (howne.lt b hb).2
          have hs9 : Y.heap.size + 2 ≤ w9.heap.size := by have := hgrowe.size; simp at this; omega
          have own9 : w9.ownsRow Y.heap.size 92 5 (.slice (some ⟨Y.heap.size + 1, 0, none⟩) 0 0) 0 [] := ownO.kept hgrowe (Or.inr (by simp [Value.ownBlock]))
          (try go_simp)
          refine held_on hK ?_ (fun hHeld => ?_)
          · exact ⟨cell_on hb9 kd, ((unhide HLC).on hb9) 0 (by simp), ((unhide HLC).on hb9) 1 (by simp), ((unhide HLC).on hb9) 2 (by simp), ((unhide HLC).on hb9) 3 (by simp), ((unhide HLC).on hb9) 4 (by simp), ((unhide HLC).on hb9) 5 (by simp), ((unhide HLC).on hb9) 6 (by simp), ((unhide HLC).on hb9) 7 (by simp), ((unhide HLC).on hb9) 8 (by simp), ((unhide HLC).on hb9) 9 (by simp), ((unhide HLC).on hb9) 10 (by simp), ((unhide HLC).on hb9) 11 (by simp)⟩
          clear hK K
          refine wpAnyL_one (i := 13) (by kernel_rfl) rfl (fun K hK => ?_)
          refine step_append_rowsAt w9 (by rfl) _ _ _ (by rfl) Y.heap.size 92 i5 _ 5 40 slice_cpOut hi5 hz50 hz51 hz52 (by rfl) (by omega) _ 0 [] (by rfl) own9 (p.outs.map outRow) _ (by rfl) ((unhide HPY).o.on hb9) (rowlenOut p.outs) (by rw [List.length_map]; unfold maxLen; omega) (by rw [List.length_map]; omega) (hb9).size ?_
          intro vo2 wz howno hgrowo hato
          obtain ⟨oa, oc, hvo⟩ : ∃ a c, vo2 = .slice a p.outs.length c := by
            have e := howno
            rw [Nat.zero_add, List.nil_append] at e
            obtain ⟨a, c, h⟩ := RowsFr_sliced (RowsFr.of_owns (rowlenOut p.outs) e)
            exact ⟨a, c, by rw [h, List.length_map]⟩
          subst hvo
          have hbz : Below Y.heap.size Y wz := Below.grown hb9 hgrowo hb9.size (fun b hb => by simp [Value.ownBlock] at hb; omega)
          have hne : ∀ b, (Value.slice ua p.sends.length uc).ownBlock = some b → b ≠ Y.heap.size + 1 := fun b hb => by rcases hate with h4 | h4 <;> rw [h4] at hb <;> simp [Value.ownBlock] at hb <;> omega
          have hBL : BothL Y wz p (.slice ua p.sends.length uc) (.slice oa p.outs.length oc) := both_of (re := none) (ro := none) howne howno (fun b hb => hgrowo.block b (hl9 b hb) (fun e => by simp [Value.ownBlock] at e; have := hne b hb; omega)) (fun b h1 h2 => by have h3 := hl9 b h1; have h5 := hne b h1; rcases hato with h4 | h4 <;> rw [h4] at h2 <;> simp [Value.ownBlock] at h2 <;> omega) hbz
          (try go_simp)
          refine held_on hK ?_ (fun hHeld => ?_)
          · exact ⟨cell_on hbz kd, ((unhide HLC).on hbz) 0 (by simp), ((unhide HLC).on hbz) 1 (by simp), ((unhide HLC).on hbz) 2 (by simp), ((unhide HLC).on hbz) 3 (by simp), ((unhide HLC).on hbz) 4 (by simp), ((unhide HLC).on hbz) 5 (by simp), ((unhide HLC).on hbz) 6 (by simp), ((unhide HLC).on hbz) 7 (by simp), ((unhide HLC).on hbz) 8 (by simp), ((unhide HLC).on hbz) 9 (by simp), ((unhide HLC).on hbz) 10 (by simp), ((unhide HLC).on hbz) 11 (by simp)⟩
          clear hK K
          have HF := hide hBL.fr
          have HAP := hide hBL.ap
          have HZ := hide hBL.be
          clear hBL
          clear howne hgrowe hate howno hgrowo hato hbz own9 hb9 hl9 hs9 hne hbW ownE ownO hb6 own6
          refine wpAnyL_one (i := 14) (by kernel_rfl) rfl (fun K hK => ?_)
          go_simp
          refine held_on hK ?_ (fun hHeld => ?_)
          · exact hHeld
          clear hK K
          have hbA : Below Y.heap.size Y (wz.alloc (.cells #[.int .i64 p.ev.time, .int .i64 p.ev.to, .int .i64 p.ev.src, .int .i64 p.ev.count, .int .i64 p.ev.n, .int .i64 p.ev.kind, .int .i64 p.ev.arg, .int .i64 p.st.x, .int .i64 p.st.y, .int .i64 p.st.c, .slice ua p.sends.length uc, .slice oa p.outs.length oc] 65)) := below_then (unhide HZ) ((Below.refl _ _).alloc (Nat.le_refl _) _)
          have HYA := hide hbA
          have HBA := hide (below_then (unhide HY) hbA)
          clear hbA
          refine wpAnyL_one (i := 15) (by kernel_rfl) rfl (fun K hK => ?_)
          go_simp
          refine held_on hK ?_ (fun hHeld => ?_)
          · exact ⟨cell_on (unhide HYA) kd, ((unhide HLC).on (unhide HYA)) 0 (by simp), ((unhide HLC).on (unhide HYA)) 1 (by simp), ((unhide HLC).on (unhide HYA)) 2 (by simp), ((unhide HLC).on (unhide HYA)) 3 (by simp), ((unhide HLC).on (unhide HYA)) 4 (by simp), ((unhide HLC).on (unhide HYA)) 5 (by simp), ((unhide HLC).on (unhide HYA)) 6 (by simp), ((unhide HLC).on (unhide HYA)) 7 (by simp), ((unhide HLC).on (unhide HYA)) 8 (by simp), ((unhide HLC).on (unhide HYA)) 9 (by simp), ((unhide HLC).on (unhide HYA)) 10 (by simp), ((unhide HLC).on (unhide HYA)) 11 (by simp)⟩
          clear hK K
          have HLTK : Hid (((ps.take j).drop a).length = k) := hide (by have := unhide HJ; simp; omega)
          have hownA : (wz.alloc (.cells #[.int .i64 p.ev.time, .int .i64 p.ev.to, .int .i64 p.ev.src, .int .i64 p.ev.count, .int .i64 p.ev.n, .int .i64 p.ev.kind, .int .i64 p.ev.arg, .int .i64 p.st.x, .int .i64 p.st.y, .int .i64 p.st.c, .slice ua p.sends.length uc, .slice oa p.outs.length oc] 65)).ownsRow (w.heap.size + 3) 65 12 (.slice va k vc) k (flatP us ((ps.take j).drop a)) := by
            have e := ownsOn (unhide HBA) (unhide HT).list.owns.2
            rwa [unhide HLTK] at e
          refine wpAnyL_one (i := 16) (by kernel_rfl) rfl (fun K hK => ?_)
          refine step_append_lies _ (by rfl) _ _ _ (by rfl) (w.heap.size + 3) 65 i12 _ 12 128 slice_cpPast hi12 hz0 hz1 hz2 (by rfl) (by omega) (.slice va k vc) k (flatP us ((ps.take j).drop a)) (by rfl) hownA ⟨wz.heap.size, 0, none⟩ 1 1 (pastCells p (.slice ua p.sends.length uc) (.slice oa p.outs.length oc)) (by rfl) (by rfl) (World.news_of_block (cs := #[.int .i64 p.ev.time, .int .i64 p.ev.to, .int .i64 p.ev.src, .int .i64 p.ev.count, .int .i64 p.ev.n, .int .i64 p.ev.kind, .int .i64 p.ev.arg, .int .i64 p.st.x, .int .i64 p.st.y, .int .i64 p.st.c, .slice ua p.sends.length uc, .slice oa p.outs.length oc]) (t := 65) (fr := (0, 0)) (heap_alloc_new wz _)) (by simp [Value.oneCell']) (by omega) (by unfold maxLen; omega) (by omega) (by have h1 := (unhide HBA).size; omega) (wz.alloc (.cells #[.int .i64 p.ev.time, .int .i64 p.ev.to, .int .i64 p.ev.src, .int .i64 p.ev.count, .int .i64 p.ev.n, .int .i64 p.ev.kind, .int .i64 p.ev.arg, .int .i64 p.st.x, .int .i64 p.st.y, .int .i64 p.st.c, .slice ua p.sends.length uc, .slice oa p.outs.length oc] 65)).heap.size rfl ?_
          intro g3 cap3 w8 hown8 hgrow8 hat8 hlt8
          have hown9 : w8.ownsRow (w.heap.size + 3) 65 12 (.slice (some ⟨g3, 0, none⟩) (((ps.take j).drop a).length + 1) cap3) (((ps.take j).drop a).length + 1) (flatP us ((ps.take j).drop a) ++ pastCells p (.slice ua p.sends.length uc) (.slice oa p.outs.length oc)) := by
            rw [unhide HLTK]; exact hown8
          have hsn := pasts_snoc (unhide HT).list (unhide HT).nd (Nat.le_refl _) (by omega) (unhide HBA) (K := wr.heap.size) (Nat.le_refl _) (((unhide HF).less (unhide HY).size).on ((Below.refl _ _).alloc (Nat.le_refl _) _)) (unhide HAP) hgrow8 hown9 hat8 hlt8
          rw [← unhide HTK, show ((ps.take (a + (k + 1))).drop a).length = k + 1 by have := unhide HJ; simp; omega] at hsn
          have hrowb : ∀ b, b < w.heap.size + 3 → w8.heap[b]? = wr.heap[b]? := fun b hb => by
            rw [hgrow8.block b (by have h1 := (unhide HBA).size; omega) (fun e => by have := ((unhide HT).list.blk b e.symm).1; omega), (unhide HBA).block b (by omega)]
          have hrowr : w8.heap[wr.heap.size]? = Y.heap[wr.heap.size]? := by
            rw [hgrow8.block wr.heap.size (by have h1 := (unhide HYA).size; omega) (fun e => by have := ((unhide HT).list.blk wr.heap.size e.symm).2; omega), (unhide HYA).block wr.heap.size hrY]
          have hB8 : Below w.heap.size w w8 := Below.grown (below_then (unhide HB) (unhide HBA)) hgrow8 (by have h1 := (unhide HBA).size; omega) (fun b hb => by have := ((unhide HT).list.blk b hb).1; omega)
          have HSN := hide hsn
          have HB8 := hide hB8
          have hr8 := (unhide HT).row.of_block (hrowb (w.heap.size + 2) (by omega))
          have hs8 := (unhide HRES).of_block (hrowb (w.heap.size + 1) (by omega))
          have HBX8 : Hid (CellsAt w8 w.heap.size 0 (laneCells proc s (.slice (some ⟨bb, off, none⟩) ps.length c0))) := hide (fun j hj => (World.cell?_of_block (a := ⟨w.heap.size, 0 + j, none⟩) (hrowb w.heap.size (by omega))).trans ((unhide HBX) j hj))
          have k8 : w8.cell? ⟨w.heap.size + 2, 4, none⟩ = some (.slice va k vc) := hr8.cell (i := 4) (by omega)
          have f8 := hr8.frozen 4
          have hc8 : ∀ j u, Y.cell? ⟨wr.heap.size, j, none⟩ = some u → w8.cell? ⟨wr.heap.size, j, none⟩ = some u := fun j u hu => (World.cell?_of_block (a := ⟨wr.heap.size, j, none⟩) hrowr).trans hu
          have HR8 := hide hr8
          have HS8 := hide hs8
          refine held_on hK ?_ (fun hHeld => ?_)
          · exact ⟨k8, hc8 0 _ ((unhide HLC) 0 (by simp)), hc8 1 _ ((unhide HLC) 1 (by simp)), hc8 2 _ ((unhide HLC) 2 (by simp)), hc8 3 _ ((unhide HLC) 3 (by simp)), hc8 4 _ ((unhide HLC) 4 (by simp)), hc8 5 _ ((unhide HLC) 5 (by simp)), hc8 6 _ ((unhide HLC) 6 (by simp)), hc8 7 _ ((unhide HLC) 7 (by simp)), hc8 8 _ ((unhide HLC) 8 (by simp)), hc8 9 _ ((unhide HLC) 9 (by simp)), hc8 10 _ ((unhide HLC) 10 (by simp)), hc8 11 _ ((unhide HLC) 11 (by simp))⟩
          clear hK K hsn hrowb hrowr hB8 hr8 hs8 hown8 hown9 hgrow8 hat8 hlt8 hownA hc8
          refine wpAnyL_one (i := 17) (by kernel_rfl) rfl (fun K hK => ?_)
          go_simp
          refine held_on hK ?_ (fun hHeld => ?_)
          · exact hHeld
          clear hK K
          refine wpAnyL_end (by kernel_rfl) rfl (fun K hK => ?_)
          go_simp
          refine hK.out _ _ ?_
          clear hK K hHeld
          refine wpAnyL_done (by kernel_rfl) ?_ _
          have HT2 : Hid (Taken (w.heap.size + 3) (w8.setCell ⟨w.heap.size + 2, 4, none⟩ (.slice (some ⟨g3, 0, none⟩) (k + 1) cap3)) (w.heap.size + 2) proc s (.slice (some ⟨g3, 0, none⟩) (k + 1) cap3) (us ++ [(.slice ua p.sends.length uc, .slice oa p.outs.length oc)]) ((ps.take (a + (k + 1))).drop a)) := hide (by
            refine ⟨((unhide HR8).set 4 _).congr (fun i hi => ?_), ?_, (unhide HSN).2⟩
            · show (if i = 4 then _ else _) = _
              match i, hi with
              | 0, _ => rfl
              | 1, _ => rfl
              | 2, _ => rfl
              | 3, _ => rfl
              | 4, _ => rfl
            · have h1 := (unhide HSN).1
              rw [show (w8.setCell ⟨w.heap.size + 2, 4, none⟩ (.slice (some ⟨g3, 0, none⟩) (k + 1) cap3)).heap.size = w8.heap.size by simp]
              exact h1.keep (fun b hb _ => Below.heap_setCell w8 ⟨w.heap.size + 2, 4, none⟩ _ b (by show b ≠ w.heap.size + 2; omega)))
          have HS2 := hide ((unhide HS8).of_block (Below.heap_setCell w8 ⟨w.heap.size + 2, 4, none⟩ (.slice (some ⟨g3, 0, none⟩) (k + 1) cap3) (w.heap.size + 1) (by show w.heap.size + 1 ≠ w.heap.size + 2; omega)))
          have HBX2 : Hid (CellsAt (w8.setCell ⟨w.heap.size + 2, 4, none⟩ (.slice (some ⟨g3, 0, none⟩) (k + 1) cap3)) w.heap.size 0 (laneCells proc s (.slice (some ⟨bb, off, none⟩) ps.length c0))) := hide (fun j hj => (World.cell?_of_block (a := ⟨w.heap.size, 0 + j, none⟩) (Below.heap_setCell w8 ⟨w.heap.size + 2, 4, none⟩ _ w.heap.size (by show w.heap.size ≠ w.heap.size + 2; omega))).trans ((unhide HBX8) j hj))
          have HB2 := hide ((unhide HB8).setCell (p := ⟨w.heap.size + 2, 4, none⟩) (by show w.heap.size ≤ w.heap.size + 2; omega) (.slice (some ⟨g3, 0, none⟩) (k + 1) cap3))
          generalize (w8.setCell ⟨w.heap.size + 2, 4, none⟩ (.slice (some ⟨g3, 0, none⟩) (k + 1) cap3)) = w9 at *
          clear k8 f8 kd
          go_wp2_with fail
          go_roundw
          case rel => exact ⟨k + 1, _, _, _, by have := unhide HJ; omega, by rw [show ((a + (k + 1) : Nat) : Int) = (j : Int) + 1 by have := unhide HJ; omega], HT2, HS2, HBX2, HB2⟩
          case measure => (simp [intOf]; omega)
      · go_simp
        have hb10 : Below Y.heap.size Y (Y.alloc (.cells #[] 92)).drew := ((Below.refl _ _).alloc (Nat.le_refl _) _).drew
        (try go_simp)
        refine held_on hK ?_ (fun hHeld => ?_)
        · exact ⟨cell_on hb10 kd, ((unhide HLC).on hb10) 0 (by simp), ((unhide HLC).on hb10) 1 (by simp), ((unhide HLC).on hb10) 2 (by simp), ((unhide HLC).on hb10) 3 (by simp), ((unhide HLC).on hb10) 4 (by simp), ((unhide HLC).on hb10) 5 (by simp), ((unhide HLC).on hb10) 6 (by simp), ((unhide HLC).on hb10) 7 (by simp), ((unhide HLC).on hb10) 8 (by simp), ((unhide HLC).on hb10) 9 (by simp), ((unhide HLC).on hb10) 10 (by simp), ((unhide HLC).on hb10) 11 (by simp)⟩
        clear hK K
        refine wpAnyL_one (i := 6) (by kernel_rfl) rfl (fun K hK => ?_)
        go_simp
        have hbW : Below Y.heap.size Y ((Y.alloc (.cells #[] 92)).alloc (.cells #[] 41)).drew := (((Below.refl _ _).alloc (Nat.le_refl _) _).alloc (by simp) _).drew
        have ownO : ((Y.alloc (.cells #[] 92)).alloc (.cells #[] 41)).drew.ownsRow Y.heap.size 92 5 (.slice (some ⟨Y.heap.size, 0, none⟩) 0 0) 0 [] := ownsOn ((Below.refl _ _).drew) ((World.ownsRow_made Y #[] 0 (Nat.le_refl _) (Nat.zero_le _) rfl).alloc _)
        have ownE : ((Y.alloc (.cells #[] 92)).alloc (.cells #[] 41)).drew.ownsRow Y.heap.size 41 7 (.slice (some ⟨Y.heap.size + 1, 0, none⟩) 0 0) 0 [] := by
          have e := World.ownsRow_made (base := Y.heap.size) (e := 41) (size := 7) (Y.alloc (.cells #[] 92)) #[] 0 (by simp) (Nat.zero_le _) rfl
          rw [show (Y.alloc (.cells #[] 92)).heap.size = Y.heap.size + 1 by simp] at e
          exact ownsOn ((Below.refl _ _).drew) e
        (try go_simp)
        refine held_on hK ?_ (fun hHeld => ?_)
        · exact ⟨cell_on hbW kd, ((unhide HLC).on hbW) 0 (by simp), ((unhide HLC).on hbW) 1 (by simp), ((unhide HLC).on hbW) 2 (by simp), ((unhide HLC).on hbW) 3 (by simp), ((unhide HLC).on hbW) 4 (by simp), ((unhide HLC).on hbW) 5 (by simp), ((unhide HLC).on hbW) 6 (by simp), ((unhide HLC).on hbW) 7 (by simp), ((unhide HLC).on hbW) 8 (by simp), ((unhide HLC).on hbW) 9 (by simp), ((unhide HLC).on hbW) 10 (by simp), ((unhide HLC).on hbW) 11 (by simp)⟩
        clear hK K
        refine wpAnyL_one (i := 9) (by kernel_rfl) rfl (fun K hK => ?_)
        refine step_append_rowsAt (((Y.alloc (.cells #[] 92)).alloc (.cells #[] 41)).drew) (by rfl) _ _ _ (by rfl) Y.heap.size 41 i7 _ 7 56 slice_cpEvent hi7 hz70 hz71 hz72 (by rfl) (by omega) _ 0 [] (by rfl) ownE (p.sends.map evRow) _ (by rfl) ((unhide HPY).s.on hbW) (rowlenEvent p.sends) (by rw [List.length_map]; unfold maxLen; omega) (by rw [List.length_map]; omega) (hbW).size ?_
        intro ve w9 howne hgrowe hate
        obtain ⟨ua, uc, hve⟩ : ∃ a c, ve = .slice a p.sends.length c := by
          have e := howne
          rw [Nat.zero_add, List.nil_append] at e
          obtain ⟨a, c, h⟩ := RowsFr_sliced (RowsFr.of_owns (rowlenEvent p.sends) e)
          exact ⟨a, c, by rw [h, List.length_map]⟩
        subst hve
        have hb9 : Below Y.heap.size Y w9 := Below.grown hbW hgrowe hbW.size (fun b hb => by simp [Value.ownBlock] at hb; omega)
        have hl9 : ∀ b, (Value.slice ua p.sends.length uc).ownBlock = some b → b < w9.heap.size := fun b hb => (howne.lt b hb).2
        have hs9 : Y.heap.size + 2 ≤ w9.heap.size := by have := hgrowe.size; simp at this; omega
        have own9 : w9.ownsRow Y.heap.size 92 5 (.slice (some ⟨Y.heap.size, 0, none⟩) 0 0) 0 [] := ownO.kept hgrowe (Or.inr (by simp [Value.ownBlock]))
        (try go_simp)
        refine held_on hK ?_ (fun hHeld => ?_)
        · exact ⟨cell_on hb9 kd, ((unhide HLC).on hb9) 0 (by simp), ((unhide HLC).on hb9) 1 (by simp), ((unhide HLC).on hb9) 2 (by simp), ((unhide HLC).on hb9) 3 (by simp), ((unhide HLC).on hb9) 4 (by simp), ((unhide HLC).on hb9) 5 (by simp), ((unhide HLC).on hb9) 6 (by simp), ((unhide HLC).on hb9) 7 (by simp), ((unhide HLC).on hb9) 8 (by simp), ((unhide HLC).on hb9) 9 (by simp), ((unhide HLC).on hb9) 10 (by simp), ((unhide HLC).on hb9) 11 (by simp)⟩
        clear hK K
        refine wpAnyL_one (i := 13) (by kernel_rfl) rfl (fun K hK => ?_)
        refine step_append_rowsAt w9 (by rfl) _ _ _ (by rfl) Y.heap.size 92 i5 _ 5 40 slice_cpOut hi5 hz50 hz51 hz52 (by rfl) (by omega) _ 0 [] (by rfl) own9 (p.outs.map outRow) _ (by rfl) ((unhide HPY).o.on hb9) (rowlenOut p.outs) (by rw [List.length_map]; unfold maxLen; omega) (by rw [List.length_map]; omega) (hb9).size ?_
        intro vo2 wz howno hgrowo hato
        obtain ⟨oa, oc, hvo⟩ : ∃ a c, vo2 = .slice a p.outs.length c := by
          have e := howno
          rw [Nat.zero_add, List.nil_append] at e
          obtain ⟨a, c, h⟩ := RowsFr_sliced (RowsFr.of_owns (rowlenOut p.outs) e)
          exact ⟨a, c, by rw [h, List.length_map]⟩
        subst hvo
        have hbz : Below Y.heap.size Y wz := Below.grown hb9 hgrowo hb9.size (fun b hb => by simp [Value.ownBlock] at hb; omega)
        have hne : ∀ b, (Value.slice ua p.sends.length uc).ownBlock = some b → b ≠ Y.heap.size := fun b hb => by rcases hate with h4 | h4 <;> rw [h4] at hb <;> simp [Value.ownBlock] at hb <;> omega
        have hBL : BothL Y wz p (.slice ua p.sends.length uc) (.slice oa p.outs.length oc) := both_of (re := none) (ro := none) howne howno (fun b hb => hgrowo.block b (hl9 b hb) (fun e => by simp [Value.ownBlock] at e; have := hne b hb; omega)) (fun b h1 h2 => by have h3 := hl9 b h1; have h5 := hne b h1; rcases hato with h4 | h4 <;> rw [h4] at h2 <;> simp [Value.ownBlock] at h2 <;> omega) hbz
        (try go_simp)
        refine held_on hK ?_ (fun hHeld => ?_)
        · exact ⟨cell_on hbz kd, ((unhide HLC).on hbz) 0 (by simp), ((unhide HLC).on hbz) 1 (by simp), ((unhide HLC).on hbz) 2 (by simp), ((unhide HLC).on hbz) 3 (by simp), ((unhide HLC).on hbz) 4 (by simp), ((unhide HLC).on hbz) 5 (by simp), ((unhide HLC).on hbz) 6 (by simp), ((unhide HLC).on hbz) 7 (by simp), ((unhide HLC).on hbz) 8 (by simp), ((unhide HLC).on hbz) 9 (by simp), ((unhide HLC).on hbz) 10 (by simp), ((unhide HLC).on hbz) 11 (by simp)⟩
        clear hK K
        have HF := hide hBL.fr
        have HAP := hide hBL.ap
        have HZ := hide hBL.be
        clear hBL
        clear howne hgrowe hate howno hgrowo hato hbz own9 hb9 hl9 hs9 hne hbW ownE ownO hb10
        refine wpAnyL_one (i := 14) (by kernel_rfl) rfl (fun K hK => ?_)
        go_simp
        refine held_on hK ?_ (fun hHeld => ?_)
        · exact hHeld
        clear hK K
        have hbA : Below Y.heap.size Y (wz.alloc (.cells #[.int .i64 p.ev.time, .int .i64 p.ev.to, .int .i64 p.ev.src, .int .i64 p.ev.count, .int .i64 p.ev.n, .int .i64 p.ev.kind, .int .i64 p.ev.arg, .int .i64 p.st.x, .int .i64 p.st.y, .int .i64 p.st.c, .slice ua p.sends.length uc, .slice oa p.outs.length oc] 65)) := below_then (unhide HZ) ((Below.refl _ _).alloc (Nat.le_refl _) _)
        have HYA := hide hbA
        have HBA := hide (below_then (unhide HY) hbA)
        clear hbA
        refine wpAnyL_one (i := 15) (by kernel_rfl) rfl (fun K hK => ?_)
        go_simp
        refine held_on hK ?_ (fun hHeld => ?_)
        · exact ⟨cell_on (unhide HYA) kd, ((unhide HLC).on (unhide HYA)) 0 (by simp), ((unhide HLC).on (unhide HYA)) 1 (by simp), ((unhide HLC).on (unhide HYA)) 2 (by simp), ((unhide HLC).on (unhide HYA)) 3 (by simp), ((unhide HLC).on (unhide HYA)) 4 (by simp), ((unhide HLC).on (unhide HYA)) 5 (by simp), ((unhide HLC).on (unhide HYA)) 6 (by simp), ((unhide HLC).on (unhide HYA)) 7 (by simp), ((unhide HLC).on (unhide HYA)) 8 (by simp), ((unhide HLC).on (unhide HYA)) 9 (by simp), ((unhide HLC).on (unhide HYA)) 10 (by simp), ((unhide HLC).on (unhide HYA)) 11 (by simp)⟩
        clear hK K
        have HLTK : Hid (((ps.take j).drop a).length = k) := hide (by have := unhide HJ; simp; omega)
        have hownA : (wz.alloc (.cells #[.int .i64 p.ev.time, .int .i64 p.ev.to, .int .i64 p.ev.src, .int .i64 p.ev.count, .int .i64 p.ev.n, .int .i64 p.ev.kind, .int .i64 p.ev.arg, .int .i64 p.st.x, .int .i64 p.st.y, .int .i64 p.st.c, .slice ua p.sends.length uc, .slice oa p.outs.length oc] 65)).ownsRow (w.heap.size + 3) 65 12 (.slice va k vc) k (flatP us ((ps.take j).drop a)) := by
          have e := ownsOn (unhide HBA) (unhide HT).list.owns.2
          rwa [unhide HLTK] at e
        refine wpAnyL_one (i := 16) (by kernel_rfl) rfl (fun K hK => ?_)
        refine step_append_lies _ (by rfl) _ _ _ (by rfl) (w.heap.size + 3) 65 i12 _ 12 128 slice_cpPast hi12 hz0 hz1 hz2 (by rfl) (by omega) (.slice va k vc) k (flatP us ((ps.take j).drop a)) (by rfl) hownA ⟨wz.heap.size, 0, none⟩ 1 1 (pastCells p (.slice ua p.sends.length uc) (.slice oa p.outs.length oc)) (by rfl) (by rfl) (World.news_of_block (cs := #[.int .i64 p.ev.time, .int .i64 p.ev.to, .int .i64 p.ev.src, .int .i64 p.ev.count, .int .i64 p.ev.n, .int .i64 p.ev.kind, .int .i64 p.ev.arg, .int .i64 p.st.x, .int .i64 p.st.y, .int .i64 p.st.c, .slice ua p.sends.length uc, .slice oa p.outs.length oc]) (t := 65) (fr := (0, 0)) (heap_alloc_new wz _)) (by simp [Value.oneCell']) (by omega) (by unfold maxLen; omega) (by omega) (by have h1 := (unhide HBA).size; omega) (wz.alloc (.cells #[.int .i64 p.ev.time, .int .i64 p.ev.to, .int .i64 p.ev.src, .int .i64 p.ev.count, .int .i64 p.ev.n, .int .i64 p.ev.kind, .int .i64 p.ev.arg, .int .i64 p.st.x, .int .i64 p.st.y, .int .i64 p.st.c, .slice ua p.sends.length uc, .slice oa p.outs.length oc] 65)).heap.size rfl ?_
        intro g3 cap3 w8 hown8 hgrow8 hat8 hlt8
        have hown9 : w8.ownsRow (w.heap.size + 3) 65 12 (.slice (some ⟨g3, 0, none⟩) (((ps.take j).drop a).length + 1) cap3) (((ps.take j).drop a).length + 1) (flatP us ((ps.take j).drop a) ++ pastCells p (.slice ua p.sends.length uc) (.slice oa p.outs.length oc)) := by
          rw [unhide HLTK]; exact hown8
        have hsn := pasts_snoc (unhide HT).list (unhide HT).nd (Nat.le_refl _) (by omega) (unhide HBA) (K := wr.heap.size) (Nat.le_refl _) (((unhide HF).less (unhide HY).size).on ((Below.refl _ _).alloc (Nat.le_refl _) _)) (unhide HAP) hgrow8 hown9 hat8 hlt8
        rw [← unhide HTK, show ((ps.take (a + (k + 1))).drop a).length = k + 1 by have := unhide HJ; simp; omega] at hsn
        have hrowb : ∀ b, b < w.heap.size + 3 → w8.heap[b]? = wr.heap[b]? := fun b hb => by
          rw [hgrow8.block b (by have h1 := (unhide HBA).size; omega) (fun e => by have := ((unhide HT).list.blk b e.symm).1; omega), (unhide HBA).block b (by omega)]
        have hrowr : w8.heap[wr.heap.size]? = Y.heap[wr.heap.size]? := by
          rw [hgrow8.block wr.heap.size (by have h1 := (unhide HYA).size; omega) (fun e => by have := ((unhide HT).list.blk wr.heap.size e.symm).2; omega), (unhide HYA).block wr.heap.size hrY]
        have hB8 : Below w.heap.size w w8 := Below.grown (below_then (unhide HB) (unhide HBA)) hgrow8 (by have h1 := (unhide HBA).size; omega) (fun b hb => by have := ((unhide HT).list.blk b hb).1; omega)
        have HSN := hide hsn
        have HB8 := hide hB8
        have hr8 := (unhide HT).row.of_block (hrowb (w.heap.size + 2) (by omega))
        have hs8 := (unhide HRES).of_block (hrowb (w.heap.size + 1) (by omega))
        have HBX8 : Hid (CellsAt w8 w.heap.size 0 (laneCells proc s (.slice (some ⟨bb, off, none⟩) ps.length c0))) := hide (fun j hj => (World.cell?_of_block (a := ⟨w.heap.size, 0 + j, none⟩) (hrowb w.heap.size (by omega))).trans ((unhide HBX) j hj))
        have k8 : w8.cell? ⟨w.heap.size + 2, 4, none⟩ = some (.slice va k vc) := hr8.cell (i := 4) (by omega)
        have f8 := hr8.frozen 4
        have hc8 : ∀ j u, Y.cell? ⟨wr.heap.size, j, none⟩ = some u → w8.cell? ⟨wr.heap.size, j, none⟩ = some u := fun j u hu => (World.cell?_of_block (a := ⟨wr.heap.size, j, none⟩) hrowr).trans hu
        have HR8 := hide hr8
        have HS8 := hide hs8
        refine held_on hK ?_ (fun hHeld => ?_)
        · exact ⟨k8, hc8 0 _ ((unhide HLC) 0 (by simp)), hc8 1 _ ((unhide HLC) 1 (by simp)), hc8 2 _ ((unhide HLC) 2 (by simp)), hc8 3 _ ((unhide HLC) 3 (by simp)), hc8 4 _ ((unhide HLC) 4 (by simp)), hc8 5 _ ((unhide HLC) 5 (by simp)), hc8 6 _ ((unhide HLC) 6 (by simp)), hc8 7 _ ((unhide HLC) 7 (by simp)), hc8 8 _ ((unhide HLC) 8 (by simp)), hc8 9 _ ((unhide HLC) 9 (by simp)), hc8 10 _ ((unhide HLC) 10 (by simp)), hc8 11 _ ((unhide HLC) 11 (by simp))⟩
        clear hK K hsn hrowb hrowr hB8 hr8 hs8 hown8 hown9 hgrow8 hat8 hlt8 hownA hc8
        refine wpAnyL_one (i := 17) (by kernel_rfl) rfl (fun K hK => ?_)
        go_simp
        refine held_on hK ?_ (fun hHeld => ?_)
        · exact hHeld
        clear hK K
        refine wpAnyL_end (by kernel_rfl) rfl (fun K hK => ?_)
        go_simp
        refine hK.out _ _ ?_
        clear hK K hHeld
        refine wpAnyL_done (by kernel_rfl) ?_ _
        have HT2 : Hid (Taken (w.heap.size + 3) (w8.setCell ⟨w.heap.size + 2, 4, none⟩ (.slice (some ⟨g3, 0, none⟩) (k + 1) cap3)) (w.heap.size + 2) proc s (.slice (some ⟨g3, 0, none⟩) (k + 1) cap3) (us ++ [(.slice ua p.sends.length uc, .slice oa p.outs.length oc)]) ((ps.take (a + (k + 1))).drop a)) := hide (by
          refine ⟨((unhide HR8).set 4 _).congr (fun i hi => ?_), ?_, (unhide HSN).2⟩
          · show (if i = 4 then _ else _) = _
            match i, hi with
            | 0, _ => rfl
            | 1, _ => rfl
            | 2, _ => rfl
            | 3, _ => rfl
            | 4, _ => rfl
          · have h1 := (unhide HSN).1
            rw [show (w8.setCell ⟨w.heap.size + 2, 4, none⟩ (.slice (some ⟨g3, 0, none⟩) (k + 1) cap3)).heap.size = w8.heap.size by simp]
            exact h1.keep (fun b hb _ => Below.heap_setCell w8 ⟨w.heap.size + 2, 4, none⟩ _ b (by show b ≠ w.heap.size + 2; omega)))
        have HS2 := hide ((unhide HS8).of_block (Below.heap_setCell w8 ⟨w.heap.size + 2, 4, none⟩ (.slice (some ⟨g3, 0, none⟩) (k + 1) cap3) (w.heap.size + 1) (by show w.heap.size + 1 ≠ w.heap.size + 2; omega)))
        have HBX2 : Hid (CellsAt (w8.setCell ⟨w.heap.size + 2, 4, none⟩ (.slice (some ⟨g3, 0, none⟩) (k + 1) cap3)) w.heap.size 0 (laneCells proc s (.slice (some ⟨bb, off, none⟩) ps.length c0))) := hide (fun j hj => (World.cell?_of_block (a := ⟨w.heap.size, 0 + j, none⟩) (Below.heap_setCell w8 ⟨w.heap.size + 2, 4, none⟩ _ w.heap.size (by show w.heap.size ≠ w.heap.size + 2; omega))).trans ((unhide HBX8) j hj))
        have HB2 := hide ((unhide HB8).setCell (p := ⟨w.heap.size + 2, 4, none⟩) (by show w.heap.size ≤ w.heap.size + 2; omega) (.slice (some ⟨g3, 0, none⟩) (k + 1) cap3))
        generalize (w8.setCell ⟨w.heap.size + 2, 4, none⟩ (.slice (some ⟨g3, 0, none⟩) (k + 1) cap3)) = w9 at *
        clear k8 f8 kd
        go_wp2_with fail
        go_roundw
        case rel => exact ⟨k + 1, _, _, _, by have := unhide HJ; omega, by rw [show ((a + (k + 1) : Nat) : Int) = (j : Int) + 1 by have := unhide HJ; omega], HT2, HS2, HBX2, HB2⟩
        case measure => (simp [intOf]; omega)
    · have hke : a + k = b := by omega
      have hI1 : ¬ ((a + k : Nat) : Int) < (b : Int) := by omega
      have hkb : k = b - a := by omega
      have HTF := unhide HT
      have hlv : ((ps.take b).drop a).length = b - a := by simp; omega
      rw [hke] at HTF
      rw [hkb] at HTF
      have HT2 := hide HTF
      clear HTF HT
      have y0 : wr.cell? ⟨w.heap.size + 1, 0, none⟩ = some (.int .i64 0) := (unhide HRES).cell (i := 0) (by omega)
      have z0 := (unhide HRES).frozen 0
      have y1 : wr.cell? ⟨w.heap.size + 1, 1, none⟩ = some (.int .i64 0) := (unhide HRES).cell (i := 1) (by omega)
      have z1 := (unhide HRES).frozen 1
      have y2 : wr.cell? ⟨w.heap.size + 1, 2, none⟩ = some (.int .i64 0) := (unhide HRES).cell (i := 2) (by omega)
      have z2 := (unhide HRES).frozen 2
      have y3 : wr.cell? ⟨w.heap.size + 1, 3, none⟩ = some (.int .i64 0) := (unhide HRES).cell (i := 3) (by omega)
      have z3 := (unhide HRES).frozen 3
      have y4 : wr.cell? ⟨w.heap.size + 1, 4, none⟩ = some (.slice none 0 0) := (unhide HRES).cell (i := 4) (by omega)
      have z4 := (unhide HRES).frozen 4
      have l0 : wr.cell? ⟨w.heap.size + 2, 0, none⟩ = some (.int .i64 proc) := (unhide HT2).row.cell (i := 0) (by omega)
      have l1 : wr.cell? ⟨w.heap.size + 2, 1, none⟩ = some (.int .i64 s.x) := (unhide HT2).row.cell (i := 1) (by omega)
      have l2 : wr.cell? ⟨w.heap.size + 2, 2, none⟩ = some (.int .i64 s.y) := (unhide HT2).row.cell (i := 2) (by omega)
      have l3 : wr.cell? ⟨w.heap.size + 2, 3, none⟩ = some (.int .i64 s.c) := (unhide HT2).row.cell (i := 3) (by omega)
      have l4 : wr.cell? ⟨w.heap.size + 2, 4, none⟩ = some (.slice va (b - a) vc) := (unhide HT2).row.cell (i := 4) (by omega)
      clear hlv hkb hke
      go_wp2_with fail
      refine bodyPost_ret (v := laneAgg proc s (.slice va (b - a) vc)) (by simp [results, Try.results57, go_sem, y0, y1, y2, y3, y4]) rfl ⟨_, rfl, ?_, ?_⟩
      · refine ⟨us, ?_, (unhide HT2).nd⟩
        have h1 : PastsO w.heap.size wr.heap.size (setVals wr (w.heap.size + 1) 0 (laneCells proc s (.slice va (b - a) vc))) (.slice va (b - a) vc) us ((ps.take b).drop a) := ((unhide HT2).list.keep (fun x hb _ => setVals_other (laneCells proc s (.slice va (b - a) vc)) 0 wr x (by omega))).wide (by omega) (Nat.le_refl _)
        rw [← setVals_size (laneCells proc s (.slice va (b - a) vc)) 0 wr (b := w.heap.size + 1)] at h1
        exact h1
      · exact setVals_below (laneCells proc s (.slice va (b - a) vc)) 0 wr (unhide HB) (Nat.le_succ _)
end Go.Proofs.Ythekkgndckkoaaa
