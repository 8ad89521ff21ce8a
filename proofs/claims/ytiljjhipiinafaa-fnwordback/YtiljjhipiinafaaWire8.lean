/- The reader of the specification: (*spec.l26Reader).nums. -/
import Derived.Test.YtiljjhipiinafaaWire7
namespace Go.Proofs.Ytiljjhipiinafaa
open Go.RowKit
set_option linter.unusedVariables false
set_option linter.unusedSimpArgs false

/-- What owns a row of numbers. -/
abbrev OwnsI (w : World) (B : Nat) (v : Value) (zs : List Int) : Prop := w.ownsRow B 3 1 v zs.length (zs.map (Value.int .i64))
theorem flatCells_one (zs : List Int) : flatCells (zs.map fun z => [z]) = zs.map (Value.int .i64) := by
  induction zs with
  | nil => rfl
  | cons a t ih => unfold flatCells at ih ⊢; simp only [List.map_cons, List.flatMap_cons, ih]; rfl
theorem OwnsI.rows {w : World} {B : Nat} {v : Value} {zs : List Int} (h : OwnsI w B v zs) : RowsFr B 3 1 w v (zs.map fun z => [z]) :=
  RowsFr.of_owns (fun r hr => by obtain ⟨z, _, rfl⟩ := List.mem_map.1 hr; rfl) (by rw [List.length_map, flatCells_one]; exact h)
theorem ownsI_more {w : World} {B : Nat} {v : Value} {zs : List Int} {x : Int} (h : w.ownsRow B 3 1 v (zs.length + 1) (zs.map (Value.int .i64) ++ [.int .i64 x])) : OwnsI w B v (zs ++ [x]) := by
  unfold OwnsI; rw [List.map_append, List.length_append]; simpa using h
theorem owns_onlyB {w w' : World} {q B e n k : Nat} {v : Value} {xs : List Value} (ho : OnlyB q w w') (hq : q < B) (h : w.ownsRow B e n v k xs) : w'.ownsRow B e n v k xs := by
  obtain ⟨hl, h | ⟨g, cap, cur, h1, h2, h3, h4⟩⟩ := h
  · exact ⟨hl, Or.inl h⟩
  · refine ⟨hl, Or.inr ⟨g, cap, cur, h1, h2, ?_, h4⟩⟩
    rw [ho.other g (by omega) (Array.getElem?_eq_some_iff.1 h3).1]
    exact h3
theorem infoI_parts : ∃ i, Try.prog.info? 3 = some i ∧ i.zero = some (.int .i64 0) ∧ i.size = 1 ∧ i.bytes = 8 := by
  obtain ⟨i, hi, h⟩ := Option.map_eq_some_iff.1 info_Int
  simp only [Prod.mk.injEq] at h
  exact ⟨i, hi, h.1, h.2.1, h.2.2⟩

theorem RdS.gr {w0 w w' : World} {q : Nat} {vb v u : Value} {bs : List Int} {p : Nat} {f : Bool} (hG : Gr v u w w') (hv : ∀ g, v.ownBlock = some g → q < g) (h : RdS w0 w q vb bs p f) : RdS w0 w' q vb bs p f := by
  have hc : ∀ i x, w.cell? ⟨q, i, none⟩ = some x → w'.cell? ⟨q, i, none⟩ = some x := fun i x e => hG.cell e (fun e2 => by have := hv q e2; omega)
  refine ⟨h.bytes, h.rng, h.few, h.q0, Below.grown h.below hG.g h.below.size (fun g e => by have := hv g e; have := h.q0; omega), hc 0 _ h.c0, hc 1 _ h.c1, hc 2 _ h.c2, fun i => ?_, h.pl⟩
  exact (World.frozen?_of_block (hG.g.block q h.lt (fun e => by have := hv q e.symm; omega))).trans (h.fz i)
theorem OnlyB.gr {w w1 w' : World} {q : Nat} {v u : Value} (h : OnlyB q w w1) (hG : Gr v u w1 w') (hq : q < w.heap.size) (hv : ∀ g, v.ownBlock = some g → w.heap.size ≤ g) : OnlyB q w w' :=
  ⟨Nat.le_trans h.size hG.g.size, fun b hb hl => (hG.g.block b (Nat.lt_of_lt_of_le hl h.size) (fun e => by have := hv b e.symm; omega)).trans (h.other b hb hl), Below.grown h.below hG.g (by have := h.size; omega) (fun g e => by have := hv g e; omega)⟩

/-- The numbers from p on are ys, if what lies there is as they are written. -/
def NumsIn (bs : List Int) (p : Nat) (ys : List Int) : Prop := (∀ z ∈ ys, -1 ≤ z ∧ z ≤ 9999) ∧ ∃ rest, bs.drop p = packI ys ++ rest
theorem NumsIn.at {bs : List Int} {p : Nat} {ys : List Int} (h : NumsIn bs p ys) (k : Nat) (hk : k < ys.length) : NumAt bs (p + (packI (ys.take k)).length) ys[k] := by
  obtain ⟨h1, rest, h2⟩ := h
  have h3 := h1 ys[k] (List.getElem_mem hk)
  refine ⟨h3.1, h3.2, packI (ys.drop (k + 1)) ++ rest, ?_⟩
  have e : ys = ys.take k ++ (ys[k] :: ys.drop (k + 1)) := by rw [← List.drop_eq_getElem_cons hk, List.take_append_drop]
  have e2 : packI ys = packI (ys.take k) ++ (numI ys[k] ++ packI (ys.drop (k + 1))) := by
    conv => lhs; rw [e]
    rw [packI_app]
    show _ ++ packI ([ys[k]] ++ ys.drop (k + 1)) = _
    rw [packI_app, packI_one]
  rw [← List.drop_drop, h2, e2, List.append_assoc, List.drop_left, List.append_assoc]

/-- What reading so many numbers comes to. -/
def RdNums (w0 w : World) (q : Nat) (vb : Value) (bs : List Int) (p : Nat) (f : Bool) (n : Int) (e : Ending) (w' : World) : Prop :=
  ∃ (v : Value) (zs : List Int) (p' : Nat) (f' : Bool), e = .returned v ∧ OwnsI w' w.heap.size v zs ∧ RdS w0 w' q vb bs p' f' ∧ OnlyB q w w' ∧ (f' = false → zs.length = n.toNat) ∧ zs.length ≤ 2097151 ∧
      (∀ ys, f = false → ys.length = n.toNat → NumsIn bs p ys → zs = ys ∧ p' = p + (packI ys).length ∧ f' = false)

set_option maxRecDepth 100000 in
set_option maxHeartbeats 8000000 in
theorem rdNums_any (w0 w : World) (q : Nat) (vb : Value) (bs : List Int) (p : Nat) (f : Bool) (n : Int) (h : RdS w0 w q vb bs p f) (hn : n ≤ 2097151) :
    Calls Try.prog 108 #[.pointer (some ⟨q, 0, none⟩), .int .i64 n] w fun e w' => RdNums w0 w q vb bs p f n e w' := by
  obtain ⟨i1, hi1, hz0, hz1, hz2⟩ := infoI_parts
  have hlt := h.lt
  have HLT := hide hlt
  have HR := hide h
  clear h hlt
  have hbA : Below w.heap.size w (w.alloc (.cells #[] 3)) := (Below.refl _ _).alloc (Nat.le_refl _) _
  have own0 : OwnsI (w.alloc (.cells #[] 3)) w.heap.size (.slice (some ⟨w.heap.size, 0, none⟩) 0 0) [] := World.ownsRow_lit w #[] 0 (Nat.le_refl _) (Nat.zero_le _) rfl
  have HR1 := hide ((unhide HR).on hbA)
  have HO1 := hide own0
  have HB1 : Hid (OnlyB q w (w.alloc (.cells #[] 3))) := hide ⟨hbA.size, fun b _ hl => hbA.block b hl, hbA.mono (Nat.le_of_lt (unhide HLT))⟩
  clear hbA own0
  go_enter Try.func108, Try.ntmps108
  go_wp2_with fail
  generalize w.alloc (.cells #[] 3) = X0 at *
  go_loopw [5, 6] (fun u i wr => ∃ (k : Nat) (zs : List Int) (p1 : Nat) (f1 : Bool), (k = 0 ∨ (k : Int) ≤ n) ∧ i = .int .i64 k ∧ Hid (zs.length = k) ∧ Hid (OwnsI wr w.heap.size u zs) ∧ Hid (RdS w0 wr q vb bs p1 f1) ∧ Hid (OnlyB q w wr) ∧ Hid (∀ ys, f = false → ys.length = n.toNat → NumsIn bs p ys → f1 = false ∧ zs = ys.take k ∧ p1 = p + (packI (ys.take k)).length)) (fun _ i _ => n.toNat - (intOf i).toNat)
  case atStart => exact ⟨0, [], p, f, Or.inl rfl, rfl, hide rfl, HO1, HR1, HB1, hide (fun ys h1 _ _ => ⟨h1, rfl, by simp [packI_nil]⟩)⟩
  case round =>
    obtain ⟨k, zs, p1, f1, hk, rfl, HL, HO, HRd, HB, HY⟩ := hrel
    have k2 := (unhide HRd).c2
    by_cases hkn : (k : Int) < n
    · cases f1 with
      | true =>
        have hk2 : k ≤ 2097151 := by omega
        go_wp2_with fail
        go_ret
        refine ⟨_, zs, p1, true, rfl, unhide HO, unhide HRd, unhide HB, (fun h => by cases h), (by rw [unhide HL]; exact hk2), fun ys h1 h2 h3 => ?_⟩
        have := ((unhide HY) ys h1 h2 h3).1
        cases this
      | false =>
        go_wp2_with fail
        refine (rdNum_any w0 _ q vb bs p1 false (unhide HRd)).mono ?_
        rintro e w3 ⟨z, p3, f3, rfl, hR3, hO3, hz9, hz10, _, _, hz11⟩
        have HO3 := hide (owns_onlyB hO3 (unhide HLT) (unhide HO))
        have HR3 := hide hR3
        have HB3 := hide ((unhide HB).trans hO3)
        have HZ := hide hz11
        clear hR3 hO3 hz11 HO HRd HB
        have hzl : zs.length ≤ 2097151 := by rw [unhide HL]; omega
        have hbA : Below w3.heap.size w3 (w3.alloc (.cells #[.int .i64 z] 3)) := (Below.refl _ _).alloc (Nat.le_refl _) _
        have hownA := ownsOn hbA (unhide HO3)
        have HBA := hide hbA
        have hsz := (unhide HB3).size
        clear hbA k2
        go_wp2_with (at_builtin; refine wpList_append_lies _ (by rfl) _ _ _ (by rfl) w.heap.size 3 i1 _ 1 8 slice_Int hi1 hz0 hz1 hz2 (by rfl) (by omega) _ zs.length (zs.map (Value.int .i64)) (by rfl) hownA ⟨w3.heap.size, 0, none⟩ 1 1 [.int .i64 z] (by rfl) (by rfl) (World.news_of_block (cs := #[.int .i64 z]) (t := 3) (fr := (0, 0)) (heap_alloc_new w3 _)) (by simp [Value.oneCell']) (by omega) (by unfold maxLen; omega) (by omega) (by simp; omega) (w3.heap.size + 1) (by simp) ?_; intro gg cap w4 hown4 hgrow hat hlt4)
        have HG4 := hide (Gr.of (n := zs.length + 1) (cap := cap) (unhide HBA) hgrow hat)
        have HO4 := hide (ownsI_more hown4)
        have HV : Hid (∀ g, Value.ownBlock _ = some g → w.heap.size ≤ g) := hide (fun g e => ((unhide HO3).lt g e).1)
        have HR4 := hide ((unhide HR3).gr (unhide HG4) (fun g e => by have := (unhide HV) g e; have := unhide HLT; omega))
        have HB4 := hide ((unhide HB3).gr (unhide HG4) (unhide HLT) (unhide HV))
        clear hown4 hgrow hat hlt4 hownA
        go_wp2_with fail
        go_roundw
        case rel =>
          refine ⟨k + 1, zs ++ [z], p3, f3, Or.inr (by omega), by go_num, hide (by rw [List.length_append, unhide HL]; rfl), HO4, HR4, HB4, hide (fun ys h1 h2 h3 => ?_)⟩
          obtain ⟨_, h4, h5⟩ := (unhide HY) ys h1 h2 h3
          have hky : k < ys.length := by omega
          obtain ⟨h6, h7, h8⟩ := (unhide HZ) ys[k] (by rw [h5]; exact h3.at k hky)
          refine ⟨h8, ?_, ?_⟩
          · rw [take_more ys k hky, ← h4, h6]
          · rw [h7, h5, packI_take ys k hky, List.length_append, Nat.add_assoc]
        case measure => simp [intOf]; omega
    · go_wp2_with fail
      go_ret
      have hkl : k = n.toNat := by omega
      refine ⟨_, zs, p1, f1, rfl, unhide HO, unhide HRd, unhide HB, fun _ => by rw [unhide HL]; exact hkl, by rw [unhide HL]; omega, fun ys h1 h2 h3 => ?_⟩
      obtain ⟨h4, h5, h6⟩ := (unhide HY) ys h1 h2 h3
      have e : ys.take k = ys := List.take_of_length_le (by omega)
      rw [e] at h5 h6
      exact ⟨h5, h6, h4⟩
end Go.Proofs.Ytiljjhipiinafaa
