/- Arguments opened: lists of numbers, words. -/
import Derived.Test.YtiljjhipiinafaaOpenEvent
import Derived.Test.YtiljjhipiinafaaOpenOut
import Derived.Test.YtiljjhipiinafaaWord1
namespace Go.Proofs.Ytiljjhipiinafaa
open Go.RowKit Go.ChangeShapes Go.WideShapes
section
variable {H : Type} {enc : TypeId × Value → H} {W : World} {sp : Nat → Bool} {held : Bool}

theorem typedW {α : Type} {f : α → List Int} {n : Nat} (hf : ∀ r : List Int, r.length = n → ∃ x, r = f x) : ∀ rs : List (List Int), (∀ r ∈ rs, r.length = n) → ∃ xs : List α, rs = xs.map f
  | [], _ => ⟨[], rfl⟩
  | r :: rs, h => by
    obtain ⟨xs, hx⟩ := typedW hf rs (fun r hr => h r (List.mem_cons_of_mem _ hr))
    obtain ⟨x, hx0⟩ := hf r (h r List.mem_cons_self)
    exact ⟨x :: xs, by rw [hx, hx0]; rfl⟩
theorem tyEvW (rs : List (List Int)) (h : ∀ r ∈ rs, r.length = 7) : ∃ xs : List EvV, rs = xs.map evRow :=
  typedW (fun r hr => by obtain ⟨a, b, c, d, e, f, g, rfl⟩ := seven hr; exact ⟨⟨a, b, c, d, e, f, g⟩, rfl⟩) rs h
theorem tyOutW (rs : List (List Int)) (h : ∀ r ∈ rs, r.length = 5) : ∃ xs : List OutV, rs = xs.map outRow :=
  typedW (fun r hr => by obtain ⟨a, b, c, d, e, rfl⟩ := five hr; exact ⟨⟨a, b, c, d, e⟩, rfl⟩) rs h
theorem cells_EvW : Try.prog.cellsOf 35 = 1 := by kernel_rfl
theorem cells_OuW : Try.prog.cellsOf 36 = 1 := by kernel_rfl
theorem cells_InW : Try.prog.cellsOf 23 = 1 := by kernel_rfl
theorem eleven {α : Type} {l : List α} (h : l.length = 11) : ∃ c0 c1 c2 c3 c4 c5 c6 c7 c8 c9 c10, l = [c0, c1, c2, c3, c4, c5, c6, c7, c8, c9, c10] := by
  match l, h with
  | [c0, c1, c2, c3, c4, c5, c6, c7, c8, c9, c10], _ => exact ⟨c0, c1, c2, c3, c4, c5, c6, c7, c8, c9, c10, rfl⟩

theorem slice_IntA : Try.prog.underlying 23 = some (.slice 3) := by kernel_rfl
theorem open_IntS {fuel : Nat} {cs : List Value} {y : DataW H × List MemPlace} (h : DataW.trod enc Try.prog W 0 sp held fuel 23 cs = some y) :
    ∃ v zs, cs = [v] ∧ NumsAt W v zs := by
  rcases Deep.open_slice slice_IntA h with ⟨rfl, _⟩ | ⟨a, len, cap, m, n, D, Pl, rfl, _, hlc, hm, hmm, _, hel⟩
  · exact ⟨_, [], rfl, ⟨none, 0, rfl, Nat.le_refl _, by decide, Or.inl rfl⟩⟩
  have hlm : len ≤ m := by rw [hmm]; split <;> omega
  have hop : ∀ i, i < len → ∃ z : Int, (i = 0 → a.spot = none) ∧ W.cell? ⟨a.block, a.off + i, none⟩ = some (.int .i64 z) := by
    intro i hi
    obtain ⟨cs', hc, ht⟩ := hel i (by omega)
    rw [cells_int] at hc
    obtain ⟨hl, _, hg⟩ := World.cells?_some hc
    obtain ⟨c, rfl⟩ := one (l := cs') (by first | exact hl | exact hl.symm | omega)
    obtain ⟨z, rfl⟩ := int_cell Try.underlying3 ht
    have g0 := hg 0 (by omega)
    simp only [Deep.add_add] at g0
    obtain ⟨hs, k0⟩ := at_add g0
    refine ⟨z, fun h0 => hs (by omega), ?_⟩
    simpa using k0
  obtain ⟨zs, hlen, hp⟩ := list_of hop
  subst hlen
  refine ⟨_, zs, rfl, ⟨some a, cap, by rw [List.length_map], by rw [List.length_map]; exact hlc, by rw [List.length_map]; exact Nat.le_trans hlc hm, ?_⟩⟩
  cases zs with
  | nil => exact Or.inl rfl
  | cons o t =>
    obtain ⟨b, off, spot⟩ := a
    obtain rfl : spot = none := (hp 0 (by simp)).1 rfl
    refine Or.inr ⟨b, off, rfl, fun i hi j hj => ?_⟩
    obtain rfl : j = 0 := by omega
    have hi' : i < (o :: t).length := by simpa using hi
    have := (hp i hi').2
    rw [Nat.mul_one, Nat.add_zero, this]
    simp only [List.getElem_map]
    rfl

theorem struct_Word : ∃ f0 f1 f2 f3 f4 f5 f6 f7 f8 f9 f10, Try.prog.underlying 38 = some (.struct #[f0, f1, f2, f3, f4, f5, f6, f7, f8, f9, f10]) ∧ (f0.type = 3 ∧ f0.offset = 0) ∧ (f1.type = 3 ∧ f1.offset = 1) ∧ (f2.type = 3 ∧ f2.offset = 2) ∧ (f3.type = 3 ∧ f3.offset = 3) ∧ (f4.type = 3 ∧ f4.offset = 4) ∧ (f5.type = 3 ∧ f5.offset = 5) ∧ (f6.type = 3 ∧ f6.offset = 6) ∧ (f7.type = 23 ∧ f7.offset = 7) ∧ (f8.type = 23 ∧ f8.offset = 8) ∧ (f9.type = 35 ∧ f9.offset = 9) ∧ (f10.type = 36 ∧ f10.offset = 10) :=
  ⟨_, _, _, _, _, _, _, _, _, _, _, Try.underlying38, ⟨rfl, rfl⟩, ⟨rfl, rfl⟩, ⟨rfl, rfl⟩, ⟨rfl, rfl⟩, ⟨rfl, rfl⟩, ⟨rfl, rfl⟩, ⟨rfl, rfl⟩, ⟨rfl, rfl⟩, ⟨rfl, rfl⟩, ⟨rfl, rfl⟩, ⟨rfl, rfl⟩⟩
theorem cells_Word : Try.prog.cellsOf 38 = 11 := by kernel_rfl
set_option maxHeartbeats 1000000 in
theorem open_Word {fuel : Nat} {cs : List Value} {y : DataW H × List MemPlace} (h : DataW.trod enc Try.prog W 0 sp held fuel 38 cs = some y) :
    ∃ (n : WordV) (vi vv ve vo : Value), cs = wordCells n vi vv ve vo ∧ WordAt W n vi vv ve vo := by
  obtain ⟨f0, f1, f2, f3, f4, f5, f6, f7, f8, f9, f10, hu, ⟨t0, o0⟩, ⟨t1, o1⟩, ⟨t2, o2⟩, ⟨t3, o3⟩, ⟨t4, o4⟩, ⟨t5, o5⟩, ⟨t6, o6⟩, ⟨t7, o7⟩, ⟨t8, o8⟩, ⟨t9, o9⟩, ⟨t10, o10⟩⟩ := struct_Word
  obtain ⟨xs, n, _, _, hl, hx, hf⟩ := DataW.trod_struct hu h
  rw [cells_Word] at hl
  obtain ⟨c0, c1, c2, c3, c4, c5, c6, c7, c8, c9, c10, rfl⟩ := eleven hl
  obtain ⟨y0, y1, y2, y3, y4, y5, y6, y7, y8, y9, y10, rfl⟩ := eleven (l := xs) (by simpa using hx)
  have h0 := hf 0 f0 rfl
  have h1 := hf 1 f1 rfl
  have h2 := hf 2 f2 rfl
  have h3 := hf 3 f3 rfl
  have h4 := hf 4 f4 rfl
  have h5 := hf 5 f5 rfl
  have h6 := hf 6 f6 rfl
  have h7 := hf 7 f7 rfl
  have h8 := hf 8 f8 rfl
  have h9 := hf 9 f9 rfl
  have h10 := hf 10 f10 rfl
  simp only [t0, o0, t1, o1, t2, o2, t3, o3, t4, o4, t5, o5, t6, o6, t7, o7, t8, o8, t9, o9, t10, o10, cells_int, cells_InW, cells_EvW, cells_OuW] at h0 h1 h2 h3 h4 h5 h6 h7 h8 h9 h10
  obtain ⟨n0, rfl⟩ := int_cell Try.underlying3 (by simpa using h0)
  obtain ⟨n1, rfl⟩ := int_cell Try.underlying3 (by simpa using h1)
  obtain ⟨n2, rfl⟩ := int_cell Try.underlying3 (by simpa using h2)
  obtain ⟨n3, rfl⟩ := int_cell Try.underlying3 (by simpa using h3)
  obtain ⟨n4, rfl⟩ := int_cell Try.underlying3 (by simpa using h4)
  obtain ⟨n5, rfl⟩ := int_cell Try.underlying3 (by simpa using h5)
  obtain ⟨n6, rfl⟩ := int_cell Try.underlying3 (by simpa using h6)
  obtain ⟨v7, z7, e7, p7⟩ := open_IntS (cs := [c7]) (by simpa using h7)
  obtain ⟨v8, z8, e8, p8⟩ := open_IntS (cs := [c8]) (by simpa using h8)
  obtain ⟨v9, r9, e9, p9, l9⟩ := open_EventS (cs := [c9]) (by simpa using h9)
  obtain ⟨v10, r10, e10, p10, l10⟩ := open_OutS (cs := [c10]) (by simpa using h10)
  obtain ⟨qs, rfl⟩ := tyEvW r9 l9
  obtain ⟨os, rfl⟩ := tyOutW r10 l10
  simp only [List.cons.injEq, and_true] at e7 e8 e9 e10
  subst e7 e8 e9 e10
  exact ⟨⟨n0, n1, n2, n3, n4, n5, n6, z7, z8, qs, os⟩, _, _, _, _, rfl, p7, p8, p9, p10⟩
end
end Go.Proofs.Ytiljjhipiinafaa
