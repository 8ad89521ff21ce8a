/- Arguments opened: lists of numbers, lists of such, slots, disks. -/
import Derived.Test.YtocgfngcgekciaaOpenBase
import Derived.Test.YtocgfngcgekciaaGrid1
namespace Go.Proofs.Ytocgfngcgekciaa
open Go.RowKit Go.ChangeShapes Go.WideShapes
section
variable {H : Type} {enc : TypeId × Value → H} {W : World} {sp : Nat → Bool} {held : Bool}

theorem slice_IntA : Try.prog.underlying 28 = some (.slice 3) := by kernel_rfl

theorem open_IntS {fuel : Nat} {cs : List Value} {y : DataW H × List MemPlace} (h : DataW.trod enc Try.prog W 0 sp held fuel 28 cs = some y) :
    ∃ v zs, cs = [v] ∧ NumsAt W v zs := by
  rcases Deep.open_slice slice_IntA h with ⟨rfl, _⟩ | ⟨a, len, cap, m, n, D, Pl, rfl, _, hlc, hm, hmm, _, hel⟩
  · exact ⟨_, [], rfl, ⟨none, 0, rfl, Nat.le_refl _, by decide, Or.inl rfl⟩⟩
  have hlm : len ≤ m := by rw [hmm]; split <;> omega
  have hop : ∀ i, i < len → ∃ z : Int, (i = 0 → a.spot = none) ∧ W.cell? ⟨a.block, a.off + i, none⟩ = some (.int .i64 z) := by
    intro i hi
    obtain ⟨cs', hc, ht⟩ := hel i (by omega)
    rw [cells_int] at hc
    obtain ⟨hl, _, hg⟩ := World.cells?_some hc
    obtain ⟨c, rfl⟩ := one (l := cs') (by first | exact hl | exact hl.symm | omega)
    obtain ⟨z, rfl⟩ := int_cell Try.underlying3 ht
    have g0 := hg 0 (by omega)
    simp only [Deep.add_add] at g0
    obtain ⟨hs, k0⟩ := at_add g0
    refine ⟨z, fun h0 => hs (by omega), ?_⟩
    simpa using k0
  obtain ⟨zs, hlen, hp⟩ := list_of hop
  subst hlen
  refine ⟨_, zs, rfl, ⟨some a, cap, by rw [List.length_map], by rw [List.length_map]; exact hlc, by rw [List.length_map]; exact Nat.le_trans hlc hm, ?_⟩⟩
  cases zs with
  | nil => exact Or.inl rfl
  | cons o t =>
    obtain ⟨b, off, spot⟩ := a
    obtain rfl : spot = none := (hp 0 (by simp)).1 rfl
    refine Or.inr ⟨b, off, rfl, fun i hi j hj => ?_⟩
    obtain rfl : j = 0 := by omega
    have hi' : i < (o :: t).length := by simpa using hi
    have := (hp i hi').2
    rw [Nat.mul_one, Nat.add_zero, this]
    simp only [List.getElem_map]
    rfl

theorem cells_InW : Try.prog.cellsOf 28 = 1 := by kernel_rfl
theorem slice_SSA : Try.prog.underlying 23 = some (.slice 28) := by kernel_rfl
theorem open_IntSS {fuel : Nat} {cs : List Value} {y : DataW H × List MemPlace} (h : DataW.trod enc Try.prog W 0 sp held fuel 23 cs = some y) :
    ∃ v ls, cs = [v] ∧ GridAt W v ls := by
  rcases Deep.open_slice slice_SSA h with ⟨rfl, _⟩ | ⟨a, len, cap, m, n, D, Pl, rfl, _, hlc, hm, hmm, _, hel⟩
  · exact ⟨_, [], rfl, ⟨none, 0, rfl, Nat.le_refl _, by decide, Or.inl rfl⟩⟩
  have hlm : len ≤ m := by rw [hmm]; split <;> omega
  have hop : ∀ i, i < len → ∃ l : List Int, (i = 0 → a.spot = none) ∧ ∃ vd, W.cell? ⟨a.block, a.off + i, none⟩ = some vd ∧ NumsAt W vd l := by
    intro i hi
    obtain ⟨cs', hc, ht⟩ := hel i (by omega)
    obtain ⟨v, l, rfl, hp⟩ := open_IntS ht
    rw [cells_InW] at hc
    obtain ⟨_, _, hg⟩ := World.cells?_some hc
    have g0 := hg 0 (by omega)
    simp only [Deep.add_add] at g0
    obtain ⟨hs, k0⟩ := at_add g0
    refine ⟨l, fun h0 => hs (by omega), v, ?_, hp⟩
    simpa using k0
  obtain ⟨ls, hlen, hp⟩ := list_of hop
  subst hlen
  refine ⟨_, ls, rfl, ⟨some a, cap, rfl, hlc, Nat.le_trans hlc hm, ?_⟩⟩
  cases ls with
  | nil => exact Or.inl rfl
  | cons o t =>
    obtain ⟨b, off, spot⟩ := a
    obtain rfl : spot = none := (hp 0 (by simp)).1 rfl
    exact Or.inr ⟨b, off, rfl, fun i hi => (hp i hi).2⟩

theorem cells_SS : Try.prog.cellsOf 23 = 1 := by kernel_rfl
theorem struct_Slot : ∃ f0 f1 f2, Try.prog.underlying 49 = some (.struct #[f0, f1, f2]) ∧ (f0.type = 3 ∧ f0.offset = 0) ∧ (f1.type = 3 ∧ f1.offset = 1) ∧ (f2.type = 23 ∧ f2.offset = 2) :=
  ⟨_, _, _, Try.underlying49, ⟨rfl, rfl⟩, ⟨rfl, rfl⟩, ⟨rfl, rfl⟩⟩
theorem cells_Slot : Try.prog.cellsOf 49 = 3 := by kernel_rfl
theorem open_Slot {fuel : Nat} {cs : List Value} {y : DataW H × List MemPlace} (h : DataW.trod enc Try.prog W 0 sp held fuel 49 cs = some y) :
    ∃ (s : SlotV) (v : Value), cs = slotCells s v ∧ GridAt W v s.rows := by
  obtain ⟨f0, f1, f2, hu, ⟨t0, o0⟩, ⟨t1, o1⟩, ⟨t2, o2⟩⟩ := struct_Slot
  obtain ⟨xs, n, _, _, hl, hx, hf⟩ := DataW.trod_struct hu h
  rw [cells_Slot] at hl
  obtain ⟨c0, c1, c2, rfl⟩ := three hl
  obtain ⟨y0, y1, y2, rfl⟩ := three (l := xs) (by simpa using hx)
  have h0 := hf 0 f0 rfl
  have h1 := hf 1 f1 rfl
  have h2 := hf 2 f2 rfl
  simp only [t0, o0, t1, o1, t2, o2, cells_int, cells_SS] at h0 h1 h2
  obtain ⟨n0, rfl⟩ := int_cell Try.underlying3 (by simpa using h0)
  obtain ⟨n1, rfl⟩ := int_cell Try.underlying3 (by simpa using h1)
  obtain ⟨v, ls, e2, hp⟩ := open_IntSS (cs := [c2]) (by simpa using h2)
  simp only [List.cons.injEq, and_true] at e2
  subst e2
  exact ⟨⟨n0, n1, ls⟩, _, rfl, hp⟩

theorem struct_Disk : ∃ f0 f1, Try.prog.underlying 51 = some (.struct #[f0, f1]) ∧ (f0.type = 49 ∧ f0.offset = 0) ∧ (f1.type = 49 ∧ f1.offset = 3) :=
  ⟨_, _, Try.underlying51, ⟨rfl, rfl⟩, ⟨rfl, rfl⟩⟩
theorem cells_Disk : Try.prog.cellsOf 51 = 6 := by kernel_rfl
theorem sixS {α : Type} {l : List α} (h : l.length = 6) : ∃ c0 c1 c2 c3 c4 c5, l = [c0, c1, c2, c3, c4, c5] := by
  match l, h with
  | [c0, c1, c2, c3, c4, c5], _ => exact ⟨c0, c1, c2, c3, c4, c5, rfl⟩
theorem open_Disk {fuel : Nat} {cs : List Value} {y : DataW H × List MemPlace} (h : DataW.trod enc Try.prog W 0 sp held fuel 51 cs = some y) :
    ∃ (d : DiskV) (va vb : Value), cs = diskCells d va vb ∧ DiskAt W d va vb := by
  obtain ⟨f0, f1, hu, ⟨t0, o0⟩, ⟨t1, o1⟩⟩ := struct_Disk
  obtain ⟨xs, n, _, _, hl, hx, hf⟩ := DataW.trod_struct hu h
  rw [cells_Disk] at hl
  obtain ⟨c0, c1, c2, c3, c4, c5, rfl⟩ := sixS hl
  obtain ⟨y0, y1, rfl⟩ := two (l := xs) (by simpa using hx)
  have h0 := hf 0 f0 rfl
  have h1 := hf 1 f1 rfl
  simp only [t0, o0, t1, o1, cells_Slot] at h0 h1
  obtain ⟨s0, v0, e0, p0⟩ := open_Slot (cs := [c0, c1, c2]) (by simpa using h0)
  obtain ⟨s1, v1, e1, p1⟩ := open_Slot (cs := [c3, c4, c5]) (by simpa using h1)
  simp only [List.cons.injEq, and_true] at e0 e1
  obtain ⟨rfl, rfl, rfl⟩ := e0
  obtain ⟨rfl, rfl, rfl⟩ := e1
  exact ⟨⟨s0, s1⟩, _, _, rfl, ⟨p0, p1⟩⟩
end
end Go.Proofs.Ytocgfngcgekciaa
