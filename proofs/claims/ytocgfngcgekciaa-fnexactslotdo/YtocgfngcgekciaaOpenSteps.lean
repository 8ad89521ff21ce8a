/- Arguments opened: lists of steps. -/
import Derived.Test.YtocgfngcgekciaaOpenDisk
import Derived.Test.YtocgfngcgekciaaSteps1
namespace Go.Proofs.Ytocgfngcgekciaa
open Go.RowKit Go.ChangeShapes Go.WideShapes
section
variable {H : Type} {enc : TypeId × Value → H} {W : World} {sp : Nat → Bool} {held : Bool}

theorem bool_cell {fuel : Nat} {t : TypeId} {c : Value} {y : DataW H × List MemPlace} (ht : Try.prog.underlying t = some .bool) (h : DataW.trod enc Try.prog W 0 sp held fuel t [c] = some y) : ∃ b, c = .bool b := by
  obtain ⟨n, hc, _⟩ := DataW.trod_bool ht h
  exact ⟨n, by simpa using hc⟩
theorem fiveS {α : Type} {l : List α} (h : l.length = 5) : ∃ c0 c1 c2 c3 c4, l = [c0, c1, c2, c3, c4] := by
  match l, h with
  | [c0, c1, c2, c3, c4], _ => exact ⟨c0, c1, c2, c3, c4, rfl⟩
theorem cells_bool : Try.prog.cellsOf 4 = 1 := by kernel_rfl
theorem struct_Step : ∃ f0 f1 f2 f3 f4, Try.prog.underlying 94 = some (.struct #[f0, f1, f2, f3, f4]) ∧ (f0.type = 4 ∧ f0.offset = 0) ∧ (f1.type = 3 ∧ f1.offset = 1) ∧ (f2.type = 3 ∧ f2.offset = 2) ∧ (f3.type = 3 ∧ f3.offset = 3) ∧ (f4.type = 28 ∧ f4.offset = 4) :=
  ⟨_, _, _, _, _, Try.underlying94, ⟨rfl, rfl⟩, ⟨rfl, rfl⟩, ⟨rfl, rfl⟩, ⟨rfl, rfl⟩, ⟨rfl, rfl⟩⟩
theorem cells_Step : Try.prog.cellsOf 94 = 5 := by kernel_rfl
theorem open_Step {fuel : Nat} {cs : List Value} {y : DataW H × List MemPlace} (h : DataW.trod enc Try.prog W 0 sp held fuel 94 cs = some y) :
    ∃ (e : StepV) (v : Value), cs = stepCells e v ∧ NumsAt W v e.data := by
  obtain ⟨f0, f1, f2, f3, f4, hu, ⟨t0, o0⟩, ⟨t1, o1⟩, ⟨t2, o2⟩, ⟨t3, o3⟩, ⟨t4, o4⟩⟩ := struct_Step
  obtain ⟨xs, n, _, _, hl, hx, hf⟩ := DataW.trod_struct hu h
  rw [cells_Step] at hl
  obtain ⟨c0, c1, c2, c3, c4, rfl⟩ := fiveS hl
  obtain ⟨y0, y1, y2, y3, y4, rfl⟩ := fiveS (l := xs) (by simpa using hx)
  have h0 := hf 0 f0 rfl
  have h1 := hf 1 f1 rfl
  have h2 := hf 2 f2 rfl
  have h3 := hf 3 f3 rfl
  have h4 := hf 4 f4 rfl
  simp only [t0, o0, t1, o1, t2, o2, t3, o3, t4, o4, cells_int, cells_bool, cells_InW] at h0 h1 h2 h3 h4
  obtain ⟨n0, rfl⟩ := bool_cell Try.underlying4 (by simpa using h0)
  obtain ⟨n1, rfl⟩ := int_cell Try.underlying3 (by simpa using h1)
  obtain ⟨n2, rfl⟩ := int_cell Try.underlying3 (by simpa using h2)
  obtain ⟨n3, rfl⟩ := int_cell Try.underlying3 (by simpa using h3)
  obtain ⟨v, ls, e2, hp⟩ := open_IntS (cs := [c4]) (by simpa using h4)
  simp only [List.cons.injEq, and_true] at e2
  subst e2
  exact ⟨⟨n0, n1, n2, n3, ls⟩, _, rfl, hp⟩

theorem slice_StepA : Try.prog.underlying 59 = some (.slice 94) := by kernel_rfl
theorem open_StepS {fuel : Nat} {cs : List Value} {y : DataW H × List MemPlace} (h : DataW.trod enc Try.prog W 0 sp held fuel 59 cs = some y) :
    ∃ v es, cs = [v] ∧ StepsAt W v es := by
  rcases Deep.open_slice slice_StepA h with ⟨rfl, _⟩ | ⟨a, len, cap, m, n, D, Pl, rfl, _, hlc, hm, hmm, _, hel⟩
  · exact ⟨_, [], rfl, ⟨none, 0, rfl, Nat.le_refl _, by decide, Or.inl rfl⟩⟩
  have hlm : len ≤ m := by rw [hmm]; split <;> omega
  have hop : ∀ i, i < len → ∃ e : StepV, (i = 0 → a.spot = none) ∧ ∃ vd, CellsAt W a.block (a.off + i * 5) (stepCells e vd) ∧ NumsAt W vd e.data := by
    intro i hi
    obtain ⟨cs', hc, ht⟩ := hel i (by omega)
    obtain ⟨e, vd, rfl, hp⟩ := open_Step ht
    rw [cells_Step] at hc
    obtain ⟨_, _, hg⟩ := World.cells?_some hc
    have g0 := hg 0 (by omega)
    simp only [Deep.add_add] at g0
    obtain ⟨hs, _⟩ := at_add g0
    refine ⟨e, fun h0 => hs (by omega), vd, fun j hj => ?_, hp⟩
    have hj' : j < 5 := hj
    have gj := hg j hj'
    simp only [Deep.add_add] at gj
    rw [List.getElem?_eq_getElem hj] at gj
    obtain ⟨_, kj⟩ := at_add gj
    rw [Nat.add_assoc]
    exact kj
  obtain ⟨ps, hlen, hp⟩ := list_of hop
  subst hlen
  refine ⟨_, ps, rfl, ⟨some a, cap, rfl, hlc, Nat.le_trans hlc hm, ?_⟩⟩
  cases ps with
  | nil => exact Or.inl rfl
  | cons o t =>
    obtain ⟨b, off, spot⟩ := a
    obtain rfl : spot = none := (hp 0 (by simp)).1 rfl
    exact Or.inr ⟨b, off, rfl, fun i hi => (hp i hi).2⟩
end
end Go.Proofs.Ytocgfngcgekciaa
