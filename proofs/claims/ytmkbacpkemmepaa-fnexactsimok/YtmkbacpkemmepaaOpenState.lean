/- Arguments opened: State, and lists of such. -/
import Derived.Test.YtmkbacpkemmepaaOpenBase
import Derived.Test.YtmkbacpkemmepaaProg
import Derived.Test.YtmkbacpkemmepaaFlat
import Derived.Deep.Slices
import Derived.OpenShut
import Derived.ChangeVars
import Derived.LaidLaws
import Derived.ProofKit
namespace Go.Proofs.Ytmkbacpkemmepaa
open Go.RowKit Go.ChangeShapes Go.WideShapes

section
variable {H : Type} {enc : TypeId × Value → H} {W : World} {sp : Nat → Bool} {held : Bool}

theorem struct_State : ∃ f0 f1 f2, Try.prog.underlying 106 = some (.struct #[f0, f1, f2]) ∧ (f0.type = 3 ∧ f0.offset = 0) ∧ (f1.type = 3 ∧ f1.offset = 1) ∧ (f2.type = 3 ∧ f2.offset = 2) :=
  ⟨_, _, _, Try.underlying106, ⟨rfl, rfl⟩, ⟨rfl, rfl⟩, ⟨rfl, rfl⟩⟩
theorem cells_State : Try.prog.cellsOf 106 = 3 := by kernel_rfl
/-- One State. -/
theorem open_State {fuel : Nat} {cs : List Value} {y : DataW H × List MemPlace} (h : DataW.trod enc Try.prog W 0 sp held fuel 106 cs = some y) :
    ∃ n0 n1 n2 : Int, cs = [.int .i64 n0, .int .i64 n1, .int .i64 n2] := by
  obtain ⟨f0, f1, f2, hu, ⟨t0, o0⟩, ⟨t1, o1⟩, ⟨t2, o2⟩⟩ := struct_State
  obtain ⟨xs, n, _, _, hl, hx, hf⟩ := DataW.trod_struct hu h
  rw [cells_State] at hl
  obtain ⟨c0, c1, c2, rfl⟩ := three hl
  obtain ⟨y0, y1, y2, rfl⟩ := three (l := xs) (by simpa using hx)
  have h0 := hf 0 f0 rfl
  have h1 := hf 1 f1 rfl
  have h2 := hf 2 f2 rfl
  simp only [t0, o0, t1, o1, t2, o2, cells_int] at h0 h1 h2
  obtain ⟨n0, rfl⟩ := int_cell Try.underlying3 (by simpa using h0)
  obtain ⟨n1, rfl⟩ := int_cell Try.underlying3 (by simpa using h1)
  obtain ⟨n2, rfl⟩ := int_cell Try.underlying3 (by simpa using h2)
  exact ⟨n0, n1, n2, rfl⟩

theorem slice_StateA : Try.prog.underlying 50 = some (.slice 106) := by kernel_rfl
/-- A slice of such. -/
theorem open_StateS {fuel : Nat} {cs : List Value} {y : DataW H × List MemPlace} (h : DataW.trod enc Try.prog W 0 sp held fuel 50 cs = some y) :
    ∃ v rs, cs = [v] ∧ RowsAt 3 W v rs ∧ ∀ r ∈ rs, r.length = 3 := by
  rcases Deep.open_slice slice_StateA h with ⟨rfl, _⟩ | ⟨a, len, cap, m, n, D, Pl, rfl, _, hlc, hm, hmm, _, hel⟩
  · exact ⟨_, [], rfl, ⟨none, 0, rfl, Nat.le_refl _, by decide, Or.inl rfl⟩, by simp⟩
  have hlm : len ≤ m := by rw [hmm]; split <;> omega
  have hop : ∀ i, i < len → ∃ r : List Int, r.length = 3 ∧ (i = 0 → a.spot = none) ∧ ∀ j, j < 3 → W.cell? ⟨a.block, a.off + i * 3 + j, none⟩ = some (.int .i64 (r.getD j 0)) := by
    intro i hi
    obtain ⟨cs', hc, ht⟩ := hel i (by omega)
    obtain ⟨n0, n1, n2, rfl⟩ := open_State ht
    rw [cells_State] at hc
    obtain ⟨_, _, hg⟩ := World.cells?_some hc
    have g0 := hg 0 (by omega)
    have g1 := hg 1 (by omega)
    have g2 := hg 2 (by omega)
    simp only [Deep.add_add] at g0 g1 g2
    obtain ⟨hs, k0⟩ := at_add g0
    obtain ⟨_, k1⟩ := at_add g1
    obtain ⟨_, k2⟩ := at_add g2
    refine ⟨[n0, n1, n2], rfl, fun h0 => hs (by omega), fun j hj => ?_⟩
    match j, hj with
    | 0, _ => simpa [Nat.add_assoc] using k0
    | 1, _ => simpa [Nat.add_assoc] using k1
    | 2, _ => simpa [Nat.add_assoc] using k2
  obtain ⟨rs, hlen, hp⟩ := list_of hop
  subst hlen
  refine ⟨_, rs, rfl, ⟨some a, cap, rfl, hlc, Nat.le_trans hlc hm, ?_⟩, fun r hr => ?_⟩
  · cases rs with
    | nil => exact Or.inl rfl
    | cons o t =>
      obtain ⟨b, off, spot⟩ := a
      obtain rfl : spot = none := (hp 0 (by simp)).2.1 rfl
      exact Or.inr ⟨b, off, rfl, fun i hi => (hp i hi).2.2⟩
  · obtain ⟨i, hi, rfl⟩ := List.getElem_of_mem hr
    exact (hp i hi).1

end
end Go.Proofs.Ytmkbacpkemmepaa
