/- Arguments opened: Event, and lists of such. -/
import Derived.Test.YtiljjhipiinafaaOpenBase
import Derived.Test.YtiljjhipiinafaaProg
import Derived.Test.YtiljjhipiinafaaFlat
import Derived.Deep.Slices
import Derived.OpenShut
import Derived.ChangeVars
import Derived.LaidLaws
import Derived.ProofKit
namespace Go.Proofs.Ytiljjhipiinafaa
open Go.RowKit Go.ChangeShapes Go.WideShapes

section
variable {H : Type} {enc : TypeId × Value → H} {W : World} {sp : Nat → Bool} {held : Bool}

theorem struct_Event : ∃ f0 f1 f2 f3 f4 f5 f6, Try.prog.underlying 131 = some (.struct #[f0, f1, f2, f3, f4, f5, f6]) ∧ (f0.type = 3 ∧ f0.offset = 0) ∧ (f1.type = 3 ∧ f1.offset = 1) ∧ (f2.type = 3 ∧ f2.offset = 2) ∧ (f3.type = 3 ∧ f3.offset = 3) ∧ (f4.type = 3 ∧ f4.offset = 4) ∧ (f5.type = 3 ∧ f5.offset = 5) ∧ (f6.type = 3 ∧ f6.offset = 6) :=
  ⟨_, _, _, _, _, _, _, Try.underlying131, ⟨rfl, rfl⟩, ⟨rfl, rfl⟩, ⟨rfl, rfl⟩, ⟨rfl, rfl⟩, ⟨rfl, rfl⟩, ⟨rfl, rfl⟩, ⟨rfl, rfl⟩⟩
theorem cells_Event : Try.prog.cellsOf 131 = 7 := by kernel_rfl
/-- One Event. -/
theorem open_Event {fuel : Nat} {cs : List Value} {y : DataW H × List MemPlace} (h : DataW.trod enc Try.prog W 0 sp held fuel 131 cs = some y) :
    ∃ n0 n1 n2 n3 n4 n5 n6 : Int, cs = [.int .i64 n0, .int .i64 n1, .int .i64 n2, .int .i64 n3, .int .i64 n4, .int .i64 n5, .int .i64 n6] := by
  obtain ⟨f0, f1, f2, f3, f4, f5, f6, hu, ⟨t0, o0⟩, ⟨t1, o1⟩, ⟨t2, o2⟩, ⟨t3, o3⟩, ⟨t4, o4⟩, ⟨t5, o5⟩, ⟨t6, o6⟩⟩ := struct_Event
  obtain ⟨xs, n, _, _, hl, hx, hf⟩ := DataW.trod_struct hu h
  rw [cells_Event] at hl
  obtain ⟨c0, c1, c2, c3, c4, c5, c6, rfl⟩ := seven hl
  obtain ⟨y0, y1, y2, y3, y4, y5, y6, rfl⟩ := seven (l := xs) (by simpa using hx)
  have h0 := hf 0 f0 rfl
  have h1 := hf 1 f1 rfl
  have h2 := hf 2 f2 rfl
  have h3 := hf 3 f3 rfl
  have h4 := hf 4 f4 rfl
  have h5 := hf 5 f5 rfl
  have h6 := hf 6 f6 rfl
  simp only [t0, o0, t1, o1, t2, o2, t3, o3, t4, o4, t5, o5, t6, o6, cells_int] at h0 h1 h2 h3 h4 h5 h6
  obtain ⟨n0, rfl⟩ := int_cell Try.underlying3 (by simpa using h0)
  obtain ⟨n1, rfl⟩ := int_cell Try.underlying3 (by simpa using h1)
  obtain ⟨n2, rfl⟩ := int_cell Try.underlying3 (by simpa using h2)
  obtain ⟨n3, rfl⟩ := int_cell Try.underlying3 (by simpa using h3)
  obtain ⟨n4, rfl⟩ := int_cell Try.underlying3 (by simpa using h4)
  obtain ⟨n5, rfl⟩ := int_cell Try.underlying3 (by simpa using h5)
  obtain ⟨n6, rfl⟩ := int_cell Try.underlying3 (by simpa using h6)
  exact ⟨n0, n1, n2, n3, n4, n5, n6, rfl⟩

theorem slice_EventA : Try.prog.underlying 35 = some (.slice 131) := by kernel_rfl
/-- A slice of such. -/
theorem open_EventS {fuel : Nat} {cs : List Value} {y : DataW H × List MemPlace} (h : DataW.trod enc Try.prog W 0 sp held fuel 35 cs = some y) :
    ∃ v rs, cs = [v] ∧ RowsAt 7 W v rs ∧ ∀ r ∈ rs, r.length = 7 := by
  rcases Deep.open_slice slice_EventA h with ⟨rfl, _⟩ | ⟨a, len, cap, m, n, D, Pl, rfl, _, hlc, hm, hmm, _, hel⟩
  · exact ⟨_, [], rfl, ⟨none, 0, rfl, Nat.le_refl _, by decide, Or.inl rfl⟩, by simp⟩
  have hlm : len ≤ m := by rw [hmm]; split <;> omega
  have hop : ∀ i, i < len → ∃ r : List Int, r.length = 7 ∧ (i = 0 → a.spot = none) ∧ ∀ j, j < 7 → W.cell? ⟨a.block, a.off + i * 7 + j, none⟩ = some (.int .i64 (r.getD j 0)) := by
    intro i hi
    obtain ⟨cs', hc, ht⟩ := hel i (by omega)
    obtain ⟨n0, n1, n2, n3, n4, n5, n6, rfl⟩ := open_Event ht
    rw [cells_Event] at hc
    obtain ⟨_, _, hg⟩ := World.cells?_some hc
    have g0 := hg 0 (by omega)
    have g1 := hg 1 (by omega)
    have g2 := hg 2 (by omega)
    have g3 := hg 3 (by omega)
    have g4 := hg 4 (by omega)
    have g5 := hg 5 (by omega)
    have g6 := hg 6 (by omega)
    simp only [Deep.add_add] at g0 g1 g2 g3 g4 g5 g6
    obtain ⟨hs, k0⟩ := at_add g0
    obtain ⟨_, k1⟩ := at_add g1
    obtain ⟨_, k2⟩ := at_add g2
    obtain ⟨_, k3⟩ := at_add g3
    obtain ⟨_, k4⟩ := at_add g4
    obtain ⟨_, k5⟩ := at_add g5
    obtain ⟨_, k6⟩ := at_add g6
    refine ⟨[n0, n1, n2, n3, n4, n5, n6], rfl, fun h0 => hs (by omega), fun j hj => ?_⟩
    match j, hj with
    | 0, _ => simpa [Nat.add_assoc] using k0
    | 1, _ => simpa [Nat.add_assoc] using k1
    | 2, _ => simpa [Nat.add_assoc] using k2
    | 3, _ => simpa [Nat.add_assoc] using k3
    | 4, _ => simpa [Nat.add_assoc] using k4
    | 5, _ => simpa [Nat.add_assoc] using k5
    | 6, _ => simpa [Nat.add_assoc] using k6
  obtain ⟨rs, hlen, hp⟩ := list_of hop
  subst hlen
  refine ⟨_, rs, rfl, ⟨some a, cap, rfl, hlc, Nat.le_trans hlc hm, ?_⟩, fun r hr => ?_⟩
  · cases rs with
    | nil => exact Or.inl rfl
    | cons o t =>
      obtain ⟨b, off, spot⟩ := a
      obtain rfl : spot = none := (hp 0 (by simp)).2.1 rfl
      exact Or.inr ⟨b, off, rfl, fun i hi => (hp i hi).2.2⟩
  · obtain ⟨i, hi, rfl⟩ := List.getElem_of_mem hr
    exact (hp i hi).1

end
end Go.Proofs.Ytiljjhipiinafaa
