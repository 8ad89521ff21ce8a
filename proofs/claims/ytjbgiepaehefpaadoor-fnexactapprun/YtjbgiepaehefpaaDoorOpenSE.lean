/- Arguments opened: State and Event. -/
import Derived.Test.YtjbgiepaehefpaaDoorOpenBase
import Derived.Test.YtjbgiepaehefpaaDoorProg
import Derived.Test.YtjbgiepaehefpaaDoorFlat
import Derived.Deep.Slices
import Derived.OpenShut
import Derived.ChangeVars
import Derived.LaidLaws
import Derived.ProofKit
namespace Go.Proofs.YtjbgiepaehefpaaDoor
open Go.RowKit Go.ChangeShapes Go.WideShapes

section
variable {H : Type} {enc : TypeId × Value → H} {W : World} {sp : Nat → Bool} {held : Bool}

theorem struct_State : ∃ f0 f1 f2, Tryd.prog.underlying 59 = some (.struct #[f0, f1, f2]) ∧ (f0.type = 3 ∧ f0.offset = 0) ∧ (f1.type = 3 ∧ f1.offset = 1) ∧ (f2.type = 3 ∧ f2.offset = 2) :=
  ⟨_, _, _, Tryd.underlying59, ⟨rfl, rfl⟩, ⟨rfl, rfl⟩, ⟨rfl, rfl⟩⟩
theorem cells_State : Tryd.prog.cellsOf 59 = 3 := by kernel_rfl
/-- One State. -/
theorem open_State {fuel : Nat} {cs : List Value} {y : DataW H × List MemPlace} (h : DataW.trod enc Tryd.prog W 0 sp held fuel 59 cs = some y) :
    ∃ n0 n1 n2 : Int, cs = [.int .i64 n0, .int .i64 n1, .int .i64 n2] := by
  obtain ⟨f0, f1, f2, hu, ⟨t0, o0⟩, ⟨t1, o1⟩, ⟨t2, o2⟩⟩ := struct_State
  obtain ⟨xs, n, _, _, hl, hx, hf⟩ := DataW.trod_struct hu h
  rw [cells_State] at hl
  obtain ⟨c0, c1, c2, rfl⟩ := three hl
  obtain ⟨y0, y1, y2, rfl⟩ := three (l := xs) (by simpa using hx)
  have h0 := hf 0 f0 rfl
  have h1 := hf 1 f1 rfl
  have h2 := hf 2 f2 rfl
  simp only [t0, o0, t1, o1, t2, o2, cells_int] at h0 h1 h2
  obtain ⟨n0, rfl⟩ := int_cell Tryd.underlying3 (by simpa using h0)
  obtain ⟨n1, rfl⟩ := int_cell Tryd.underlying3 (by simpa using h1)
  obtain ⟨n2, rfl⟩ := int_cell Tryd.underlying3 (by simpa using h2)
  exact ⟨n0, n1, n2, rfl⟩

theorem struct_Event : ∃ f0 f1 f2 f3 f4 f5 f6, Tryd.prog.underlying 60 = some (.struct #[f0, f1, f2, f3, f4, f5, f6]) ∧ (f0.type = 3 ∧ f0.offset = 0) ∧ (f1.type = 3 ∧ f1.offset = 1) ∧ (f2.type = 3 ∧ f2.offset = 2) ∧ (f3.type = 3 ∧ f3.offset = 3) ∧ (f4.type = 3 ∧ f4.offset = 4) ∧ (f5.type = 3 ∧ f5.offset = 5) ∧ (f6.type = 3 ∧ f6.offset = 6) :=
  ⟨_, _, _, _, _, _, _, Tryd.underlying60, ⟨rfl, rfl⟩, ⟨rfl, rfl⟩, ⟨rfl, rfl⟩, ⟨rfl, rfl⟩, ⟨rfl, rfl⟩, ⟨rfl, rfl⟩, ⟨rfl, rfl⟩⟩
theorem cells_Event : Tryd.prog.cellsOf 60 = 7 := by kernel_rfl
/-- One Event. -/
theorem open_Event {fuel : Nat} {cs : List Value} {y : DataW H × List MemPlace} (h : DataW.trod enc Tryd.prog W 0 sp held fuel 60 cs = some y) :
    ∃ n0 n1 n2 n3 n4 n5 n6 : Int, cs = [.int .i64 n0, .int .i64 n1, .int .i64 n2, .int .i64 n3, .int .i64 n4, .int .i64 n5, .int .i64 n6] := by
  obtain ⟨f0, f1, f2, f3, f4, f5, f6, hu, ⟨t0, o0⟩, ⟨t1, o1⟩, ⟨t2, o2⟩, ⟨t3, o3⟩, ⟨t4, o4⟩, ⟨t5, o5⟩, ⟨t6, o6⟩⟩ := struct_Event
  obtain ⟨xs, n, _, _, hl, hx, hf⟩ := DataW.trod_struct hu h
  rw [cells_Event] at hl
  obtain ⟨c0, c1, c2, c3, c4, c5, c6, rfl⟩ := seven hl
  obtain ⟨y0, y1, y2, y3, y4, y5, y6, rfl⟩ := seven (l := xs) (by simpa using hx)
  have h0 := hf 0 f0 rfl
  have h1 := hf 1 f1 rfl
  have h2 := hf 2 f2 rfl
  have h3 := hf 3 f3 rfl
  have h4 := hf 4 f4 rfl
  have h5 := hf 5 f5 rfl
  have h6 := hf 6 f6 rfl
  simp only [t0, o0, t1, o1, t2, o2, t3, o3, t4, o4, t5, o5, t6, o6, cells_int] at h0 h1 h2 h3 h4 h5 h6
  obtain ⟨n0, rfl⟩ := int_cell Tryd.underlying3 (by simpa using h0)
  obtain ⟨n1, rfl⟩ := int_cell Tryd.underlying3 (by simpa using h1)
  obtain ⟨n2, rfl⟩ := int_cell Tryd.underlying3 (by simpa using h2)
  obtain ⟨n3, rfl⟩ := int_cell Tryd.underlying3 (by simpa using h3)
  obtain ⟨n4, rfl⟩ := int_cell Tryd.underlying3 (by simpa using h4)
  obtain ⟨n5, rfl⟩ := int_cell Tryd.underlying3 (by simpa using h5)
  obtain ⟨n6, rfl⟩ := int_cell Tryd.underlying3 (by simpa using h6)
  exact ⟨n0, n1, n2, n3, n4, n5, n6, rfl⟩

end
end Go.Proofs.YtjbgiepaehefpaaDoor
