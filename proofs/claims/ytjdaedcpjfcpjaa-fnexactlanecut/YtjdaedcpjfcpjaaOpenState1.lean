/- Arguments opened: State, and lists of such. -/
import Derived.Test.YtjdaedcpjfcpjaaOpenBase
import Derived.Test.YtjdaedcpjfcpjaaProg
import Derived.Test.YtjdaedcpjfcpjaaFlat
import Derived.Deep.Slices
import Derived.OpenShut
import Derived.ChangeVars
import Derived.LaidLaws
import Derived.ProofKit
namespace Go.Proofs.Ytjdaedcpjfcpjaa
open Go.RowKit Go.ChangeShapes Go.WideShapes

section
variable {H : Type} {enc : TypeId × Value → H} {W : World} {sp : Nat → Bool} {held : Bool}

theorem struct_State : ∃ f0 f1 f2, Try.prog.underlying 23 = some (.struct #[f0, f1, f2]) ∧ (f0.type = 3 ∧ f0.offset = 0) ∧ (f1.type = 3 ∧ f1.offset = 1) ∧ (f2.type = 3 ∧ f2.offset = 2) :=
  ⟨_, _, _, Try.underlying23, ⟨rfl, rfl⟩, ⟨rfl, rfl⟩, ⟨rfl, rfl⟩⟩
theorem cells_State : Try.prog.cellsOf 23 = 3 := by kernel_rfl
/-- One State. -/
theorem open_State {fuel : Nat} {cs : List Value} {y : DataW H × List MemPlace} (h : DataW.trod enc Try.prog W 0 sp held fuel 23 cs = some y) :
    ∃ n0 n1 n2 : Int, cs = [.int .i64 n0, .int .i64 n1, .int .i64 n2] := by
  obtain ⟨f0, f1, f2, hu, ⟨t0, o0⟩, ⟨t1, o1⟩, ⟨t2, o2⟩⟩ := struct_State
  obtain ⟨xs, n, _, _, hl, hx, hf⟩ := DataW.trod_struct hu h
  rw [cells_State] at hl
  obtain ⟨c0, c1, c2, rfl⟩ := three hl
  obtain ⟨y0, y1, y2, rfl⟩ := three (l := xs) (by simpa using hx)
  have h0 := hf 0 f0 rfl
  have h1 := hf 1 f1 rfl
  have h2 := hf 2 f2 rfl
  simp only [t0, o0, t1, o1, t2, o2, cells_int] at h0 h1 h2
  obtain ⟨n0, rfl⟩ := int_cell Try.underlying3 (by simpa using h0)
  obtain ⟨n1, rfl⟩ := int_cell Try.underlying3 (by simpa using h1)
  obtain ⟨n2, rfl⟩ := int_cell Try.underlying3 (by simpa using h2)
  exact ⟨n0, n1, n2, rfl⟩

end
end Go.Proofs.Ytjdaedcpjfcpjaa
