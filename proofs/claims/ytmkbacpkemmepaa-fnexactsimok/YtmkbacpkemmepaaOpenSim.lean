/- An argument that is a machine (Sim), opened: three lists of rows. -/
import Derived.Test.YtmkbacpkemmepaaOpenState
import Derived.Test.YtmkbacpkemmepaaOpenEvent
import Derived.Test.YtmkbacpkemmepaaOpenOut
import Derived.Test.YtmkbacpkemmepaaSimH
import Derived.Test.YtmkbacpkemmepaaHold1
namespace Go.Proofs.Ytmkbacpkemmepaa
open Go.RowKit Go.ChangeShapes Go.WideShapes

theorem typed {α : Type} {f : α → List Int} {n : Nat} (hf : ∀ r : List Int, r.length = n → ∃ x, r = f x) : ∀ rs : List (List Int), (∀ r ∈ rs, r.length = n) → ∃ xs : List α, rs = xs.map f
  | [], _ => ⟨[], rfl⟩
  | r :: rs, h => by
    obtain ⟨xs, hx⟩ := typed hf rs (fun r hr => h r (List.mem_cons_of_mem _ hr))
    obtain ⟨x, hx0⟩ := hf r (h r List.mem_cons_self)
    exact ⟨x :: xs, by rw [hx, hx0]; rfl⟩
theorem typed_st (rs : List (List Int)) (h : ∀ r ∈ rs, r.length = 3) : ∃ xs : List StV, rs = xs.map stR :=
  typed (fun r hr => by obtain ⟨a, b, c, rfl⟩ := three hr; exact ⟨⟨a, b, c⟩, rfl⟩) rs h
theorem typed_ev (rs : List (List Int)) (h : ∀ r ∈ rs, r.length = 7) : ∃ xs : List EvV, rs = xs.map evRow :=
  typed (fun r hr => by obtain ⟨a, b, c, d, e, f, g, rfl⟩ := seven hr; exact ⟨⟨a, b, c, d, e, f, g⟩, rfl⟩) rs h
theorem typed_out (rs : List (List Int)) (h : ∀ r ∈ rs, r.length = 5) : ∃ xs : List OutV, rs = xs.map outRow :=
  typed (fun r hr => by obtain ⟨a, b, c, d, e, rfl⟩ := five hr; exact ⟨⟨a, b, c, d, e⟩, rfl⟩) rs h

section
variable {H : Type} {enc : TypeId × Value → H} {W : World} {sp : Nat → Bool} {held : Bool}

theorem struct_Sim : ∃ f0 f1 f2, Try.prog.underlying 53 = some (.struct #[f0, f1, f2]) ∧ (f0.type = 50 ∧ f0.offset = 0) ∧ (f1.type = 37 ∧ f1.offset = 1) ∧ (f2.type = 51 ∧ f2.offset = 2) :=
  ⟨_, _, _, Try.underlying53, ⟨rfl, rfl⟩, ⟨rfl, rfl⟩, ⟨rfl, rfl⟩⟩
theorem cells_Sim : Try.prog.cellsOf 53 = 3 := by kernel_rfl
theorem cells_SimS : Try.prog.cellsOf 50 = 1 := by kernel_rfl
theorem cells_SimQ : Try.prog.cellsOf 37 = 1 := by kernel_rfl
theorem cells_SimO : Try.prog.cellsOf 51 = 1 := by kernel_rfl
/-- One Sim. -/
theorem open_Sim {fuel : Nat} {cs : List Value} {y : DataW H × List MemPlace} (h : DataW.trod enc Try.prog W 0 sp held fuel 53 cs = some y) :
    ∃ (vs vq vo : Value) (ss : List StV) (qs : List EvV) (os : List OutV), cs = [vs, vq, vo] ∧ SimAt W vs vq vo (ss.map stR) (qs.map evRow) (os.map outRow) := by
  obtain ⟨f0, f1, f2, hu, ⟨t0, o0⟩, ⟨t1, o1⟩, ⟨t2, o2⟩⟩ := struct_Sim
  obtain ⟨xs, n, _, _, hl, hx, hf⟩ := DataW.trod_struct hu h
  rw [cells_Sim] at hl
  obtain ⟨c0, c1, c2, rfl⟩ := three hl
  obtain ⟨y0, y1, y2, rfl⟩ := three (l := xs) (by simpa using hx)
  have h0 := hf 0 f0 rfl
  have h1 := hf 1 f1 rfl
  have h2 := hf 2 f2 rfl
  simp only [t0, o0, t1, o1, t2, o2, cells_SimS, cells_SimQ, cells_SimO] at h0 h1 h2
  obtain ⟨v0, r0, e0, p0, l0⟩ := open_StateS (by simpa using h0)
  obtain ⟨v1, r1, e1, p1, l1⟩ := open_EventS (by simpa using h1)
  obtain ⟨v2, r2, e2, p2, l2⟩ := open_OutS (by simpa using h2)
  obtain ⟨ss, rfl⟩ := typed_st r0 l0
  obtain ⟨qs, rfl⟩ := typed_ev r1 l1
  obtain ⟨os, rfl⟩ := typed_out r2 l2
  obtain rfl : c0 = v0 := by simpa using e0
  obtain rfl : c1 = v1 := by simpa using e1
  obtain rfl : c2 = v2 := by simpa using e2
  exact ⟨_, _, _, ss, qs, os, rfl, p0, p1, p2⟩
end
end Go.Proofs.Ytmkbacpkemmepaa
