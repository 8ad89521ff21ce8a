/- Arguments opened: what was done, lists of it, lanes. -/
import Derived.Test.YtjdaedcpjfcpjaaOpenState1
import Derived.Test.YtjdaedcpjfcpjaaOpenEvent
import Derived.Test.YtjdaedcpjfcpjaaOpenOut
import Derived.Test.YtjdaedcpjfcpjaaPast2
namespace Go.Proofs.Ytjdaedcpjfcpjaa
open Go.RowKit Go.ChangeShapes Go.WideShapes

section
variable {H : Type} {enc : TypeId × Value → H} {W : World} {sp : Nat → Bool} {held : Bool}

theorem typedL {α : Type} {f : α → List Int} {n : Nat} (hf : ∀ r : List Int, r.length = n → ∃ x, r = f x) : ∀ rs : List (List Int), (∀ r ∈ rs, r.length = n) → ∃ xs : List α, rs = xs.map f
  | [], _ => ⟨[], rfl⟩
  | r :: rs, h => by
    obtain ⟨xs, hx⟩ := typedL hf rs (fun r hr => h r (List.mem_cons_of_mem _ hr))
    obtain ⟨x, hx0⟩ := hf r (h r List.mem_cons_self)
    exact ⟨x :: xs, by rw [hx, hx0]; rfl⟩
theorem tyEv (rs : List (List Int)) (h : ∀ r ∈ rs, r.length = 7) : ∃ xs : List EvV, rs = xs.map evRow :=
  typedL (fun r hr => by obtain ⟨a, b, c, d, e, f, g, rfl⟩ := seven hr; exact ⟨⟨a, b, c, d, e, f, g⟩, rfl⟩) rs h
theorem tyOut (rs : List (List Int)) (h : ∀ r ∈ rs, r.length = 5) : ∃ xs : List OutV, rs = xs.map outRow :=
  typedL (fun r hr => by obtain ⟨a, b, c, d, e, rfl⟩ := five hr; exact ⟨⟨a, b, c, d, e⟩, rfl⟩) rs h
theorem cells_EvS : Try.prog.cellsOf 38 = 1 := by kernel_rfl
theorem cells_OuS : Try.prog.cellsOf 94 = 1 := by kernel_rfl
theorem four {α : Type} {l : List α} (h : l.length = 4) : ∃ c0 c1 c2 c3, l = [c0, c1, c2, c3] := by
  match l, h with
  | [c0, c1, c2, c3], _ => exact ⟨c0, c1, c2, c3, rfl⟩
theorem twelve {α : Type} {l : List α} (h : l.length = 12) : ∃ c0 c1 c2 c3 c4 c5 c6 c7 c8 c9 c10 c11, l = [c0, c1, c2, c3, c4, c5, c6, c7, c8, c9, c10, c11] := by
  match l, h with
  | [c0, c1, c2, c3, c4, c5, c6, c7, c8, c9, c10, c11], _ => exact ⟨c0, c1, c2, c3, c4, c5, c6, c7, c8, c9, c10, c11, rfl⟩
theorem struct_Past : ∃ f0 f1 f2 f3, Try.prog.underlying 96 = some (.struct #[f0, f1, f2, f3]) ∧ (f0.type = 81 ∧ f0.offset = 0) ∧ (f1.type = 23 ∧ f1.offset = 7) ∧ (f2.type = 38 ∧ f2.offset = 10) ∧ (f3.type = 94 ∧ f3.offset = 11) :=
  ⟨_, _, _, _, Try.underlying96, ⟨rfl, rfl⟩, ⟨rfl, rfl⟩, ⟨rfl, rfl⟩, ⟨rfl, rfl⟩⟩
theorem cells_Past : Try.prog.cellsOf 96 = 12 := by kernel_rfl
theorem open_Past {fuel : Nat} {cs : List Value} {y : DataW H × List MemPlace} (h : DataW.trod enc Try.prog W 0 sp held fuel 96 cs = some y) :
    ∃ (p : PastV) (vs vo : Value), cs = pastCells p vs vo ∧ PastAt W vs vo p := by
  obtain ⟨f0, f1, f2, f3, hu, ⟨t0, o0⟩, ⟨t1, o1⟩, ⟨t2, o2⟩, ⟨t3, o3⟩⟩ := struct_Past
  obtain ⟨xs, n, _, _, hl, hx, hf⟩ := DataW.trod_struct hu h
  rw [cells_Past] at hl
  obtain ⟨c0, c1, c2, c3, c4, c5, c6, c7, c8, c9, c10, c11, rfl⟩ := twelve hl
  obtain ⟨y0, y1, y2, y3, rfl⟩ := four (l := xs) (by simpa using hx)
  have h0 := hf 0 f0 rfl
  have h1 := hf 1 f1 rfl
  have h2 := hf 2 f2 rfl
  have h3 := hf 3 f3 rfl
  simp only [t0, o0, t1, o1, t2, o2, t3, o3, cells_Event, cells_State, cells_EvS, cells_OuS] at h0 h1 h2 h3
  obtain ⟨n0, n1, n2, n3, n4, n5, n6, e0⟩ := open_Event (cs := [c0, c1, c2, c3, c4, c5, c6]) (by simpa using h0)
  obtain ⟨n7, n8, n9, e1⟩ := open_State (cs := [c7, c8, c9]) (by simpa using h1)
  obtain ⟨v2, r2, e2, p2, l2⟩ := open_EventS (cs := [c10]) (by simpa using h2)
  obtain ⟨v3, r3, e3, p3, l3⟩ := open_OutS (cs := [c11]) (by simpa using h3)
  obtain ⟨qs, rfl⟩ := tyEv r2 l2
  obtain ⟨os, rfl⟩ := tyOut r3 l3
  simp only [List.cons.injEq, and_true] at e0 e1 e2 e3
  obtain ⟨rfl, rfl, rfl, rfl, rfl, rfl, rfl⟩ := e0
  obtain ⟨rfl, rfl, rfl⟩ := e1
  subst e2 e3
  exact ⟨⟨⟨n0, n1, n2, n3, n4, n5, n6⟩, ⟨n7, n8, n9⟩, qs, os⟩, _, _, rfl, p2, p3⟩

theorem slice_PastA : Try.prog.underlying 24 = some (.slice 96) := by kernel_rfl
theorem open_PastS {fuel : Nat} {cs : List Value} {y : DataW H × List MemPlace} (h : DataW.trod enc Try.prog W 0 sp held fuel 24 cs = some y) :
    ∃ v ps, cs = [v] ∧ PastsAt W v ps := by
  rcases Deep.open_slice slice_PastA h with ⟨rfl, _⟩ | ⟨a, len, cap, m, n, D, Pl, rfl, _, hlc, hm, hmm, _, hel⟩
  · exact ⟨_, [], rfl, ⟨none, 0, rfl, Nat.le_refl _, by decide, Or.inl rfl⟩⟩
  have hlm : len ≤ m := by rw [hmm]; split <;> omega
  have hop : ∀ i, i < len → ∃ p : PastV, (i = 0 → a.spot = none) ∧ ∃ vs vo, CellsAt W a.block (a.off + i * 12) (pastCells p vs vo) ∧ PastAt W vs vo p := by
    intro i hi
    obtain ⟨cs', hc, ht⟩ := hel i (by omega)
    obtain ⟨p, vs, vo, rfl, hp⟩ := open_Past ht
    rw [cells_Past] at hc
    obtain ⟨_, _, hg⟩ := World.cells?_some hc
    have g0 := hg 0 (by omega)
    simp only [Deep.add_add] at g0
    obtain ⟨hs, _⟩ := at_add g0
    refine ⟨p, fun h0 => hs (by omega), vs, vo, fun j hj => ?_, hp⟩
    have hj' : j < 12 := hj
    have gj := hg j hj'
    simp only [Deep.add_add] at gj
    rw [List.getElem?_eq_getElem hj] at gj
    obtain ⟨_, kj⟩ := at_add gj
    rw [Nat.add_assoc]
    exact kj
  obtain ⟨ps, hlen, hp⟩ := list_of hop
  subst hlen
  refine ⟨_, ps, rfl, ⟨some a, cap, rfl, hlc, Nat.le_trans hlc hm, ?_⟩⟩
  cases ps with
  | nil => exact Or.inl rfl
  | cons o t =>
    obtain ⟨b, off, spot⟩ := a
    obtain rfl : spot = none := (hp 0 (by simp)).1 rfl
    exact Or.inr ⟨b, off, rfl, fun i hi => (hp i hi).2⟩

theorem struct_Lane : ∃ f0 f1 f2, Try.prog.underlying 26 = some (.struct #[f0, f1, f2]) ∧ (f0.type = 3 ∧ f0.offset = 0) ∧ (f1.type = 23 ∧ f1.offset = 1) ∧ (f2.type = 24 ∧ f2.offset = 4) :=
  ⟨_, _, _, Try.underlying26, ⟨rfl, rfl⟩, ⟨rfl, rfl⟩, ⟨rfl, rfl⟩⟩
theorem cells_Lane : Try.prog.cellsOf 26 = 5 := by kernel_rfl
theorem cells_PastS : Try.prog.cellsOf 24 = 1 := by kernel_rfl
theorem open_Lane {fuel : Nat} {cs : List Value} {y : DataW H × List MemPlace} (h : DataW.trod enc Try.prog W 0 sp held fuel 26 cs = some y) :
    ∃ (proc : Int) (s : StV) (v : Value) (ps : List PastV), cs = laneCells proc s v ∧ PastsAt W v ps := by
  obtain ⟨f0, f1, f2, hu, ⟨t0, o0⟩, ⟨t1, o1⟩, ⟨t2, o2⟩⟩ := struct_Lane
  obtain ⟨xs, n, _, _, hl, hx, hf⟩ := DataW.trod_struct hu h
  rw [cells_Lane] at hl
  obtain ⟨c0, c1, c2, c3, c4, rfl⟩ := five hl
  obtain ⟨y0, y1, y2, rfl⟩ := three (l := xs) (by simpa using hx)
  have h0 := hf 0 f0 rfl
  have h1 := hf 1 f1 rfl
  have h2 := hf 2 f2 rfl
  simp only [t0, o0, t1, o1, t2, o2, cells_int, cells_State, cells_PastS] at h0 h1 h2
  obtain ⟨n0, rfl⟩ := int_cell Try.underlying3 (by simpa using h0)
  obtain ⟨n1, n2, n3, e1⟩ := open_State (cs := [c1, c2, c3]) (by simpa using h1)
  obtain ⟨v, ps, e2, hp⟩ := open_PastS (cs := [c4]) (by simpa using h2)
  simp only [List.cons.injEq, and_true] at e1 e2
  obtain ⟨rfl, rfl, rfl⟩ := e1
  subst e2
  exact ⟨n0, ⟨n1, n2, n3⟩, _, ps, rfl, hp⟩
end
end Go.Proofs.Ytjdaedcpjfcpjaa
