/- An argument that is a list of programs, opened: what the form reads of it gives the plain lists that the walks speak of. And the table of ops, opened. -/
import Derived.Test.YtjbgiepaehefpaaDoorOpenBase
import Derived.Test.YtjbgiepaehefpaaDoorProg
import Derived.Deep.Slices
import Derived.OpenShut
import Derived.ChangeVars
import Derived.LaidLaws
import Derived.ProofKit
namespace Go.Proofs.YtjbgiepaehefpaaDoor
open Go.RowKit Go.ChangeShapes Go.WideShapes

section
variable {H : Type} {enc : TypeId × Value → H} {W : World} {sp : Nat → Bool} {held : Bool}

theorem struct_op : ∃ f0 f1 f2 f3 f4, Tryd.prog.underlying 166 = some (.struct #[f0, f1, f2, f3, f4]) ∧
    (f0.type = 3 ∧ f0.offset = 0) ∧ (f1.type = 3 ∧ f1.offset = 1) ∧ (f2.type = 3 ∧ f2.offset = 2) ∧ (f3.type = 3 ∧ f3.offset = 3) ∧ (f4.type = 3 ∧ f4.offset = 4) :=
  ⟨_, _, _, _, _, Tryd.underlying166, ⟨rfl, rfl⟩, ⟨rfl, rfl⟩, ⟨rfl, rfl⟩, ⟨rfl, rfl⟩, ⟨rfl, rfl⟩⟩
theorem cells_op : Tryd.prog.cellsOf 166 = 5 := by kernel_rfl
theorem cells_rule : Tryd.prog.cellsOf 123 = 2 := by kernel_rfl
theorem cells_app : Tryd.prog.cellsOf 58 = 1 := by kernel_rfl
theorem cells_opS : Tryd.prog.cellsOf 121 = 1 := by kernel_rfl
theorem cells_ruleS : Tryd.prog.cellsOf 56 = 1 := by kernel_rfl

/-- One op. -/
theorem open_op {fuel : Nat} {cs : List Value} {y : DataW H × List MemPlace} (h : DataW.trod enc Tryd.prog W 0 sp held fuel 166 cs = some y) :
    ∃ o : OpV, cs = [.int .i64 o.d, .int .i64 o.a, .int .i64 o.b, .int .i64 o.c, .int .i64 o.e] := by
  obtain ⟨f0, f1, f2, f3, f4, hu, ⟨t0, o0⟩, ⟨t1, o1⟩, ⟨t2, o2⟩, ⟨t3, o3⟩, ⟨t4, o4⟩⟩ := struct_op
  obtain ⟨xs, n, _, _, hl, hx, hf⟩ := DataW.trod_struct hu h
  rw [cells_op] at hl
  obtain ⟨c0, c1, c2, c3, c4, rfl⟩ := five hl
  obtain ⟨y0, y1, y2, y3, y4, rfl⟩ := five (l := xs) (by simpa using hx)
  have h0 := hf 0 f0 rfl
  have h1 := hf 1 f1 rfl
  have h2 := hf 2 f2 rfl
  have h3 := hf 3 f3 rfl
  have h4 := hf 4 f4 rfl
  simp only [t0, o0, t1, o1, t2, o2, t3, o3, t4, o4, cells_int] at h0 h1 h2 h3 h4
  obtain ⟨n0, rfl⟩ := int_cell Tryd.underlying3 (by simpa using h0)
  obtain ⟨n1, rfl⟩ := int_cell Tryd.underlying3 (by simpa using h1)
  obtain ⟨n2, rfl⟩ := int_cell Tryd.underlying3 (by simpa using h2)
  obtain ⟨n3, rfl⟩ := int_cell Tryd.underlying3 (by simpa using h3)
  obtain ⟨n4, rfl⟩ := int_cell Tryd.underlying3 (by simpa using h4)
  exact ⟨⟨n0, n1, n2, n3, n4⟩, rfl⟩

theorem slice_opsA : Tryd.prog.underlying 121 = some (.slice 166) := by kernel_rfl
theorem slice_rulesA : Tryd.prog.underlying 56 = some (.slice 123) := by kernel_rfl
theorem slice_appsA : Tryd.prog.underlying 52 = some (.slice 58) := by kernel_rfl

/-- A slice of ops. -/
theorem open_ops {fuel : Nat} {cs : List Value} {y : DataW H × List MemPlace} (h : DataW.trod enc Tryd.prog W 0 sp held fuel 121 cs = some y) :
    ∃ v ops, cs = [v] ∧ OpsAt W v ops := by
  rcases Deep.open_slice slice_opsA h with ⟨rfl, _⟩ | ⟨a, len, cap, m, n, D, Pl, rfl, _, hlc, hm, hmm, _, hel⟩
  · exact ⟨_, [], rfl, none, 0, rfl, Nat.le_refl _, by decide, Or.inl rfl⟩
  have hlm : len ≤ m := by rw [hmm]; split <;> omega
  have hop : ∀ i, i < len → ∃ o : OpV, (i = 0 → a.spot = none) ∧ OpCells W a.block (a.off + i * 5) o := by
    intro i hi
    obtain ⟨cs', hc, ht⟩ := hel i (by omega)
    obtain ⟨o, rfl⟩ := open_op ht
    rw [cells_op] at hc
    obtain ⟨_, _, hg⟩ := World.cells?_some hc
    have g0 := hg 0 (by omega)
    have g1 := hg 1 (by omega)
    have g2 := hg 2 (by omega)
    have g3 := hg 3 (by omega)
    have g4 := hg 4 (by omega)
    simp only [Deep.add_add] at g0 g1 g2 g3 g4
    obtain ⟨hs, k0⟩ := at_add g0
    obtain ⟨_, k1⟩ := at_add g1
    obtain ⟨_, k2⟩ := at_add g2
    obtain ⟨_, k3⟩ := at_add g3
    obtain ⟨_, k4⟩ := at_add g4
    exact ⟨o, fun h0 => hs (by omega), ⟨by simpa using k0, by simpa [Nat.add_assoc] using k1, by simpa [Nat.add_assoc] using k2, by simpa [Nat.add_assoc] using k3, by simpa [Nat.add_assoc] using k4⟩⟩
  obtain ⟨ops, hlen, hp⟩ := list_of hop
  subst hlen
  refine ⟨_, ops, rfl, some a, cap, rfl, hlc, Nat.le_trans hlc hm, ?_⟩
  cases ops with
  | nil => exact Or.inl rfl
  | cons o t =>
    obtain ⟨b, off, spot⟩ := a
    obtain rfl : spot = none := (hp 0 (by simp)).1 rfl
    exact Or.inr ⟨b, off, rfl, fun i hi => (hp i hi).2⟩

theorem struct_rule : ∃ f0 f1, Tryd.prog.underlying 123 = some (.struct #[f0, f1]) ∧ (f0.type = 3 ∧ f0.offset = 0) ∧ (f1.type = 121 ∧ f1.offset = 1) :=
  ⟨_, _, Tryd.underlying123, ⟨rfl, rfl⟩, ⟨rfl, rfl⟩⟩
theorem struct_app : ∃ f0, Tryd.prog.underlying 58 = some (.struct #[f0]) ∧ (f0.type = 56 ∧ f0.offset = 0) :=
  ⟨_, Tryd.underlying58, ⟨rfl, rfl⟩⟩

theorem open_rule {fuel : Nat} {cs : List Value} {y : DataW H × List MemPlace} (h : DataW.trod enc Tryd.prog W 0 sp held fuel 123 cs = some y) :
    ∃ (r : RuleV) (v : Value), cs = [.int .i64 r.kind, v] ∧ OpsAt W v r.ops := by
  obtain ⟨f0, f1, hu, ⟨t0, o0⟩, ⟨t1, o1⟩⟩ := struct_rule
  obtain ⟨xs, n, _, _, hl, hx, hf⟩ := DataW.trod_struct hu h
  rw [cells_rule] at hl
  obtain ⟨c0, c1, rfl⟩ := two hl
  obtain ⟨y0, y1, rfl⟩ := two (l := xs) (by simpa using hx)
  have h0 := hf 0 f0 rfl
  have h1 := hf 1 f1 rfl
  simp only [t0, o0, t1, o1, cells_int, cells_opS] at h0 h1
  obtain ⟨n0, rfl⟩ := int_cell Tryd.underlying3 (by simpa using h0)
  obtain ⟨v, ops, hv, hops⟩ := open_ops (cs := [c1]) (by simpa using h1)
  obtain rfl : c1 = v := by simpa using hv
  exact ⟨⟨n0, ops⟩, c1, rfl, hops⟩

theorem open_rules {fuel : Nat} {cs : List Value} {y : DataW H × List MemPlace} (h : DataW.trod enc Tryd.prog W 0 sp held fuel 56 cs = some y) :
    ∃ v rs, cs = [v] ∧ RulesAt W v rs := by
  rcases Deep.open_slice slice_rulesA h with ⟨rfl, _⟩ | ⟨a, len, cap, m, n, D, Pl, rfl, _, hlc, hm, hmm, _, hel⟩
  · exact ⟨_, [], rfl, none, 0, rfl, Nat.le_refl _, by decide, Or.inl rfl⟩
  have hlm : len ≤ m := by rw [hmm]; split <;> omega
  have hop : ∀ i, i < len → ∃ r : RuleV, (i = 0 → a.spot = none) ∧ RuleCells W a.block (a.off + i * 2) r := by
    intro i hi
    obtain ⟨cs', hc, ht⟩ := hel i (by omega)
    obtain ⟨r, v, rfl, hops⟩ := open_rule ht
    rw [cells_rule] at hc
    obtain ⟨_, _, hg⟩ := World.cells?_some hc
    have g0 := hg 0 (by omega)
    have g1 := hg 1 (by omega)
    simp only [Deep.add_add] at g0 g1
    obtain ⟨hs, k0⟩ := at_add g0
    obtain ⟨_, k1⟩ := at_add g1
    exact ⟨r, fun h0 => hs (by omega), by simpa using k0, v, by simpa [Nat.add_assoc] using k1, hops⟩
  obtain ⟨rs, hlen, hp⟩ := list_of hop
  subst hlen
  refine ⟨_, rs, rfl, some a, cap, rfl, hlc, Nat.le_trans hlc hm, ?_⟩
  cases rs with
  | nil => exact Or.inl rfl
  | cons o t =>
    obtain ⟨b, off, spot⟩ := a
    obtain rfl : spot = none := (hp 0 (by simp)).1 rfl
    exact Or.inr ⟨b, off, rfl, fun i hi => (hp i hi).2⟩

theorem open_app {fuel : Nat} {cs : List Value} {y : DataW H × List MemPlace} (h : DataW.trod enc Tryd.prog W 0 sp held fuel 58 cs = some y) :
    ∃ v rs, cs = [v] ∧ RulesAt W v rs := by
  obtain ⟨f0, hu, ⟨t0, o0⟩⟩ := struct_app
  obtain ⟨xs, n, _, _, hl, hx, hf⟩ := DataW.trod_struct hu h
  rw [cells_app] at hl
  obtain ⟨c0, rfl⟩ := one hl
  obtain ⟨y0, rfl⟩ := one (l := xs) (by simpa using hx)
  have h0 := hf 0 f0 rfl
  simp only [t0, o0, cells_ruleS] at h0
  exact open_rules (cs := [c0]) (by simpa using h0)

theorem open_apps {fuel : Nat} {cs : List Value} {y : DataW H × List MemPlace} (h : DataW.trod enc Tryd.prog W 0 sp held fuel 52 cs = some y) :
    ∃ v ps, cs = [v] ∧ AppsAt W v ps := by
  rcases Deep.open_slice slice_appsA h with ⟨rfl, _⟩ | ⟨a, len, cap, m, n, D, Pl, rfl, _, hlc, hm, hmm, _, hel⟩
  · exact ⟨_, [], rfl, none, 0, rfl, Nat.le_refl _, by decide, Or.inl rfl⟩
  have hlm : len ≤ m := by rw [hmm]; split <;> omega
  have hop : ∀ i, i < len → ∃ rs : List RuleV, (i = 0 → a.spot = none) ∧ AppCell W a.block (a.off + i) rs := by
    intro i hi
    obtain ⟨cs', hc, ht⟩ := hel i (by omega)
    obtain ⟨v, rs, rfl, hrs⟩ := open_app ht
    rw [cells_app] at hc
    obtain ⟨_, _, hg⟩ := World.cells?_some hc
    have g0 := hg 0 (by omega)
    simp only [Deep.add_add] at g0
    obtain ⟨hs, k0⟩ := at_add g0
    exact ⟨rs, fun h0 => hs (by omega), v, by simpa using k0, hrs⟩
  obtain ⟨ps, hlen, hp⟩ := list_of hop
  subst hlen
  refine ⟨_, ps, rfl, some a, cap, rfl, hlc, Nat.le_trans hlc hm, ?_⟩
  cases ps with
  | nil => exact Or.inl rfl
  | cons o t =>
    obtain ⟨b, off, spot⟩ := a
    obtain rfl : spot = none := (hp 0 (by simp)).1 rfl
    exact Or.inr ⟨b, off, rfl, fun i hi => (hp i hi).2⟩
end
end Go.Proofs.YtjbgiepaehefpaaDoor
