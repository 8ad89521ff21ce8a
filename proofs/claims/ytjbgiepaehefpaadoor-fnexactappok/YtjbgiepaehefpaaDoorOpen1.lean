/- An argument that is a list of programs, opened: what the form reads of it gives the plain lists that the walks speak of. And the table of ops, opened. -/
import Derived.Test.YtjbgiepaehefpaaDoorBase
import Derived.Test.YtjbgiepaehefpaaDoorProg
import Derived.Deep.Slices
import Derived.OpenShut
import Derived.ChangeVars
import Derived.LaidLaws
import Derived.ProofKit
namespace Go.Proofs.YtjbgiepaehefpaaDoor
open Go.RowKit Go.ChangeShapes Go.WideShapes

section
variable {H : Type} {enc : TypeId × Value → H} {W : World} {sp : Nat → Bool} {held : Bool}

theorem at_add {w : World} {a : Addr} {k : Nat} {v : Value} (h : w.cell? (a.add k) = some v) : (k = 0 → a.spot = none) ∧ w.cell? ⟨a.block, a.off + k, none⟩ = some v := by
  obtain ⟨b, off, spot⟩ := a
  unfold Addr.add at h
  by_cases hk : k = 0
  · subst hk
    simp at h
    have := World.cell?_spot h
    simp at this
    subst this
    exact ⟨fun _ => rfl, by simpa using h⟩
  · simp [hk] at h
    exact ⟨fun h0 => absurd h0 hk, h⟩

theorem int_cell {fuel : Nat} {t : TypeId} {c : Value} {y : DataW H × List MemPlace} (ht : Tryd.prog.underlying t = some (.int .i64)) (h : DataW.trod enc Tryd.prog W 0 sp held fuel t [c] = some y) : ∃ n, c = .int .i64 n := by
  obtain ⟨n, hc, _⟩ := DataW.trod_int ht h
  exact ⟨n, by simpa using hc⟩

theorem struct_op : ∃ f0 f1 f2 f3 f4, Tryd.prog.underlying 166 = some (.struct #[f0, f1, f2, f3, f4]) ∧
    (f0.type = 3 ∧ f0.offset = 0) ∧ (f1.type = 3 ∧ f1.offset = 1) ∧ (f2.type = 3 ∧ f2.offset = 2) ∧ (f3.type = 3 ∧ f3.offset = 3) ∧ (f4.type = 3 ∧ f4.offset = 4) :=
  ⟨_, _, _, _, _, Tryd.underlying166, ⟨rfl, rfl⟩, ⟨rfl, rfl⟩, ⟨rfl, rfl⟩, ⟨rfl, rfl⟩, ⟨rfl, rfl⟩⟩
theorem cells_int : Tryd.prog.cellsOf 3 = 1 := by kernel_rfl
theorem cells_op : Tryd.prog.cellsOf 166 = 5 := by kernel_rfl
theorem cells_rule : Tryd.prog.cellsOf 123 = 2 := by kernel_rfl
theorem cells_app : Tryd.prog.cellsOf 58 = 1 := by kernel_rfl
theorem cells_opS : Tryd.prog.cellsOf 121 = 1 := by kernel_rfl
theorem cells_ruleS : Tryd.prog.cellsOf 56 = 1 := by kernel_rfl

theorem five {α : Type} {l : List α} (h : l.length = 5) : ∃ a b c d e, l = [a, b, c, d, e] := by
  match l, h with
  | [a, b, c, d, e], _ => exact ⟨a, b, c, d, e, rfl⟩
theorem two {α : Type} {l : List α} (h : l.length = 2) : ∃ a b, l = [a, b] := by
  match l, h with
  | [a, b], _ => exact ⟨a, b, rfl⟩
theorem one {α : Type} {l : List α} (h : l.length = 1) : ∃ a, l = [a] := by
  match l, h with
  | [a], _ => exact ⟨a, rfl⟩

/-- One op. -/
theorem open_op {fuel : Nat} {cs : List Value} {y : DataW H × List MemPlace} (h : DataW.trod enc Tryd.prog W 0 sp held fuel 166 cs = some y) :
    ∃ o : OpV, cs = [.int .i64 o.d, .int .i64 o.a, .int .i64 o.b, .int .i64 o.c, .int .i64 o.e] := by
  obtain ⟨f0, f1, f2, f3, f4, hu, ⟨t0, o0⟩, ⟨t1, o1⟩, ⟨t2, o2⟩, ⟨t3, o3⟩, ⟨t4, o4⟩⟩ := struct_op
  obtain ⟨xs, n, _, _, hl, hx, hf⟩ := DataW.trod_struct hu h
  rw [cells_op] at hl
  obtain ⟨c0, c1, c2, c3, c4, rfl⟩ := five hl
  obtain ⟨y0, y1, y2, y3, y4, rfl⟩ := five (l := xs) (by simpa using hx)
  have h0 := hf 0 f0 rfl
  have h1 := hf 1 f1 rfl
  have h2 := hf 2 f2 rfl
  have h3 := hf 3 f3 rfl
  have h4 := hf 4 f4 rfl
  simp only [t0, o0, t1, o1, t2, o2, t3, o3, t4, o4, cells_int] at h0 h1 h2 h3 h4
  obtain ⟨n0, rfl⟩ := int_cell Tryd.underlying3 (by simpa using h0)
  obtain ⟨n1, rfl⟩ := int_cell Tryd.underlying3 (by simpa using h1)
  obtain ⟨n2, rfl⟩ := int_cell Tryd.underlying3 (by simpa using h2)
  obtain ⟨n3, rfl⟩ := int_cell Tryd.underlying3 (by simpa using h3)
  obtain ⟨n4, rfl⟩ := int_cell Tryd.underlying3 (by simpa using h4)
  exact ⟨⟨n0, n1, n2, n3, n4⟩, rfl⟩

theorem list_of {α : Type} {n : Nat} {p : Nat → α → Prop} (h : ∀ i, i < n → ∃ x, p i x) : ∃ l : List α, l.length = n ∧ ∀ i (hi : i < l.length), p i l[i] := by
  induction n with
  | zero => exact ⟨[], rfl, fun i hi => absurd hi (Nat.not_lt_zero _)⟩
  | succ n ih =>
    obtain ⟨l, hl, hp⟩ := ih fun i hi => h i (Nat.lt_succ_of_lt hi)
    obtain ⟨x, hx⟩ := h n (Nat.lt_succ_self n)
    refine ⟨l ++ [x], by simp [hl], fun i hi => ?_⟩
    by_cases hin : i < l.length
    · rw [List.getElem_append_left hin]; exact hp i hin
    · obtain rfl : i = n := by simp at hi; omega
      rw [List.getElem_append_right (by omega)]
      simpa [hl] using hx

theorem slice_opsA : Tryd.prog.underlying 121 = some (.slice 166) := by kernel_rfl
theorem slice_rulesA : Tryd.prog.underlying 56 = some (.slice 123) := by kernel_rfl
theorem slice_appsA : Tryd.prog.underlying 52 = some (.slice 58) := by kernel_rfl

/-- A slice of ops. -/
theorem open_ops {fuel : Nat} {cs : List Value} {y : DataW H × List MemPlace} (h : DataW.trod enc Tryd.prog W 0 sp held fuel 121 cs = some y) :
    ∃ v ops, cs = [v] ∧ OpsAt W v ops := by
  rcases Deep.open_slice slice_opsA h with ⟨rfl, _⟩ | ⟨a, len, cap, m, n, D, Pl, rfl, _, hlc, hm, hmm, _, hel⟩
  · exact ⟨_, [], rfl, none, 0, rfl, Nat.le_refl _, by decide, Or.inl rfl⟩
  have hlm : len ≤ m := by rw [hmm]; split <;> omega
  have hop : ∀ i, i < len → ∃ o : OpV, (i = 0 → a.spot = none) ∧ OpCells W a.block (a.off + i * 5) o := by
    intro i hi
    obtain ⟨cs', hc, ht⟩ := hel i (by omega)
    obtain ⟨o, rfl⟩ := open_op ht
    rw [cells_op] at hc
    obtain ⟨_, _, hg⟩ := World.cells?_some hc
    have g0 := hg 0 (by omega)
    have g1 := hg 1 (by omega)
    have g2 := hg 2 (by omega)
    have g3 := hg 3 (by omega)
    have g4 := hg 4 (by omega)
    simp only [Deep.add_add] at g0 g1 g2 g3 g4
    obtain ⟨hs, k0⟩ := at_add g0
    obtain ⟨_, k1⟩ := at_add g1
    obtain ⟨_, k2⟩ := at_add g2
    obtain ⟨_, k3⟩ := at_add g3
    obtain ⟨_, k4⟩ := at_add g4
    exact ⟨o, fun h0 => hs (by omega), ⟨by simpa using k0, by simpa [Nat.add_assoc] using k1, by simpa [Nat.add_assoc] using k2, by simpa [Nat.add_assoc] using k3, by simpa [Nat.add_assoc] using k4⟩⟩
  obtain ⟨ops, hlen, hp⟩ := list_of hop
  subst hlen
  refine ⟨_, ops, rfl, some a, cap, rfl, hlc, Nat.le_trans hlc hm, ?_⟩
  cases ops with
  | nil => exact Or.inl rfl
  | cons o t =>
    obtain ⟨b, off, spot⟩ := a
    obtain rfl : spot = none := (hp 0 (by simp)).1 rfl
    exact Or.inr ⟨b, off, rfl, fun i hi => (hp i hi).2⟩

theorem struct_rule : ∃ f0 f1, Tryd.prog.underlying 123 = some (.struct #[f0, f1]) ∧ (f0.type = 3 ∧ f0.offset = 0) ∧ (f1.type = 121 ∧ f1.offset = 1) :=
  ⟨_, _, Tryd.underlying123, ⟨rfl, rfl⟩, ⟨rfl, rfl⟩⟩
theorem struct_app : ∃ f0, Tryd.prog.underlying 58 = some (.struct #[f0]) ∧ (f0.type = 56 ∧ f0.offset = 0) :=
  ⟨_, Tryd.underlying58, ⟨rfl, rfl⟩⟩

theorem open_rule {fuel : Nat} {cs : List Value} {y : DataW H × List MemPlace} (h : DataW.trod enc Tryd.prog W 0 sp held fuel 123 cs = some y) :
    ∃ (r : RuleV) (v : Value), cs = [.int .i64 r.kind, v] ∧ OpsAt W v r.ops := by
  obtain ⟨f0, f1, hu, ⟨t0, o0⟩, ⟨t1, o1⟩⟩ := struct_rule
  obtain ⟨xs, n, _, _, hl, hx, hf⟩ := DataW.trod_struct hu h
  rw [cells_rule] at hl
  obtain ⟨c0, c1, rfl⟩ := two hl
  obtain ⟨y0, y1, rfl⟩ := two (l := xs) (by simpa using hx)
  have h0 := hf 0 f0 rfl
  have h1 := hf 1 f1 rfl
  simp only [t0, o0, t1, o1, cells_int, cells_opS] at h0 h1
  obtain ⟨n0, rfl⟩ := int_cell Tryd.underlying3 (by simpa using h0)
  obtain ⟨v, ops, hv, hops⟩ := open_ops (cs := [c1]) (by simpa using h1)
  obtain rfl : c1 = v := by simpa using hv
  exact ⟨⟨n0, ops⟩, c1, rfl, hops⟩

theorem open_rules {fuel : Nat} {cs : List Value} {y : DataW H × List MemPlace} (h : DataW.trod enc Tryd.prog W 0 sp held fuel 56 cs = some y) :
    ∃ v rs, cs = [v] ∧ RulesAt W v rs := by
  rcases Deep.open_slice slice_rulesA h with ⟨rfl, _⟩ | ⟨a, len, cap, m, n, D, Pl, rfl, _, hlc, hm, hmm, _, hel⟩
  · exact ⟨_, [], rfl, none, 0, rfl, Nat.le_refl _, by decide, Or.inl rfl⟩
  have hlm : len ≤ m := by rw [hmm]; split <;> omega
  have hop : ∀ i, i < len → ∃ r : RuleV, (i = 0 → a.spot = none) ∧ RuleCells W a.block (a.off + i * 2) r := by
    intro i hi
    obtain ⟨cs', hc, ht⟩ := hel i (by omega)
    obtain ⟨r, v, rfl, hops⟩ := open_rule ht
    rw [cells_rule] at hc
    obtain ⟨_, _, hg⟩ := World.cells?_some hc
    have g0 := hg 0 (by omega)
    have g1 := hg 1 (by omega)
    simp only [Deep.add_add] at g0 g1
    obtain ⟨hs, k0⟩ := at_add g0
    obtain ⟨_, k1⟩ := at_add g1
    exact ⟨r, fun h0 => hs (by omega), by simpa using k0, v, by simpa [Nat.add_assoc] using k1, hops⟩
  obtain ⟨rs, hlen, hp⟩ := list_of hop
  subst hlen
  refine ⟨_, rs, rfl, some a, cap, rfl, hlc, Nat.le_trans hlc hm, ?_⟩
  cases rs with
  | nil => exact Or.inl rfl
  | cons o t =>
    obtain ⟨b, off, spot⟩ := a
    obtain rfl : spot = none := (hp 0 (by simp)).1 rfl
    exact Or.inr ⟨b, off, rfl, fun i hi => (hp i hi).2⟩

theorem open_app {fuel : Nat} {cs : List Value} {y : DataW H × List MemPlace} (h : DataW.trod enc Tryd.prog W 0 sp held fuel 58 cs = some y) :
    ∃ v rs, cs = [v] ∧ RulesAt W v rs := by
  obtain ⟨f0, hu, ⟨t0, o0⟩⟩ := struct_app
  obtain ⟨xs, n, _, _, hl, hx, hf⟩ := DataW.trod_struct hu h
  rw [cells_app] at hl
  obtain ⟨c0, rfl⟩ := one hl
  obtain ⟨y0, rfl⟩ := one (l := xs) (by simpa using hx)
  have h0 := hf 0 f0 rfl
  simp only [t0, o0, cells_ruleS] at h0
  exact open_rules (cs := [c0]) (by simpa using h0)

theorem open_apps {fuel : Nat} {cs : List Value} {y : DataW H × List MemPlace} (h : DataW.trod enc Tryd.prog W 0 sp held fuel 52 cs = some y) :
    ∃ v ps, cs = [v] ∧ AppsAt W v ps := by
  rcases Deep.open_slice slice_appsA h with ⟨rfl, _⟩ | ⟨a, len, cap, m, n, D, Pl, rfl, _, hlc, hm, hmm, _, hel⟩
  · exact ⟨_, [], rfl, none, 0, rfl, Nat.le_refl _, by decide, Or.inl rfl⟩
  have hlm : len ≤ m := by rw [hmm]; split <;> omega
  have hop : ∀ i, i < len → ∃ rs : List RuleV, (i = 0 → a.spot = none) ∧ AppCell W a.block (a.off + i) rs := by
    intro i hi
    obtain ⟨cs', hc, ht⟩ := hel i (by omega)
    obtain ⟨v, rs, rfl, hrs⟩ := open_app ht
    rw [cells_app] at hc
    obtain ⟨_, _, hg⟩ := World.cells?_some hc
    have g0 := hg 0 (by omega)
    simp only [Deep.add_add] at g0
    obtain ⟨hs, k0⟩ := at_add g0
    exact ⟨rs, fun h0 => hs (by omega), v, by simpa using k0, hrs⟩
  obtain ⟨ps, hlen, hp⟩ := list_of hop
  subst hlen
  refine ⟨_, ps, rfl, some a, cap, rfl, hlc, Nat.le_trans hlc hm, ?_⟩
  cases ps with
  | nil => exact Or.inl rfl
  | cons o t =>
    obtain ⟨b, off, spot⟩ := a
    obtain rfl : spot = none := (hp 0 (by simp)).1 rfl
    exact Or.inr ⟨b, off, rfl, fun i hi => (hp i hi).2⟩
end
end Go.Proofs.YtjbgiepaehefpaaDoor
