/- Arguments opened: lists of words, hubs. -/
import Derived.Test.YtimkamgghkjhhaaOpenWord
import Derived.Test.YtimkamgghkjhhaaWords1
namespace Go.Proofs.Ytimkamgghkjhhaa
open Go.RowKit Go.ChangeShapes Go.WideShapes
section
variable {H : Type} {enc : TypeId × Value → H} {W : World} {sp : Nat → Bool} {held : Bool}

theorem slice_WordA : Try.prog.underlying 44 = some (.slice 127) := by kernel_rfl
theorem open_WordS {fuel : Nat} {cs : List Value} {y : DataW H × List MemPlace} (h : DataW.trod enc Try.prog W 0 sp held fuel 44 cs = some y) :
    ∃ v ns, cs = [v] ∧ WordsAt W v ns := by
  rcases Deep.open_slice slice_WordA h with ⟨rfl, _⟩ | ⟨a, len, cap, m, n, D, Pl, rfl, _, hlc, hm, hmm, _, hel⟩
  · exact ⟨_, [], rfl, ⟨none, 0, rfl, Nat.le_refl _, by decide, Or.inl rfl⟩⟩
  have hlm : len ≤ m := by rw [hmm]; split <;> omega
  have hop : ∀ i, i < len → ∃ p : WordV, (i = 0 → a.spot = none) ∧ ∃ vi vv ve vo, CellsAt W a.block (a.off + i * 11) (wordCells p vi vv ve vo) ∧ WordAt W p vi vv ve vo := by
    intro i hi
    obtain ⟨cs', hc, ht⟩ := hel i (by omega)
    obtain ⟨p, vi, vv, ve, vo, rfl, hp⟩ := open_Word ht
    rw [cells_Word] at hc
    obtain ⟨_, _, hg⟩ := World.cells?_some hc
    have g0 := hg 0 (by omega)
    simp only [Deep.add_add] at g0
    obtain ⟨hs, _⟩ := at_add g0
    refine ⟨p, fun h0 => hs (by omega), vi, vv, ve, vo, fun j hj => ?_, hp⟩
    have hj' : j < 11 := hj
    have gj := hg j hj'
    simp only [Deep.add_add] at gj
    rw [List.getElem?_eq_getElem hj] at gj
    obtain ⟨_, kj⟩ := at_add gj
    rw [Nat.add_assoc]
    exact kj
  obtain ⟨ns, hlen, hp⟩ := list_of hop
  subst hlen
  refine ⟨_, ns, rfl, ⟨some a, cap, rfl, hlc, Nat.le_trans hlc hm, ?_⟩⟩
  cases ns with
  | nil => exact Or.inl rfl
  | cons o t =>
    obtain ⟨b, off, spot⟩ := a
    obtain rfl : spot = none := (hp 0 (by simp)).1 rfl
    exact Or.inr ⟨b, off, rfl, fun i hi => (hp i hi).2⟩

theorem fourH {α : Type} {l : List α} (h : l.length = 4) : ∃ c0 c1 c2 c3, l = [c0, c1, c2, c3] := by
  match l, h with
  | [c0, c1, c2, c3], _ => exact ⟨c0, c1, c2, c3, rfl⟩
theorem struct_Hub : ∃ f0 f1 f2 f3, Try.prog.underlying 46 = some (.struct #[f0, f1, f2, f3]) ∧ (f0.type = 3 ∧ f0.offset = 0) ∧ (f1.type = 44 ∧ f1.offset = 1) ∧ (f2.type = 44 ∧ f2.offset = 2) ∧ (f3.type = 44 ∧ f3.offset = 3) :=
  ⟨_, _, _, _, Try.underlying46, ⟨rfl, rfl⟩, ⟨rfl, rfl⟩, ⟨rfl, rfl⟩, ⟨rfl, rfl⟩⟩
theorem cells_Hub : Try.prog.cellsOf 46 = 4 := by kernel_rfl
theorem cells_WordS : Try.prog.cellsOf 44 = 1 := by kernel_rfl
theorem open_Hub {fuel : Nat} {cs : List Value} {y : DataW H × List MemPlace} (h : DataW.trod enc Try.prog W 0 sp held fuel 46 cs = some y) :
    ∃ (n : HubV) (v1 v2 v3 : Value), cs = hubCells n v1 v2 v3 ∧ HubAt W n v1 v2 v3 := by
  obtain ⟨f0, f1, f2, f3, hu, ⟨t0, o0⟩, ⟨t1, o1⟩, ⟨t2, o2⟩, ⟨t3, o3⟩⟩ := struct_Hub
  obtain ⟨xs, n, _, _, hl, hx, hf⟩ := DataW.trod_struct hu h
  rw [cells_Hub] at hl
  obtain ⟨c0, c1, c2, c3, rfl⟩ := fourH hl
  obtain ⟨y0, y1, y2, y3, rfl⟩ := fourH (l := xs) (by simpa using hx)
  have h0 := hf 0 f0 rfl
  have h1 := hf 1 f1 rfl
  have h2 := hf 2 f2 rfl
  have h3 := hf 3 f3 rfl
  simp only [t0, o0, t1, o1, t2, o2, t3, o3, cells_int, cells_WordS] at h0 h1 h2 h3
  obtain ⟨n0, rfl⟩ := int_cell Try.underlying3 (by simpa using h0)
  obtain ⟨v1, l1, e1, p1⟩ := open_WordS (cs := [c1]) (by simpa using h1)
  obtain ⟨v2, l2, e2, p2⟩ := open_WordS (cs := [c2]) (by simpa using h2)
  obtain ⟨v3, l3, e3, p3⟩ := open_WordS (cs := [c3]) (by simpa using h3)
  simp only [List.cons.injEq, and_true] at e1 e2 e3
  subst e1 e2 e3
  exact ⟨⟨n0, l1, l2, l3⟩, _, _, _, rfl, p1, p2, p3⟩
end
end Go.Proofs.Ytimkamgghkjhhaa
