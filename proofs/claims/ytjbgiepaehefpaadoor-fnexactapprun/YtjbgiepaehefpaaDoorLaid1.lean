/- The table impl.opShapes, listed by the rows: what it reads as gives its cells. -/
import Derived.Test.YtjbgiepaehefpaaDoorOpen1
import Derived.Test.YtjbgiepaehefpaaDoorRows
namespace Go.Proofs.YtjbgiepaehefpaaDoor
open Go.RowKit Go.ChangeShapes Go.WideShapes

def shapeCells : Array Value := #[.string ⟨#[]⟩, .string ⟨#[]⟩, .string ⟨#[115, 101, 116]⟩, .string ⟨#[114, 110]⟩, .string ⟨#[97, 100, 100]⟩, .string ⟨#[114, 114]⟩, .string ⟨#[109, 111, 114, 101]⟩, .string ⟨#[114, 110]⟩, .string ⟨#[97, 114, 103]⟩, .string ⟨#[114]⟩, .string ⟨#[115, 107, 105, 112]⟩, .string ⟨#[114, 110, 111]⟩, .string ⟨#[115, 101, 110, 100]⟩, .string ⟨#[112, 107, 108, 114]⟩, .string ⟨#[111, 117, 116]⟩, .string ⟨#[114]⟩]

theorem gShapes : Tryd.prog.globalNamed "loop.example/slackwater/impl.opShapes" = some 0 := by kernel_rfl
theorem tShapes : (Tryd.prog.globals[(0 : Nat)]?).map (·.type) = some 130 := by kernel_rfl
theorem cells_shape : Tryd.prog.cellsOf 129 = 2 := by kernel_rfl
theorem cells_shapes : Tryd.prog.cellsOf 130 = 16 := by kernel_rfl
theorem cells_str : Tryd.prog.cellsOf 9 = 1 := by kernel_rfl
theorem struct_shape : ∃ f0 f1, Tryd.prog.underlying 129 = some (.struct #[f0, f1]) ∧ (f0.type = 9 ∧ f0.offset = 0) ∧ (f1.type = 9 ∧ f1.offset = 1) :=
  ⟨_, _, Tryd.underlying129, ⟨rfl, rfl⟩, ⟨rfl, rfl⟩⟩
theorem array_shapes : Tryd.prog.underlying 130 = some (.array 8 129) := by kernel_rfl

theorem str_of {s : ByteArray} {l : List UInt8} (h : s.data.toList = l) : s = ⟨l.toArray⟩ := by
  subst h
  obtain ⟨⟨l⟩⟩ := s
  rfl

theorem pair_of {H : Type} {enc : TypeId × Value → H} {W : World} {sp : Nat → Bool} {held : Bool} {fuel : Nat} {c0 c1 : Value} {y : DataW H × List MemPlace} {l0 l1 : List UInt8}
    (h : DataW.trod enc Tryd.prog W 0 sp held fuel 129 [c0, c1] = some y) (hy : y.1 = .agg [.lit (.string l0), .lit (.string l1)]) : c0 = .string ⟨l0.toArray⟩ ∧ c1 = .string ⟨l1.toArray⟩ := by
  obtain ⟨f0, f1, hu, ⟨t0, o0⟩, ⟨t1, o1⟩⟩ := struct_shape
  obtain ⟨y0, y1, n, rfl, _, h0, h1⟩ := trod_struct2 hu h
  simp only [t0, o0, t1, o1, cells_str] at h0 h1
  obtain ⟨s0, e0, rfl, _⟩ := DataW.trod_string Tryd.underlying9 h0
  obtain ⟨s1, e1, rfl, _⟩ := DataW.trod_string Tryd.underlying9 h1
  simp at e0 e1 hy
  obtain ⟨k0, k1⟩ := hy
  rw [e0, e1, str_of k0, str_of k1]
  exact ⟨rfl, rfl⟩

theorem sixteen {α : Type} {l : List α} (h : l.length = 16) : ∃ c0 c1 c2 c3 c4 c5 c6 c7 c8 c9 c10 c11 c12 c13 c14 c15, l = [c0, c1, c2, c3, c4, c5, c6, c7, c8, c9, c10, c11, c12, c13, c14, c15] := by
  match l, h with
  | [c0, c1, c2, c3, c4, c5, c6, c7, c8, c9, c10, c11, c12, c13, c14, c15], _ => exact ⟨c0, c1, c2, c3, c4, c5, c6, c7, c8, c9, c10, c11, c12, c13, c14, c15, rfl⟩
theorem eight {α : Type} {l : List α} (h : l.length = 8) : ∃ y0 y1 y2 y3 y4 y5 y6 y7, l = [y0, y1, y2, y3, y4, y5, y6, y7] := by
  match l, h with
  | [y0, y1, y2, y3, y4, y5, y6, y7], _ => exact ⟨y0, y1, y2, y3, y4, y5, y6, y7, rfl⟩

theorem shapes_of_trod {H : Type} {enc : TypeId × Value → H} {W : World} {sp : Nat → Bool} {held : Bool} {fuel : Nat} {cs : List Value} {p : List MemPlace}
    (h : DataW.trod enc Tryd.prog W 0 sp held fuel 130 cs = some (.agg [.agg [.lit (.string []), .lit (.string [])], .agg [.lit (.string [115, 101, 116]), .lit (.string [114, 110])], .agg [.lit (.string [97, 100, 100]), .lit (.string [114, 114])], .agg [.lit (.string [109, 111, 114, 101]), .lit (.string [114, 110])], .agg [.lit (.string [97, 114, 103]), .lit (.string [114])], .agg [.lit (.string [115, 107, 105, 112]), .lit (.string [114, 110, 111])], .agg [.lit (.string [115, 101, 110, 100]), .lit (.string [112, 107, 108, 114])], .agg [.lit (.string [111, 117, 116]), .lit (.string [114])]], p)) : cs = shapeCells.toList := by
  obtain ⟨xs, m, _, hx, hl, hxl, hf⟩ := DataW.trod_array array_shapes h
  rw [cells_shapes] at hl
  obtain ⟨c0, c1, c2, c3, c4, c5, c6, c7, c8, c9, c10, c11, c12, c13, c14, c15, rfl⟩ := sixteen hl
  obtain ⟨y0, y1, y2, y3, y4, y5, y6, y7, rfl⟩ := eight hxl
  simp only [Prod.mk.injEq, List.map_cons, List.map_nil, DataW.agg.injEq, List.cons.injEq, and_true] at hx
  obtain ⟨⟨q0, q1, q2, q3, q4, q5, q6, q7⟩, _⟩ := hx
  simp only [cells_shape] at hf
  obtain ⟨rfl, rfl⟩ := pair_of (c0 := c0) (c1 := c1) (by simpa using hf 0 (by omega)) q0.symm
  obtain ⟨rfl, rfl⟩ := pair_of (c0 := c2) (c1 := c3) (by simpa using hf 1 (by omega)) q1.symm
  obtain ⟨rfl, rfl⟩ := pair_of (c0 := c4) (c1 := c5) (by simpa using hf 2 (by omega)) q2.symm
  obtain ⟨rfl, rfl⟩ := pair_of (c0 := c6) (c1 := c7) (by simpa using hf 3 (by omega)) q3.symm
  obtain ⟨rfl, rfl⟩ := pair_of (c0 := c8) (c1 := c9) (by simpa using hf 4 (by omega)) q4.symm
  obtain ⟨rfl, rfl⟩ := pair_of (c0 := c10) (c1 := c11) (by simpa using hf 5 (by omega)) q5.symm
  obtain ⟨rfl, rfl⟩ := pair_of (c0 := c12) (c1 := c13) (by simpa using hf 6 (by omega)) q6.symm
  obtain ⟨rfl, rfl⟩ := pair_of (c0 := c14) (c1 := c15) (by simpa using hf 7 (by omega)) q7.symm
  rfl

theorem shapes_var {W : World} (h : laidMet Tryd.prog [("loop.example/slackwater/impl.opShapes", Rows.laid_loop_example_slackwater_impl_opShapes)] W) : W.var? Tryd.prog "loop.example/slackwater/impl.opShapes" = some shapeCells := by
  obtain ⟨ps, ⟨g, t, cs, fuel, p, q, hg, ht, hvar, hd, _, _⟩, _⟩ := h
  obtain rfl := Option.some.inj (gShapes.symm.trans hg)
  obtain rfl := Option.some.inj (tShapes.symm.trans ht)
  rw [hvar]
  have := shapes_of_trod hd
  obtain ⟨l⟩ := cs
  congr 1
  exact congrArg List.toArray this

theorem shapes_at {W : World} (h : W.var? Tryd.prog "loop.example/slackwater/impl.opShapes" = some shapeCells) : Shapes W 0 :=
  ⟨World.var?_cell gShapes h 2, World.var?_cell gShapes h 3, World.var?_cell gShapes h 4, World.var?_cell gShapes h 5, World.var?_cell gShapes h 6, World.var?_cell gShapes h 7, World.var?_cell gShapes h 8, World.var?_cell gShapes h 9, World.var?_cell gShapes h 10, World.var?_cell gShapes h 11, World.var?_cell gShapes h 12, World.var?_cell gShapes h 13, World.var?_cell gShapes h 14, World.var?_cell gShapes h 15⟩
end Go.Proofs.YtjbgiepaehefpaaDoor
