/- The data of programs as plain lists, and how they lie in memory. No Go text is walked here. -/
import Derived.Below
import Derived.WalkKit
import Derived.Deep.QuietTactic
import Derived.BigQuiet
namespace Go.Proofs.Ytocgfngcgekciaa
open Go.RowKit

structure OpV where
  d : Int
  a : Int
  b : Int
  c : Int
  e : Int

structure RuleV where
  kind : Int
  ops : List OpV

theorem hide {p : Prop} (h : p) : Hid p := h
theorem unhide {p : Prop} (h : Hid p) : p := h.out

theorem below_then {a b c : World} (h : Below a.heap.size a b) (k : Below b.heap.size b c) : Below a.heap.size a c :=
  h.trans (k.mono h.size)

theorem cell_on {w wx : World} {p : Addr} {v : Value} (hb : Below w.heap.size w wx) (h : w.cell? p = some v) : wx.cell? p = some v :=
  (hb.cell (World.block_lt_of_cell? _ _ h)).trans h

/-- A world in which all that lay in w lies as it did. -/
structure On (w : World) where
  y : World
  h : Below w.heap.size w y

/-- A region that draws its order, whose operations read what lies in w and whose callees leave that alone: one walk, in the order of the text. -/
theorem wp_region_on {P : Program} {id : Nat} {Q : Exit → Act → World → Prop} {a : Act} {w : World} {l : List Oper} (hm : P.follows .mixedOrders = true) (hB : Region.lexB .any l.toArray = true)
    (h : wpQuiet P l.toArray (fun w' => ∃ x : On w, w' = x.y) (fun a' => ∀ w', (∃ x : On w, w' = x.y) → Q .normal a' w') l a) : (Code.region id l.toArray true).wp P Q a w :=
  wp_region_quiet (C := fun w' => ∃ x : On w, w' = x.y) hm hB ⟨⟨w.drew, (Below.refl _ _).drew⟩, rfl⟩ (by simpa using h)

theorem calls_on {P : Program} {f : FuncId} {args : Array Value} {w : World} {x : On w} {v : Value}
    (h : Calls P f args x.y fun e w' => e = .returned v ∧ Below x.y.heap.size x.y w') : Calls P f args x.y fun e w'' => e = .returned v ∧ ∃ z : On w, w'' = z.y :=
  h.mono fun _ w' ⟨he, hb⟩ => ⟨he, ⟨w', below_then x.h hb⟩, rfl⟩

theorem calls_on_same {P : Program} {f : FuncId} {args : Array Value} {w : World} {x : On w} {v : Value}
    (h : Calls P f args x.y fun e w' => e = .returned v ∧ w' = x.y) : Calls P f args x.y fun e w'' => e = .returned v ∧ ∃ z : On w, w'' = z.y :=
  h.mono fun _ _ ⟨he, hb⟩ => ⟨he, x, hb⟩

structure OpCells (w : World) (b off : Nat) (o : OpV) : Prop where
  c0 : w.cell? ⟨b, off, none⟩ = some (.int .i64 o.d)
  c1 : w.cell? ⟨b, off + 1, none⟩ = some (.int .i64 o.a)
  c2 : w.cell? ⟨b, off + 2, none⟩ = some (.int .i64 o.b)
  c3 : w.cell? ⟨b, off + 3, none⟩ = some (.int .i64 o.c)
  c4 : w.cell? ⟨b, off + 4, none⟩ = some (.int .i64 o.e)

theorem OpCells.on {w wx : World} {b off : Nat} {o : OpV} (hb : Below w.heap.size w wx) (h : OpCells w b off o) : OpCells wx b off o :=
  ⟨cell_on hb h.c0, cell_on hb h.c1, cell_on hb h.c2, cell_on hb h.c3, cell_on hb h.c4⟩

def OpsAt (w : World) (v : Value) (ops : List OpV) : Prop :=
  ∃ (ad : Option Addr) (cap : Nat), v = .slice ad ops.length cap ∧ ops.length ≤ cap ∧ ops.length ≤ maxLen ∧
    (ops = [] ∨ ∃ b off, ad = some ⟨b, off, none⟩ ∧ ∀ i (h : i < ops.length), OpCells w b (off + i * 5) ops[i])

theorem OpsAt.on {w wx : World} {v : Value} {ops : List OpV} (hb : Below w.heap.size w wx) (h : OpsAt w v ops) : OpsAt wx v ops := by
  obtain ⟨ad, cap, hv, hl, hm, h⟩ := h
  refine ⟨ad, cap, hv, hl, hm, ?_⟩
  rcases h with h | ⟨b, off, had, hc⟩
  · exact Or.inl h
  · exact Or.inr ⟨b, off, had, fun i hi => (hc i hi).on hb⟩

def RuleCells (w : World) (b off : Nat) (r : RuleV) : Prop :=
  w.cell? ⟨b, off, none⟩ = some (.int .i64 r.kind) ∧ ∃ v, w.cell? ⟨b, off + 1, none⟩ = some v ∧ OpsAt w v r.ops

theorem RuleCells.on {w wx : World} {b off : Nat} {r : RuleV} (hb : Below w.heap.size w wx) (h : RuleCells w b off r) : RuleCells wx b off r := by
  obtain ⟨h0, v, h1, h2⟩ := h
  exact ⟨cell_on hb h0, v, cell_on hb h1, h2.on hb⟩

def RulesAt (w : World) (v : Value) (rs : List RuleV) : Prop :=
  ∃ (ad : Option Addr) (cap : Nat), v = .slice ad rs.length cap ∧ rs.length ≤ cap ∧ rs.length ≤ maxLen ∧
    (rs = [] ∨ ∃ b off, ad = some ⟨b, off, none⟩ ∧ ∀ i (h : i < rs.length), RuleCells w b (off + i * 2) rs[i])

theorem RulesAt.on {w wx : World} {v : Value} {rs : List RuleV} (hb : Below w.heap.size w wx) (h : RulesAt w v rs) : RulesAt wx v rs := by
  obtain ⟨ad, cap, hv, hl, hm, h⟩ := h
  refine ⟨ad, cap, hv, hl, hm, ?_⟩
  rcases h with h | ⟨b, off, had, hc⟩
  · exact Or.inl h
  · exact Or.inr ⟨b, off, had, fun i hi => (hc i hi).on hb⟩

def AppCell (w : World) (b off : Nat) (rs : List RuleV) : Prop :=
  ∃ v, w.cell? ⟨b, off, none⟩ = some v ∧ RulesAt w v rs

theorem AppCell.on {w wx : World} {b off : Nat} {rs : List RuleV} (hb : Below w.heap.size w wx) (h : AppCell w b off rs) : AppCell wx b off rs := by
  obtain ⟨v, h1, h2⟩ := h
  exact ⟨v, cell_on hb h1, h2.on hb⟩

def AppsAt (w : World) (v : Value) (as : List (List RuleV)) : Prop :=
  ∃ (ad : Option Addr) (cap : Nat), v = .slice ad as.length cap ∧ as.length ≤ cap ∧ as.length ≤ maxLen ∧
    (as = [] ∨ ∃ b off, ad = some ⟨b, off, none⟩ ∧ ∀ i (h : i < as.length), AppCell w b (off + i) as[i])

theorem AppsAt.on {w wx : World} {v : Value} {as : List (List RuleV)} (hb : Below w.heap.size w wx) (h : AppsAt w v as) : AppsAt wx v as := by
  obtain ⟨ad, cap, hv, hl, hm, h⟩ := h
  refine ⟨ad, cap, hv, hl, hm, ?_⟩
  rcases h with h | ⟨b, off, had, hc⟩
  · exact Or.inl h
  · exact Or.inr ⟨b, off, had, fun i hi => (hc i hi).on hb⟩

theorem take_more {α : Type} (l : List α) (k : Nat) (h : k < l.length) : l.take (k + 1) = l.take k ++ [l[k]] :=
  List.take_succ_eq_append_getElem h

/-! The plain rules of programs. -/

def inR (lo hi n : Int) : Bool := decide (lo ≤ n) && decide (n ≤ hi)

def opOk (o : OpV) : Bool :=
  if o.d = 1 ∨ o.d = 3 then inR 0 1 o.a && inR 0 999 o.b && decide (o.c = 0) && decide (o.e = 0)
  else if o.d = 2 then inR 0 1 o.a && inR 0 1 o.b && decide (o.c = 0) && decide (o.e = 0)
  else if o.d = 4 ∨ o.d = 7 then inR 0 1 o.a && decide (o.b = 0) && decide (o.c = 0) && decide (o.e = 0)
  else if o.d = 5 then inR 0 1 o.a && inR 0 999 o.b && inR 1 8 o.c && decide (o.e = 0)
  else if o.d = 6 then inR 0 3 o.a && inR 0 3 o.b && inR 1 40 o.c && inR 0 1 o.e
  else false

def countL (ops : List OpV) (d : Int) : Nat := (ops.filter fun o => o.d == d).length

def opsOk (ops : List OpV) : Bool := ops.all opOk

def ruleOk (r : RuleV) : Bool :=
  opsOk r.ops && decide (r.ops.length ≤ 8) && decide (countL r.ops 6 ≤ 2) && decide (countL r.ops 7 ≤ 2)

def kruleOk (r : RuleV) : Bool := inR 0 3 r.kind && ruleOk r

/-- The rule at a place is ok, and of a greater kind than the one ahead. -/
def stepOk (rs : List RuleV) (i : Nat) : Bool :=
  match rs[i]? with
  | some r => kruleOk r && (decide (i = 0) || decide ((rs.getD (i - 1) ⟨0, []⟩).kind < r.kind))
  | none => true

def appOk (rs : List RuleV) : Bool := decide (rs.length ≤ 4) && (List.range rs.length).all (stepOk rs)

def appsOk (as : List (List RuleV)) : Bool := decide (as.length = 4) && as.all appOk

theorem countL_snoc (ops : List OpV) (o : OpV) (d : Int) : countL (ops ++ [o]) d = countL ops d + if o.d = d then 1 else 0 := by
  unfold countL
  rw [List.filter_append]
  by_cases h : o.d = d <;> simp [h]

theorem countL_le (ops : List OpV) (d : Int) : countL ops d ≤ ops.length := List.length_filter_le _ _

/-- The table of ops in memory: block g holds, for each op, its name and its parts. -/
structure Shapes (w : World) (g : Nat) : Prop where
  n1 : w.cell? ⟨g, 2, none⟩ = some (.string ⟨#[115, 101, 116]⟩)
  s1 : w.cell? ⟨g, 3, none⟩ = some (.string ⟨#[114, 110]⟩)
  n2 : w.cell? ⟨g, 4, none⟩ = some (.string ⟨#[97, 100, 100]⟩)
  s2 : w.cell? ⟨g, 5, none⟩ = some (.string ⟨#[114, 114]⟩)
  n3 : w.cell? ⟨g, 6, none⟩ = some (.string ⟨#[109, 111, 114, 101]⟩)
  s3 : w.cell? ⟨g, 7, none⟩ = some (.string ⟨#[114, 110]⟩)
  n4 : w.cell? ⟨g, 8, none⟩ = some (.string ⟨#[97, 114, 103]⟩)
  s4 : w.cell? ⟨g, 9, none⟩ = some (.string ⟨#[114]⟩)
  n5 : w.cell? ⟨g, 10, none⟩ = some (.string ⟨#[115, 107, 105, 112]⟩)
  s5 : w.cell? ⟨g, 11, none⟩ = some (.string ⟨#[114, 110, 111]⟩)
  n6 : w.cell? ⟨g, 12, none⟩ = some (.string ⟨#[115, 101, 110, 100]⟩)
  s6 : w.cell? ⟨g, 13, none⟩ = some (.string ⟨#[112, 107, 108, 114]⟩)
  n7 : w.cell? ⟨g, 14, none⟩ = some (.string ⟨#[111, 117, 116]⟩)
  s7 : w.cell? ⟨g, 15, none⟩ = some (.string ⟨#[114]⟩)

theorem Shapes.on {w wx : World} {g : Nat} (hb : Below w.heap.size w wx) (h : Shapes w g) : Shapes wx g :=
  ⟨cell_on hb h.n1, cell_on hb h.s1, cell_on hb h.n2, cell_on hb h.s2, cell_on hb h.n3, cell_on hb h.s3, cell_on hb h.n4, cell_on hb h.s4, cell_on hb h.n5, cell_on hb h.s5, cell_on hb h.n6, cell_on hb h.s6, cell_on hb h.n7, cell_on hb h.s7⟩

theorem ret_int {k : IntKind} {a b : Int} (h : a = b) : Ending.returned (.int k a) = .returned (.int k b) := by rw [h]

theorem ret_bool {a b : Bool} (h : a = b) : Ending.returned (.bool a) = .returned (.bool b) := by rw [h]

theorem range_more (f : Nat → Bool) (k : Nat) (h1 : (List.range k).all f = true) (h2 : f k = true) : (List.range (k + 1)).all f = true := by
  rw [List.range_succ, List.all_append, h1]
  simp [h2]

theorem range_stop (f : Nat → Bool) (n k : Nat) (h : k < n) (h2 : f k = false) : (List.range n).all f = false := by
  rw [List.all_eq_false]
  exact ⟨k, List.mem_range.2 h, by simp [h2]⟩

theorem stepOk_zero (rs : List RuleV) (h : 0 < rs.length) : stepOk rs 0 = kruleOk rs[0] := by
  simp [stepOk, List.getElem?_eq_getElem h]

theorem stepOk_more (rs : List RuleV) (k : Nat) (h : k < rs.length) (hk : 0 < k) : stepOk rs k = (kruleOk rs[k] && decide (rs[k - 1].kind < rs[k].kind)) := by
  have h1 : rs.getD (k - 1) ⟨0, []⟩ = rs[k - 1] := by
    have : k - 1 < rs.length := by omega
    simp [List.getD, List.getElem?_eq_getElem this]
  have h0 : ¬ k = 0 := by omega
  simp only [stepOk, List.getElem?_eq_getElem h, h1, h0, decide_false, Bool.false_or]

theorem stepOk_bad (rs : List RuleV) (k : Nat) (h : k < rs.length) (hb : kruleOk rs[k] = false) : stepOk rs k = false := by
  simp [stepOk, List.getElem?_eq_getElem h, hb]

theorem all_take_more {α : Type} (f : α → Bool) (l : List α) (k : Nat) (h : k < l.length) (h1 : (l.take k).all f = true) (h2 : f l[k] = true) : (l.take (k + 1)).all f = true := by
  rw [take_more l k h, List.all_append, h1]
  simp [h2]

theorem all_false_at {α : Type} (f : α → Bool) (l : List α) (k : Nat) (h : k < l.length) (h2 : f l[k] = false) : l.all f = false := by
  rw [List.all_eq_false]
  exact ⟨l[k], List.getElem_mem h, by simp [h2]⟩

abbrev opAgg (o : OpV) : Value := .agg #[.int .i64 o.d, .int .i64 o.a, .int .i64 o.b, .int .i64 o.c, .int .i64 o.e]

def Panics (e : Ending) : Prop := ∃ u pv, e = .panicked [{ v := .iface u pv, recovered := false }]

/-- The ending says what a test says: true: it returns, false: it panics. -/
def Says (b : Bool) (e : Ending) : Prop := b = true ∧ e = .returned (.tuple #[]) ∨ b = false ∧ Panics e

end Go.Proofs.Ytocgfngcgekciaa
