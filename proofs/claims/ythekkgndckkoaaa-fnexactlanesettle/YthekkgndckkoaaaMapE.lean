/- A map by rows of seven numbers (impl's eventRow), each entry 1: looking one up, and putting one in that is not there. -/
import Derived.Test.YthekkgndckkoaaaProg
import Derived.Test.YthekkgndckkoaaaEv
import Derived.Maps.Own
import Derived.WideKeyRuns
import Derived.ChangeKeysEq
namespace Go.Proofs.Ythekkgndckkoaaa.E
open Go.RowKit Go.MapKept
set_option linter.unusedVariables false
set_option linter.unusedSimpArgs false

theorem under_row : Try.prog.underlying 122 = some (.array 7 3) := by kernel_rfl
theorem info_int : ∃ i, Try.prog.info? 3 = some i := Option.isSome_iff_exists.1 (by kernel_rfl)
theorem cells_int1 : Try.prog.cellsOf 3 = 1 := by kernel_rfl

theorem part_int (xs : Array Value) (i : Nat) (n : Int) (w : World) (h : xs[i]? = some (.int .i64 n)) : (part 3 xs i).run Try.prog w = .ok (.int .i64 n) w := by
  obtain ⟨ii, hi⟩ := info_int
  simp [part, h, go_sem, run_underlying Try.underlying3]

theorem eqItems_step (xs ys : Array Value) (i : Nat) (is : List Nat) (a b : Int) (hx : xs[i]? = some (.int .i64 a)) (hy : ys[i]? = some (.int .i64 b)) (w : World) :
    (Op.eqItems 9999 3 1 xs ys (i :: is)).run Try.prog w = if a = b then (Op.eqItems 9999 3 1 xs ys is).run Try.prog w else .ok false w := by
  simp only [Op.eqItems, Sem.run_bind, Nat.mul_one, part_int xs i a w hx, part_int ys i b w hy, Result.andThen_ok, run_equalIn_int w 9998 3 .i64 .i64 a b Try.underlying3]
  by_cases h : a = b
  · simp [h]
  · simp [h]

theorem eq_row (a b : EvV) (w : World) : ∃ r, (Op.equal 122 (evAgg a) (evAgg b)).run Try.prog w = .ok r w ∧ (r = true ↔ a = b) := by
  obtain ⟨i, hi⟩ := info_int
  obtain ⟨a0, a1, a2, a3, a4, a5, a6⟩ := a
  obtain ⟨b0, b1, b2, b3, b4, b5, b6⟩ := b
  have e := run_equalIn_array (P := Try.prog) w 9999 (t := 122) #[.int .i64 a0, .int .i64 a1, .int .i64 a2, .int .i64 a3, .int .i64 a4, .int .i64 a5, .int .i64 a6] #[.int .i64 b0, .int .i64 b1, .int .i64 b2, .int .i64 b3, .int .i64 b4, .int .i64 b5, .int .i64 b6] under_row hi
  rw [cells_int1] at e
  unfold Op.equal Op.maxDepth
  rw [e, show List.range 7 = [0, 1, 2, 3, 4, 5, 6] from rfl]
  rw [eqItems_step _ _ 0 _ a0 b0 rfl rfl]
  by_cases h0 : a0 = b0
  rotate_left
  · rw [if_neg h0]; exact ⟨false, rfl, by simp [h0]⟩
  rw [if_pos h0]
  rw [eqItems_step _ _ 1 _ a1 b1 rfl rfl]
  by_cases h1 : a1 = b1
  rotate_left
  · rw [if_neg h1]; exact ⟨false, rfl, by simp [h1]⟩
  rw [if_pos h1]
  rw [eqItems_step _ _ 2 _ a2 b2 rfl rfl]
  by_cases h2 : a2 = b2
  rotate_left
  · rw [if_neg h2]; exact ⟨false, rfl, by simp [h2]⟩
  rw [if_pos h2]
  rw [eqItems_step _ _ 3 _ a3 b3 rfl rfl]
  by_cases h3 : a3 = b3
  rotate_left
  · rw [if_neg h3]; exact ⟨false, rfl, by simp [h3]⟩
  rw [if_pos h3]
  rw [eqItems_step _ _ 4 _ a4 b4 rfl rfl]
  by_cases h4 : a4 = b4
  rotate_left
  · rw [if_neg h4]; exact ⟨false, rfl, by simp [h4]⟩
  rw [if_pos h4]
  rw [eqItems_step _ _ 5 _ a5 b5 rfl rfl]
  by_cases h5 : a5 = b5
  rotate_left
  · rw [if_neg h5]; exact ⟨false, rfl, by simp [h5]⟩
  rw [if_pos h5]
  rw [eqItems_step _ _ 6 _ a6 b6 rfl rfl]
  by_cases h6 : a6 = b6
  rotate_left
  · rw [if_neg h6]; exact ⟨false, rfl, by simp [h6]⟩
  rw [if_pos h6]
  refine ⟨true, by simp [Op.eqItems], ?_⟩
  simp [h0, h1, h2, h3, h4, h5, h6]

theorem check_row (em : Bool) (a : EvV) (w : World) : (Instr.checkKey em 10000 122 (evAgg a)).run Try.prog w = .ok () w := by
  obtain ⟨a0, a1, a2, a3, a4, a5, a6⟩ := a
  kernel_rfl

/-- The entries bear these keys, each 1. -/
def Bears (es : List MapEntry) (ks : List EvV) : Prop := es.map (fun x => x.key) = ks.map evAgg ∧ ∀ x ∈ es, x.val = .int .i64 1

theorem ask_row (e : EvV) (w : World) : ∀ (es : List MapEntry) (ks : List EvV) (i : Nat), Bears es ks →
    (¬ e ∈ ks ∧ (Instr.findAsking 122 (evAgg e) es i).run Try.prog w = .ok none w) ∨ (e ∈ ks ∧ ∃ j, (Instr.findAsking 122 (evAgg e) es i).run Try.prog w = .ok (some (j, .int .i64 1)) w)
  | [], ks, i, h => by
    have : ks = [] := by
      have h1 := h.1
      simp at h1
      exact h1
    subst this
    exact Or.inl ⟨by simp, by simp [Instr.findAsking]⟩
  | x :: es, ks, i, h => by
    obtain ⟨h1, h2⟩ := h
    cases ks with
    | nil => simp at h1
    | cons k ks =>
      simp only [List.map_cons, List.cons.injEq] at h1
      obtain ⟨hk, h1⟩ := h1
      obtain ⟨r, hr, hiff⟩ := eq_row e k w
      cases r
      · have hne : ¬ e = k := fun h => by have := hiff.2 h; cases this
        have ih := ask_row e w es ks (i + 1) ⟨h1, fun y hy => h2 y (List.mem_cons_of_mem _ hy)⟩
        rcases ih with ⟨g1, g2⟩ | ⟨g1, j, g2⟩
        · exact Or.inl ⟨by simp [hne, g1], by simp [Instr.findAsking, hk, hr, g2]⟩
        · exact Or.inr ⟨by simp [g1], j, by simp [Instr.findAsking, hk, hr, g2]⟩
      · have he := hiff.1 rfl
        exact Or.inr ⟨by simp [he], i, by simp [Instr.findAsking, hk, hr, h2 x (List.mem_cons_self ..)]⟩

/-- Block b is the map of these rows. -/
def MapOf (w : World) (b : Nat) (ks : List EvV) : Prop := ∃ es clock, w.heap[b]? = some (.map es clock) ∧ Bears es.toList ks

theorem MapOf.block {w w' : World} {b : Nat} {ks : List EvV} (h : MapOf w b ks) (hb : w'.heap[b]? = w.heap[b]?) : MapOf w' b ks := by
  obtain ⟨es, c, h1, h2⟩ := h
  exact ⟨es, c, hb.trans h1, h2⟩
theorem MapOf.lt {w : World} {b : Nat} {ks : List EvV} (h : MapOf w b ks) : b < w.heap.size := by
  obtain ⟨es, c, h1, _⟩ := h
  exact (Array.getElem?_eq_some_iff.1 h1).1
theorem MapOf.made (w : World) : MapOf (w.alloc (.map #[] 0)) w.heap.size [] := ⟨#[], 0, (MapKept.heap_alloc w _).1, rfl, by simp⟩

theorem under_map : Try.prog.underlying 106 = some (.map 122 3) := by kernel_rfl
theorem zero_int (w : World) : (zeroValue 3).run Try.prog w = .ok (.int .i64 0) w := by kernel_rfl

theorem look_row {w : World} {b : Nat} {ks : List EvV} (h : MapOf w b ks) (e : EvV) :
    (¬ e ∈ ks ∧ (Instr.lookup 106 (.map (some b)) (evAgg e) false).run Try.prog w = .ok (.int .i64 0) w) ∨ (e ∈ ks ∧ (Instr.lookup 106 (.map (some b)) (evAgg e) false).run Try.prog w = .ok (.int .i64 1) w) := by
  obtain ⟨es, c, hb, hB⟩ := h
  have hf := run_findKey_eq (P := Try.prog) w (k := 122) (by rw [under_row]) (evAgg e) es.toList
  rcases ask_row e w es.toList ks 0 hB with ⟨h1, h2⟩ | ⟨h1, j, h2⟩
  · rw [h2] at hf
    exact Or.inl ⟨h1, by simp [Instr.lookup, run_underlying under_map, MapKept.run_getObj_map hb, check_row, hf, zero_int, Result.andThen]⟩
  · rw [h2] at hf
    exact Or.inr ⟨h1, by simp [Instr.lookup, run_underlying under_map, MapKept.run_getObj_map hb, check_row, hf, Result.andThen]⟩

open Go.ChangeMaps in
theorem put_row {w : World} {b : Nat} {ks : List EvV} (h : MapOf w b ks) (e : EvV) (he : ¬ e ∈ ks) :
    ∃ w', (Instr.mapUpdate 106 (.map (some b)) (evAgg e) (.int .i64 1)).run Try.prog w = .ok () w' ∧ MapOf w' b (ks ++ [e]) ∧ w.grownBy w' (some b) := by
  obtain ⟨es, c, hb, hB⟩ := h
  have hf := run_findKey_eq (P := Try.prog) w (k := 122) (by rw [under_row]) (evAgg e) es.toList
  rcases ask_row e w es.toList ks 0 hB with ⟨h1, h2⟩ | ⟨h1, j, h2⟩
  · rw [h2] at hf
    refine ⟨setBlock w b (.map (es.push ⟨evAgg e, .int .i64 1, c⟩) (c + 1)), ?_, ⟨_, _, heap_setBlock_same hb _, ?_, ?_⟩, ⟨rfl, rfl, rfl, by simp [setBlock], fun i _ hi => heap_setBlock_other hb _ (fun e => hi (by rw [e]))⟩⟩
    · simp [Instr.mapUpdate, run_underlying under_map, MapKept.run_getObj_map hb, check_row, hf, MapKept.run_setObj_map _ hb, Result.andThen, setBlock]
    · rw [Array.toList_push, List.map_append, hB.1, List.map_append]; rfl
    · intro x hx
      rw [Array.toList_push, List.mem_append] at hx
      rcases hx with hx | hx
      · exact hB.2 x hx
      · obtain rfl : x = ⟨evAgg e, .int .i64 1, c⟩ := by simpa using hx
        rfl
  · exact absurd h1 he
end Go.Proofs.Ythekkgndckkoaaa.E
