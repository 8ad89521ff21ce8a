/- For the walk of FnExactAppRun: what an answer of AppRun is as a caller keeps it. -/
import Derived.Test.YtjbgiepaehefpaaDoorIm12
import Derived.Test.YtjbgiepaehefpaaDoorMk1
import Derived.Test.YtjbgiepaehefpaaDoorFlatOut1
namespace Go.Proofs.YtjbgiepaehefpaaDoor
open Go.RowKit
set_option linter.unusedVariables false
set_option linter.unusedSimpArgs false

theorem bcell {W w1 : World} (hb : Below W.heap.size W w1) : (∀ b o, b < W.heap.size → w1.cell? ⟨b, o, none⟩ = W.cell? ⟨b, o, none⟩) ∧ (∀ b o, b < W.heap.size → w1.frozen? ⟨b, o, none⟩ = W.frozen? ⟨b, o, none⟩) :=
  ⟨fun b o h => hb.cell (p := ⟨b, o, none⟩) h, fun b o h => hb.frozen (p := ⟨b, o, none⟩) h⟩

theorem ball {W w1 : World} (hb : Below W.heap.size W w1) : ∀ n, n < W.heap.size → n < w1.heap.size := fun n h => Nat.lt_of_lt_of_le h hb.size

/-- The places of FnExactAppRun's arguments. -/
structure ABoxes (w : World) (N : Nat) (rv : Value) (s : StV) (ev : EvV) : Prop where
  a0 : w.cell? ⟨N, 0, none⟩ = some rv
  s0 : w.cell? ⟨N + 1, 0, none⟩ = some (.int .i64 s.x)
  s1 : w.cell? ⟨N + 1, 1, none⟩ = some (.int .i64 s.y)
  s2 : w.cell? ⟨N + 1, 2, none⟩ = some (.int .i64 s.c)
  v0 : w.cell? ⟨N + 1 + 1, 0, none⟩ = some (.int .i64 ev.time)
  v1 : w.cell? ⟨N + 1 + 1, 1, none⟩ = some (.int .i64 ev.to)
  v2 : w.cell? ⟨N + 1 + 1, 2, none⟩ = some (.int .i64 ev.src)
  v3 : w.cell? ⟨N + 1 + 1, 3, none⟩ = some (.int .i64 ev.count)
  v4 : w.cell? ⟨N + 1 + 1, 4, none⟩ = some (.int .i64 ev.n)
  v5 : w.cell? ⟨N + 1 + 1, 5, none⟩ = some (.int .i64 ev.kind)
  v6 : w.cell? ⟨N + 1 + 1, 6, none⟩ = some (.int .i64 ev.arg)

theorem ABoxes.on {w w' : World} {N : Nat} {rv : Value} {s : StV} {ev : EvV} (hb : Below w.heap.size w w') (h : ABoxes w N rv s ev) : ABoxes w' N rv s ev :=
  ⟨cell_on hb h.a0, cell_on hb h.s0, cell_on hb h.s1, cell_on hb h.s2, cell_on hb h.v0, cell_on hb h.v1, cell_on hb h.v2, cell_on hb h.v3, cell_on hb h.v4, cell_on hb h.v5, cell_on hb h.v6⟩

structure StAt (w : World) (q : Nat) (s : StV) : Prop where
  x0 : w.cell? ⟨q, 0, none⟩ = some (.int .i64 s.x)
  x1 : w.cell? ⟨q, 1, none⟩ = some (.int .i64 s.y)
  x2 : w.cell? ⟨q, 2, none⟩ = some (.int .i64 s.c)

theorem StAt.on {w w' : World} {q : Nat} {s : StV} (hb : Below w.heap.size w w') (h : StAt w q s) : StAt w' q s :=
  ⟨cell_on hb h.x0, cell_on hb h.x1, cell_on hb h.x2⟩

/-- An answer, as a caller keeps it: the state at block q, the lists in blocks of their own; all made since W. -/
structure Kept (W wx : World) (q : Nat) (vs vo : Value) (R : RunV) : Prop where
  st : StAt wx q R.st
  rs : RowsFr W.heap.size 38 7 wx vs (R.sends.map evRow)
  ro : RowsFr W.heap.size 48 5 wx vo (R.outs.map outRow)
  ne : vs.ownBlock = none ∨ vs.ownBlock ≠ vo.ownBlock
  below : Below W.heap.size W wx
  q0 : W.heap.size ≤ q

theorem evs_flat (l : List EvV) : evsCells l = flatCells (l.map evRow) := by
  unfold evsCells flatCells
  induction l with
  | nil => rfl
  | cons a t ih => simp only [List.flatMap_cons, List.map_cons, ih]; rfl

theorem outs_flat (l : List OutV) : outsCells l = flatCells (l.map outRow) := by
  unfold outsCells flatCells
  induction l with
  | nil => rfl
  | cons a t ih => simp only [List.flatMap_cons, List.map_cons, ih]; rfl

theorem rows_evs {w : World} {N : Nat} {v : Value} {l : List EvV} (h : w.ownsRow N 38 7 v l.length (evsCells l)) : RowsFr N 38 7 w v (l.map evRow) :=
  RowsFr.of_owns (fun r hr => by
    obtain ⟨e, _, rfl⟩ := List.mem_map.1 hr
    rfl) (by rw [List.length_map, ← evs_flat]; exact h)

theorem rows_outs {w : World} {N : Nat} {v : Value} {l : List OutV} (h : w.ownsRow N 48 5 v l.length (outsCells l)) : RowsFr N 48 5 w v (l.map outRow) :=
  RowsFr.of_owns (fun r hr => by
    obtain ⟨e, _, rfl⟩ := List.mem_map.1 hr
    rfl) (by rw [List.length_map, ← outs_flat]; exact h)

theorem kept_alloc {W old w4 : World} {R : RunV} {vs vo : Value} {t : TypeId} (hB : Below W.heap.size W w4) (hs : W.heap.size ≤ old.heap.size)
    (h1 : w4.ownsRow old.heap.size 38 7 vs R.sends.length (evsCells R.sends)) (h2 : w4.ownsRow old.heap.size 48 5 vo R.outs.length (outsCells R.outs)) (hne : vs.ownBlock = none ∨ vs.ownBlock ≠ vo.ownBlock) :
    Kept W (w4.alloc (.cells #[.int .i64 R.st.x, .int .i64 R.st.y, .int .i64 R.st.c] t)) w4.heap.size vs vo R := by
  have hb : Below w4.heap.size w4 (w4.alloc (.cells #[.int .i64 R.st.x, .int .i64 R.st.y, .int .i64 R.st.c] t)) := (Below.refl _ _).alloc (Nat.le_refl _) _
  exact ⟨⟨by simp [go_sem], by simp [go_sem], by simp [go_sem]⟩, ((rows_evs h1).less hs).on hb, ((rows_outs h2).less hs).on hb, hne, below_then hB hb, hB.size⟩

theorem kept_set {W old w4 : World} {R : RunV} {vs vo : Value} {q : Nat} {t : TypeId} {f : Nat → Value} (hB : Below W.heap.size W w4) (hs : W.heap.size ≤ old.heap.size) (hq0 : W.heap.size ≤ q) (hq : q < old.heap.size) (hr : w4.rowIs q t 3 f)
    (h1 : w4.ownsRow old.heap.size 38 7 vs R.sends.length (evsCells R.sends)) (h2 : w4.ownsRow old.heap.size 48 5 vo R.outs.length (outsCells R.outs)) (hne : vs.ownBlock = none ∨ vs.ownBlock ≠ vo.ownBlock) :
    Kept W (((w4.setCell ⟨q, 0, none⟩ (.int .i64 R.st.x)).setCell ⟨q, 1, none⟩ (.int .i64 R.st.y)).setCell ⟨q, 2, none⟩ (.int .i64 R.st.c)) q vs vo R := by
  have hr3 := ((hr.set 0 (.int .i64 R.st.x)).set 1 (.int .i64 R.st.y)).set 2 (.int .i64 R.st.c)
  refine ⟨⟨?_, ?_, ?_⟩, ?_, ?_, hne, ((hB.setCell hq0 _).setCell hq0 _).setCell hq0 _, hq0⟩
  · rw [hr3.cell (by omega)]; rfl
  · rw [hr3.cell (by omega)]; rfl
  · rw [hr3.cell (by omega)]; rfl
  · exact (rows_evs (ownsRow_setCell_below (ownsRow_setCell_below (ownsRow_setCell_below h1 hq _) hq _) hq _)).less hs
  · exact (rows_outs (ownsRow_setCell_below (ownsRow_setCell_below (ownsRow_setCell_below h2 hq _) hq _) hq _)).less hs

/-- The same without what lay ahead. -/
structure Lst (B : Nat) (wx : World) (q : Nat) (vs vo : Value) (R : RunV) : Prop where
  st : StAt wx q R.st
  rs : RowsFr B 38 7 wx vs (R.sends.map evRow)
  ro : RowsFr B 48 5 wx vo (R.outs.map outRow)
  ne : vs.ownBlock = none ∨ vs.ownBlock ≠ vo.ownBlock
  q0 : B ≤ q

theorem Kept.lst {W wx : World} {q : Nat} {vs vo : Value} {R : RunV} (h : Kept W wx q vs vo R) : Lst W.heap.size wx q vs vo R := ⟨h.st, h.rs, h.ro, h.ne, h.q0⟩

theorem Lst.on {B : Nat} {w w' : World} {q : Nat} {vs vo : Value} {R : RunV} (hb : Below w.heap.size w w') (h : Lst B w q vs vo R) : Lst B w' q vs vo R :=
  ⟨h.st.on hb, h.rs.on hb, h.ro.on hb, h.ne, h.q0⟩

theorem Lst.btw {A M B : Nat} {w w' : World} {q : Nat} {vs vo : Value} {R : RunV} (hb : Btw A M w w') (hM : M ≤ B) (h : Lst B w q vs vo R) : Lst B w' q vs vo R := by
  have hq : q < w.heap.size := World.block_lt_of_cell? _ _ h.st.x0
  have hc : ∀ i, w'.cell? ⟨q, i, none⟩ = w.cell? ⟨q, i, none⟩ := fun i => World.cell?_of_block (hb.other q hq (Or.inr (Nat.le_trans hM h.q0)))
  exact ⟨⟨by rw [hc]; exact h.st.x0, by rw [hc]; exact h.st.x1, by rw [hc]; exact h.st.x2⟩, h.rs.block (fun g hg hl => hb.other g hl (Or.inr (Nat.le_trans hM (h.rs.blk g hg).1))), h.ro.block (fun g hg hl => hb.other g hl (Or.inr (Nat.le_trans hM (h.ro.blk g hg).1))), h.ne, h.q0⟩

theorem RowsFr.apart {N t n : Nat} {w w' : World} {v v2 : Value} {rs : List (List Int)} (h : RowsFr N t n w v2 rs) (ho : OnlyOf v w w') (hne : v.ownBlock = none ∨ v.ownBlock ≠ v2.ownBlock) : RowsFr N t n w' v2 rs :=
  h.block (fun g hg _ => ho.other g (fun e => by
    rcases hne with h | h
    · rw [h] at e; cases e
    · exact h (e.trans hg.symm)))

theorem slice_form {N t n : Nat} {w : World} {v : Value} {rs : List (List Int)} (h : RowsFr N t n w v rs) : ∃ a c, v = .slice a rs.length c := by
  rcases h with ⟨h1, rfl⟩ | ⟨g, cap, f, h1, _⟩
  · exact ⟨none, 0, h1⟩
  · exact ⟨_, _, h1⟩

theorem slice_formL {N t n : Nat} {w : World} {v : Value} {α : Type} {f : α → List Int} {l : List α} (h : RowsFr N t n w v (l.map f)) : ∃ a c, v = .slice a l.length c := by
  have := slice_form h
  rwa [List.length_map] at this

theorem room_map {N t n : Nat} {w : World} {v : Value} {α : Type} {f : α → List Int} {l : List α} (h : RowsFr N t n w v (l.map f)) : RoomFr N t n w v l.length := by
  have := h.room
  rwa [List.length_map] at this

theorem ne_turn {a b : Option Nat} (h : a = none ∨ a ≠ b) : b = none ∨ b ≠ a := by
  rcases h with rfl | h
  · cases b
    · exact Or.inl rfl
    · exact Or.inr (by simp)
  · exact Or.inr (fun e => h e.symm)

theorem runOps_len (ev : EvV) : ∀ (ops : List OpV) (k : Nat) (R : RunV), (runOps ev ops k R).sends.length ≤ R.sends.length + ops.length ∧ (runOps ev ops k R).outs.length ≤ R.outs.length + ops.length
  | [], _, R => by simp [runOps]
  | o :: t, 0, R => by
    have h := runOps_len ev t (opSkip R.st o).toNat (stepRun ev o R)
    have h1 := opSends_len R.st ev R.sends o
    have h2 := opOuts_len R.st ev R.outs o
    simp only [runOps, List.length_cons]
    unfold stepRun at h ⊢
    dsimp only at h ⊢
    omega
  | o :: t, k + 1, R => by
    have h := runOps_len ev t k R
    simp only [runOps, List.length_cons]
    omega

theorem appRun_len (rs : List RuleV) (s : StV) (ev : EvV) : (appRun rs s ev).sends.length ≤ 100 ∧ (appRun rs s ev).outs.length ≤ 100 := by
  cases ha : appOk rs
  · rw [appRun_app ha]; simp
  · cases hs : stOk s
    · rw [appRun_st hs]; simp
    · cases he : evOk ev
      · rw [appRun_ev he]; simp
      · by_cases hc : 12 ≤ s.c
        · rw [appRun_most ha hs he hc]; simp
        · rw [appRun_ops ha hs he hc]
          have h := runOps_len ev (kindOps ev.kind rs) 0 ⟨s, [], []⟩
          have h8 := (app_kindOps ha ev.kind).2
          simp at h ⊢
          omega

theorem rowIs_on {w w' : World} {b t n : Nat} {f : Nat → Value} (hb : Below w.heap.size w w') (h : w.rowIs b t n f) : w'.rowIs b t n f := h.of_block (hb.block b h.lt)

theorem rowIs_new (w : World) (a b c : Value) (t : TypeId) : (w.alloc (.cells #[a, b, c] t)).rowIs w.heap.size t 3 (fun i => #[a, b, c].getD i default) :=
  World.rowIs_alloc w #[a, b, c] t _ (fun i hi => by
    match i, hi with
    | 0, _ => rfl
    | 1, _ => rfl
    | 2, _ => rfl)
end Go.Proofs.YtjbgiepaehefpaaDoor
