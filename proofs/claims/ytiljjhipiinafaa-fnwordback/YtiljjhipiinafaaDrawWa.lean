/- spec.l72Out: what is let out, drawn; what a word that is being drawn lies on. -/
import Derived.Test.YtiljjhipiinafaaDrawEw
import Derived.Test.YtiljjhipiinafaaSortOw
import Derived.Test.YtiljjhipiinafaaWord1
import Derived.Deep.CutBlock
import Derived.Deep.CutRange
namespace Go.Proofs.Ytiljjhipiinafaa
open Go.RowKit
set_option linter.unusedVariables false
set_option linter.unusedSimpArgs false

theorem Reader.on {w0 w w' : World} {q : Nat} {v : Value} {zs : List Int} {p : Int} (h : Reader w0 w q v zs p) (hb : Below w.heap.size w w') : Reader w0 w' q v zs p :=
  ⟨h.bytes, h.few, h.q0, h.below.trans (hb.mono h.below.size), h.rd.on hb, h.p0⟩

abbrev zeroCells : List Value := [.int .i64 0, .int .i64 0, .int .i64 0, .int .i64 0, .int .i64 0, .int .i64 0, .int .i64 0, .slice none 0 0, .slice none 0 0, .slice none 0 0, .slice none 0 0]

/-- A word that is being drawn: the reader, the result's place, the word's own place, its lists behind it. -/
structure WSt (w0 w W : World) (q b0 b1 : Nat) (v : Value) (zs : List Int) (p : Int) (n : WordV) (vi vv ve vo : Value) : Prop where
  rd : Reader w0 W q v zs p
  on : OnlyB q w W
  res : W.rowIs b0 27 11 (fun i => zeroCells.getD i undef)
  row : W.rowIs b1 27 11 (fun i => (wordCells n vi vv ve vo).getD i undef)
  ls : WordFr (b1 + 1) W n vi vv ve vo
  ql : q < w.heap.size
  o0 : w.heap.size ≤ b0
  o1 : b0 < b1

theorem WordFr.block {N : Nat} {w w' : World} {n : WordV} {vi vv ve vo : Value} (hb : ∀ g, N ≤ g → g < w.heap.size → w'.heap[g]? = w.heap[g]?) (h : WordFr N w n vi vv ve vo) : WordFr N w' n vi vv ve vo :=
  ⟨h.i.block (fun g hg hl => hb g (h.i.blk g hg).1 hl), h.v.block (fun g hg hl => hb g (h.v.blk g hg).1 hl), h.e.block (fun g hg hl => hb g (h.e.blk g hg).1 hl), h.o.block (fun g hg hl => hb g (h.o.blk g hg).1 hl)⟩

theorem WSt.only {w0 w W W' : World} {q b0 b1 : Nat} {v : Value} {zs : List Int} {p p' : Int} {n : WordV} {vi vv ve vo : Value} (h : WSt w0 w W q b0 b1 v zs p n vi vv ve vo) (ho : OnlyB q W W') (hr : Reader w0 W' q v zs p') : WSt w0 w W' q b0 b1 v zs p' n vi vv ve vo :=
  have h1 := h.ql
  have h2 := h.o0
  have h3 := h.o1
  ⟨hr, h.on.trans ho, h.res.of_block (ho.other b0 (by omega) h.res.lt), h.row.of_block (ho.other b1 (by omega) h.row.lt), h.ls.block (fun g hg hl => ho.other g (by omega) hl), h.ql, h.o0, h.o1⟩

theorem WSt.then {w0 w W W' : World} {q b0 b1 : Nat} {v : Value} {zs : List Int} {p : Int} {n : WordV} {vi vv ve vo : Value} (h : WSt w0 w W q b0 b1 v zs p n vi vv ve vo) (hb : Below W.heap.size W W') : WSt w0 w W' q b0 b1 v zs p n vi vv ve vo :=
  have h1 := h.ql
  have h2 := h.on.size
  ⟨h.rd.on hb, h.on.then (by omega) hb, h.res.of_block (hb.block b0 h.res.lt), h.row.of_block (hb.block b1 h.row.lt), h.ls.block (fun g _ hl => hb.block g hl), h.ql, h.o0, h.o1⟩

theorem WSt.set {w0 w W : World} {q b0 b1 : Nat} {v : Value} {zs : List Int} {p : Int} {n : WordV} {vi vv ve vo : Value} (h : WSt w0 w W q b0 b1 v zs p n vi vv ve vo) (j : Nat) (hj : j < 11) (u : Value) (n2 : WordV) (vi2 vv2 ve2 vo2 : Value)
    (hc : (wordCells n vi vv ve vo).set j u = wordCells n2 vi2 vv2 ve2 vo2) (hl : WordFr (b1 + 1) W n2 vi2 vv2 ve2 vo2) : WSt w0 w (W.setCell ⟨b1, j, none⟩ u) q b0 b1 v zs p n2 vi2 vv2 ve2 vo2 :=
  have h1 := h.ql
  have h2 := h.o0
  have h3 := h.o1
  ⟨h.rd.setNew (by omega) u, h.on.setNew (by omega) (by omega) u, h.res.of_block (Below.heap_setCell W ⟨b1, j, none⟩ u b0 (show b0 ≠ b1 by omega)), by have e := rowL_set h.row j hj u; rw [hc] at e; exact e,
    hl.block (fun g hg _ => Below.heap_setCell W ⟨b1, j, none⟩ u g (show g ≠ b1 by omega)), h.ql, h.o0, h.o1⟩

theorem flatCells_ones : ∀ l : List Int, flatCells (l.map fun z => [z]) = (l.map fun z => Value.int .i64 z)
  | [] => rfl
  | a :: t => by
    have ih := flatCells_ones t
    simp only [flatCells, List.map_cons, List.flatMap_cons, List.map_nil, List.cons_append, List.nil_append] at ih ⊢
    rw [ih]

/-- A list that was written out just now. -/
theorem numsNew (w : World) (N : Nat) (l : List Int) (hN : N ≤ w.heap.size) (hl : l.length ≤ 100) : RowsFr N 3 1 (w.alloc (.cells (l.map fun z => Value.int .i64 z).toArray 3)) (.slice (some ⟨w.heap.size, 0, none⟩) l.length l.length) (l.map fun z => [z]) := by
  refine RowsFr.of_owns (fun r hr => ?_) ?_
  · obtain ⟨z, _, rfl⟩ := List.mem_map.1 hr
    rfl
  · have e := World.ownsRow_lit (base := N) (e := 3) (size := 1) w (l.map fun z => Value.int .i64 z).toArray l.length hN (by unfold maxLen; omega) (by simp)
    rw [List.length_map]
    rw [flatCells_ones]
    simpa using e

theorem outsNew (w : World) (N : Nat) (x y : OutV) (hN : N ≤ w.heap.size) : RowsFr N 56 5 (w.alloc (.cells #[.int .i64 x.time, .int .i64 x.proc, .int .i64 x.count, .int .i64 x.n, .int .i64 x.value, .int .i64 y.time, .int .i64 y.proc, .int .i64 y.count, .int .i64 y.n, .int .i64 y.value] 56)) (.slice (some ⟨w.heap.size, 0, none⟩) 2 2) ([x, y].map outRow) := by
  refine RowsFr.of_owns (fun r hr => outRow_len [x, y] r hr) ?_
  exact World.ownsRow_lit (base := N) (e := 56) (size := 5) w #[.int .i64 x.time, .int .i64 x.proc, .int .i64 x.count, .int .i64 x.n, .int .i64 x.value, .int .i64 y.time, .int .i64 y.proc, .int .i64 y.count, .int .i64 y.n, .int .i64 y.value] 2 hN (by unfold maxLen; omega) rfl

set_option maxRecDepth 100000 in
set_option maxHeartbeats 2000000 in
theorem l72Out_any (w0 w : World) (q : Nat) (v : Value) (zs : List Int) (p : Int) (h : Reader w0 w q v zs p) (hp2 : p ≤ 90000) :
    Calls Try.prog 82 #[.pointer (some ⟨q, 0, none⟩)] w fun e w' => ∃ (x : OutV) (p' : Int), e = .returned (outAgg x) ∧ p' ≤ p + 5 ∧ Reader w0 w' q v zs p' ∧ OnlyB q w w' := by
  have hq : q < w.heap.size := World.block_lt_of_cell? w ⟨q, 0, none⟩ h.rd.c0
  have hp0 := h.p0
  have HZ := hide (row_new w [.int .i64 0, .int .i64 0, .int .i64 0, .int .i64 0, .int .i64 0] 56)
  have H1 := hide (h.alloc (.cells #[.int .i64 0, .int .i64 0, .int .i64 0, .int .i64 0, .int .i64 0] 56))
  have HO1 := hide (OnlyB.alloc (q := q) w (.cells #[.int .i64 0, .int .i64 0, .int .i64 0, .int .i64 0, .int .i64 0] 56) (by omega))
  clear h
  go_enter Try.func82, Try.ntmps82
  go_wp2_with fail
  change Hid (World.rowIs (w.alloc (.cells #[.int .i64 0, .int .i64 0, .int .i64 0, .int .i64 0, .int .i64 0] 56)) _ _ _ _) at HZ
  generalize w.alloc (.cells #[.int .i64 0, .int .i64 0, .int .i64 0, .int .i64 0, .int .i64 0] 56) = W1 at *
  refine (pick_any w0 _ q v zs _ 6 (unhide H1) (by omega) (by omega) (by omega)).mono ?_
  rintro e W2 ⟨x0, rfl, hx0, hy0, hr, ho⟩
  have H2 := hide hr
  have HO2 := hide ((unhide HO1).trans ho)
  replace HZ := hide ((unhide HZ).of_block (ho.other w.heap.size (by omega) (unhide HZ).lt))
  clear hr ho H1 HO1
  go_wp2_with fail
  refine (pick_any w0 _ q v zs _ 4 (unhide H2) (by omega) (by omega) (by omega)).mono ?_
  rintro e W3 ⟨x1, rfl, hx1, hy1, hr, ho⟩
  have H3 := hide hr
  have HO3 := hide ((unhide HO2).trans ho)
  replace HZ := hide ((unhide HZ).of_block (ho.other w.heap.size (by omega) (unhide HZ).lt))
  clear hr ho H2 HO2
  go_wp2_with fail
  refine (pick_any w0 _ q v zs _ 3 (unhide H3) (by omega) (by omega) (by omega)).mono ?_
  rintro e W4 ⟨x2, rfl, hx2, hy2, hr, ho⟩
  have H4 := hide hr
  have HO4 := hide ((unhide HO3).trans ho)
  replace HZ := hide ((unhide HZ).of_block (ho.other w.heap.size (by omega) (unhide HZ).lt))
  clear hr ho H3 HO3
  go_wp2_with fail
  refine (pick_any w0 _ q v zs _ 2 (unhide H4) (by omega) (by omega) (by omega)).mono ?_
  rintro e W5 ⟨x3, rfl, hx3, hy3, hr, ho⟩
  have H5 := hide hr
  have HO5 := hide ((unhide HO4).trans ho)
  replace HZ := hide ((unhide HZ).of_block (ho.other w.heap.size (by omega) (unhide HZ).lt))
  clear hr ho H4 HO4
  go_wp2_with fail
  refine (pick_any w0 _ q v zs _ 4 (unhide H5) (by omega) (by omega) (by omega)).mono ?_
  rintro e W6 ⟨x4, rfl, hx4, hy4, hr, ho⟩
  have H6 := hide hr
  have HO6 := hide ((unhide HO5).trans ho)
  replace HZ := hide ((unhide HZ).of_block (ho.other w.heap.size (by omega) (unhide HZ).lt))
  clear hr ho H5 HO5
  have z0 : W6.cell? ⟨w.heap.size, 0, none⟩ = some (.int .i64 0) := (unhide HZ).cell (i := 0) (by simp)
  have f0 : W6.frozen? ⟨w.heap.size, 0, none⟩ = false := (unhide HZ).frozen 0
  have z1 : W6.cell? ⟨w.heap.size, 1, none⟩ = some (.int .i64 0) := (unhide HZ).cell (i := 1) (by simp)
  have f1 : W6.frozen? ⟨w.heap.size, 1, none⟩ = false := (unhide HZ).frozen 1
  have z2 : W6.cell? ⟨w.heap.size, 2, none⟩ = some (.int .i64 0) := (unhide HZ).cell (i := 2) (by simp)
  have f2 : W6.frozen? ⟨w.heap.size, 2, none⟩ = false := (unhide HZ).frozen 2
  have z3 : W6.cell? ⟨w.heap.size, 3, none⟩ = some (.int .i64 0) := (unhide HZ).cell (i := 3) (by simp)
  have f3 : W6.frozen? ⟨w.heap.size, 3, none⟩ = false := (unhide HZ).frozen 3
  have z4 : W6.cell? ⟨w.heap.size, 4, none⟩ = some (.int .i64 0) := (unhide HZ).cell (i := 4) (by simp)
  have f4 : W6.frozen? ⟨w.heap.size, 4, none⟩ = false := (unhide HZ).frozen 4
  clear HZ
  go_wp2_with fail
  refine bodyPost_ret (v := outAgg ⟨x0, x1, x2, x3, x4⟩) (by simp [results, Try.results82, go_sem, z0, z1, z2, z3, z4]) rfl ⟨⟨x0, x1, x2, x3, x4⟩, _, rfl, by omega, ((((((unhide H6).setNew (by omega) _).setNew (by omega) _).setNew (by omega) _).setNew (by omega) _).setNew (by omega) _), ((((((unhide HO6).setNew (by omega) (by omega) _).setNew (by omega) (by omega) _).setNew (by omega) (by omega) _).setNew (by omega) (by omega) _).setNew (by omega) (by omega) _)⟩
end Go.Proofs.Ytiljjhipiinafaa
