/- spec.l72Out: what is let out, drawn; what a word that is being drawn lies on. -/
import Derived.Test.YtiljjhipiinafaaGreatDrawEw
import Derived.Test.YtiljjhipiinafaaGreatSortOw
import Derived.Test.YtiljjhipiinafaaGreatWord1
import Derived.Deep.CutBlock
import Derived.Deep.CutRange
namespace Go.Proofs.YtiljjhipiinafaaGreat
open Go.RowKit
set_option linter.unusedVariables false
set_option linter.unusedSimpArgs false

theorem Reader.on {w0 w w' : World} {q : Nat} {v : Value} {zs : List Int} {p : Int} (h : Reader w0 w q v zs p) (hb : Below w.heap.size w w') : Reader w0 w' q v zs p :=
  ⟨h.bytes, h.few, h.q0, h.below.trans (hb.mono h.below.size), h.rd.on hb, h.p0⟩

abbrev zeroCells : List Value := [.int .i64 0, .int .i64 0, .int .i64 0, .int .i64 0, .int .i64 0, .int .i64 0, .int .i64 0, .slice none 0 0, .slice none 0 0, .slice none 0 0, .slice none 0 0]

/-- A word that is being drawn: the reader, the result's place, the word's own place, its lists behind it. -/
structure WSt (w0 w W : World) (q b0 b1 : Nat) (v : Value) (zs : List Int) (p : Int) (n : WordV) (vi vv ve vo : Value) : Prop where
  rd : Reader w0 W q v zs p
  on : OnlyB q w W
  res : W.rowIs b0 28 11 (fun i => zeroCells.getD i undef)
  row : W.rowIs b1 28 11 (fun i => (wordCells n vi vv ve vo).getD i undef)
  ls : WordFr (b1 + 1) W n vi vv ve vo
  ql : q < w.heap.size
  o0 : w.heap.size ≤ b0
  o1 : b0 < b1

theorem WordFr.block {N : Nat} {w w' : World} {n : WordV} {vi vv ve vo : Value} (hb : ∀ g, N ≤ g → g < w.heap.size → w'.heap[g]? = w.heap[g]?) (h : WordFr N w n vi vv ve vo) : WordFr N w' n vi vv ve vo :=
  ⟨h.i.block (fun g hg hl => hb g (h.i.blk g hg).1 hl), h.v.block (fun g hg hl => hb g (h.v.blk g hg).1 hl), h.e.block (fun g hg hl => hb g (h.e.blk g hg).1 hl), h.o.block (fun g hg hl => hb g (h.o.blk g hg).1 hl)⟩

theorem WSt.only {w0 w W W' : World} {q b0 b1 : Nat} {v : Value} {zs : List Int} {p p' : Int} {n : WordV} {vi vv ve vo : Value} (h : WSt w0 w W q b0 b1 v zs p n vi vv ve vo) (ho : OnlyB q W W') (hr : Reader w0 W' q v zs p') : WSt w0 w W' q b0 b1 v zs p' n vi vv ve vo :=
  have h1 := h.ql
  have h2 := h.o0
  have h3 := h.o1
  ⟨hr, h.on.trans ho, h.res.of_block (ho.other b0 (by omega) h.res.lt), h.row.of_block (ho.other b1 (by omega) h.row.lt), h.ls.block (fun g hg hl => ho.other g (by omega) hl), h.ql, h.o0, h.o1⟩

theorem WSt.then {w0 w W W' : World} {q b0 b1 : Nat} {v : Value} {zs : List Int} {p : Int} {n : WordV} {vi vv ve vo : Value} (h : WSt w0 w W q b0 b1 v zs p n vi vv ve vo) (hb : Below W.heap.size W W') : WSt w0 w W' q b0 b1 v zs p n vi vv ve vo :=
  have h1 := h.ql
  have h2 := h.on.size
  ⟨h.rd.on hb, h.on.then (by omega) hb, h.res.of_block (hb.block b0 h.res.lt), h.row.of_block (hb.block b1 h.row.lt), h.ls.block (fun g _ hl => hb.block g hl), h.ql, h.o0, h.o1⟩

theorem WSt.set {w0 w W : World} {q b0 b1 : Nat} {v : Value} {zs : List Int} {p : Int} {n : WordV} {vi vv ve vo : Value} (h : WSt w0 w W q b0 b1 v zs p n vi vv ve vo) (j : Nat) (hj : j < 11) (u : Value) (n2 : WordV) (vi2 vv2 ve2 vo2 : Value)
    (hc : (wordCells n vi vv ve vo).set j u = wordCells n2 vi2 vv2 ve2 vo2) (hl : WordFr (b1 + 1) W n2 vi2 vv2 ve2 vo2) : WSt w0 w (W.setCell ⟨b1, j, none⟩ u) q b0 b1 v zs p n2 vi2 vv2 ve2 vo2 :=
  have h1 := h.ql
  have h2 := h.o0
  have h3 := h.o1
  ⟨h.rd.setNew (by omega) u, h.on.setNew (by omega) (by omega) u, h.res.of_block (Below.heap_setCell W ⟨b1, j, none⟩ u b0 (show b0 ≠ b1 by omega)), by have e := rowL_set h.row j hj u; rw [hc] at e; exact e,
    hl.block (fun g hg _ => Below.heap_setCell W ⟨b1, j, none⟩ u g (show g ≠ b1 by omega)), h.ql, h.o0, h.o1⟩

theorem flatCells_ones : ∀ l : List Int, flatCells (l.map fun z => [z]) = (l.map fun z => Value.int .i64 z)
  | [] => rfl
  | a :: t => by
    have ih := flatCells_ones t
    simp only [flatCells, List.map_cons, List.flatMap_cons, List.map_nil, List.cons_append, List.nil_append] at ih ⊢
    rw [ih]

/-- A list that was written out just now. -/
theorem numsNew (w : World) (N : Nat) (l : List Int) (hN : N ≤ w.heap.size) (hl : l.length ≤ 100) : RowsFr N 3 1 (w.alloc (.cells (l.map fun z => Value.int .i64 z).toArray 3)) (.slice (some ⟨w.heap.size, 0, none⟩) l.length l.length) (l.map fun z => [z]) := by
  refine RowsFr.of_owns (fun r hr => ?_) ?_
  · obtain ⟨z, _, rfl⟩ := List.mem_map.1 hr
    rfl
  · have e := World.ownsRow_lit (base := N) (e := 3) (size := 1) w (l.map fun z => Value.int .i64 z).toArray l.length hN (by unfold maxLen; omega) (by simp)
    rw [List.length_map]
    rw [flatCells_ones]
    simpa using e

theorem outsNew (w : World) (N : Nat) (x y : OutV) (hN : N ≤ w.heap.size) : RowsFr N 60 5 (w.alloc (.cells #[.int .i64 x.time, .int .i64 x.proc, .int .i64 x.count, .int .i64 x.n, .int .i64 x.value, .int .i64 y.time, .int .i64 y.proc, .int .i64 y.count, .int .i64 y.n, .int .i64 y.value] 60)) (.slice (some ⟨w.heap.size, 0, none⟩) 2 2) ([x, y].map outRow) := by
  refine RowsFr.of_owns (fun r hr => outRow_len [x, y] r hr) ?_
  exact World.ownsRow_lit (base := N) (e := 60) (size := 5) w #[.int .i64 x.time, .int .i64 x.proc, .int .i64 x.count, .int .i64 x.n, .int .i64 x.value, .int .i64 y.time, .int .i64 y.proc, .int .i64 y.count, .int .i64 y.n, .int .i64 y.value] 2 hN (by unfold maxLen; omega) rfl

set_option maxRecDepth 100000 in
set_option maxHeartbeats 2000000 in
theorem l72Out_any (w0 w : World) (q : Nat) (v : Value) (zs : List Int) (p : Int) (h : Reader w0 w q v zs p) (hp2 : p ≤ 90000) :
    Calls Tryz.prog 50 #[.pointer (some ⟨q, 0, none⟩)] w fun e w' => ∃ (x : OutV) (p' : Int), e = .returned (outAgg x) ∧ p' ≤ p + 5 ∧ Reader w0 w' q v zs p' ∧ OnlyB q w w' := by
  have hq : q < w.heap.size := World.block_lt_of_cell? w ⟨q, 0, none⟩ h.rd.c0
  have hp0 := h.p0
  have HZ := hide (row_new w [.int .i64 0, .int .i64 0, .int .i64 0, .int .i64 0, .int .i64 0] 60)
  have H1 := hide (h.alloc (.cells #[.int .i64 0, .int .i64 0, .int .i64 0, .int .i64 0, .int .i64 0] 60))
  have HO1 := hide (OnlyB.alloc (q := q) w (.cells #[.int .i64 0, .int .i64 0, .int .i64 0, .int .i64 0, .int .i64 0] 60) (by omega))
  clear h
  go_enter Tryz.func50, Tryz.ntmps50
  go_wp2_with fail
  change Hid (World.rowIs (w.alloc (.cells #[.int .i64 0, .int .i64 0, .int .i64 0, .int .i64 0, .int .i64 0] 60)) _ _ _ _) at HZ
  generalize w.alloc (.cells #[.int .i64 0, .int .i64 0, .int .i64 0, .int .i64 0, .int .i64 0] 60) = W1 at *
  refine (pick_any w0 _ q v zs _ 6 (unhide H1) (by omega) (by omega) (by omega)).mono ?_
  rintro e W2 ⟨x0, rfl, hx0, hy0, hr, ho⟩
  have H2 := hide hr
  have HO2 := hide ((unhide HO1).trans ho)
  replace HZ := hide ((unhide HZ).of_block (ho.other w.heap.size (by omega) (unhide HZ).lt))
  clear hr ho H1 HO1
  go_wp2_with fail
  refine (pick_any w0 _ q v zs _ 4 (unhide H2) (by omega) (by omega) (by omega)).mono ?_
  rintro e W3 ⟨x1, rfl, hx1, hy1, hr, ho⟩
  have H3 := hide hr
  have HO3 := hide ((unhide HO2).trans ho)
  replace HZ := hide ((unhide HZ).of_block (ho.other w.heap.size (by omega) (unhide HZ).lt))
  clear hr ho H2 HO2
  go_wp2_with fail
  refine (pick_any w0 _ q v zs _ 3 (unhide H3) (by omega) (by omega) (by omega)).mono ?_
  rintro e W4 ⟨x2, rfl, hx2, hy2, hr, ho⟩
  have H4 := hide hr
  have HO4 := hide ((unhide HO3).trans ho)
  replace HZ := hide ((unhide HZ).of_block (ho.other w.heap.size (by omega) (unhide HZ).lt))
  clear hr ho H3 HO3
  go_wp2_with fail
  refine (pick_any w0 _ q v zs _ 2 (unhide H4) (by omega) (by omega) (by omega)).mono ?_
  rintro e W5 ⟨x3, rfl, hx3, hy3, hr, ho⟩
  have H5 := hide hr
  have HO5 := hide ((unhide HO4).trans ho)
  replace HZ := hide ((unhide HZ).of_block (ho.other w.heap.size (by omega) (unhide HZ).lt))
  clear hr ho H4 HO4
  go_wp2_with fail
  refine (pick_any w0 _ q v zs _ 4 (unhide H5) (by omega) (by omega) (by omega)).mono ?_
  rintro e W6 ⟨x4, rfl, hx4, hy4, hr, ho⟩
  have H6 := hide hr
  have HO6 := hide ((unhide HO5).trans ho)
  replace HZ := hide ((unhide HZ).of_block (ho.other w.heap.size (by omega) (unhide HZ).lt))
  clear hr ho H5 HO5
  have z0 : W6.cell? ⟨w.heap.size, 0, none⟩ = some (.int .i64 0) := (unhide HZ).cell (i := 0) (by simp)
  have f0 : W6.frozen? ⟨w.heap.size, 0, none⟩ = false := (unhide HZ).frozen 0
  have z1 : W6.cell? ⟨w.heap.size, 1, none⟩ = some (.int .i64 0) := (unhide HZ).cell (i := 1) (by simp)
  have f1 : W6.frozen? ⟨w.heap.size, 1, none⟩ = false := (unhide HZ).frozen 1
  have z2 : W6.cell? ⟨w.heap.size, 2, none⟩ = some (.int .i64 0) := (unhide HZ).cell (i := 2) (by simp)
  have f2 : W6.frozen? ⟨w.heap.size, 2, none⟩ = false := (unhide HZ).frozen 2
  have z3 : W6.cell? ⟨w.heap.size, 3, none⟩ = some (.int .i64 0) := (unhide HZ).cell (i := 3) (by simp)
  have f3 : W6.frozen? ⟨w.heap.size, 3, none⟩ = false := (unhide HZ).frozen 3
  have z4 : W6.cell? ⟨w.heap.size, 4, none⟩ = some (.int .i64 0) := (unhide HZ).cell (i := 4) (by simp)
  have f4 : W6.frozen? ⟨w.heap.size, 4, none⟩ = false := (unhide HZ).frozen 4
  clear HZ
  go_wp2_with fail
  refine bodyPost_ret (v := outAgg ⟨x0, x1, x2, x3, x4⟩) (by simp [results, Tryz.results50, go_sem, z0, z1, z2, z3, z4]) rfl ⟨⟨x0, x1, x2, x3, x4⟩, _, rfl, by omega, ((((((unhide H6).setNew (by omega) _).setNew (by omega) _).setNew (by omega) _).setNew (by omega) _).setNew (by omega) _), ((((((unhide HO6).setNew (by omega) (by omega) _).setNew (by omega) (by omega) _).setNew (by omega) (by omega) _).setNew (by omega) (by omega) _).setNew (by omega) (by omega) _)⟩
end Go.Proofs.YtiljjhipiinafaaGreat

/- spec.l72Word: a word that is drawn. -/
namespace Go.Proofs.YtiljjhipiinafaaGreat
open Go.RowKit
set_option linter.unusedVariables false
set_option linter.unusedSimpArgs false

set_option maxRecDepth 100000 in
set_option maxHeartbeats 8000000 in
theorem l72Word_any (w0 w : World) (q : Nat) (v : Value) (zs : List Int) (p : Int) (h : Reader w0 w q v zs p) (hp2 : p ≤ 5000) :
    Calls Tryz.prog 12 #[.pointer (some ⟨q, 0, none⟩)] w fun e w' => ∃ (n : WordV) (vi vv ve vo : Value) (p' : Int), e = .returned (wordAgg n vi vv ve vo) ∧ p' ≤ p + 2000 ∧ WordFr w.heap.size w' n vi vv ve vo ∧ Reader w0 w' q v zs p' ∧ OnlyB q w w' := by
  have hq : q < w.heap.size := World.block_lt_of_cell? w ⟨q, 0, none⟩ h.rd.c0
  have hp0 := h.p0
  have HZ := hide (row_new w [.int .i64 0, .int .i64 0, .int .i64 0, .int .i64 0, .int .i64 0, .int .i64 0, .int .i64 0, .slice none 0 0, .slice none 0 0, .slice none 0 0, .slice none 0 0] 28)
  have H1 := hide (h.alloc (.cells #[.int .i64 0, .int .i64 0, .int .i64 0, .int .i64 0, .int .i64 0, .int .i64 0, .int .i64 0, .slice none 0 0, .slice none 0 0, .slice none 0 0, .slice none 0 0] 28))
  have HO1 := hide (OnlyB.alloc (q := q) w (.cells #[.int .i64 0, .int .i64 0, .int .i64 0, .int .i64 0, .int .i64 0, .int .i64 0, .int .i64 0, .slice none 0 0, .slice none 0 0, .slice none 0 0, .slice none 0 0] 28) (by omega))
  clear h
  go_enter Tryz.func12, Tryz.ntmps12
  go_wp2_with fail
  change Hid (World.rowIs (w.alloc (.cells #[.int .i64 0, .int .i64 0, .int .i64 0, .int .i64 0, .int .i64 0, .int .i64 0, .int .i64 0, .slice none 0 0, .slice none 0 0, .slice none 0 0, .slice none 0 0] 28)) _ _ _ _) at HZ
  generalize w.alloc (.cells #[.int .i64 0, .int .i64 0, .int .i64 0, .int .i64 0, .int .i64 0, .int .i64 0, .int .i64 0, .slice none 0 0, .slice none 0 0, .slice none 0 0, .slice none 0 0] 28) = W1 at *
  refine (pick_any w0 _ q v zs _ 7 (unhide H1) (by omega) (by omega) (by omega)).mono ?_
  rintro e W2 ⟨x0, rfl, hx0, hy0, hr, ho⟩
  have H2 := hide hr
  have HO2 := hide ((unhide HO1).trans ho)
  replace HZ := hide ((unhide HZ).of_block (ho.other w.heap.size (by omega) (unhide HZ).lt))
  clear hr ho H1 HO1
  go_wp2_with fail
  refine (pick_any w0 _ q v zs _ 3 (unhide H2) (by omega) (by omega) (by omega)).mono ?_
  rintro e W3 ⟨x1, rfl, hx1, hy1, hr, ho⟩
  have H3 := hide hr
  have HO3 := hide ((unhide HO2).trans ho)
  replace HZ := hide ((unhide HZ).of_block (ho.other w.heap.size (by omega) (unhide HZ).lt))
  clear hr ho H2 HO2
  go_wp2_with fail
  refine (pick_any w0 _ q v zs _ 3 (unhide H3) (by omega) (by omega) (by omega)).mono ?_
  rintro e W4 ⟨x2, rfl, hx2, hy2, hr, ho⟩
  have H4 := hide hr
  have HO4 := hide ((unhide HO3).trans ho)
  replace HZ := hide ((unhide HZ).of_block (ho.other w.heap.size (by omega) (unhide HZ).lt))
  clear hr ho H3 HO3
  go_wp2_with fail
  refine (pick_any w0 _ q v zs _ 3 (unhide H4) (by omega) (by omega) (by omega)).mono ?_
  rintro e W5 ⟨x3, rfl, hx3, hy3, hr, ho⟩
  have H5 := hide hr
  have HO5 := hide ((unhide HO4).trans ho)
  replace HZ := hide ((unhide HZ).of_block (ho.other w.heap.size (by omega) (unhide HZ).lt))
  clear hr ho H4 HO4
  go_wp2_with fail
  refine (pick_any w0 _ q v zs _ 6 (unhide H5) (by omega) (by omega) (by omega)).mono ?_
  rintro e W6 ⟨x4, rfl, hx4, hy4, hr, ho⟩
  have H6 := hide hr
  have HO6 := hide ((unhide HO5).trans ho)
  replace HZ := hide ((unhide HZ).of_block (ho.other w.heap.size (by omega) (unhide HZ).lt))
  clear hr ho H5 HO5
  go_wp2_with fail
  refine (pick_any w0 _ q v zs _ 3 (unhide H6) (by omega) (by omega) (by omega)).mono ?_
  rintro e W7 ⟨x5, rfl, hx5, hy5, hr, ho⟩
  have H7 := hide hr
  have HO7 := hide ((unhide HO6).trans ho)
  replace HZ := hide ((unhide HZ).of_block (ho.other w.heap.size (by omega) (unhide HZ).lt))
  clear hr ho H6 HO6
  go_wp2_with fail
  refine (pick_any w0 _ q v zs _ 12 (unhide H7) (by omega) (by omega) (by omega)).mono ?_
  rintro e W8 ⟨x6, rfl, hx6, hy6, hr, ho⟩
  have H8 := hide hr
  have HO8 := hide ((unhide HO7).trans ho)
  replace HZ := hide ((unhide HZ).of_block (ho.other w.heap.size (by omega) (unhide HZ).lt))
  clear hr ho H7 HO7
  go_wp2_with fail
  have HS : Hid (WSt w0 w (W8.alloc (.cells #[.int .i64 (1 + x0), .int .i64 x1, .int .i64 x2, .int .i64 (1 + x3), .int .i64 x4, .int .i64 (1 + x5), .int .i64 x6, .slice none 0 0, .slice none 0 0, .slice none 0 0, .slice none 0 0] 28)) q w.heap.size W8.heap.size v zs (p + 1 + 1 + 1 + 1 + 1 + 1 + 1) ⟨1 + x0, x1, x2, 1 + x3, x4, 1 + x5, x6, [], [], [], []⟩ (.slice none 0 0) (.slice none 0 0) (.slice none 0 0) (.slice none 0 0)) :=
    hide ⟨(unhide H8).alloc _, (unhide HO8).trans (OnlyB.alloc W8 _ (by have := (unhide HO8).size; omega)), (unhide HZ).alloc _, row_new W8 [.int .i64 (1 + x0), .int .i64 x1, .int .i64 x2, .int .i64 (1 + x3), .int .i64 x4, .int .i64 (1 + x5), .int .i64 x6, .slice none 0 0, .slice none 0 0, .slice none 0 0, .slice none 0 0] 28, ⟨Or.inl ⟨rfl, rfl⟩, Or.inl ⟨rfl, rfl⟩, Or.inl ⟨rfl, rfl⟩, Or.inl ⟨rfl, rfl⟩⟩, hq, Nat.le_refl _, (unhide HZ).lt⟩
  have hb1 : w.heap.size < W8.heap.size := (unhide HZ).lt
  clear H8 HO8 HZ
  generalize (W8.alloc (.cells #[.int .i64 (1 + x0), .int .i64 x1, .int .i64 x2, .int .i64 (1 + x3), .int .i64 x4, .int .i64 (1 + x5), .int .i64 x6, .slice none 0 0, .slice none 0 0, .slice none 0 0, .slice none 0 0] 28)) = A at *
  generalize W8.heap.size = b1 at *
  refine (pick_any w0 _ q v zs _ 5 (unhide HS).rd (by omega) (by omega) (by omega)).mono ?_
  rintro e A1 ⟨c, rfl, hc0, hc1, hr, ho⟩
  replace HS := hide ((unhide HS).only ho hr)
  clear hr ho
  go_upto_block 0 with fail
  go_cut [3] from 24 (fun t wx => t = .pointer (some ⟨b1, 0, none⟩) ∧ ∃ (n : WordV) (vi vv ve vo : Value) (p' : Int), p' ≤ p + 1000 ∧ Hid (WSt w0 w wx q w.heap.size b1 v zs p' n vi vv ve vo))
  case first =>
    rcases (show c = 0 ∨ c = 1 ∨ c = 2 ∨ 3 ≤ c by omega) with rfl | rfl | rfl | h3
    · skip
      go_wp2_with fail
      refine (pick_any w0 _ q v zs _ 2 (unhide HS).rd (by omega) (by omega) (by omega)).mono ?_
      rintro e A2 ⟨y0, rfl, hy0, hy1, hr, ho⟩
      replace HS := hide ((unhide HS).only ho hr)
      clear hr ho
      have g := (unhide HS).row.cell (i := 7) (by simp)
      simp only [wordCells] at g
      have z := (unhide HS).row.frozen 7
      have hlt := (unhide HS).row.lt
      have hne : ¬ b1 = A2.heap.size := by omega
      have HN := hide (numsNew A2 (b1 + 1) [y0, 1, 1] (by omega) (by simp))
      have hbA : Below A2.heap.size A2 (A2.alloc (.cells #[.int .i64 y0, .int .i64 1, .int .i64 1] 3)) := (Below.refl _ _).alloc (Nat.le_refl _) _
      have HT : Hid (WSt w0 w ((A2.alloc (.cells #[.int .i64 y0, .int .i64 1, .int .i64 1] 3)).setCell ⟨b1, 7, none⟩ (.slice (some ⟨A2.heap.size, 0, none⟩) 3 3)) q w.heap.size b1 v zs _ ⟨1 + x0, x1, x2, 1 + x3, x4, 1 + x5, x6, [y0, 1, 1], [], [], []⟩ (.slice (some ⟨A2.heap.size, 0, none⟩) 3 3) (.slice none 0 0) (.slice none 0 0) (.slice none 0 0)) :=
        hide (((unhide HS).then hbA).set 7 (by omega) _ _ _ _ _ _ rfl ⟨unhide HN, ((unhide HS).then hbA).ls.v, ((unhide HS).then hbA).ls.e, ((unhide HS).then hbA).ls.o⟩)
      rw [World.setCell_alloc_past _ _ _ _ hlt] at HT
      clear HS HN hbA
      go_wp2_with fail
      clear g z hlt hne
      generalize ((A2.setCell ⟨b1, 7, none⟩ (.slice (some ⟨A2.heap.size, 0, none⟩) 3 3)).alloc (.cells #[.int .i64 y0, .int .i64 1, .int .i64 1] 3)) = A3 at *
      generalize A2.heap.size = r2 at *
      refine (pick_any w0 _ q v zs _ 3 (unhide HT).rd (by omega) (by omega) (by omega)).mono ?_
      rintro e A4 ⟨y2, rfl, hy2, hy3, hr, ho⟩
      have HS := hide ((unhide HT).only ho hr)
      clear hr ho HT
      have g := (unhide HS).row.cell (i := 8) (by simp)
      simp only [wordCells] at g
      have z := (unhide HS).row.frozen 8
      have hlt := (unhide HS).row.lt
      have hne : ¬ b1 = A4.heap.size := by omega
      have HN := hide (numsNew A4 (b1 + 1) [1, y2, 1] (by omega) (by simp))
      have hbA : Below A4.heap.size A4 (A4.alloc (.cells #[.int .i64 1, .int .i64 y2, .int .i64 1] 3)) := (Below.refl _ _).alloc (Nat.le_refl _) _
      have HT : Hid (WSt w0 w ((A4.alloc (.cells #[.int .i64 1, .int .i64 y2, .int .i64 1] 3)).setCell ⟨b1, 8, none⟩ (.slice (some ⟨A4.heap.size, 0, none⟩) 3 3)) q w.heap.size b1 v zs _ ⟨1 + x0, x1, x2, 1 + x3, x4, 1 + x5, x6, [y0, 1, 1], [1, y2, 1], [], []⟩ (.slice (some ⟨r2, 0, none⟩) 3 3) (.slice (some ⟨A4.heap.size, 0, none⟩) 3 3) (.slice none 0 0) (.slice none 0 0)) :=
        hide (((unhide HS).then hbA).set 8 (by omega) _ _ _ _ _ _ rfl ⟨((unhide HS).then hbA).ls.i, unhide HN, ((unhide HS).then hbA).ls.e, ((unhide HS).then hbA).ls.o⟩)
      rw [World.setCell_alloc_past _ _ _ _ hlt] at HT
      clear HS HN hbA
      go_wp2_with fail
      go_meet
      case rel => exact ⟨rfl, _, _, _, _, _, _, by omega, HT⟩
    · skip
      go_wp2_with fail
      refine (E.l72Events_any w0 _ q v zs _ (unhide HS).rd (by omega) 4 (by omega) (by omega)).mono ?_
      rintro e A2 ⟨vl, es, p9, rfl, hlen, hp9, hr, hrows, ho⟩
      replace HS := hide ((unhide HS).only ho hr)
      clear hr ho
      go_wp2_with fail
      refine (E.specEventSort_any evLess_strict vl es _ hrows.at (by omega)).mono ?_
      rintro e A3 ⟨vr, ys, rfl, _, _, hrs, hb⟩
      have hlt2 := (unhide HS).row.lt
      replace HS := hide ((unhide HS).then hb)
      obtain ⟨a, cc, hvr⟩ := rowsLen hrs.at
      subst hvr
      have g := (unhide HS).row.cell (i := 9) (by simp)
      simp only [wordCells] at g
      have z := (unhide HS).row.frozen 9
      have hlt := (unhide HS).row.lt
      have hne : ¬ b1 = A3.heap.size := by omega
      have HT : Hid (WSt w0 w (A3.setCell ⟨b1, 9, none⟩ (.slice a ys.length cc)) q w.heap.size b1 v zs _ ⟨1 + x0, x1, x2, 1 + x3, x4, 1 + x5, x6, [], [], ys, []⟩ (.slice none 0 0) (.slice none 0 0) (.slice a ys.length cc) (.slice none 0 0)) :=
        hide ((unhide HS).set 9 (by omega) _ _ _ _ _ _ rfl ⟨(unhide HS).ls.i, (unhide HS).ls.v, hrs.less (by omega), (unhide HS).ls.o⟩)
      clear HS hrs hrows hb
      go_wp2_with fail
      go_meet
      case rel => exact ⟨rfl, _, _, _, _, _, _, by omega, HT⟩
    · skip
      go_wp2_with fail
      refine (l72Out_any w0 _ q v zs _ (unhide HS).rd (by omega)).mono ?_
      rintro e A2 ⟨y1, p8, rfl, hp8, hr, ho⟩
      replace HS := hide ((unhide HS).only ho hr)
      clear hr ho
      go_wp2_with fail
      refine (l72Out_any w0 _ q v zs _ (unhide HS).rd (by omega)).mono ?_
      rintro e A3 ⟨y2, p9, rfl, hp9, hr, ho⟩
      replace HS := hide ((unhide HS).only ho hr)
      clear hr ho
      have hlt3 := (unhide HS).row.lt
      have HN := hide (outsNew A3 (b1 + 1) y1 y2 (by omega))
      replace HS : Hid (WSt w0 w (A3.alloc (.cells #[.int .i64 y1.time, .int .i64 y1.proc, .int .i64 y1.count, .int .i64 y1.n, .int .i64 y1.value, .int .i64 y2.time, .int .i64 y2.proc, .int .i64 y2.count, .int .i64 y2.n, .int .i64 y2.value] 60)) q w.heap.size b1 v zs p9 ⟨1 + x0, x1, x2, 1 + x3, x4, 1 + x5, x6, [], [], [], []⟩ (.slice none 0 0) (.slice none 0 0) (.slice none 0 0) (.slice none 0 0)) := hide ((unhide HS).then ((Below.refl _ _).alloc (Nat.le_refl _) _))
      go_wp2_with fail
      generalize (A3.alloc (.cells #[.int .i64 y1.time, .int .i64 y1.proc, .int .i64 y1.count, .int .i64 y1.n, .int .i64 y1.value, .int .i64 y2.time, .int .i64 y2.proc, .int .i64 y2.count, .int .i64 y2.n, .int .i64 y2.value] 60)) = A4 at *
      refine (specOutSort_any outLess_strict _ [y1, y2] _ (unhide HN).at (by simp)).mono ?_
      rintro e A5 ⟨vr, ys, rfl, _, _, hrs, hb⟩
      have hlt2 := (unhide HS).row.lt
      replace HS := hide ((unhide HS).then hb)
      obtain ⟨a, cc, hvr⟩ := rowsLen hrs.at
      subst hvr
      have g := (unhide HS).row.cell (i := 10) (by simp)
      simp only [wordCells] at g
      have z := (unhide HS).row.frozen 10
      have hlt := (unhide HS).row.lt
      have hne : ¬ b1 = A5.heap.size := by omega
      have HT : Hid (WSt w0 w (A5.setCell ⟨b1, 10, none⟩ (.slice a ys.length cc)) q w.heap.size b1 v zs _ ⟨1 + x0, x1, x2, 1 + x3, x4, 1 + x5, x6, [], [], [], ys⟩ (.slice none 0 0) (.slice none 0 0) (.slice none 0 0) (.slice a ys.length cc)) :=
        hide ((unhide HS).set 10 (by omega) _ _ _ _ _ _ rfl ⟨(unhide HS).ls.i, (unhide HS).ls.v, (unhide HS).ls.e, hrs.less (by omega)⟩)
      clear HS hrs hb
      go_wp2_with fail
      go_meet
      case rel => exact ⟨rfl, _, _, _, _, _, _, by omega, HT⟩
    · have d0 : (c == 0) = false := by simp; omega
      have d1 : (c == 1) = false := by simp; omega
      have d2 : (c == 2) = false := by simp; omega
      go_wp2_with fail
      go_meet
      case rel => exact ⟨rfl, _, _, _, _, _, _, by omega, HS⟩
  case rest =>
    obtain ⟨rfl, n, vi, vv, ve, vo, p1, hp1, HT⟩ := hcut
    clear HS
    have HS := HT
    clear HT
    have hp10 := (unhide HS).rd.p0
    go_wp2_with fail
    refine (pick_any w0 _ q v zs _ 20 (unhide HS).rd (by omega) (by omega) (by omega)).mono ?_
    rintro e B1 ⟨d, rfl, hd0, hd1, hr, ho⟩
    replace HS := hide ((unhide HS).only ho hr)
    clear hr ho
    go_upto_block 1 with fail
    go_cut [3] from 51 (fun t wx => t = .pointer (some ⟨b1, 0, none⟩) ∧ ∃ (n : WordV) (vi vv ve vo : Value) (p' : Int), p' ≤ p + 1100 ∧ Hid (WSt w0 w wx q w.heap.size b1 v zs p' n vi vv ve vo))
    case first =>
      rcases (show d = 0 ∨ d = 1 ∨ d = 2 ∨ d = 3 ∨ d = 4 ∨ 5 ≤ d by omega) with rfl | rfl | rfl | rfl | rfl | h5
      · skip
        go_wp2_with fail
        have HB : Hid (WSt w0 w (B1.alloc (.cells #[.int .i64 0, .int .i64 8] 3)) q w.heap.size b1 v zs _ n vi vv ve vo) := hide ((unhide HS).then ((Below.refl _ _).alloc (Nat.le_refl _) _))
        have f0 : (B1.alloc (.cells #[.int .i64 0, .int .i64 8] 3)).cell? ⟨B1.heap.size, 0, none⟩ = some (.int .i64 0) := by simp [go_sem]
        have f1 : (B1.alloc (.cells #[.int .i64 0, .int .i64 8] 3)).cell? ⟨B1.heap.size, 1, none⟩ = some (.int .i64 8) := by simp [go_sem]
        have hqb : ¬ B1.heap.size = q := by have := (unhide HS).row.lt; have := (unhide HS).ql; omega
        have hrb : ¬ B1.heap.size = b1 := by have := (unhide HS).row.lt; omega
        clear HS
        generalize (B1.alloc (.cells #[.int .i64 0, .int .i64 8] 3)) = B2 at *
        generalize B1.heap.size = r4 at *
        refine (pick_any w0 _ q v zs _ 2 (unhide HB).rd (by omega) (by omega) (by omega)).mono ?_
        rintro e B3 ⟨y, rfl, hy0, hy1, hr, ho⟩
        have HS := hide ((unhide HB).only ho hr)
        replace f0 := ho.cell hqb f0
        replace f1 := ho.cell hqb f1
        clear hr ho HB
        have g := (unhide HS).row.cell (i := 0) (by simp)
        simp only [wordCells] at g
        have z := (unhide HS).row.frozen 0
        have hlt := (unhide HS).row.lt
        rcases (show y = 0 ∨ y = 1 by omega) with rfl | rfl
        · have HT : Hid (WSt w0 w (B3.setCell ⟨b1, 0, none⟩ (.int .i64 0)) q w.heap.size b1 v zs _ ⟨0, n.frm, n.dst, n.inc, n.ver, n.rd, n.g, n.incs, n.vers, n.evs, n.outs⟩ vi vv ve vo) :=
            hide ((unhide HS).set 0 (by omega) _ _ _ _ _ _ rfl ⟨(unhide HS).ls.i, (unhide HS).ls.v, (unhide HS).ls.e, (unhide HS).ls.o⟩)
          clear HS
          go_wp2_with fail
          go_meet
          case rel => exact ⟨rfl, _, _, _, _, _, _, by omega, HT⟩
        · have HT : Hid (WSt w0 w (B3.setCell ⟨b1, 0, none⟩ (.int .i64 8)) q w.heap.size b1 v zs _ ⟨8, n.frm, n.dst, n.inc, n.ver, n.rd, n.g, n.incs, n.vers, n.evs, n.outs⟩ vi vv ve vo) :=
            hide ((unhide HS).set 0 (by omega) _ _ _ _ _ _ rfl ⟨(unhide HS).ls.i, (unhide HS).ls.v, (unhide HS).ls.e, (unhide HS).ls.o⟩)
          clear HS
          go_wp2_with fail
          go_meet
          case rel => exact ⟨rfl, _, _, _, _, _, _, by omega, HT⟩
      · skip
        go_wp2_with fail
        have HB : Hid (WSt w0 w (B1.alloc (.cells #[.int .i64 (-1), .int .i64 3] 3)) q w.heap.size b1 v zs _ n vi vv ve vo) := hide ((unhide HS).then ((Below.refl _ _).alloc (Nat.le_refl _) _))
        have f0 : (B1.alloc (.cells #[.int .i64 (-1), .int .i64 3] 3)).cell? ⟨B1.heap.size, 0, none⟩ = some (.int .i64 (-1)) := by simp [go_sem]
        have f1 : (B1.alloc (.cells #[.int .i64 (-1), .int .i64 3] 3)).cell? ⟨B1.heap.size, 1, none⟩ = some (.int .i64 3) := by simp [go_sem]
        have hqb : ¬ B1.heap.size = q := by have := (unhide HS).row.lt; have := (unhide HS).ql; omega
        have hrb : ¬ B1.heap.size = b1 := by have := (unhide HS).row.lt; omega
        clear HS
        generalize (B1.alloc (.cells #[.int .i64 (-1), .int .i64 3] 3)) = B2 at *
        generalize B1.heap.size = r4 at *
        refine (pick_any w0 _ q v zs _ 2 (unhide HB).rd (by omega) (by omega) (by omega)).mono ?_
        rintro e B3 ⟨y, rfl, hy0, hy1, hr, ho⟩
        have HS := hide ((unhide HB).only ho hr)
        replace f0 := ho.cell hqb f0
        replace f1 := ho.cell hqb f1
        clear hr ho HB
        have g := (unhide HS).row.cell (i := 1) (by simp)
        simp only [wordCells] at g
        have z := (unhide HS).row.frozen 1
        have hlt := (unhide HS).row.lt
        rcases (show y = 0 ∨ y = 1 by omega) with rfl | rfl
        · have HT : Hid (WSt w0 w (B3.setCell ⟨b1, 1, none⟩ (.int .i64 (-1))) q w.heap.size b1 v zs _ ⟨n.kind, (-1), n.dst, n.inc, n.ver, n.rd, n.g, n.incs, n.vers, n.evs, n.outs⟩ vi vv ve vo) :=
            hide ((unhide HS).set 1 (by omega) _ _ _ _ _ _ rfl ⟨(unhide HS).ls.i, (unhide HS).ls.v, (unhide HS).ls.e, (unhide HS).ls.o⟩)
          clear HS
          go_wp2_with fail
          go_meet
          case rel => exact ⟨rfl, _, _, _, _, _, _, by omega, HT⟩
        · have HT : Hid (WSt w0 w (B3.setCell ⟨b1, 1, none⟩ (.int .i64 3)) q w.heap.size b1 v zs _ ⟨n.kind, 3, n.dst, n.inc, n.ver, n.rd, n.g, n.incs, n.vers, n.evs, n.outs⟩ vi vv ve vo) :=
            hide ((unhide HS).set 1 (by omega) _ _ _ _ _ _ rfl ⟨(unhide HS).ls.i, (unhide HS).ls.v, (unhide HS).ls.e, (unhide HS).ls.o⟩)
          clear HS
          go_wp2_with fail
          go_meet
          case rel => exact ⟨rfl, _, _, _, _, _, _, by omega, HT⟩
      · skip
        go_wp2_with fail
        have HB : Hid (WSt w0 w (B1.alloc (.cells #[.int .i64 (-1), .int .i64 41, .int .i64 42] 3)) q w.heap.size b1 v zs _ n vi vv ve vo) := hide ((unhide HS).then ((Below.refl _ _).alloc (Nat.le_refl _) _))
        have f0 : (B1.alloc (.cells #[.int .i64 (-1), .int .i64 41, .int .i64 42] 3)).cell? ⟨B1.heap.size, 0, none⟩ = some (.int .i64 (-1)) := by simp [go_sem]
        have f1 : (B1.alloc (.cells #[.int .i64 (-1), .int .i64 41, .int .i64 42] 3)).cell? ⟨B1.heap.size, 1, none⟩ = some (.int .i64 41) := by simp [go_sem]
        have f2 : (B1.alloc (.cells #[.int .i64 (-1), .int .i64 41, .int .i64 42] 3)).cell? ⟨B1.heap.size, 2, none⟩ = some (.int .i64 42) := by simp [go_sem]
        have hqb : ¬ B1.heap.size = q := by have := (unhide HS).row.lt; have := (unhide HS).ql; omega
        have hrb : ¬ B1.heap.size = b1 := by have := (unhide HS).row.lt; omega
        clear HS
        generalize (B1.alloc (.cells #[.int .i64 (-1), .int .i64 41, .int .i64 42] 3)) = B2 at *
        generalize B1.heap.size = r4 at *
        refine (pick_any w0 _ q v zs _ 3 (unhide HB).rd (by omega) (by omega) (by omega)).mono ?_
        rintro e B3 ⟨y, rfl, hy0, hy1, hr, ho⟩
        have HS := hide ((unhide HB).only ho hr)
        replace f0 := ho.cell hqb f0
        replace f1 := ho.cell hqb f1
        replace f2 := ho.cell hqb f2
        clear hr ho HB
        have g := (unhide HS).row.cell (i := 6) (by simp)
        simp only [wordCells] at g
        have z := (unhide HS).row.frozen 6
        have hlt := (unhide HS).row.lt
        rcases (show y = 0 ∨ y = 1 ∨ y = 2 by omega) with rfl | rfl | rfl
        · have HT : Hid (WSt w0 w (B3.setCell ⟨b1, 6, none⟩ (.int .i64 (-1))) q w.heap.size b1 v zs _ ⟨n.kind, n.frm, n.dst, n.inc, n.ver, n.rd, (-1), n.incs, n.vers, n.evs, n.outs⟩ vi vv ve vo) :=
            hide ((unhide HS).set 6 (by omega) _ _ _ _ _ _ rfl ⟨(unhide HS).ls.i, (unhide HS).ls.v, (unhide HS).ls.e, (unhide HS).ls.o⟩)
          clear HS
          go_wp2_with fail
          go_meet
          case rel => exact ⟨rfl, _, _, _, _, _, _, by omega, HT⟩
        · have HT : Hid (WSt w0 w (B3.setCell ⟨b1, 6, none⟩ (.int .i64 41)) q w.heap.size b1 v zs _ ⟨n.kind, n.frm, n.dst, n.inc, n.ver, n.rd, 41, n.incs, n.vers, n.evs, n.outs⟩ vi vv ve vo) :=
            hide ((unhide HS).set 6 (by omega) _ _ _ _ _ _ rfl ⟨(unhide HS).ls.i, (unhide HS).ls.v, (unhide HS).ls.e, (unhide HS).ls.o⟩)
          clear HS
          go_wp2_with fail
          go_meet
          case rel => exact ⟨rfl, _, _, _, _, _, _, by omega, HT⟩
        · have HT : Hid (WSt w0 w (B3.setCell ⟨b1, 6, none⟩ (.int .i64 42)) q w.heap.size b1 v zs _ ⟨n.kind, n.frm, n.dst, n.inc, n.ver, n.rd, 42, n.incs, n.vers, n.evs, n.outs⟩ vi vv ve vo) :=
            hide ((unhide HS).set 6 (by omega) _ _ _ _ _ _ rfl ⟨(unhide HS).ls.i, (unhide HS).ls.v, (unhide HS).ls.e, (unhide HS).ls.o⟩)
          clear HS
          go_wp2_with fail
          go_meet
          case rel => exact ⟨rfl, _, _, _, _, _, _, by omega, HT⟩
      · skip
        have g := (unhide HS).row.cell (i := 7) (by simp)
        simp only [wordCells] at g
        have z := (unhide HS).row.frozen 7
        have hlt := (unhide HS).row.lt
        have hne : ¬ b1 = B1.heap.size := by omega
        have HN := hide (numsNew B1 (b1 + 1) [1, 2] (by omega) (by simp))
        have hbA : Below B1.heap.size B1 (B1.alloc (.cells #[.int .i64 1, .int .i64 2] 3)) := (Below.refl _ _).alloc (Nat.le_refl _) _
        have HT : Hid (WSt w0 w ((B1.alloc (.cells #[.int .i64 1, .int .i64 2] 3)).setCell ⟨b1, 7, none⟩ (.slice (some ⟨B1.heap.size, 0, none⟩) 2 2)) q w.heap.size b1 v zs _ ⟨n.kind, n.frm, n.dst, n.inc, n.ver, n.rd, n.g, [1, 2], n.vers, n.evs, n.outs⟩ (.slice (some ⟨B1.heap.size, 0, none⟩) 2 2) vv ve vo) :=
          hide (((unhide HS).then hbA).set 7 (by omega) _ _ _ _ _ _ rfl ⟨unhide HN, ((unhide HS).then hbA).ls.v, ((unhide HS).then hbA).ls.e, ((unhide HS).then hbA).ls.o⟩)
        rw [World.setCell_alloc_past _ _ _ _ hlt] at HT
        clear HS HN hbA
        go_wp2_with fail
        go_meet
        case rel => exact ⟨rfl, _, _, _, _, _, _, by omega, HT⟩
      · skip
        go_wp2_with fail
        refine (l22Max_any _).mono ?_
        rintro e V1 ⟨rfl, hw1⟩
        obtain rfl := hw1.symm
        clear hw1
        go_wp2_with fail
        refine (l22Max_any _).mono ?_
        rintro e V2 ⟨rfl, hw2⟩
        obtain rfl := hw2.symm
        clear hw2
        go_wp2_with fail
        have HB : Hid (WSt w0 w (B1.alloc (.cells #[.int .i64 (-1), .int .i64 9999, .int .i64 10000] 3)) q w.heap.size b1 v zs _ n vi vv ve vo) := hide ((unhide HS).then ((Below.refl _ _).alloc (Nat.le_refl _) _))
        have f0 : (B1.alloc (.cells #[.int .i64 (-1), .int .i64 9999, .int .i64 10000] 3)).cell? ⟨B1.heap.size, 0, none⟩ = some (.int .i64 (-1)) := by simp [go_sem]
        have f1 : (B1.alloc (.cells #[.int .i64 (-1), .int .i64 9999, .int .i64 10000] 3)).cell? ⟨B1.heap.size, 1, none⟩ = some (.int .i64 9999) := by simp [go_sem]
        have f2 : (B1.alloc (.cells #[.int .i64 (-1), .int .i64 9999, .int .i64 10000] 3)).cell? ⟨B1.heap.size, 2, none⟩ = some (.int .i64 10000) := by simp [go_sem]
        have hqb : ¬ B1.heap.size = q := by have := (unhide HS).row.lt; have := (unhide HS).ql; omega
        have hrb : ¬ B1.heap.size = b1 := by have := (unhide HS).row.lt; omega
        clear HS
        generalize (B1.alloc (.cells #[.int .i64 (-1), .int .i64 9999, .int .i64 10000] 3)) = B2 at *
        generalize B1.heap.size = r4 at *
        refine (pick_any w0 _ q v zs _ 3 (unhide HB).rd (by omega) (by omega) (by omega)).mono ?_
        rintro e B3 ⟨y, rfl, hy0, hy1, hr, ho⟩
        have HS := hide ((unhide HB).only ho hr)
        replace f0 := ho.cell hqb f0
        replace f1 := ho.cell hqb f1
        replace f2 := ho.cell hqb f2
        clear hr ho HB
        have g := (unhide HS).row.cell (i := 4) (by simp)
        simp only [wordCells] at g
        have z := (unhide HS).row.frozen 4
        have hlt := (unhide HS).row.lt
        rcases (show y = 0 ∨ y = 1 ∨ y = 2 by omega) with rfl | rfl | rfl
        · have HT : Hid (WSt w0 w (B3.setCell ⟨b1, 4, none⟩ (.int .i64 (-1))) q w.heap.size b1 v zs _ ⟨n.kind, n.frm, n.dst, n.inc, (-1), n.rd, n.g, n.incs, n.vers, n.evs, n.outs⟩ vi vv ve vo) :=
            hide ((unhide HS).set 4 (by omega) _ _ _ _ _ _ rfl ⟨(unhide HS).ls.i, (unhide HS).ls.v, (unhide HS).ls.e, (unhide HS).ls.o⟩)
          clear HS
          go_wp2_with fail
          go_meet
          case rel => exact ⟨rfl, _, _, _, _, _, _, by omega, HT⟩
        · have HT : Hid (WSt w0 w (B3.setCell ⟨b1, 4, none⟩ (.int .i64 9999)) q w.heap.size b1 v zs _ ⟨n.kind, n.frm, n.dst, n.inc, 9999, n.rd, n.g, n.incs, n.vers, n.evs, n.outs⟩ vi vv ve vo) :=
            hide ((unhide HS).set 4 (by omega) _ _ _ _ _ _ rfl ⟨(unhide HS).ls.i, (unhide HS).ls.v, (unhide HS).ls.e, (unhide HS).ls.o⟩)
          clear HS
          go_wp2_with fail
          go_meet
          case rel => exact ⟨rfl, _, _, _, _, _, _, by omega, HT⟩
        · have HT : Hid (WSt w0 w (B3.setCell ⟨b1, 4, none⟩ (.int .i64 10000)) q w.heap.size b1 v zs _ ⟨n.kind, n.frm, n.dst, n.inc, 10000, n.rd, n.g, n.incs, n.vers, n.evs, n.outs⟩ vi vv ve vo) :=
            hide ((unhide HS).set 4 (by omega) _ _ _ _ _ _ rfl ⟨(unhide HS).ls.i, (unhide HS).ls.v, (unhide HS).ls.e, (unhide HS).ls.o⟩)
          clear HS
          go_wp2_with fail
          go_meet
          case rel => exact ⟨rfl, _, _, _, _, _, _, by omega, HT⟩
      · have d0 : (d == 0) = false := by simp; omega
        have d1 : (d == 1) = false := by simp; omega
        have d2 : (d == 2) = false := by simp; omega
        have d3 : (d == 3) = false := by simp; omega
        have d4 : (d == 4) = false := by simp; omega
        go_wp2_with fail
        go_meet
        case rel => exact ⟨rfl, _, _, _, _, _, _, by omega, HS⟩
    case rest =>
      obtain ⟨rfl, n2, ui, uv, ue, uo, p2, hp2', HT⟩ := hcut
      clear HS
      have hql := (unhide HT).ql
      have ho1 := (unhide HT).o1
      obtain ⟨⟨j0, k0, e1⟩, ⟨j1, k1, e2⟩, ⟨j2, k2, e3⟩, ⟨j3, k3, e4⟩⟩ := (unhide HT).ls.at.sliced
      subst e1 e2 e3 e4
      have m0 : wc.cell? ⟨b1, 0, none⟩ = some (.int .i64 n2.kind) := (unhide HT).row.cell (i := 0) (by simp)
      have m1 : wc.cell? ⟨b1, 1, none⟩ = some (.int .i64 n2.frm) := (unhide HT).row.cell (i := 1) (by simp)
      have m2 : wc.cell? ⟨b1, 2, none⟩ = some (.int .i64 n2.dst) := (unhide HT).row.cell (i := 2) (by simp)
      have m3 : wc.cell? ⟨b1, 3, none⟩ = some (.int .i64 n2.inc) := (unhide HT).row.cell (i := 3) (by simp)
      have m4 : wc.cell? ⟨b1, 4, none⟩ = some (.int .i64 n2.ver) := (unhide HT).row.cell (i := 4) (by simp)
      have m5 : wc.cell? ⟨b1, 5, none⟩ = some (.int .i64 n2.rd) := (unhide HT).row.cell (i := 5) (by simp)
      have m6 : wc.cell? ⟨b1, 6, none⟩ = some (.int .i64 n2.g) := (unhide HT).row.cell (i := 6) (by simp)
      have m7 : wc.cell? ⟨b1, 7, none⟩ = some ((.slice j0 n2.incs.length k0)) := (unhide HT).row.cell (i := 7) (by simp)
      have m8 : wc.cell? ⟨b1, 8, none⟩ = some ((.slice j1 n2.vers.length k1)) := (unhide HT).row.cell (i := 8) (by simp)
      have m9 : wc.cell? ⟨b1, 9, none⟩ = some ((.slice j2 n2.evs.length k2)) := (unhide HT).row.cell (i := 9) (by simp)
      have m10 : wc.cell? ⟨b1, 10, none⟩ = some ((.slice j3 n2.outs.length k3)) := (unhide HT).row.cell (i := 10) (by simp)
      have r0 : wc.cell? ⟨w.heap.size, 0, none⟩ = some (.int .i64 0) := (unhide HT).res.cell (i := 0) (by simp)
      have s0 : wc.frozen? ⟨w.heap.size, 0, none⟩ = false := (unhide HT).res.frozen 0
      have r1 : wc.cell? ⟨w.heap.size, 1, none⟩ = some (.int .i64 0) := (unhide HT).res.cell (i := 1) (by simp)
      have s1 : wc.frozen? ⟨w.heap.size, 1, none⟩ = false := (unhide HT).res.frozen 1
      have r2 : wc.cell? ⟨w.heap.size, 2, none⟩ = some (.int .i64 0) := (unhide HT).res.cell (i := 2) (by simp)
      have s2 : wc.frozen? ⟨w.heap.size, 2, none⟩ = false := (unhide HT).res.frozen 2
      have r3 : wc.cell? ⟨w.heap.size, 3, none⟩ = some (.int .i64 0) := (unhide HT).res.cell (i := 3) (by simp)
      have s3 : wc.frozen? ⟨w.heap.size, 3, none⟩ = false := (unhide HT).res.frozen 3
      have r4 : wc.cell? ⟨w.heap.size, 4, none⟩ = some (.int .i64 0) := (unhide HT).res.cell (i := 4) (by simp)
      have s4 : wc.frozen? ⟨w.heap.size, 4, none⟩ = false := (unhide HT).res.frozen 4
      have r5 : wc.cell? ⟨w.heap.size, 5, none⟩ = some (.int .i64 0) := (unhide HT).res.cell (i := 5) (by simp)
      have s5 : wc.frozen? ⟨w.heap.size, 5, none⟩ = false := (unhide HT).res.frozen 5
      have r6 : wc.cell? ⟨w.heap.size, 6, none⟩ = some (.int .i64 0) := (unhide HT).res.cell (i := 6) (by simp)
      have s6 : wc.frozen? ⟨w.heap.size, 6, none⟩ = false := (unhide HT).res.frozen 6
      have r7 : wc.cell? ⟨w.heap.size, 7, none⟩ = some (.slice none 0 0) := (unhide HT).res.cell (i := 7) (by simp)
      have s7 : wc.frozen? ⟨w.heap.size, 7, none⟩ = false := (unhide HT).res.frozen 7
      have r8 : wc.cell? ⟨w.heap.size, 8, none⟩ = some (.slice none 0 0) := (unhide HT).res.cell (i := 8) (by simp)
      have s8 : wc.frozen? ⟨w.heap.size, 8, none⟩ = false := (unhide HT).res.frozen 8
      have r9 : wc.cell? ⟨w.heap.size, 9, none⟩ = some (.slice none 0 0) := (unhide HT).res.cell (i := 9) (by simp)
      have s9 : wc.frozen? ⟨w.heap.size, 9, none⟩ = false := (unhide HT).res.frozen 9
      have r10 : wc.cell? ⟨w.heap.size, 10, none⟩ = some (.slice none 0 0) := (unhide HT).res.cell (i := 10) (by simp)
      have s10 : wc.frozen? ⟨w.heap.size, 10, none⟩ = false := (unhide HT).res.frozen 10
      have E1 := hide (WordFr.block (w' := setVals wc w.heap.size 0 (wordCells n2 (.slice j0 n2.incs.length k0) (.slice j1 n2.vers.length k1) (.slice j2 n2.evs.length k2) (.slice j3 n2.outs.length k3))) (fun g hg _ => setVals_other (wordCells n2 (.slice j0 n2.incs.length k0) (.slice j1 n2.vers.length k1) (.slice j2 n2.evs.length k2) (.slice j3 n2.outs.length k3)) 0 wc g (by omega)) (unhide HT).ls)
      have hE : WordFr w.heap.size (setVals wc w.heap.size 0 (wordCells n2 (.slice j0 n2.incs.length k0) (.slice j1 n2.vers.length k1) (.slice j2 n2.evs.length k2) (.slice j3 n2.outs.length k3))) n2 (.slice j0 n2.incs.length k0) (.slice j1 n2.vers.length k1) (.slice j2 n2.evs.length k2) (.slice j3 n2.outs.length k3) := ⟨(unhide E1).i.less (by omega), (unhide E1).v.less (by omega), (unhide E1).e.less (by omega), (unhide E1).o.less (by omega)⟩
      have E2 := hide hE
      have ER : Hid (Reader w0 (setVals wc w.heap.size 0 (wordCells n2 (.slice j0 n2.incs.length k0) (.slice j1 n2.vers.length k1) (.slice j2 n2.evs.length k2) (.slice j3 n2.outs.length k3))) q v zs p2) := hide (((((((((((((unhide HT).rd.setNew (by omega) _).setNew (by omega) _).setNew (by omega) _).setNew (by omega) _).setNew (by omega) _).setNew (by omega) _).setNew (by omega) _).setNew (by omega) _).setNew (by omega) _).setNew (by omega) _).setNew (by omega) _))
      have EO : Hid (OnlyB q w (setVals wc w.heap.size 0 (wordCells n2 (.slice j0 n2.incs.length k0) (.slice j1 n2.vers.length k1) (.slice j2 n2.evs.length k2) (.slice j3 n2.outs.length k3)))) := hide (((((((((((((unhide HT).on.setNew (by omega) (by omega) _).setNew (by omega) (by omega) _).setNew (by omega) (by omega) _).setNew (by omega) (by omega) _).setNew (by omega) (by omega) _).setNew (by omega) (by omega) _).setNew (by omega) (by omega) _).setNew (by omega) (by omega) _).setNew (by omega) (by omega) _).setNew (by omega) (by omega) _).setNew (by omega) (by omega) _))
      clear hE E1 HT
      go_wp2_with fail
      refine bodyPost_ret (v := wordAgg n2 (.slice j0 n2.incs.length k0) (.slice j1 n2.vers.length k1) (.slice j2 n2.evs.length k2) (.slice j3 n2.outs.length k3)) (by simp [results, Tryz.results12, go_sem, r0, r1, r2, r3, r4, r5, r6, r7, r8, r9, r10]) rfl ⟨n2, _, _, _, _, p2, rfl, by omega, unhide E2, unhide ER, unhide EO⟩
end Go.Proofs.YtiljjhipiinafaaGreat
