/- spec.l72Out: what is let out, drawn; what a word that is being drawn lies on. -/
import Derived.Test.YtiljjhipiinafaaGreatDrawEw
import Derived.Test.YtiljjhipiinafaaGreatSortOw
import Derived.Test.YtiljjhipiinafaaGreatWord1
import Derived.Deep.CutBlock
import Derived.Deep.CutRange
import Derived.Test.YtiljjhipiinafaaGreatWrF
import Derived.Test.YtiljjhipiinafaaGreatAppAny
import Derived.Test.YtiljjhipiinafaaGreatHeapC
import Derived.Deep.Cut
import Derived.Deep.RegionHeld3
import Derived.BigRegion
namespace Go.Proofs.YtiljjhipiinafaaGreat
open Go.RowKit
set_option linter.unusedVariables false
set_option linter.unusedSimpArgs false

theorem Reader.on {w0 w w' : World} {q : Nat} {v : Value} {zs : List Int} {p : Int} (h : Reader w0 w q v zs p) (hb : Below w.heap.size w w') : Reader w0 w' q v zs p :=
  ⟨h.bytes, h.few, h.q0, h.below.trans (hb.mono h.below.size), h.rd.on hb, h.p0⟩

abbrev zeroCells : List Value := [.int .i64 0, .int .i64 0, .int .i64 0, .int .i64 0, .int .i64 0, .int .i64 0, .int .i64 0, .slice none 0 0, .slice none 0 0, .slice none 0 0, .slice none 0 0]

/-- A word that is being drawn: the reader, the result's place, the word's own place, its lists behind it. -/
structure WSt (w0 w W : World) (q b0 b1 : Nat) (v : Value) (zs : List Int) (p : Int) (n : WordV) (vi vv ve vo : Value) : Prop where
  rd : Reader w0 W q v zs p
  on : OnlyB q w W
  res : W.rowIs b0 28 11 (fun i => zeroCells.getD i undef)
  row : W.rowIs b1 28 11 (fun i => (wordCells n vi vv ve vo).getD i undef)
  ls : WordFr (b1 + 1) W n vi vv ve vo
  ql : q < w.heap.size
  o0 : w.heap.size ≤ b0
  o1 : b0 < b1

theorem WordFr.block {N : Nat} {w w' : World} {n : WordV} {vi vv ve vo : Value} (hb : ∀ g, N ≤ g → g < w.heap.size → w'.heap[g]? = w.heap[g]?) (h : WordFr N w n vi vv ve vo) : WordFr N w' n vi vv ve vo :=
  ⟨h.i.block (fun g hg hl => hb g (h.i.blk g hg).1 hl), h.v.block (fun g hg hl => hb g (h.v.blk g hg).1 hl), h.e.block (fun g hg hl => hb g (h.e.blk g hg).1 hl), h.o.block (fun g hg hl => hb g (h.o.blk g hg).1 hl)⟩

theorem WSt.only {w0 w W W' : World} {q b0 b1 : Nat} {v : Value} {zs : List Int} {p p' : Int} {n : WordV} {vi vv ve vo : Value} (h : WSt w0 w W q b0 b1 v zs p n vi vv ve vo) (ho : OnlyB q W W') (hr : Reader w0 W' q v zs p') : WSt w0 w W' q b0 b1 v zs p' n vi vv ve vo :=
  have h1 := h.ql
  have h2 := h.o0
  have h3 := h.o1
  ⟨hr, h.on.trans ho, h.res.of_block (ho.other b0 (by omega) h.res.lt), h.row.of_block (ho.other b1 (by omega) h.row.lt), h.ls.block (fun g hg hl => ho.other g (by omega) hl), h.ql, h.o0, h.o1⟩

theorem WSt.then {w0 w W W' : World} {q b0 b1 : Nat} {v : Value} {zs : List Int} {p : Int} {n : WordV} {vi vv ve vo : Value} (h : WSt w0 w W q b0 b1 v zs p n vi vv ve vo) (hb : Below W.heap.size W W') : WSt w0 w W' q b0 b1 v zs p n vi vv ve vo :=
  have h1 := h.ql
  have h2 := h.on.size
  ⟨h.rd.on hb, h.on.then (by omega) hb, h.res.of_block (hb.block b0 h.res.lt), h.row.of_block (hb.block b1 h.row.lt), h.ls.block (fun g _ hl => hb.block g hl), h.ql, h.o0, h.o1⟩

theorem WSt.set {w0 w W : World} {q b0 b1 : Nat} {v : Value} {zs : List Int} {p : Int} {n : WordV} {vi vv ve vo : Value} (h : WSt w0 w W q b0 b1 v zs p n vi vv ve vo) (j : Nat) (hj : j < 11) (u : Value) (n2 : WordV) (vi2 vv2 ve2 vo2 : Value)
    (hc : (wordCells n vi vv ve vo).set j u = wordCells n2 vi2 vv2 ve2 vo2) (hl : WordFr (b1 + 1) W n2 vi2 vv2 ve2 vo2) : WSt w0 w (W.setCell ⟨b1, j, none⟩ u) q b0 b1 v zs p n2 vi2 vv2 ve2 vo2 :=
  have h1 := h.ql
  have h2 := h.o0
  have h3 := h.o1
  ⟨h.rd.setNew (by omega) u, h.on.setNew (by omega) (by omega) u, h.res.of_block (Below.heap_setCell W ⟨b1, j, none⟩ u b0 (show b0 ≠ b1 by omega)), by have e := rowL_set h.row j hj u; rw [hc] at e; exact e,
    hl.block (fun g hg _ => Below.heap_setCell W ⟨b1, j, none⟩ u g (show g ≠ b1 by omega)), h.ql, h.o0, h.o1⟩

theorem flatCells_ones : ∀ l : List Int, flatCells (l.map fun z => [z]) = (l.map fun z => Value.int .i64 z)
  | [] => rfl
  | a :: t => by
    have ih := flatCells_ones t
    simp only [flatCells, List.map_cons, List.flatMap_cons, List.map_nil, List.cons_append, List.nil_append] at ih ⊢
    rw [ih]

/-- A list that was written out just now. -/
theorem numsNew (w : World) (N : Nat) (l : List Int) (hN : N ≤ w.heap.size) (hl : l.length ≤ 100) : RowsFr N 3 1 (w.alloc (.cells (l.map fun z => Value.int .i64 z).toArray 3)) (.slice (some ⟨w.heap.size, 0, none⟩) l.length l.length) (l.map fun z => [z]) := by
  refine RowsFr.of_owns (fun r hr => ?_) ?_
  · obtain ⟨z, _, rfl⟩ := List.mem_map.1 hr
    rfl
  · have e := World.ownsRow_lit (base := N) (e := 3) (size := 1) w (l.map fun z => Value.int .i64 z).toArray l.length hN (by unfold maxLen; omega) (by simp)
    rw [List.length_map]
    rw [flatCells_ones]
    simpa using e

theorem outsNew (w : World) (N : Nat) (x y : OutV) (hN : N ≤ w.heap.size) : RowsFr N 60 5 (w.alloc (.cells #[.int .i64 x.time, .int .i64 x.proc, .int .i64 x.count, .int .i64 x.n, .int .i64 x.value, .int .i64 y.time, .int .i64 y.proc, .int .i64 y.count, .int .i64 y.n, .int .i64 y.value] 60)) (.slice (some ⟨w.heap.size, 0, none⟩) 2 2) ([x, y].map outRow) := by
  refine RowsFr.of_owns (fun r hr => outRow_len [x, y] r hr) ?_
  exact World.ownsRow_lit (base := N) (e := 60) (size := 5) w #[.int .i64 x.time, .int .i64 x.proc, .int .i64 x.count, .int .i64 x.n, .int .i64 x.value, .int .i64 y.time, .int .i64 y.proc, .int .i64 y.count, .int .i64 y.n, .int .i64 y.value] 2 hN (by unfold maxLen; omega) rfl

set_option maxRecDepth 100000 in
set_option maxHeartbeats 2000000 in
theorem l72Out_any (w0 w : World) (q : Nat) (v : Value) (zs : List Int) (p : Int) (h : Reader w0 w q v zs p) (hp2 : p ≤ 90000) :
    Calls Tryz.prog 50 #[.pointer (some ⟨q, 0, none⟩)] w fun e w' => ∃ (x : OutV) (p' : Int), e = .returned (outAgg x) ∧ p' ≤ p + 5 ∧ Reader w0 w' q v zs p' ∧ OnlyB q w w' := by
  have hq : q < w.heap.size := World.block_lt_of_cell? w ⟨q, 0, none⟩ h.rd.c0
  have hp0 := h.p0
  have HZ := hide (row_new w [.int .i64 0, .int .i64 0, .int .i64 0, .int .i64 0, .int .i64 0] 60)
  have H1 := hide (h.alloc (.cells #[.int .i64 0, .int .i64 0, .int .i64 0, .int .i64 0, .int .i64 0] 60))
  have HO1 := hide (OnlyB.alloc (q := q) w (.cells #[.int .i64 0, .int .i64 0, .int .i64 0, .int .i64 0, .int .i64 0] 60) (by omega))
  clear h
  go_enter Tryz.func50, Tryz.ntmps50
  go_wp2_with fail
  change Hid (World.rowIs (w.alloc (.cells #[.int .i64 0, .int .i64 0, .int .i64 0, .int .i64 0, .int .i64 0] 60)) _ _ _ _) at HZ
  generalize w.alloc (.cells #[.int .i64 0, .int .i64 0, .int .i64 0, .int .i64 0, .int .i64 0] 60) = W1 at *
  refine (pick_any w0 _ q v zs _ 6 (unhide H1) (by omega) (by omega) (by omega)).mono ?_
  rintro e W2 ⟨x0, rfl, hx0, hy0, hr, ho⟩
  have H2 := hide hr
  have HO2 := hide ((unhide HO1).trans ho)
  replace HZ := hide ((unhide HZ).of_block (ho.other w.heap.size (by omega) (unhide HZ).lt))
  clear hr ho H1 HO1
  go_wp2_with fail
  refine (pick_any w0 _ q v zs _ 4 (unhide H2) (by omega) (by omega) (by omega)).mono ?_
  rintro e W3 ⟨x1, rfl, hx1, hy1, hr, ho⟩
  have H3 := hide hr
  have HO3 := hide ((unhide HO2).trans ho)
  replace HZ := hide ((unhide HZ).of_block (ho.other w.heap.size (by omega) (unhide HZ).lt))
  clear hr ho H2 HO2
  go_wp2_with fail
  refine (pick_any w0 _ q v zs _ 3 (unhide H3) (by omega) (by omega) (by omega)).mono ?_
  rintro e W4 ⟨x2, rfl, hx2, hy2, hr, ho⟩
  have H4 := hide hr
  have HO4 := hide ((unhide HO3).trans ho)
  replace HZ := hide ((unhide HZ).of_block (ho.other w.heap.size (by omega) (unhide HZ).lt))
  clear hr ho H3 HO3
  go_wp2_with fail
  refine (pick_any w0 _ q v zs _ 2 (unhide H4) (by omega) (by omega) (by omega)).mono ?_
  rintro e W5 ⟨x3, rfl, hx3, hy3, hr, ho⟩
  have H5 := hide hr
  have HO5 := hide ((unhide HO4).trans ho)
  replace HZ := hide ((unhide HZ).of_block (ho.other w.heap.size (by omega) (unhide HZ).lt))
  clear hr ho H4 HO4
  go_wp2_with fail
  refine (pick_any w0 _ q v zs _ 4 (unhide H5) (by omega) (by omega) (by omega)).mono ?_
  rintro e W6 ⟨x4, rfl, hx4, hy4, hr, ho⟩
  have H6 := hide hr
  have HO6 := hide ((unhide HO5).trans ho)
  replace HZ := hide ((unhide HZ).of_block (ho.other w.heap.size (by omega) (unhide HZ).lt))
  clear hr ho H5 HO5
  have z0 : W6.cell? ⟨w.heap.size, 0, none⟩ = some (.int .i64 0) := (unhide HZ).cell (i := 0) (by simp)
  have f0 : W6.frozen? ⟨w.heap.size, 0, none⟩ = false := (unhide HZ).frozen 0
  have z1 : W6.cell? ⟨w.heap.size, 1, none⟩ = some (.int .i64 0) := (unhide HZ).cell (i := 1) (by simp)
  have f1 : W6.frozen? ⟨w.heap.size, 1, none⟩ = false := (unhide HZ).frozen 1
  have z2 : W6.cell? ⟨w.heap.size, 2, none⟩ = some (.int .i64 0) := (unhide HZ).cell (i := 2) (by simp)
  have f2 : W6.frozen? ⟨w.heap.size, 2, none⟩ = false := (unhide HZ).frozen 2
  have z3 : W6.cell? ⟨w.heap.size, 3, none⟩ = some (.int .i64 0) := (unhide HZ).cell (i := 3) (by simp)
  have f3 : W6.frozen? ⟨w.heap.size, 3, none⟩ = false := (unhide HZ).frozen 3
  have z4 : W6.cell? ⟨w.heap.size, 4, none⟩ = some (.int .i64 0) := (unhide HZ).cell (i := 4) (by simp)
  have f4 : W6.frozen? ⟨w.heap.size, 4, none⟩ = false := (unhide HZ).frozen 4
  clear HZ
  go_wp2_with fail
  refine bodyPost_ret (v := outAgg ⟨x0, x1, x2, x3, x4⟩) (by simp [results, Tryz.results50, go_sem, z0, z1, z2, z3, z4]) rfl ⟨⟨x0, x1, x2, x3, x4⟩, _, rfl, by omega, ((((((unhide H6).setNew (by omega) _).setNew (by omega) _).setNew (by omega) _).setNew (by omega) _).setNew (by omega) _), ((((((unhide HO6).setNew (by omega) (by omega) _).setNew (by omega) (by omega) _).setNew (by omega) (by omega) _).setNew (by omega) (by omega) _).setNew (by omega) (by omega) _)⟩
end Go.Proofs.YtiljjhipiinafaaGreat

/- spec.l72Word: a word that is drawn. -/
namespace Go.Proofs.YtiljjhipiinafaaGreat
open Go.RowKit
set_option linter.unusedVariables false
set_option linter.unusedSimpArgs false

set_option maxRecDepth 100000 in
set_option maxHeartbeats 8000000 in
theorem l72Word_any (w0 w : World) (q : Nat) (v : Value) (zs : List Int) (p : Int) (h : Reader w0 w q v zs p) (hp2 : p ≤ 5000) :
    Calls Tryz.prog 12 #[.pointer (some ⟨q, 0, none⟩)] w fun e w' => ∃ (n : WordV) (vi vv ve vo : Value) (p' : Int), e = .returned (wordAgg n vi vv ve vo) ∧ p' ≤ p + 2000 ∧ WordFr w.heap.size w' n vi vv ve vo ∧ Reader w0 w' q v zs p' ∧ OnlyB q w w' := by
  have hq : q < w.heap.size := World.block_lt_of_cell? w ⟨q, 0, none⟩ h.rd.c0
  have hp0 := h.p0
  have HZ := hide (row_new w [.int .i64 0, .int .i64 0, .int .i64 0, .int .i64 0, .int .i64 0, .int .i64 0, .int .i64 0, .slice none 0 0, .slice none 0 0, .slice none 0 0, .slice none 0 0] 28)
  have H1 := hide (h.alloc (.cells #[.int .i64 0, .int .i64 0, .int .i64 0, .int .i64 0, .int .i64 0, .int .i64 0, .int .i64 0, .slice none 0 0, .slice none 0 0, .slice none 0 0, .slice none 0 0] 28))
  have HO1 := hide (OnlyB.alloc (q := q) w (.cells #[.int .i64 0, .int .i64 0, .int .i64 0, .int .i64 0, .int .i64 0, .int .i64 0, .int .i64 0, .slice none 0 0, .slice none 0 0, .slice none 0 0, .slice none 0 0] 28) (by omega))
  clear h
  go_enter Tryz.func12, Tryz.ntmps12
  go_wp2_with fail
  change Hid (World.rowIs (w.alloc (.cells #[.int .i64 0, .int .i64 0, .int .i64 0, .int .i64 0, .int .i64 0, .int .i64 0, .int .i64 0, .slice none 0 0, .slice none 0 0, .slice none 0 0, .slice none 0 0] 28)) _ _ _ _) at HZ
  generalize w.alloc (.cells #[.int .i64 0, .int .i64 0, .int .i64 0, .int .i64 0, .int .i64 0, .int .i64 0, .int .i64 0, .slice none 0 0, .slice none 0 0, .slice none 0 0, .slice none 0 0] 28) = W1 at *
  refine (pick_any w0 _ q v zs _ 7 (unhide H1) (by omega) (by omega) (by omega)).mono ?_
  rintro e W2 ⟨x0, rfl, hx0, hy0, hr, ho⟩
  have H2 := hide hr
  have HO2 := hide ((unhide HO1).trans ho)
  replace HZ := hide ((unhide HZ).of_block (ho.other w.heap.size (by omega) (unhide HZ).lt))
  clear hr ho H1 HO1
  go_wp2_with fail
  refine (pick_any w0 _ q v zs _ 3 (unhide H2) (by omega) (by omega) (by omega)).mono ?_
  rintro e W3 ⟨x1, rfl, hx1, hy1, hr, ho⟩
  have H3 := hide hr
  have HO3 := hide ((unhide HO2).trans ho)
  replace HZ := hide ((unhide HZ).of_block (ho.other w.heap.size (by omega) (unhide HZ).lt))
  clear hr ho H2 HO2
  go_wp2_with fail
  refine (pick_any w0 _ q v zs _ 3 (unhide H3) (by omega) (by omega) (by omega)).mono ?_
  rintro e W4 ⟨x2, rfl, hx2, hy2, hr, ho⟩
  have H4 := hide hr
  have HO4 := hide ((unhide HO3).trans ho)
  replace HZ := hide ((unhide HZ).of_block (ho.other w.heap.size (by omega) (unhide HZ).lt))
  clear hr ho H3 HO3
  go_wp2_with fail
  refine (pick_any w0 _ q v zs _ 3 (unhide H4) (by omega) (by omega) (by omega)).mono ?_
  rintro e W5 ⟨x3, rfl, hx3, hy3, hr, ho⟩
  have H5 := hide hr
  have HO5 := hide ((unhide HO4).trans ho)
  replace HZ := hide ((unhide HZ).of_block (ho.other w.heap.size (by omega) (unhide HZ).lt))
  clear hr ho H4 HO4
  go_wp2_with fail
  refine (pick_any w0 _ q v zs _ 6 (unhide H5) (by omega) (by omega) (by omega)).mono ?_
  rintro e W6 ⟨x4, rfl, hx4, hy4, hr, ho⟩
  have H6 := hide hr
  have HO6 := hide ((unhide HO5).trans ho)
  replace HZ := hide ((unhide HZ).of_block (ho.other w.heap.size (by omega) (unhide HZ).lt))
  clear hr ho H5 HO5
  go_wp2_with fail
  refine (pick_any w0 _ q v zs _ 3 (unhide H6) (by omega) (by omega) (by omega)).mono ?_
  rintro e W7 ⟨x5, rfl, hx5, hy5, hr, ho⟩
  have H7 := hide hr
  have HO7 := hide ((unhide HO6).trans ho)
  replace HZ := hide ((unhide HZ).of_block (ho.other w.heap.size (by omega) (unhide HZ).lt))
  clear hr ho H6 HO6
  go_wp2_with fail
  refine (pick_any w0 _ q v zs _ 12 (unhide H7) (by omega) (by omega) (by omega)).mono ?_
  rintro e W8 ⟨x6, rfl, hx6, hy6, hr, ho⟩
  have H8 := hide hr
  have HO8 := hide ((unhide HO7).trans ho)
  replace HZ := hide ((unhide HZ).of_block (ho.other w.heap.size (by omega) (unhide HZ).lt))
  clear hr ho H7 HO7
  go_wp2_with fail
  have HS : Hid (WSt w0 w (W8.alloc (.cells #[.int .i64 (1 + x0), .int .i64 x1, .int .i64 x2, .int .i64 (1 + x3), .int .i64 x4, .int .i64 (1 + x5), .int .i64 x6, .slice none 0 0, .slice none 0 0, .slice none 0 0, .slice none 0 0] 28)) q w.heap.size W8.heap.size v zs (p + 1 + 1 + 1 + 1 + 1 + 1 + 1) ⟨1 + x0, x1, x2, 1 + x3, x4, 1 + x5, x6, [], [], [], []⟩ (.slice none 0 0) (.slice none 0 0) (.slice none 0 0) (.slice none 0 0)) :=
    hide ⟨(unhide H8).alloc _, (unhide HO8).trans (OnlyB.alloc W8 _ (by have := (unhide HO8).size; omega)), (unhide HZ).alloc _, row_new W8 [.int .i64 (1 + x0), .int .i64 x1, .int .i64 x2, .int .i64 (1 + x3), .int .i64 x4, .int .i64 (1 + x5), .int .i64 x6, .slice none 0 0, .slice none 0 0, .slice none 0 0, .slice none 0 0] 28, ⟨Or.inl ⟨rfl, rfl⟩, Or.inl ⟨rfl, rfl⟩, Or.inl ⟨rfl, rfl⟩, Or.inl ⟨rfl, rfl⟩⟩, hq, Nat.le_refl _, (unhide HZ).lt⟩
  have hb1 : w.heap.size < W8.heap.size := (unhide HZ).lt
  clear H8 HO8 HZ
  generalize (W8.alloc (.cells #[.int .i64 (1 + x0), .int .i64 x1, .int .i64 x2, .int .i64 (1 + x3), .int .i64 x4, .int .i64 (1 + x5), .int .i64 x6, .slice none 0 0, .slice none 0 0, .slice none 0 0, .slice none 0 0] 28)) = A at *
  generalize W8.heap.size = b1 at *
  refine (pick_any w0 _ q v zs _ 5 (unhide HS).rd (by omega) (by omega) (by omega)).mono ?_
  rintro e A1 ⟨c, rfl, hc0, hc1, hr, ho⟩
  replace HS := hide ((unhide HS).only ho hr)
  clear hr ho
  go_upto_block 0 with fail
  go_cut [3] from 24 (fun t wx => t = .pointer (some ⟨b1, 0, none⟩) ∧ ∃ (n : WordV) (vi vv ve vo : Value) (p' : Int), p' ≤ p + 1000 ∧ Hid (WSt w0 w wx q w.heap.size b1 v zs p' n vi vv ve vo))
  case first =>
    rcases (show c = 0 ∨ c = 1 ∨ c = 2 ∨ 3 ≤ c by omega) with rfl | rfl | rfl | h3
    · skip
      go_wp2_with fail
      refine (pick_any w0 _ q v zs _ 2 (unhide HS).rd (by omega) (by omega) (by omega)).mono ?_
      rintro e A2 ⟨y0, rfl, hy0, hy1, hr, ho⟩
      replace HS := hide ((unhide HS).only ho hr)
      clear hr ho
      have g := (unhide HS).row.cell (i := 7) (by simp)
      simp only [wordCells] at g
      have z := (unhide HS).row.frozen 7
      have hlt := (unhide HS).row.lt
      have hne : ¬ b1 = A2.heap.size := by omega
      have HN := hide (numsNew A2 (b1 + 1) [y0, 1, 1] (by omega) (by simp))
      have hbA : Below A2.heap.size A2 (A2.alloc (.cells #[.int .i64 y0, .int .i64 1, .int .i64 1] 3)) := (Below.refl _ _).alloc (Nat.le_refl _) _
      have HT : Hid (WSt w0 w ((A2.alloc (.cells #[.int .i64 y0, .int .i64 1, .int .i64 1] 3)).setCell ⟨b1, 7, none⟩ (.slice (some ⟨A2.heap.size, 0, none⟩) 3 3)) q w.heap.size b1 v zs _ ⟨1 + x0, x1, x2, 1 + x3, x4, 1 + x5, x6, [y0, 1, 1], [], [], []⟩ (.slice (some ⟨A2.heap.size, 0, none⟩) 3 3) (.slice none 0 0) (.slice none 0 0) (.slice none 0 0)) :=
        hide (((unhide HS).then hbA).set 7 (by omega) _ _ _ _ _ _ rfl ⟨unhide HN, ((unhide HS).then hbA).ls.v, ((unhide HS).then hbA).ls.e, ((unhide HS).then hbA).ls.o⟩)
      rw [World.setCell_alloc_past _ _ _ _ hlt] at HT
      clear HS HN hbA
      go_wp2_with fail
      clear g z hlt hne
      generalize ((A2.setCell ⟨b1, 7, none⟩ (.slice (some ⟨A2.heap.size, 0, none⟩) 3 3)).alloc (.cells #[.int .i64 y0, .int .i64 1, .int .i64 1] 3)) = A3 at *
      generalize A2.heap.size = r2 at *
      refine (pick_any w0 _ q v zs _ 3 (unhide HT).rd (by omega) (by omega) (by omega)).mono ?_
      rintro e A4 ⟨y2, rfl, hy2, hy3, hr, ho⟩
      have HS := hide ((unhide HT).only ho hr)
      clear hr ho HT
      have g := (unhide HS).row.cell (i := 8) (by simp)
      simp only [wordCells] at g
      have z := (unhide HS).row.frozen 8
      have hlt := (unhide HS).row.lt
      have hne : ¬ b1 = A4.heap.size := by omega
      have HN := hide (numsNew A4 (b1 + 1) [1, y2, 1] (by omega) (by simp))
      have hbA : Below A4.heap.size A4 (A4.alloc (.cells #[.int .i64 1, .int .i64 y2, .int .i64 1] 3)) := (Below.refl _ _).alloc (Nat.le_refl _) _
      have HT : Hid (WSt w0 w ((A4.alloc (.cells #[.int .i64 1, .int .i64 y2, .int .i64 1] 3)).setCell ⟨b1, 8, none⟩ (.slice (some ⟨A4.heap.size, 0, none⟩) 3 3)) q w.heap.size b1 v zs _ ⟨1 + x0, x1, x2, 1 + x3, x4, 1 + x5, x6, [y0, 1, 1], [1, y2, 1], [], []⟩ (.slice (some ⟨r2, 0, none⟩) 3 3) (.slice (some ⟨A4.heap.size, 0, none⟩) 3 3) (.slice none 0 0) (.slice none 0 0)) :=
        hide (((unhide HS).then hbA).set 8 (by omega) _ _ _ _ _ _ rfl ⟨((unhide HS).then hbA).ls.i, unhide HN, ((unhide HS).then hbA).ls.e, ((unhide HS).then hbA).ls.o⟩)
      rw [World.setCell_alloc_past _ _ _ _ hlt] at HT
      clear HS HN hbA
      go_wp2_with fail
      go_meet
      case rel => exact ⟨rfl, _, _, _, _, _, _, by omega, HT⟩
    · skip
      go_wp2_with fail
      refine (E.l72Events_any w0 _ q v zs _ (unhide HS).rd (by omega) 4 (by omega) (by omega)).mono ?_
      rintro e A2 ⟨vl, es, p9, rfl, hlen, hp9, hr, hrows, ho⟩
      replace HS := hide ((unhide HS).only ho hr)
      clear hr ho
      go_wp2_with fail
      refine (E.specEventSort_any evLess_strict vl es _ hrows.at (by omega)).mono ?_
      rintro e A3 ⟨vr, ys, rfl, _, _, hrs, hb⟩
      have hlt2 := (unhide HS).row.lt
      replace HS := hide ((unhide HS).then hb)
      obtain ⟨a, cc, hvr⟩ := rowsLen hrs.at
      subst hvr
      have g := (unhide HS).row.cell (i := 9) (by simp)
      simp only [wordCells] at g
      have z := (unhide HS).row.frozen 9
      have hlt := (unhide HS).row.lt
      have hne : ¬ b1 = A3.heap.size := by omega
      have HT : Hid (WSt w0 w (A3.setCell ⟨b1, 9, none⟩ (.slice a ys.length cc)) q w.heap.size b1 v zs _ ⟨1 + x0, x1, x2, 1 + x3, x4, 1 + x5, x6, [], [], ys, []⟩ (.slice none 0 0) (.slice none 0 0) (.slice a ys.length cc) (.slice none 0 0)) :=
        hide ((unhide HS).set 9 (by omega) _ _ _ _ _ _ rfl ⟨(unhide HS).ls.i, (unhide HS).ls.v, hrs.less (by omega), (unhide HS).ls.o⟩)
      clear HS hrs hrows hb
      go_wp2_with fail
      go_meet
      case rel => exact ⟨rfl, _, _, _, _, _, _, by omega, HT⟩
    · skip
      go_wp2_with fail
      refine (l72Out_any w0 _ q v zs _ (unhide HS).rd (by omega)).mono ?_
      rintro e A2 ⟨y1, p8, rfl, hp8, hr, ho⟩
      replace HS := hide ((unhide HS).only ho hr)
      clear hr ho
      go_wp2_with fail
      refine (l72Out_any w0 _ q v zs _ (unhide HS).rd (by omega)).mono ?_
      rintro e A3 ⟨y2, p9, rfl, hp9, hr, ho⟩
      replace HS := hide ((unhide HS).only ho hr)
      clear hr ho
      have hlt3 := (unhide HS).row.lt
      have HN := hide (outsNew A3 (b1 + 1) y1 y2 (by omega))
      replace HS : Hid (WSt w0 w (A3.alloc (.cells #[.int .i64 y1.time, .int .i64 y1.proc, .int .i64 y1.count, .int .i64 y1.n, .int .i64 y1.value, .int .i64 y2.time, .int .i64 y2.proc, .int .i64 y2.count, .int .i64 y2.n, .int .i64 y2.value] 60)) q w.heap.size b1 v zs p9 ⟨1 + x0, x1, x2, 1 + x3, x4, 1 + x5, x6, [], [], [], []⟩ (.slice none 0 0) (.slice none 0 0) (.slice none 0 0) (.slice none 0 0)) := hide ((unhide HS).then ((Below.refl _ _).alloc (Nat.le_refl _) _))
      go_wp2_with fail
      generalize (A3.alloc (.cells #[.int .i64 y1.time, .int .i64 y1.proc, .int .i64 y1.count, .int .i64 y1.n, .int .i64 y1.value, .int .i64 y2.time, .int .i64 y2.proc, .int .i64 y2.count, .int .i64 y2.n, .int .i64 y2.value] 60)) = A4 at *
      refine (specOutSort_any outLess_strict _ [y1, y2] _ (unhide HN).at (by simp)).mono ?_
      rintro e A5 ⟨vr, ys, rfl, _, _, hrs, hb⟩
      have hlt2 := (unhide HS).row.lt
      replace HS := hide ((unhide HS).then hb)
      obtain ⟨a, cc, hvr⟩ := rowsLen hrs.at
      subst hvr
      have g := (unhide HS).row.cell (i := 10) (by simp)
      simp only [wordCells] at g
      have z := (unhide HS).row.frozen 10
      have hlt := (unhide HS).row.lt
      have hne : ¬ b1 = A5.heap.size := by omega
      have HT : Hid (WSt w0 w (A5.setCell ⟨b1, 10, none⟩ (.slice a ys.length cc)) q w.heap.size b1 v zs _ ⟨1 + x0, x1, x2, 1 + x3, x4, 1 + x5, x6, [], [], [], ys⟩ (.slice none 0 0) (.slice none 0 0) (.slice none 0 0) (.slice a ys.length cc)) :=
        hide ((unhide HS).set 10 (by omega) _ _ _ _ _ _ rfl ⟨(unhide HS).ls.i, (unhide HS).ls.v, (unhide HS).ls.e, hrs.less (by omega)⟩)
      clear HS hrs hb
      go_wp2_with fail
      go_meet
      case rel => exact ⟨rfl, _, _, _, _, _, _, by omega, HT⟩
    · have d0 : (c == 0) = false := by simp; omega
      have d1 : (c == 1) = false := by simp; omega
      have d2 : (c == 2) = false := by simp; omega
      go_wp2_with fail
      go_meet
      case rel => exact ⟨rfl, _, _, _, _, _, _, by omega, HS⟩
  case rest =>
    obtain ⟨rfl, n, vi, vv, ve, vo, p1, hp1, HT⟩ := hcut
    clear HS
    have HS := HT
    clear HT
    have hp10 := (unhide HS).rd.p0
    go_wp2_with fail
    refine (pick_any w0 _ q v zs _ 20 (unhide HS).rd (by omega) (by omega) (by omega)).mono ?_
    rintro e B1 ⟨d, rfl, hd0, hd1, hr, ho⟩
    replace HS := hide ((unhide HS).only ho hr)
    clear hr ho
    go_upto_block 1 with fail
    go_cut [3] from 51 (fun t wx => t = .pointer (some ⟨b1, 0, none⟩) ∧ ∃ (n : WordV) (vi vv ve vo : Value) (p' : Int), p' ≤ p + 1100 ∧ Hid (WSt w0 w wx q w.heap.size b1 v zs p' n vi vv ve vo))
    case first =>
      rcases (show d = 0 ∨ d = 1 ∨ d = 2 ∨ d = 3 ∨ d = 4 ∨ 5 ≤ d by omega) with rfl | rfl | rfl | rfl | rfl | h5
      · skip
        go_wp2_with fail
        have HB : Hid (WSt w0 w (B1.alloc (.cells #[.int .i64 0, .int .i64 8] 3)) q w.heap.size b1 v zs _ n vi vv ve vo) := hide ((unhide HS).then ((Below.refl _ _).alloc (Nat.le_refl _) _))
        have f0 : (B1.alloc (.cells #[.int .i64 0, .int .i64 8] 3)).cell? ⟨B1.heap.size, 0, none⟩ = some (.int .i64 0) := by simp [go_sem]
        have f1 : (B1.alloc (.cells #[.int .i64 0, .int .i64 8] 3)).cell? ⟨B1.heap.size, 1, none⟩ = some (.int .i64 8) := by simp [go_sem]
        have hqb : ¬ B1.heap.size = q := by have := (unhide HS).row.lt; have := (unhide HS).ql; omega
        have hrb : ¬ B1.heap.size = b1 := by have := (unhide HS).row.lt; omega
        clear HS
        generalize (B1.alloc (.cells #[.int .i64 0, .int .i64 8] 3)) = B2 at *
        generalize B1.heap.size = r4 at *
        refine (pick_any w0 _ q v zs _ 2 (unhide HB).rd (by omega) (by omega) (by omega)).mono ?_
        rintro e B3 ⟨y, rfl, hy0, hy1, hr, ho⟩
        have HS := hide ((unhide HB).only ho hr)
        replace f0 := ho.cell hqb f0
        replace f1 := ho.cell hqb f1
        clear hr ho HB
        have g := (unhide HS).row.cell (i := 0) (by simp)
        simp only [wordCells] at g
        have z := (unhide HS).row.frozen 0
        have hlt := (unhide HS).row.lt
        rcases (show y = 0 ∨ y = 1 by omega) with rfl | rfl
        · have HT : Hid (WSt w0 w (B3.setCell ⟨b1, 0, none⟩ (.int .i64 0)) q w.heap.size b1 v zs _ ⟨0, n.frm, n.dst, n.inc, n.ver, n.rd, n.g, n.incs, n.vers, n.evs, n.outs⟩ vi vv ve vo) :=
            hide ((unhide HS).set 0 (by omega) _ _ _ _ _ _ rfl ⟨(unhide HS).ls.i, (unhide HS).ls.v, (unhide HS).ls.e, (unhide HS).ls.o⟩)
          clear HS
          go_wp2_with fail
          go_meet
          case rel => exact ⟨rfl, _, _, _, _, _, _, by omega, HT⟩
        · have HT : Hid (WSt w0 w (B3.setCell ⟨b1, 0, none⟩ (.int .i64 8)) q w.heap.size b1 v zs _ ⟨8, n.frm, n.dst, n.inc, n.ver, n.rd, n.g, n.incs, n.vers, n.evs, n.outs⟩ vi vv ve vo) :=
            hide ((unhide HS).set 0 (by omega) _ _ _ _ _ _ rfl ⟨(unhide HS).ls.i, (unhide HS).ls.v, (unhide HS).ls.e, (unhide HS).ls.o⟩)
          clear HS
          go_wp2_with fail
          go_meet
          case rel => exact ⟨rfl, _, _, _, _, _, _, by omega, HT⟩
      · skip
        go_wp2_with fail
        have HB : Hid (WSt w0 w (B1.alloc (.cells #[.int .i64 (-1), .int .i64 3] 3)) q w.heap.size b1 v zs _ n vi vv ve vo) := hide ((unhide HS).then ((Below.refl _ _).alloc (Nat.le_refl _) _))
        have f0 : (B1.alloc (.cells #[.int .i64 (-1), .int .i64 3] 3)).cell? ⟨B1.heap.size, 0, none⟩ = some (.int .i64 (-1)) := by simp [go_sem]
        have f1 : (B1.alloc (.cells #[.int .i64 (-1), .int .i64 3] 3)).cell? ⟨B1.heap.size, 1, none⟩ = some (.int .i64 3) := by simp [go_sem]
        have hqb : ¬ B1.heap.size = q := by have := (unhide HS).row.lt; have := (unhide HS).ql; omega
        have hrb : ¬ B1.heap.size = b1 := by have := (unhide HS).row.lt; omega
        clear HS
        generalize (B1.alloc (.cells #[.int .i64 (-1), .int .i64 3] 3)) = B2 at *
        generalize B1.heap.size = r4 at *
        refine (pick_any w0 _ q v zs _ 2 (unhide HB).rd (by omega) (by omega) (by omega)).mono ?_
        rintro e B3 ⟨y, rfl, hy0, hy1, hr, ho⟩
        have HS := hide ((unhide HB).only ho hr)
        replace f0 := ho.cell hqb f0
        replace f1 := ho.cell hqb f1
        clear hr ho HB
        have g := (unhide HS).row.cell (i := 1) (by simp)
        simp only [wordCells] at g
        have z := (unhide HS).row.frozen 1
        have hlt := (unhide HS).row.lt
        rcases (show y = 0 ∨ y = 1 by omega) with rfl | rfl
        · have HT : Hid (WSt w0 w (B3.setCell ⟨b1, 1, none⟩ (.int .i64 (-1))) q w.heap.size b1 v zs _ ⟨n.kind, (-1), n.dst, n.inc, n.ver, n.rd, n.g, n.incs, n.vers, n.evs, n.outs⟩ vi vv ve vo) :=
            hide ((unhide HS).set 1 (by omega) _ _ _ _ _ _ rfl ⟨(unhide HS).ls.i, (unhide HS).ls.v, (unhide HS).ls.e, (unhide HS).ls.o⟩)
          clear HS
          go_wp2_with fail
          go_meet
          case rel => exact ⟨rfl, _, _, _, _, _, _, by omega, HT⟩
        · have HT : Hid (WSt w0 w (B3.setCell ⟨b1, 1, none⟩ (.int .i64 3)) q w.heap.size b1 v zs _ ⟨n.kind, 3, n.dst, n.inc, n.ver, n.rd, n.g, n.incs, n.vers, n.evs, n.outs⟩ vi vv ve vo) :=
            hide ((unhide HS).set 1 (by omega) _ _ _ _ _ _ rfl ⟨(unhide HS).ls.i, (unhide HS).ls.v, (unhide HS).ls.e, (unhide HS).ls.o⟩)
          clear HS
          go_wp2_with fail
          go_meet
          case rel => exact ⟨rfl, _, _, _, _, _, _, by omega, HT⟩
      · skip
        go_wp2_with fail
        have HB : Hid (WSt w0 w (B1.alloc (.cells #[.int .i64 (-1), .int .i64 41, .int .i64 42] 3)) q w.heap.size b1 v zs _ n vi vv ve vo) := hide ((unhide HS).then ((Below.refl _ _).alloc (Nat.le_refl _) _))
        have f0 : (B1.alloc (.cells #[.int .i64 (-1), .int .i64 41, .int .i64 42] 3)).cell? ⟨B1.heap.size, 0, none⟩ = some (.int .i64 (-1)) := by simp [go_sem]
        have f1 : (B1.alloc (.cells #[.int .i64 (-1), .int .i64 41, .int .i64 42] 3)).cell? ⟨B1.heap.size, 1, none⟩ = some (.int .i64 41) := by simp [go_sem]
        have f2 : (B1.alloc (.cells #[.int .i64 (-1), .int .i64 41, .int .i64 42] 3)).cell? ⟨B1.heap.size, 2, none⟩ = some (.int .i64 42) := by simp [go_sem]
        have hqb : ¬ B1.heap.size = q := by have := (unhide HS).row.lt; have := (unhide HS).ql; omega
        have hrb : ¬ B1.heap.size = b1 := by have := (unhide HS).row.lt; omega
        clear HS
        generalize (B1.alloc (.cells #[.int .i64 (-1), .int .i64 41, .int .i64 42] 3)) = B2 at *
        generalize B1.heap.size = r4 at *
        refine (pick_any w0 _ q v zs _ 3 (unhide HB).rd (by omega) (by omega) (by omega)).mono ?_
        rintro e B3 ⟨y, rfl, hy0, hy1, hr, ho⟩
        have HS := hide ((unhide HB).only ho hr)
        replace f0 := ho.cell hqb f0
        replace f1 := ho.cell hqb f1
        replace f2 := ho.cell hqb f2
        clear hr ho HB
        have g := (unhide HS).row.cell (i := 6) (by simp)
        simp only [wordCells] at g
        have z := (unhide HS).row.frozen 6
        have hlt := (unhide HS).row.lt
        rcases (show y = 0 ∨ y = 1 ∨ y = 2 by omega) with rfl | rfl | rfl
        · have HT : Hid (WSt w0 w (B3.setCell ⟨b1, 6, none⟩ (.int .i64 (-1))) q w.heap.size b1 v zs _ ⟨n.kind, n.frm, n.dst, n.inc, n.ver, n.rd, (-1), n.incs, n.vers, n.evs, n.outs⟩ vi vv ve vo) :=
            hide ((unhide HS).set 6 (by omega) _ _ _ _ _ _ rfl ⟨(unhide HS).ls.i, (unhide HS).ls.v, (unhide HS).ls.e, (unhide HS).ls.o⟩)
          clear HS
          go_wp2_with fail
          go_meet
          case rel => exact ⟨rfl, _, _, _, _, _, _, by omega, HT⟩
        · have HT : Hid (WSt w0 w (B3.setCell ⟨b1, 6, none⟩ (.int .i64 41)) q w.heap.size b1 v zs _ ⟨n.kind, n.frm, n.dst, n.inc, n.ver, n.rd, 41, n.incs, n.vers, n.evs, n.outs⟩ vi vv ve vo) :=
            hide ((unhide HS).set 6 (by omega) _ _ _ _ _ _ rfl ⟨(unhide HS).ls.i, (unhide HS).ls.v, (unhide HS).ls.e, (unhide HS).ls.o⟩)
          clear HS
          go_wp2_with fail
          go_meet
          case rel => exact ⟨rfl, _, _, _, _, _, _, by omega, HT⟩
        · have HT : Hid (WSt w0 w (B3.setCell ⟨b1, 6, none⟩ (.int .i64 42)) q w.heap.size b1 v zs _ ⟨n.kind, n.frm, n.dst, n.inc, n.ver, n.rd, 42, n.incs, n.vers, n.evs, n.outs⟩ vi vv ve vo) :=
            hide ((unhide HS).set 6 (by omega) _ _ _ _ _ _ rfl ⟨(unhide HS).ls.i, (unhide HS).ls.v, (unhide HS).ls.e, (unhide HS).ls.o⟩)
          clear HS
          go_wp2_with fail
          go_meet
          case rel => exact ⟨rfl, _, _, _, _, _, _, by omega, HT⟩
      · skip
        have g := (unhide HS).row.cell (i := 7) (by simp)
        simp only [wordCells] at g
        have z := (unhide HS).row.frozen 7
        have hlt := (unhide HS).row.lt
        have hne : ¬ b1 = B1.heap.size := by omega
        have HN := hide (numsNew B1 (b1 + 1) [1, 2] (by omega) (by simp))
        have hbA : Below B1.heap.size B1 (B1.alloc (.cells #[.int .i64 1, .int .i64 2] 3)) := (Below.refl _ _).alloc (Nat.le_refl _) _
        have HT : Hid (WSt w0 w ((B1.alloc (.cells #[.int .i64 1, .int .i64 2] 3)).setCell ⟨b1, 7, none⟩ (.slice (some ⟨B1.heap.size, 0, none⟩) 2 2)) q w.heap.size b1 v zs _ ⟨n.kind, n.frm, n.dst, n.inc, n.ver, n.rd, n.g, [1, 2], n.vers, n.evs, n.outs⟩ (.slice (some ⟨B1.heap.size, 0, none⟩) 2 2) vv ve vo) :=
          hide (((unhide HS).then hbA).set 7 (by omega) _ _ _ _ _ _ rfl ⟨unhide HN, ((unhide HS).then hbA).ls.v, ((unhide HS).then hbA).ls.e, ((unhide HS).then hbA).ls.o⟩)
        rw [World.setCell_alloc_past _ _ _ _ hlt] at HT
        clear HS HN hbA
        go_wp2_with fail
        go_meet
        case rel => exact ⟨rfl, _, _, _, _, _, _, by omega, HT⟩
      · skip
        go_wp2_with fail
        refine (l22Max_any _).mono ?_
        rintro e V1 ⟨rfl, hw1⟩
        obtain rfl := hw1.symm
        clear hw1
        go_wp2_with fail
        refine (l22Max_any _).mono ?_
        rintro e V2 ⟨rfl, hw2⟩
        obtain rfl := hw2.symm
        clear hw2
        go_wp2_with fail
        have HB : Hid (WSt w0 w (B1.alloc (.cells #[.int .i64 (-1), .int .i64 9999, .int .i64 10000] 3)) q w.heap.size b1 v zs _ n vi vv ve vo) := hide ((unhide HS).then ((Below.refl _ _).alloc (Nat.le_refl _) _))
        have f0 : (B1.alloc (.cells #[.int .i64 (-1), .int .i64 9999, .int .i64 10000] 3)).cell? ⟨B1.heap.size, 0, none⟩ = some (.int .i64 (-1)) := by simp [go_sem]
        have f1 : (B1.alloc (.cells #[.int .i64 (-1), .int .i64 9999, .int .i64 10000] 3)).cell? ⟨B1.heap.size, 1, none⟩ = some (.int .i64 9999) := by simp [go_sem]
        have f2 : (B1.alloc (.cells #[.int .i64 (-1), .int .i64 9999, .int .i64 10000] 3)).cell? ⟨B1.heap.size, 2, none⟩ = some (.int .i64 10000) := by simp [go_sem]
        have hqb : ¬ B1.heap.size = q := by have := (unhide HS).row.lt; have := (unhide HS).ql; omega
        have hrb : ¬ B1.heap.size = b1 := by have := (unhide HS).row.lt; omega
        clear HS
        generalize (B1.alloc (.cells #[.int .i64 (-1), .int .i64 9999, .int .i64 10000] 3)) = B2 at *
        generalize B1.heap.size = r4 at *
        refine (pick_any w0 _ q v zs _ 3 (unhide HB).rd (by omega) (by omega) (by omega)).mono ?_
        rintro e B3 ⟨y, rfl, hy0, hy1, hr, ho⟩
        have HS := hide ((unhide HB).only ho hr)
        replace f0 := ho.cell hqb f0
        replace f1 := ho.cell hqb f1
        replace f2 := ho.cell hqb f2
        clear hr ho HB
        have g := (unhide HS).row.cell (i := 4) (by simp)
        simp only [wordCells] at g
        have z := (unhide HS).row.frozen 4
        have hlt := (unhide HS).row.lt
        rcases (show y = 0 ∨ y = 1 ∨ y = 2 by omega) with rfl | rfl | rfl
        · have HT : Hid (WSt w0 w (B3.setCell ⟨b1, 4, none⟩ (.int .i64 (-1))) q w.heap.size b1 v zs _ ⟨n.kind, n.frm, n.dst, n.inc, (-1), n.rd, n.g, n.incs, n.vers, n.evs, n.outs⟩ vi vv ve vo) :=
            hide ((unhide HS).set 4 (by omega) _ _ _ _ _ _ rfl ⟨(unhide HS).ls.i, (unhide HS).ls.v, (unhide HS).ls.e, (unhide HS).ls.o⟩)
          clear HS
          go_wp2_with fail
          go_meet
          case rel => exact ⟨rfl, _, _, _, _, _, _, by omega, HT⟩
        · have HT : Hid (WSt w0 w (B3.setCell ⟨b1, 4, none⟩ (.int .i64 9999)) q w.heap.size b1 v zs _ ⟨n.kind, n.frm, n.dst, n.inc, 9999, n.rd, n.g, n.incs, n.vers, n.evs, n.outs⟩ vi vv ve vo) :=
            hide ((unhide HS).set 4 (by omega) _ _ _ _ _ _ rfl ⟨(unhide HS).ls.i, (unhide HS).ls.v, (unhide HS).ls.e, (unhide HS).ls.o⟩)
          clear HS
          go_wp2_with fail
          go_meet
          case rel => exact ⟨rfl, _, _, _, _, _, _, by omega, HT⟩
        · have HT : Hid (WSt w0 w (B3.setCell ⟨b1, 4, none⟩ (.int .i64 10000)) q w.heap.size b1 v zs _ ⟨n.kind, n.frm, n.dst, n.inc, 10000, n.rd, n.g, n.incs, n.vers, n.evs, n.outs⟩ vi vv ve vo) :=
            hide ((unhide HS).set 4 (by omega) _ _ _ _ _ _ rfl ⟨(unhide HS).ls.i, (unhide HS).ls.v, (unhide HS).ls.e, (unhide HS).ls.o⟩)
          clear HS
          go_wp2_with fail
          go_meet
          case rel => exact ⟨rfl, _, _, _, _, _, _, by omega, HT⟩
      · have d0 : (d == 0) = false := by simp; omega
        have d1 : (d == 1) = false := by simp; omega
        have d2 : (d == 2) = false := by simp; omega
        have d3 : (d == 3) = false := by simp; omega
        have d4 : (d == 4) = false := by simp; omega
        go_wp2_with fail
        go_meet
        case rel => exact ⟨rfl, _, _, _, _, _, _, by omega, HS⟩
    case rest =>
      obtain ⟨rfl, n2, ui, uv, ue, uo, p2, hp2', HT⟩ := hcut
      clear HS
      have hql := (unhide HT).ql
      have ho1 := (unhide HT).o1
      obtain ⟨⟨j0, k0, e1⟩, ⟨j1, k1, e2⟩, ⟨j2, k2, e3⟩, ⟨j3, k3, e4⟩⟩ := (unhide HT).ls.at.sliced
      subst e1 e2 e3 e4
      have m0 : wc.cell? ⟨b1, 0, none⟩ = some (.int .i64 n2.kind) := (unhide HT).row.cell (i := 0) (by simp)
      have m1 : wc.cell? ⟨b1, 1, none⟩ = some (.int .i64 n2.frm) := (unhide HT).row.cell (i := 1) (by simp)
      have m2 : wc.cell? ⟨b1, 2, none⟩ = some (.int .i64 n2.dst) := (unhide HT).row.cell (i := 2) (by simp)
      have m3 : wc.cell? ⟨b1, 3, none⟩ = some (.int .i64 n2.inc) := (unhide HT).row.cell (i := 3) (by simp)
      have m4 : wc.cell? ⟨b1, 4, none⟩ = some (.int .i64 n2.ver) := (unhide HT).row.cell (i := 4) (by simp)
      have m5 : wc.cell? ⟨b1, 5, none⟩ = some (.int .i64 n2.rd) := (unhide HT).row.cell (i := 5) (by simp)
      have m6 : wc.cell? ⟨b1, 6, none⟩ = some (.int .i64 n2.g) := (unhide HT).row.cell (i := 6) (by simp)
      have m7 : wc.cell? ⟨b1, 7, none⟩ = some ((.slice j0 n2.incs.length k0)) := (unhide HT).row.cell (i := 7) (by simp)
      have m8 : wc.cell? ⟨b1, 8, none⟩ = some ((.slice j1 n2.vers.length k1)) := (unhide HT).row.cell (i := 8) (by simp)
      have m9 : wc.cell? ⟨b1, 9, none⟩ = some ((.slice j2 n2.evs.length k2)) := (unhide HT).row.cell (i := 9) (by simp)
      have m10 : wc.cell? ⟨b1, 10, none⟩ = some ((.slice j3 n2.outs.length k3)) := (unhide HT).row.cell (i := 10) (by simp)
      have r0 : wc.cell? ⟨w.heap.size, 0, none⟩ = some (.int .i64 0) := (unhide HT).res.cell (i := 0) (by simp)
      have s0 : wc.frozen? ⟨w.heap.size, 0, none⟩ = false := (unhide HT).res.frozen 0
      have r1 : wc.cell? ⟨w.heap.size, 1, none⟩ = some (.int .i64 0) := (unhide HT).res.cell (i := 1) (by simp)
      have s1 : wc.frozen? ⟨w.heap.size, 1, none⟩ = false := (unhide HT).res.frozen 1
      have r2 : wc.cell? ⟨w.heap.size, 2, none⟩ = some (.int .i64 0) := (unhide HT).res.cell (i := 2) (by simp)
      have s2 : wc.frozen? ⟨w.heap.size, 2, none⟩ = false := (unhide HT).res.frozen 2
      have r3 : wc.cell? ⟨w.heap.size, 3, none⟩ = some (.int .i64 0) := (unhide HT).res.cell (i := 3) (by simp)
      have s3 : wc.frozen? ⟨w.heap.size, 3, none⟩ = false := (unhide HT).res.frozen 3
      have r4 : wc.cell? ⟨w.heap.size, 4, none⟩ = some (.int .i64 0) := (unhide HT).res.cell (i := 4) (by simp)
      have s4 : wc.frozen? ⟨w.heap.size, 4, none⟩ = false := (unhide HT).res.frozen 4
      have r5 : wc.cell? ⟨w.heap.size, 5, none⟩ = some (.int .i64 0) := (unhide HT).res.cell (i := 5) (by simp)
      have s5 : wc.frozen? ⟨w.heap.size, 5, none⟩ = false := (unhide HT).res.frozen 5
      have r6 : wc.cell? ⟨w.heap.size, 6, none⟩ = some (.int .i64 0) := (unhide HT).res.cell (i := 6) (by simp)
      have s6 : wc.frozen? ⟨w.heap.size, 6, none⟩ = false := (unhide HT).res.frozen 6
      have r7 : wc.cell? ⟨w.heap.size, 7, none⟩ = some (.slice none 0 0) := (unhide HT).res.cell (i := 7) (by simp)
      have s7 : wc.frozen? ⟨w.heap.size, 7, none⟩ = false := (unhide HT).res.frozen 7
      have r8 : wc.cell? ⟨w.heap.size, 8, none⟩ = some (.slice none 0 0) := (unhide HT).res.cell (i := 8) (by simp)
      have s8 : wc.frozen? ⟨w.heap.size, 8, none⟩ = false := (unhide HT).res.frozen 8
      have r9 : wc.cell? ⟨w.heap.size, 9, none⟩ = some (.slice none 0 0) := (unhide HT).res.cell (i := 9) (by simp)
      have s9 : wc.frozen? ⟨w.heap.size, 9, none⟩ = false := (unhide HT).res.frozen 9
      have r10 : wc.cell? ⟨w.heap.size, 10, none⟩ = some (.slice none 0 0) := (unhide HT).res.cell (i := 10) (by simp)
      have s10 : wc.frozen? ⟨w.heap.size, 10, none⟩ = false := (unhide HT).res.frozen 10
      have E1 := hide (WordFr.block (w' := setVals wc w.heap.size 0 (wordCells n2 (.slice j0 n2.incs.length k0) (.slice j1 n2.vers.length k1) (.slice j2 n2.evs.length k2) (.slice j3 n2.outs.length k3))) (fun g hg _ => setVals_other (wordCells n2 (.slice j0 n2.incs.length k0) (.slice j1 n2.vers.length k1) (.slice j2 n2.evs.length k2) (.slice j3 n2.outs.length k3)) 0 wc g (by omega)) (unhide HT).ls)
      have hE : WordFr w.heap.size (setVals wc w.heap.size 0 (wordCells n2 (.slice j0 n2.incs.length k0) (.slice j1 n2.vers.length k1) (.slice j2 n2.evs.length k2) (.slice j3 n2.outs.length k3))) n2 (.slice j0 n2.incs.length k0) (.slice j1 n2.vers.length k1) (.slice j2 n2.evs.length k2) (.slice j3 n2.outs.length k3) := ⟨(unhide E1).i.less (by omega), (unhide E1).v.less (by omega), (unhide E1).e.less (by omega), (unhide E1).o.less (by omega)⟩
      have E2 := hide hE
      have ER : Hid (Reader w0 (setVals wc w.heap.size 0 (wordCells n2 (.slice j0 n2.incs.length k0) (.slice j1 n2.vers.length k1) (.slice j2 n2.evs.length k2) (.slice j3 n2.outs.length k3))) q v zs p2) := hide (((((((((((((unhide HT).rd.setNew (by omega) _).setNew (by omega) _).setNew (by omega) _).setNew (by omega) _).setNew (by omega) _).setNew (by omega) _).setNew (by omega) _).setNew (by omega) _).setNew (by omega) _).setNew (by omega) _).setNew (by omega) _))
      have EO : Hid (OnlyB q w (setVals wc w.heap.size 0 (wordCells n2 (.slice j0 n2.incs.length k0) (.slice j1 n2.vers.length k1) (.slice j2 n2.evs.length k2) (.slice j3 n2.outs.length k3)))) := hide (((((((((((((unhide HT).on.setNew (by omega) (by omega) _).setNew (by omega) (by omega) _).setNew (by omega) (by omega) _).setNew (by omega) (by omega) _).setNew (by omega) (by omega) _).setNew (by omega) (by omega) _).setNew (by omega) (by omega) _).setNew (by omega) (by omega) _).setNew (by omega) (by omega) _).setNew (by omega) (by omega) _).setNew (by omega) (by omega) _))
      clear hE E1 HT
      go_wp2_with fail
      refine bodyPost_ret (v := wordAgg n2 (.slice j0 n2.incs.length k0) (.slice j1 n2.vers.length k1) (.slice j2 n2.evs.length k2) (.slice j3 n2.outs.length k3)) (by simp [results, Tryz.results12, go_sem, r0, r1, r2, r3, r4, r5, r6, r7, r8, r9, r10]) rfl ⟨n2, _, _, _, _, p2, rfl, by omega, unhide E2, unhide ER, unhide EO⟩
end Go.Proofs.YtiljjhipiinafaaGreat

/- spec.DrawWordUnpack: some bytes. -/
namespace Go.Proofs.YtiljjhipiinafaaGreat
open Go.RowKit
set_option linter.unusedVariables false
set_option linter.unusedSimpArgs false

theorem ByFr.bytesD {N t : Nat} {w : World} {v : Value} {bs : List Int} (h : ByFr N t w v bs) (hr : ∀ z ∈ bs, 0 ≤ z ∧ z ≤ 255) : BytesAt w v bs := by
  have ha := h.at
  rcases h with ⟨rfl, rfl⟩ | ⟨g, cap, f, rfl, _, hl, hm, hrow, hf⟩
  · exact ⟨none, 0, rfl, Nat.le_refl _, Nat.zero_le _, (fun z hz => by cases hz), fun _ => rfl, Or.inl rfl⟩
  · obtain ⟨ad, cap', e, _, _, hc⟩ := ha
    simp only [Value.slice.injEq] at e
    obtain ⟨rfl, _, rfl⟩ := e
    exact ⟨some ⟨g, 0, none⟩, cap, rfl, hl, hm, hr, (fun h => by cases h), hc⟩
theorem ByFr.cellAt {N t g n cap : Nat} {w : World} {bs : List Int} (h : ByFr N t w (.slice (some ⟨g, 0, none⟩) n cap) bs) : n = bs.length ∧ bs.length ≤ cap ∧ cap ≤ maxLen ∧ N ≤ g ∧ g < w.heap.size ∧ ∀ i, i < bs.length → w.cell? ⟨g, i, none⟩ = some (.int .u8 (bs.getD i 0)) ∧ w.frozen? ⟨g, i, none⟩ = false := by
  rcases h with ⟨h, _⟩ | ⟨g', cap', f, hv, hN, hl, hm, hr, hf⟩
  · cases h
  · simp only [Value.slice.injEq, Option.some.injEq, Addr.mk.injEq, and_true] at hv
    obtain ⟨rfl, h2, h3⟩ := hv
    exact ⟨h2, by omega, by omega, hN, hr.lt, fun i hi => ⟨by rw [hr.cell (i := i) (by omega), hf i hi], hr.frozen i⟩⟩
theorem bytes_take {w : World} {g n cap k : Nat} {bs : List Int} (h : BytesAt w (.slice (some ⟨g, 0, none⟩) n cap) bs) (hk : k ≤ n) : BytesAt w (.slice (some ⟨g, 0, none⟩) k cap) (bs.take k) := by
  obtain ⟨ad, c, hv, hl, hm, hr, hn, hc⟩ := h
  simp only [Value.slice.injEq] at hv
  obtain ⟨rfl, h2, rfl⟩ := hv
  have hkl : (bs.take k).length = k := by rw [List.length_take]; omega
  refine ⟨_, _, by rw [hkl], by omega, hm, fun z hz => hr z (List.mem_of_mem_take hz), hn, ?_⟩
  rcases hc with rfl | ⟨b, off, e, hc⟩
  · exact Or.inl (by simp)
  · refine Or.inr ⟨b, off, e, fun i hi => ?_⟩
    rw [hkl] at hi
    rw [hc i (by omega)]
    simp
theorem bytes_set {N t g n cap k : Nat} {w : World} {bs : List Int} {x : Int} (h : ByFr N t w (.slice (some ⟨g, 0, none⟩) n cap) bs) (hk : k < bs.length) (hr : ∀ z ∈ bs, 0 ≤ z ∧ z ≤ 255) (hx : 0 ≤ x ∧ x ≤ 255) : BytesAt (w.setCell ⟨g, k, none⟩ (.int .u8 x)) (.slice (some ⟨g, 0, none⟩) n cap) (bs.set k x) := by
  obtain ⟨hn, hl, hm, _, hg, hc⟩ := h.cellAt
  subst hn
  refine ⟨_, _, by rw [List.length_set], by rw [List.length_set]; exact hl, hm, fun z hz => ?_, (fun e => by cases e), Or.inr ⟨g, 0, rfl, fun i hi => ?_⟩⟩
  · rcases List.mem_or_eq_of_mem_set hz with h1 | rfl
    · exact hr z h1
    · exact hx
  · rw [List.length_set] at hi
    rw [Nat.zero_add]
    have h1 := (hc i hi).1
    have h2 := (hc k hk).1
    by_cases e : i = k
    · subst e
      simp [go_sem, h1]
    · have e2 : ¬ k = i := fun h => e h.symm
      simp [go_sem, h1, List.getElem_set, e, e2, hi]
theorem one_u8 (bs : List Int) : ∀ u ∈ bs.map (Value.int .u8), u.oneCell' = true := fun u hu => by
  obtain ⟨x, _, rfl⟩ := List.mem_map.1 hu
  rfl
theorem news_take {N t g n cap k : Nat} {w : World} {bs : List Int} (h : ByFr N t w (.slice (some ⟨g, 0, none⟩) n cap) bs) (hk : k < bs.length) : ∀ j u, ((bs.take k).map (Value.int .u8))[j]? = some u → w.cell? ((⟨g, 0, none⟩ : Addr).add j) = some u := by
  intro j u hj
  rw [List.getElem?_map] at hj
  have hjl : j < (bs.take k).length := by
    rcases Nat.lt_or_ge j (bs.take k).length with h1 | h1
    · exact h1
    · rw [List.getElem?_eq_none h1] at hj; cases hj
  rw [List.getElem?_eq_getElem hjl] at hj
  simp only [Option.map_some, Option.some.injEq] at hj
  rw [List.length_take] at hjl
  have h1 := ((h.cellAt).2.2.2.2.2 j (by omega)).1
  rw [show ((⟨g, 0, none⟩ : Addr).add j) = ⟨g, j, none⟩ from by simp [Addr.add]; omega, h1, ← hj]
  have h2 : j < bs.length := by omega
  simp [List.getD, h2]
theorem news_drop {N t g n cap k : Nat} {w : World} {bs : List Int} (h : ByFr N t w (.slice (some ⟨g, 0, none⟩) n cap) bs) (hk : k < bs.length) : ∀ j u, ((bs.drop k).map (Value.int .u8))[j]? = some u → w.cell? ((⟨g, k, none⟩ : Addr).add j) = some u := by
  intro j u hj
  rw [List.getElem?_map] at hj
  have hjl : j < (bs.drop k).length := by
    rcases Nat.lt_or_ge j (bs.drop k).length with h1 | h1
    · exact h1
    · rw [List.getElem?_eq_none h1] at hj; cases hj
  rw [List.getElem?_eq_getElem hjl] at hj
  simp only [Option.map_some, Option.some.injEq] at hj
  rw [List.length_drop] at hjl
  have h1 := ((h.cellAt).2.2.2.2.2 (k + j) (by omega)).1
  rw [show ((⟨g, k, none⟩ : Addr).add j) = ⟨g, k + j, none⟩ from by simp [Addr.add], h1, ← hj]
  have h2 : k + j < bs.length := by omega
  simp [List.getD, h2]
set_option maxRecDepth 100000 in
set_option maxHeartbeats 8000000 in
theorem DrawWordUnpack_any (v : Value) (zs : List Int) (w : World) (h : BytesAt w v zs) :
    Calls Tryz.prog 4 #[v] w fun e w' => ∃ (vb : Value) (bs : List Int), e = .returned vb ∧ BytesAt w' vb bs ∧ bs.length ≤ 4000 ∧ Below w.heap.size w w' := by
  obtain ⟨i5, hi5, hz0, hz1, hz2⟩ := infoBy_parts
  obtain ⟨ad, cp, hv⟩ : ∃ ad cap, v = .slice ad zs.length cap := by obtain ⟨a, c, h, _⟩ := h; exact ⟨a, c, h⟩
  subst hv
  have HH := hide h
  clear h
  go_enter Tryz.func4, Tryz.ntmps4
  go_wp2_with fail
  refine (l6Open_any _ zs _ (unhide HH)).mono ?_
  rintro e w1 ⟨v', zs', rfl, hrd, hb1⟩
  have HR1 := hide hrd
  clear hrd hb1
  go_wp2_with fail
  refine (l72Word_any w w1 w.heap.size v' zs' 0 (unhide HR1) (by omega)).mono ?_
  rintro e w2 ⟨n, vi, vv, ve, vo, p', rfl, hp', hf, hr2, ho2⟩
  have hp0 := hr2.p0
  go_wp2_with fail
  refine (specWordPack_any n _ _ _ _ _ hf.at).mono ?_
  rintro e w3 ⟨vb, rfl, hown, hb3⟩
  have hq2 : w.heap.size < w2.heap.size := World.block_lt_of_cell? w2 ⟨w.heap.size, 0, none⟩ hr2.rd.c0
  obtain ⟨P, hP⟩ : ∃ P, P = (if wordOk n = true then packW n else []) := ⟨_, rfl⟩
  rw [← hP] at hown
  have HPR : Hid (∀ z ∈ P, 0 ≤ z ∧ z ≤ 255) := hide (by
    rw [hP]
    split
    · rename_i hok
      intro z hz
      exact packS_rng (wordNums_in (wordOk_in hok)) z hz
    · intro z hz; cases hz)
  have hPl : P.length ≤ 3000 := by
    rw [hP]
    split
    · rename_i hok
      have h1 := ouTo_len (wordOk_in hok) n.outs.length
      rw [ouTo_all] at h1
      have h2 := packI_len (wordNums n)
      unfold packW; omega
    · simp
  have HOW := hide hown
  have HR := hide (hr2.on hb3)
  have HQ := hide hq2
  clear hf hr2 ho2 hb3 hown hP HR1
  rcases Nat.eq_zero_or_pos P.length with hl0 | hl0
  · have hB := (unhide HR).below
    obtain ⟨ga, gc, rfl⟩ : ∃ a c, vb = .slice a P.length c := by obtain ⟨a, c, e, _⟩ := (ByFr.of_owns (unhide HOW)).at; exact ⟨a, c, e⟩
    have hlN : P = [] := List.eq_nil_of_length_eq_zero hl0
    subst hlN
    clear hl0 hPl
    go_wp2_with fail
    go_ret
    exact ⟨_, [], rfl, (ByFr.of_owns (unhide HOW)).bytesD (unhide HPR), Nat.zero_le _, hB⟩
  obtain ⟨g, cap, rfl⟩ : ∃ g cap, vb = .slice (some ⟨g, 0, none⟩) P.length cap := by
    rcases ByFr.of_owns (unhide HOW) with ⟨_, h0⟩ | ⟨g, cap, f, hv, _⟩
    · rw [h0] at hl0; exact absurd hl0 (Nat.lt_irrefl 0)
    · exact ⟨g, cap, hv⟩
  have hlI : ¬ (P.length : Int) = 0 := by omega
  have hlN : ¬ P = [] := by intro h; rw [h] at hl0; exact Nat.lt_irrefl 0 hl0
  have hG := (ByFr.of_owns (unhide HOW)).cellAt
  have hgq : g ≠ w.heap.size := by have := unhide HQ; have := hG.2.2.2.1; omega
  have hlc := hG.2.1
  have hcm := hG.2.2.1
  have hNg := hG.2.2.2.1
  unfold maxLen at hcm
  clear hG
  go_wp2_with fail
  refine (pick_any w _ w.heap.size v' zs' p' 2 (unhide HR) (by omega) (by omega) (by omega)).mono ?_
  rintro e w4 ⟨x, rfl, hx0, hx1, hr4, ho4⟩
  replace HR := hide hr4
  replace HOW := hide (owns_onlyB ho4 (unhide HQ) (unhide HOW))
  clear hr4 ho4
  by_cases hx : x = 0
  · subst hx
    have hB := (unhide HR).below
    go_wp2_with fail
    go_ret
    exact ⟨_, P, rfl, (ByFr.of_owns (unhide HOW)).bytesD (unhide HPR), by omega, hB⟩
  have hlq : ((P.length : Int) == 0) = false := beq_eq_false_iff_ne.2 hlI
  have hxq : (x == 0) = false := beq_eq_false_iff_ne.2 hx
  go_wp2_with fail
  clear hlq hxq
  refine (pick_any w _ w.heap.size v' zs' _ P.length (unhide HR) (by omega) (by omega) (by omega)).mono ?_
  rintro e w5 ⟨y, rfl, hy0, hy1, hr5, ho5⟩
  replace HR := hide hr5
  replace HOW := hide (owns_onlyB ho5 (unhide HQ) (unhide HOW))
  clear hr5 ho5 hx
  obtain ⟨k, rfl⟩ := Int.eq_ofNat_of_zero_le hy0
  have hk : k < P.length := by omega
  go_wp2_with fail
  refine (pick_any w _ w.heap.size v' zs' _ 4 (unhide HR) (by omega) (by omega) (by omega)).mono ?_
  rintro e w6 ⟨s, rfl, hs0, hs1, hr6, ho6⟩
  replace HR := hide hr6
  replace HOW := hide (owns_onlyB ho6 (unhide HQ) (unhide HOW))
  clear hr6 ho6
  have hs : s = 0 ∨ s = 1 ∨ s = 2 ∨ s = 3 := by omega
  clear hs0 hs1
  have hkc : (k : Int) ≤ (cap : Int) := by omega
  have hkP : (k : Int) < (P.length : Int) := by omega
  have hkl : ¬ (cap = k) := by omega
  have hkn : k ≤ P.length := by omega
  have hkm : k ≤ cap := by omega
  have hk0 : (0 : Int) ≤ (k : Int) := by omega
  rcases hs with rfl | rfl | rfl | rfl
  · have hB := (unhide HR).below
    go_wp2_with fail
    go_ret
    exact ⟨_, P.take k, rfl, bytes_take ((ByFr.of_owns (unhide HOW)).bytesD (unhide HPR)) (by omega), by rw [List.length_take]; omega, hB⟩
  · go_wp2_with fail
    refine (pick_any w _ w.heap.size v' zs' _ 256 (unhide HR) (by omega) (by omega) (by omega)).mono ?_
    rintro e w7 ⟨x, rfl, hx0, hx1, hr7, ho7⟩
    have HF := hide (ByFr.of_owns (owns_onlyB ho7 (unhide HQ) (unhide HOW)))
    have HB := hide hr7.below
    clear hr7 ho7 HR
    have c0 := (((unhide HF).cellAt).2.2.2.2.2 k hk).1
    have f0 := (((unhide HF).cellAt).2.2.2.2.2 k hk).2
    have hx8 : x % 256 = x := by omega
    have E1 := hide (bytes_set (x := x) (unhide HF) hk (unhide HPR) (by omega))
    have E2 := hide ((unhide HB).setCell (p := ⟨g, k, none⟩) (show w.heap.size ≤ g by have := unhide HQ; omega) (.int .u8 x))
    go_wp2_with fail
    go_ret
    exact ⟨_, P.set k x, rfl, unhide E1, by rw [List.length_set]; omega, unhide E2⟩
  · have HB := hide (unhide HR).below
    clear HR
    have hbA : Below w6.heap.size w6 (w6.alloc (.cells #[.int .u8 1] 5)) := (Below.refl _ _).alloc (Nat.le_refl _) _
    have hA := ownsBy_on hbA (unhide HOW)
    have hg6 := ((ByFr.of_owns (unhide HOW)).cellAt).2.2.2.2.1
    have HBA := hide hbA
    clear hbA
    go_wp2_with (at_builtin; refine wpList_append_lies _ (by rfl) _ _ _ (by rfl) w2.heap.size 5 i5 _ 1 1 slice_By hi5 hz0 hz1 hz2 (by rfl) (by omega) _ P.length (P.map (Value.int .u8)) (by rfl) hA ⟨w6.heap.size, 0, none⟩ 1 1 [.int .u8 1] (by rfl) (by rfl) (World.news_of_block (cs := #[.int .u8 1]) (t := 5) (fr := (0, 0)) (heap_alloc_new w6 _)) (by simp [Value.oneCell']) (by omega) (by unfold maxLen; omega) (by omega) (by simp; omega) (w6.heap.size + 1) (by simp) ?_; intro gg cap2 w7 hown7 hgrow hat hlt7)
    go_ret
    have hb1 := (unhide HB).trans ((unhide HBA).mono (unhide HB).size)
    refine ⟨_, P ++ [1], by simp, (ByFr.of_owns (ownsBy_more hown7)).bytesD (fun z hz => ?_), by simp; omega, Below.grown hb1 hgrow hb1.size (fun q hq => by have := (hA.lt q hq).1; have := unhide HQ; omega)⟩
    rcases List.mem_append.1 hz with h | h
    · exact (unhide HPR) z h
    · rw [List.mem_singleton] at h; omega
  · skip
    go_upto_region 14 with fail
    have hbd : Below w6.heap.size w6 w6.drew := (Below.refl _ _).drew
    have HF := hide (ByFr.of_owns (ownsBy_on hbd (unhide HOW)))
    have HR0 := hide ((unhide HR).on hbd)
    have hw0 : w.heap.size < w6.drew.heap.size := World.block_lt_of_cell? _ ⟨w.heap.size, 0, none⟩ (unhide HR0).rd.c0
    have hg0 : g < w6.drew.heap.size := ((unhide HF).cellAt).2.2.2.2.1
    refine wp_region_held_drew (S := fun _ => True) (by kernel_rfl) trivial (fun hHeld => ?_)
    clear hbd HR HOW
    generalize w6.drew = W0 at *
    refine wpAnyH_take (i := 1) (v := ?_) rfl (by kernel_rfl) (by kernel_rfl) (by kernel_rfl) (fun _ _ _ h => h) (Or.inl ⟨by kernel_rfl, ?_⟩) hHeld ?_
    rotate_left
    · (intro w hSw; go_simp; try with_reducible rfl)
    try simp only [Act.put, List.setIfInBounds_toArray, List.set_cons_zero, List.set_cons_succ]
    refine wpAnyH_take (i := 2) (v := ?_) rfl (by kernel_rfl) (by kernel_rfl) (by kernel_rfl) (fun _ _ _ h => h) (Or.inl ⟨by kernel_rfl, ?_⟩) hHeld ?_
    rotate_left
    · (intro w hSw; go_simp; try with_reducible rfl)
    try simp only [Act.put, List.setIfInBounds_toArray, List.set_cons_zero, List.set_cons_succ]
    refine wpAnyH_take (i := 3) (v := ?_) rfl (by kernel_rfl) (by kernel_rfl) (by kernel_rfl) (fun _ _ _ h => h) (Or.inl ⟨by kernel_rfl, ?_⟩) hHeld ?_
    rotate_left
    · (intro w hSw; go_simp; try with_reducible rfl)
    try simp only [Act.put, List.setIfInBounds_toArray, List.set_cons_zero, List.set_cons_succ]
    refine wpAnyH_take (i := 5) (v := ?_) rfl (by kernel_rfl) (by kernel_rfl) (by kernel_rfl) (fun _ _ _ h => h) (Or.inl ⟨by kernel_rfl, ?_⟩) hHeld ?_
    rotate_left
    · (intro w hSw; go_simp; try with_reducible rfl)
    try simp only [Act.put, List.setIfInBounds_toArray, List.set_cons_zero, List.set_cons_succ]
    refine wpAnyH_take (i := 11) (v := ?_) rfl (by kernel_rfl) (by kernel_rfl) (by kernel_rfl) (fun _ _ _ h => h) (Or.inl ⟨by kernel_rfl, ?_⟩) hHeld ?_
    rotate_left
    · (intro w hSw; go_simp; try with_reducible rfl)
    try simp only [Act.put, List.setIfInBounds_toArray, List.set_cons_zero, List.set_cons_succ]
    refine wpAnyH_take (i := 12) (v := ?_) rfl (by kernel_rfl) (by kernel_rfl) (by kernel_rfl) (fun _ _ _ h => h) (Or.inl ⟨by kernel_rfl, ?_⟩) hHeld ?_
    rotate_left
    · (intro w hSw; go_simp; try with_reducible rfl)
    try simp only [Act.put, List.setIfInBounds_toArray, List.set_cons_zero, List.set_cons_succ]
    refine wpAnyH_take (i := 13) (v := ?_) rfl (by kernel_rfl) (by kernel_rfl) (by kernel_rfl) (fun _ _ _ h => h) (Or.inl ⟨by kernel_rfl, ?_⟩) hHeld ?_
    rotate_left
    · (intro w hSw; go_simp; try with_reducible rfl)
    try simp only [Act.put, List.setIfInBounds_toArray, List.set_cons_zero, List.set_cons_succ]
    refine wpAnyH_ready (rs := [0]) (by kernel_rfl) (by simp) ?_
    refine AllReadyH.cons rfl (fun K hK => ?_) AllReadyH.nil
    go_simp
    have hbN : Below W0.heap.size W0 (W0.alloc (.cells #[] 5)) := (Below.refl _ _).alloc (Nat.le_refl _) _
    have ownE : (W0.alloc (.cells #[] 5)).ownsRow W0.heap.size 5 1 (.slice (some ⟨W0.heap.size, 0, none⟩) 0 0) 0 [] := World.ownsRow_lit W0 #[] 0 (Nat.le_refl _) (Nat.zero_le _) rfl
    have hB := hbN
    clear hbN
    generalize W0.alloc (.cells #[] 5) = V1 at *
    refine hK.out _ _ trivial (fun hHeld => ?_)
    clear hK K
    try simp only [Act.put, List.setIfInBounds_toArray, List.set_cons_zero, List.set_cons_succ]
    refine wpAnyH_ready (rs := [4]) (by kernel_rfl) (by simp) ?_
    refine AllReadyH.cons rfl (fun K hK => ?_) AllReadyH.nil
    refine step_append_any _ (by rfl) _ _ _ (by rfl) W0.heap.size 5 i5 _ 1 1 slice_By hi5 hz0 hz1 hz2 (by rfl) (by omega) (.slice (some ⟨W0.heap.size, 0, none⟩) 0 0) 0 [] (by rfl) ownE ⟨g, 0, none⟩ k cap ((P.take k).map (Value.int .u8)) (by rfl) (by rw [List.length_map, List.length_take]; omega) (news_take ((unhide HF).on hB) hk) (one_u8 _) (by unfold maxLen; omega) (by omega) hB.size ?_
    intro v4 V2 own4 grow4 hat4
    have hBn : Below W0.heap.size W0 V2 := Below.grown hB grow4 hB.size (fun q hq => (ownE.lt q hq).1)
    rw [Nat.zero_add, List.nil_append] at own4
    replace hB := hBn
    clear ownE grow4 hat4 hBn
    refine hK.out _ _ trivial (fun hHeld => ?_)
    clear hK K
    try simp only [Act.put, List.setIfInBounds_toArray, List.set_cons_zero, List.set_cons_succ]
    refine wpAnyH_ready (rs := [6]) (by kernel_rfl) (by simp) ?_
    refine AllReadyH.cons rfl (fun K hK => ?_) AllReadyH.nil
    go_simp
    refine (pick_any w _ w.heap.size v' zs' _ 128 ((unhide HR0).on hB) (by omega) (by omega) (by omega)).mono ?_
    rintro e V3 ⟨x, rfl, hx0, hx1, hr, ho⟩
    (try go_simp)
    have HFV := hide (((unhide HF).on hB).block (fun b hb hl => ho.other b (fun e => hgq ((show g = b by simpa [Value.ownBlock] using hb).trans e)) hl))
    replace own4 := owns_onlyB ho hw0 own4
    have hx8 : (128 + x) % 256 = 128 + x := by omega
    have hw7 : IntKind.i64.wrap (128 + x) = 128 + x := by simp [IntKind.wrap, IntKind.bits, IntKind.signed]; omega
    have hw8 : IntKind.u8.wrap (128 + x) = 128 + x := by simp [IntKind.wrap, IntKind.bits, IntKind.signed]; omega
    have HBV := hide hr.below
    have hs3 : W0.heap.size ≤ V3.heap.size := Nat.le_trans hB.size ho.size
    clear hr ho
    refine hK.out _ _ trivial (fun hHeld => ?_)
    clear hK K
    try simp only [Act.put, List.setIfInBounds_toArray, List.set_cons_zero, List.set_cons_succ]
    refine wpAnyH_take (i := 7) (v := ?_) rfl (by kernel_rfl) (by kernel_rfl) (by kernel_rfl) (fun _ _ _ h => h) (Or.inl ⟨by kernel_rfl, ?_⟩) hHeld ?_
    rotate_left
    · (intro w hSw; go_simp; try with_reducible rfl)
    try simp only [Act.put, List.setIfInBounds_toArray, List.set_cons_zero, List.set_cons_succ]
    refine wpAnyH_take (i := 8) (v := ?_) rfl (by kernel_rfl) (by kernel_rfl) (by kernel_rfl) (fun _ _ _ h => h) (Or.inl ⟨by kernel_rfl, ?_⟩) hHeld ?_
    rotate_left
    · (intro w hSw; go_simp; try with_reducible rfl)
    try simp only [Act.put, List.setIfInBounds_toArray, List.set_cons_zero, List.set_cons_succ]
    try simp only [hw7, hw8]
    refine wpAnyH_ready (rs := [9]) (by kernel_rfl) (by simp) ?_
    refine AllReadyH.cons rfl (fun K hK => ?_) AllReadyH.nil
    go_simp
    have hbN : Below V3.heap.size V3 (V3.alloc (.cells #[.int .u8 (128 + x)] 5)) := (Below.refl _ _).alloc (Nat.le_refl _) _
    have news : ∀ j u, ([.int .u8 (128 + x)] : List Value)[j]? = some u → (V3.alloc (.cells #[.int .u8 (128 + x)] 5)).cell? ((⟨V3.heap.size, 0, none⟩ : Addr).add j) = some u := World.news_of_block (cs := #[.int .u8 (128 + x)]) (t := 5) (fr := (0, 0)) (heap_alloc_new V3 _)
    replace own4 := ownsOn hbN own4
    replace HFV := hide ((unhide HFV).on hbN)
    replace HBV := hide ((unhide HBV).trans (hbN.mono (by omega)))
    have hs4 : W0.heap.size ≤ (V3.alloc (.cells #[.int .u8 (128 + x)] 5)).heap.size := by simp; omega
    clear hbN
    generalize V3.alloc (.cells #[.int .u8 (128 + x)] 5) = V4 at *
    refine hK.out _ _ trivial (fun hHeld => ?_)
    clear hK K
    try simp only [Act.put, List.setIfInBounds_toArray, List.set_cons_zero, List.set_cons_succ]
    refine wpAnyH_ready (rs := [10]) (by kernel_rfl) (by simp) ?_
    refine AllReadyH.cons rfl (fun K hK => ?_) AllReadyH.nil
    refine step_append_lies _ (by rfl) _ _ _ (by rfl) W0.heap.size 5 i5 _ 1 1 slice_By hi5 hz0 hz1 hz2 (by rfl) (by omega) v4 k ((P.take k).map (Value.int .u8)) (by rfl) own4 ⟨V3.heap.size, 0, none⟩ 1 1 [.int .u8 (128 + x)] (by rfl) (by rfl) news (by simp [Value.oneCell']) (by omega) (by unfold maxLen; omega) (by omega) hs4 V4.heap.size rfl ?_
    intro g5 cap5 V5 own5 grow5 hat5 hlt5
    have hl4 : ∀ q, v4.ownBlock = some q → W0.heap.size ≤ q := fun q hq => (own4.lt q hq).1
    replace HFV := hide ((unhide HFV).block (w' := V5) (fun b hb hl => grow5.block b hl (fun e => by
      have h9 : g = b := by simpa [Value.ownBlock] using hb
      have := hl4 b e.symm
      omega)))
    replace HBV := hide (Below.grown (unhide HBV) grow5 (unhide HBV).size (fun q hq => by have := hl4 q hq; omega))
    have hs5 : W0.heap.size ≤ V5.heap.size := Nat.le_trans hs4 grow5.size
    clear own4 grow5 hat5 news hl4
    refine hK.out _ _ trivial (fun hHeld => ?_)
    clear hK K
    try simp only [Act.put, List.setIfInBounds_toArray, List.set_cons_zero, List.set_cons_succ]
    refine wpAnyH_ready (rs := [14]) (by kernel_rfl) (by simp) ?_
    refine AllReadyH.cons rfl (fun K hK => ?_) AllReadyH.nil
    refine step_append_any _ (by rfl) _ _ _ (by rfl) W0.heap.size 5 i5 _ 1 1 slice_By hi5 hz0 hz1 hz2 (by rfl) (by omega) (.slice (some ⟨g5, 0, none⟩) (k + 1) cap5) (k + 1) ((P.take k).map (Value.int .u8) ++ [.int .u8 (128 + x)]) (by rfl) own5 ⟨g, k, none⟩ (P.length - k) (cap - k) ((P.drop k).map (Value.int .u8)) (by rfl) (by rw [List.length_map, List.length_drop]; omega) (news_drop (unhide HFV) hk) (one_u8 _) (by unfold maxLen; omega) (by omega) hs5 ?_
    intro v6 V6 own6 grow6 hat6
    replace HBV := hide (Below.grown (unhide HBV) grow6 (unhide HBV).size (fun q hq => by have := (own5.lt q hq).1; omega))
    have hlen : (P.take k ++ [128 + x] ++ P.drop k).length = k + 1 + (P.length - k) := by
      rw [List.length_append, List.length_append, List.length_take, List.length_drop, List.length_singleton]; omega
    have HO6 : Hid (OwnsBy V6 W0.heap.size v6 (P.take k ++ [128 + x] ++ P.drop k)) := hide (by
      unfold OwnsBy
      rw [hlen, List.map_append, List.map_append]
      exact own6)
    clear own5 own6 grow6 hat6
    obtain ⟨ys, hys⟩ : ∃ ys, ys = P.take k ++ [128 + x] ++ P.drop k := ⟨_, rfl⟩
    have HYS : Hid (∀ z ∈ ys, 0 ≤ z ∧ z ≤ 255) := hide (fun z hz => by
      rw [hys] at hz
      simp only [List.mem_append, List.mem_singleton] at hz
      rcases hz with (hz | hz) | hz
      · exact (unhide HPR) z (List.mem_of_mem_take hz)
      · omega
      · exact (unhide HPR) z (List.mem_of_mem_drop hz))
    rw [← hys] at HO6 hlen
    have HYL : Hid (ys.length ≤ 4000) := hide (by omega)
    clear hys hlen
    obtain ⟨ga, gc, rfl⟩ : ∃ a c, v6 = .slice a ys.length c := by obtain ⟨a, c, e, _⟩ := (ByFr.of_owns (unhide HO6)).at; exact ⟨a, c, e⟩
    refine hK.out _ _ trivial (fun hHeld => ?_)
    clear hK K
    try simp only [Act.put, List.setIfInBounds_toArray, List.set_cons_zero, List.set_cons_succ]
    refine wpAnyH_ready (rs := [15]) (by kernel_rfl) (by simp) ?_
    refine AllReadyH.cons rfl (fun K hK => ?_) AllReadyH.nil
    go_simp
    refine hK.out _ _ trivial (fun hHeld => ?_)
    clear hK K
    try simp only [Act.put, List.setIfInBounds_toArray, List.set_cons_zero, List.set_cons_succ]
    refine wpAnyH_done (by kernel_rfl) ?_ _
    go_wp2_with fail
    go_ret
    exact ⟨_, ys, rfl, (ByFr.of_owns (unhide HO6)).bytesD (unhide HYS), unhide HYL, unhide HBV⟩
end Go.Proofs.YtiljjhipiinafaaGreat
