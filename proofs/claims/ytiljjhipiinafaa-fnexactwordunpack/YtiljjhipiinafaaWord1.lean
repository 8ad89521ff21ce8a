/- Words, as they lie in memory; the exact laws' eq, sz, to of them. -/
import Derived.Test.YtiljjhipiinafaaInts1
import Derived.Test.YtiljjhipiinafaaFlatOut
import Derived.Test.YtiljjhipiinafaaBox
import Derived.Test.YtiljjhipiinafaaPast3
import Derived.Deep.Cut
namespace Go.Proofs.Ytiljjhipiinafaa
open Go.RowKit
set_option linter.unusedVariables false
set_option linter.unusedSimpArgs false

structure WordV where
  kind : Int
  frm : Int
  dst : Int
  inc : Int
  ver : Int
  rd : Int
  g : Int
  incs : List Int
  vers : List Int
  evs : List EvV
  outs : List OutV

abbrev wordCells (n : WordV) (vi vv ve vo : Value) : List Value := [.int .i64 n.kind, .int .i64 n.frm, .int .i64 n.dst, .int .i64 n.inc, .int .i64 n.ver, .int .i64 n.rd, .int .i64 n.g, vi, vv, ve, vo]
abbrev wordAgg (n : WordV) (vi vv ve vo : Value) : Value := .agg #[.int .i64 n.kind, .int .i64 n.frm, .int .i64 n.dst, .int .i64 n.inc, .int .i64 n.ver, .int .i64 n.rd, .int .i64 n.g, vi, vv, ve, vo]

/-- The lists of a word. -/
structure WordAt (w : World) (n : WordV) (vi vv ve vo : Value) : Prop where
  i : NumsAt w vi n.incs
  v : NumsAt w vv n.vers
  e : RowsAt 7 w ve (n.evs.map evRow)
  o : RowsAt 5 w vo (n.outs.map outRow)

/-- The lists of a word, each in memory of its own, from block N on. -/
structure WordFr (N : Nat) (w : World) (n : WordV) (vi vv ve vo : Value) : Prop where
  i : RowsFr N 3 1 w vi (n.incs.map fun z => [z])
  v : RowsFr N 3 1 w vv (n.vers.map fun z => [z])
  e : RowsFr N 53 7 w ve (n.evs.map evRow)
  o : RowsFr N 56 5 w vo (n.outs.map outRow)

theorem WordFr.at {N : Nat} {w : World} {n : WordV} {vi vv ve vo : Value} (h : WordFr N w n vi vv ve vo) : WordAt w n vi vv ve vo := ⟨h.i.at, h.v.at, h.e.at, h.o.at⟩
theorem WordFr.on {N : Nat} {w w' : World} {n : WordV} {vi vv ve vo : Value} (hb : Below w.heap.size w w') (h : WordFr N w n vi vv ve vo) : WordFr N w' n vi vv ve vo := ⟨h.i.on hb, h.v.on hb, h.e.on hb, h.o.on hb⟩
theorem WordFr.less {N M : Nat} {w : World} {n : WordV} {vi vv ve vo : Value} (hNM : M ≤ N) (h : WordFr N w n vi vv ve vo) : WordFr M w n vi vv ve vo := ⟨h.i.less hNM, h.v.less hNM, h.e.less hNM, h.o.less hNM⟩
theorem WordFr.setV {N r o : Nat} {w : World} {n : WordV} {vi vv ve vo : Value} (h : WordFr N w n vi vv ve vo) (hr : r < N) (xs : List Value) : WordFr N (setVals w r o xs) n vi vv ve vo := ⟨h.i.setV hr xs, h.v.setV hr xs, h.e.setV hr xs, h.o.setV hr xs⟩

theorem WordAt.on {w w' : World} {n : WordV} {vi vv ve vo : Value} (hb : Below w.heap.size w w') (h : WordAt w n vi vv ve vo) : WordAt w' n vi vv ve vo :=
  ⟨h.i.on hb, h.v.on hb, h.e.on hb, h.o.on hb⟩

theorem rowsLen {α : Type} {f : α → List Int} {k : Nat} {w : World} {v : Value} {l : List α} (h : RowsAt k w v (l.map f)) : ∃ a c, v = .slice a l.length c := by
  obtain ⟨a, c, e, _⟩ := h
  rw [List.length_map] at e
  exact ⟨a, c, e⟩

theorem WordAt.sliced {w : World} {n : WordV} {vi vv ve vo : Value} (h : WordAt w n vi vv ve vo) :
    (∃ a c, vi = .slice a n.incs.length c) ∧ (∃ a c, vv = .slice a n.vers.length c) ∧ (∃ a c, ve = .slice a n.evs.length c) ∧ ∃ a c, vo = .slice a n.outs.length c :=
  ⟨h.i.sliced, h.v.sliced, rowsLen h.e, rowsLen h.o⟩

set_option maxRecDepth 100000 in
set_option maxHeartbeats 2000000 in
theorem eqWord_any (n : WordV) (vi vv ve vo ui uv ue uo : Value) (w : World) (h1 : WordAt w n vi vv ve vo) (h2 : WordAt w n ui uv ue uo) :
    Calls Try.prog 16 #[wordAgg n vi vv ve vo, wordAgg n ui uv ue uo] w fun e w' => e = .returned (.bool true) ∧ Below w.heap.size w w' := by
  have H1 := hide h1
  have H2 := hide h2
  obtain ⟨⟨a0, ac0, e1⟩, ⟨a1, ac1, e2⟩, ⟨a2, ac2, e3⟩, ⟨a3, ac3, e4⟩⟩ := h1.sliced
  subst e1 e2 e3 e4
  obtain ⟨⟨b0, bc0, e1⟩, ⟨b1, bc1, e2⟩, ⟨b2, bc2, e3⟩, ⟨b3, bc3, e4⟩⟩ := h2.sliced
  subst e1 e2 e3 e4
  clear h1 h2
  have hqm : ∀ z : Int, (z != z) = false := by intro z; simp
  have hb0 : Below w.heap.size w ((w.alloc (.cells #[.int .i64 n.kind, .int .i64 n.frm, .int .i64 n.dst, .int .i64 n.inc, .int .i64 n.ver, .int .i64 n.rd, .int .i64 n.g, .slice a0 n.incs.length ac0, .slice a1 n.vers.length ac1, .slice a2 n.evs.length ac2, .slice a3 n.outs.length ac3] 27)).alloc (.cells #[.int .i64 n.kind, .int .i64 n.frm, .int .i64 n.dst, .int .i64 n.inc, .int .i64 n.ver, .int .i64 n.rd, .int .i64 n.g, .slice b0 n.incs.length bc0, .slice b1 n.vers.length bc1, .slice b2 n.evs.length bc2, .slice b3 n.outs.length bc3] 27)) := ((Below.refl _ _).alloc (Nat.le_refl _) _).alloc (by simp) _
  have cA : CellsAt ((w.alloc (.cells #[.int .i64 n.kind, .int .i64 n.frm, .int .i64 n.dst, .int .i64 n.inc, .int .i64 n.ver, .int .i64 n.rd, .int .i64 n.g, .slice a0 n.incs.length ac0, .slice a1 n.vers.length ac1, .slice a2 n.evs.length ac2, .slice a3 n.outs.length ac3] 27)).alloc (.cells #[.int .i64 n.kind, .int .i64 n.frm, .int .i64 n.dst, .int .i64 n.inc, .int .i64 n.ver, .int .i64 n.rd, .int .i64 n.g, .slice b0 n.incs.length bc0, .slice b1 n.vers.length bc1, .slice b2 n.evs.length bc2, .slice b3 n.outs.length bc3] 27)) w.heap.size 0 [.int .i64 n.kind, .int .i64 n.frm, .int .i64 n.dst, .int .i64 n.inc, .int .i64 n.ver, .int .i64 n.rd, .int .i64 n.g, .slice a0 n.incs.length ac0, .slice a1 n.vers.length ac1, .slice a2 n.evs.length ac2, .slice a3 n.outs.length ac3] := (cellsAt_new w [.int .i64 n.kind, .int .i64 n.frm, .int .i64 n.dst, .int .i64 n.inc, .int .i64 n.ver, .int .i64 n.rd, .int .i64 n.g, .slice a0 n.incs.length ac0, .slice a1 n.vers.length ac1, .slice a2 n.evs.length ac2, .slice a3 n.outs.length ac3] 27).on ((Below.refl _ _).alloc (Nat.le_refl _) _)
  have cB : CellsAt ((w.alloc (.cells #[.int .i64 n.kind, .int .i64 n.frm, .int .i64 n.dst, .int .i64 n.inc, .int .i64 n.ver, .int .i64 n.rd, .int .i64 n.g, .slice a0 n.incs.length ac0, .slice a1 n.vers.length ac1, .slice a2 n.evs.length ac2, .slice a3 n.outs.length ac3] 27)).alloc (.cells #[.int .i64 n.kind, .int .i64 n.frm, .int .i64 n.dst, .int .i64 n.inc, .int .i64 n.ver, .int .i64 n.rd, .int .i64 n.g, .slice b0 n.incs.length bc0, .slice b1 n.vers.length bc1, .slice b2 n.evs.length bc2, .slice b3 n.outs.length bc3] 27)) (w.heap.size + 1) 0 [.int .i64 n.kind, .int .i64 n.frm, .int .i64 n.dst, .int .i64 n.inc, .int .i64 n.ver, .int .i64 n.rd, .int .i64 n.g, .slice b0 n.incs.length bc0, .slice b1 n.vers.length bc1, .slice b2 n.evs.length bc2, .slice b3 n.outs.length bc3] := by
    have e := cellsAt_new (w.alloc (.cells #[.int .i64 n.kind, .int .i64 n.frm, .int .i64 n.dst, .int .i64 n.inc, .int .i64 n.ver, .int .i64 n.rd, .int .i64 n.g, .slice a0 n.incs.length ac0, .slice a1 n.vers.length ac1, .slice a2 n.evs.length ac2, .slice a3 n.outs.length ac3] 27)) [.int .i64 n.kind, .int .i64 n.frm, .int .i64 n.dst, .int .i64 n.inc, .int .i64 n.ver, .int .i64 n.rd, .int .i64 n.g, .slice b0 n.incs.length bc0, .slice b1 n.vers.length bc1, .slice b2 n.evs.length bc2, .slice b3 n.outs.length bc3] 27
    have hs : (w.alloc (.cells #[.int .i64 n.kind, .int .i64 n.frm, .int .i64 n.dst, .int .i64 n.inc, .int .i64 n.ver, .int .i64 n.rd, .int .i64 n.g, .slice a0 n.incs.length ac0, .slice a1 n.vers.length ac1, .slice a2 n.evs.length ac2, .slice a3 n.outs.length ac3] 27)).heap.size = w.heap.size + 1 := by simp
    rw [hs] at e
    exact e
  have HB0 := hide hb0
  have HA := hide cA
  have HC := hide cB
  clear hb0 cA cB
  go_enter Try.func16, Try.ntmps16
  go_upto_region 1 with fail
  generalize ((w.alloc (.cells #[.int .i64 n.kind, .int .i64 n.frm, .int .i64 n.dst, .int .i64 n.inc, .int .i64 n.ver, .int .i64 n.rd, .int .i64 n.g, .slice a0 n.incs.length ac0, .slice a1 n.vers.length ac1, .slice a2 n.evs.length ac2, .slice a3 n.outs.length ac3] 27)).alloc (.cells #[.int .i64 n.kind, .int .i64 n.frm, .int .i64 n.dst, .int .i64 n.inc, .int .i64 n.ver, .int .i64 n.rd, .int .i64 n.g, .slice b0 n.incs.length bc0, .slice b1 n.vers.length bc1, .slice b2 n.evs.length bc2, .slice b3 n.outs.length bc3] 27)) = X at *
  have k0 : X.cell? ⟨w.heap.size, 0, none⟩ = some (.int .i64 n.kind) := (unhide HA) 0 (by simp)
  have k1 : X.cell? ⟨w.heap.size, 1, none⟩ = some (.int .i64 n.frm) := (unhide HA) 1 (by simp)
  have k2 : X.cell? ⟨w.heap.size, 2, none⟩ = some (.int .i64 n.dst) := (unhide HA) 2 (by simp)
  have k3 : X.cell? ⟨w.heap.size, 3, none⟩ = some (.int .i64 n.inc) := (unhide HA) 3 (by simp)
  have k4 : X.cell? ⟨w.heap.size, 4, none⟩ = some (.int .i64 n.ver) := (unhide HA) 4 (by simp)
  have k5 : X.cell? ⟨w.heap.size, 5, none⟩ = some (.int .i64 n.rd) := (unhide HA) 5 (by simp)
  have k6 : X.cell? ⟨w.heap.size, 6, none⟩ = some (.int .i64 n.g) := (unhide HA) 6 (by simp)
  have k7 : X.cell? ⟨w.heap.size, 7, none⟩ = some (.slice a0 n.incs.length ac0) := (unhide HA) 7 (by simp)
  have k8 : X.cell? ⟨w.heap.size, 8, none⟩ = some (.slice a1 n.vers.length ac1) := (unhide HA) 8 (by simp)
  have k9 : X.cell? ⟨w.heap.size, 9, none⟩ = some (.slice a2 n.evs.length ac2) := (unhide HA) 9 (by simp)
  have k10 : X.cell? ⟨w.heap.size, 10, none⟩ = some (.slice a3 n.outs.length ac3) := (unhide HA) 10 (by simp)
  have l0 : X.cell? ⟨w.heap.size + 1, 0, none⟩ = some (.int .i64 n.kind) := (unhide HC) 0 (by simp)
  have l1 : X.cell? ⟨w.heap.size + 1, 1, none⟩ = some (.int .i64 n.frm) := (unhide HC) 1 (by simp)
  have l2 : X.cell? ⟨w.heap.size + 1, 2, none⟩ = some (.int .i64 n.dst) := (unhide HC) 2 (by simp)
  have l3 : X.cell? ⟨w.heap.size + 1, 3, none⟩ = some (.int .i64 n.inc) := (unhide HC) 3 (by simp)
  have l4 : X.cell? ⟨w.heap.size + 1, 4, none⟩ = some (.int .i64 n.ver) := (unhide HC) 4 (by simp)
  have l5 : X.cell? ⟨w.heap.size + 1, 5, none⟩ = some (.int .i64 n.rd) := (unhide HC) 5 (by simp)
  have l6 : X.cell? ⟨w.heap.size + 1, 6, none⟩ = some (.int .i64 n.g) := (unhide HC) 6 (by simp)
  have l7 : X.cell? ⟨w.heap.size + 1, 7, none⟩ = some (.slice b0 n.incs.length bc0) := (unhide HC) 7 (by simp)
  have l8 : X.cell? ⟨w.heap.size + 1, 8, none⟩ = some (.slice b1 n.vers.length bc1) := (unhide HC) 8 (by simp)
  have l9 : X.cell? ⟨w.heap.size + 1, 9, none⟩ = some (.slice b2 n.evs.length bc2) := (unhide HC) 9 (by simp)
  have l10 : X.cell? ⟨w.heap.size + 1, 10, none⟩ = some (.slice b3 n.outs.length bc3) := (unhide HC) 10 (by simp)
  have hB := unhide HB0
  go_wp2_with fail
  refine (eqIntS_any _ _ n.incs _ ((unhide H1).i.on hB) ((unhide H2).i.on hB)).mono ?_
  rintro e w1 ⟨rfl, hb1⟩
  replace k8 := cell_on hb1 k8
  replace l8 := cell_on hb1 l8
  replace k9 := cell_on hb1 k9
  replace l9 := cell_on hb1 l9
  replace k10 := cell_on hb1 k10
  replace l10 := cell_on hb1 l10
  replace hB := below_then hB hb1
  clear hb1
  go_wp2_with fail
  refine (eqIntS_any _ _ n.vers _ ((unhide H1).v.on hB) ((unhide H2).v.on hB)).mono ?_
  rintro e w2 ⟨rfl, hb2⟩
  replace k9 := cell_on hb2 k9
  replace l9 := cell_on hb2 l9
  replace k10 := cell_on hb2 k10
  replace l10 := cell_on hb2 l10
  replace hB := below_then hB hb2
  clear hb2
  go_wp2_with fail
  refine (eqEventS_any _ _ (n.evs.map evRow) _ ((unhide H1).e.on hB) ((unhide H2).e.on hB)).mono ?_
  rintro e w3 ⟨rfl, hb3⟩
  replace k10 := cell_on hb3 k10
  replace l10 := cell_on hb3 l10
  replace hB := below_then hB hb3
  clear hb3
  go_wp2_with fail
  refine (eqOutS_any _ _ (n.outs.map outRow) _ ((unhide H1).o.on hB) ((unhide H2).o.on hB)).mono ?_
  rintro e w4 ⟨rfl, hb4⟩
  replace hB := below_then hB hb4
  clear hb4
  go_wp2_with fail
  go_ret
  exact ⟨rfl, hB⟩

set_option maxRecDepth 100000 in
set_option maxHeartbeats 1000000 in
theorem szWord_any (n : WordV) (vi vv ve vo : Value) (left : Int) (w : World) (h : WordAt w n vi vv ve vo) (h0 : 0 ≤ left) (h1 : left ≤ 1048576) :
    Calls Try.prog 13 #[wordAgg n vi vv ve vo, .int .i64 left] w fun e w' => ∃ r, e = .returned (.int .i64 r) ∧ (r = -1 ∨ 0 ≤ r ∧ r ≤ left ∧ (n.incs.length : Int) ≤ left ∧ (n.vers.length : Int) ≤ left ∧ (n.evs.length : Int) ≤ left ∧ (n.outs.length : Int) ≤ left) ∧ Below w.heap.size w w' := by
  obtain ⟨⟨a0, ac0, e1⟩, ⟨a1, ac1, e2⟩, ⟨a2, ac2, e3⟩, ⟨a3, ac3, e4⟩⟩ := h.sliced
  subst e1 e2 e3 e4
  have hb : Below w.heap.size w (w.alloc (.cells #[.int .i64 n.kind, .int .i64 n.frm, .int .i64 n.dst, .int .i64 n.inc, .int .i64 n.ver, .int .i64 n.rd, .int .i64 n.g, .slice a0 n.incs.length ac0, .slice a1 n.vers.length ac1, .slice a2 n.evs.length ac2, .slice a3 n.outs.length ac3] 38)) := (Below.refl _ _).alloc (Nat.le_refl _) _
  have cA := hide (cellsAt_new w [.int .i64 n.kind, .int .i64 n.frm, .int .i64 n.dst, .int .i64 n.inc, .int .i64 n.ver, .int .i64 n.rd, .int .i64 n.g, .slice a0 n.incs.length ac0, .slice a1 n.vers.length ac1, .slice a2 n.evs.length ac2, .slice a3 n.outs.length ac3] 38)
  have H := hide (h.on hb)
  clear h
  go_enter Try.func13, Try.ntmps13
  go_upto_region 1 with fail
  change Hid (CellsAt (w.alloc (.cells #[.int .i64 n.kind, .int .i64 n.frm, .int .i64 n.dst, .int .i64 n.inc, .int .i64 n.ver, .int .i64 n.rd, .int .i64 n.g, .slice a0 n.incs.length ac0, .slice a1 n.vers.length ac1, .slice a2 n.evs.length ac2, .slice a3 n.outs.length ac3] 38)) _ _ _) at cA
  generalize (w.alloc (.cells #[.int .i64 n.kind, .int .i64 n.frm, .int .i64 n.dst, .int .i64 n.inc, .int .i64 n.ver, .int .i64 n.rd, .int .i64 n.g, .slice a0 n.incs.length ac0, .slice a1 n.vers.length ac1, .slice a2 n.evs.length ac2, .slice a3 n.outs.length ac3] 38)) = X at *
  have k0 : X.cell? ⟨w.heap.size, 0, none⟩ = some (.int .i64 n.kind) := (unhide cA) 0 (by simp)
  have k1 : X.cell? ⟨w.heap.size, 1, none⟩ = some (.int .i64 n.frm) := (unhide cA) 1 (by simp)
  have k2 : X.cell? ⟨w.heap.size, 2, none⟩ = some (.int .i64 n.dst) := (unhide cA) 2 (by simp)
  have k3 : X.cell? ⟨w.heap.size, 3, none⟩ = some (.int .i64 n.inc) := (unhide cA) 3 (by simp)
  have k4 : X.cell? ⟨w.heap.size, 4, none⟩ = some (.int .i64 n.ver) := (unhide cA) 4 (by simp)
  have k5 : X.cell? ⟨w.heap.size, 5, none⟩ = some (.int .i64 n.rd) := (unhide cA) 5 (by simp)
  have k6 : X.cell? ⟨w.heap.size, 6, none⟩ = some (.int .i64 n.g) := (unhide cA) 6 (by simp)
  have k7 : X.cell? ⟨w.heap.size, 7, none⟩ = some (.slice a0 n.incs.length ac0) := (unhide cA) 7 (by simp)
  have k8 : X.cell? ⟨w.heap.size, 8, none⟩ = some (.slice a1 n.vers.length ac1) := (unhide cA) 8 (by simp)
  have k9 : X.cell? ⟨w.heap.size, 9, none⟩ = some (.slice a2 n.evs.length ac2) := (unhide cA) 9 (by simp)
  have k10 : X.cell? ⟨w.heap.size, 10, none⟩ = some (.slice a3 n.outs.length ac3) := (unhide cA) 10 (by simp)
  go_wp2_with fail
  refine (szIntS_any _ n.incs left _ (unhide H).i h0 h1).mono ?_
  rintro e z0 ⟨r0, rfl, ⟨hr0, hl0⟩ | ⟨hr0, hl0⟩, hz⟩
  · obtain rfl := hz.symm
    subst hr0
    go_wp2_with fail
    go_ret
    exact ⟨-1, rfl, Or.inl rfl, hb⟩
  obtain rfl := hz.symm
  have hm0 : r0 ≤ 1048576 := by omega
  have HL0 := hide hl0
  clear hl0
  go_wp2_with fail
  refine (szIntS_any _ n.vers r0 _ (unhide H).v hr0 hm0).mono ?_
  rintro e z1 ⟨r1, rfl, ⟨hr1, hl1⟩ | ⟨hr1, hl1⟩, hz⟩
  · obtain rfl := hz.symm
    subst hr1
    go_wp2_with fail
    go_ret
    exact ⟨-1, rfl, Or.inl rfl, hb⟩
  obtain rfl := hz.symm
  have hm1 : r1 ≤ 1048576 := by omega
  have HL1 := hide hl1
  clear hl1
  go_wp2_with fail
  refine (szEventS_any _ (n.evs.map evRow) r1 _ (unhide H).e hr1 hm1).mono ?_
  rintro e z2 ⟨r2, rfl, ⟨hr2, hl2⟩ | ⟨hr2, hl2⟩, hz⟩
  · obtain rfl := hz.symm
    subst hr2
    go_wp2_with fail
    go_ret
    exact ⟨-1, rfl, Or.inl rfl, hb⟩
  obtain rfl := hz.symm
  have hm2 : r2 ≤ 1048576 := by omega
  have HL2 := hide hl2
  clear hl2
  go_wp2_with fail
  refine (szOutS_any _ (n.outs.map outRow) r2 _ (unhide H).o hr2 hm2).mono ?_
  rintro e z3 ⟨r3, rfl, ⟨hr3, hl3⟩ | ⟨hr3, hl3⟩, hz⟩
  · obtain rfl := hz.symm
    subst hr3
    go_wp2_with fail
    go_ret
    exact ⟨-1, rfl, Or.inl rfl, hb⟩
  obtain rfl := hz.symm
  have hm3 : r3 ≤ 1048576 := by omega
  have HL3 := hide hl3
  clear hl3
  go_wp2_with fail
  go_ret
  exact ⟨r3, rfl, Or.inr ⟨hr3, by
    have e0 := unhide HL0
    have e1 := unhide HL1
    have e2 := unhide HL2
    have e3 := unhide HL3
    rw [List.length_map] at e2 e3
    omega⟩, hb⟩

theorem RowsFr.setOther' {N t n r o : Nat} {w : World} {v u : Value} {rs : List (List Int)} (h : RowsFr N t n w v rs) (hr : r < N) : RowsFr N t n (w.setCell ⟨r, o, none⟩ u) v rs :=
  h.block (fun g hg _ => Below.heap_setCell w ⟨r, o, none⟩ u g (show g ≠ r by have := (h.blk g hg).1; omega))

theorem rowL_set {w : World} {q t n : Nat} {cs : List Value} (h : w.rowIs q t n (fun i => cs.getD i undef)) (j : Nat) (hj : j < cs.length) (u : Value) : (w.setCell ⟨q, j, none⟩ u).rowIs q t n (fun i => (cs.set j u).getD i undef) :=
  (setVals_row [u] j w _ h).congr (fun i hi => by
    by_cases e : i = j
    · subst e
      simp [hj]
    · have e2 : ¬ (j ≤ i ∧ i < j + [u].length) := by simp; omega
      have e3 : ¬ j = i := fun h => e h.symm
      simp only [e2, if_false]
      simp [List.getElem?_set, e3])

set_option maxRecDepth 100000 in
set_option maxHeartbeats 2000000 in
theorem toWord_any (n : WordV) (vi vv ve vo : Value) (w : World) (h : WordAt w n vi vv ve vo) (hl0 : n.incs.length ≤ 1048576) (hl1 : n.vers.length ≤ 1048576) (hl2 : n.evs.length ≤ 1048576) (hl3 : n.outs.length ≤ 1048576) :
    Calls Try.prog 14 #[wordAgg n vi vv ve vo] w fun e w' => ∃ ui uv ue uo, e = .returned (wordAgg n ui uv ue uo) ∧ WordFr (w.heap.size + 1) w' n ui uv ue uo ∧ Below w.heap.size w w' := by
  obtain ⟨⟨a0, ac0, e1⟩, ⟨a1, ac1, e2⟩, ⟨a2, ac2, e3⟩, ⟨a3, ac3, e4⟩⟩ := h.sliced
  subst e1 e2 e3 e4
  have hb0 : Below w.heap.size w (((w.alloc (.cells #[.int .i64 n.kind, .int .i64 n.frm, .int .i64 n.dst, .int .i64 n.inc, .int .i64 n.ver, .int .i64 n.rd, .int .i64 n.g, .slice a0 n.incs.length ac0, .slice a1 n.vers.length ac1, .slice a2 n.evs.length ac2, .slice a3 n.outs.length ac3] 38)).alloc (.cells #[.int .i64 0, .int .i64 0, .int .i64 0, .int .i64 0, .int .i64 0, .int .i64 0, .int .i64 0, .slice none 0 0, .slice none 0 0, .slice none 0 0, .slice none 0 0] 27)).alloc (.cells #[.int .i64 n.kind, .int .i64 n.frm, .int .i64 n.dst, .int .i64 n.inc, .int .i64 n.ver, .int .i64 n.rd, .int .i64 n.g, .slice none 0 0, .slice none 0 0, .slice none 0 0, .slice none 0 0] 27)) := (((Below.refl _ _).alloc (Nat.le_refl _) _).alloc (by simp) _).alloc (by simp; omega) _
  have rA : (((w.alloc (.cells #[.int .i64 n.kind, .int .i64 n.frm, .int .i64 n.dst, .int .i64 n.inc, .int .i64 n.ver, .int .i64 n.rd, .int .i64 n.g, .slice a0 n.incs.length ac0, .slice a1 n.vers.length ac1, .slice a2 n.evs.length ac2, .slice a3 n.outs.length ac3] 38)).alloc (.cells #[.int .i64 0, .int .i64 0, .int .i64 0, .int .i64 0, .int .i64 0, .int .i64 0, .int .i64 0, .slice none 0 0, .slice none 0 0, .slice none 0 0, .slice none 0 0] 27)).alloc (.cells #[.int .i64 n.kind, .int .i64 n.frm, .int .i64 n.dst, .int .i64 n.inc, .int .i64 n.ver, .int .i64 n.rd, .int .i64 n.g, .slice none 0 0, .slice none 0 0, .slice none 0 0, .slice none 0 0] 27)).rowIs w.heap.size 38 11 (fun i => [.int .i64 n.kind, .int .i64 n.frm, .int .i64 n.dst, .int .i64 n.inc, .int .i64 n.ver, .int .i64 n.rd, .int .i64 n.g, .slice a0 n.incs.length ac0, .slice a1 n.vers.length ac1, .slice a2 n.evs.length ac2, .slice a3 n.outs.length ac3].getD i undef) :=
    (row_new w [.int .i64 n.kind, .int .i64 n.frm, .int .i64 n.dst, .int .i64 n.inc, .int .i64 n.ver, .int .i64 n.rd, .int .i64 n.g, .slice a0 n.incs.length ac0, .slice a1 n.vers.length ac1, .slice a2 n.evs.length ac2, .slice a3 n.outs.length ac3] 38).of_block ((((Below.refl _ _).alloc (Nat.le_refl _) _).alloc (by simp) _).block w.heap.size (by simp))
  have hs1 : (w.alloc (.cells #[.int .i64 n.kind, .int .i64 n.frm, .int .i64 n.dst, .int .i64 n.inc, .int .i64 n.ver, .int .i64 n.rd, .int .i64 n.g, .slice a0 n.incs.length ac0, .slice a1 n.vers.length ac1, .slice a2 n.evs.length ac2, .slice a3 n.outs.length ac3] 38)).heap.size = w.heap.size + 1 := by simp
  have hs2 : ((w.alloc (.cells #[.int .i64 n.kind, .int .i64 n.frm, .int .i64 n.dst, .int .i64 n.inc, .int .i64 n.ver, .int .i64 n.rd, .int .i64 n.g, .slice a0 n.incs.length ac0, .slice a1 n.vers.length ac1, .slice a2 n.evs.length ac2, .slice a3 n.outs.length ac3] 38)).alloc (.cells #[.int .i64 0, .int .i64 0, .int .i64 0, .int .i64 0, .int .i64 0, .int .i64 0, .int .i64 0, .slice none 0 0, .slice none 0 0, .slice none 0 0, .slice none 0 0] 27)).heap.size = w.heap.size + 2 := by simp
  have rR : (((w.alloc (.cells #[.int .i64 n.kind, .int .i64 n.frm, .int .i64 n.dst, .int .i64 n.inc, .int .i64 n.ver, .int .i64 n.rd, .int .i64 n.g, .slice a0 n.incs.length ac0, .slice a1 n.vers.length ac1, .slice a2 n.evs.length ac2, .slice a3 n.outs.length ac3] 38)).alloc (.cells #[.int .i64 0, .int .i64 0, .int .i64 0, .int .i64 0, .int .i64 0, .int .i64 0, .int .i64 0, .slice none 0 0, .slice none 0 0, .slice none 0 0, .slice none 0 0] 27)).alloc (.cells #[.int .i64 n.kind, .int .i64 n.frm, .int .i64 n.dst, .int .i64 n.inc, .int .i64 n.ver, .int .i64 n.rd, .int .i64 n.g, .slice none 0 0, .slice none 0 0, .slice none 0 0, .slice none 0 0] 27)).rowIs (w.heap.size + 1) 27 11 (fun i => [.int .i64 0, .int .i64 0, .int .i64 0, .int .i64 0, .int .i64 0, .int .i64 0, .int .i64 0, .slice none 0 0, .slice none 0 0, .slice none 0 0, .slice none 0 0].getD i undef) := by
    have e := row_new (w.alloc (.cells #[.int .i64 n.kind, .int .i64 n.frm, .int .i64 n.dst, .int .i64 n.inc, .int .i64 n.ver, .int .i64 n.rd, .int .i64 n.g, .slice a0 n.incs.length ac0, .slice a1 n.vers.length ac1, .slice a2 n.evs.length ac2, .slice a3 n.outs.length ac3] 38)) [.int .i64 0, .int .i64 0, .int .i64 0, .int .i64 0, .int .i64 0, .int .i64 0, .int .i64 0, .slice none 0 0, .slice none 0 0, .slice none 0 0, .slice none 0 0] 27
    rw [hs1] at e
    exact e.of_block (((Below.refl _ _).alloc (Nat.le_refl _) _).block (w.heap.size + 1) (by simp))
  have rO : (((w.alloc (.cells #[.int .i64 n.kind, .int .i64 n.frm, .int .i64 n.dst, .int .i64 n.inc, .int .i64 n.ver, .int .i64 n.rd, .int .i64 n.g, .slice a0 n.incs.length ac0, .slice a1 n.vers.length ac1, .slice a2 n.evs.length ac2, .slice a3 n.outs.length ac3] 38)).alloc (.cells #[.int .i64 0, .int .i64 0, .int .i64 0, .int .i64 0, .int .i64 0, .int .i64 0, .int .i64 0, .slice none 0 0, .slice none 0 0, .slice none 0 0, .slice none 0 0] 27)).alloc (.cells #[.int .i64 n.kind, .int .i64 n.frm, .int .i64 n.dst, .int .i64 n.inc, .int .i64 n.ver, .int .i64 n.rd, .int .i64 n.g, .slice none 0 0, .slice none 0 0, .slice none 0 0, .slice none 0 0] 27)).rowIs (w.heap.size + 2) 27 11 (fun i => [.int .i64 n.kind, .int .i64 n.frm, .int .i64 n.dst, .int .i64 n.inc, .int .i64 n.ver, .int .i64 n.rd, .int .i64 n.g, .slice none 0 0, .slice none 0 0, .slice none 0 0, .slice none 0 0].getD i undef) := by
    have e := row_new ((w.alloc (.cells #[.int .i64 n.kind, .int .i64 n.frm, .int .i64 n.dst, .int .i64 n.inc, .int .i64 n.ver, .int .i64 n.rd, .int .i64 n.g, .slice a0 n.incs.length ac0, .slice a1 n.vers.length ac1, .slice a2 n.evs.length ac2, .slice a3 n.outs.length ac3] 38)).alloc (.cells #[.int .i64 0, .int .i64 0, .int .i64 0, .int .i64 0, .int .i64 0, .int .i64 0, .int .i64 0, .slice none 0 0, .slice none 0 0, .slice none 0 0, .slice none 0 0] 27)) [.int .i64 n.kind, .int .i64 n.frm, .int .i64 n.dst, .int .i64 n.inc, .int .i64 n.ver, .int .i64 n.rd, .int .i64 n.g, .slice none 0 0, .slice none 0 0, .slice none 0 0, .slice none 0 0] 27
    rw [hs2] at e
    exact e
  have hs3 : w.heap.size + 3 ≤ (((w.alloc (.cells #[.int .i64 n.kind, .int .i64 n.frm, .int .i64 n.dst, .int .i64 n.inc, .int .i64 n.ver, .int .i64 n.rd, .int .i64 n.g, .slice a0 n.incs.length ac0, .slice a1 n.vers.length ac1, .slice a2 n.evs.length ac2, .slice a3 n.outs.length ac3] 38)).alloc (.cells #[.int .i64 0, .int .i64 0, .int .i64 0, .int .i64 0, .int .i64 0, .int .i64 0, .int .i64 0, .slice none 0 0, .slice none 0 0, .slice none 0 0, .slice none 0 0] 27)).alloc (.cells #[.int .i64 n.kind, .int .i64 n.frm, .int .i64 n.dst, .int .i64 n.inc, .int .i64 n.ver, .int .i64 n.rd, .int .i64 n.g, .slice none 0 0, .slice none 0 0, .slice none 0 0, .slice none 0 0] 27)).heap.size := by simp
  have H := hide h
  have HB := hide hb0
  have RA := hide rA
  have RR := hide rR
  have RO := hide rO
  have HZ := hide hs3
  clear h hb0 rA rR rO hs1 hs2 hs3
  go_enter Try.func14, Try.ntmps14
  go_upto_region 9 with fail
  generalize (((w.alloc (.cells #[.int .i64 n.kind, .int .i64 n.frm, .int .i64 n.dst, .int .i64 n.inc, .int .i64 n.ver, .int .i64 n.rd, .int .i64 n.g, .slice a0 n.incs.length ac0, .slice a1 n.vers.length ac1, .slice a2 n.evs.length ac2, .slice a3 n.outs.length ac3] 38)).alloc (.cells #[.int .i64 0, .int .i64 0, .int .i64 0, .int .i64 0, .int .i64 0, .int .i64 0, .int .i64 0, .slice none 0 0, .slice none 0 0, .slice none 0 0, .slice none 0 0] 27)).alloc (.cells #[.int .i64 n.kind, .int .i64 n.frm, .int .i64 n.dst, .int .i64 n.inc, .int .i64 n.ver, .int .i64 n.rd, .int .i64 n.g, .slice none 0 0, .slice none 0 0, .slice none 0 0, .slice none 0 0] 27)) = W0 at *
  have m7 : W0.cell? ⟨w.heap.size, 7, none⟩ = some (.slice a0 n.incs.length ac0) := (unhide RA).cell (i := 7) (by omega)
  go_wp2_with fail
  clear m7
  refine (toIntS_any _ n.incs _ ((unhide H).i.on (unhide HB)) hl0).mono ?_
  rintro e w1 ⟨u0, rfl, hf, hb⟩
  obtain ⟨d0, k0, e0⟩ := rowsLen hf.at
  subst e0
  have hz := unhide HZ
  have hsz := hb.size
  have F0 := hide ((hf.less (M := w.heap.size + 3) (by omega)).setOther' (r := w.heap.size + 2) (o := 7) (u := .slice d0 n.incs.length k0) (by omega))
  have ro := (unhide RO).of_block (hb.block (w.heap.size + 2) (by omega))
  have g : w1.cell? ⟨w.heap.size + 2, 7, none⟩ = some (.slice none 0 0) := ro.cell (i := 7) (by omega)
  have z : w1.frozen? ⟨w.heap.size + 2, 7, none⟩ = false := ro.frozen 7
  replace RO : Hid ((w1.setCell ⟨w.heap.size + 2, 7, none⟩ (.slice d0 n.incs.length k0)).rowIs (w.heap.size + 2) 27 11 (fun i => [.int .i64 n.kind, .int .i64 n.frm, .int .i64 n.dst, .int .i64 n.inc, .int .i64 n.ver, .int .i64 n.rd, .int .i64 n.g, .slice d0 n.incs.length k0, .slice none 0 0, .slice none 0 0, .slice none 0 0].getD i undef)) := hide (rowL_set ro 7 (by simp) _)
  replace RA := hide (((unhide RA).of_block (hb.block w.heap.size (by omega))).of_block (Below.heap_setCell w1 ⟨w.heap.size + 2, 7, none⟩ (.slice d0 n.incs.length k0) w.heap.size (show w.heap.size ≠ w.heap.size + 2 by omega)))
  replace RR := hide (((unhide RR).of_block (hb.block (w.heap.size + 1) (by omega))).of_block (Below.heap_setCell w1 ⟨w.heap.size + 2, 7, none⟩ (.slice d0 n.incs.length k0) (w.heap.size + 1) (show w.heap.size + 1 ≠ w.heap.size + 2 by omega)))
  replace HB := hide ((below_then (unhide HB) hb).setCell (p := ⟨w.heap.size + 2, 7, none⟩) (show w.heap.size ≤ w.heap.size + 2 by omega) (.slice d0 n.incs.length k0))
  replace HZ : Hid (w.heap.size + 3 ≤ (w1.setCell ⟨w.heap.size + 2, 7, none⟩ (.slice d0 n.incs.length k0)).heap.size) := hide (by rw [show (w1.setCell ⟨w.heap.size + 2, 7, none⟩ (.slice d0 n.incs.length k0)).heap.size = w1.heap.size from by simp]; omega)
  clear hf hb hz hsz ro
  go_upto_region 10 with fail
  clear g z
  generalize w1.setCell ⟨w.heap.size + 2, 7, none⟩ (.slice d0 n.incs.length k0) = W1 at *
  have m8 : W1.cell? ⟨w.heap.size, 8, none⟩ = some (.slice a1 n.vers.length ac1) := (unhide RA).cell (i := 8) (by omega)
  go_wp2_with fail
  clear m8
  refine (toIntS_any _ n.vers _ ((unhide H).v.on (unhide HB)) hl1).mono ?_
  rintro e w2 ⟨u1, rfl, hf, hb⟩
  obtain ⟨d1, k1, e1⟩ := rowsLen hf.at
  subst e1
  have hz := unhide HZ
  have hsz := hb.size
  have F1 := hide ((hf.less (M := w.heap.size + 3) (by omega)).setOther' (r := w.heap.size + 2) (o := 8) (u := .slice d1 n.vers.length k1) (by omega))
  replace F0 := hide (((unhide F0).on hb).setOther' (r := w.heap.size + 2) (o := 8) (u := .slice d1 n.vers.length k1) (by omega))
  have ro := (unhide RO).of_block (hb.block (w.heap.size + 2) (by omega))
  have g : w2.cell? ⟨w.heap.size + 2, 8, none⟩ = some (.slice none 0 0) := ro.cell (i := 8) (by omega)
  have z : w2.frozen? ⟨w.heap.size + 2, 8, none⟩ = false := ro.frozen 8
  replace RO : Hid ((w2.setCell ⟨w.heap.size + 2, 8, none⟩ (.slice d1 n.vers.length k1)).rowIs (w.heap.size + 2) 27 11 (fun i => [.int .i64 n.kind, .int .i64 n.frm, .int .i64 n.dst, .int .i64 n.inc, .int .i64 n.ver, .int .i64 n.rd, .int .i64 n.g, .slice d0 n.incs.length k0, .slice d1 n.vers.length k1, .slice none 0 0, .slice none 0 0].getD i undef)) := hide (rowL_set ro 8 (by simp) _)
  replace RA := hide (((unhide RA).of_block (hb.block w.heap.size (by omega))).of_block (Below.heap_setCell w2 ⟨w.heap.size + 2, 8, none⟩ (.slice d1 n.vers.length k1) w.heap.size (show w.heap.size ≠ w.heap.size + 2 by omega)))
  replace RR := hide (((unhide RR).of_block (hb.block (w.heap.size + 1) (by omega))).of_block (Below.heap_setCell w2 ⟨w.heap.size + 2, 8, none⟩ (.slice d1 n.vers.length k1) (w.heap.size + 1) (show w.heap.size + 1 ≠ w.heap.size + 2 by omega)))
  replace HB := hide ((below_then (unhide HB) hb).setCell (p := ⟨w.heap.size + 2, 8, none⟩) (show w.heap.size ≤ w.heap.size + 2 by omega) (.slice d1 n.vers.length k1))
  replace HZ : Hid (w.heap.size + 3 ≤ (w2.setCell ⟨w.heap.size + 2, 8, none⟩ (.slice d1 n.vers.length k1)).heap.size) := hide (by rw [show (w2.setCell ⟨w.heap.size + 2, 8, none⟩ (.slice d1 n.vers.length k1)).heap.size = w2.heap.size from by simp]; omega)
  clear hf hb hz hsz ro
  go_upto_region 11 with fail
  clear g z
  generalize w2.setCell ⟨w.heap.size + 2, 8, none⟩ (.slice d1 n.vers.length k1) = W2 at *
  have m9 : W2.cell? ⟨w.heap.size, 9, none⟩ = some (.slice a2 n.evs.length ac2) := (unhide RA).cell (i := 9) (by omega)
  go_wp2_with fail
  clear m9
  refine (toEventS_any _ (n.evs.map evRow) _ ((unhide H).e.on (unhide HB)) (by rw [List.length_map]; exact hl2)).mono ?_
  rintro e w3 ⟨u2, rfl, hf, hb⟩
  obtain ⟨d2, k2, e2⟩ := rowsLen hf.at
  subst e2
  have hz := unhide HZ
  have hsz := hb.size
  have F2 := hide ((hf.less (M := w.heap.size + 3) (by omega)).setOther' (r := w.heap.size + 2) (o := 9) (u := .slice d2 n.evs.length k2) (by omega))
  replace F0 := hide (((unhide F0).on hb).setOther' (r := w.heap.size + 2) (o := 9) (u := .slice d2 n.evs.length k2) (by omega))
  replace F1 := hide (((unhide F1).on hb).setOther' (r := w.heap.size + 2) (o := 9) (u := .slice d2 n.evs.length k2) (by omega))
  have ro := (unhide RO).of_block (hb.block (w.heap.size + 2) (by omega))
  have g : w3.cell? ⟨w.heap.size + 2, 9, none⟩ = some (.slice none 0 0) := ro.cell (i := 9) (by omega)
  have z : w3.frozen? ⟨w.heap.size + 2, 9, none⟩ = false := ro.frozen 9
  replace RO : Hid ((w3.setCell ⟨w.heap.size + 2, 9, none⟩ (.slice d2 n.evs.length k2)).rowIs (w.heap.size + 2) 27 11 (fun i => [.int .i64 n.kind, .int .i64 n.frm, .int .i64 n.dst, .int .i64 n.inc, .int .i64 n.ver, .int .i64 n.rd, .int .i64 n.g, .slice d0 n.incs.length k0, .slice d1 n.vers.length k1, .slice d2 n.evs.length k2, .slice none 0 0].getD i undef)) := hide (rowL_set ro 9 (by simp) _)
  replace RA := hide (((unhide RA).of_block (hb.block w.heap.size (by omega))).of_block (Below.heap_setCell w3 ⟨w.heap.size + 2, 9, none⟩ (.slice d2 n.evs.length k2) w.heap.size (show w.heap.size ≠ w.heap.size + 2 by omega)))
  replace RR := hide (((unhide RR).of_block (hb.block (w.heap.size + 1) (by omega))).of_block (Below.heap_setCell w3 ⟨w.heap.size + 2, 9, none⟩ (.slice d2 n.evs.length k2) (w.heap.size + 1) (show w.heap.size + 1 ≠ w.heap.size + 2 by omega)))
  replace HB := hide ((below_then (unhide HB) hb).setCell (p := ⟨w.heap.size + 2, 9, none⟩) (show w.heap.size ≤ w.heap.size + 2 by omega) (.slice d2 n.evs.length k2))
  replace HZ : Hid (w.heap.size + 3 ≤ (w3.setCell ⟨w.heap.size + 2, 9, none⟩ (.slice d2 n.evs.length k2)).heap.size) := hide (by rw [show (w3.setCell ⟨w.heap.size + 2, 9, none⟩ (.slice d2 n.evs.length k2)).heap.size = w3.heap.size from by simp]; omega)
  clear hf hb hz hsz ro
  go_upto_region 12 with fail
  clear g z
  generalize w3.setCell ⟨w.heap.size + 2, 9, none⟩ (.slice d2 n.evs.length k2) = W3 at *
  have m10 : W3.cell? ⟨w.heap.size, 10, none⟩ = some (.slice a3 n.outs.length ac3) := (unhide RA).cell (i := 10) (by omega)
  go_wp2_with fail
  clear m10
  refine (toOutS_any _ (n.outs.map outRow) _ ((unhide H).o.on (unhide HB)) (by rw [List.length_map]; exact hl3)).mono ?_
  rintro e w4 ⟨u3, rfl, hf, hb⟩
  obtain ⟨d3, k3, e3⟩ := rowsLen hf.at
  subst e3
  have hz := unhide HZ
  have hsz := hb.size
  have F3 := hide ((hf.less (M := w.heap.size + 3) (by omega)).setOther' (r := w.heap.size + 2) (o := 10) (u := .slice d3 n.outs.length k3) (by omega))
  replace F0 := hide (((unhide F0).on hb).setOther' (r := w.heap.size + 2) (o := 10) (u := .slice d3 n.outs.length k3) (by omega))
  replace F1 := hide (((unhide F1).on hb).setOther' (r := w.heap.size + 2) (o := 10) (u := .slice d3 n.outs.length k3) (by omega))
  replace F2 := hide (((unhide F2).on hb).setOther' (r := w.heap.size + 2) (o := 10) (u := .slice d3 n.outs.length k3) (by omega))
  have ro := (unhide RO).of_block (hb.block (w.heap.size + 2) (by omega))
  have g : w4.cell? ⟨w.heap.size + 2, 10, none⟩ = some (.slice none 0 0) := ro.cell (i := 10) (by omega)
  have z : w4.frozen? ⟨w.heap.size + 2, 10, none⟩ = false := ro.frozen 10
  replace RO : Hid ((w4.setCell ⟨w.heap.size + 2, 10, none⟩ (.slice d3 n.outs.length k3)).rowIs (w.heap.size + 2) 27 11 (fun i => [.int .i64 n.kind, .int .i64 n.frm, .int .i64 n.dst, .int .i64 n.inc, .int .i64 n.ver, .int .i64 n.rd, .int .i64 n.g, .slice d0 n.incs.length k0, .slice d1 n.vers.length k1, .slice d2 n.evs.length k2, .slice d3 n.outs.length k3].getD i undef)) := hide (rowL_set ro 10 (by simp) _)
  replace RA := hide (((unhide RA).of_block (hb.block w.heap.size (by omega))).of_block (Below.heap_setCell w4 ⟨w.heap.size + 2, 10, none⟩ (.slice d3 n.outs.length k3) w.heap.size (show w.heap.size ≠ w.heap.size + 2 by omega)))
  replace RR := hide (((unhide RR).of_block (hb.block (w.heap.size + 1) (by omega))).of_block (Below.heap_setCell w4 ⟨w.heap.size + 2, 10, none⟩ (.slice d3 n.outs.length k3) (w.heap.size + 1) (show w.heap.size + 1 ≠ w.heap.size + 2 by omega)))
  replace HB := hide ((below_then (unhide HB) hb).setCell (p := ⟨w.heap.size + 2, 10, none⟩) (show w.heap.size ≤ w.heap.size + 2 by omega) (.slice d3 n.outs.length k3))
  replace HZ : Hid (w.heap.size + 3 ≤ (w4.setCell ⟨w.heap.size + 2, 10, none⟩ (.slice d3 n.outs.length k3)).heap.size) := hide (by rw [show (w4.setCell ⟨w.heap.size + 2, 10, none⟩ (.slice d3 n.outs.length k3)).heap.size = w4.heap.size from by simp]; omega)
  clear hf hb hz hsz ro
  go_upto_region 13 with fail
  clear g z
  generalize w4.setCell ⟨w.heap.size + 2, 10, none⟩ (.slice d3 n.outs.length k3) = W4 at *
  have p0 : W4.cell? ⟨w.heap.size + 2, 0, none⟩ = some (.int .i64 n.kind) := (unhide RO).cell (i := 0) (by omega)
  have p1 : W4.cell? ⟨w.heap.size + 2, 1, none⟩ = some (.int .i64 n.frm) := (unhide RO).cell (i := 1) (by omega)
  have p2 : W4.cell? ⟨w.heap.size + 2, 2, none⟩ = some (.int .i64 n.dst) := (unhide RO).cell (i := 2) (by omega)
  have p3 : W4.cell? ⟨w.heap.size + 2, 3, none⟩ = some (.int .i64 n.inc) := (unhide RO).cell (i := 3) (by omega)
  have p4 : W4.cell? ⟨w.heap.size + 2, 4, none⟩ = some (.int .i64 n.ver) := (unhide RO).cell (i := 4) (by omega)
  have p5 : W4.cell? ⟨w.heap.size + 2, 5, none⟩ = some (.int .i64 n.rd) := (unhide RO).cell (i := 5) (by omega)
  have p6 : W4.cell? ⟨w.heap.size + 2, 6, none⟩ = some (.int .i64 n.g) := (unhide RO).cell (i := 6) (by omega)
  have p7 : W4.cell? ⟨w.heap.size + 2, 7, none⟩ = some (.slice d0 n.incs.length k0) := (unhide RO).cell (i := 7) (by omega)
  have p8 : W4.cell? ⟨w.heap.size + 2, 8, none⟩ = some (.slice d1 n.vers.length k1) := (unhide RO).cell (i := 8) (by omega)
  have p9 : W4.cell? ⟨w.heap.size + 2, 9, none⟩ = some (.slice d2 n.evs.length k2) := (unhide RO).cell (i := 9) (by omega)
  have p10 : W4.cell? ⟨w.heap.size + 2, 10, none⟩ = some (.slice d3 n.outs.length k3) := (unhide RO).cell (i := 10) (by omega)
  have r0 : W4.cell? ⟨w.heap.size + 1, 0, none⟩ = some (.int .i64 0) := (unhide RR).cell (i := 0) (by omega)
  have s0 : W4.frozen? ⟨w.heap.size + 1, 0, none⟩ = false := (unhide RR).frozen 0
  have r1 : W4.cell? ⟨w.heap.size + 1, 1, none⟩ = some (.int .i64 0) := (unhide RR).cell (i := 1) (by omega)
  have s1 : W4.frozen? ⟨w.heap.size + 1, 1, none⟩ = false := (unhide RR).frozen 1
  have r2 : W4.cell? ⟨w.heap.size + 1, 2, none⟩ = some (.int .i64 0) := (unhide RR).cell (i := 2) (by omega)
  have s2 : W4.frozen? ⟨w.heap.size + 1, 2, none⟩ = false := (unhide RR).frozen 2
  have r3 : W4.cell? ⟨w.heap.size + 1, 3, none⟩ = some (.int .i64 0) := (unhide RR).cell (i := 3) (by omega)
  have s3 : W4.frozen? ⟨w.heap.size + 1, 3, none⟩ = false := (unhide RR).frozen 3
  have r4 : W4.cell? ⟨w.heap.size + 1, 4, none⟩ = some (.int .i64 0) := (unhide RR).cell (i := 4) (by omega)
  have s4 : W4.frozen? ⟨w.heap.size + 1, 4, none⟩ = false := (unhide RR).frozen 4
  have r5 : W4.cell? ⟨w.heap.size + 1, 5, none⟩ = some (.int .i64 0) := (unhide RR).cell (i := 5) (by omega)
  have s5 : W4.frozen? ⟨w.heap.size + 1, 5, none⟩ = false := (unhide RR).frozen 5
  have r6 : W4.cell? ⟨w.heap.size + 1, 6, none⟩ = some (.int .i64 0) := (unhide RR).cell (i := 6) (by omega)
  have s6 : W4.frozen? ⟨w.heap.size + 1, 6, none⟩ = false := (unhide RR).frozen 6
  have r7 : W4.cell? ⟨w.heap.size + 1, 7, none⟩ = some (.slice none 0 0) := (unhide RR).cell (i := 7) (by omega)
  have s7 : W4.frozen? ⟨w.heap.size + 1, 7, none⟩ = false := (unhide RR).frozen 7
  have r8 : W4.cell? ⟨w.heap.size + 1, 8, none⟩ = some (.slice none 0 0) := (unhide RR).cell (i := 8) (by omega)
  have s8 : W4.frozen? ⟨w.heap.size + 1, 8, none⟩ = false := (unhide RR).frozen 8
  have r9 : W4.cell? ⟨w.heap.size + 1, 9, none⟩ = some (.slice none 0 0) := (unhide RR).cell (i := 9) (by omega)
  have s9 : W4.frozen? ⟨w.heap.size + 1, 9, none⟩ = false := (unhide RR).frozen 9
  have r10 : W4.cell? ⟨w.heap.size + 1, 10, none⟩ = some (.slice none 0 0) := (unhide RR).cell (i := 10) (by omega)
  have s10 : W4.frozen? ⟨w.heap.size + 1, 10, none⟩ = false := (unhide RR).frozen 10
  have EB := hide (setVals_below [.int .i64 n.kind, .int .i64 n.frm, .int .i64 n.dst, .int .i64 n.inc, .int .i64 n.ver, .int .i64 n.rd, .int .i64 n.g, .slice d0 n.incs.length k0, .slice d1 n.vers.length k1, .slice d2 n.evs.length k2, .slice d3 n.outs.length k3] 0 W4 (unhide HB) (show w.heap.size ≤ w.heap.size + 1 by omega))
  have E0 := hide ((unhide F0).setV (r := w.heap.size + 1) (o := 0) (by omega) [.int .i64 n.kind, .int .i64 n.frm, .int .i64 n.dst, .int .i64 n.inc, .int .i64 n.ver, .int .i64 n.rd, .int .i64 n.g, .slice d0 n.incs.length k0, .slice d1 n.vers.length k1, .slice d2 n.evs.length k2, .slice d3 n.outs.length k3])
  have E1 := hide ((unhide F1).setV (r := w.heap.size + 1) (o := 0) (by omega) [.int .i64 n.kind, .int .i64 n.frm, .int .i64 n.dst, .int .i64 n.inc, .int .i64 n.ver, .int .i64 n.rd, .int .i64 n.g, .slice d0 n.incs.length k0, .slice d1 n.vers.length k1, .slice d2 n.evs.length k2, .slice d3 n.outs.length k3])
  have E2 := hide ((unhide F2).setV (r := w.heap.size + 1) (o := 0) (by omega) [.int .i64 n.kind, .int .i64 n.frm, .int .i64 n.dst, .int .i64 n.inc, .int .i64 n.ver, .int .i64 n.rd, .int .i64 n.g, .slice d0 n.incs.length k0, .slice d1 n.vers.length k1, .slice d2 n.evs.length k2, .slice d3 n.outs.length k3])
  have E3 := hide ((unhide F3).setV (r := w.heap.size + 1) (o := 0) (by omega) [.int .i64 n.kind, .int .i64 n.frm, .int .i64 n.dst, .int .i64 n.inc, .int .i64 n.ver, .int .i64 n.rd, .int .i64 n.g, .slice d0 n.incs.length k0, .slice d1 n.vers.length k1, .slice d2 n.evs.length k2, .slice d3 n.outs.length k3])
  clear F0 F1 F2 F3 HB RA RR RO HZ H
  go_wp2_with fail
  refine bodyPost_ret (v := wordAgg n (.slice d0 n.incs.length k0) (.slice d1 n.vers.length k1) (.slice d2 n.evs.length k2) (.slice d3 n.outs.length k3)) (by simp [results, Try.results14, go_sem, r0, r1, r2, r3, r4, r5, r6, r7, r8, r9, r10]) rfl ⟨_, _, _, _, rfl, ⟨(unhide E0).less (by omega), (unhide E1).less (by omega), (unhide E2).less (by omega), (unhide E3).less (by omega)⟩, unhide EB⟩
end Go.Proofs.Ytiljjhipiinafaa
