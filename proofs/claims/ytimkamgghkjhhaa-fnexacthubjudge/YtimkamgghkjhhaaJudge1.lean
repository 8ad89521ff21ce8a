/- Answers kept in an array by node: put, has, needAll, openAnswers. -/
import Derived.Test.YtimkamgghkjhhaaHub2
import Derived.BigRegion
namespace Go.Proofs.Ytimkamgghkjhhaa
open Go.RowKit
set_option linter.unusedVariables false
set_option linter.unusedSimpArgs false

structure Sl where
  a0 : Option Addr
  a1 : Option Addr
  a2 : Option Addr
  a3 : Option Addr
  c0 : Nat
  c1 : Nat
  c2 : Nat
  c3 : Nat
abbrev wcl (n : WordV) (s : Sl) : List Value := [.int .i64 n.kind, .int .i64 n.frm, .int .i64 n.dst, .int .i64 n.inc, .int .i64 n.ver, .int .i64 n.rd, .int .i64 n.g, .slice s.a0 n.incs.length s.c0, .slice s.a1 n.vers.length s.c1, .slice s.a2 n.evs.length s.c2, .slice s.a3 n.outs.length s.c3]
abbrev wag (n : WordV) (s : Sl) : Value := .agg #[.int .i64 n.kind, .int .i64 n.frm, .int .i64 n.dst, .int .i64 n.inc, .int .i64 n.ver, .int .i64 n.rd, .int .i64 n.g, .slice s.a0 n.incs.length s.c0, .slice s.a1 n.vers.length s.c1, .slice s.a2 n.evs.length s.c2, .slice s.a3 n.outs.length s.c3]
def wz : WordV := ⟨0, 0, 0, 0, 0, 0, 0, [], [], [], []⟩
def sz0 : Sl := ⟨none, none, none, none, 0, 0, 0, 0⟩
/-- A word whose slices are these. -/
def WordS (w : World) (n : WordV) (s : Sl) : Prop := WordAt w n (.slice s.a0 n.incs.length s.c0) (.slice s.a1 n.vers.length s.c1) (.slice s.a2 n.evs.length s.c2) (.slice s.a3 n.outs.length s.c3)
theorem WordS.on {w w' : World} {n : WordV} {s : Sl} (hb : Below w.heap.size w w') (h : WordS w n s) : WordS w' n s := WordAt.on hb h
theorem WordAt.sl {w : World} {n : WordV} {vi vv ve vo : Value} (h : WordAt w n vi vv ve vo) : ∃ s : Sl, wordCells n vi vv ve vo = wcl n s ∧ wordAgg n vi vv ve vo = wag n s ∧ WordS w n s := by
  obtain ⟨⟨a0, ac0, e1⟩, ⟨a1, ac1, e2⟩, ⟨a2, ac2, e3⟩, ⟨a3, ac3, e4⟩⟩ := h.sliced
  subst e1 e2 e3 e4
  exact ⟨⟨a0, a1, a2, a3, ac0, ac1, ac2, ac3⟩, rfl, rfl, h⟩

def bitsB (t0 t1 t2 : Bool) : Int := (if t0 then 1 else 0) + (if t1 then 2 else 0) + (if t2 then 4 else 0)
structure Ans where
  x0 : WordV
  x1 : WordV
  x2 : WordV
  s0 : Sl
  s1 : Sl
  s2 : Sl
  t0 : Bool
  t1 : Bool
  t2 : Bool
def noAns : Ans := ⟨wz, wz, wz, sz0, sz0, sz0, false, false, false⟩
abbrev ansCells (A : Ans) : List Value := [.int .i64 A.x0.kind, .int .i64 A.x0.frm, .int .i64 A.x0.dst, .int .i64 A.x0.inc, .int .i64 A.x0.ver, .int .i64 A.x0.rd, .int .i64 A.x0.g, .slice A.s0.a0 A.x0.incs.length A.s0.c0, .slice A.s0.a1 A.x0.vers.length A.s0.c1, .slice A.s0.a2 A.x0.evs.length A.s0.c2, .slice A.s0.a3 A.x0.outs.length A.s0.c3, .int .i64 A.x1.kind, .int .i64 A.x1.frm, .int .i64 A.x1.dst, .int .i64 A.x1.inc, .int .i64 A.x1.ver, .int .i64 A.x1.rd, .int .i64 A.x1.g, .slice A.s1.a0 A.x1.incs.length A.s1.c0, .slice A.s1.a1 A.x1.vers.length A.s1.c1, .slice A.s1.a2 A.x1.evs.length A.s1.c2, .slice A.s1.a3 A.x1.outs.length A.s1.c3, .int .i64 A.x2.kind, .int .i64 A.x2.frm, .int .i64 A.x2.dst, .int .i64 A.x2.inc, .int .i64 A.x2.ver, .int .i64 A.x2.rd, .int .i64 A.x2.g, .slice A.s2.a0 A.x2.incs.length A.s2.c0, .slice A.s2.a1 A.x2.vers.length A.s2.c1, .slice A.s2.a2 A.x2.evs.length A.s2.c2, .slice A.s2.a3 A.x2.outs.length A.s2.c3, .int .u8 (bitsB A.t0 A.t1 A.t2)]
abbrev ansAgg (A : Ans) : Value := .agg #[.int .i64 A.x0.kind, .int .i64 A.x0.frm, .int .i64 A.x0.dst, .int .i64 A.x0.inc, .int .i64 A.x0.ver, .int .i64 A.x0.rd, .int .i64 A.x0.g, .slice A.s0.a0 A.x0.incs.length A.s0.c0, .slice A.s0.a1 A.x0.vers.length A.s0.c1, .slice A.s0.a2 A.x0.evs.length A.s0.c2, .slice A.s0.a3 A.x0.outs.length A.s0.c3, .int .i64 A.x1.kind, .int .i64 A.x1.frm, .int .i64 A.x1.dst, .int .i64 A.x1.inc, .int .i64 A.x1.ver, .int .i64 A.x1.rd, .int .i64 A.x1.g, .slice A.s1.a0 A.x1.incs.length A.s1.c0, .slice A.s1.a1 A.x1.vers.length A.s1.c1, .slice A.s1.a2 A.x1.evs.length A.s1.c2, .slice A.s1.a3 A.x1.outs.length A.s1.c3, .int .i64 A.x2.kind, .int .i64 A.x2.frm, .int .i64 A.x2.dst, .int .i64 A.x2.inc, .int .i64 A.x2.ver, .int .i64 A.x2.rd, .int .i64 A.x2.g, .slice A.s2.a0 A.x2.incs.length A.s2.c0, .slice A.s2.a1 A.x2.vers.length A.s2.c1, .slice A.s2.a2 A.x2.evs.length A.s2.c2, .slice A.s2.a3 A.x2.outs.length A.s2.c3, .int .u8 (bitsB A.t0 A.t1 A.t2)]
abbrev ansF (A : Ans) : Nat → Value := fun i => (ansCells A).getD i undef
/-- Of what lay there only block q may have turned. -/
structure Only1 (q : Nat) (w w' : World) : Prop where
  below : Below q w w'
  other : ∀ b, b ≠ q → b < w.heap.size → w'.heap[b]? = w.heap[b]?
theorem Only1.size {q : Nat} {w w' : World} (h : Only1 q w w') : w.heap.size ≤ w'.heap.size := h.below.size
theorem Only1.trans {q : Nat} {a b c : World} (h : Only1 q a b) (k : Only1 q b c) : Only1 q a c :=
  ⟨h.below.trans k.below, fun i hi hl => (k.other i hi (Nat.lt_of_lt_of_le hl h.size)).trans (h.other i hi hl)⟩
theorem Only1.of {q : Nat} {w w' : World} (h : Below w.heap.size w w') (hq : q ≤ w.heap.size) : Only1 q w w' := ⟨h.mono hq, fun b _ hl => h.block b hl⟩

def Ans.put (A : Ans) (id : Nat) (n : WordV) (s : Sl) : Ans :=
  if id = 0 then ⟨n, A.x1, A.x2, s, A.s1, A.s2, true, A.t1, A.t2⟩ else if id = 1 then ⟨A.x0, n, A.x2, A.s0, s, A.s2, A.t0, true, A.t2⟩ else ⟨A.x0, A.x1, n, A.s0, A.s1, s, A.t0, A.t1, true⟩

theorem rowIs_drew1 {w : World} {b t n : Nat} {f : Nat → Value} (h : w.rowIs b t n f) : w.drew.rowIs b t n f := h.of_block rfl
theorem Only1.drew {q : Nat} {w w' : World} (h : Only1 q w w') : Only1 q w w'.drew := ⟨h.below.drew, fun b hb hl => h.other b hb hl⟩
theorem or_bit0 (t0 t1 t2 : Bool) : bits .or .u8 (bitsB t0 t1 t2) 1 = bitsB true t1 t2 := by
  cases t0 <;> cases t1 <;> cases t2 <;> exact of_decide_eq_true (by kernel_rfl)
theorem or_bit1 (t0 t1 t2 : Bool) : bits .or .u8 (bitsB t0 t1 t2) 2 = bitsB t0 true t2 := by
  cases t0 <;> cases t1 <;> cases t2 <;> exact of_decide_eq_true (by kernel_rfl)
theorem or_bit2 (t0 t1 t2 : Bool) : bits .or .u8 (bitsB t0 t1 t2) 4 = bitsB t0 t1 true := by
  cases t0 <;> cases t1 <;> cases t2 <;> exact of_decide_eq_true (by kernel_rfl)
def Ans.tb (A : Ans) (id : Nat) : Bool := if id = 0 then A.t0 else if id = 1 then A.t1 else A.t2
theorem has_bit (A : Ans) (id : Nat) (h : id < 3) : (bits .and .u8 ((bitsB A.t0 A.t1 A.t2) / 2 ^ ((id : Int).toNat)) 1 == 1) = A.tb id := by
  have hi : id = 0 ∨ id = 1 ∨ id = 2 := by omega
  obtain ⟨_, _, _, _, _, _, t0, t1, t2⟩ := A
  rcases hi with rfl | rfl | rfl <;> cases t0 <;> cases t1 <;> cases t2 <;> exact of_decide_eq_true (by kernel_rfl)

set_option maxRecDepth 100000 in
set_option maxHeartbeats 2000000 in
theorem put_0 (A : Ans) (q : Nat) (n : WordV) (s : Sl) (w : World) (hi : n.frm = 0) (h : w.rowIs q 134 34 (ansF A)) :
    Calls Try.prog 116 #[.pointer (some ⟨q, 0, none⟩), wag n s] w fun e w' => e = .returned (.tuple #[]) ∧ w'.rowIs q 134 34 (ansF ⟨n, A.x1, A.x2, s, A.s1, A.s2, true, A.t1, A.t2⟩) ∧ Only1 q w w' := by
  have hql : q < w.heap.size := h.lt
  have hqn : ¬ q = w.heap.size := by omega
  have hqn2 : ¬ w.heap.size = q := by omega
  have hb0 : Below w.heap.size w (w.alloc (.cells #[.int .i64 n.kind, .int .i64 n.frm, .int .i64 n.dst, .int .i64 n.inc, .int .i64 n.ver, .int .i64 n.rd, .int .i64 n.g, .slice s.a0 n.incs.length s.c0, .slice s.a1 n.vers.length s.c1, .slice s.a2 n.evs.length s.c2, .slice s.a3 n.outs.length s.c3] 41)) := (Below.refl _ _).alloc (Nat.le_refl _) _
  have HA := hide (cellsAt_new w (wcl n s) 41)
  have hr := h.of_block (hb0.block q hql)
  have HO := hide (Only1.of (q := q) hb0 (by omega))
  have HI := hide hi
  clear hi h hb0
  go_enter Try.func116, Try.ntmps116
  go_upto_region 1 with fail
  change Hid (CellsAt (w.alloc (.cells #[.int .i64 n.kind, .int .i64 n.frm, .int .i64 n.dst, .int .i64 n.inc, .int .i64 n.ver, .int .i64 n.rd, .int .i64 n.g, .slice s.a0 n.incs.length s.c0, .slice s.a1 n.vers.length s.c1, .slice s.a2 n.evs.length s.c2, .slice s.a3 n.outs.length s.c3] 41)) _ _ _) at HA
  generalize (w.alloc (.cells #[.int .i64 n.kind, .int .i64 n.frm, .int .i64 n.dst, .int .i64 n.inc, .int .i64 n.ver, .int .i64 n.rd, .int .i64 n.g, .slice s.a0 n.incs.length s.c0, .slice s.a1 n.vers.length s.c1, .slice s.a2 n.evs.length s.c2, .slice s.a3 n.outs.length s.c3] 41)) = X at *
  generalize w.heap.size = r at *
  have k0 : X.cell? ⟨r, 0, none⟩ = some (.int .i64 n.kind) := (unhide HA) 0 (by simp)
  have k1 : X.cell? ⟨r, 1, none⟩ = some (.int .i64 n.frm) := (unhide HA) 1 (by simp)
  have k2 : X.cell? ⟨r, 2, none⟩ = some (.int .i64 n.dst) := (unhide HA) 2 (by simp)
  have k3 : X.cell? ⟨r, 3, none⟩ = some (.int .i64 n.inc) := (unhide HA) 3 (by simp)
  have k4 : X.cell? ⟨r, 4, none⟩ = some (.int .i64 n.ver) := (unhide HA) 4 (by simp)
  have k5 : X.cell? ⟨r, 5, none⟩ = some (.int .i64 n.rd) := (unhide HA) 5 (by simp)
  have k6 : X.cell? ⟨r, 6, none⟩ = some (.int .i64 n.g) := (unhide HA) 6 (by simp)
  have k7 : X.cell? ⟨r, 7, none⟩ = some (.slice s.a0 n.incs.length s.c0) := (unhide HA) 7 (by simp)
  have k8 : X.cell? ⟨r, 8, none⟩ = some (.slice s.a1 n.vers.length s.c1) := (unhide HA) 8 (by simp)
  have k9 : X.cell? ⟨r, 9, none⟩ = some (.slice s.a2 n.evs.length s.c2) := (unhide HA) 9 (by simp)
  have k10 : X.cell? ⟨r, 10, none⟩ = some (.slice s.a3 n.outs.length s.c3) := (unhide HA) 10 (by simp)
  rw [unhide HI] at k1
  have g0 : X.cell? ⟨q, 0, none⟩ = some (.int .i64 A.x0.kind) := hr.cell (i := 0) (by omega)
  have z0 : X.frozen? ⟨q, 0, none⟩ = false := hr.frozen 0
  have g1 : X.cell? ⟨q, 1, none⟩ = some (.int .i64 A.x0.frm) := hr.cell (i := 1) (by omega)
  have z1 : X.frozen? ⟨q, 1, none⟩ = false := hr.frozen 1
  have g2 : X.cell? ⟨q, 2, none⟩ = some (.int .i64 A.x0.dst) := hr.cell (i := 2) (by omega)
  have z2 : X.frozen? ⟨q, 2, none⟩ = false := hr.frozen 2
  have g3 : X.cell? ⟨q, 3, none⟩ = some (.int .i64 A.x0.inc) := hr.cell (i := 3) (by omega)
  have z3 : X.frozen? ⟨q, 3, none⟩ = false := hr.frozen 3
  have g4 : X.cell? ⟨q, 4, none⟩ = some (.int .i64 A.x0.ver) := hr.cell (i := 4) (by omega)
  have z4 : X.frozen? ⟨q, 4, none⟩ = false := hr.frozen 4
  have g5 : X.cell? ⟨q, 5, none⟩ = some (.int .i64 A.x0.rd) := hr.cell (i := 5) (by omega)
  have z5 : X.frozen? ⟨q, 5, none⟩ = false := hr.frozen 5
  have g6 : X.cell? ⟨q, 6, none⟩ = some (.int .i64 A.x0.g) := hr.cell (i := 6) (by omega)
  have z6 : X.frozen? ⟨q, 6, none⟩ = false := hr.frozen 6
  have g7 : X.cell? ⟨q, 7, none⟩ = some (.slice A.s0.a0 A.x0.incs.length A.s0.c0) := hr.cell (i := 7) (by omega)
  have z7 : X.frozen? ⟨q, 7, none⟩ = false := hr.frozen 7
  have g8 : X.cell? ⟨q, 8, none⟩ = some (.slice A.s0.a1 A.x0.vers.length A.s0.c1) := hr.cell (i := 8) (by omega)
  have z8 : X.frozen? ⟨q, 8, none⟩ = false := hr.frozen 8
  have g9 : X.cell? ⟨q, 9, none⟩ = some (.slice A.s0.a2 A.x0.evs.length A.s0.c2) := hr.cell (i := 9) (by omega)
  have z9 : X.frozen? ⟨q, 9, none⟩ = false := hr.frozen 9
  have g10 : X.cell? ⟨q, 10, none⟩ = some (.slice A.s0.a3 A.x0.outs.length A.s0.c3) := hr.cell (i := 10) (by omega)
  have z10 : X.frozen? ⟨q, 10, none⟩ = false := hr.frozen 10
  have g33 : X.cell? ⟨q, 33, none⟩ = some (.int .u8 (bitsB A.t0 A.t1 A.t2)) := hr.cell (i := 33) (by omega)
  have z33 : X.frozen? ⟨q, 33, none⟩ = false := hr.frozen 33
  have HR := hide hr
  have hor := or_bit0 A.t0 A.t1 A.t2
  clear hr
  go_region
  go_upto_region 2 with fail
  go_region
  have HF : Hid ((setVals (setVals X q 0 (wcl n s)) q 33 [.int .u8 (bitsB true A.t1 A.t2)]).rowIs q 134 34 (ansF ⟨n, A.x1, A.x2, s, A.s1, A.s2, true, A.t1, A.t2⟩)) := hide ((setVals_row _ 33 _ _ (setVals_row (wcl n s) 0 X _ (unhide HR))).congr (fun i hi => by
    have hx : i < 34 := hi
    rcases (show i = 0 ∨ i = 1 ∨ i = 2 ∨ i = 3 ∨ i = 4 ∨ i = 5 ∨ i = 6 ∨ i = 7 ∨ i = 8 ∨ i = 9 ∨ i = 10 ∨ i = 11 ∨ i = 12 ∨ i = 13 ∨ i = 14 ∨ i = 15 ∨ i = 16 ∨ i = 17 ∨ i = 18 ∨ i = 19 ∨ i = 20 ∨ i = 21 ∨ i = 22 ∨ i = 23 ∨ i = 24 ∨ i = 25 ∨ i = 26 ∨ i = 27 ∨ i = 28 ∨ i = 29 ∨ i = 30 ∨ i = 31 ∨ i = 32 ∨ i = 33 by omega) with rfl | rfl | rfl | rfl | rfl | rfl | rfl | rfl | rfl | rfl | rfl | rfl | rfl | rfl | rfl | rfl | rfl | rfl | rfl | rfl | rfl | rfl | rfl | rfl | rfl | rfl | rfl | rfl | rfl | rfl | rfl | rfl | rfl | rfl <;> rfl))
  have HO3 : Hid (Only1 q w (setVals (setVals X q 0 (wcl n s)) q 33 [.int .u8 (bitsB true A.t1 A.t2)])) := hide ((unhide HO).trans ⟨setVals_below _ 33 _ (setVals_below (wcl n s) 0 X (Below.refl _ _) (Nat.le_refl _)) (Nat.le_refl _), fun b hb _ => (setVals_other _ _ _ b hb).trans (setVals_other _ _ _ b hb)⟩)
  have hw : wcl n s = [.int .i64 n.kind, .int .i64 0, .int .i64 n.dst, .int .i64 n.inc, .int .i64 n.ver, .int .i64 n.rd, .int .i64 n.g, .slice s.a0 n.incs.length s.c0, .slice s.a1 n.vers.length s.c1, .slice s.a2 n.evs.length s.c2, .slice s.a3 n.outs.length s.c3] := by
    show ([.int .i64 n.kind, .int .i64 n.frm, .int .i64 n.dst, .int .i64 n.inc, .int .i64 n.ver, .int .i64 n.rd, .int .i64 n.g, .slice s.a0 n.incs.length s.c0, .slice s.a1 n.vers.length s.c1, .slice s.a2 n.evs.length s.c2, .slice s.a3 n.outs.length s.c3] : List Value) = _
    rw [unhide HI]
  rw [hw] at HF HO3
  have hset : ((((((((((((X.setCell ⟨q, 0, none⟩ (.int .i64 n.kind)).setCell ⟨q, 1, none⟩ (.int .i64 0)).setCell ⟨q, 2, none⟩ (.int .i64 n.dst)).setCell ⟨q, 3, none⟩ (.int .i64 n.inc)).setCell ⟨q, 4, none⟩ (.int .i64 n.ver)).setCell ⟨q, 5, none⟩ (.int .i64 n.rd)).setCell ⟨q, 6, none⟩ (.int .i64 n.g)).setCell ⟨q, 7, none⟩ (.slice s.a0 n.incs.length s.c0)).setCell ⟨q, 8, none⟩ (.slice s.a1 n.vers.length s.c1)).setCell ⟨q, 9, none⟩ (.slice s.a2 n.evs.length s.c2)).setCell ⟨q, 10, none⟩ (.slice s.a3 n.outs.length s.c3)).setCell ⟨q, 33, none⟩ (.int .u8 (bitsB true A.t1 A.t2))) = setVals (setVals X q 0 [.int .i64 n.kind, .int .i64 0, .int .i64 n.dst, .int .i64 n.inc, .int .i64 n.ver, .int .i64 n.rd, .int .i64 n.g, .slice s.a0 n.incs.length s.c0, .slice s.a1 n.vers.length s.c1, .slice s.a2 n.evs.length s.c2, .slice s.a3 n.outs.length s.c3]) q 33 [.int .u8 (bitsB true A.t1 A.t2)] := rfl
  rw [← hset] at HF HO3
  clear hw hset
  generalize ((((((((((((X.setCell ⟨q, 0, none⟩ (.int .i64 n.kind)).setCell ⟨q, 1, none⟩ (.int .i64 0)).setCell ⟨q, 2, none⟩ (.int .i64 n.dst)).setCell ⟨q, 3, none⟩ (.int .i64 n.inc)).setCell ⟨q, 4, none⟩ (.int .i64 n.ver)).setCell ⟨q, 5, none⟩ (.int .i64 n.rd)).setCell ⟨q, 6, none⟩ (.int .i64 n.g)).setCell ⟨q, 7, none⟩ (.slice s.a0 n.incs.length s.c0)).setCell ⟨q, 8, none⟩ (.slice s.a1 n.vers.length s.c1)).setCell ⟨q, 9, none⟩ (.slice s.a2 n.evs.length s.c2)).setCell ⟨q, 10, none⟩ (.slice s.a3 n.outs.length s.c3)).setCell ⟨q, 33, none⟩ (.int .u8 (bitsB true A.t1 A.t2))) = Y at *
  exact bodyPost_end (results_none rfl _ _ _) rfl ⟨rfl, rowIs_drew1 (rowIs_drew1 (unhide HF)), (unhide HO3).drew.drew⟩

set_option maxRecDepth 100000 in
set_option maxHeartbeats 2000000 in
theorem put_1 (A : Ans) (q : Nat) (n : WordV) (s : Sl) (w : World) (hi : n.frm = 1) (h : w.rowIs q 134 34 (ansF A)) :
    Calls Try.prog 116 #[.pointer (some ⟨q, 0, none⟩), wag n s] w fun e w' => e = .returned (.tuple #[]) ∧ w'.rowIs q 134 34 (ansF ⟨A.x0, n, A.x2, A.s0, s, A.s2, A.t0, true, A.t2⟩) ∧ Only1 q w w' := by
  have hql : q < w.heap.size := h.lt
  have hqn : ¬ q = w.heap.size := by omega
  have hqn2 : ¬ w.heap.size = q := by omega
  have hb0 : Below w.heap.size w (w.alloc (.cells #[.int .i64 n.kind, .int .i64 n.frm, .int .i64 n.dst, .int .i64 n.inc, .int .i64 n.ver, .int .i64 n.rd, .int .i64 n.g, .slice s.a0 n.incs.length s.c0, .slice s.a1 n.vers.length s.c1, .slice s.a2 n.evs.length s.c2, .slice s.a3 n.outs.length s.c3] 41)) := (Below.refl _ _).alloc (Nat.le_refl _) _
  have HA := hide (cellsAt_new w (wcl n s) 41)
  have hr := h.of_block (hb0.block q hql)
  have HO := hide (Only1.of (q := q) hb0 (by omega))
  have HI := hide hi
  clear hi h hb0
  go_enter Try.func116, Try.ntmps116
  go_upto_region 1 with fail
  change Hid (CellsAt (w.alloc (.cells #[.int .i64 n.kind, .int .i64 n.frm, .int .i64 n.dst, .int .i64 n.inc, .int .i64 n.ver, .int .i64 n.rd, .int .i64 n.g, .slice s.a0 n.incs.length s.c0, .slice s.a1 n.vers.length s.c1, .slice s.a2 n.evs.length s.c2, .slice s.a3 n.outs.length s.c3] 41)) _ _ _) at HA
  generalize (w.alloc (.cells #[.int .i64 n.kind, .int .i64 n.frm, .int .i64 n.dst, .int .i64 n.inc, .int .i64 n.ver, .int .i64 n.rd, .int .i64 n.g, .slice s.a0 n.incs.length s.c0, .slice s.a1 n.vers.length s.c1, .slice s.a2 n.evs.length s.c2, .slice s.a3 n.outs.length s.c3] 41)) = X at *
  generalize w.heap.size = r at *
  have k0 : X.cell? ⟨r, 0, none⟩ = some (.int .i64 n.kind) := (unhide HA) 0 (by simp)
  have k1 : X.cell? ⟨r, 1, none⟩ = some (.int .i64 n.frm) := (unhide HA) 1 (by simp)
  have k2 : X.cell? ⟨r, 2, none⟩ = some (.int .i64 n.dst) := (unhide HA) 2 (by simp)
  have k3 : X.cell? ⟨r, 3, none⟩ = some (.int .i64 n.inc) := (unhide HA) 3 (by simp)
  have k4 : X.cell? ⟨r, 4, none⟩ = some (.int .i64 n.ver) := (unhide HA) 4 (by simp)
  have k5 : X.cell? ⟨r, 5, none⟩ = some (.int .i64 n.rd) := (unhide HA) 5 (by simp)
  have k6 : X.cell? ⟨r, 6, none⟩ = some (.int .i64 n.g) := (unhide HA) 6 (by simp)
  have k7 : X.cell? ⟨r, 7, none⟩ = some (.slice s.a0 n.incs.length s.c0) := (unhide HA) 7 (by simp)
  have k8 : X.cell? ⟨r, 8, none⟩ = some (.slice s.a1 n.vers.length s.c1) := (unhide HA) 8 (by simp)
  have k9 : X.cell? ⟨r, 9, none⟩ = some (.slice s.a2 n.evs.length s.c2) := (unhide HA) 9 (by simp)
  have k10 : X.cell? ⟨r, 10, none⟩ = some (.slice s.a3 n.outs.length s.c3) := (unhide HA) 10 (by simp)
  rw [unhide HI] at k1
  have g0 : X.cell? ⟨q, 11, none⟩ = some (.int .i64 A.x1.kind) := hr.cell (i := 11) (by omega)
  have z0 : X.frozen? ⟨q, 11, none⟩ = false := hr.frozen 11
  have g1 : X.cell? ⟨q, 12, none⟩ = some (.int .i64 A.x1.frm) := hr.cell (i := 12) (by omega)
  have z1 : X.frozen? ⟨q, 12, none⟩ = false := hr.frozen 12
  have g2 : X.cell? ⟨q, 13, none⟩ = some (.int .i64 A.x1.dst) := hr.cell (i := 13) (by omega)
  have z2 : X.frozen? ⟨q, 13, none⟩ = false := hr.frozen 13
  have g3 : X.cell? ⟨q, 14, none⟩ = some (.int .i64 A.x1.inc) := hr.cell (i := 14) (by omega)
  have z3 : X.frozen? ⟨q, 14, none⟩ = false := hr.frozen 14
  have g4 : X.cell? ⟨q, 15, none⟩ = some (.int .i64 A.x1.ver) := hr.cell (i := 15) (by omega)
  have z4 : X.frozen? ⟨q, 15, none⟩ = false := hr.frozen 15
  have g5 : X.cell? ⟨q, 16, none⟩ = some (.int .i64 A.x1.rd) := hr.cell (i := 16) (by omega)
  have z5 : X.frozen? ⟨q, 16, none⟩ = false := hr.frozen 16
  have g6 : X.cell? ⟨q, 17, none⟩ = some (.int .i64 A.x1.g) := hr.cell (i := 17) (by omega)
  have z6 : X.frozen? ⟨q, 17, none⟩ = false := hr.frozen 17
  have g7 : X.cell? ⟨q, 18, none⟩ = some (.slice A.s1.a0 A.x1.incs.length A.s1.c0) := hr.cell (i := 18) (by omega)
  have z7 : X.frozen? ⟨q, 18, none⟩ = false := hr.frozen 18
  have g8 : X.cell? ⟨q, 19, none⟩ = some (.slice A.s1.a1 A.x1.vers.length A.s1.c1) := hr.cell (i := 19) (by omega)
  have z8 : X.frozen? ⟨q, 19, none⟩ = false := hr.frozen 19
  have g9 : X.cell? ⟨q, 20, none⟩ = some (.slice A.s1.a2 A.x1.evs.length A.s1.c2) := hr.cell (i := 20) (by omega)
  have z9 : X.frozen? ⟨q, 20, none⟩ = false := hr.frozen 20
  have g10 : X.cell? ⟨q, 21, none⟩ = some (.slice A.s1.a3 A.x1.outs.length A.s1.c3) := hr.cell (i := 21) (by omega)
  have z10 : X.frozen? ⟨q, 21, none⟩ = false := hr.frozen 21
  have g33 : X.cell? ⟨q, 33, none⟩ = some (.int .u8 (bitsB A.t0 A.t1 A.t2)) := hr.cell (i := 33) (by omega)
  have z33 : X.frozen? ⟨q, 33, none⟩ = false := hr.frozen 33
  have HR := hide hr
  have hor := or_bit1 A.t0 A.t1 A.t2
  clear hr
  go_region
  go_upto_region 2 with fail
  go_region
  have HF : Hid ((setVals (setVals X q 11 (wcl n s)) q 33 [.int .u8 (bitsB A.t0 true A.t2)]).rowIs q 134 34 (ansF ⟨A.x0, n, A.x2, A.s0, s, A.s2, A.t0, true, A.t2⟩)) := hide ((setVals_row _ 33 _ _ (setVals_row (wcl n s) 11 X _ (unhide HR))).congr (fun i hi => by
    have hx : i < 34 := hi
    rcases (show i = 0 ∨ i = 1 ∨ i = 2 ∨ i = 3 ∨ i = 4 ∨ i = 5 ∨ i = 6 ∨ i = 7 ∨ i = 8 ∨ i = 9 ∨ i = 10 ∨ i = 11 ∨ i = 12 ∨ i = 13 ∨ i = 14 ∨ i = 15 ∨ i = 16 ∨ i = 17 ∨ i = 18 ∨ i = 19 ∨ i = 20 ∨ i = 21 ∨ i = 22 ∨ i = 23 ∨ i = 24 ∨ i = 25 ∨ i = 26 ∨ i = 27 ∨ i = 28 ∨ i = 29 ∨ i = 30 ∨ i = 31 ∨ i = 32 ∨ i = 33 by omega) with rfl | rfl | rfl | rfl | rfl | rfl | rfl | rfl | rfl | rfl | rfl | rfl | rfl | rfl | rfl | rfl | rfl | rfl | rfl | rfl | rfl | rfl | rfl | rfl | rfl | rfl | rfl | rfl | rfl | rfl | rfl | rfl | rfl | rfl <;> rfl))
  have HO3 : Hid (Only1 q w (setVals (setVals X q 11 (wcl n s)) q 33 [.int .u8 (bitsB A.t0 true A.t2)])) := hide ((unhide HO).trans ⟨setVals_below _ 33 _ (setVals_below (wcl n s) 11 X (Below.refl _ _) (Nat.le_refl _)) (Nat.le_refl _), fun b hb _ => (setVals_other _ _ _ b hb).trans (setVals_other _ _ _ b hb)⟩)
  have hw : wcl n s = [.int .i64 n.kind, .int .i64 1, .int .i64 n.dst, .int .i64 n.inc, .int .i64 n.ver, .int .i64 n.rd, .int .i64 n.g, .slice s.a0 n.incs.length s.c0, .slice s.a1 n.vers.length s.c1, .slice s.a2 n.evs.length s.c2, .slice s.a3 n.outs.length s.c3] := by
    show ([.int .i64 n.kind, .int .i64 n.frm, .int .i64 n.dst, .int .i64 n.inc, .int .i64 n.ver, .int .i64 n.rd, .int .i64 n.g, .slice s.a0 n.incs.length s.c0, .slice s.a1 n.vers.length s.c1, .slice s.a2 n.evs.length s.c2, .slice s.a3 n.outs.length s.c3] : List Value) = _
    rw [unhide HI]
  rw [hw] at HF HO3
  have hset : ((((((((((((X.setCell ⟨q, 11, none⟩ (.int .i64 n.kind)).setCell ⟨q, 12, none⟩ (.int .i64 1)).setCell ⟨q, 13, none⟩ (.int .i64 n.dst)).setCell ⟨q, 14, none⟩ (.int .i64 n.inc)).setCell ⟨q, 15, none⟩ (.int .i64 n.ver)).setCell ⟨q, 16, none⟩ (.int .i64 n.rd)).setCell ⟨q, 17, none⟩ (.int .i64 n.g)).setCell ⟨q, 18, none⟩ (.slice s.a0 n.incs.length s.c0)).setCell ⟨q, 19, none⟩ (.slice s.a1 n.vers.length s.c1)).setCell ⟨q, 20, none⟩ (.slice s.a2 n.evs.length s.c2)).setCell ⟨q, 21, none⟩ (.slice s.a3 n.outs.length s.c3)).setCell ⟨q, 33, none⟩ (.int .u8 (bitsB A.t0 true A.t2))) = setVals (setVals X q 11 [.int .i64 n.kind, .int .i64 1, .int .i64 n.dst, .int .i64 n.inc, .int .i64 n.ver, .int .i64 n.rd, .int .i64 n.g, .slice s.a0 n.incs.length s.c0, .slice s.a1 n.vers.length s.c1, .slice s.a2 n.evs.length s.c2, .slice s.a3 n.outs.length s.c3]) q 33 [.int .u8 (bitsB A.t0 true A.t2)] := rfl
  rw [← hset] at HF HO3
  clear hw hset
  generalize ((((((((((((X.setCell ⟨q, 11, none⟩ (.int .i64 n.kind)).setCell ⟨q, 12, none⟩ (.int .i64 1)).setCell ⟨q, 13, none⟩ (.int .i64 n.dst)).setCell ⟨q, 14, none⟩ (.int .i64 n.inc)).setCell ⟨q, 15, none⟩ (.int .i64 n.ver)).setCell ⟨q, 16, none⟩ (.int .i64 n.rd)).setCell ⟨q, 17, none⟩ (.int .i64 n.g)).setCell ⟨q, 18, none⟩ (.slice s.a0 n.incs.length s.c0)).setCell ⟨q, 19, none⟩ (.slice s.a1 n.vers.length s.c1)).setCell ⟨q, 20, none⟩ (.slice s.a2 n.evs.length s.c2)).setCell ⟨q, 21, none⟩ (.slice s.a3 n.outs.length s.c3)).setCell ⟨q, 33, none⟩ (.int .u8 (bitsB A.t0 true A.t2))) = Y at *
  exact bodyPost_end (results_none rfl _ _ _) rfl ⟨rfl, rowIs_drew1 (rowIs_drew1 (unhide HF)), (unhide HO3).drew.drew⟩

set_option maxRecDepth 100000 in
set_option maxHeartbeats 2000000 in
theorem put_2 (A : Ans) (q : Nat) (n : WordV) (s : Sl) (w : World) (hi : n.frm = 2) (h : w.rowIs q 134 34 (ansF A)) :
    Calls Try.prog 116 #[.pointer (some ⟨q, 0, none⟩), wag n s] w fun e w' => e = .returned (.tuple #[]) ∧ w'.rowIs q 134 34 (ansF ⟨A.x0, A.x1, n, A.s0, A.s1, s, A.t0, A.t1, true⟩) ∧ Only1 q w w' := by
  have hql : q < w.heap.size := h.lt
  have hqn : ¬ q = w.heap.size := by omega
  have hqn2 : ¬ w.heap.size = q := by omega
  have hb0 : Below w.heap.size w (w.alloc (.cells #[.int .i64 n.kind, .int .i64 n.frm, .int .i64 n.dst, .int .i64 n.inc, .int .i64 n.ver, .int .i64 n.rd, .int .i64 n.g, .slice s.a0 n.incs.length s.c0, .slice s.a1 n.vers.length s.c1, .slice s.a2 n.evs.length s.c2, .slice s.a3 n.outs.length s.c3] 41)) := (Below.refl _ _).alloc (Nat.le_refl _) _
  have HA := hide (cellsAt_new w (wcl n s) 41)
  have hr := h.of_block (hb0.block q hql)
  have HO := hide (Only1.of (q := q) hb0 (by omega))
  have HI := hide hi
  clear hi h hb0
  go_enter Try.func116, Try.ntmps116
  go_upto_region 1 with fail
  change Hid (CellsAt (w.alloc (.cells #[.int .i64 n.kind, .int .i64 n.frm, .int .i64 n.dst, .int .i64 n.inc, .int .i64 n.ver, .int .i64 n.rd, .int .i64 n.g, .slice s.a0 n.incs.length s.c0, .slice s.a1 n.vers.length s.c1, .slice s.a2 n.evs.length s.c2, .slice s.a3 n.outs.length s.c3] 41)) _ _ _) at HA
  generalize (w.alloc (.cells #[.int .i64 n.kind, .int .i64 n.frm, .int .i64 n.dst, .int .i64 n.inc, .int .i64 n.ver, .int .i64 n.rd, .int .i64 n.g, .slice s.a0 n.incs.length s.c0, .slice s.a1 n.vers.length s.c1, .slice s.a2 n.evs.length s.c2, .slice s.a3 n.outs.length s.c3] 41)) = X at *
  generalize w.heap.size = r at *
  have k0 : X.cell? ⟨r, 0, none⟩ = some (.int .i64 n.kind) := (unhide HA) 0 (by simp)
  have k1 : X.cell? ⟨r, 1, none⟩ = some (.int .i64 n.frm) := (unhide HA) 1 (by simp)
  have k2 : X.cell? ⟨r, 2, none⟩ = some (.int .i64 n.dst) := (unhide HA) 2 (by simp)
  have k3 : X.cell? ⟨r, 3, none⟩ = some (.int .i64 n.inc) := (unhide HA) 3 (by simp)
  have k4 : X.cell? ⟨r, 4, none⟩ = some (.int .i64 n.ver) := (unhide HA) 4 (by simp)
  have k5 : X.cell? ⟨r, 5, none⟩ = some (.int .i64 n.rd) := (unhide HA) 5 (by simp)
  have k6 : X.cell? ⟨r, 6, none⟩ = some (.int .i64 n.g) := (unhide HA) 6 (by simp)
  have k7 : X.cell? ⟨r, 7, none⟩ = some (.slice s.a0 n.incs.length s.c0) := (unhide HA) 7 (by simp)
  have k8 : X.cell? ⟨r, 8, none⟩ = some (.slice s.a1 n.vers.length s.c1) := (unhide HA) 8 (by simp)
  have k9 : X.cell? ⟨r, 9, none⟩ = some (.slice s.a2 n.evs.length s.c2) := (unhide HA) 9 (by simp)
  have k10 : X.cell? ⟨r, 10, none⟩ = some (.slice s.a3 n.outs.length s.c3) := (unhide HA) 10 (by simp)
  rw [unhide HI] at k1
  have g0 : X.cell? ⟨q, 22, none⟩ = some (.int .i64 A.x2.kind) := hr.cell (i := 22) (by omega)
  have z0 : X.frozen? ⟨q, 22, none⟩ = false := hr.frozen 22
  have g1 : X.cell? ⟨q, 23, none⟩ = some (.int .i64 A.x2.frm) := hr.cell (i := 23) (by omega)
  have z1 : X.frozen? ⟨q, 23, none⟩ = false := hr.frozen 23
  have g2 : X.cell? ⟨q, 24, none⟩ = some (.int .i64 A.x2.dst) := hr.cell (i := 24) (by omega)
  have z2 : X.frozen? ⟨q, 24, none⟩ = false := hr.frozen 24
  have g3 : X.cell? ⟨q, 25, none⟩ = some (.int .i64 A.x2.inc) := hr.cell (i := 25) (by omega)
  have z3 : X.frozen? ⟨q, 25, none⟩ = false := hr.frozen 25
  have g4 : X.cell? ⟨q, 26, none⟩ = some (.int .i64 A.x2.ver) := hr.cell (i := 26) (by omega)
  have z4 : X.frozen? ⟨q, 26, none⟩ = false := hr.frozen 26
  have g5 : X.cell? ⟨q, 27, none⟩ = some (.int .i64 A.x2.rd) := hr.cell (i := 27) (by omega)
  have z5 : X.frozen? ⟨q, 27, none⟩ = false := hr.frozen 27
  have g6 : X.cell? ⟨q, 28, none⟩ = some (.int .i64 A.x2.g) := hr.cell (i := 28) (by omega)
  have z6 : X.frozen? ⟨q, 28, none⟩ = false := hr.frozen 28
  have g7 : X.cell? ⟨q, 29, none⟩ = some (.slice A.s2.a0 A.x2.incs.length A.s2.c0) := hr.cell (i := 29) (by omega)
  have z7 : X.frozen? ⟨q, 29, none⟩ = false := hr.frozen 29
  have g8 : X.cell? ⟨q, 30, none⟩ = some (.slice A.s2.a1 A.x2.vers.length A.s2.c1) := hr.cell (i := 30) (by omega)
  have z8 : X.frozen? ⟨q, 30, none⟩ = false := hr.frozen 30
  have g9 : X.cell? ⟨q, 31, none⟩ = some (.slice A.s2.a2 A.x2.evs.length A.s2.c2) := hr.cell (i := 31) (by omega)
  have z9 : X.frozen? ⟨q, 31, none⟩ = false := hr.frozen 31
  have g10 : X.cell? ⟨q, 32, none⟩ = some (.slice A.s2.a3 A.x2.outs.length A.s2.c3) := hr.cell (i := 32) (by omega)
  have z10 : X.frozen? ⟨q, 32, none⟩ = false := hr.frozen 32
  have g33 : X.cell? ⟨q, 33, none⟩ = some (.int .u8 (bitsB A.t0 A.t1 A.t2)) := hr.cell (i := 33) (by omega)
  have z33 : X.frozen? ⟨q, 33, none⟩ = false := hr.frozen 33
  have HR := hide hr
  have hor := or_bit2 A.t0 A.t1 A.t2
  clear hr
  go_region
  go_upto_region 2 with fail
  go_region
  have HF : Hid ((setVals (setVals X q 22 (wcl n s)) q 33 [.int .u8 (bitsB A.t0 A.t1 true)]).rowIs q 134 34 (ansF ⟨A.x0, A.x1, n, A.s0, A.s1, s, A.t0, A.t1, true⟩)) := hide ((setVals_row _ 33 _ _ (setVals_row (wcl n s) 22 X _ (unhide HR))).congr (fun i hi => by
    have hx : i < 34 := hi
    rcases (show i = 0 ∨ i = 1 ∨ i = 2 ∨ i = 3 ∨ i = 4 ∨ i = 5 ∨ i = 6 ∨ i = 7 ∨ i = 8 ∨ i = 9 ∨ i = 10 ∨ i = 11 ∨ i = 12 ∨ i = 13 ∨ i = 14 ∨ i = 15 ∨ i = 16 ∨ i = 17 ∨ i = 18 ∨ i = 19 ∨ i = 20 ∨ i = 21 ∨ i = 22 ∨ i = 23 ∨ i = 24 ∨ i = 25 ∨ i = 26 ∨ i = 27 ∨ i = 28 ∨ i = 29 ∨ i = 30 ∨ i = 31 ∨ i = 32 ∨ i = 33 by omega) with rfl | rfl | rfl | rfl | rfl | rfl | rfl | rfl | rfl | rfl | rfl | rfl | rfl | rfl | rfl | rfl | rfl | rfl | rfl | rfl | rfl | rfl | rfl | rfl | rfl | rfl | rfl | rfl | rfl | rfl | rfl | rfl | rfl | rfl <;> rfl))
  have HO3 : Hid (Only1 q w (setVals (setVals X q 22 (wcl n s)) q 33 [.int .u8 (bitsB A.t0 A.t1 true)])) := hide ((unhide HO).trans ⟨setVals_below _ 33 _ (setVals_below (wcl n s) 22 X (Below.refl _ _) (Nat.le_refl _)) (Nat.le_refl _), fun b hb _ => (setVals_other _ _ _ b hb).trans (setVals_other _ _ _ b hb)⟩)
  have hw : wcl n s = [.int .i64 n.kind, .int .i64 2, .int .i64 n.dst, .int .i64 n.inc, .int .i64 n.ver, .int .i64 n.rd, .int .i64 n.g, .slice s.a0 n.incs.length s.c0, .slice s.a1 n.vers.length s.c1, .slice s.a2 n.evs.length s.c2, .slice s.a3 n.outs.length s.c3] := by
    show ([.int .i64 n.kind, .int .i64 n.frm, .int .i64 n.dst, .int .i64 n.inc, .int .i64 n.ver, .int .i64 n.rd, .int .i64 n.g, .slice s.a0 n.incs.length s.c0, .slice s.a1 n.vers.length s.c1, .slice s.a2 n.evs.length s.c2, .slice s.a3 n.outs.length s.c3] : List Value) = _
    rw [unhide HI]
  rw [hw] at HF HO3
  have hset : ((((((((((((X.setCell ⟨q, 22, none⟩ (.int .i64 n.kind)).setCell ⟨q, 23, none⟩ (.int .i64 2)).setCell ⟨q, 24, none⟩ (.int .i64 n.dst)).setCell ⟨q, 25, none⟩ (.int .i64 n.inc)).setCell ⟨q, 26, none⟩ (.int .i64 n.ver)).setCell ⟨q, 27, none⟩ (.int .i64 n.rd)).setCell ⟨q, 28, none⟩ (.int .i64 n.g)).setCell ⟨q, 29, none⟩ (.slice s.a0 n.incs.length s.c0)).setCell ⟨q, 30, none⟩ (.slice s.a1 n.vers.length s.c1)).setCell ⟨q, 31, none⟩ (.slice s.a2 n.evs.length s.c2)).setCell ⟨q, 32, none⟩ (.slice s.a3 n.outs.length s.c3)).setCell ⟨q, 33, none⟩ (.int .u8 (bitsB A.t0 A.t1 true))) = setVals (setVals X q 22 [.int .i64 n.kind, .int .i64 2, .int .i64 n.dst, .int .i64 n.inc, .int .i64 n.ver, .int .i64 n.rd, .int .i64 n.g, .slice s.a0 n.incs.length s.c0, .slice s.a1 n.vers.length s.c1, .slice s.a2 n.evs.length s.c2, .slice s.a3 n.outs.length s.c3]) q 33 [.int .u8 (bitsB A.t0 A.t1 true)] := rfl
  rw [← hset] at HF HO3
  clear hw hset
  generalize ((((((((((((X.setCell ⟨q, 22, none⟩ (.int .i64 n.kind)).setCell ⟨q, 23, none⟩ (.int .i64 2)).setCell ⟨q, 24, none⟩ (.int .i64 n.dst)).setCell ⟨q, 25, none⟩ (.int .i64 n.inc)).setCell ⟨q, 26, none⟩ (.int .i64 n.ver)).setCell ⟨q, 27, none⟩ (.int .i64 n.rd)).setCell ⟨q, 28, none⟩ (.int .i64 n.g)).setCell ⟨q, 29, none⟩ (.slice s.a0 n.incs.length s.c0)).setCell ⟨q, 30, none⟩ (.slice s.a1 n.vers.length s.c1)).setCell ⟨q, 31, none⟩ (.slice s.a2 n.evs.length s.c2)).setCell ⟨q, 32, none⟩ (.slice s.a3 n.outs.length s.c3)).setCell ⟨q, 33, none⟩ (.int .u8 (bitsB A.t0 A.t1 true))) = Y at *
  exact bodyPost_end (results_none rfl _ _ _) rfl ⟨rfl, rowIs_drew1 (rowIs_drew1 (unhide HF)), (unhide HO3).drew.drew⟩

theorem put_any (A : Ans) (q : Nat) (n : WordV) (s : Sl) (w : World) (h0 : 0 ≤ n.frm) (h1 : n.frm ≤ 2) (h : w.rowIs q 134 34 (ansF A)) :
    Calls Try.prog 116 #[.pointer (some ⟨q, 0, none⟩), wag n s] w fun e w' => e = .returned (.tuple #[]) ∧ w'.rowIs q 134 34 (ansF (A.put n.frm.toNat n s)) ∧ Only1 q w w' := by
  have hi : n.frm = 0 ∨ n.frm = 1 ∨ n.frm = 2 := by omega
  rcases hi with hi | hi | hi
  · rw [show (A.put n.frm.toNat n s) = ⟨n, A.x1, A.x2, s, A.s1, A.s2, true, A.t1, A.t2⟩ by rw [hi]; rfl]
    exact put_0 A q n s w hi h
  · rw [show (A.put n.frm.toNat n s) = ⟨A.x0, n, A.x2, A.s0, s, A.s2, A.t0, true, A.t2⟩ by rw [hi]; rfl]
    exact put_1 A q n s w hi h
  · rw [show (A.put n.frm.toNat n s) = ⟨A.x0, A.x1, n, A.s0, A.s1, s, A.t0, A.t1, true⟩ by rw [hi]; rfl]
    exact put_2 A q n s w hi h

theorem has_any (A : Ans) (q o : Nat) (id : Nat) (w : World) (hid : id < 3) (h : w.cell? ⟨q, o + 33, none⟩ = some (.int .u8 (bitsB A.t0 A.t1 A.t2))) :
    Calls Try.prog 117 #[.pointer (some ⟨q, o, none⟩), .int .i64 (id : Int)] w fun e w' => e = .returned (.bool (A.tb id)) ∧ w' = w := by
  have h0 : (0 : Int) ≤ (id : Int) := by omega
  have hb := hide (has_bit A id hid)
  generalize bitsB A.t0 A.t1 A.t2 = b at *
  go_enter Try.func117, Try.ntmps117
  go_wp2_with fail
  go_ret
  exact ⟨ret_bool (unhide hb), rfl⟩

def Ans.all (A : Ans) : Bool := A.t0 && (A.t1 && A.t2)
theorem tb_all (A : Ans) (h : ∀ id, id < 3 → A.tb id = true) : A.all = true := by
  have h0 := h 0 (by omega)
  have h1 := h 1 (by omega)
  have h2 := h 2 (by omega)
  simp only [Ans.tb] at h0 h1 h2
  simp at h0 h1 h2
  simp [Ans.all, h0, h1, h2]
theorem tb_not (A : Ans) (id : Nat) (hid : id < 3) (h : A.tb id = false) : A.all = false := by
  have hi : id = 0 ∨ id = 1 ∨ id = 2 := by omega
  rcases hi with rfl | rfl | rfl <;> simp [Ans.tb] at h <;> simp [Ans.all, h]

end Go.Proofs.Ytimkamgghkjhhaa
