/- One write to a disk at work. -/
import Derived.Test.YtocgfngcgekciaaSCp2
import Derived.Test.YtocgfngcgekciaaSteps1
import Derived.Test.YtocgfngcgekciaaGrid3
namespace Go.Proofs.Ytocgfngcgekciaa
open Go.RowKit
set_option linter.unusedVariables false
set_option linter.unusedSimpArgs false


def otherNum (d : DiskV) (sec : Bool) : Int := if sec then d.a.num else d.b.num
def headD (d : DiskV) (sec : Bool) (num cnt : Int) : DiskV := if sec then ⟨d.a, ⟨num, cnt, d.b.rows⟩⟩ else ⟨⟨num, cnt, d.a.rows⟩, d.b⟩
def sectorD (d : DiskV) (sec : Bool) (k : Nat) (data : List Int) : DiskV := if sec then ⟨d.a, ⟨d.b.num, d.b.cnt, d.b.rows.set k data⟩⟩ else ⟨⟨d.a.num, d.a.cnt, d.a.rows.set k data⟩, d.b⟩
def writeHeadD (d : DiskV) (sec : Bool) (num cnt : Int) : DiskV := if headOk num cnt && apartB num (otherNum d sec) then headD d sec num cnt else d
def writeSectorD (d : DiskV) (sec : Bool) (k : Nat) (data : List Int) : DiskV := if sectorOk data then sectorD d sec k data else d

/-- A disk at work, whatever its lists' places are. -/
structure Wrote (w0 : World) (p : Nat) (d : DiskV) (ga ca gb cb : Nat) (e : Ending) (w' : World) : Prop where
  e : e = .returned (.tuple #[])
  d : ∃ fa fb, DiskW w0.heap.size w' p d ga ca fa gb cb fb
  b : Below w0.heap.size w0 w'

theorem DiskW.headA {N : Nat} {w : World} {p : Nat} {d : DiskV} {ga ca gb cb : Nat} {fa fb : Nat → Value} (n c : Int) (h : DiskW N w p d ga ca fa gb cb fb) : DiskW N (setVals w p 0 [.int .i64 n, .int .i64 c]) p ⟨⟨n, c, d.a.rows⟩, d.b⟩ ga ca fa gb cb fb := by
  have ho : ∀ b, b ≠ p → (setVals w p 0 [.int .i64 n, .int .i64 c]).heap[b]? = w.heap[b]? := fun b hb => setVals_other _ _ _ b hb
  refine ⟨(setVals_row [.int .i64 n, .int .i64 c] 0 w _ h.row).congr (fun i hi => ?_), h.a.keep2 (ho ga (Ne.symm h.pa)) (fun i hi b hb => ho b (fun e => h.ya i hi (by rw [hb, e]))), h.b.keep2 (ho gb (Ne.symm h.pb)) (fun i hi b hb => ho b (fun e => h.yb i hi (by rw [hb, e]))), h.lo, h.g, h.pa, h.pb, h.x, h.xa, h.xb, h.ya, h.yb⟩
  match i, hi with
  | 0, _ => rfl
  | 1, _ => rfl
  | 2, _ => rfl
  | 3, _ => rfl
  | 4, _ => rfl
  | 5, _ => rfl
theorem DiskW.headB {N : Nat} {w : World} {p : Nat} {d : DiskV} {ga ca gb cb : Nat} {fa fb : Nat → Value} (n c : Int) (h : DiskW N w p d ga ca fa gb cb fb) : DiskW N (setVals w p 3 [.int .i64 n, .int .i64 c]) p ⟨d.a, ⟨n, c, d.b.rows⟩⟩ ga ca fa gb cb fb := by
  have ho : ∀ b, b ≠ p → (setVals w p 3 [.int .i64 n, .int .i64 c]).heap[b]? = w.heap[b]? := fun b hb => setVals_other _ _ _ b hb
  refine ⟨(setVals_row [.int .i64 n, .int .i64 c] 3 w _ h.row).congr (fun i hi => ?_), h.a.keep2 (ho ga (Ne.symm h.pa)) (fun i hi b hb => ho b (fun e => h.ya i hi (by rw [hb, e]))), h.b.keep2 (ho gb (Ne.symm h.pb)) (fun i hi b hb => ho b (fun e => h.yb i hi (by rw [hb, e]))), h.lo, h.g, h.pa, h.pb, h.x, h.xa, h.xb, h.ya, h.yb⟩
  match i, hi with
  | 0, _ => rfl
  | 1, _ => rfl
  | 2, _ => rfl
  | 3, _ => rfl
  | 4, _ => rfl
  | 5, _ => rfl

theorem DiskW.putA {N k : Nat} {w w2 : World} {p : Nat} {d : DiskV} {ga ca gb cb : Nat} {fa fb : Nat → Value} {v : Value} {l : List Int} (h : DiskW N w p d ga ca fa gb cb fb) (hk : k < d.a.rows.length) (hb : Below w.heap.size w w2) (hN : N ≤ w.heap.size)
    (hr : RowsFr w.heap.size 3 1 w2 v (l.map fun z => [z])) : DiskW N (w2.setCell ⟨ga, k, none⟩ v) p ⟨⟨d.a.num, d.a.cnt, d.a.rows.set k l⟩, d.b⟩ ga ca (setF fa k v) gb cb fb := by
  have ho : ∀ b, b ≠ ga → (w2.setCell ⟨ga, k, none⟩ v).heap[b]? = w2.heap[b]? := fun b hb => Below.heap_setCell w2 ⟨ga, k, none⟩ v b (by show b ≠ ga; exact hb)
  have hp : p < w.heap.size := h.row.lt
  have hgb : gb < w.heap.size := h.b.row.lt
  have hlb : ∀ i, i < d.b.rows.length → ∀ b, (fb i).ownBlock = some b → b < w.heap.size := fun i hi b e => ((h.b.rows i hi).blk b e).2
  have hlv : ∀ b, v.ownBlock = some b → w.heap.size ≤ b := fun b e => (hr.blk b e).1
  have hset : ∀ i, (setF fa k v) i = if i = k then v else fa i := fun i => rfl
  refine ⟨((h.row.of_block ((ho p h.pa).trans (hb.block p hp)))).congr (fun i hi => ?_), h.a.put hk hb hN hr, h.b.keep2 ((ho gb (Ne.symm h.g)).trans (hb.block gb hgb)) (fun i hi b e => (ho b (fun e2 => h.xb i hi (by rw [e, e2]))).trans (hb.block b (hlb i hi b e))), h.lo, h.g, h.pa, h.pb, fun i j hi hj b e1 e2 => ?_, fun i hi e => ?_, h.xb, fun i hi e => ?_, h.yb⟩
  · match i, hi with
    | 0, _ => rfl
    | 1, _ => rfl
    | 2, _ => simp [gridV]
    | 3, _ => rfl
    | 4, _ => rfl
    | 5, _ => rfl
  · rw [hset] at e1
    split at e1
    · have := hlv b e1; have := hlb j hj b e2; omega
    · exact h.x i j (by simpa using hi) hj b e1 e2
  · rw [hset] at e
    split at e
    · have := hlv gb e; omega
    · exact h.xa i (by simpa using hi) e
  · rw [hset] at e
    split at e
    · have := hlv p e; omega
    · exact h.ya i (by simpa using hi) e
theorem DiskW.putB {N k : Nat} {w w2 : World} {p : Nat} {d : DiskV} {ga ca gb cb : Nat} {fa fb : Nat → Value} {v : Value} {l : List Int} (h : DiskW N w p d ga ca fa gb cb fb) (hk : k < d.b.rows.length) (hb : Below w.heap.size w w2) (hN : N ≤ w.heap.size)
    (hr : RowsFr w.heap.size 3 1 w2 v (l.map fun z => [z])) : DiskW N (w2.setCell ⟨gb, k, none⟩ v) p ⟨d.a, ⟨d.b.num, d.b.cnt, d.b.rows.set k l⟩⟩ ga ca fa gb cb (setF fb k v) := by
  have ho : ∀ b, b ≠ gb → (w2.setCell ⟨gb, k, none⟩ v).heap[b]? = w2.heap[b]? := fun b hb => Below.heap_setCell w2 ⟨gb, k, none⟩ v b (by show b ≠ gb; exact hb)
  have hp : p < w.heap.size := h.row.lt
  have hga : ga < w.heap.size := h.a.row.lt
  have hla : ∀ i, i < d.a.rows.length → ∀ b, (fa i).ownBlock = some b → b < w.heap.size := fun i hi b e => ((h.a.rows i hi).blk b e).2
  have hlv : ∀ b, v.ownBlock = some b → w.heap.size ≤ b := fun b e => (hr.blk b e).1
  have hset : ∀ i, (setF fb k v) i = if i = k then v else fb i := fun i => rfl
  refine ⟨((h.row.of_block ((ho p h.pb).trans (hb.block p hp)))).congr (fun i hi => ?_), h.a.keep2 ((ho ga h.g).trans (hb.block ga hga)) (fun i hi b e => (ho b (fun e2 => h.xa i hi (by rw [e, e2]))).trans (hb.block b (hla i hi b e))), h.b.put hk hb hN hr, h.lo, h.g, h.pa, h.pb, fun i j hi hj b e1 e2 => ?_, h.xa, fun i hi e => ?_, h.ya, fun i hi e => ?_⟩
  · match i, hi with
    | 0, _ => rfl
    | 1, _ => rfl
    | 2, _ => rfl
    | 3, _ => rfl
    | 4, _ => rfl
    | 5, _ => simp [gridV]
  · rw [hset] at e2
    split at e2
    · have := hlv b e2; have := hla i hi b e1; omega
    · exact h.x i j hi (by simpa using hj) b e1 e2
  · rw [hset] at e
    split at e
    · have := hlv ga e; omega
    · exact h.xb i (by simpa using hi) e
  · rw [hset] at e
    split at e
    · have := hlv p e; omega
    · exact h.yb i (by simpa using hi) e

set_option maxRecDepth 100000 in
set_option maxHeartbeats 2000000 in
theorem slotsFor_any (p : Nat) (sec : Bool) (sct num cnt : Int) (a : Option Addr) (n c : Nat) (w : World) :
    Calls Try.prog 93 #[.pointer (some ⟨p, 0, none⟩), .agg #[.bool sec, .int .i64 sct, .int .i64 num, .int .i64 cnt, .slice a n c]] w fun r w' => r = .returned (.tuple #[.pointer (some ⟨p, if sec then 3 else 0, none⟩), .pointer (some ⟨p, if sec then 0 else 3, none⟩)]) ∧ Below w.heap.size w w' := by
  have hb0 : Below w.heap.size w (w.alloc (.cells #[.bool sec, .int .i64 sct, .int .i64 num, .int .i64 cnt, .slice a n c] 45)) := (Below.refl _ _).alloc (Nat.le_refl _) _
  have K := hide (cellsAt_new w [.bool sec, .int .i64 sct, .int .i64 num, .int .i64 cnt, .slice a n c] 45)
  have HB := hide hb0
  clear hb0
  go_enter Try.func93, Try.ntmps93
  go_upto_region 1 with fail
  generalize (w.alloc (.cells #[.bool sec, .int .i64 sct, .int .i64 num, .int .i64 cnt, .slice a n c] 45)) = W at *
  have m0 : W.cell? ⟨w.heap.size, 0, none⟩ = some (.bool sec) := (unhide K) 0 (by simp)
  have hne : Nonempty (On W) := ⟨⟨W, Below.refl _ _⟩⟩
  cases sec
  · go_upto_region 3 with fail
    refine wp_region_on (by kernel_rfl) (by kernel_rfl) ?_
    repeat (first | go_big_quiet_step (fail) | quiet_step (fail))
    refine wpQuiet_nil ?_
    intro _ hw'
    obtain ⟨nq, hw''⟩ := hw'
    subst hw''
    go_wp2_with fail
    refine bodyPost_ret (v := .tuple #[.pointer (some ⟨p, 0, none⟩), .pointer (some ⟨p, 3, none⟩)]) (by simp [results, Try.results93, go_sem]) rfl ⟨rfl, below_then (unhide HB) nq.h⟩
  · go_upto_region 2 with fail
    refine wp_region_on (by kernel_rfl) (by kernel_rfl) ?_
    repeat (first | go_big_quiet_step (fail) | quiet_step (fail))
    refine wpQuiet_nil ?_
    intro _ hw'
    obtain ⟨nq, hw''⟩ := hw'
    subst hw''
    go_wp2_with fail
    refine bodyPost_ret (v := .tuple #[.pointer (some ⟨p, 3, none⟩), .pointer (some ⟨p, 0, none⟩)]) (by simp [results, Try.results93, go_sem]) rfl ⟨rfl, below_then (unhide HB) nq.h⟩

set_option maxRecDepth 100000 in
set_option maxHeartbeats 4000000 in
theorem writeHead_false (w0 w : World) (p : Nat) (d : DiskV) (ga ca gb cb : Nat) (fa fb : Nat → Value) (sct num cnt : Int) (a : Option Addr) (n c : Nat) (h : DiskW w0.heap.size w p d ga ca fa gb cb fb) (hb : Below w0.heap.size w0 w) :
    Calls Try.prog 81 #[.pointer (some ⟨p, 0, none⟩), .agg #[.bool false, .int .i64 sct, .int .i64 num, .int .i64 cnt, .slice a n c]] w (Wrote w0 p (writeHeadD d false num cnt) ga ca gb cb) := by
  have hb0 : Below w.heap.size w (w.alloc (.cells #[.bool false, .int .i64 sct, .int .i64 num, .int .i64 cnt, .slice a n c] 45)) := (Below.refl _ _).alloc (Nat.le_refl _) _
  have K := hide (cellsAt_new w [.bool false, .int .i64 sct, .int .i64 num, .int .i64 cnt, .slice a n c] 45)
  have HQ := hide (show p < w.heap.size from h.row.lt)
  have HD := hide (h.on hb0)
  have HN := hide (below_then hb hb0)
  have HSZ : Hid (w.heap.size < (w.alloc (.cells #[.bool false, .int .i64 sct, .int .i64 num, .int .i64 cnt, .slice a n c] 45)).heap.size) := hide (by simp)
  have HN0 := hide hb.size
  clear hb0 h hb
  go_enter Try.func81, Try.ntmps81
  go_upto_region 1 with fail
  generalize (w.alloc (.cells #[.bool false, .int .i64 sct, .int .i64 num, .int .i64 cnt, .slice a n c] 45)) = W at *
  have m0 : W.cell? ⟨w.heap.size, 0, none⟩ = some (.bool false) := (unhide K) 0 (by simp)
  have m1 : W.cell? ⟨w.heap.size, 1, none⟩ = some (.int .i64 sct) := (unhide K) 1 (by simp)
  have m2 : W.cell? ⟨w.heap.size, 2, none⟩ = some (.int .i64 num) := (unhide K) 2 (by simp)
  have m3 : W.cell? ⟨w.heap.size, 3, none⟩ = some (.int .i64 cnt) := (unhide K) 3 (by simp)
  have m4 : W.cell? ⟨w.heap.size, 4, none⟩ = some (.slice a n c) := (unhide K) 4 (by simp)
  go_wp2_with fail
  refine (slotsFor_any p false sct num cnt a n c W).mono ?_
  rintro r w1 ⟨rfl, hb1⟩
  clear m0 m1 m2 m3 m4
  replace K := hide ((unhide K).on hb1)
  replace HD := hide ((unhide HD).on hb1)
  replace HN := hide (below_then (unhide HN) hb1)
  replace HSZ := hide (Nat.lt_of_lt_of_le (unhide HSZ) hb1.size)
  clear hb1
  simp only [if_true, if_false, Bool.false_eq_true]
  go_upto_region 2 with fail
  generalize hq : w.heap.size = q at *
  have H1 : Hid (∃ x, x = headOk num cnt) := hide ⟨_, rfl⟩
  obtain ⟨x1, hx1⟩ := unhide H1
  obtain ⟨x2, hx2⟩ : ∃ x, x = apartB num d.b.num := ⟨_, rfl⟩
  clear H1
  have H1 := hide hx1
  have H2 := hide hx2
  clear hx1 hx2
  have hne : Nonempty (On w1) := ⟨⟨w1, Below.refl _ _⟩⟩
  have q2 : ∀ y : On w1, y.y.cell? ⟨q, 2, none⟩ = some (.int .i64 num) := fun y => cell_on y.h ((unhide K) 2 (by simp))
  have q3 : ∀ y : On w1, y.y.cell? ⟨q, 3, none⟩ = some (.int .i64 cnt) := fun y => cell_on y.h ((unhide K) 3 (by simp))
  have qo : ∀ y : On w1, y.y.cell? ⟨p, 3, none⟩ = some (.int .i64 d.b.num) := fun y => cell_on y.h ((unhide HD).cells 3 (by simp))
  cases x1
  · refine wp_region_on (by kernel_rfl) (by kernel_rfl) ?_
    repeat (first | go_big_quiet_step ((first | (go_at_call 76; exact calls_on_same (calls_as (headInForm_any num cnt _) (unhide H1))) | (go_at_call 53; exact calls_on_same (calls_as (areApart_any num d.b.num _) (unhide H2))))) | quiet_step ((first | (go_at_call 76; exact calls_on_same (calls_as (headInForm_any num cnt _) (unhide H1))) | (go_at_call 53; exact calls_on_same (calls_as (areApart_any num d.b.num _) (unhide H2))))))
    refine wpQuiet_nil ?_
    intro _ hw'
    obtain ⟨nq, hw''⟩ := hw'
    subst hw''
    go_wp2_with fail
    refine bodyPost_end (results_none rfl _ _ _) rfl ⟨rfl, ⟨fa, fb, ?_⟩, below_then (unhide HN) nq.h⟩
    have e : writeHeadD d false num cnt = d := by simp [writeHeadD, otherNum, ← unhide H1, ← unhide H2]
    rw [e]
    exact (unhide HD).on nq.h
  cases x2
  · refine wp_region_on (by kernel_rfl) (by kernel_rfl) ?_
    repeat (first | go_big_quiet_step ((first | (go_at_call 76; exact calls_on_same (calls_as (headInForm_any num cnt _) (unhide H1))) | (go_at_call 53; exact calls_on_same (calls_as (areApart_any num d.b.num _) (unhide H2))))) | quiet_step ((first | (go_at_call 76; exact calls_on_same (calls_as (headInForm_any num cnt _) (unhide H1))) | (go_at_call 53; exact calls_on_same (calls_as (areApart_any num d.b.num _) (unhide H2))))))
    refine wpQuiet_nil ?_
    intro _ hw'
    obtain ⟨nq, hw''⟩ := hw'
    subst hw''
    go_wp2_with fail
    refine bodyPost_end (results_none rfl _ _ _) rfl ⟨rfl, ⟨fa, fb, ?_⟩, below_then (unhide HN) nq.h⟩
    have e : writeHeadD d false num cnt = d := by simp [writeHeadD, otherNum, ← unhide H1, ← unhide H2]
    rw [e]
    exact (unhide HD).on nq.h
  refine wp_region_on (by kernel_rfl) (by kernel_rfl) ?_
  repeat (first | go_big_quiet_step ((first | (go_at_call 76; exact calls_on_same (calls_as (headInForm_any num cnt _) (unhide H1))) | (go_at_call 53; exact calls_on_same (calls_as (areApart_any num d.b.num _) (unhide H2))))) | quiet_step ((first | (go_at_call 76; exact calls_on_same (calls_as (headInForm_any num cnt _) (unhide H1))) | (go_at_call 53; exact calls_on_same (calls_as (areApart_any num d.b.num _) (unhide H2))))))
  refine wpQuiet_nil ?_
  intro _ hw'
  obtain ⟨nq, hw''⟩ := hw'
  subst hw''
  replace K := hide ((unhide K).on nq.h)
  replace HD := hide ((unhide HD).on nq.h)
  replace HN := hide (below_then (unhide HN) nq.h)
  clear q2 q3 qo hne
  generalize nq.y = W2 at *
  go_upto_region 3 with fail
  have hc := (unhide HD).cells
  have g0 : W2.cell? ⟨p, 0, none⟩ = some (.int .i64 d.a.num) := hc 0 (by simp)
  have g1 : W2.cell? ⟨p, 1, none⟩ = some (.int .i64 d.a.cnt) := hc 1 (by simp)
  have z0 := (unhide HD).row.frozen 0
  have z1 := (unhide HD).row.frozen 1
  have hpq : ¬ p = q := by have := unhide HQ; omega
  have hqp : ¬ q = p := by have := unhide HQ; omega
  clear hc
  have hk2 : W2.cell? ⟨q, 2, none⟩ = some (.int .i64 num) := (unhide K) 2 (by simp)
  have hk3 : W2.cell? ⟨q, 3, none⟩ = some (.int .i64 cnt) := (unhide K) 3 (by simp)
  go_region_held3 (fun w' => w'.cell? ⟨q, 2, none⟩ = some (.int .i64 num) ∧ w'.cell? ⟨q, 3, none⟩ = some (.int .i64 cnt)) (first | exact ⟨hk2, hk3⟩ | exact ⟨(cell_block (Below.heap_setCell _ _ _ _ (by show q ≠ p; omega))).trans hk2, (cell_block (Below.heap_setCell _ _ _ _ (by show q ≠ p; omega))).trans hk3⟩ | exact ⟨((cell_block (Below.heap_setCell _ _ _ _ (by show q ≠ p; omega))).trans (cell_block (Below.heap_setCell _ _ _ _ (by show q ≠ p; omega)))).trans hk2, ((cell_block (Below.heap_setCell _ _ _ _ (by show q ≠ p; omega))).trans (cell_block (Below.heap_setCell _ _ _ _ (by show q ≠ p; omega)))).trans hk3⟩) (fail)
  go_wp2_with fail
  refine bodyPost_end (results_none rfl _ _ _) rfl ?_
  show Wrote w0 p (writeHeadD d false num cnt) ga ca gb cb _ (setVals W2.drew p 0 [.int .i64 num, .int .i64 cnt])
  have e : writeHeadD d false num cnt = headD d false num cnt := by simp [writeHeadD, otherNum, ← unhide H1, ← unhide H2]
  rw [e]
  exact ⟨rfl, ⟨fa, fb, ((unhide HD).on (Below.refl _ _).drew).headA num cnt⟩, setVals_below _ _ _ (below_then (unhide HN) (Below.refl _ _).drew) (unhide HD).lo⟩

set_option maxRecDepth 100000 in
set_option maxHeartbeats 4000000 in
theorem writeHead_true (w0 w : World) (p : Nat) (d : DiskV) (ga ca gb cb : Nat) (fa fb : Nat → Value) (sct num cnt : Int) (a : Option Addr) (n c : Nat) (h : DiskW w0.heap.size w p d ga ca fa gb cb fb) (hb : Below w0.heap.size w0 w) :
    Calls Try.prog 81 #[.pointer (some ⟨p, 0, none⟩), .agg #[.bool true, .int .i64 sct, .int .i64 num, .int .i64 cnt, .slice a n c]] w (Wrote w0 p (writeHeadD d true num cnt) ga ca gb cb) := by
  have hb0 : Below w.heap.size w (w.alloc (.cells #[.bool true, .int .i64 sct, .int .i64 num, .int .i64 cnt, .slice a n c] 45)) := (Below.refl _ _).alloc (Nat.le_refl _) _
  have K := hide (cellsAt_new w [.bool true, .int .i64 sct, .int .i64 num, .int .i64 cnt, .slice a n c] 45)
  have HQ := hide (show p < w.heap.size from h.row.lt)
  have HD := hide (h.on hb0)
  have HN := hide (below_then hb hb0)
  have HSZ : Hid (w.heap.size < (w.alloc (.cells #[.bool true, .int .i64 sct, .int .i64 num, .int .i64 cnt, .slice a n c] 45)).heap.size) := hide (by simp)
  have HN0 := hide hb.size
  clear hb0 h hb
  go_enter Try.func81, Try.ntmps81
  go_upto_region 1 with fail
  generalize (w.alloc (.cells #[.bool true, .int .i64 sct, .int .i64 num, .int .i64 cnt, .slice a n c] 45)) = W at *
  have m0 : W.cell? ⟨w.heap.size, 0, none⟩ = some (.bool true) := (unhide K) 0 (by simp)
  have m1 : W.cell? ⟨w.heap.size, 1, none⟩ = some (.int .i64 sct) := (unhide K) 1 (by simp)
  have m2 : W.cell? ⟨w.heap.size, 2, none⟩ = some (.int .i64 num) := (unhide K) 2 (by simp)
  have m3 : W.cell? ⟨w.heap.size, 3, none⟩ = some (.int .i64 cnt) := (unhide K) 3 (by simp)
  have m4 : W.cell? ⟨w.heap.size, 4, none⟩ = some (.slice a n c) := (unhide K) 4 (by simp)
  go_wp2_with fail
  refine (slotsFor_any p true sct num cnt a n c W).mono ?_
  rintro r w1 ⟨rfl, hb1⟩
  clear m0 m1 m2 m3 m4
  replace K := hide ((unhide K).on hb1)
  replace HD := hide ((unhide HD).on hb1)
  replace HN := hide (below_then (unhide HN) hb1)
  replace HSZ := hide (Nat.lt_of_lt_of_le (unhide HSZ) hb1.size)
  clear hb1
  simp only [if_true, if_false, Bool.false_eq_true]
  go_upto_region 2 with fail
  generalize hq : w.heap.size = q at *
  have H1 : Hid (∃ x, x = headOk num cnt) := hide ⟨_, rfl⟩
  obtain ⟨x1, hx1⟩ := unhide H1
  obtain ⟨x2, hx2⟩ : ∃ x, x = apartB num d.a.num := ⟨_, rfl⟩
  clear H1
  have H1 := hide hx1
  have H2 := hide hx2
  clear hx1 hx2
  have hne : Nonempty (On w1) := ⟨⟨w1, Below.refl _ _⟩⟩
  have q2 : ∀ y : On w1, y.y.cell? ⟨q, 2, none⟩ = some (.int .i64 num) := fun y => cell_on y.h ((unhide K) 2 (by simp))
  have q3 : ∀ y : On w1, y.y.cell? ⟨q, 3, none⟩ = some (.int .i64 cnt) := fun y => cell_on y.h ((unhide K) 3 (by simp))
  have qo : ∀ y : On w1, y.y.cell? ⟨p, 0, none⟩ = some (.int .i64 d.a.num) := fun y => cell_on y.h ((unhide HD).cells 0 (by simp))
  cases x1
  · refine wp_region_on (by kernel_rfl) (by kernel_rfl) ?_
    repeat (first | go_big_quiet_step ((first | (go_at_call 76; exact calls_on_same (calls_as (headInForm_any num cnt _) (unhide H1))) | (go_at_call 53; exact calls_on_same (calls_as (areApart_any num d.a.num _) (unhide H2))))) | quiet_step ((first | (go_at_call 76; exact calls_on_same (calls_as (headInForm_any num cnt _) (unhide H1))) | (go_at_call 53; exact calls_on_same (calls_as (areApart_any num d.a.num _) (unhide H2))))))
    refine wpQuiet_nil ?_
    intro _ hw'
    obtain ⟨nq, hw''⟩ := hw'
    subst hw''
    go_wp2_with fail
    refine bodyPost_end (results_none rfl _ _ _) rfl ⟨rfl, ⟨fa, fb, ?_⟩, below_then (unhide HN) nq.h⟩
    have e : writeHeadD d true num cnt = d := by simp [writeHeadD, otherNum, ← unhide H1, ← unhide H2]
    rw [e]
    exact (unhide HD).on nq.h
  cases x2
  · refine wp_region_on (by kernel_rfl) (by kernel_rfl) ?_
    repeat (first | go_big_quiet_step ((first | (go_at_call 76; exact calls_on_same (calls_as (headInForm_any num cnt _) (unhide H1))) | (go_at_call 53; exact calls_on_same (calls_as (areApart_any num d.a.num _) (unhide H2))))) | quiet_step ((first | (go_at_call 76; exact calls_on_same (calls_as (headInForm_any num cnt _) (unhide H1))) | (go_at_call 53; exact calls_on_same (calls_as (areApart_any num d.a.num _) (unhide H2))))))
    refine wpQuiet_nil ?_
    intro _ hw'
    obtain ⟨nq, hw''⟩ := hw'
    subst hw''
    go_wp2_with fail
    refine bodyPost_end (results_none rfl _ _ _) rfl ⟨rfl, ⟨fa, fb, ?_⟩, below_then (unhide HN) nq.h⟩
    have e : writeHeadD d true num cnt = d := by simp [writeHeadD, otherNum, ← unhide H1, ← unhide H2]
    rw [e]
    exact (unhide HD).on nq.h
  refine wp_region_on (by kernel_rfl) (by kernel_rfl) ?_
  repeat (first | go_big_quiet_step ((first | (go_at_call 76; exact calls_on_same (calls_as (headInForm_any num cnt _) (unhide H1))) | (go_at_call 53; exact calls_on_same (calls_as (areApart_any num d.a.num _) (unhide H2))))) | quiet_step ((first | (go_at_call 76; exact calls_on_same (calls_as (headInForm_any num cnt _) (unhide H1))) | (go_at_call 53; exact calls_on_same (calls_as (areApart_any num d.a.num _) (unhide H2))))))
  refine wpQuiet_nil ?_
  intro _ hw'
  obtain ⟨nq, hw''⟩ := hw'
  subst hw''
  replace K := hide ((unhide K).on nq.h)
  replace HD := hide ((unhide HD).on nq.h)
  replace HN := hide (below_then (unhide HN) nq.h)
  clear q2 q3 qo hne
  generalize nq.y = W2 at *
  go_upto_region 3 with fail
  have hc := (unhide HD).cells
  have g0 : W2.cell? ⟨p, 3, none⟩ = some (.int .i64 d.b.num) := hc 3 (by simp)
  have g1 : W2.cell? ⟨p, 4, none⟩ = some (.int .i64 d.b.cnt) := hc 4 (by simp)
  have z0 := (unhide HD).row.frozen 3
  have z1 := (unhide HD).row.frozen 4
  have hpq : ¬ p = q := by have := unhide HQ; omega
  have hqp : ¬ q = p := by have := unhide HQ; omega
  clear hc
  have hk2 : W2.cell? ⟨q, 2, none⟩ = some (.int .i64 num) := (unhide K) 2 (by simp)
  have hk3 : W2.cell? ⟨q, 3, none⟩ = some (.int .i64 cnt) := (unhide K) 3 (by simp)
  go_region_held3 (fun w' => w'.cell? ⟨q, 2, none⟩ = some (.int .i64 num) ∧ w'.cell? ⟨q, 3, none⟩ = some (.int .i64 cnt)) (first | exact ⟨hk2, hk3⟩ | exact ⟨(cell_block (Below.heap_setCell _ _ _ _ (by show q ≠ p; omega))).trans hk2, (cell_block (Below.heap_setCell _ _ _ _ (by show q ≠ p; omega))).trans hk3⟩ | exact ⟨((cell_block (Below.heap_setCell _ _ _ _ (by show q ≠ p; omega))).trans (cell_block (Below.heap_setCell _ _ _ _ (by show q ≠ p; omega)))).trans hk2, ((cell_block (Below.heap_setCell _ _ _ _ (by show q ≠ p; omega))).trans (cell_block (Below.heap_setCell _ _ _ _ (by show q ≠ p; omega)))).trans hk3⟩) (fail)
  go_wp2_with fail
  refine bodyPost_end (results_none rfl _ _ _) rfl ?_
  show Wrote w0 p (writeHeadD d true num cnt) ga ca gb cb _ (setVals W2.drew p 3 [.int .i64 num, .int .i64 cnt])
  have e : writeHeadD d true num cnt = headD d true num cnt := by simp [writeHeadD, otherNum, ← unhide H1, ← unhide H2]
  rw [e]
  exact ⟨rfl, ⟨fa, fb, ((unhide HD).on (Below.refl _ _).drew).headB num cnt⟩, setVals_below _ _ _ (below_then (unhide HN) (Below.refl _ _).drew) (unhide HD).lo⟩
end Go.Proofs.Ytocgfngcgekciaa
