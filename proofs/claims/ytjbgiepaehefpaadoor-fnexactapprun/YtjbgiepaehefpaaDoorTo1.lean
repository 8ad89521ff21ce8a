/- Contracts of the exact laws' to functions over programs: a copy in new memory that reads as the argument. First: ops. -/
import Derived.Test.YtjbgiepaehefpaaDoorSz1
import Derived.Test.YtjbgiepaehefpaaDoorFlatMake
namespace Go.Proofs.YtjbgiepaehefpaaDoor
open Go.RowKit
set_option linter.unusedVariables false

/-- From block N on, what lay in w lies in w' as it did. -/
def KeepFrom (N : Nat) (w w' : World) : Prop := ∀ k, N ≤ k → k < w.heap.size → w'.heap[k]? = w.heap[k]?

theorem keep_below {N : Nat} {w w' : World} (h : Below w.heap.size w w') : KeepFrom N w w' := fun k _ hk => h.block k hk
theorem keep_trans {N : Nat} {a b c : World} (hs : a.heap.size ≤ b.heap.size) (h : KeepFrom N a b) (k : KeepFrom N b c) : KeepFrom N a c :=
  fun i h1 h2 => (k i h1 (Nat.lt_of_lt_of_le h2 hs)).trans (h i h1 h2)
theorem keep_set {N : Nat} {w : World} {a : Addr} (h : a.block < N) (v : Value) : KeepFrom N w (w.setCell a v) :=
  fun k h1 _ => Below.heap_setCell w a v k (by omega)

def OpsIn (f : Nat → Value) (ops : List OpV) (k : Nat) : Prop :=
  ∀ j (h : j < ops.length), j < k → f (j * 5) = .int .i64 ops[j].d ∧ f (j * 5 + 1) = .int .i64 ops[j].a ∧ f (j * 5 + 2) = .int .i64 ops[j].b ∧ f (j * 5 + 3) = .int .i64 ops[j].c ∧ f (j * 5 + 4) = .int .i64 ops[j].e

/-- A slice of ops that was made whole, in blocks from N on. -/
def OpsFr (N : Nat) (w : World) (v : Value) (ops : List OpV) : Prop :=
  ∃ b t f, v = .slice (some ⟨b, 0, none⟩) ops.length ops.length ∧ N ≤ b ∧ ops.length ≤ maxLen ∧ w.rowIs b t (ops.length * 5) f ∧ OpsIn f ops ops.length

theorem OpsFr.at {N : Nat} {w : World} {v : Value} {ops : List OpV} (h : OpsFr N w v ops) : OpsAt w v ops := by
  obtain ⟨b, t, f, rfl, _, hm, hr, hf⟩ := h
  refine ⟨_, _, rfl, Nat.le_refl _, hm, Or.inr ⟨b, 0, rfl, fun i hi => ?_⟩⟩
  obtain ⟨f0, f1, f2, f3, f4⟩ := hf i hi hi
  simp only [Nat.zero_add]
  exact ⟨by rw [hr.cell (by omega), f0], by rw [hr.cell (by omega), f1], by rw [hr.cell (by omega), f2], by rw [hr.cell (by omega), f3], by rw [hr.cell (by omega), f4]⟩

theorem OpsFr.keep {N : Nat} {w w' : World} {v : Value} {ops : List OpV} (hk : KeepFrom N w w') (h : OpsFr N w v ops) : OpsFr N w' v ops := by
  obtain ⟨b, t, f, rfl, hN, hm, hr, hf⟩ := h
  exact ⟨b, t, f, rfl, hN, hm, hr.of_block (hk b hN hr.lt), hf⟩

theorem OpsFr.less {N M : Nat} {w : World} {v : Value} {ops : List OpV} (hNM : M ≤ N) (h : OpsFr N w v ops) : OpsFr M w v ops := by
  obtain ⟨b, t, f, rfl, hN, hm, hr, hf⟩ := h
  exact ⟨b, t, f, rfl, Nat.le_trans hNM hN, hm, hr, hf⟩

/-- Five stores of an op into a row. -/
def setOp (w : World) (b o : Nat) (x : OpV) : World :=
  ((((w.setCell ⟨b, o, none⟩ (.int .i64 x.d)).setCell ⟨b, o + 1, none⟩ (.int .i64 x.a)).setCell ⟨b, o + 2, none⟩ (.int .i64 x.b)).setCell ⟨b, o + 3, none⟩ (.int .i64 x.c)).setCell ⟨b, o + 4, none⟩ (.int .i64 x.e)

theorem setOp_row {w : World} {b t n : Nat} {f : Nat → Value} (h : w.rowIs b t n f) (o : Nat) (x : OpV) :
    (setOp w b o x).rowIs b t n (fun j => if j = o + 4 then .int .i64 x.e else if j = o + 3 then .int .i64 x.c else if j = o + 2 then .int .i64 x.b else if j = o + 1 then .int .i64 x.a else if j = o then .int .i64 x.d else f j) :=
  ((((h.set o _).set (o + 1) _).set (o + 2) _).set (o + 3) _).set (o + 4) _

theorem setOp_below {w : World} {b o B : Nat} {x : OpV} {a : World} (h : Below B a w) (hB : B ≤ b) : Below B a (setOp w b o x) :=
  ((((h.setCell hB _).setCell hB _).setCell hB _).setCell hB _).setCell hB _

theorem opsIn_more {f : Nat → Value} {ops : List OpV} {k : Nat} (hk : k < ops.length) (h : OpsIn f ops k) :
    OpsIn (fun j => if j = k * 5 + 4 then .int .i64 ops[k].e else if j = k * 5 + 3 then .int .i64 ops[k].c else if j = k * 5 + 2 then .int .i64 ops[k].b else if j = k * 5 + 1 then .int .i64 ops[k].a else if j = k * 5 then .int .i64 ops[k].d else f j) ops (k + 1) := by
  intro j hj hjk
  rcases (show j = k ∨ j < k by omega) with rfl | hlt
  · simp
  · obtain ⟨f0, f1, f2, f3, f4⟩ := h j hj hlt
    refine ⟨?_, ?_, ?_, ?_, ?_⟩
    · simp only [show ¬ j * 5 = k * 5 + 4 by omega, show ¬ j * 5 = k * 5 + 3 by omega, show ¬ j * 5 = k * 5 + 2 by omega, show ¬ j * 5 = k * 5 + 1 by omega, show ¬ j * 5 = k * 5 by omega, if_false, f0]
    · simp only [show ¬ j * 5 + 1 = k * 5 + 4 by omega, show ¬ j * 5 + 1 = k * 5 + 3 by omega, show ¬ j * 5 + 1 = k * 5 + 2 by omega, show ¬ j * 5 + 1 = k * 5 + 1 by omega, show ¬ j * 5 + 1 = k * 5 by omega, if_false, f1]
    · simp only [show ¬ j * 5 + 2 = k * 5 + 4 by omega, show ¬ j * 5 + 2 = k * 5 + 3 by omega, show ¬ j * 5 + 2 = k * 5 + 2 by omega, show ¬ j * 5 + 2 = k * 5 + 1 by omega, show ¬ j * 5 + 2 = k * 5 by omega, if_false, f2]
    · simp only [show ¬ j * 5 + 3 = k * 5 + 4 by omega, show ¬ j * 5 + 3 = k * 5 + 3 by omega, show ¬ j * 5 + 3 = k * 5 + 2 by omega, show ¬ j * 5 + 3 = k * 5 + 1 by omega, show ¬ j * 5 + 3 = k * 5 by omega, if_false, f3]
    · simp only [show ¬ j * 5 + 4 = k * 5 + 4 by omega, show ¬ j * 5 + 4 = k * 5 + 3 by omega, show ¬ j * 5 + 4 = k * 5 + 2 by omega, show ¬ j * 5 + 4 = k * 5 + 1 by omega, show ¬ j * 5 + 4 = k * 5 by omega, if_false, f4]

theorem op_step {w w3 : World} {t : TypeId} {ops : List OpV} {k : Nat} {f : Nat → Value} (hk : k < ops.length) (x : OpV) (hx : x = ops[k]) (hr : w3.rowIs w.heap.size t (ops.length * 5) f) (hin : OpsIn f ops k) (hb : Below w.heap.size w w3) :
    ∃ f', (((((w3.setCell ⟨w.heap.size, k * 5, none⟩ (.int .i64 x.d)).setCell ⟨w.heap.size, k * 5 + 1, none⟩ (.int .i64 x.a)).setCell ⟨w.heap.size, k * 5 + 2, none⟩ (.int .i64 x.b)).setCell ⟨w.heap.size, k * 5 + 3, none⟩ (.int .i64 x.c)).setCell ⟨w.heap.size, k * 5 + 4, none⟩ (.int .i64 x.e)).rowIs w.heap.size t (ops.length * 5) f' ∧ OpsIn f' ops (k + 1) ∧
      Below w.heap.size w (((((w3.setCell ⟨w.heap.size, k * 5, none⟩ (.int .i64 x.d)).setCell ⟨w.heap.size, k * 5 + 1, none⟩ (.int .i64 x.a)).setCell ⟨w.heap.size, k * 5 + 2, none⟩ (.int .i64 x.b)).setCell ⟨w.heap.size, k * 5 + 3, none⟩ (.int .i64 x.c)).setCell ⟨w.heap.size, k * 5 + 4, none⟩ (.int .i64 x.e)) := by
  subst hx
  exact ⟨_, setOp_row hr (k * 5) ops[k], opsIn_more hk hin, setOp_below hb (Nat.le_refl _)⟩

theorem toOp_any (o : OpV) (w : World) :
    Calls Tryd.prog 119 #[opAgg o] w fun e w' => e = .returned (opAgg o) ∧ Below w.heap.size w w' := by
  obtain ⟨d, a, b, c, e⟩ := o
  go_enter Tryd.func119, Tryd.ntmps119
  go_wp2
  exact bodyPost_ret (v := .agg #[.int .i64 d, .int .i64 a, .int .i64 b, .int .i64 c, .int .i64 e]) (by simp [results, Tryd.results119, go_sem]) rfl ⟨rfl, (((Below.refl _ _).alloc (Nat.le_refl _) _).alloc (by simp) _).alloc (by simp; omega) _⟩

theorem slice_ops : Tryd.prog.underlying 49 = some (.slice 77) := by kernel_rfl
theorem info_op : (Tryd.prog.info? 77).map (fun i => (i.zero, i.size, i.bytes)) = some (some (.agg #[.int .i64 0, .int .i64 0, .int .i64 0, .int .i64 0, .int .i64 0]), 5, 40) := by kernel_rfl

set_option maxRecDepth 100000 in
set_option maxHeartbeats 1000000 in
theorem toOpS_any (v : Value) (ops : List OpV) (w : World) (h : OpsAt w v ops) (hlen : ops.length ≤ 1048576) :
    Calls Tryd.prog 108 #[v] w fun e w' => ∃ v', e = .returned v' ∧ OpsFr w.heap.size w' v' ops ∧ Below w.heap.size w w' := by
  obtain ⟨ad, cap, rfl, hlc, hm, hcells⟩ := h
  have HMX := hide hm
  clear hm
  have hmk := run_make_n (P := Tryd.prog) 49 77 _ 5 40 slice_ops info_op ops.length (by omega) (by omega)
  have HC := hide hcells
  clear hcells
  go_enter Tryd.func108, Tryd.ntmps108
  go_wp2_with fail
  have hb1 : Below w.heap.size w (w.alloc (.cells (madeCells #[.int .i64 0, .int .i64 0, .int .i64 0, .int .i64 0, .int .i64 0] (ops.length * 5)) 77)) := (Below.refl _ _).alloc (Nat.le_refl _) _
  have hr1 := row_made w #[.int .i64 0, .int .i64 0, .int .i64 0, .int .i64 0, .int .i64 0] (ops.length * 5) 77
  clear hmk
  generalize w.alloc (.cells (madeCells #[.int .i64 0, .int .i64 0, .int .i64 0, .int .i64 0, .int .i64 0] (ops.length * 5)) 77) = w1 at *
  go_loopw [4] (fun i wr => ∃ (k : Nat) (f : Nat → Value), k ≤ ops.length ∧ i = .int .i64 k ∧ wr.rowIs w.heap.size 77 (ops.length * 5) f ∧ OpsIn f ops k ∧ Below w.heap.size w wr) (fun i _ => ops.length - (intOf i).toNat)
  case atStart => exact ⟨0, _, Nat.zero_le _, rfl, hr1, fun j _ h => absurd h (Nat.not_lt_zero _), hb1⟩
  case round =>
    obtain ⟨k, f, hk, rfl, hrow, hin, hb⟩ := hrel
    have HROW := hide hrow
    have HIN := hide hin
    clear hrow hin hr1
    by_cases hlt : k < ops.length
    · obtain ⟨b, off, had, hc⟩ : ∃ b off, ad = some ⟨b, off, none⟩ ∧ OpCells w b (off + k * 5) ops[k] := by
        rcases unhide HC with h | ⟨b, off, h1, h2⟩
        · rw [h] at hlt; exact absurd hlt (Nat.not_lt_zero _)
        · exact ⟨b, off, h1, h2 k hlt⟩
      have hc := hc.on hb
      obtain ⟨x, hx⟩ : ∃ x, x = ops[k] := ⟨_, rfl⟩
      have HX := hide hx
      rw [← hx] at hc
      clear hx
      obtain ⟨x0, x1, x2, x3, x4⟩ := x
      obtain ⟨c0, c1, c2, c3, c4⟩ := hc
      simp only at c0 c1 c2 c3 c4
      subst had
      go_wp2_with fail
      refine (toOp_any ⟨x0, x1, x2, x3, x4⟩ _).mono ?_
      rintro e w3 ⟨rfl, hb3⟩
      have hr3 := (unhide HROW).of_block (hb3.block _ (unhide HROW).lt)
      have g0 := hr3.cell (i := k * 5) (by omega)
      have g1 := hr3.cell (i := k * 5 + 1) (by omega)
      have g2 := hr3.cell (i := k * 5 + 2) (by omega)
      have g3 := hr3.cell (i := k * 5 + 3) (by omega)
      have g4 := hr3.cell (i := k * 5 + 4) (by omega)
      have z0 := hr3.frozen (k * 5)
      have z1 := hr3.frozen (k * 5 + 1)
      have z2 := hr3.frozen (k * 5 + 2)
      have z3 := hr3.frozen (k * 5 + 3)
      have z4 := hr3.frozen (k * 5 + 4)
      have HR3 := hide hr3
      clear hr3 c0 c1 c2 c3 c4
      go_wp2_with fail
      go_roundw
      case rel =>
        obtain ⟨f', q1, q2, q3⟩ := op_step hlt ⟨x0, x1, x2, x3, x4⟩ (unhide HX) (unhide HR3) (unhide HIN) (below_then hb hb3)
        exact ⟨k + 1, f', by omega, by go_num, q1, q2, q3⟩
      case measure => simp [intOf]; omega
    · have hke : k = ops.length := by omega
      subst hke
      go_wp2_with fail
      go_ret
      exact ⟨_, rfl, ⟨_, _, f, rfl, Nat.le_refl _, unhide HMX, unhide HROW, unhide HIN⟩, hb⟩
end Go.Proofs.YtjbgiepaehefpaaDoor
