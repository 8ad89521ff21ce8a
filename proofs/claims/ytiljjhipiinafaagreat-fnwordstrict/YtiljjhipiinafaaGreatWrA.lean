/- errors.Is of a reader's fault. -/
import Derived.Test.YtiljjhipiinafaaGreatWrE
import Derived.LaidEql
import Derived.Stop.Asserts
import Derived.RowKitTokens
namespace Go.Proofs.YtiljjhipiinafaaGreat
open Go.RowKit Go.Extern.Stop Go.Stop Go.Extern
set_option linter.unusedVariables false
set_option linter.unusedSimpArgs false

theorem wTypeOf (v : Value) (w : World) : (Extern.ReflectliteType.typeOf #[.iface 99 v]).run Tryz.prog w = .ok (.iface 124 (.agg #[.pointer (some ⟨0, 99, none⟩)])) w := by kernel_rfl
theorem wCallTypeOf (v : Value) (w : World) : (callFunc 81 #[.iface 99 v]).run Tryz.prog w = .ok (Next.value (.iface 124 (.agg #[.pointer (some ⟨0, 99, none⟩)]))) w := by
  have h8 := @run_callFunc_extern Tryz.prog 81 _ Extern.ReflectliteType.typeOf Tryz.func81 (by kernel_rfl) (by kernel_rfl) (by kernel_rfl) (by kernel_rfl)
  rw [h8, wTypeOf]
  rfl
theorem wCallComparable (w : World) : (callFunc 113 #[.agg #[.pointer (some ⟨0, 99, none⟩)]]).run Tryz.prog w = .ok (Next.value (.bool true)) w := by
  have h32 := @run_callFunc_extern Tryz.prog 113 _ (Extern.ReflectliteType.method fun t => do Extern.Rtype.noPackHeld "Comparable" t; pure (.bool (← typeInfo t).comparable)) Tryz.func113 (by kernel_rfl) (by kernel_rfl) (by kernel_rfl) (by kernel_rfl)
  have hc : (Extern.ReflectliteType.method (fun t => do Extern.Rtype.noPackHeld "Comparable" t; pure (.bool (← typeInfo t).comparable)) #[.agg #[.pointer (some ⟨0, 99, none⟩)]]).run Tryz.prog w = .ok (.bool true) w := by kernel_rfl
  rw [h32, hc]
  rfl
theorem wMethodComparable (v : Value) (w : World) : (Go.method 267 124 v "Comparable").run Tryz.prog w = .ok (113, v) w := by kernel_rfl
theorem wMethodUnwrap (v : Value) (w : World) : (Go.method 267 122 v "Unwrap").run Tryz.prog w = .ok (109, v) w := by kernel_rfl
theorem wNoIsE (v : Value) (xT : TypeId) (w : World) : (Instr.typeAssert (.iface 122 v) xT 126 true).run Tryz.prog w = .ok (.tuple #[.nilIface, .bool false]) w := run_typeAssert_lacksB Tryz.underlying126 (by kernel_rfl) (by kernel_rfl) v xT w
theorem wHasUnwrap (v : Value) (xT : TypeId) (w : World) : (Instr.typeAssert (.iface 122 v) xT 129 true).run Tryz.prog w = .ok (.tuple #[.iface 122 v, .bool true]) w := run_typeAssert_hasB Tryz.underlying129 (by kernel_rfl) v xT w
theorem wNoIsF (v : Value) (xT : TypeId) (w : World) : (Instr.typeAssert (.iface 99 v) xT 126 true).run Tryz.prog w = .ok (.tuple #[.nilIface, .bool false]) w := run_typeAssert_lacksB Tryz.underlying126 (by kernel_rfl) (by kernel_rfl) v xT w
theorem wNoUnwrapF (v : Value) (xT : TypeId) (w : World) : (Instr.typeAssert (.iface 99 v) xT 129 true).run Tryz.prog w = .ok (.tuple #[.nilIface, .bool false]) w := run_typeAssert_lacksB Tryz.underlying129 (by kernel_rfl) (by kernel_rfl) v xT w
theorem wNoUnwrapsF (v : Value) (xT : TypeId) (w : World) : (Instr.typeAssert (.iface 99 v) xT 131 true).run Tryz.prog w = .ok (.tuple #[.nilIface, .bool false]) w := run_typeAssert_lacksB Tryz.underlying131 (by kernel_rfl) (by kernel_rfl) v xT w
theorem wComp : Tryz.t99.comparable = true := by kernel_rfl
theorem wEq (a b : Int) (w : World) : (binOp .eql 45 (.iface 99 (.int .u8 a)) (.iface 99 (.int .u8 b))).run Tryz.prog w = .ok (.bool (a == b)) w := by
  have h : ∀ d : Nat, (Op.equalIn (d + 2) 45 (.iface 99 (.int .u8 a)) (.iface 99 (.int .u8 b))).run Tryz.prog w = .ok (a == b) w := fun d => by
    simp [Op.equalIn, wComp]
  simp only [binOp]
  simp [Op.equal, Op.maxDepth, h 9998]

abbrev faultV (at_ k : Int) : Value := .iface 122 (.agg #[.int .i64 at_, .int .u8 k])

set_option maxRecDepth 100000 in
set_option maxHeartbeats 2000000 in
theorem unwrap_any (at_ k : Int) (w : World) :
    Calls Tryz.prog 109 #[.agg #[.int .i64 at_, .int .u8 k]] w fun e w' => e = .returned (.iface 99 (.int .u8 k)) ∧ Below w.heap.size w w' := by
  go_enter Tryz.func109, Tryz.ntmps109
  go_wp2
  go_ret
  exact ⟨rfl, (Below.refl _ _).alloc (Nat.le_refl _) _⟩

set_option maxRecDepth 100000 in
set_option maxHeartbeats 2000000 in
theorem isOf_any (at_ k : Int) (w : World) :
    Calls Tryz.prog 82 #[faultV at_ k, .iface 99 (.int .u8 1), .bool true] w fun e w' => e = .returned (.bool (k == 1)) ∧ Below w.heap.size w w' := by
  have mU := wMethodUnwrap
  have nE := wNoIsE
  have uE := wHasUnwrap
  have nF := wNoIsF
  have uF := wNoUnwrapF
  have vF := wNoUnwrapsF
  have hty := run_eql_iface_types (P := Tryz.prog) 122 99 (.agg #[.int .i64 at_, .int .u8 k]) (.int .u8 1) Tryz.underlying45 (by decide) w
  have heq : ∀ w, (binOp .eql 45 (.iface 99 (.int .u8 k)) (.iface 99 (.int .u8 1))).run Tryz.prog w = .ok (.bool (k == 1)) w := fun w => wEq k 1 w
  obtain ⟨b, hb⟩ : ∃ b, b = (k == 1) := ⟨_, rfl⟩
  rw [← hb]
  simp only [← hb] at heq
  clear hb
  go_enter Tryz.func82, Tryz.ntmps82
  go_wp2_with fail
  refine wp_loop_rounds 2 ?_
  rw [rounds_succ]
  go_wp2_with (go_at_call 109; refine (unwrap_any at_ k _).mono ?_; rintro e w1 ⟨rfl, hb1⟩)
  rw [rounds_succ]
  cases b with
  | true =>
    go_wp2
    go_ret
    exact ⟨rfl, hb1⟩
  | false =>
    go_wp2
    go_ret
    exact ⟨rfl, hb1⟩

set_option maxRecDepth 100000 in
set_option maxHeartbeats 2000000 in
/-- errors.Is(fault, wireOver): whether the fault is that one. -/
theorem errorsIs_any (at_ k : Int) (w : World) :
    Calls Tryz.prog 58 #[faultV at_ k, .iface 99 (.int .u8 1)] w fun e w' => e = .returned (.bool (k == 1)) ∧ Below w.heap.size w w' := by
  have h8 := wCallTypeOf
  have h32 := wCallComparable
  have mR := wMethodComparable
  obtain ⟨b, hb⟩ : ∃ b, b = (k == 1) := ⟨_, rfl⟩
  have HB := hide hb
  rw [← hb]
  clear hb
  go_enter Tryz.func58, Tryz.ntmps58
  go_wp2_with (go_at_call 82; refine (isOf_any at_ k _).mono ?_; rintro e w1 ⟨rfl, hb1⟩; rw [← unhide HB])
  go_ret
  exact ⟨rfl, hb1⟩

theorem errorsIs_nil (w : World) :
    Calls Tryz.prog 58 #[.nilIface, .iface 99 (.int .u8 1)] w fun e w' => e = .returned (.bool false) ∧ w' = w := by
  have hn := run_eql_iface_nil_left (P := Tryz.prog) w 99 (.int .u8 1) Tryz.underlying45
  go_enter Tryz.func58, Tryz.ntmps58
  go_wp2
  go_ret
  exact ⟨rfl, rfl⟩
end Go.Proofs.YtiljjhipiinafaaGreat

/- The reader of impl: fail, isLastPiece, slices.IndexFunc, pieces. -/
namespace Go.Proofs.YtiljjhipiinafaaGreat
open Go.RowKit
set_option linter.unusedVariables false
set_option linter.unusedSimpArgs false

def faultOf : Option (Int × Int) → Value
  | none => .nilIface
  | some (a, k) => faultV a k

/-- A reader of impl at block q of bytes that lay there ahead of it. -/
structure RdI (w0 w : World) (q : Nat) (vb : Value) (bs : List Int) (p : Nat) (f : Option (Int × Int)) : Prop where
  bytes : ByAt w0 vb bs
  capok : ∀ a n c, vb = .slice a n c → c ≤ maxLen ∧ (a = none → c = 0)
  rng : ∀ z ∈ bs, 0 ≤ z ∧ z ≤ 255
  few : bs.length ≤ 1048576
  q0 : w0.heap.size ≤ q
  below : Below w0.heap.size w0 w
  c0 : w.cell? ⟨q, 0, none⟩ = some vb
  c1 : w.cell? ⟨q, 1, none⟩ = some (.int .i64 p)
  c2 : w.cell? ⟨q, 2, none⟩ = some (faultOf f)
  fz : ∀ i, w.frozen? ⟨q, i, none⟩ = false
  pl : p ≤ bs.length

theorem RdI.on {w0 w w' : World} {q : Nat} {vb : Value} {bs : List Int} {p : Nat} {f : Option (Int × Int)} (hb : Below w.heap.size w w') (h : RdI w0 w q vb bs p f) : RdI w0 w' q vb bs p f :=
  ⟨h.bytes, h.capok, h.rng, h.few, h.q0, h.below.trans (hb.mono h.below.size), cell_on hb h.c0, cell_on hb h.c1, cell_on hb h.c2, fun i => (hb.frozen (p := ⟨q, i, none⟩) (World.block_lt_of_cell? w ⟨q, 0, none⟩ h.c0)).trans (h.fz i), h.pl⟩
theorem RdI.lt {w0 w : World} {q : Nat} {vb : Value} {bs : List Int} {p : Nat} {f : Option (Int × Int)} (h : RdI w0 w q vb bs p f) : q < w.heap.size := World.block_lt_of_cell? w ⟨q, 0, none⟩ h.c0
theorem RdI.setAt {w0 w : World} {q : Nat} {vb : Value} {bs : List Int} {p : Nat} {f : Option (Int × Int)} (h : RdI w0 w q vb bs p f) (p' : Nat) (hp : p' ≤ bs.length) : RdI w0 (w.setCell ⟨q, 1, none⟩ (.int .i64 p')) q vb bs p' f :=
  ⟨h.bytes, h.capok, h.rng, h.few, h.q0, h.below.setCell (p := ⟨q, 1, none⟩) h.q0 _, by simp [go_sem, h.c0], by simp [go_sem, h.c1], by simp [go_sem, h.c2], fun i => by simp [go_sem, h.fz], hp⟩
theorem RdI.setF {w0 w : World} {q : Nat} {vb : Value} {bs : List Int} {p : Nat} {f : Option (Int × Int)} (h : RdI w0 w q vb bs p f) (a k : Int) : RdI w0 (w.setCell ⟨q, 2, none⟩ (faultV a k)) q vb bs p (some (a, k)) :=
  ⟨h.bytes, h.capok, h.rng, h.few, h.q0, h.below.setCell (p := ⟨q, 2, none⟩) h.q0 _, by simp [go_sem, h.c0], by simp [go_sem, h.c1], by simp [go_sem, h.c2, faultOf], fun i => by simp [go_sem, h.fz], h.pl⟩
theorem RdI.gr {w0 w w' : World} {q : Nat} {vb v u : Value} {bs : List Int} {p : Nat} {f : Option (Int × Int)} (hG : Gr v u w w') (hv : ∀ g, v.ownBlock = some g → q < g) (h : RdI w0 w q vb bs p f) : RdI w0 w' q vb bs p f := by
  have hc : ∀ i x, w.cell? ⟨q, i, none⟩ = some x → w'.cell? ⟨q, i, none⟩ = some x := fun i x e => hG.cell e (fun e2 => by have := hv q e2; omega)
  refine ⟨h.bytes, h.capok, h.rng, h.few, h.q0, Below.grown h.below hG.g h.below.size (fun g e => by have := hv g e; have := h.q0; omega), hc 0 _ h.c0, hc 1 _ h.c1, hc 2 _ h.c2, fun i => ?_, h.pl⟩
  exact (World.frozen?_of_block (hG.g.block q h.lt (fun e => by have := hv q e.symm; omega))).trans (h.fz i)

set_option maxRecDepth 100000 in
set_option maxHeartbeats 2000000 in
theorem failI_any (w0 w : World) (q : Nat) (vb : Value) (bs : List Int) (p : Nat) (f : Option (Int × Int)) (a k : Int) (h : RdI w0 w q vb bs p f) :
    Calls Tryz.prog 78 #[.pointer (some ⟨q, 0, none⟩), .int .i64 a, .int .u8 k] w fun e w' => e = .returned (.tuple #[]) ∧ (∃ f', f' ≠ none ∧ (f = none → f' = some (a, k)) ∧ (f ≠ none → f' = f) ∧ RdI w0 w' q vb bs p f') ∧ OnlyB q w w' := by
  cases f with
  | none =>
    have k2 : w.cell? ⟨q, 2, none⟩ = some .nilIface := h.c2
    have f2 := h.fz 2
    have H := hide (h.setF a k)
    clear h
    go_enter Tryz.func78, Tryz.ntmps78
    go_wp2
    go_end0
    exact ⟨rfl, ⟨_, by simp, fun _ => rfl, fun h => absurd rfl h, unhide H⟩, OnlyB.set _ _ _ _⟩
  | some ak =>
    obtain ⟨a0, k0⟩ := ak
    have k2 : w.cell? ⟨q, 2, none⟩ = some (faultV a0 k0) := h.c2
    have H := hide h
    clear h
    go_enter Tryz.func78, Tryz.ntmps78
    go_wp2
    go_end0
    exact ⟨rfl, ⟨_, by simp, (fun h => by cases h), fun _ => rfl, unhide H⟩, ⟨Nat.le_refl _, fun _ _ _ => rfl, Below.refl _ _⟩⟩

theorem isLast_any (x : Int) (w : World) : Calls Tryz.prog 80 #[.int .u8 x] w fun e w' => e = .returned (.bool (decide (x < 128))) ∧ w' = w := by
  by_cases h : x < 128
  · rw [show decide (x < 128) = true by simp [h]]
    go_enter Tryz.func80, Tryz.ntmps80
    go_wp2
    go_ret
    exact ⟨rfl, rfl⟩
  · rw [show decide (x < 128) = false by simp [h]]
    go_enter Tryz.func80, Tryz.ntmps80
    go_wp2
    go_ret
    exact ⟨rfl, rfl⟩

/-- The place of the first byte below 128, or -1. -/
def LastIs (rs : List Int) (i : Int) : Prop := (i = -1 ∧ ∀ j, j < rs.length → 128 ≤ rs.getD j 0) ∨ (∃ k : Nat, i = k ∧ k < rs.length ∧ rs.getD k 0 < 128 ∧ ∀ j, j < k → 128 ≤ rs.getD j 0)

set_option maxRecDepth 100000 in
set_option maxHeartbeats 2000000 in
theorem indexFunc_any (v : Value) (rs : List Int) (w : World) (h : ByAt w v rs) :
    Calls Tryz.prog 79 #[v, .func (.func 80) #[] #[]] w fun e w' => ∃ i : Int, e = .returned (.int .i64 i) ∧ LastIs rs i ∧ w' = w := by
  obtain ⟨ad, cap, rfl, hlc, hm, hc⟩ := h
  have HC := hide hc
  unfold maxLen at hm
  clear hc
  go_enter Tryz.func79, Tryz.ntmps79
  go_wp2_with fail
  go_loop [8] (fun i => ∃ k : Nat, k ≤ rs.length ∧ i = .int .i64 k ∧ Hid (∀ j, j < k → 128 ≤ rs.getD j 0)) (fun i => rs.length - (intOf i).toNat)
  case atStart => exact ⟨0, Nat.zero_le _, rfl, hide (fun j hj => absurd hj (Nat.not_lt_zero _))⟩
  case round =>
    obtain ⟨k, hk, rfl, HK⟩ := hrel
    by_cases hlt : k < rs.length
    · obtain ⟨b, off, rfl, p1⟩ : ∃ b off, ad = some ⟨b, off, none⟩ ∧ w.cell? ⟨b, off + k, none⟩ = some (.int .u8 rs[k]) := by
        rcases unhide HC with h | ⟨b, off, h1, h2⟩
        · rw [h] at hlt; exact absurd hlt (Nat.not_lt_zero _)
        · exact ⟨b, off, h1, h2 k hlt⟩
      have hkI : (k : Int) < (rs.length : Int) := by omega
      have hk0 : (0 : Int) ≤ (k : Int) := by omega
      have HX : Hid (rs.getD k 0 = rs[k]) := hide (by simp [hlt])
      generalize rs[k] = x at *
      go_wp2_with fail
      refine (isLast_any x _).mono ?_
      rintro e w1 ⟨rfl, hw1⟩
      obtain rfl := hw1.symm
      by_cases hx : x < 128
      · rw [show decide (x < 128) = true by simp [hx]]
        have HX8 := hide hx
        clear hx
        go_wp2_with fail
        go_ret
        exact ⟨_, rfl, Or.inr ⟨k, rfl, hlt, by rw [unhide HX]; exact unhide HX8, unhide HK⟩, rfl⟩
      · rw [show decide (x < 128) = false by simp [hx]]
        have HX8 := hide hx
        clear hx
        go_wp2_with fail
        go_round
        case rel => exact ⟨k + 1, by omega, by go_num, hide (fun j hj => by
          rcases (show j = k ∨ j < k by omega) with rfl | h
          · rw [unhide HX]; have := unhide HX8; omega
          · exact (unhide HK) j h)⟩
        case measure => simp [intOf]; omega
    · obtain rfl : k = rs.length := by omega
      go_wp2_with fail
      go_ret
      exact ⟨_, rfl, Or.inl ⟨rfl, unhide HK⟩, rfl⟩
end Go.Proofs.YtiljjhipiinafaaGreat

/- The reader of impl: pieces. -/
namespace Go.Proofs.YtiljjhipiinafaaGreat
open Go.RowKit
set_option linter.unusedVariables false
set_option linter.unusedSimpArgs false

theorem RdI.onlyB {w0 w w' : World} {q : Nat} {vb : Value} {bs : List Int} {p : Nat} {f : Option (Int × Int)} (h : RdI w0 w q vb bs p f) (hb : Below w.heap.size w w') : OnlyB q w w' :=
  ⟨hb.size, fun b _ hl => hb.block b hl, hb.mono (Nat.le_of_lt h.lt)⟩

/-- What the bytes of the next number come to: they are there, or a fault is. -/
def PiecesOf (w0 w : World) (q : Nat) (vb : Value) (bs : List Int) (p : Nat) (e : Ending) (w' : World) : Prop :=
  ∃ vr : Value, e = .returned vr ∧ OnlyB q w w' ∧
    ((∃ L : Nat, 1 ≤ L ∧ L ≤ 4 ∧ p + L ≤ bs.length ∧ (∀ i, i < L - 1 → 128 ≤ bs.getD (p + i) 0) ∧ bs.getD (p + (L - 1)) 0 < 128 ∧ (L = 1 ∨ bs.getD (p + (L - 1)) 0 ≠ 0) ∧ RdI w0 w' q vb bs (p + L) none ∧ ByAt w' vr ((bs.drop p).take L)) ∨
     (vr = .slice none 0 0 ∧ ∃ a k : Int, RdI w0 w' q vb bs p (some (a, k)) ∧ (k = 1 ↔ p = bs.length) ∧ ∀ z, ¬ NumAt bs p z))

theorem getD_drop (bs : List Int) (p i : Nat) : (bs.drop p).getD i 0 = bs.getD (p + i) 0 := by simp [List.getD, List.getElem?_drop]

set_option maxRecDepth 100000 in
set_option maxHeartbeats 8000000 in
theorem pieces_over1 (w0 w : World) (q : Nat) (a : Addr) (n cap : Nat) (bs : List Int) (p : Nat) (h : RdI w0 w q (.slice (some a) n cap) bs p none) (hp : p = bs.length) (hc : bs.length < cap) :
    Calls Tryz.prog 55 #[.pointer (some ⟨q, 0, none⟩)] w fun e w' => PiecesOf w0 w q (.slice (some a) n cap) bs p e w' := by
  obtain ⟨ad, cp, e, hlc, hm, hcells⟩ := h.bytes
  simp only [Value.slice.injEq] at e
  obtain ⟨rfl, rfl, rfl⟩ := e
  have hcm := (h.capok _ _ _ rfl).1
  unfold maxLen at hcm hm
  have hpe : p = bs.length := hp
  subst hp
  have H := hide h
  have hfew := h.few
  have k0 := h.c0
  have k1 := h.c1
  clear hcells h
  have q0 : ∀ y : On w, y.y.cell? ⟨q, 0, none⟩ = some (.slice (some a) bs.length cap) := fun y => cell_on y.h k0
  have q1 : ∀ y : On w, y.y.cell? ⟨q, 1, none⟩ = some (.int .i64 bs.length) := fun y => cell_on y.h k1
  have hpc : (bs.length : Int) < (cap : Int) := by omega

  go_enter Tryz.func55, Tryz.ntmps55
  go_wp2_with fail
  have hne : Nonempty (On w) := ⟨⟨w, Below.refl _ _⟩⟩
  refine wp_region_on (by kernel_rfl) (by kernel_rfl) ?_
  repeat (first | go_big_quiet_step (fail) | quiet_step (fail))
  refine wpQuiet_nil ?_
  intro _ hw'
  obtain ⟨nq, hw''⟩ := hw'
  subst hw''
  clear q0 q1 hne k0 k1
  have HR1 := hide ((unhide H).on nq.h)
  have HO1 := hide ((unhide H).onlyB nq.h)
  clear H
  generalize nq.y = Y at *
  clear nq
  go_wp2_with fail
  refine (indexFunc_any _ [] _ ⟨_, _, rfl, Nat.zero_le _, Nat.zero_le _, Or.inl rfl⟩).mono ?_
  rintro e w2 ⟨i, rfl, _, hw2⟩
  obtain rfl := hw2.symm
  have c1 := (unhide HR1).c1
  go_wp2_with fail
  refine (failI_any w0 _ q _ bs bs.length none bs.length 1 (unhide HR1)).mono ?_
  rintro e w3 ⟨rfl, ⟨f', _, hf1, _, hR3⟩, hO3⟩
  obtain rfl := hf1 rfl
  have HR3 := hide hR3
  have HO3 := hide ((unhide HO1).trans hO3)
  clear hR3 hO3 hf1 c1
  go_wp2_with fail
  go_ret
  refine ⟨_, rfl, unhide HO3, Or.inr ⟨rfl, _, 1, unhide HR3, ⟨fun _ => (by first | rfl | exact hpe), fun _ => rfl⟩, fun z hz => ?_⟩⟩
  rcases hz.bytes with ⟨h1, _⟩ | ⟨h1, _⟩
  · first | omega | (simp at h1; done)
  · first | omega | (simp at h1; done)

set_option maxRecDepth 100000 in
set_option maxHeartbeats 8000000 in
theorem pieces_over2 (w0 w : World) (q : Nat) (a : Addr) (n cap : Nat) (bs : List Int) (p : Nat) (h : RdI w0 w q (.slice (some a) n cap) bs p none) (hp : p = bs.length) (hc : cap = bs.length) :
    Calls Tryz.prog 55 #[.pointer (some ⟨q, 0, none⟩)] w fun e w' => PiecesOf w0 w q (.slice (some a) n cap) bs p e w' := by
  obtain ⟨ad, cp, e, hlc, hm, hcells⟩ := h.bytes
  simp only [Value.slice.injEq] at e
  obtain ⟨rfl, rfl, rfl⟩ := e
  have hcm := (h.capok _ _ _ rfl).1
  unfold maxLen at hcm hm
  have hpe : p = bs.length := hp
  subst hp hc
  have H := hide h
  have hfew := h.few
  have k0 := h.c0
  have k1 := h.c1
  clear hcells h
  have q0 : ∀ y : On w, y.y.cell? ⟨q, 0, none⟩ = some (.slice (some a) bs.length bs.length) := fun y => cell_on y.h k0
  have q1 : ∀ y : On w, y.y.cell? ⟨q, 1, none⟩ = some (.int .i64 bs.length) := fun y => cell_on y.h k1

  go_enter Tryz.func55, Tryz.ntmps55
  go_wp2_with fail
  have hne : Nonempty (On w) := ⟨⟨w, Below.refl _ _⟩⟩
  refine wp_region_on (by kernel_rfl) (by kernel_rfl) ?_
  repeat (first | go_big_quiet_step (fail) | quiet_step (fail))
  refine wpQuiet_nil ?_
  intro _ hw'
  obtain ⟨nq, hw''⟩ := hw'
  subst hw''
  clear q0 q1 hne k0 k1
  have HR1 := hide ((unhide H).on nq.h)
  have HO1 := hide ((unhide H).onlyB nq.h)
  clear H
  generalize nq.y = Y at *
  clear nq
  go_wp2_with fail
  refine (indexFunc_any _ [] _ ⟨_, _, rfl, Nat.zero_le _, Nat.zero_le _, Or.inl rfl⟩).mono ?_
  rintro e w2 ⟨i, rfl, _, hw2⟩
  obtain rfl := hw2.symm
  have c1 := (unhide HR1).c1
  go_wp2_with fail
  refine (failI_any w0 _ q _ bs bs.length none bs.length 1 (unhide HR1)).mono ?_
  rintro e w3 ⟨rfl, ⟨f', _, hf1, _, hR3⟩, hO3⟩
  obtain rfl := hf1 rfl
  have HR3 := hide hR3
  have HO3 := hide ((unhide HO1).trans hO3)
  clear hR3 hO3 hf1 c1
  go_wp2_with fail
  go_ret
  refine ⟨_, rfl, unhide HO3, Or.inr ⟨rfl, _, 1, unhide HR3, ⟨fun _ => (by first | rfl | exact hpe), fun _ => rfl⟩, fun z hz => ?_⟩⟩
  rcases hz.bytes with ⟨h1, _⟩ | ⟨h1, _⟩
  · first | omega | (simp at h1; done)
  · first | omega | (simp at h1; done)

set_option maxRecDepth 100000 in
set_option maxHeartbeats 8000000 in
theorem pieces_over3 (w0 w : World) (q : Nat) (n cap : Nat) (bs : List Int) (p : Nat) (h : RdI w0 w q (.slice none n cap) bs p none) (hp : p = bs.length) :
    Calls Tryz.prog 55 #[.pointer (some ⟨q, 0, none⟩)] w fun e w' => PiecesOf w0 w q (.slice none n cap) bs p e w' := by
  obtain ⟨ad, cp, e, hlc, hm, hcells⟩ := h.bytes
  simp only [Value.slice.injEq] at e
  obtain ⟨rfl, rfl, rfl⟩ := e
  obtain rfl : cap = 0 := (h.capok _ _ _ rfl).2 rfl
  obtain rfl : bs = [] := List.length_eq_zero_iff.1 (by omega)
  simp only [List.length_nil] at hp
  subst hp
  have H := hide h
  have k0 : w.cell? ⟨q, 0, none⟩ = some (.slice none 0 0) := h.c0
  have k1 : w.cell? ⟨q, 1, none⟩ = some (.int .i64 0) := h.c1
  clear hcells h hm hlc
  have q0 : ∀ y : On w, y.y.cell? ⟨q, 0, none⟩ = some (.slice none 0 0) := fun y => cell_on y.h k0
  have q1 : ∀ y : On w, y.y.cell? ⟨q, 1, none⟩ = some (.int .i64 0) := fun y => cell_on y.h k1

  go_enter Tryz.func55, Tryz.ntmps55
  go_wp2_with fail
  have hne : Nonempty (On w) := ⟨⟨w, Below.refl _ _⟩⟩
  refine wp_region_on (by kernel_rfl) (by kernel_rfl) ?_
  repeat (first | go_big_quiet_step (fail) | quiet_step (fail))
  refine wpQuiet_nil ?_
  intro _ hw'
  obtain ⟨nq, hw''⟩ := hw'
  subst hw''
  clear q0 q1 hne k0 k1
  have HR1 := hide ((unhide H).on nq.h)
  have HO1 := hide ((unhide H).onlyB nq.h)
  clear H
  generalize nq.y = Y at *
  clear nq
  go_wp2_with fail
  refine (indexFunc_any _ [] _ ⟨_, _, rfl, Nat.zero_le _, Nat.zero_le _, Or.inl rfl⟩).mono ?_
  rintro e w2 ⟨i, rfl, _, hw2⟩
  obtain rfl := hw2.symm
  have c1 : Y.cell? ⟨q, 1, none⟩ = some (.int .i64 0) := (unhide HR1).c1
  go_wp2_with fail
  refine (failI_any w0 _ q _ [] 0 none 0 1 (unhide HR1)).mono ?_
  rintro e w3 ⟨rfl, ⟨f', _, hf1, _, hR3⟩, hO3⟩
  obtain rfl := hf1 rfl
  have HR3 := hide hR3
  have HO3 := hide ((unhide HO1).trans hO3)
  clear hR3 hO3 hf1 c1
  go_wp2_with fail
  go_ret
  refine ⟨_, rfl, unhide HO3, Or.inr ⟨rfl, _, 1, unhide HR3, ⟨fun _ => (by first | rfl | exact hpe), fun _ => rfl⟩, fun z hz => ?_⟩⟩
  rcases hz.bytes with ⟨h1, _⟩ | ⟨h1, _⟩
  · first | omega | (simp at h1; done)
  · first | omega | (simp at h1; done)

set_option maxRecDepth 100000 in
set_option maxHeartbeats 8000000 in
theorem pieces_in (w0 w : World) (q b off : Nat) (n cap : Nat) (bs : List Int) (p : Nat) (h : RdI w0 w q (.slice (some ⟨b, off, none⟩) n cap) bs p none) (hp : p < bs.length) :
    Calls Tryz.prog 55 #[.pointer (some ⟨q, 0, none⟩)] w fun e w' => PiecesOf w0 w q (.slice (some ⟨b, off, none⟩) n cap) bs p e w' := by
  obtain ⟨ad, cp, e, hlc, hm, hcells⟩ := h.bytes
  simp only [Value.slice.injEq] at e
  obtain ⟨rfl, rfl, rfl⟩ := e
  have hcm := (h.capok _ _ _ rfl).1
  unfold maxLen at hcm hm
  have HC : Hid (∀ i (h : i < bs.length), w0.cell? ⟨b, off + i, none⟩ = some (.int .u8 bs[i])) := hide (by
    rcases hcells with h1 | ⟨b', off', h1, h2⟩
    · rw [h1] at hp; exact absurd hp (Nat.not_lt_zero _)
    · simp only [Option.some.injEq, Addr.mk.injEq] at h1
      obtain ⟨rfl, rfl, _⟩ := h1
      exact h2)
  have H := hide h
  have hfew := h.few
  have k0 := h.c0
  have k1 := h.c1
  clear hcells h
  have q0 : ∀ y : On w, y.y.cell? ⟨q, 0, none⟩ = some (.slice (some ⟨b, off, none⟩) bs.length cap) := fun y => cell_on y.h k0
  have q1 : ∀ y : On w, y.y.cell? ⟨q, 1, none⟩ = some (.int .i64 p) := fun y => cell_on y.h k1
  have hpI : (p : Int) < (bs.length : Int) := by omega
  have hpc : (p : Int) < (cap : Int) := by omega
  go_enter Tryz.func55, Tryz.ntmps55
  go_wp2_with fail
  have hne : Nonempty (On w) := ⟨⟨w, Below.refl _ _⟩⟩
  refine wp_region_on (by kernel_rfl) (by kernel_rfl) ?_
  repeat (first | go_big_quiet_step (fail) | quiet_step (fail))
  refine wpQuiet_nil ?_
  intro _ hw'
  obtain ⟨nq, hw''⟩ := hw'
  subst hw''
  clear q0 q1 hne k0 k1
  have HR1 := hide ((unhide H).on nq.h)
  have HO1 := hide ((unhide H).onlyB nq.h)
  clear H
  generalize nq.y = Y at *
  clear nq
  go_wp2_with fail
  have HBY : Hid (∀ i (h : i < bs.length), Y.cell? ⟨b, off + i, none⟩ = some (.int .u8 bs[i])) := hide (fun i hi => cell_on (unhide HR1).below ((unhide HC) i hi))
  have hln : (bs.drop p).length = bs.length - p := List.length_drop
  have HAT : Hid (ByAt Y (.slice (some ⟨b, off + p, none⟩) (bs.length - p) (cap - p)) (bs.drop p)) := hide ⟨_, _, by rw [hln], by omega, by unfold maxLen; omega, Or.inr ⟨b, off + p, rfl, fun i hi => by
    have := (unhide HBY) (p + i) (by omega)
    rw [Nat.add_assoc, this]
    simp⟩⟩
  refine (indexFunc_any _ (bs.drop p) _ (unhide HAT)).mono ?_
  rintro e w2 ⟨i, rfl, hi, hw2⟩
  obtain rfl := hw2.symm
  rw [show LastIs (bs.drop p) i = ((i = -1 ∧ ∀ j, j < (bs.drop p).length → 128 ≤ (bs.drop p).getD j 0) ∨ (∃ k : Nat, i = k ∧ k < (bs.drop p).length ∧ (bs.drop p).getD k 0 < 128 ∧ ∀ j, j < k → 128 ≤ (bs.drop p).getD j 0)) from rfl] at hi
  simp only [getD_drop, hln] at hi
  have HI := hide hi
  clear hi
  have hlp : ¬ ((bs.length - p : Nat) : Int) = 0 := by omega
  have hsub : ((bs.length - p : Nat) : Int) = (bs.length : Int) - (p : Int) := by omega
  rcases unhide HI with ⟨rfl, hall⟩ | ⟨k, rfl, hk, hlast, hmore⟩
  · have HALL := hide hall
    clear hall
    have c1 := (unhide HR1).c1
    go_wp2_with fail
    refine (failI_any w0 _ q _ bs p none p 2 (unhide HR1)).mono ?_
    rintro e w3 ⟨rfl, ⟨f', _, hf1, _, hR3⟩, hO3⟩
    obtain rfl := hf1 rfl
    have HR3 := hide hR3
    have HO3 := hide ((unhide HO1).trans hO3)
    clear hR3 hO3 hf1 c1
    go_wp2_with fail
    go_ret
    refine ⟨_, rfl, unhide HO3, Or.inr ⟨rfl, _, 2, unhide HR3, ⟨fun h => by omega, fun h => by omega⟩, fun z hz => ?_⟩⟩
    have hall := unhide HALL
    rcases hz.bytes with ⟨h1, h2, _⟩ | ⟨h1, _, h3, _⟩
    · have := hall 0 (by omega)
      rw [Nat.add_zero] at this
      omega
    · have := hall 1 (by omega)
      omega
  · have HM := hide hmore
    have HLA := hide hlast
    clear hmore hlast
    by_cases hk4 : 4 ≤ k
    · have hk4I : (4 : Int) ≤ (k : Int) := by omega
      have hk0 : ¬ (k : Int) < 0 := by omega
      have c1 := (unhide HR1).c1
      go_wp2_with fail
      refine (failI_any w0 _ q _ bs p none p 3 (unhide HR1)).mono ?_
      rintro e w3 ⟨rfl, ⟨f', _, hf1, _, hR3⟩, hO3⟩
      obtain rfl := hf1 rfl
      have HR3 := hide hR3
      have HO3 := hide ((unhide HO1).trans hO3)
      clear hR3 hO3 hf1 c1
      go_wp2_with fail
      go_ret
      refine ⟨_, rfl, unhide HO3, Or.inr ⟨rfl, _, 3, unhide HR3, ⟨fun h => by omega, fun h => by omega⟩, fun z hz => ?_⟩⟩
      have hm := unhide HM
      have hm0 := hm 0 (by omega)
      have hm1 := hm 1 (by omega)
      rw [Nat.add_zero] at hm0
      rcases hz.bytes with ⟨h1, h2, _⟩ | ⟨h1, _, h3, _⟩
      · omega
      · omega
    · have hk4I : ¬ (4 : Int) ≤ (k : Int) := by omega
      have hk0 : ¬ (k : Int) < 0 := by omega
      have hpk : p + k < bs.length := by omega
      have hby := (unhide HBY) (p + k) hpk
      have HX : Hid (bs.getD (p + k) 0 = bs[p + k]) := hide (by simp [hpk])
      rw [← Nat.add_assoc] at hby
      have hkI : (k : Int) < (bs.length : Int) - (p : Int) := by omega
      generalize bs[p + k] = x at *
      by_cases hbad : 0 < k ∧ x = 0
      · obtain ⟨hkp, rfl⟩ := hbad
        have hkpI : (0 : Int) < (k : Int) := by omega
        have c1 := (unhide HR1).c1
        go_wp2_with fail
        refine (failI_any w0 _ q _ bs p none p 4 (unhide HR1)).mono ?_
        rintro e w3 ⟨rfl, ⟨f', _, hf1, _, hR3⟩, hO3⟩
        obtain rfl := hf1 rfl
        have HR3 := hide hR3
        have HO3 := hide ((unhide HO1).trans hO3)
        clear hR3 hO3 hf1 c1
        go_wp2_with fail
        go_ret
        refine ⟨_, rfl, unhide HO3, Or.inr ⟨rfl, _, 4, unhide HR3, ⟨fun h => by omega, fun h => by omega⟩, fun z hz => ?_⟩⟩
        have hm := unhide HM
        have hx := unhide HX
        rcases hz.bytes with ⟨h1, h2, _⟩ | ⟨h1, _, h3, _, h5, _⟩
        · have := hm 0 (by omega)
          rw [Nat.add_zero] at this
          omega
        · rcases (show k = 1 ∨ 2 ≤ k by omega) with rfl | h2
          · exact h5 hx
          · have := hm 1 (by omega)
            omega
      · have c1 := (unhide HR1).c1
        have f1 := (unhide HR1).fz 1
        have HR4 := hide ((unhide HR1).setAt (p + (k + 1)) (by omega))
        have HO4 := hide ((unhide HO1).trans (OnlyB.set q 1 Y (.int .i64 ((p + (k + 1) : Nat) : Int))))
        have hcast : ((p + (k + 1) : Nat) : Int) = (p : Int) + ((k : Int) + 1) := by omega
        rw [hcast] at HR4 HO4
        have hbq : b ≠ q := by
          have h1 := World.block_lt_of_cell? _ _ ((unhide HC) 0 (by omega))
          have h2 := (unhide HR1).q0
          simp only at h1; omega
        have HAT4 : Hid (ByAt (Y.setCell ⟨q, 1, none⟩ (.int .i64 ((p : Int) + ((k : Int) + 1)))) (.slice (some ⟨b, off + p, none⟩) (k + 1) (cap - p)) ((bs.drop p).take (k + 1))) := hide (by
          have hl : ((bs.drop p).take (k + 1)).length = k + 1 := by rw [List.length_take, hln]; omega
          refine ⟨_, _, by rw [hl], by rw [hl]; omega, by rw [hl]; unfold maxLen; omega, Or.inr ⟨b, off + p, rfl, fun i hi => ?_⟩⟩
          rw [hl] at hi
          have := (unhide HBY) (p + i) (by omega)
          rw [World.cell?_setCell_far _ _ _ _ (fun e => hbq e.symm), Nat.add_assoc, this]
          simp)
        have HBAD := hide hbad
        rcases (show k = 0 ∨ 0 < k by omega) with rfl | hkp
        · clear hbad
          go_wp2_with fail
          go_ret
          refine ⟨_, rfl, unhide HO4, Or.inl ⟨0 + 1, by omega, by omega, by omega, fun i hi => (unhide HM) i (by omega), ?_, ?_, unhide HR4, unhide HAT4⟩⟩
          · rw [Nat.add_sub_cancel]; exact unhide HLA
          · exact Or.inl rfl
        · have hx0 : ¬ x = 0 := fun e => hbad ⟨hkp, e⟩
          have hkpI : (0 : Int) < (k : Int) := by omega
          clear hbad
          go_wp2_with fail
          go_ret
          refine ⟨_, rfl, unhide HO4, Or.inl ⟨k + 1, by omega, by omega, by omega, fun i hi => (unhide HM) i (by omega), ?_, ?_, unhide HR4, unhide HAT4⟩⟩
          · rw [Nat.add_sub_cancel]; exact unhide HLA
          · refine Or.inr ?_
            rw [Nat.add_sub_cancel, unhide HX]; exact hx0
end Go.Proofs.YtiljjhipiinafaaGreat

/- The reader of impl: number. -/
namespace Go.Proofs.YtiljjhipiinafaaGreat
open Go.RowKit
set_option linter.unusedVariables false
set_option linter.unusedSimpArgs false

theorem pieces_any (w0 w : World) (q : Nat) (vb : Value) (bs : List Int) (p : Nat) (h : RdI w0 w q vb bs p none) :
    Calls Tryz.prog 55 #[.pointer (some ⟨q, 0, none⟩)] w fun e w' => PiecesOf w0 w q vb bs p e w' := by
  obtain ⟨ad, cap, rfl, hlc, hm, hcells⟩ := h.bytes
  by_cases hp : p < bs.length
  · rcases hcells with h1 | ⟨b, off, rfl, _⟩
    · rw [h1] at hp; exact absurd hp (Nat.not_lt_zero _)
    · exact pieces_in w0 w q b off _ cap bs p h hp
  · have hpe : p = bs.length := by have := h.pl; omega
    cases ad with
    | none => exact pieces_over3 w0 w q _ cap bs p h hpe
    | some a =>
      rcases (show bs.length < cap ∨ cap = bs.length by omega) with hc | hc
      · exact pieces_over1 w0 w q a _ cap bs p h hpe hc
      · exact pieces_over2 w0 w q a _ cap bs p h hpe hc

theorem andNot_all : (List.range 256).all (fun b => decide (bits .andNot .u8 (b : Int) 128 = (b : Int) % 128)) = true := by kernel_rfl
theorem andNot_u8 (x : Int) (h0 : 0 ≤ x) (h : x ≤ 255) : bits .andNot .u8 x 128 = x % 128 := by
  obtain ⟨n, rfl⟩ := Int.eq_ofNat_of_zero_le h0
  have h1 := List.all_eq_true.1 andNot_all n (List.mem_range.2 (by omega))
  simpa using h1

theorem bits_or_u32_nat (a b : Nat) (ha : a < 4294967296) (hb : b < 4294967296) : bits .or .u32 (a : Int) (b : Int) = ((a ||| b : Nat) : Int) := by
  have hx : a ||| b < 2 ^ 32 := Nat.or_lt_two_pow (by omega) (by omega)
  have h1 : (BitVec.ofInt 32 (a : Int)).toNat = a := by
    rw [BitVec.ofInt_natCast, BitVec.toNat_ofNat]; exact Nat.mod_eq_of_lt (by omega)
  have h2 : (BitVec.ofInt 32 (b : Int)).toNat = b := by
    rw [BitVec.ofInt_natCast, BitVec.toNat_ofNat]; exact Nat.mod_eq_of_lt (by omega)
  show IntKind.u32.wrap ((BitVec.ofInt 32 (a : Int) ||| BitVec.ofInt 32 (b : Int)).toNat : Int) = _
  rw [BitVec.toNat_or, h1, h2]
  simp only [IntKind.wrap, IntKind.bits, IntKind.signed]
  simp
  omega
theorem or_u32 (A y : Int) (i : Nat) (m : Nat) (hm : 2 ^ i = m) (h0 : 0 ≤ A) (h1 : A < m) (hy0 : 0 ≤ y) (hy : y < 128) (hi : m ≤ 2097152) : bits .or .u32 A (y * m) = A + y * m := by
  obtain ⟨a, rfl⟩ := Int.eq_ofNat_of_zero_le h0
  obtain ⟨b, rfl⟩ := Int.eq_ofNat_of_zero_le hy0
  have e : ((b : Int) * (m : Int)) = ((b * m : Nat) : Int) := by simp
  have hb : b * m ≤ 127 * 2097152 := Nat.mul_le_mul (by omega) hi
  rw [e, bits_or_u32_nat a (b * m) (by omega) (by omega)]
  have h3 := Nat.shiftLeft_add_eq_or_of_lt (show a < 2 ^ i by rw [hm]; omega) b
  rw [Nat.shiftLeft_eq, hm] at h3
  rw [Nat.or_comm, ← h3]
  omega
/-- What so many pieces say. -/
def Says4 (bs : List Int) (p j : Nat) (A : Int) : Prop := (j = 0 → A = 0) ∧ (j = 1 → A = bs.getD p 0 % 128) ∧ (j = 2 → A = bs.getD p 0 % 128 + bs.getD (p + 1) 0 % 128 * 128) ∧ (j = 3 → 16384 * (bs.getD (p + 2) 0 % 128) ≤ A) ∧ (j = 4 → 2097152 * (bs.getD (p + 3) 0 % 128) ≤ A)
theorem range_at {bs : List Int} (hr : ∀ z ∈ bs, 0 ≤ z ∧ z ≤ 255) (i : Nat) (hi : i < bs.length) : 0 ≤ bs.getD i 0 ∧ bs.getD i 0 ≤ 255 := by
  have := hr bs[i] (List.getElem_mem hi)
  simpa [hi] using this
theorem drop_one (bs : List Int) (p : Nat) (h : p < bs.length) : bs.drop p = bs.getD p 0 :: bs.drop (p + 1) := by
  rw [List.drop_eq_getElem_cons h]; simp [h]
theorem num_sound {bs : List Int} {p L : Nat} {A : Int} (hr : ∀ z ∈ bs, 0 ≤ z ∧ z ≤ 255) (hL1 : 1 ≤ L) (hL4 : L ≤ 4) (hpL : p + L ≤ bs.length) (hmore : ∀ i, i < L - 1 → 128 ≤ bs.getD (p + i) 0) (hlast : bs.getD (p + (L - 1)) 0 < 128) (hned : L = 1 ∨ bs.getD (p + (L - 1)) 0 ≠ 0)
    (hv : Says4 bs p L A) (h9 : A - 1 ≤ 9999) : bs.drop p = numI (A - 1) ++ bs.drop (p + L) := by
  obtain ⟨v0, v1, v2, v3, v4⟩ := hv
  have e : numI (A - 1) = numB A.toNat := by unfold numI; rw [Int.sub_add_cancel]
  rw [e]
  rcases (show L = 1 ∨ L = 2 ∨ L = 3 ∨ L = 4 by omega) with rfl | rfl | rfl | rfl
  · have r0 := range_at hr p (by omega)
    simp only [Nat.sub_self, Nat.add_zero] at hlast
    have hA := v1 rfl
    have hAe : A = bs.getD p 0 := by omega
    rw [drop_one bs p (by omega)]
    unfold numB
    rw [if_pos (by omega)]
    have : ((A.toNat : Nat) : Int) = A := by omega
    rw [this, hAe]; rfl
  · have r0 := range_at hr p (by omega)
    have r1 := range_at hr (p + 1) (by omega)
    have m0 := hmore 0 (by omega)
    simp only [Nat.add_zero] at m0
    simp only [show 2 - 1 = 1 from rfl] at hlast hned
    have hn : bs.getD (p + 1) 0 ≠ 0 := by rcases hned with h | h; omega; exact h
    have hA := v2 rfl
    rw [drop_one bs p (by omega), drop_one bs (p + 1) (by omega)]
    unfold numB
    rw [if_neg (by omega)]
    have e1 : ((A.toNat : Nat) : Int) = A := by omega
    rw [e1]
    have e2 : (128 : Int) + A % 128 = bs.getD p 0 := by omega
    have e3 : A / 128 = bs.getD (p + 1) 0 := by omega
    rw [e2, e3]; rfl
  · have r2 := range_at hr (p + 2) (by omega)
    simp only [show 3 - 1 = 2 from rfl] at hlast hned
    have hn : bs.getD (p + 2) 0 ≠ 0 := by rcases hned with h | h; omega; exact h
    have := v3 rfl
    omega
  · have r3 := range_at hr (p + 3) (by omega)
    simp only [show 4 - 1 = 3 from rfl] at hlast hned
    have hn : bs.getD (p + 3) 0 ≠ 0 := by rcases hned with h | h; omega; exact h
    have := v4 rfl
    omega
theorem num_complete {bs : List Int} {p L : Nat} {A z : Int} (hL1 : 1 ≤ L) (hmore : ∀ i, i < L - 1 → 128 ≤ bs.getD (p + i) 0) (hlast : bs.getD (p + (L - 1)) 0 < 128)
    (hv : Says4 bs p L A) (hr : ∀ z ∈ bs, 0 ≤ z ∧ z ≤ 255) (hz : NumAt bs p z) : A - 1 = z ∧ L = (numI z).length := by
  obtain ⟨v0, v1, v2, v3, v4⟩ := hv
  rcases hz.bytes with ⟨h1, h2, h3, h4⟩ | ⟨h1, h2, h3, h4, h5, h6⟩
  · rcases (show L = 1 ∨ 2 ≤ L by omega) with rfl | hL
    · have r0 := range_at hr p h1
      have := v1 rfl
      exact ⟨by omega, h4.symm⟩
    · have m0 := hmore 0 (by omega)
      simp only [Nat.add_zero] at m0
      omega
  · rcases (show L = 1 ∨ L = 2 ∨ 3 ≤ L by omega) with rfl | rfl | hL
    · simp only [Nat.sub_self, Nat.add_zero] at hlast
      omega
    · have := v2 rfl
      exact ⟨by omega, h6.symm⟩
    · have m1 := hmore 1 (by omega)
      omega
/-- What reading a number comes to where there was no fault. -/
def NumOf (w0 w : World) (q : Nat) (vb : Value) (bs : List Int) (p : Nat) (e : Ending) (w' : World) : Prop :=
  ∃ n : Int, e = .returned (.int .i64 n) ∧ OnlyB q w w' ∧
    ((∃ L : Nat, 1 ≤ L ∧ p + L ≤ bs.length ∧ -1 ≤ n ∧ (n ≤ 9999 → bs.drop p = numI n ++ bs.drop (p + L)) ∧ RdI w0 w' q vb bs (p + L) none ∧ (∀ z, NumAt bs p z → n = z ∧ L = (numI z).length)) ∨
     (n = -1 ∧ ∃ a k : Int, RdI w0 w' q vb bs p (some (a, k)) ∧ (k = 1 ↔ p = bs.length) ∧ ∀ z, ¬ NumAt bs p z))

set_option maxRecDepth 100000 in
set_option maxHeartbeats 8000000 in
theorem numberI_some (w0 w : World) (q : Nat) (vb : Value) (bs : List Int) (p : Nat) (a k : Int) (h : RdI w0 w q vb bs p (some (a, k))) :
    Calls Tryz.prog 18 #[.pointer (some ⟨q, 0, none⟩)] w fun e w' => e = .returned (.int .i64 0) ∧ w' = w := by
  have k2 : w.cell? ⟨q, 2, none⟩ = some (faultV a k) := h.c2
  go_enter Tryz.func18, Tryz.ntmps18
  go_wp2
  go_ret
  exact ⟨rfl, rfl⟩

set_option maxRecDepth 100000 in
set_option maxHeartbeats 8000000 in
theorem numberI_none (w0 w : World) (q : Nat) (vb : Value) (bs : List Int) (p : Nat) (h : RdI w0 w q vb bs p none) :
    Calls Tryz.prog 18 #[.pointer (some ⟨q, 0, none⟩)] w fun e w' => NumOf w0 w q vb bs p e w' := by
  have k2 : w.cell? ⟨q, 2, none⟩ = some .nilIface := h.c2
  have hfew := h.few
  have HRG := hide h.rng
  have H := hide h
  clear h
  go_enter Tryz.func18, Tryz.ntmps18
  go_wp2_with fail
  refine (pieces_any w0 _ q vb bs p (unhide H)).mono ?_
  rintro e w1 ⟨vr, rfl, hO1, hgood | ⟨rfl, a, k, hR1, hk1, hno⟩⟩
  · obtain ⟨L, hL1, hL4, hpL, hmore, hlast, hned, hR1, hA1⟩ := hgood
    have hlt : ((bs.drop p).take L).length = L := by rw [List.length_take, List.length_drop]; omega
    obtain ⟨ad, cap, rfl, hlc, hm, hcells⟩ := hA1
    rw [hlt] at hlc hm
    have HC : Hid (∃ b off, ad = some ⟨b, off, none⟩ ∧ ∀ i (h : i < L), w1.cell? ⟨b, off + i, none⟩ = some (.int .u8 (bs.getD (p + i) 0))) := hide (by
      rcases hcells with h1 | ⟨b, off, h1, h2⟩
      · rw [h1] at hlt; simp at hlt; omega
      · refine ⟨b, off, h1, fun i hi => ?_⟩
        have := h2 i (by rw [hlt]; exact hi)
        rw [this]
        simp [List.getD, show p + i < bs.length by omega])
    rw [hlt]
    have HR1 := hide hR1
    have HO1 := hide hO1
    have HM := hide hmore
    have HLA := hide hlast
    have HNE := hide hned
    clear hlt hcells hm hR1 hO1 hmore hlast hned H
    go_wp2_with fail
    go_loop [3, 14] (fun sm si => ∃ (j : Nat) (A : Int), j ≤ L ∧ si = .int .i64 j ∧ sm = .int .u32 A ∧ Hid (0 ≤ A ∧ A < (if j = 0 then 1 else if j = 1 then 128 else if j = 2 then 16384 else if j = 3 then 2097152 else 268435456)) ∧ Hid (Says4 bs p j A)) (fun _ i => L - (intOf i).toNat)
    case atStart => exact ⟨0, 0, by omega, rfl, rfl, hide (by decide), hide ⟨fun _ => rfl, fun h => by omega, fun h => by omega, fun h => by omega, fun h => by omega⟩⟩
    case round =>
      obtain ⟨j, A, hj, rfl, rfl, HA, HV⟩ := hrel
      by_cases hjl : j < L
      · obtain ⟨b, off, rfl, hc⟩ := unhide HC
        have p1 := hc j hjl
        clear hc
        have hjI : (j : Int) < (L : Int) := by omega
        have hx := show 0 ≤ bs.getD (p + j) 0 ∧ bs.getD (p + j) 0 ≤ 255 by
          have hh : p + j < bs.length := by omega
          have := (unhide HRG) bs[p + j] (List.getElem_mem hh)
          simpa [hh] using this
        obtain ⟨hx0, hx1⟩ := hx
        have HX : ∃ x, x = bs.getD (p + j) 0 := ⟨_, rfl⟩
        obtain ⟨x, hxx⟩ := HX
        rw [← hxx] at p1 hx0 hx1
        have HXX := hide hxx
        clear hxx
        have han := andNot_u8 x hx0 hx1
        rcases (show j = 0 ∨ j = 1 ∨ j = 2 ∨ j = 3 by omega) with rfl | rfl | rfl | rfl
        · have hA := unhide HA
          simp only [if_true, Nat.add_zero] at hA p1
          obtain ⟨hA0, hA1⟩ := hA
          have hA1 : A < 1 := by first | exact hA1 | simpa using hA1
          have hor : bits .or .u32 A (x % 128) = A + x % 128 * 1 := by
            have := or_u32 A (x % 128) 0 1 (by decide) hA0 (by omega) (by omega) (by omega) (by omega)
            simpa using this
          go_wp2_with fail
          go_round
          case rel =>
            refine ⟨1, A + x % 128 * 1, by omega, by first | rfl | simp, by first | rfl | (rw [hor]; done) | (rw [Int.mul_one]; done), hide ⟨by omega, by simp; omega⟩, hide ⟨by intro h; omega, ?_, ?_, ?_, ?_⟩⟩
            all_goals (intro h)
            all_goals (first | omega | skip)
            all_goals (have hv := unhide HV; unfold Says4 at hv; have hxx := unhide HXX; (try simp only [Nat.add_zero] at hxx); omega)
          case measure => simp [intOf]; omega
        · have hA := unhide HA
          simp only [if_true, Nat.add_zero] at hA p1
          obtain ⟨hA0, hA1⟩ := hA
          have hA1 : A < 128 := by first | exact hA1 | simpa using hA1
          have hor : bits .or .u32 A (x % 128 * 128) = A + x % 128 * 128 := by
            have := or_u32 A (x % 128) 7 128 (by decide) hA0 (by omega) (by omega) (by omega) (by omega)
            simpa using this
          go_wp2_with fail
          go_round
          case rel =>
            refine ⟨2, A + x % 128 * 128, by omega, by first | rfl | simp, by first | rfl | (rw [hor]; done) | (rw [Int.mul_one]; done), hide ⟨by omega, by simp; omega⟩, hide ⟨by intro h; omega, ?_, ?_, ?_, ?_⟩⟩
            all_goals (intro h)
            all_goals (first | omega | skip)
            all_goals (have hv := unhide HV; unfold Says4 at hv; have hxx := unhide HXX; (try simp only [Nat.add_zero] at hxx); omega)
          case measure => simp [intOf]; omega
        · have hA := unhide HA
          simp only [if_true, Nat.add_zero] at hA p1
          obtain ⟨hA0, hA1⟩ := hA
          have hA1 : A < 16384 := by first | exact hA1 | simpa using hA1
          have hor : bits .or .u32 A (x % 128 * 16384) = A + x % 128 * 16384 := by
            have := or_u32 A (x % 128) 14 16384 (by decide) hA0 (by omega) (by omega) (by omega) (by omega)
            simpa using this
          go_wp2_with fail
          go_round
          case rel =>
            refine ⟨3, A + x % 128 * 16384, by omega, by first | rfl | simp, by first | rfl | (rw [hor]; done) | (rw [Int.mul_one]; done), hide ⟨by omega, by simp; omega⟩, hide ⟨by intro h; omega, ?_, ?_, ?_, ?_⟩⟩
            all_goals (intro h)
            all_goals (first | omega | skip)
            all_goals (have hv := unhide HV; unfold Says4 at hv; have hxx := unhide HXX; (try simp only [Nat.add_zero] at hxx); omega)
          case measure => simp [intOf]; omega
        · have hA := unhide HA
          simp only [if_true, Nat.add_zero] at hA p1
          obtain ⟨hA0, hA1⟩ := hA
          have hA1 : A < 2097152 := by first | exact hA1 | simpa using hA1
          have hor : bits .or .u32 A (x % 128 * 2097152) = A + x % 128 * 2097152 := by
            have := or_u32 A (x % 128) 21 2097152 (by decide) hA0 (by omega) (by omega) (by omega) (by omega)
            simpa using this
          go_wp2_with fail
          go_round
          case rel =>
            refine ⟨4, A + x % 128 * 2097152, by omega, by first | rfl | simp, by first | rfl | (rw [hor]; done) | (rw [Int.mul_one]; done), hide ⟨by omega, by simp; omega⟩, hide ⟨by intro h; omega, ?_, ?_, ?_, ?_⟩⟩
            all_goals (intro h)
            all_goals (first | omega | skip)
            all_goals (have hv := unhide HV; unfold Says4 at hv; have hxx := unhide HXX; (try simp only [Nat.add_zero] at hxx); omega)
          case measure => simp [intOf]; omega
      · obtain rfl : j = L := by omega
        have hA := unhide HA
        have hA8 : 0 ≤ A ∧ A ≤ 268435456 := by
          refine ⟨hA.1, ?_⟩
          have := hA.2
          repeat' split at this
          all_goals omega
        obtain ⟨hA0, hA1⟩ := hA8
        clear hA
        go_wp2_with fail
        go_ret
        refine ⟨_, rfl, unhide HO1, Or.inl ⟨j, hL1, hpL, by omega, fun h9 => ?_, unhide HR1, fun z hz => ?_⟩⟩
        · exact num_sound (unhide HRG) hL1 hL4 hpL (unhide HM) (unhide HLA) (unhide HNE) (unhide HV) (by omega)
        · exact num_complete hL1 (unhide HM) (unhide HLA) (unhide HV) (unhide HRG) hz
  · have HR1 := hide hR1
    have HO1 := hide hO1
    clear hR1 hO1 H
    go_wp2_with fail
    go_loop [3, 14] (fun sm si => sm = .int .u32 0 ∧ si = .int .i64 0) (fun _ _ => 0)
    case atStart => exact ⟨rfl, rfl⟩
    case round =>
      obtain ⟨rfl, rfl⟩ := hrel
      go_wp2_with fail
      go_ret
      exact ⟨_, rfl, unhide HO1, Or.inr ⟨rfl, a, k, unhide HR1, hk1, hno⟩⟩
end Go.Proofs.YtiljjhipiinafaaGreat

/- The reader of impl: number, whatever went ahead; count, row. -/
namespace Go.Proofs.YtiljjhipiinafaaGreat
open Go.RowKit
set_option linter.unusedVariables false
set_option linter.unusedSimpArgs false

/-- What reading numbers comes to, where there was a fault and where there was none. -/
structure Took (bs : List Int) (p : Nat) (f : Option (Int × Int)) (p' : Nat) (f' : Option (Int × Int)) (zs : List Int) : Prop where
  keep : f ≠ none → f' = f ∧ p' = p
  sound : f' = none → (∀ z ∈ zs, -1 ≤ z) ∧ ((∀ z ∈ zs, z ≤ 9999) → bs.drop p = packI zs ++ bs.drop p')
  comp : f = none → ∀ ys, ys.length = zs.length → NumsIn bs p ys → zs = ys ∧ p' = p + (packI ys).length ∧ f' = none

theorem Took.nil (bs : List Int) (p : Nat) (f : Option (Int × Int)) : Took bs p f p f [] :=
  ⟨fun _ => ⟨rfl, rfl⟩, fun _ => ⟨(fun z hz => by cases hz), fun _ => by simp [packI_nil]⟩, fun h ys hl _ => by
    obtain rfl := List.length_eq_zero_iff.1 (by simpa using hl)
    exact ⟨rfl, by simp [packI_nil], h⟩⟩

theorem NumsIn.left {bs : List Int} {p : Nat} {us cs : List Int} (h : NumsIn bs p (us ++ cs)) : NumsIn bs p us := by
  obtain ⟨h1, rest, h2⟩ := h
  exact ⟨fun z hz => h1 z (List.mem_append_left _ hz), packI cs ++ rest, by rw [h2, packI_app, List.append_assoc]⟩
theorem NumsIn.right {bs : List Int} {p : Nat} {us cs : List Int} (h : NumsIn bs p (us ++ cs)) : NumsIn bs (p + (packI us).length) cs := by
  obtain ⟨h1, rest, h2⟩ := h
  refine ⟨fun z hz => h1 z (List.mem_append_right _ hz), rest, ?_⟩
  rw [← List.drop_drop, h2, packI_app, List.append_assoc, List.drop_left]

theorem Took.none_of {bs : List Int} {p p' : Nat} {f f' : Option (Int × Int)} {zs : List Int} (h : Took bs p f p' f' zs) (hf : f' = none) : f = none := by
  cases f with
  | none => rfl
  | some x => have := (h.keep (by simp)).1; rw [hf] at this; cases this

theorem Took.trans {bs : List Int} {p p1 p2 : Nat} {f f1 f2 : Option (Int × Int)} {us cs : List Int} (h : Took bs p f p1 f1 us) (k : Took bs p1 f1 p2 f2 cs) : Took bs p f p2 f2 (us ++ cs) := by
  refine ⟨fun hf => ?_, fun hf => ?_, fun hf ys hl hy => ?_⟩
  · obtain ⟨h1, h2⟩ := h.keep hf
    obtain ⟨h3, h4⟩ := k.keep (by rw [h1]; exact hf)
    exact ⟨h3.trans h1, h4.trans h2⟩
  · have hf1 := k.none_of hf
    obtain ⟨h1, h2⟩ := h.sound hf1
    obtain ⟨h3, h4⟩ := k.sound hf
    refine ⟨fun z hz => ?_, fun hz => ?_⟩
    · rcases List.mem_append.1 hz with hz | hz
      · exact h1 z hz
      · exact h3 z hz
    · rw [h2 (fun z hh => hz z (List.mem_append_left _ hh)), h4 (fun z hh => hz z (List.mem_append_right _ hh)), packI_app, List.append_assoc]
  · have e : ys = ys.take us.length ++ ys.drop us.length := (List.take_append_drop _ _).symm
    have hl2 : ys.length = us.length + cs.length := by rw [hl, List.length_append]
    rw [e] at hy
    obtain ⟨h1, h2, h3⟩ := h.comp hf (ys.take us.length) (by rw [List.length_take]; omega) hy.left
    obtain ⟨h4, h5, h6⟩ := k.comp h3 (ys.drop us.length) (by rw [List.length_drop]; omega) (by rw [h2]; exact hy.right)
    refine ⟨?_, ?_, h6⟩
    · rw [e, ← h1, ← h4]
    · rw [h5, h2, e, packI_app, List.length_append, List.take_append_drop]
      omega

theorem numberI_any (w0 w : World) (q : Nat) (vb : Value) (bs : List Int) (p : Nat) (f : Option (Int × Int)) (h : RdI w0 w q vb bs p f) :
    Calls Tryz.prog 18 #[.pointer (some ⟨q, 0, none⟩)] w fun e w' => ∃ (n : Int) (p' : Nat) (f' : Option (Int × Int)), e = .returned (.int .i64 n) ∧ RdI w0 w' q vb bs p' f' ∧ OnlyB q w w' ∧ Took bs p f p' f' [n] := by
  cases f with
  | some ak =>
    obtain ⟨a, k⟩ := ak
    refine (numberI_some w0 w q vb bs p a k h).mono ?_
    rintro e w' ⟨rfl, hw⟩
    obtain rfl := hw.symm
    exact ⟨0, p, some (a, k), rfl, h, ⟨Nat.le_refl _, fun _ _ _ => rfl, Below.refl _ _⟩, ⟨fun _ => ⟨rfl, rfl⟩, (fun h => by cases h), (fun h => by cases h)⟩⟩
  | none =>
    refine (numberI_none w0 w q vb bs p h).mono ?_
    rintro e w' ⟨n, rfl, hO, ⟨L, hL1, hpL, hn, hs, hR, hc⟩ | ⟨rfl, a, k, hR, hk, hno⟩⟩
    · refine ⟨n, p + L, none, rfl, hR, hO, ⟨fun h => absurd rfl h, fun _ => ⟨fun z hz => ?_, fun hz => ?_⟩, fun _ ys hl hy => ?_⟩⟩
      · rw [List.mem_singleton.1 hz]; exact hn
      · rw [packI_one]; exact hs (hz n (List.mem_singleton.2 rfl))
      · obtain ⟨y, rfl⟩ := List.length_eq_one_iff.1 hl
        have h1 := hy.at 0 (by simp)
        simp only [List.take_zero, packI_nil, List.length_nil, Nat.add_zero, List.getElem_cons_zero] at h1
        obtain ⟨h2, h3⟩ := hc y h1
        exact ⟨by rw [h2], by rw [packI_one, h3], rfl⟩
    · refine ⟨-1, p, some (a, k), rfl, hR, hO, ⟨fun h => absurd rfl h, (fun h => by cases h), fun _ ys hl hy => ?_⟩⟩
      obtain ⟨y, rfl⟩ := List.length_eq_one_iff.1 hl
      have h1 := hy.at 0 (by simp)
      simp only [List.take_zero, packI_nil, List.length_nil, Nat.add_zero, List.getElem_cons_zero] at h1
      exact absurd h1 (hno y)

/-- What reading a count comes to. -/
structure TookC (bs : List Int) (most : Int) (p : Nat) (f : Option (Int × Int)) (p' : Nat) (f' : Option (Int × Int)) (n : Int) : Prop where
  rng : 0 ≤ n ∧ n ≤ most
  keep : f ≠ none → f' = f ∧ p' = p
  sound : f' = none → bs.drop p = packI [n] ++ bs.drop p'
  comp : f = none → ∀ z, NumAt bs p z → 0 ≤ z → z ≤ most → n = z ∧ p' = p + (numI z).length ∧ f' = none

set_option maxRecDepth 100000 in
set_option maxHeartbeats 4000000 in
theorem countI_any (w0 w : World) (q : Nat) (vb : Value) (bs : List Int) (p : Nat) (f : Option (Int × Int)) (most : Int) (hm0 : 0 ≤ most) (hm : most ≤ 9999) (h : RdI w0 w q vb bs p f) :
    Calls Tryz.prog 54 #[.pointer (some ⟨q, 0, none⟩), .int .i64 most] w fun e w' => ∃ (n : Int) (p' : Nat) (f' : Option (Int × Int)), e = .returned (.int .i64 n) ∧ RdI w0 w' q vb bs p' f' ∧ OnlyB q w w' ∧ TookC bs most p f p' f' n := by
  have k1 := h.c1
  have H := hide h
  clear h
  go_enter Tryz.func54, Tryz.ntmps54
  go_wp2_with fail
  refine (numberI_any w0 _ q vb bs p f (unhide H)).mono ?_
  rintro e w1 ⟨n, p1, f1, rfl, hR1, hO1, hT1⟩
  have HR1 := hide hR1
  have HO1 := hide hO1
  have HT1 := hide hT1
  clear hR1 hO1 hT1 k1
  go_wp2_with fail
  refine (within_any n 0 most _).mono ?_
  rintro e w2 ⟨rfl, hw2⟩
  obtain rfl := hw2.symm
  by_cases hin : 0 ≤ n ∧ n ≤ most
  · rw [show inR 0 most n = true by simp [inR, hin.1, hin.2]]
    have HIN := hide hin
    clear hin
    go_wp2_with fail
    go_ret
    obtain ⟨hn0, hn1⟩ := unhide HIN
    have hT := unhide HT1
    refine ⟨n, p1, f1, rfl, unhide HR1, unhide HO1, ⟨⟨hn0, hn1⟩, hT.keep, fun hf => (hT.sound hf).2 (fun z hz => by rw [List.mem_singleton.1 hz]; omega), fun hf z hz h0 h1 => ?_⟩⟩
    obtain ⟨h2, h3, h4⟩ := hT.comp hf [z] rfl ⟨fun y hy => by rw [List.mem_singleton.1 hy]; exact ⟨hz.1, hz.2.1⟩, by rw [packI_one]; exact hz.2.2⟩
    exact ⟨by simpa using h2, by rw [h3, packI_one], h4⟩
  · rw [show inR 0 most n = false by unfold inR; rw [Bool.and_eq_false_iff]; simp only [decide_eq_false_iff_not]; omega]
    have HIN := hide hin
    clear hin
    go_wp2_with fail
    refine (failI_any w0 _ q vb bs p1 f1 p 5 (unhide HR1)).mono ?_
    rintro e w3 ⟨rfl, ⟨f3, hne, hfn, hfs, hR3⟩, hO3⟩
    have HR3 := hide hR3
    have HO3 := hide ((unhide HO1).trans hO3)
    clear hR3 hO3
    go_wp2_with fail
    go_ret
    have hT := unhide HT1
    refine ⟨0, p1, f3, rfl, unhide HR3, unhide HO3, ⟨⟨by omega, hm0⟩, fun hf => ?_, fun hf => absurd hf hne, fun hf z hz h0 h1 => ?_⟩⟩
    · obtain ⟨h1, h2⟩ := hT.keep hf
      exact ⟨(hfs (by rw [h1]; exact hf)).trans h1, h2⟩
    · obtain ⟨h2, _, _⟩ := hT.comp hf [z] rfl ⟨fun y hy => by rw [List.mem_singleton.1 hy]; exact ⟨hz.1, hz.2.1⟩, by rw [packI_one]; exact hz.2.2⟩
      have hnz : n = z := by simpa using h2
      exact absurd ⟨by omega, by omega⟩ (unhide HIN)

/-- Of what lay there only these two blocks may have turned. -/
structure Only2 (q r : Nat) (w w' : World) : Prop where
  os : w'.os = w.os
  tape : w'.tape = w.tape
  output : w'.output = w.output
  size : w.heap.size ≤ w'.heap.size
  other : ∀ b, b ≠ q → b ≠ r → b < w.heap.size → w'.heap[b]? = w.heap[b]?

theorem Only2.refl (q r : Nat) (w : World) : Only2 q r w w := ⟨rfl, rfl, rfl, Nat.le_refl _, fun _ _ _ _ => rfl⟩
theorem Only2.then {q r : Nat} {a b c : World} (h : Only2 q r a b) (k : OnlyB q b c) : Only2 q r a c :=
  ⟨k.below.os.trans h.os, k.below.tape.trans h.tape, k.below.output.trans h.output, Nat.le_trans h.size k.size, fun i h1 h2 hl => (k.other i h1 (Nat.lt_of_lt_of_le hl h.size)).trans (h.other i h1 h2 hl)⟩
theorem Only2.set {q r o : Nat} {a b : World} (h : Only2 q r a b) (x : Value) : Only2 q r a (b.setCell ⟨r, o, none⟩ x) :=
  ⟨h.os, h.tape, h.output, by simpa using h.size, fun i h1 h2 hl => (Below.heap_setCell b ⟨r, o, none⟩ x i h2).trans (h.other i h1 h2 hl)⟩
theorem OnlyB.then2 {q r : Nat} {a b c : World} (h : OnlyB q a b) (k : Only2 q r b c) (hq : q < a.heap.size) (hr : a.heap.size ≤ r) : OnlyB q a c :=
  ⟨Nat.le_trans h.size k.size, fun i h1 hl => (k.other i h1 (by omega) (Nat.lt_of_lt_of_le hl h.size)).trans (h.other i h1 hl),
   h.below.trans ⟨k.os, k.tape, k.output, k.size, fun i hi => k.other i (by omega) (by omega) (by have := h.size; omega)⟩⟩
theorem RdI.set {w0 w : World} {q r o : Nat} {vb x : Value} {bs : List Int} {p : Nat} {f : Option (Int × Int)} (h : RdI w0 w q vb bs p f) (hr : q < r) : RdI w0 (w.setCell ⟨r, o, none⟩ x) q vb bs p f := by
  have hc : ∀ i, (w.setCell ⟨r, o, none⟩ x).cell? ⟨q, i, none⟩ = w.cell? ⟨q, i, none⟩ := fun i => World.cell?_setCell_far _ _ _ _ (by show r ≠ q; omega)
  exact ⟨h.bytes, h.capok, h.rng, h.few, h.q0, h.below.setCell (p := ⟨r, o, none⟩) (by have := h.q0; show w0.heap.size ≤ r; omega) _, (hc 0).trans h.c0, (hc 1).trans h.c1, (hc 2).trans h.c2, fun i => (World.frozen?_of_block (Below.heap_setCell w ⟨r, o, none⟩ x q (by show q ≠ r; omega))).trans (h.fz i), h.pl⟩

set_option maxRecDepth 100000 in
set_option maxHeartbeats 4000000 in
theorem rowI_any (w0 w : World) (q r t m : Nat) (f0 : Nat → Value) (vb : Value) (bs : List Int) (p : Nat) (f : Option (Int × Int)) (h : RdI w0 w q vb bs p f) (hr : q < r) (hrow : w.rowIs r t m f0) (hm : m ≤ 1000) :
    Calls Tryz.prog 15 #[.pointer (some ⟨q, 0, none⟩), .slice (some ⟨r, 0, none⟩) m m] w fun e w' => e = .returned (.tuple #[]) ∧ ∃ (zs : List Int) (p' : Nat) (f' : Option (Int × Int)), zs.length = m ∧ w'.rowIs r t m (fun i => .int .i64 (zs.getD i 0)) ∧ RdI w0 w' q vb bs p' f' ∧ Only2 q r w w' ∧ Took bs p f p' f' zs := by
  have H := hide h
  have HROW := hide hrow
  clear h hrow
  go_enter Tryz.func15, Tryz.ntmps15
  go_wp2_with fail
  go_loopw [7] (fun i wr => ∃ (k : Nat) (zs : List Int) (p1 : Nat) (f1 : Option (Int × Int)) (g : Nat → Value), k ≤ m ∧ i = .int .i64 k ∧ Hid (zs.length = k) ∧ Hid (wr.rowIs r t m g) ∧ Hid (∀ i, i < k → g i = .int .i64 (zs.getD i 0)) ∧ Hid (RdI w0 wr q vb bs p1 f1) ∧ Hid (Only2 q r w wr) ∧ Hid (Took bs p f p1 f1 zs)) (fun i _ => m - (intOf i).toNat)
  case atStart => exact ⟨0, [], p, f, f0, Nat.zero_le _, rfl, hide rfl, HROW, hide (fun i hi => absurd hi (Nat.not_lt_zero _)), H, hide (Only2.refl _ _ _), hide (Took.nil _ _ _)⟩
  case round =>
    obtain ⟨k, zs, p1, f1, g, hk, rfl, HL, HG, HI, HR, HO, HT⟩ := hrel
    by_cases hlt : k < m
    · have hkI : (k : Int) < (m : Int) := by omega
      have hk0 : (0 : Int) ≤ (k : Int) := by omega
      go_wp2_with fail
      refine (numberI_any w0 _ q vb bs p1 f1 (unhide HR)).mono ?_
      rintro e w3 ⟨n, p3, f3, rfl, hR3, hO3, hT3⟩
      have hrb := World.rowIs.lt (unhide HG)
      have hrow3 := (unhide HG).of_block (hO3.other r (by omega) hrb)
      have HG3 := hide hrow3
      have HR3 := hide (hR3.set (o := k) (x := .int .i64 n) hr)
      have HO3 := hide (((unhide HO).then hO3).set (o := k) (.int .i64 n))
      have HT3 := hide ((unhide HT).trans hT3)
      have g0 : w3.cell? ⟨r, k, none⟩ = some (g k) := hrow3.cell (i := k) hlt
      have z0 : w3.frozen? ⟨r, k, none⟩ = false := hrow3.frozen k
      clear hR3 hO3 hT3 hrow3 hrb
      go_wp2_with fail
      go_roundw
      case rel =>
        refine ⟨k + 1, zs ++ [n], p3, f3, _, by omega, by go_num, hide (by rw [List.length_append, unhide HL]; rfl), hide ((unhide HG3).set k (.int .i64 n)), hide (fun i hi => ?_), HR3, HO3, HT3⟩
        have hl := unhide HL
        show (if i = k then Value.int .i64 n else g i) = _
        rcases (show i = k ∨ i < k by omega) with rfl | h
        · rw [if_pos rfl]; simp [List.getD, hl]
        · rw [if_neg (by omega), (unhide HI) i h]
          have : i < zs.length := by omega
          simp [List.getD, List.getElem?_append_left this]
      case measure => simp [intOf]; omega
    · obtain rfl : k = m := by omega
      go_wp2_with fail
      go_end0
      exact ⟨rfl, zs, p1, f1, unhide HL, (unhide HG).congr (fun i hi => (unhide HI) i hi), unhide HR, unhide HO, unhide HT⟩
end Go.Proofs.YtiljjhipiinafaaGreat
