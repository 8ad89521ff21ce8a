/- The reader of impl: fail, isLastPiece, slices.IndexFunc, pieces. -/
import Derived.Test.YtiljjhipiinafaaWire9
namespace Go.Proofs.Ytiljjhipiinafaa
open Go.RowKit
set_option linter.unusedVariables false
set_option linter.unusedSimpArgs false

def faultOf : Option (Int × Int) → Value
  | none => .nilIface
  | some (a, k) => faultV a k

/-- A reader of impl at block q of bytes that lay there ahead of it. -/
structure RdI (w0 w : World) (q : Nat) (vb : Value) (bs : List Int) (p : Nat) (f : Option (Int × Int)) : Prop where
  bytes : ByAt w0 vb bs
  capok : ∀ a n c, vb = .slice a n c → c ≤ maxLen ∧ (a = none → c = 0)
  rng : ∀ z ∈ bs, 0 ≤ z ∧ z ≤ 255
  few : bs.length ≤ 1048576
  q0 : w0.heap.size ≤ q
  below : Below w0.heap.size w0 w
  c0 : w.cell? ⟨q, 0, none⟩ = some vb
  c1 : w.cell? ⟨q, 1, none⟩ = some (.int .i64 p)
  c2 : w.cell? ⟨q, 2, none⟩ = some (faultOf f)
  fz : ∀ i, w.frozen? ⟨q, i, none⟩ = false
  pl : p ≤ bs.length

theorem RdI.on {w0 w w' : World} {q : Nat} {vb : Value} {bs : List Int} {p : Nat} {f : Option (Int × Int)} (hb : Below w.heap.size w w') (h : RdI w0 w q vb bs p f) : RdI w0 w' q vb bs p f :=
  ⟨h.bytes, h.capok, h.rng, h.few, h.q0, h.below.trans (hb.mono h.below.size), cell_on hb h.c0, cell_on hb h.c1, cell_on hb h.c2, fun i => (hb.frozen (p := ⟨q, i, none⟩) (World.block_lt_of_cell? w ⟨q, 0, none⟩ h.c0)).trans (h.fz i), h.pl⟩
theorem RdI.lt {w0 w : World} {q : Nat} {vb : Value} {bs : List Int} {p : Nat} {f : Option (Int × Int)} (h : RdI w0 w q vb bs p f) : q < w.heap.size := World.block_lt_of_cell? w ⟨q, 0, none⟩ h.c0
theorem RdI.setAt {w0 w : World} {q : Nat} {vb : Value} {bs : List Int} {p : Nat} {f : Option (Int × Int)} (h : RdI w0 w q vb bs p f) (p' : Nat) (hp : p' ≤ bs.length) : RdI w0 (w.setCell ⟨q, 1, none⟩ (.int .i64 p')) q vb bs p' f :=
  ⟨h.bytes, h.capok, h.rng, h.few, h.q0, h.below.setCell (p := ⟨q, 1, none⟩) h.q0 _, by simp [go_sem, h.c0], by simp [go_sem, h.c1], by simp [go_sem, h.c2], fun i => by simp [go_sem, h.fz], hp⟩
theorem RdI.setF {w0 w : World} {q : Nat} {vb : Value} {bs : List Int} {p : Nat} {f : Option (Int × Int)} (h : RdI w0 w q vb bs p f) (a k : Int) : RdI w0 (w.setCell ⟨q, 2, none⟩ (faultV a k)) q vb bs p (some (a, k)) :=
  ⟨h.bytes, h.capok, h.rng, h.few, h.q0, h.below.setCell (p := ⟨q, 2, none⟩) h.q0 _, by simp [go_sem, h.c0], by simp [go_sem, h.c1], by simp [go_sem, h.c2, faultOf], fun i => by simp [go_sem, h.fz], h.pl⟩
theorem RdI.gr {w0 w w' : World} {q : Nat} {vb v u : Value} {bs : List Int} {p : Nat} {f : Option (Int × Int)} (hG : Gr v u w w') (hv : ∀ g, v.ownBlock = some g → q < g) (h : RdI w0 w q vb bs p f) : RdI w0 w' q vb bs p f := by
  have hc : ∀ i x, w.cell? ⟨q, i, none⟩ = some x → w'.cell? ⟨q, i, none⟩ = some x := fun i x e => hG.cell e (fun e2 => by have := hv q e2; omega)
  refine ⟨h.bytes, h.capok, h.rng, h.few, h.q0, Below.grown h.below hG.g h.below.size (fun g e => by have := hv g e; have := h.q0; omega), hc 0 _ h.c0, hc 1 _ h.c1, hc 2 _ h.c2, fun i => ?_, h.pl⟩
  exact (World.frozen?_of_block (hG.g.block q h.lt (fun e => by have := hv q e.symm; omega))).trans (h.fz i)

set_option maxRecDepth 100000 in
set_option maxHeartbeats 2000000 in
theorem failI_any (w0 w : World) (q : Nat) (vb : Value) (bs : List Int) (p : Nat) (f : Option (Int × Int)) (a k : Int) (h : RdI w0 w q vb bs p f) :
    Calls Try.prog 115 #[.pointer (some ⟨q, 0, none⟩), .int .i64 a, .int .u8 k] w fun e w' => e = .returned (.tuple #[]) ∧ (∃ f', f' ≠ none ∧ (f = none → f' = some (a, k)) ∧ (f ≠ none → f' = f) ∧ RdI w0 w' q vb bs p f') ∧ OnlyB q w w' := by
  cases f with
  | none =>
    have k2 : w.cell? ⟨q, 2, none⟩ = some .nilIface := h.c2
    have f2 := h.fz 2
    have H := hide (h.setF a k)
    clear h
    go_enter Try.func115, Try.ntmps115
    go_wp2
    go_end0
    exact ⟨rfl, ⟨_, by simp, fun _ => rfl, fun h => absurd rfl h, unhide H⟩, OnlyB.set _ _ _ _⟩
  | some ak =>
    obtain ⟨a0, k0⟩ := ak
    have k2 : w.cell? ⟨q, 2, none⟩ = some (faultV a0 k0) := h.c2
    have H := hide h
    clear h
    go_enter Try.func115, Try.ntmps115
    go_wp2
    go_end0
    exact ⟨rfl, ⟨_, by simp, (fun h => by cases h), fun _ => rfl, unhide H⟩, ⟨Nat.le_refl _, fun _ _ _ => rfl, Below.refl _ _⟩⟩

theorem isLast_any (x : Int) (w : World) : Calls Try.prog 117 #[.int .u8 x] w fun e w' => e = .returned (.bool (decide (x < 128))) ∧ w' = w := by
  by_cases h : x < 128
  · rw [show decide (x < 128) = true by simp [h]]
    go_enter Try.func117, Try.ntmps117
    go_wp2
    go_ret
    exact ⟨rfl, rfl⟩
  · rw [show decide (x < 128) = false by simp [h]]
    go_enter Try.func117, Try.ntmps117
    go_wp2
    go_ret
    exact ⟨rfl, rfl⟩

/-- The place of the first byte below 128, or -1. -/
def LastIs (rs : List Int) (i : Int) : Prop := (i = -1 ∧ ∀ j, j < rs.length → 128 ≤ rs.getD j 0) ∨ (∃ k : Nat, i = k ∧ k < rs.length ∧ rs.getD k 0 < 128 ∧ ∀ j, j < k → 128 ≤ rs.getD j 0)

set_option maxRecDepth 100000 in
set_option maxHeartbeats 2000000 in
theorem indexFunc_any (v : Value) (rs : List Int) (w : World) (h : ByAt w v rs) :
    Calls Try.prog 116 #[v, .func (.func 117) #[] #[]] w fun e w' => ∃ i : Int, e = .returned (.int .i64 i) ∧ LastIs rs i ∧ w' = w := by
  obtain ⟨ad, cap, rfl, hlc, hm, hc⟩ := h
  have HC := hide hc
  unfold maxLen at hm
  clear hc
  go_enter Try.func116, Try.ntmps116
  go_wp2_with fail
  go_loop [8] (fun i => ∃ k : Nat, k ≤ rs.length ∧ i = .int .i64 k ∧ Hid (∀ j, j < k → 128 ≤ rs.getD j 0)) (fun i => rs.length - (intOf i).toNat)
  case atStart => exact ⟨0, Nat.zero_le _, rfl, hide (fun j hj => absurd hj (Nat.not_lt_zero _))⟩
  case round =>
    obtain ⟨k, hk, rfl, HK⟩ := hrel
    by_cases hlt : k < rs.length
    · obtain ⟨b, off, rfl, p1⟩ : ∃ b off, ad = some ⟨b, off, none⟩ ∧ w.cell? ⟨b, off + k, none⟩ = some (.int .u8 rs[k]) := by
        rcases unhide HC with h | ⟨b, off, h1, h2⟩
        · rw [h] at hlt; exact absurd hlt (Nat.not_lt_zero _)
        · exact ⟨b, off, h1, h2 k hlt⟩
      have hkI : (k : Int) < (rs.length : Int) := by omega
      have hk0 : (0 : Int) ≤ (k : Int) := by omega
      have HX : Hid (rs.getD k 0 = rs[k]) := hide (by simp [hlt])
      generalize rs[k] = x at *
      go_wp2_with fail
      refine (isLast_any x _).mono ?_
      rintro e w1 ⟨rfl, hw1⟩
      obtain rfl := hw1.symm
      by_cases hx : x < 128
      · rw [show decide (x < 128) = true by simp [hx]]
        have HX8 := hide hx
        clear hx
        go_wp2_with fail
        go_ret
        exact ⟨_, rfl, Or.inr ⟨k, rfl, hlt, by rw [unhide HX]; exact unhide HX8, unhide HK⟩, rfl⟩
      · rw [show decide (x < 128) = false by simp [hx]]
        have HX8 := hide hx
        clear hx
        go_wp2_with fail
        go_round
        case rel => exact ⟨k + 1, by omega, by go_num, hide (fun j hj => by
          rcases (show j = k ∨ j < k by omega) with rfl | h
          · rw [unhide HX]; have := unhide HX8; omega
          · exact (unhide HK) j h)⟩
        case measure => simp [intOf]; omega
    · obtain rfl : k = rs.length := by omega
      go_wp2_with fail
      go_ret
      exact ⟨_, rfl, Or.inl ⟨rfl, unhide HK⟩, rfl⟩
end Go.Proofs.Ytiljjhipiinafaa
