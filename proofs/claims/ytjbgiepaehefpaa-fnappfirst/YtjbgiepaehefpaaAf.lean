/- Proved: laws.FnAppFirst answers true at every slice of bytes, which reads afterwards as before (promise 7: each process begins with one event, at the time 0, from nobody). Conditions: none. -/
import Derived.Test.YtjbgiepaehefpaaEaf
import Derived.WalkKit
import Derived.ProofKit
import Derived.OpenShut
import Derived.ShutString
import Derived.ChangeOld
import Derived.Below
import Derived.WalkLawsBesides
namespace Go.Proofs.Ytjbgiepaehefpaa.fnAppFirst
open Go.ChangeShapes Go.WideShapes Go.ChangeAt Go.RowKit
open Go.ChangeMaps (open_string shut_string)
open fnExactAppFirst (firstVals zeroVals first6_in first6_lo first6_hi first7_in first7_lo first7_hi)
set_option linter.unusedVariables false

theorem own : ownKnob Try.prog.godebug = none := by kernel_rfl
theorem laidOut : laidOutB Try.prog = true := by kernel_rfl
def IsRow (k : IntKind) (w : World) (a : Option Addr) (len cap : Nat) (zs : List Int) : Prop :=
  (a = none ∧ len = 0 ∧ cap = 0 ∧ zs = []) ∨
  ∃ x, a = some x ∧ len ≤ cap ∧ cap ≤ maxLen ∧ zs.length = cap ∧ (∀ i, i < zs.length → w.cell? (x.add i) = some (.int k (zs.getD i 0))) ∧ ∀ n ∈ zs, (Lit.int k n).wf = true

theorem draw_nil (w : World) :
    Calls Try.prog 5 #[.slice none 0 0] w fun e w' => ∃ x : Int, e = .returned (.int .i64 x) ∧ -1 ≤ x ∧ x ≤ 5 ∧ Below w.heap.size w w' := by
  go_enter Try.func5, Try.ntmps5
  go_wp2
  go_ret
  exact ⟨_, rfl, by omega, by omega, by repeat (first | exact Below.refl _ _ | apply Below.drew | apply Below.setCell | apply Below.alloc | exact Nat.le_refl _ | simp )⟩
theorem draw_empty (x : Addr) (cap : Nat) (w : World) :
    Calls Try.prog 5 #[.slice (some x) 0 cap] w fun e w' => ∃ x : Int, e = .returned (.int .i64 x) ∧ -1 ≤ x ∧ x ≤ 5 ∧ Below w.heap.size w w' := by
  go_enter Try.func5, Try.ntmps5
  go_wp2
  go_ret
  exact ⟨_, rfl, by omega, by omega, by repeat (first | exact Below.refl _ _ | apply Below.drew | apply Below.setCell | apply Below.alloc | exact Nat.le_refl _ | simp )⟩
theorem draw_row (b off : Nat) (len cap : Nat) (z : Int) (w : World) (hb : b < w.heap.size) (h0 : 0 < len) (hlc : len ≤ cap) (hc : cap ≤ maxLen) (hl : len ≤ 2000) (h1 : w.cell? ⟨b, off, none⟩ = some (.int .u8 z)) (h2 : 0 ≤ z) (h3 : z ≤ 255) :
    Calls Try.prog 5 #[.slice (some ⟨b, off, none⟩) len cap] w fun e w' => ∃ x : Int, e = .returned (.int .i64 x) ∧ -1 ≤ x ∧ x ≤ 5 ∧ Below w.heap.size w w' := by
  unfold maxLen at hc
  have e0 : ((len : Int) == 0) = false := by simp; omega
  have hx : ∀ o, (w.alloc o).cell? ⟨b, off, none⟩ = some (.int .u8 z) := fun o => by rw [World.cell?_alloc_past _ _ _ hb]; exact h1
  go_enter Try.func5, Try.ntmps5
  go_wp2
  go_ret
  exact ⟨_, rfl, by omega, by omega, by repeat (first | exact Below.refl _ _ | apply Below.drew | apply Below.setCell | apply Below.alloc | exact Nat.le_refl _ | simp )⟩
theorem draw_long (b off : Nat) (len cap : Nat) (z : Int) (w : World) (hb : b < w.heap.size) (hlc : len ≤ cap) (hc : cap ≤ maxLen) (hl : 2000 < len) (h1 : w.cell? ⟨b, off, none⟩ = some (.int .u8 z)) (h2 : 0 ≤ z) (h3 : z ≤ 255) :
    Calls Try.prog 5 #[.slice (some ⟨b, off, none⟩) len cap] w fun e w' => ∃ x : Int, e = .returned (.int .i64 x) ∧ -1 ≤ x ∧ x ≤ 5 ∧ Below w.heap.size w w' := by
  unfold maxLen at hc
  have hx : ∀ o, (w.alloc o).cell? ⟨b, off, none⟩ = some (.int .u8 z) := fun o => by rw [World.cell?_alloc_past _ _ _ hb]; exact h1
  go_enter Try.func5, Try.ntmps5
  go_wp2
  go_ret
  exact ⟨_, rfl, by omega, by omega, by repeat (first | exact Below.refl _ _ | apply Below.drew | apply Below.setCell | apply Below.alloc | exact Nat.le_refl _ | simp )⟩
theorem draw_any (a0 : Option Addr) (len0 cap0 : Nat) (z0 : List Int) (w : World) (w0 : IsRow .u8 w a0 len0 cap0 z0) :
    Calls Try.prog 5 #[.slice a0 len0 cap0] w fun e w' => ∃ x : Int, e = .returned (.int .i64 x) ∧ -1 ≤ x ∧ x ≤ 5 ∧ Below w.heap.size w w' := by
  rcases w0 with ⟨rfl, rfl, rfl, rfl⟩ | ⟨x, rfl, hl, hm, hz, hcell, hwz⟩
  · exact draw_nil w
  · rcases Nat.eq_zero_or_pos len0 with h0 | h0
    · subst h0; exact draw_empty _ _ _
    · obtain ⟨b, off, spot⟩ := x
      have hc := hcell 0 (by omega)
      have hspot : spot = none := by simpa [Addr.add] using World.cell?_spot hc
      subst hspot
      have hc0 : w.cell? ⟨b, off, none⟩ = some (.int .u8 (z0.getD 0 0)) := by simpa [Addr.add] using hc
      have hb : b < w.heap.size := World.block_lt_of_cell? _ _ hc0
      have hin : z0.getD 0 0 ∈ z0 := by
        cases z0 with
        | nil => simp at hz; omega
        | cons y ys => simp
      have hw := hwz _ hin
      have hbd : 0 ≤ z0.getD 0 0 ∧ z0.getD 0 0 ≤ 255 := by
        have := bounds_u8 hw
        omega
      rcases Nat.lt_or_ge 2000 len0 with hq | hq
      · exact draw_long _ _ _ _ _ _ hb hl hm hq hc0 hbd.1 hbd.2
      · exact draw_row _ _ _ _ _ _ hb h0 hl hm hq hc0 hbd.1 hbd.2

set_option maxHeartbeats 800000 in
theorem walk (a0 : Option Addr) (len0 cap0 : Nat) (z0 : List Int) (w : World) (w0 : IsRow .u8 w a0 len0 cap0 z0) :
    Calls Try.prog 3 #[.slice a0 len0 cap0] w fun e w' => e = .returned (.bool true) ∧ Below w.heap.size w w' := by
  have H0 : Hid (IsRow .u8 w a0 len0 cap0 z0) := w0
  clear w0
  rcases Int.lt_or_le 1048576 (len0 : Int) with hl | hl
  · go_enter Try.func3, Try.ntmps3
    go_wp2
    go_ret
    exact ⟨rfl, Below.refl _ _⟩
  · go_enter Try.func3, Try.ntmps3
    go_wp2_with fail
    refine (draw_any _ _ _ _ _ H0.out).mono ?_
    rintro e w1 ⟨x, rfl, hx1, hx2, hb1⟩
    clear H0
    rcases Int.lt_or_le x 0 with h1 | h1
    · have h5 : ¬ 0 ≤ x := by omega
      go_wp2_with fail
      refine (first6_lo _ h1 _).mono ?_
      rintro e w2 ⟨rfl, rfl⟩
      go_wp2_with fail
      refine (first7_lo _ h1 _).mono ?_
      rintro e w3 ⟨rfl, rfl⟩
      go_wp2
      go_ret
      exact ⟨rfl, by repeat (first | exact hb1 | apply Below.drew | apply Below.setCell | apply Below.alloc | (have := hb1.size; simp; omega))⟩
    · rcases Int.lt_or_le 3 x with h2 | h2
      · have h6 : ¬ x ≤ 3 := by omega
        have h7 : 4 ≤ x := by omega
        go_wp2_with fail
        refine (first6_hi _ h1 h2 _).mono ?_
        rintro e w2 ⟨rfl, rfl⟩
        go_wp2_with fail
        refine (first7_hi _ h1 h2 _).mono ?_
        rintro e w3 ⟨rfl, rfl⟩
        go_wp2
        go_ret
        exact ⟨rfl, by repeat (first | exact hb1 | apply Below.drew | apply Below.setCell | apply Below.alloc | (have := hb1.size; simp; omega))⟩
      · have h6 : ¬ 4 ≤ x := by omega
        go_wp2_with fail
        refine (first6_in _ h1 h2 _).mono ?_
        rintro e w2 ⟨rfl, rfl⟩
        go_wp2_with fail
        refine (first7_in _ h1 h2 _).mono ?_
        rintro e w3 ⟨rfl, rfl⟩
        go_wp2
        go_ret
        exact ⟨rfl, by repeat (first | exact hb1 | apply Below.drew | apply Below.setCell | apply Below.alloc | (have := hb1.size; simp; omega))⟩

set_option maxRecDepth 100000 in
theorem lifted (os : Os) (started : os.Started) (H : Type) (enc : TypeId × Value → H) :
    ReturnsInHanded {} Try.checked os 3 .any (Rows.fnAppFirstSpec.pre6 enc Try.prog Try.f3 Rows.fnAppFirstRow.domain false) (Rows.fnAppFirstSpec.post enc Try.prog Try.f3 false true false false) := by
  refine returnsInHanded_of_change (C := Try.checked) own started (by kernel_rfl) Try.func3
    (ChangeSpec.witness6 (enc := enc) (C := Try.checked) false ⟨#[], #[.slice none 0 0], []⟩ 8 (by kernel_rfl) (by kernel_rfl) (by kernel_rfl) (by kernel_rfl)) ?_
  intro W base args ds gs before hval0 hW hcnd _
  have hval : ∀ (j : Nat) t v, Try.f3.params[j]? = some t → args[j]? = some v → Value.okWide Try.prog W .any base t v := hval0
  have hW' := hW
  obtain ⟨p, q, hA0, hV, rfl, hfz, hnd⟩ := hW
  have hA : DataW.TrodAll enc Try.prog W 0 (fun _ => true) true Try.f3.params.toList args.toList ds p := hA0
  rw [Try.params3] at hA hval
  obtain ⟨v0, vs0, d0, ds0, p0, q0, hargs, rfl, rfl, h0, r0⟩ := trodAll_cons hA
  obtain ⟨rfl, rfl, rfl⟩ := trodAll_nil r0
  obtain rfl : args = #[v0] := by cases args; simp_all
  obtain ⟨rfl, rfl⟩ := trodVars_none hV
  obtain ⟨a0, len0, cap0, rfl⟩ := okWide_slice Try.underlying22 (hval 0 22 v0 rfl rfl)
  have k0 := h0
  have lt0 : ∀ x ∈ p0, x.block < W.heap.size := by obtain ⟨m, hm⟩ := k0; exact DataW.trod_lt m _ _ _ hm
  obtain ⟨z0, w0⟩ : ∃ zs, IsRow .u8 W a0 len0 cap0 zs := by
    obtain ⟨fuel, hf⟩ := h0
    rcases open_ints Try.underlying22 Try.underlying5 (by kernel_rfl) hf with ⟨hcs, _⟩ | ⟨x, l, c, zs, hcs, _, hl, hm, hz, _, hcell, hwz⟩
    · simp [Value.cells] at hcs
      obtain ⟨rfl, rfl, rfl⟩ := hcs
      exact ⟨[], .inl ⟨rfl, rfl, rfl, rfl⟩⟩
    · simp [Value.cells] at hcs
      obtain ⟨rfl, rfl, rfl⟩ := hcs
      exact ⟨zs, .inr ⟨_, rfl, hl, hm, by simpa using hz, hcell, hwz⟩⟩
  clear hA0 hval0
  refine (walk a0 len0 cap0 z0 W w0).mono fun e W' ⟨he, bel⟩ => ?_
  subst he
  exact ⟨_, rfl, _, _, _, [], _, [], hW', trodAll_mk1 (shut_bool Try.underlying4 _), (trodAll_cons_mk (Below.trod laidOut (by kernel_rfl) (of_decide_eq_true (by kernel_rfl)) k0 bel lt0) trodAll_mk0), rfl, bel.frame _, fun h => by cases h⟩

theorem over : Rows.fnAppFirstRow.holds Try.pinned (OpenSpec.ofChange Rows.fnAppFirstSpec) :=
  OpenClaim.holds_of_wide 3 Try.f3 rfl rfl rfl rfl rfl rfl rfl ⟨rfl, rfl, rfl, rfl, rfl⟩ rfl rfl rfl rfl rfl (by kernel_rfl) Try.func3 (by kernel_rfl)
    (of_decide_eq_true (by kernel_rfl)) (by unfold Func.isWrapper; first | (rw [if_pos (by decide +kernel)]; kernel_rfl) | (rw [if_neg (by decide +kernel)]; exact ⟨rfl, rfl⟩))
    (fun os started H enc _ => lifted os started H enc)

theorem proved : Rows.FnAppFirstSaid := over
end Go.Proofs.Ytjbgiepaehefpaa.fnAppFirst
namespace Go.Proofs.Ytjbgiepaehefpaa
theorem fnAppFirst_holds : Rows.FnAppFirstSaid := fnAppFirst.proved
end Go.Proofs.Ytjbgiepaehefpaa
