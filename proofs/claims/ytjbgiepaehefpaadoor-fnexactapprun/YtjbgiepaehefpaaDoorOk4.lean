/- Contracts of impl.needOp, needRule: they return where the op, the rule is ok, and panic where it is not. -/
import Derived.Test.YtjbgiepaehefpaaDoorOk3
namespace Go.Proofs.YtjbgiepaehefpaaDoor
open Go.RowKit
set_option linter.unusedVariables false

theorem opOk_1 (a b c e : Int) : opOk ⟨1, a, b, c, e⟩ = (chk ⟨#[114, 110]⟩ 0 a && chk ⟨#[114, 110]⟩ 1 b && chk ⟨#[114, 110]⟩ 2 c && chk ⟨#[114, 110]⟩ 3 e) := rfl
theorem opOk_2 (a b c e : Int) : opOk ⟨2, a, b, c, e⟩ = (chk ⟨#[114, 114]⟩ 0 a && chk ⟨#[114, 114]⟩ 1 b && chk ⟨#[114, 114]⟩ 2 c && chk ⟨#[114, 114]⟩ 3 e) := rfl
theorem opOk_3 (a b c e : Int) : opOk ⟨3, a, b, c, e⟩ = (chk ⟨#[114, 110]⟩ 0 a && chk ⟨#[114, 110]⟩ 1 b && chk ⟨#[114, 110]⟩ 2 c && chk ⟨#[114, 110]⟩ 3 e) := rfl
theorem opOk_4 (a b c e : Int) : opOk ⟨4, a, b, c, e⟩ = (chk ⟨#[114]⟩ 0 a && chk ⟨#[114]⟩ 1 b && chk ⟨#[114]⟩ 2 c && chk ⟨#[114]⟩ 3 e) := rfl
theorem opOk_5 (a b c e : Int) : opOk ⟨5, a, b, c, e⟩ = (chk ⟨#[114, 110, 111]⟩ 0 a && chk ⟨#[114, 110, 111]⟩ 1 b && chk ⟨#[114, 110, 111]⟩ 2 c && chk ⟨#[114, 110, 111]⟩ 3 e) := rfl
theorem opOk_6 (a b c e : Int) : opOk ⟨6, a, b, c, e⟩ = (chk ⟨#[112, 107, 108, 114]⟩ 0 a && chk ⟨#[112, 107, 108, 114]⟩ 1 b && chk ⟨#[112, 107, 108, 114]⟩ 2 c && chk ⟨#[112, 107, 108, 114]⟩ 3 e) := rfl
theorem opOk_7 (a b c e : Int) : opOk ⟨7, a, b, c, e⟩ = (chk ⟨#[114]⟩ 0 a && chk ⟨#[114]⟩ 1 b && chk ⟨#[114]⟩ 2 c && chk ⟨#[114]⟩ 3 e) := rfl

theorem opOk_out (o : OpV) (h : ¬ (1 ≤ o.d ∧ o.d ≤ 7)) : opOk o = false := by
  unfold opOk
  rw [if_neg (by omega), if_neg (by omega), if_neg (by omega), if_neg (by omega), if_neg (by omega)]

theorem needOp_out (o : OpV) (w : World) (h : ¬ (1 ≤ o.d ∧ o.d ≤ 7)) :
    Calls Tryd.prog 116 #[opAgg o] w fun e w' => Says (opOk o) e ∧ Below w.heap.size w w' := by
  rw [opOk_out o h]
  obtain ⟨d, a, b, c, e⟩ := o
  have hin : inR 1 7 d = false := by simp [inR]; simp at h; omega
  clear h
  go_enter Tryd.func116, Tryd.ntmps116
  go_wp2_with fail
  refine (within_any _ _ _ _).mono ?_; rintro e w' ⟨rfl, rfl⟩
  rw [hin]
  go_wp2_with fail
  refine (need_no _ _).mono ?_; rintro e w' ⟨⟨u, pv, rfl⟩, rfl⟩
  go_wp2_with fail
  exact ⟨rfl, Or.inr ⟨rfl, u, pv, rfl⟩, (Below.refl _ _).alloc (Nat.le_refl _) _⟩

theorem good_2 (x y : UInt8) (hx : goodPart (x.toNat : Int)) (hy : goodPart (y.toNat : Int)) : ∀ k (h : k < (⟨#[x, y]⟩ : ByteArray).size), goodPart ((⟨#[x, y]⟩ : ByteArray)[k].toNat : Int) := by
  intro k h
  have h' : k < 2 := h
  rcases (show k = 0 ∨ k = 1 by omega) with rfl | rfl
  · exact hx
  · exact hy
theorem good_1 (x : UInt8) (hx : goodPart (x.toNat : Int)) : ∀ k (h : k < (⟨#[x]⟩ : ByteArray).size), goodPart ((⟨#[x]⟩ : ByteArray)[k].toNat : Int) := by
  intro k h
  have h' : k < 1 := h
  obtain rfl : k = 0 := by omega
  exact hx
theorem good_3 (x y z : UInt8) (hx : goodPart (x.toNat : Int)) (hy : goodPart (y.toNat : Int)) (hz : goodPart (z.toNat : Int)) : ∀ k (h : k < (⟨#[x, y, z]⟩ : ByteArray).size), goodPart ((⟨#[x, y, z]⟩ : ByteArray)[k].toNat : Int) := by
  intro k h
  have h' : k < 3 := h
  rcases (show k = 0 ∨ k = 1 ∨ k = 2 by omega) with rfl | rfl | rfl
  · exact hx
  · exact hy
  · exact hz
theorem good_4 (x y z u : UInt8) (hx : goodPart (x.toNat : Int)) (hy : goodPart (y.toNat : Int)) (hz : goodPart (z.toNat : Int)) (hu : goodPart (u.toNat : Int)) : ∀ k (h : k < (⟨#[x, y, z, u]⟩ : ByteArray).size), goodPart ((⟨#[x, y, z, u]⟩ : ByteArray)[k].toNat : Int) := by
  intro k h
  have h' : k < 4 := h
  rcases (show k = 0 ∨ k = 1 ∨ k = 2 ∨ k = 3 by omega) with rfl | rfl | rfl | rfl
  · exact hx
  · exact hy
  · exact hz
  · exact hu

theorem gp_r : goodPart ((114 : UInt8).toNat : Int) := by unfold goodPart; decide
theorem gp_n : goodPart ((110 : UInt8).toNat : Int) := by unfold goodPart; decide
theorem gp_p : goodPart ((112 : UInt8).toNat : Int) := by unfold goodPart; decide
theorem gp_k : goodPart ((107 : UInt8).toNat : Int) := by unfold goodPart; decide
theorem gp_o : goodPart ((111 : UInt8).toNat : Int) := by unfold goodPart; decide
theorem gp_l : goodPart ((108 : UInt8).toNat : Int) := by unfold goodPart; decide

theorem needOp_any (o : OpV) (w : World) (hs : Shapes w 0) :
    Calls Tryd.prog 116 #[opAgg o] w fun e w' => Says (opOk o) e ∧ Below w.heap.size w w' := by
  by_cases h : 1 ≤ o.d ∧ o.d ≤ 7
  · obtain ⟨d, a, b, c, e⟩ := o
    simp only at h
    have h7 : d = 1 ∨ d = 2 ∨ d = 3 ∨ d = 4 ∨ d = 5 ∨ d = 6 ∨ d = 7 := by omega
    rcases h7 with rfl | rfl | rfl | rfl | rfl | rfl | rfl
    · rw [opOk_1]; exact needOp_gen 1 a b c e ⟨#[114, 110]⟩ w (by omega) (by omega) (by decide) hs.s1 (good_2 114 110 gp_r gp_n)
    · rw [opOk_2]; exact needOp_gen 2 a b c e ⟨#[114, 114]⟩ w (by omega) (by omega) (by decide) hs.s2 (good_2 114 114 gp_r gp_r)
    · rw [opOk_3]; exact needOp_gen 3 a b c e ⟨#[114, 110]⟩ w (by omega) (by omega) (by decide) hs.s3 (good_2 114 110 gp_r gp_n)
    · rw [opOk_4]; exact needOp_gen 4 a b c e ⟨#[114]⟩ w (by omega) (by omega) (by decide) hs.s4 (good_1 114 gp_r)
    · rw [opOk_5]; exact needOp_gen 5 a b c e ⟨#[114, 110, 111]⟩ w (by omega) (by omega) (by decide) hs.s5 (good_3 114 110 111 gp_r gp_n gp_o)
    · rw [opOk_6]; exact needOp_gen 6 a b c e ⟨#[112, 107, 108, 114]⟩ w (by omega) (by omega) (by decide) hs.s6 (good_4 112 107 108 114 gp_p gp_k gp_l gp_r)
    · rw [opOk_7]; exact needOp_gen 7 a b c e ⟨#[114]⟩ w (by omega) (by omega) (by decide) hs.s7 (good_1 114 gp_r)
  · exact needOp_out o w h

end Go.Proofs.YtjbgiepaehefpaaDoor
