/- spec.DrawNodeOf: a number that is drawn. -/
import Derived.Test.YtimkamgghkjhhaaPick
namespace Go.Proofs.Ytimkamgghkjhhaa
open Go.RowKit
set_option linter.unusedVariables false
set_option linter.unusedSimpArgs false

theorem DrawNodeOf_any (v : Value) (zs : List Int) (w : World) (h : BytesAt w v zs) :
    Calls Try.prog 7 #[v] w fun e w' => ∃ p : Int, e = .returned (.int .i64 p) ∧ -2 ≤ p ∧ p ≤ 5 ∧ Below w.heap.size w w' := by
  obtain ⟨ad, cap, hv⟩ : ∃ ad cap, v = .slice ad zs.length cap := by obtain ⟨a, c, h, _⟩ := h; exact ⟨a, c, h⟩
  subst hv
  have H := hide h
  clear h
  go_enter Try.func7, Try.ntmps7
  go_wp2_with fail
  refine (l6Open_any _ zs _ (unhide H)).mono ?_
  rintro e w1 ⟨v', zs', rfl, hrd, hb1⟩
  go_wp2_with fail
  refine (pick_any w w1 w.heap.size v' zs' 0 8 hrd (by omega) (by omega) (by omega)).mono ?_
  rintro e w2 ⟨x, rfl, hx0, hx1, hrd2, ho⟩
  have hb2 := ho.below
  clear hrd hrd2 ho
  go_wp2_with fail
  go_ret
  exact ⟨_, rfl, by omega, by omega, hb1.trans hb2⟩
end Go.Proofs.Ytimkamgghkjhhaa
