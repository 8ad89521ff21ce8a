/- Proved: laws.FnExactHubJudge answers true at every argument, which reads afterwards as before (impl.HubJudge answers as spec.HubJudge). Conditions: none. -/
import Derived.Test.YtimkamgghkjhhaaRows
import Derived.Test.YtimkamgghkjhhaaLawHj
import Derived.Test.YtimkamgghkjhhaaOpenHub
import Derived.WalkKit
import Derived.ProofKit
import Derived.OpenShut
import Derived.ChangeOld
import Derived.Below
namespace Go.Proofs.Ytimkamgghkjhhaa.fnExactHubJudge
open Go.ChangeShapes Go.WideShapes Go.ChangeAt Go.RowKit
set_option linter.unusedVariables false

theorem own : ownKnob Try.prog.godebug = none := by kernel_rfl
theorem laidOut : laidOutB Try.prog = true := by kernel_rfl

set_option maxRecDepth 100000 in
theorem lifted (os : Os) (started : os.Started) (H : Type) (enc : TypeId × Value → H) :
    ReturnsInHanded {} Try.checked os 6 .any (Rows.fnExactHubJudgeSpec.pre6 enc Try.prog Try.f6 Rows.fnExactHubJudgeRow.domain false) (Rows.fnExactHubJudgeSpec.post enc Try.prog Try.f6 false true false false) := by
  refine returnsInHanded_of_change (C := Try.checked) own started (by kernel_rfl) Try.func6
    (ChangeSpec.witness6 (enc := enc) (C := Try.checked) false ⟨#[], #[.agg #[.int .i64 0, .slice none 0 0, .slice none 0 0, .slice none 0 0]], []⟩ 8 (by kernel_rfl) (by kernel_rfl) (by kernel_rfl) (by kernel_rfl)) ?_
  intro W base args ds gs before hval0 hW hcnd _
  have hval : ∀ (j : Nat) t v, Try.f6.params[j]? = some t → args[j]? = some v → Value.okWide Try.prog W .any base t v := hval0
  have hW' := hW
  obtain ⟨p, q, hA0, hV, rfl, hfz, hnd⟩ := hW
  have hA : DataW.TrodAll enc Try.prog W 0 (fun _ => true) true Try.f6.params.toList args.toList ds p := hA0
  rw [Try.params6] at hA hval
  obtain ⟨v0, vs0, d0, ds0, p0, q0, hargs0, rfl, rfl, h0, r0⟩ := trodAll_cons hA
  obtain ⟨rfl, rfl, rfl⟩ := trodAll_nil r0
  obtain rfl : args = #[v0] := by cases args; simp_all
  obtain ⟨rfl, rfl⟩ := trodVars_none hV
  clear hA0 hval0
  have k0 := h0
  have lt0 : ∀ x ∈ p0, x.block < W.heap.size := by obtain ⟨m, hm⟩ := k0; exact DataW.trod_lt m _ _ _ hm
  obtain ⟨cs0, rfl, hcs0⟩ := okWide_struct Try.underlying46 (hval 0 46 v0 rfl rfl)
  obtain ⟨hb0, va0_, vb0_, vc0_, hx0, hs0⟩ : ∃ (n : HubV) (v1 v2 v3 : Value), cs0.toList = hubCells n v1 v2 v3 ∧ HubAt W n v1 v2 v3 := by
    obtain ⟨fuel, hf⟩ := h0
    obtain ⟨n, v1, v2, v3, hv, hp⟩ := open_Hub hf
    exact ⟨n, v1, v2, v3, by simpa [Value.cells] using hv, hp⟩
  obtain rfl : cs0 = #[.int .i64 hb0.rd, va0_, vb0_, vc0_] := by cases cs0; simp_all
  refine (lawHj_walk hb0 va0_ vb0_ vc0_ W hs0).mono fun e W' ⟨he, bel⟩ => ?_
  subst he
  exact ⟨_, rfl, _, _, _, [], _, [], hW', trodAll_mk1 (shut_bool Try.underlying4 _), (trodAll_cons_mk (Below.trod laidOut (by kernel_rfl) (of_decide_eq_true (by kernel_rfl)) k0 bel lt0) trodAll_mk0), rfl, bel.frame _, fun h => by cases h⟩

theorem over : Rows.fnExactHubJudgeRow.holds Try.pinned (OpenSpec.ofChange Rows.fnExactHubJudgeSpec) :=
  OpenClaim.holds_of_wide 6 Try.f6 rfl rfl rfl rfl rfl rfl rfl ⟨rfl, rfl, rfl, rfl, rfl⟩ rfl rfl rfl rfl rfl (by kernel_rfl) Try.func6 (by kernel_rfl)
    (of_decide_eq_true (by kernel_rfl)) (by unfold Func.isWrapper; first | (rw [if_pos (by decide +kernel)]; kernel_rfl) | (rw [if_neg (by decide +kernel)]; exact ⟨rfl, rfl⟩))
    (fun os started H enc _ => lifted os started H enc)

theorem proved : Rows.FnExactHubJudgeSaid := over
end Go.Proofs.Ytimkamgghkjhhaa.fnExactHubJudge
namespace Go.Proofs.Ytimkamgghkjhhaa
theorem fnExactHubJudge_holds : Rows.FnExactHubJudgeSaid := fnExactHubJudge.proved
end Go.Proofs.Ytimkamgghkjhhaa
