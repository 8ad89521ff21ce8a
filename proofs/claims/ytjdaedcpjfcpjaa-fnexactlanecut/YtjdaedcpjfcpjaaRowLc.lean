/- Proved: laws.FnExactLaneCut answers true at every argument, which reads afterwards as before (impl.LaneCut answers as spec.LaneCut, each list in memory of its own). Conditions: none. -/
import Derived.Test.YtjdaedcpjfcpjaaRows
import Derived.Test.YtjdaedcpjfcpjaaLawLc
import Derived.Test.YtjdaedcpjfcpjaaOpenLane
import Derived.WalkKit
import Derived.ProofKit
import Derived.OpenShut
import Derived.ChangeOld
import Derived.Below
namespace Go.Proofs.Ytjdaedcpjfcpjaa.fnExactLaneCut
open Go.ChangeShapes Go.WideShapes Go.ChangeAt Go.RowKit
set_option linter.unusedVariables false

theorem own : ownKnob Try.prog.godebug = none := by kernel_rfl
theorem laidOut : laidOutB Try.prog = true := by kernel_rfl

set_option maxRecDepth 100000 in
theorem lifted (os : Os) (started : os.Started) (H : Type) (enc : TypeId × Value → H) :
    ReturnsInHanded {} Try.checked os 6 .any (Rows.fnExactLaneCutSpec.pre6 enc Try.prog Try.f6 Rows.fnExactLaneCutRow.domain false) (Rows.fnExactLaneCutSpec.post enc Try.prog Try.f6 false true false false) := by
  refine returnsInHanded_of_change (C := Try.checked) own started (by kernel_rfl) Try.func6
    (ChangeSpec.witness6 (enc := enc) (C := Try.checked) false ⟨#[], #[.agg #[.int .i64 0, .int .i64 0, .int .i64 0, .int .i64 0, .slice none 0 0], .slice none 0 0], []⟩ 8 (by kernel_rfl) (by kernel_rfl) (by kernel_rfl) (by kernel_rfl)) ?_
  intro W base args ds gs before hval0 hW hcnd _
  have hval : ∀ (j : Nat) t v, Try.f6.params[j]? = some t → args[j]? = some v → Value.okWide Try.prog W .any base t v := hval0
  have hW' := hW
  obtain ⟨p, q, hA0, hV, rfl, hfz, hnd⟩ := hW
  have hA : DataW.TrodAll enc Try.prog W 0 (fun _ => true) true Try.f6.params.toList args.toList ds p := hA0
  rw [Try.params6] at hA hval
  obtain ⟨v0, vs0, d0, ds0, p0, q0, hargs0, rfl, rfl, h0, r0⟩ := trodAll_cons hA
  obtain ⟨v1, vs1, d1, ds1, p1, q1, hargs1, rfl, rfl, h1, r1⟩ := trodAll_cons r0
  obtain ⟨rfl, rfl, rfl⟩ := trodAll_nil r1
  obtain rfl : args = #[v0, v1] := by cases args; simp_all
  obtain ⟨rfl, rfl⟩ := trodVars_none hV
  clear hA0 hval0
  have k0 := h0
  have lt0 : ∀ x ∈ p0, x.block < W.heap.size := by obtain ⟨m, hm⟩ := k0; exact DataW.trod_lt m _ _ _ hm
  obtain ⟨cs0, rfl, hcs0⟩ := okWide_struct Try.underlying26 (hval 0 26 v0 rfl rfl)
  obtain ⟨pr0, st0, vd0, ps0, hx0, hs0⟩ : ∃ (proc : Int) (s : StV) (v : Value) (ps : List PastV), cs0.toList = laneCells proc s v ∧ PastsAt W v ps := by
    obtain ⟨fuel, hf⟩ := h0
    obtain ⟨proc, s, v, ps, hv, hp⟩ := open_Lane hf
    exact ⟨proc, s, v, ps, by simpa [Value.cells] using hv, hp⟩
  obtain rfl : cs0 = #[.int .i64 pr0, .int .i64 st0.x, .int .i64 st0.y, .int .i64 st0.c, vd0] := by cases cs0; simp_all
  have k1 := h1
  have lt1 : ∀ x ∈ p1, x.block < W.heap.size := by obtain ⟨m, hm⟩ := k1; exact DataW.trod_lt m _ _ _ hm
  obtain ⟨a1, len1, cap1, rfl⟩ := okWide_slice slice_EventA (hval 1 38 v1 rfl rfl)
  obtain ⟨rs1, hrs1, hrl1⟩ : ∃ rs, RowsAt 7 W (.slice a1 len1 cap1) rs ∧ ∀ r ∈ rs, r.length = 7 := by
    obtain ⟨fuel, hf⟩ := h1
    obtain ⟨v, rs, hv, hp, hl⟩ := open_EventS hf
    have hv' : [Value.slice a1 len1 cap1] = [v] := by simpa [Value.cells] using hv
    obtain rfl : Value.slice a1 len1 cap1 = v := by simpa using hv'
    exact ⟨rs, hp, hl⟩
  refine (lawLaneCut_rows pr0 st0 vd0 _ ps0 rs1 W hs0 hrs1 hrl1).mono fun e W' ⟨he, bel⟩ => ?_
  subst he
  exact ⟨_, rfl, _, _, _, [], _, [], hW', trodAll_mk1 (shut_bool Try.underlying4 _), (trodAll_cons_mk (Below.trod laidOut (by kernel_rfl) (of_decide_eq_true (by kernel_rfl)) k0 bel lt0) (trodAll_cons_mk (Below.trod laidOut (by kernel_rfl) (of_decide_eq_true (by kernel_rfl)) k1 bel lt1) trodAll_mk0)), rfl, bel.frame _, fun h => by cases h⟩

theorem over : Rows.fnExactLaneCutRow.holds Try.pinned (OpenSpec.ofChange Rows.fnExactLaneCutSpec) :=
  OpenClaim.holds_of_wide 6 Try.f6 rfl rfl rfl rfl rfl rfl rfl ⟨rfl, rfl, rfl, rfl, rfl⟩ rfl rfl rfl rfl rfl (by kernel_rfl) Try.func6 (by kernel_rfl)
    (of_decide_eq_true (by kernel_rfl)) (by unfold Func.isWrapper; first | (rw [if_pos (by decide +kernel)]; kernel_rfl) | (rw [if_neg (by decide +kernel)]; exact ⟨rfl, rfl⟩))
    (fun os started H enc _ => lifted os started H enc)

theorem proved : Rows.FnExactLaneCutSaid := over
end Go.Proofs.Ytjdaedcpjfcpjaa.fnExactLaneCut
namespace Go.Proofs.Ytjdaedcpjfcpjaa
theorem fnExactLaneCut_holds : Rows.FnExactLaneCutSaid := fnExactLaneCut.proved
end Go.Proofs.Ytjdaedcpjfcpjaa
