/- Proved: laws.FnExactSlotDo answers true at every argument, which reads afterwards as before (impl.SlotDo answers as spec.SlotDo, in memory of its own). Conditions: none. -/
import Derived.Test.YtocgfngcgekciaaRows
import Derived.Test.YtocgfngcgekciaaLawSd
import Derived.Test.YtocgfngcgekciaaOpenSteps
import Derived.WalkKit
import Derived.ProofKit
import Derived.OpenShut
import Derived.ChangeOld
import Derived.Below
namespace Go.Proofs.Ytocgfngcgekciaa.fnExactSlotDo
open Go.ChangeShapes Go.WideShapes Go.ChangeAt Go.RowKit
set_option linter.unusedVariables false

theorem own : ownKnob Try.prog.godebug = none := by kernel_rfl
theorem laidOut : laidOutB Try.prog = true := by kernel_rfl

set_option maxRecDepth 100000 in
theorem lifted (os : Os) (started : os.Started) (H : Type) (enc : TypeId × Value → H) :
    ReturnsInHanded {} Try.checked os 11 .any (Rows.fnExactSlotDoSpec.pre6 enc Try.prog Try.f11 Rows.fnExactSlotDoRow.domain false) (Rows.fnExactSlotDoSpec.post enc Try.prog Try.f11 false true false false) := by
  refine returnsInHanded_of_change (C := Try.checked) own started (by kernel_rfl) Try.func11
    (ChangeSpec.witness6 (enc := enc) (C := Try.checked) false ⟨#[], #[.agg #[.int .i64 0, .int .i64 0, .slice none 0 0, .int .i64 0, .int .i64 0, .slice none 0 0], .slice none 0 0, .int .i64 0], []⟩ 8 (by kernel_rfl) (by kernel_rfl) (by kernel_rfl) (by kernel_rfl)) ?_
  intro W base args ds gs before hval0 hW hcnd _
  have hval : ∀ (j : Nat) t v, Try.f11.params[j]? = some t → args[j]? = some v → Value.okWide Try.prog W .any base t v := hval0
  have hW' := hW
  obtain ⟨p, q, hA0, hV, rfl, hfz, hnd⟩ := hW
  have hA : DataW.TrodAll enc Try.prog W 0 (fun _ => true) true Try.f11.params.toList args.toList ds p := hA0
  rw [Try.params11] at hA hval
  obtain ⟨v0, vs0, d0, ds0, p0, q0, hargs0, rfl, rfl, h0, r0⟩ := trodAll_cons hA
  obtain ⟨v1, vs1, d1, ds1, p1, q1, hargs1, rfl, rfl, h1, r1⟩ := trodAll_cons r0
  obtain ⟨v2, vs2, d2, ds2, p2, q2, hargs2, rfl, rfl, h2, r2⟩ := trodAll_cons r1
  obtain ⟨rfl, rfl, rfl⟩ := trodAll_nil r2
  obtain rfl : args = #[v0, v1, v2] := by cases args; simp_all
  obtain ⟨rfl, rfl⟩ := trodVars_none hV
  clear hA0 hval0
  have k0 := h0
  have lt0 : ∀ x ∈ p0, x.block < W.heap.size := by obtain ⟨m, hm⟩ := k0; exact DataW.trod_lt m _ _ _ hm
  obtain ⟨cs0, rfl, hcs0⟩ := okWide_struct Try.underlying51 (hval 0 51 v0 rfl rfl)
  obtain ⟨dk0, va0_, vb0_, hx0, hs0⟩ : ∃ (d : DiskV) (va vb : Value), cs0.toList = diskCells d va vb ∧ DiskAt W d va vb := by
    obtain ⟨fuel, hf⟩ := h0
    obtain ⟨d, va, vb, hv, hp⟩ := open_Disk hf
    exact ⟨d, va, vb, by simpa [Value.cells] using hv, hp⟩
  obtain rfl : cs0 = #[.int .i64 dk0.a.num, .int .i64 dk0.a.cnt, va0_, .int .i64 dk0.b.num, .int .i64 dk0.b.cnt, vb0_] := by cases cs0; simp_all
  have k1 := h1
  have lt1 : ∀ x ∈ p1, x.block < W.heap.size := by obtain ⟨m, hm⟩ := k1; exact DataW.trod_lt m _ _ _ hm
  obtain ⟨a1, len1, cap1, rfl⟩ := okWide_slice slice_StepA (hval 1 59 v1 rfl rfl)
  obtain ⟨es1, he1⟩ : ∃ es, StepsAt W (.slice a1 len1 cap1) es := by
    obtain ⟨fuel, hf⟩ := h1
    obtain ⟨v, es, hv, hp⟩ := open_StepS hf
    have hv' : [Value.slice a1 len1 cap1] = [v] := by simpa [Value.cells] using hv
    obtain rfl : Value.slice a1 len1 cap1 = v := by simpa using hv'
    exact ⟨es, hp⟩
  have k2 := h2
  have lt2 : ∀ x ∈ p2, x.block < W.heap.size := by obtain ⟨m, hm⟩ := k2; exact DataW.trod_lt m _ _ _ hm
  obtain ⟨nn2, rfl, rfl, rfl, wf2⟩ := open_int Try.underlying3 (hval 2 3 v2 rfl rfl) h2
  refine (lawSlotDo_walk dk0 _ _ _ es1 nn2 W hs0 he1).mono fun e W' ⟨he, bel⟩ => ?_
  subst he
  exact ⟨_, rfl, _, _, _, [], _, [], hW', trodAll_mk1 (shut_bool Try.underlying4 _), (trodAll_cons_mk (Below.trod laidOut (by kernel_rfl) (of_decide_eq_true (by kernel_rfl)) k0 bel lt0) (trodAll_cons_mk (Below.trod laidOut (by kernel_rfl) (of_decide_eq_true (by kernel_rfl)) k1 bel lt1) (trodAll_cons_mk (Below.trod laidOut (by kernel_rfl) (of_decide_eq_true (by kernel_rfl)) k2 bel lt2) trodAll_mk0))), rfl, bel.frame _, fun h => by cases h⟩

theorem over : Rows.fnExactSlotDoRow.holds Try.pinned (OpenSpec.ofChange Rows.fnExactSlotDoSpec) :=
  OpenClaim.holds_of_wide 11 Try.f11 rfl rfl rfl rfl rfl rfl rfl ⟨rfl, rfl, rfl, rfl, rfl⟩ rfl rfl rfl rfl rfl (by kernel_rfl) Try.func11 (by kernel_rfl)
    (of_decide_eq_true (by kernel_rfl)) (by unfold Func.isWrapper; first | (rw [if_pos (by decide +kernel)]; kernel_rfl) | (rw [if_neg (by decide +kernel)]; exact ⟨rfl, rfl⟩))
    (fun os started H enc _ => lifted os started H enc)

theorem proved : Rows.FnExactSlotDoSaid := over
end Go.Proofs.Ytocgfngcgekciaa.fnExactSlotDo
namespace Go.Proofs.Ytocgfngcgekciaa
theorem fnExactSlotDo_holds : Rows.FnExactSlotDoSaid := fnExactSlotDo.proved
end Go.Proofs.Ytocgfngcgekciaa
