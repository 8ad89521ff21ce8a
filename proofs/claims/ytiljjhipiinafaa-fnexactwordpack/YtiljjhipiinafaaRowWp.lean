/- Proved: laws.FnExactWordPack answers true at every argument, which reads afterwards as before (impl.WordPack answers as spec.WordPack, its answer owns its memory). Conditions: none. -/
import Derived.Test.YtiljjhipiinafaaRows
import Derived.Test.YtiljjhipiinafaaLawWp
import Derived.Test.YtiljjhipiinafaaOpenWord
import Derived.WalkKit
import Derived.ProofKit
import Derived.OpenShut
import Derived.ChangeOld
import Derived.Below
namespace Go.Proofs.Ytiljjhipiinafaa.fnExactWordPack
open Go.ChangeShapes Go.WideShapes Go.ChangeAt Go.RowKit
set_option linter.unusedVariables false

theorem own : ownKnob Try.prog.godebug = none := by kernel_rfl
theorem laidOut : laidOutB Try.prog = true := by kernel_rfl

set_option maxRecDepth 100000 in
theorem lifted (os : Os) (started : os.Started) (H : Type) (enc : TypeId × Value → H) :
    ReturnsInHanded {} Try.checked os 4 .any (Rows.fnExactWordPackSpec.pre6 enc Try.prog Try.f4 Rows.fnExactWordPackRow.domain false) (Rows.fnExactWordPackSpec.post enc Try.prog Try.f4 false true false false) := by
  refine returnsInHanded_of_change (C := Try.checked) own started (by kernel_rfl) Try.func4
    (ChangeSpec.witness6 (enc := enc) (C := Try.checked) false ⟨#[], #[.agg #[.int .i64 0, .int .i64 0, .int .i64 0, .int .i64 0, .int .i64 0, .int .i64 0, .int .i64 0, .slice none 0 0, .slice none 0 0, .slice none 0 0, .slice none 0 0]], []⟩ 8 (by kernel_rfl) (by kernel_rfl) (by kernel_rfl) (by kernel_rfl)) ?_
  intro W base args ds gs before hval0 hW hcnd _
  have hval : ∀ (j : Nat) t v, Try.f4.params[j]? = some t → args[j]? = some v → Value.okWide Try.prog W .any base t v := hval0
  have hW' := hW
  obtain ⟨p, q, hA0, hV, rfl, hfz, hnd⟩ := hW
  have hA : DataW.TrodAll enc Try.prog W 0 (fun _ => true) true Try.f4.params.toList args.toList ds p := hA0
  rw [Try.params4] at hA hval
  obtain ⟨v0, vs0, d0, ds0, p0, q0, hargs0, rfl, rfl, h0, r0⟩ := trodAll_cons hA
  obtain ⟨rfl, rfl, rfl⟩ := trodAll_nil r0
  obtain rfl : args = #[v0] := by cases args; simp_all
  obtain ⟨rfl, rfl⟩ := trodVars_none hV
  clear hA0 hval0
  have k0 := h0
  have lt0 : ∀ x ∈ p0, x.block < W.heap.size := by obtain ⟨m, hm⟩ := k0; exact DataW.trod_lt m _ _ _ hm
  obtain ⟨cs0, rfl, hcs0⟩ := okWide_struct Try.underlying38 (hval 0 38 v0 rfl rfl)
  obtain ⟨wd0, vi0_, vv0_, ve0_, vo0_, hx0, hs0⟩ : ∃ (n : WordV) (vi vv ve vo : Value), cs0.toList = wordCells n vi vv ve vo ∧ WordAt W n vi vv ve vo := by
    obtain ⟨fuel, hf⟩ := h0
    obtain ⟨n, vi, vv, ve, vo, hv, hp⟩ := open_Word hf
    exact ⟨n, vi, vv, ve, vo, by simpa [Value.cells] using hv, hp⟩
  obtain rfl : cs0 = #[.int .i64 wd0.kind, .int .i64 wd0.frm, .int .i64 wd0.dst, .int .i64 wd0.inc, .int .i64 wd0.ver, .int .i64 wd0.rd, .int .i64 wd0.g, vi0_, vv0_, ve0_, vo0_] := by cases cs0; simp_all
  refine (lawWordPack_walk wd0 vi0_ vv0_ ve0_ vo0_ W hs0).mono fun e W' ⟨he, bel⟩ => ?_
  subst he
  exact ⟨_, rfl, _, _, _, [], _, [], hW', trodAll_mk1 (shut_bool Try.underlying4 _), (trodAll_cons_mk (Below.trod laidOut (by kernel_rfl) (of_decide_eq_true (by kernel_rfl)) k0 bel lt0) trodAll_mk0), rfl, bel.frame _, fun h => by cases h⟩

theorem over : Rows.fnExactWordPackRow.holds Try.pinned (OpenSpec.ofChange Rows.fnExactWordPackSpec) :=
  OpenClaim.holds_of_wide 4 Try.f4 rfl rfl rfl rfl rfl rfl rfl ⟨rfl, rfl, rfl, rfl, rfl⟩ rfl rfl rfl rfl rfl (by kernel_rfl) Try.func4 (by kernel_rfl)
    (of_decide_eq_true (by kernel_rfl)) (by unfold Func.isWrapper; first | (rw [if_pos (by decide +kernel)]; kernel_rfl) | (rw [if_neg (by decide +kernel)]; exact ⟨rfl, rfl⟩))
    (fun os started H enc _ => lifted os started H enc)

theorem proved : Rows.FnExactWordPackSaid := over
end Go.Proofs.Ytiljjhipiinafaa.fnExactWordPack
namespace Go.Proofs.Ytiljjhipiinafaa
theorem fnExactWordPack_holds : Rows.FnExactWordPackSaid := fnExactWordPack.proved
end Go.Proofs.Ytiljjhipiinafaa
