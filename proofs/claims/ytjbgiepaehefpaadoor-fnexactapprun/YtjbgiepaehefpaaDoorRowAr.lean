/- Proved: laws.FnExactAppRun answers true at every argument, which reads afterwards as before, where impl.opShapes holds at the start what its text lays (the card ties that to the text). Conditions: none besides. -/
import Derived.Test.YtjbgiepaehefpaaDoorLawAr
import Derived.Test.YtjbgiepaehefpaaDoorLaid1
import Derived.Test.YtjbgiepaehefpaaDoorOpenSE
import Derived.Test.YtjbgiepaehefpaaDoorCards
import Derived.Test.YtjbgiepaehefpaaDoorTie
import Derived.WalkKit
import Derived.ProofKit
import Derived.OpenShut
import Derived.OpenVars
import Derived.Deep.DeepHandedRow
import Derived.Lib.LaidTab
namespace Go.Proofs.YtjbgiepaehefpaaDoor.fnExactAppRun
open Go.ChangeShapes Go.WideShapes Go.ChangeAt Go.RowKit
set_option linter.unusedVariables false

theorem own : ownKnob Tryd.prog.godebug = none := by kernel_rfl
theorem laidOut : laidOutB Tryd.prog = true := by kernel_rfl
theorem rowed : varsRowed Tryd.prog ["loop.example/slackwater/impl.opShapes"] = true := by kernel_rfl

set_option maxRecDepth 100000 in
theorem contract (H : Type) (enc : TypeId × Value → H) (W : World) (base : Nat) (args : Array Value) (ds gs : List (DataW H)) (before : List MemPlace)
    (hval : ∀ (j : Nat) t v, Tryd.f10.params[j]? = some t → args[j]? = some v → Value.okWide Tryd.prog W .any base t v)
    (hW : DataW.Whole enc Tryd.prog Tryd.f10.params.toList Rows.fnExactAppRunSpec.vars false W args.toList ds gs before) (hL : laidMetH Tryd.prog Rows.fnExactAppRunRow.laid W) :
    Calls Tryd.prog 10 args W fun e W' => ∃ v, e = .returned v ∧ Rows.fnExactAppRunSpec.post enc Tryd.prog Tryd.f10 false true false false W args v W' := by
  have hS : Shapes W 0 := shapes_at (shapes_var hL)
  have hW' := hW
  obtain ⟨p, q, hA0, hV0, rfl, hfz, hnd⟩ := hW
  have hA : DataW.TrodAll enc Tryd.prog W 0 (fun _ => true) true Tryd.f10.params.toList args.toList ds p := hA0
  have hV : DataW.TrodVars enc Tryd.prog W (fun _ => true) ["loop.example/slackwater/impl.opShapes"] gs q := hV0
  rw [Tryd.params10] at hA hval
  obtain ⟨v0, vs0, d0, ds0, p0, q0, hargs0, rfl, rfl, h0, r0⟩ := trodAll_cons hA
  obtain ⟨v1, vs1, d1, ds1, p1, q1, hargs1, rfl, rfl, h1, r1⟩ := trodAll_cons r0
  obtain ⟨v2, vs2, d2, ds2, p2, q2, hargs2, rfl, rfl, h2, r2⟩ := trodAll_cons r1
  obtain ⟨rfl, rfl, rfl⟩ := trodAll_nil r2
  obtain rfl : args = #[v0, v1, v2] := by cases args; simp_all
  obtain ⟨g, t, cs, fuel, gd, p', rfl, _⟩ := trodVars_one hV
  clear hA0 hV0
  have k0 := h0
  have lt0 : ∀ x ∈ p0, x.block < W.heap.size := by obtain ⟨m, hm⟩ := k0; exact DataW.trod_lt m _ _ _ hm
  have k1 := h1
  have lt1 : ∀ x ∈ p1, x.block < W.heap.size := by obtain ⟨m, hm⟩ := k1; exact DataW.trod_lt m _ _ _ hm
  have k2 := h2
  have lt2 : ∀ x ∈ p2, x.block < W.heap.size := by obtain ⟨m, hm⟩ := k2; exact DataW.trod_lt m _ _ _ hm
  obtain ⟨cs0, rfl, hcs0⟩ := okWide_struct Tryd.underlying58 (hval 0 58 v0 rfl rfl)
  obtain ⟨rv, rs, hx0, hrs⟩ : ∃ rv rs, cs0.toList = [rv] ∧ RulesAt W rv rs := by
    obtain ⟨fuel, hf⟩ := h0
    obtain ⟨v, rs, hv, hp⟩ := open_app hf
    exact ⟨v, rs, by simpa [Value.cells] using hv, hp⟩
  obtain rfl : cs0 = #[rv] := by cases cs0; simp_all
  obtain ⟨cs1, rfl, hcs1⟩ := okWide_struct Tryd.underlying59 (hval 1 59 v1 rfl rfl)
  obtain ⟨n1_0, n1_1, n1_2, hx1⟩ : ∃ n1_0 n1_1 n1_2 : Int, cs1.toList = [.int .i64 n1_0, .int .i64 n1_1, .int .i64 n1_2] := by
    obtain ⟨fuel, hf⟩ := h1
    obtain ⟨n1_0, n1_1, n1_2, hv⟩ := open_State hf
    exact ⟨n1_0, n1_1, n1_2, by simpa [Value.cells] using hv⟩
  obtain rfl : cs1 = #[.int .i64 n1_0, .int .i64 n1_1, .int .i64 n1_2] := by cases cs1; simp_all
  obtain ⟨cs2, rfl, hcs2⟩ := okWide_struct Tryd.underlying60 (hval 2 60 v2 rfl rfl)
  obtain ⟨n2_0, n2_1, n2_2, n2_3, n2_4, n2_5, n2_6, hx2⟩ : ∃ n2_0 n2_1 n2_2 n2_3 n2_4 n2_5 n2_6 : Int, cs2.toList = [.int .i64 n2_0, .int .i64 n2_1, .int .i64 n2_2, .int .i64 n2_3, .int .i64 n2_4, .int .i64 n2_5, .int .i64 n2_6] := by
    obtain ⟨fuel, hf⟩ := h2
    obtain ⟨n2_0, n2_1, n2_2, n2_3, n2_4, n2_5, n2_6, hv⟩ := open_Event hf
    exact ⟨n2_0, n2_1, n2_2, n2_3, n2_4, n2_5, n2_6, by simpa [Value.cells] using hv⟩
  obtain rfl : cs2 = #[.int .i64 n2_0, .int .i64 n2_1, .int .i64 n2_2, .int .i64 n2_3, .int .i64 n2_4, .int .i64 n2_5, .int .i64 n2_6] := by cases cs2; simp_all
  refine (lawAppRun_walk rv rs ⟨n1_0, n1_1, n1_2⟩ ⟨n2_0, n2_1, n2_2, n2_3, n2_4, n2_5, n2_6⟩ W hS hrs).mono fun e W' ⟨he, bel⟩ => ?_
  subst he
  exact ⟨_, rfl, _, _, _, [], _, q, hW', trodAll_mk1 (shut_bool Tryd.underlying4 _), (trodAll_cons_mk (Below.trod laidOut (by kernel_rfl) (of_decide_eq_true (by kernel_rfl)) k0 bel lt0) (trodAll_cons_mk (Below.trod laidOut (by kernel_rfl) (of_decide_eq_true (by kernel_rfl)) k1 bel lt1) (trodAll_cons_mk (Below.trod laidOut (by kernel_rfl) (of_decide_eq_true (by kernel_rfl)) k2 bel lt2) trodAll_mk0))), Below.trodVars laidOut bel rowed hV, bel.frame _, fun h => by cases h⟩

/-- What the table's initialiser lays, into its block. -/
def layShapes : Obj → Obj
  | .cells _ t frozen => .cells shapeCells t frozen
  | o => o
theorem laid_met (os : Os) : laidMet Tryd.prog Rows.fnExactAppRunRow.laid (({ World.holding Tryd.prog os ⟨#[], #[], []⟩ with heap := (World.holding Tryd.prog os ⟨#[], #[], []⟩).heap.modify 0 layShapes } : World).forCall (fun _ _ => 0) ⟨#[], #[.agg #[.slice none 0 0], .agg #[.int .i64 0, .int .i64 0, .int .i64 0], .agg #[.int .i64 0, .int .i64 0, .int .i64 0, .int .i64 0, .int .i64 0, .int .i64 0, .int .i64 0]], []⟩).memory :=
  laidMet_of_run' 8 (by kernel_rfl) (by kernel_rfl)
theorem reads (os : Os) {H : Type} (enc : TypeId × Value → H) : ∃ places, DataW.whole enc Tryd.prog (({ World.holding Tryd.prog os ⟨#[], #[], []⟩ with heap := (World.holding Tryd.prog os ⟨#[], #[], []⟩).heap.modify 0 layShapes } : World).forCall (fun _ _ => 0) ⟨#[], #[.agg #[.slice none 0 0], .agg #[.int .i64 0, .int .i64 0, .int .i64 0], .agg #[.int .i64 0, .int .i64 0, .int .i64 0, .int .i64 0, .int .i64 0, .int .i64 0, .int .i64 0]], []⟩).memory Tryd.f10.params.toList Rows.fnExactAppRunSpec.vars false #[Value.agg #[.slice none 0 0], .agg #[.int .i64 0, .int .i64 0, .int .i64 0], .agg #[.int .i64 0, .int .i64 0, .int .i64 0, .int .i64 0, .int .i64 0, .int .i64 0, .int .i64 0]].toList 8 = some ([.agg [.nil], .agg [.lit (.int .i64 0), .lit (.int .i64 0), .lit (.int .i64 0)], .agg [.lit (.int .i64 0), .lit (.int .i64 0), .lit (.int .i64 0), .lit (.int .i64 0), .lit (.int .i64 0), .lit (.int .i64 0), .lit (.int .i64 0)]], [Rows.laid_loop_example_slackwater_impl_opShapes], places) :=
  ⟨MemPlace.row ⟨0, 0, none⟩ 16, by kernel_rfl⟩

set_option maxRecDepth 100000 in
theorem lifted (os : Os) (started : os.Started) (H : Type) (enc : TypeId × Value → H) (F : Stop.Interp) :
    ReturnsInHanded {} Tryd.checked os 10 .any ((OpenSpec.ofChange Rows.fnExactAppRunSpec).preRow enc Tryd.prog Tryd.f10 Rows.fnExactAppRunRow.domain false Rows.fnExactAppRunRow.laid) (((OpenSpec.ofChange Rows.fnExactAppRunSpec).at F).post enc Tryd.prog Tryd.f10 false true false false) := by
  obtain ⟨places, hx⟩ := reads os enc
  refine returnsInHanded_of_row (C := Tryd.checked) (s := OpenSpec.ofChange Rows.fnExactAppRunSpec) own started (by kernel_rfl) Tryd.func10
    (witness_row_at (enc := enc) (C := Tryd.checked) false ({ World.holding Tryd.prog os ⟨#[], #[], []⟩ with heap := (World.holding Tryd.prog os ⟨#[], #[], []⟩).heap.modify 0 layShapes } : World) #[.agg #[.slice none 0 0], .agg #[.int .i64 0, .int .i64 0, .int .i64 0], .agg #[.int .i64 0, .int .i64 0, .int .i64 0, .int .i64 0, .int .i64 0, .int .i64 0, .int .i64 0]] rfl (by kernel_rfl) (by kernel_rfl) (by kernel_rfl)
      (OpenSpec.preRow_of_cond 8 hx (by kernel_rfl) (fun k hk => by cases hk) (by kernel_rfl) (laid_met os))) ?_
  intro W base args ds gs before hval hW _ _ _ hL _ _
  exact contract H enc W base args ds gs before hval hW hL

theorem said : Rows.FnExactAppRunSaid :=
  OpenClaim.holds_of_cond 10 Tryd.f10 rfl rfl rfl rfl rfl rfl rfl ⟨rfl, rfl, rfl, rfl, rfl⟩ rfl rfl rfl rfl rfl (by kernel_rfl) Tryd.func10 (by kernel_rfl)
    (of_decide_eq_true (by kernel_rfl)) (by unfold Func.isWrapper; first | (rw [if_pos (by decide +kernel)]; kernel_rfl) | (rw [if_neg (by decide +kernel)]; exact ⟨rfl, rfl⟩))
    (fun os started H enc _ F => by rw [OpenClaim.pre_eq_preRow]; exact lifted os started H enc F)

theorem plain (f : FuncId) (fn : Func) (hf : Tryd.pinned.checked.prog.funcNamed "loop.example/slackwater/laws.FnExactAppRun" = some f) (hfn : Tryd.pinned.checked.prog.funcs[f]? = some fn) :
    true = Tryd.pinned.checked.prog.looks [] ∧ ∀ (j : Nat) t, fn.params[j]? = some t → Tryd.pinned.checked.prog.wantsStandIn t = false := by
  obtain rfl : f = 10 := Option.some.inj ((show Tryd.prog.funcNamed "loop.example/slackwater/laws.FnExactAppRun" = some 10 by kernel_rfl).symm.trans hf) |>.symm
  obtain rfl : fn = Tryd.f10 := (Option.some.inj (Tryd.func10.symm.trans hfn)).symm
  refine ⟨by kernel_rfl, fun j t ht => ?_⟩
  rw [Tryd.params10] at ht
  match j, ht with
  | 0, ht => obtain rfl : t = 58 := by simpa using ht.symm
             exact (show Tryd.prog.wantsStandIn 58 = false by kernel_rfl)
  | 1, ht => obtain rfl : t = 59 := by simpa using ht.symm
             exact (show Tryd.prog.wantsStandIn 59 = false by kernel_rfl)
  | 2, ht => obtain rfl : t = 60 := by simpa using ht.symm
             exact (show Tryd.prog.wantsStandIn 60 = false by kernel_rfl)
  | k + 3, ht => simp at ht

theorem card : Rows.FnExactAppRunCardSaid :=
  Claim7.holds_tied_plain_at .later [] _ _ _ _ said (fun _ h => by cases h) (by kernel_rfl) (fun _ h => by cases h) fnExactAppRun_row_tie rfl ⟨rfl, rfl⟩ (by kernel_rfl) rfl plain (by kernel_rfl)
end Go.Proofs.YtjbgiepaehefpaaDoor.fnExactAppRun
namespace Go.Proofs.YtjbgiepaehefpaaDoor
theorem fnExactAppRun_holds : Rows.FnExactAppRunCardSaid := fnExactAppRun.card
end Go.Proofs.YtjbgiepaehefpaaDoor
