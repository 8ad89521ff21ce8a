/-
  No cell of these rows narrows 'for every input' (looked for: loops, veiled, ifaces, maps, wideKeys, modest, calm, conditions, laid).
  DERIVED. THE GIVEN ROWS OF THIS SEAT. 6 by the template 'for every input the law returns true; each argument reads behind the call as it read before'; 0 by the template 'total and deterministic' (their statements: YtmkbacpkemmepaaTotals.lean).
  GIVEN WITH THE SEED: the statements are not yours to turn. If you find one false, say at which input.
  Laid BY PROGRAM, IN A SANDBOX (cutbox-rows.mjs): the forced cells as the released guide's own fill.sh prints them over the translation 59ca41cc1edfbd7c… (all of the seat's roots in one cut). By AI agents, Wed Nov 11 2026. No macro, syntax, notation, axiom, sorry.
-/
import Derived.Test.YtmkbacpkemmepaaChecked
import GoSem.Claim
import GoSem.ClaimJoined
import GoSem.ClaimMapViews
import Derived.JoinedTies
import Derived.KernelRfl
namespace Go.Proofs.Ytmkbacpkemmepaa
/- THE CELL 'sum', in the pinned program and in every row, IS THE sha256 OF THE DUMP (.gsa) THAT YtmkbacpkemmepaaProg.lean LOADS. Nothing in Lean hashes anything: it is a label: what it is worth is what the hold of that sum in a sandbox is worth. -/
noncomputable def Try.pinned : Pinned := { name := "ytmkbacpkemmepaa", sum := "59ca41cc1edfbd7c09b41672a9fa15860c885a9d9398411644db498ddc716967", checked := Try.checked }
namespace Rows
def none {H : Type} : Left H := { results := [], args := [] }

/-- 'laws.FnEventOrder': WHATEVER THE INPUT: true; the input reads as it did. -/
def fnEventOrderSpec : ChangeSpec := { name := "fnEventOrder", fn := fun _ => fun
  | [d1, d2] => { results := [.lit (.bool true)], args := [d1, d2] }
  | _ => none }
def fnEventOrderRow : OpenClaim := { program := "ytmkbacpkemmepaa", sum := "59ca41cc1edfbd7c09b41672a9fa15860c885a9d9398411644db498ddc716967", func := "loop.example/slackwater/laws.FnEventOrder", spec := "fnEventOrder", plainKeys := false, apart := false }
def FnEventOrderSaid : Prop := fnEventOrderRow.holds Try.pinned (OpenSpec.ofChange fnEventOrderSpec)

/-- ITS FALSE NEIGHBOUR: 'it returns false'. Refute it at one input. -/
def fnEventOrderWrong : ChangeSpec := { name := "fnEventOrder", fn := fun _ => fun
  | [d1, d2] => { results := [.lit (.bool false)], args := [d1, d2] }
  | _ => none }
def FnEventOrderWrongFalsely : Prop := fnEventOrderRow.holds Try.pinned (OpenSpec.ofChange fnEventOrderWrong)

/-- 'laws.FnEventSort': WHATEVER THE INPUT: true; the input reads as it did. -/
def fnEventSortSpec : ChangeSpec := { name := "fnEventSort", fn := fun _ => fun
  | [d] => { results := [.lit (.bool true)], args := [d] }
  | _ => none }
def fnEventSortRow : OpenClaim := { program := "ytmkbacpkemmepaa", sum := "59ca41cc1edfbd7c09b41672a9fa15860c885a9d9398411644db498ddc716967", func := "loop.example/slackwater/laws.FnEventSort", spec := "fnEventSort", unfollowed := true, recurses := true, plainKeys := false, apart := false }
def FnEventSortSaid : Prop := fnEventSortRow.holds Try.pinned (OpenSpec.ofChange fnEventSortSpec)

/-- ITS FALSE NEIGHBOUR: 'it returns false'. Refute it at one input. -/
def fnEventSortWrong : ChangeSpec := { name := "fnEventSort", fn := fun _ => fun
  | [d] => { results := [.lit (.bool false)], args := [d] }
  | _ => none }
def FnEventSortWrongFalsely : Prop := fnEventSortRow.holds Try.pinned (OpenSpec.ofChange fnEventSortWrong)

/-- 'laws.FnExactEventLess': WHATEVER THE INPUT: true; the input reads as it did. -/
def fnExactEventLessSpec : ChangeSpec := { name := "fnExactEventLess", fn := fun _ => fun
  | [d1, d2] => { results := [.lit (.bool true)], args := [d1, d2] }
  | _ => none }
def fnExactEventLessRow : OpenClaim := { program := "ytmkbacpkemmepaa", sum := "59ca41cc1edfbd7c09b41672a9fa15860c885a9d9398411644db498ddc716967", func := "loop.example/slackwater/laws.FnExactEventLess", spec := "fnExactEventLess", plainKeys := false, apart := false }
def FnExactEventLessSaid : Prop := fnExactEventLessRow.holds Try.pinned (OpenSpec.ofChange fnExactEventLessSpec)

/-- ITS FALSE NEIGHBOUR: 'it returns false'. Refute it at one input. -/
def fnExactEventLessWrong : ChangeSpec := { name := "fnExactEventLess", fn := fun _ => fun
  | [d1, d2] => { results := [.lit (.bool false)], args := [d1, d2] }
  | _ => none }
def FnExactEventLessWrongFalsely : Prop := fnExactEventLessRow.holds Try.pinned (OpenSpec.ofChange fnExactEventLessWrong)

/-- 'laws.FnExactEventSort': WHATEVER THE INPUT: true; the input reads as it did. -/
def fnExactEventSortSpec : ChangeSpec := { name := "fnExactEventSort", fn := fun _ => fun
  | [d] => { results := [.lit (.bool true)], args := [d] }
  | _ => none }
def fnExactEventSortRow : OpenClaim := { program := "ytmkbacpkemmepaa", sum := "59ca41cc1edfbd7c09b41672a9fa15860c885a9d9398411644db498ddc716967", func := "loop.example/slackwater/laws.FnExactEventSort", spec := "fnExactEventSort", unfollowed := true, recurses := true, plainKeys := false, apart := false }
def FnExactEventSortSaid : Prop := fnExactEventSortRow.holds Try.pinned (OpenSpec.ofChange fnExactEventSortSpec)

/-- ITS FALSE NEIGHBOUR: 'it returns false'. Refute it at one input. -/
def fnExactEventSortWrong : ChangeSpec := { name := "fnExactEventSort", fn := fun _ => fun
  | [d] => { results := [.lit (.bool false)], args := [d] }
  | _ => none }
def FnExactEventSortWrongFalsely : Prop := fnExactEventSortRow.holds Try.pinned (OpenSpec.ofChange fnExactEventSortWrong)

/-- 'laws.FnExactSimStart': WHATEVER THE INPUT: true; the input reads as it did. -/
def fnExactSimStartSpec : ChangeSpec := { name := "fnExactSimStart", fn := fun _ => fun
  | [] => { results := [.lit (.bool true)], args := [] }
  | _ => none }
def fnExactSimStartRow : OpenClaim := { program := "ytmkbacpkemmepaa", sum := "59ca41cc1edfbd7c09b41672a9fa15860c885a9d9398411644db498ddc716967", func := "loop.example/slackwater/laws.FnExactSimStart", spec := "fnExactSimStart", plainKeys := false, apart := false }
def FnExactSimStartSaid : Prop := fnExactSimStartRow.holds Try.pinned (OpenSpec.ofChange fnExactSimStartSpec)

/-- ITS FALSE NEIGHBOUR: 'it returns false'. Refute it at one input. -/
def fnExactSimStartWrong : ChangeSpec := { name := "fnExactSimStart", fn := fun _ => fun
  | [] => { results := [.lit (.bool false)], args := [] }
  | _ => none }
def FnExactSimStartWrongFalsely : Prop := fnExactSimStartRow.holds Try.pinned (OpenSpec.ofChange fnExactSimStartWrong)

/-- 'laws.FnExactSimOk': WHATEVER THE INPUT: true; the input reads as it did. -/
def fnExactSimOkSpec : ChangeSpec := { name := "fnExactSimOk", fn := fun _ => fun
  | [d] => { results := [.lit (.bool true)], args := [d] }
  | _ => none }
def fnExactSimOkRow : OpenClaim := { program := "ytmkbacpkemmepaa", sum := "59ca41cc1edfbd7c09b41672a9fa15860c885a9d9398411644db498ddc716967", func := "loop.example/slackwater/laws.FnExactSimOk", spec := "fnExactSimOk", unfollowed := true, recurses := true, plainKeys := false, apart := false }
def FnExactSimOkSaid : Prop := fnExactSimOkRow.holds Try.pinned (OpenSpec.ofChange fnExactSimOkSpec)

/-- ITS FALSE NEIGHBOUR: 'it returns false'. Refute it at one input. -/
def fnExactSimOkWrong : ChangeSpec := { name := "fnExactSimOk", fn := fun _ => fun
  | [d] => { results := [.lit (.bool false)], args := [d] }
  | _ => none }
def FnExactSimOkWrongFalsely : Prop := fnExactSimOkRow.holds Try.pinned (OpenSpec.ofChange fnExactSimOkWrong)

/- THE SECOND FORM. 'bulk': how many values and letters a reading holds, each counted each time it is reached (what is shared counts as often as it is met; a slice's spare places count too). A statement '..UptoSaid' is the law's where the arguments, and the package variables that the reading takes, are together of bulk at most 1048576: NARROWER than '..Said'. Prove '..Said' where nothing that the law and all that it calls make is longer than what came in: it says more and counts as full. Else prove '..UptoSaid'. A law counts once. -/
mutual
def uptoBulk {H : Type} : DataW H → Nat
  | .lit (.string bytes) => bytes.length + 1
  | .lit _ => 1
  | .nil => 1
  | .ptr d => uptoBulk d + 1
  | .slice elems spare => uptoBulkAll elems + uptoBulkAll spare + 1
  | .agg parts => uptoBulkAll parts + 1
  | .iface _ d => uptoBulk d + 1
  | .map entries => uptoBulkEntries entries + 1
  | .held _ => 1
def uptoBulkAll {H : Type} : List (DataW H) → Nat
  | [] => 0
  | d :: r => uptoBulk d + uptoBulkAll r
def uptoBulkEntries {H : Type} : List (Lit × DataW H) → Nat
  | [] => 0
  | x :: r => uptoBulkEntry x + uptoBulkEntries r
def uptoBulkEntry {H : Type} : Lit × DataW H → Nat
  | (.string bytes, d) => bytes.length + uptoBulk d + 1
  | (_, d) => uptoBulk d + 1
 end
def uptoSmall : (H : Type) → List (DataW H) → Bool := fun _ ds => decide (uptoBulkAll ds ≤ 1048576)
def OpenSpec.upto (s : _root_.Go.ChangeSpec) : _root_.Go.OpenSpec := { _root_.Go.OpenSpec.ofChange s with cond := some uptoSmall }

/-- 'laws.FnEventOrder', WHERE WHAT IT READS IS OF BULK AT MOST 1048576: true; the input reads as it did. -/
def fnEventOrderUptoRow : OpenClaim := { program := "ytmkbacpkemmepaa", sum := "59ca41cc1edfbd7c09b41672a9fa15860c885a9d9398411644db498ddc716967", func := "loop.example/slackwater/laws.FnEventOrder", spec := "fnEventOrder", plainKeys := false, apart := false, narrowed := true }
def FnEventOrderUptoSaid : Prop := fnEventOrderUptoRow.holds Try.pinned (OpenSpec.upto fnEventOrderSpec)

/-- 'laws.FnEventSort', WHERE WHAT IT READS IS OF BULK AT MOST 1048576: true; the input reads as it did. -/
def fnEventSortUptoRow : OpenClaim := { program := "ytmkbacpkemmepaa", sum := "59ca41cc1edfbd7c09b41672a9fa15860c885a9d9398411644db498ddc716967", func := "loop.example/slackwater/laws.FnEventSort", spec := "fnEventSort", unfollowed := true, recurses := true, plainKeys := false, apart := false, narrowed := true }
def FnEventSortUptoSaid : Prop := fnEventSortUptoRow.holds Try.pinned (OpenSpec.upto fnEventSortSpec)

/-- 'laws.FnExactEventLess', WHERE WHAT IT READS IS OF BULK AT MOST 1048576: true; the input reads as it did. -/
def fnExactEventLessUptoRow : OpenClaim := { program := "ytmkbacpkemmepaa", sum := "59ca41cc1edfbd7c09b41672a9fa15860c885a9d9398411644db498ddc716967", func := "loop.example/slackwater/laws.FnExactEventLess", spec := "fnExactEventLess", plainKeys := false, apart := false, narrowed := true }
def FnExactEventLessUptoSaid : Prop := fnExactEventLessUptoRow.holds Try.pinned (OpenSpec.upto fnExactEventLessSpec)

/-- 'laws.FnExactEventSort', WHERE WHAT IT READS IS OF BULK AT MOST 1048576: true; the input reads as it did. -/
def fnExactEventSortUptoRow : OpenClaim := { program := "ytmkbacpkemmepaa", sum := "59ca41cc1edfbd7c09b41672a9fa15860c885a9d9398411644db498ddc716967", func := "loop.example/slackwater/laws.FnExactEventSort", spec := "fnExactEventSort", unfollowed := true, recurses := true, plainKeys := false, apart := false, narrowed := true }
def FnExactEventSortUptoSaid : Prop := fnExactEventSortUptoRow.holds Try.pinned (OpenSpec.upto fnExactEventSortSpec)

/-- 'laws.FnExactSimStart', WHERE WHAT IT READS IS OF BULK AT MOST 1048576: true; the input reads as it did. -/
def fnExactSimStartUptoRow : OpenClaim := { program := "ytmkbacpkemmepaa", sum := "59ca41cc1edfbd7c09b41672a9fa15860c885a9d9398411644db498ddc716967", func := "loop.example/slackwater/laws.FnExactSimStart", spec := "fnExactSimStart", plainKeys := false, apart := false, narrowed := true }
def FnExactSimStartUptoSaid : Prop := fnExactSimStartUptoRow.holds Try.pinned (OpenSpec.upto fnExactSimStartSpec)

/-- 'laws.FnExactSimOk', WHERE WHAT IT READS IS OF BULK AT MOST 1048576: true; the input reads as it did. -/
def fnExactSimOkUptoRow : OpenClaim := { program := "ytmkbacpkemmepaa", sum := "59ca41cc1edfbd7c09b41672a9fa15860c885a9d9398411644db498ddc716967", func := "loop.example/slackwater/laws.FnExactSimOk", spec := "fnExactSimOk", unfollowed := true, recurses := true, plainKeys := false, apart := false, narrowed := true }
def FnExactSimOkUptoSaid : Prop := fnExactSimOkUptoRow.holds Try.pinned (OpenSpec.upto fnExactSimOkSpec)

end Rows
end Go.Proofs.Ytmkbacpkemmepaa
