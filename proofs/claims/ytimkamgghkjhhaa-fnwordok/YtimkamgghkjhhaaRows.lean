/-
  No cell of these rows narrows 'for every input' (looked for: loops, veiled, ifaces, maps, wideKeys, modest, calm, conditions, laid).
  DERIVED. THE GIVEN ROWS OF THIS SEAT. 4 by the template 'for every input the law returns true; each argument reads behind the call as it read before'; 0 by the template 'total and deterministic' (their statements: YtimkamgghkjhhaaTotals.lean).
  GIVEN WITH THE SEED: the statements are not yours to turn. If you find one false, say at which input.
  Laid BY PROGRAM, IN A SANDBOX (cutbox-rows.mjs): the forced cells as the released guide's own fill.sh prints them over the translation d1988c65bd78813f… (all of the seat's roots in one cut). By AI agents, Wed Nov 11 2026. No macro, syntax, notation, axiom, sorry.
-/
import Derived.Test.YtimkamgghkjhhaaChecked
import GoSem.Claim
import GoSem.ClaimJoined
import GoSem.ClaimMapViews
import Derived.JoinedTies
import Derived.KernelRfl
namespace Go.Proofs.Ytimkamgghkjhhaa
/- THE CELL 'sum', in the pinned program and in every row, IS THE sha256 OF THE DUMP (.gsa) THAT YtimkamgghkjhhaaProg.lean LOADS. Nothing in Lean hashes anything: it is a label: what it is worth is what the hold of that sum in a sandbox is worth. -/
noncomputable def Try.pinned : Pinned := { name := "ytimkamgghkjhhaa", sum := "d1988c65bd78813f5688497692a969ae0c6fbdc7690a6473f940aa5c6b063b0f", checked := Try.checked }
namespace Rows
def none {H : Type} : Left H := { results := [], args := [] }

/-- 'laws.FnNodeOf': WHATEVER THE INPUT: true; the input reads as it did. -/
def fnNodeOfSpec : ChangeSpec := { name := "fnNodeOf", fn := fun _ => fun
  | [d] => { results := [.lit (.bool true)], args := [d] }
  | _ => none }
def fnNodeOfRow : OpenClaim := { program := "ytimkamgghkjhhaa", sum := "d1988c65bd78813f5688497692a969ae0c6fbdc7690a6473f940aa5c6b063b0f", func := "loop.example/slackwater/laws.FnNodeOf", spec := "fnNodeOf", unfollowed := true, recurses := true, apart := false }
def FnNodeOfSaid : Prop := fnNodeOfRow.holds Try.pinned (OpenSpec.ofChange fnNodeOfSpec)

/-- ITS FALSE NEIGHBOUR: 'it returns false'. Refute it at one input. -/
def fnNodeOfWrong : ChangeSpec := { name := "fnNodeOf", fn := fun _ => fun
  | [d] => { results := [.lit (.bool false)], args := [d] }
  | _ => none }
def FnNodeOfWrongFalsely : Prop := fnNodeOfRow.holds Try.pinned (OpenSpec.ofChange fnNodeOfWrong)

/-- 'laws.FnWordOk': WHATEVER THE INPUT: true; the input reads as it did. -/
def fnWordOkSpec : ChangeSpec := { name := "fnWordOk", fn := fun _ => fun
  | [d] => { results := [.lit (.bool true)], args := [d] }
  | _ => none }
def fnWordOkRow : OpenClaim := { program := "ytimkamgghkjhhaa", sum := "d1988c65bd78813f5688497692a969ae0c6fbdc7690a6473f940aa5c6b063b0f", func := "loop.example/slackwater/laws.FnWordOk", spec := "fnWordOk", unfollowed := true, recurses := true, apart := false }
def FnWordOkSaid : Prop := fnWordOkRow.holds Try.pinned (OpenSpec.ofChange fnWordOkSpec)

/-- ITS FALSE NEIGHBOUR: 'it returns false'. Refute it at one input. -/
def fnWordOkWrong : ChangeSpec := { name := "fnWordOk", fn := fun _ => fun
  | [d] => { results := [.lit (.bool false)], args := [d] }
  | _ => none }
def FnWordOkWrongFalsely : Prop := fnWordOkRow.holds Try.pinned (OpenSpec.ofChange fnWordOkWrong)

/-- 'laws.FnExactHubOk': WHATEVER THE INPUT: true; the input reads as it did. -/
def fnExactHubOkSpec : ChangeSpec := { name := "fnExactHubOk", fn := fun _ => fun
  | [d] => { results := [.lit (.bool true)], args := [d] }
  | _ => none }
def fnExactHubOkRow : OpenClaim := { program := "ytimkamgghkjhhaa", sum := "d1988c65bd78813f5688497692a969ae0c6fbdc7690a6473f940aa5c6b063b0f", func := "loop.example/slackwater/laws.FnExactHubOk", spec := "fnExactHubOk", unfollowed := true, recurses := true, apart := false }
def FnExactHubOkSaid : Prop := fnExactHubOkRow.holds Try.pinned (OpenSpec.ofChange fnExactHubOkSpec)

/-- ITS FALSE NEIGHBOUR: 'it returns false'. Refute it at one input. -/
def fnExactHubOkWrong : ChangeSpec := { name := "fnExactHubOk", fn := fun _ => fun
  | [d] => { results := [.lit (.bool false)], args := [d] }
  | _ => none }
def FnExactHubOkWrongFalsely : Prop := fnExactHubOkRow.holds Try.pinned (OpenSpec.ofChange fnExactHubOkWrong)

/-- 'laws.FnExactHubJudge': WHATEVER THE INPUT: true; the input reads as it did. -/
def fnExactHubJudgeSpec : ChangeSpec := { name := "fnExactHubJudge", fn := fun _ => fun
  | [d] => { results := [.lit (.bool true)], args := [d] }
  | _ => none }
def fnExactHubJudgeRow : OpenClaim := { program := "ytimkamgghkjhhaa", sum := "d1988c65bd78813f5688497692a969ae0c6fbdc7690a6473f940aa5c6b063b0f", func := "loop.example/slackwater/laws.FnExactHubJudge", spec := "fnExactHubJudge", unfollowed := true, recurses := true, apart := false }
def FnExactHubJudgeSaid : Prop := fnExactHubJudgeRow.holds Try.pinned (OpenSpec.ofChange fnExactHubJudgeSpec)

/-- ITS FALSE NEIGHBOUR: 'it returns false'. Refute it at one input. -/
def fnExactHubJudgeWrong : ChangeSpec := { name := "fnExactHubJudge", fn := fun _ => fun
  | [d] => { results := [.lit (.bool false)], args := [d] }
  | _ => none }
def FnExactHubJudgeWrongFalsely : Prop := fnExactHubJudgeRow.holds Try.pinned (OpenSpec.ofChange fnExactHubJudgeWrong)

/- THE SECOND FORM. 'bulk': how many values and letters a reading holds, each counted each time it is reached (what is shared counts as often as it is met; a slice's spare places count too). A statement '..UptoSaid' is the law's where the arguments, and the package variables that the reading takes, are together of bulk at most 1048576: NARROWER than '..Said'. Prove '..Said' where nothing that the law and all that it calls make is longer than what came in: it says more and counts as full. Else prove '..UptoSaid'. A law counts once. -/
mutual
def uptoBulk {H : Type} : DataW H → Nat
  | .lit (.string bytes) => bytes.length + 1
  | .lit _ => 1
  | .nil => 1
  | .ptr d => uptoBulk d + 1
  | .slice elems spare => uptoBulkAll elems + uptoBulkAll spare + 1
  | .agg parts => uptoBulkAll parts + 1
  | .iface _ d => uptoBulk d + 1
  | .map entries => uptoBulkEntries entries + 1
  | .held _ => 1
def uptoBulkAll {H : Type} : List (DataW H) → Nat
  | [] => 0
  | d :: r => uptoBulk d + uptoBulkAll r
def uptoBulkEntries {H : Type} : List (Lit × DataW H) → Nat
  | [] => 0
  | x :: r => uptoBulkEntry x + uptoBulkEntries r
def uptoBulkEntry {H : Type} : Lit × DataW H → Nat
  | (.string bytes, d) => bytes.length + uptoBulk d + 1
  | (_, d) => uptoBulk d + 1
 end
def uptoSmall : (H : Type) → List (DataW H) → Bool := fun _ ds => decide (uptoBulkAll ds ≤ 1048576)
def OpenSpec.upto (s : _root_.Go.ChangeSpec) : _root_.Go.OpenSpec := { _root_.Go.OpenSpec.ofChange s with cond := some uptoSmall }

/-- 'laws.FnNodeOf', WHERE WHAT IT READS IS OF BULK AT MOST 1048576: true; the input reads as it did. -/
def fnNodeOfUptoRow : OpenClaim := { program := "ytimkamgghkjhhaa", sum := "d1988c65bd78813f5688497692a969ae0c6fbdc7690a6473f940aa5c6b063b0f", func := "loop.example/slackwater/laws.FnNodeOf", spec := "fnNodeOf", unfollowed := true, recurses := true, apart := false, narrowed := true }
def FnNodeOfUptoSaid : Prop := fnNodeOfUptoRow.holds Try.pinned (OpenSpec.upto fnNodeOfSpec)

/-- 'laws.FnWordOk', WHERE WHAT IT READS IS OF BULK AT MOST 1048576: true; the input reads as it did. -/
def fnWordOkUptoRow : OpenClaim := { program := "ytimkamgghkjhhaa", sum := "d1988c65bd78813f5688497692a969ae0c6fbdc7690a6473f940aa5c6b063b0f", func := "loop.example/slackwater/laws.FnWordOk", spec := "fnWordOk", unfollowed := true, recurses := true, apart := false, narrowed := true }
def FnWordOkUptoSaid : Prop := fnWordOkUptoRow.holds Try.pinned (OpenSpec.upto fnWordOkSpec)

/-- 'laws.FnExactHubOk', WHERE WHAT IT READS IS OF BULK AT MOST 1048576: true; the input reads as it did. -/
def fnExactHubOkUptoRow : OpenClaim := { program := "ytimkamgghkjhhaa", sum := "d1988c65bd78813f5688497692a969ae0c6fbdc7690a6473f940aa5c6b063b0f", func := "loop.example/slackwater/laws.FnExactHubOk", spec := "fnExactHubOk", unfollowed := true, recurses := true, apart := false, narrowed := true }
def FnExactHubOkUptoSaid : Prop := fnExactHubOkUptoRow.holds Try.pinned (OpenSpec.upto fnExactHubOkSpec)

/-- 'laws.FnExactHubJudge', WHERE WHAT IT READS IS OF BULK AT MOST 1048576: true; the input reads as it did. -/
def fnExactHubJudgeUptoRow : OpenClaim := { program := "ytimkamgghkjhhaa", sum := "d1988c65bd78813f5688497692a969ae0c6fbdc7690a6473f940aa5c6b063b0f", func := "loop.example/slackwater/laws.FnExactHubJudge", spec := "fnExactHubJudge", unfollowed := true, recurses := true, apart := false, narrowed := true }
def FnExactHubJudgeUptoSaid : Prop := fnExactHubJudgeUptoRow.holds Try.pinned (OpenSpec.upto fnExactHubJudgeSpec)

end Rows
end Go.Proofs.Ytimkamgghkjhhaa
