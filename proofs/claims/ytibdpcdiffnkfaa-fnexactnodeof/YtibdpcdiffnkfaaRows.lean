/-
  No cell of these rows narrows 'for every input' (looked for: loops, veiled, ifaces, maps, wideKeys, modest, calm, conditions, laid).
  DERIVED. THE GIVEN ROWS OF THIS SEAT. 4 by the template 'for every input the law returns true; each argument reads behind the call as it read before'; 0 by the template 'total and deterministic' (their statements: YtibdpcdiffnkfaaTotals.lean).
  GIVEN WITH THE SEED: the statements are not yours to turn. If you find one false, say at which input.
  Laid BY PROGRAM, IN A SANDBOX (cutbox-rows.mjs): the forced cells as the released guide's own fill.sh prints them over the translation b07b4c5026cdecc8… (all of the seat's roots in one cut). By AI agents, Wed Nov 11 2026. No macro, syntax, notation, axiom, sorry.
-/
import Derived.Test.YtibdpcdiffnkfaaChecked
import GoSem.Claim
import GoSem.ClaimJoined
import GoSem.ClaimMapViews
import Derived.JoinedTies
import Derived.KernelRfl
namespace Go.Proofs.Ytibdpcdiffnkfaa
/- THE CELL 'sum', in the pinned program and in every row, IS THE sha256 OF THE DUMP (.gsa) THAT YtibdpcdiffnkfaaProg.lean LOADS. Nothing in Lean hashes anything: it is a label: what it is worth is what the hold of that sum in a sandbox is worth. -/
noncomputable def Try.pinned : Pinned := { name := "ytibdpcdiffnkfaa", sum := "b07b4c5026cdecc837d3685cd479f6f177b41b5b57b83bf1311f8b8ea6639cce", checked := Try.checked }
namespace Rows
def none {H : Type} : Left H := { results := [], args := [] }

/-- 'laws.FnNodeOf': WHATEVER THE INPUT: true; the input reads as it did. -/
def fnNodeOfSpec : ChangeSpec := { name := "fnNodeOf", fn := fun _ => fun
  | [d] => { results := [.lit (.bool true)], args := [d] }
  | _ => none }
def fnNodeOfRow : OpenClaim := { program := "ytibdpcdiffnkfaa", sum := "b07b4c5026cdecc837d3685cd479f6f177b41b5b57b83bf1311f8b8ea6639cce", func := "loop.example/slackwater/laws.FnNodeOf", spec := "fnNodeOf", unfollowed := true, recurses := true, apart := false }
def FnNodeOfSaid : Prop := fnNodeOfRow.holds Try.pinned (OpenSpec.ofChange fnNodeOfSpec)

/-- ITS FALSE NEIGHBOUR: 'it returns false'. Refute it at one input. -/
def fnNodeOfWrong : ChangeSpec := { name := "fnNodeOf", fn := fun _ => fun
  | [d] => { results := [.lit (.bool false)], args := [d] }
  | _ => none }
def FnNodeOfWrongFalsely : Prop := fnNodeOfRow.holds Try.pinned (OpenSpec.ofChange fnNodeOfWrong)

/-- 'laws.FnExactLaneCut': WHATEVER THE INPUT: true; the input reads as it did. -/
def fnExactLaneCutSpec : ChangeSpec := { name := "fnExactLaneCut", fn := fun _ => fun
  | [d1, d2] => { results := [.lit (.bool true)], args := [d1, d2] }
  | _ => none }
def fnExactLaneCutRow : OpenClaim := { program := "ytibdpcdiffnkfaa", sum := "b07b4c5026cdecc837d3685cd479f6f177b41b5b57b83bf1311f8b8ea6639cce", func := "loop.example/slackwater/laws.FnExactLaneCut", spec := "fnExactLaneCut", unfollowed := true, recurses := true, apart := false }
def FnExactLaneCutSaid : Prop := fnExactLaneCutRow.holds Try.pinned (OpenSpec.ofChange fnExactLaneCutSpec)

/-- ITS FALSE NEIGHBOUR: 'it returns false'. Refute it at one input. -/
def fnExactLaneCutWrong : ChangeSpec := { name := "fnExactLaneCut", fn := fun _ => fun
  | [d1, d2] => { results := [.lit (.bool false)], args := [d1, d2] }
  | _ => none }
def FnExactLaneCutWrongFalsely : Prop := fnExactLaneCutRow.holds Try.pinned (OpenSpec.ofChange fnExactLaneCutWrong)

/-- 'laws.FnExactNodeStart': WHATEVER THE INPUT: true; the input reads as it did. -/
def fnExactNodeStartSpec : ChangeSpec := { name := "fnExactNodeStart", fn := fun _ => fun
  | [d] => { results := [.lit (.bool true)], args := [d] }
  | _ => none }
def fnExactNodeStartRow : OpenClaim := { program := "ytibdpcdiffnkfaa", sum := "b07b4c5026cdecc837d3685cd479f6f177b41b5b57b83bf1311f8b8ea6639cce", func := "loop.example/slackwater/laws.FnExactNodeStart", spec := "fnExactNodeStart", unfollowed := true, recurses := true, apart := false }
def FnExactNodeStartSaid : Prop := fnExactNodeStartRow.holds Try.pinned (OpenSpec.ofChange fnExactNodeStartSpec)

/-- ITS FALSE NEIGHBOUR: 'it returns false'. Refute it at one input. -/
def fnExactNodeStartWrong : ChangeSpec := { name := "fnExactNodeStart", fn := fun _ => fun
  | [d] => { results := [.lit (.bool false)], args := [d] }
  | _ => none }
def FnExactNodeStartWrongFalsely : Prop := fnExactNodeStartRow.holds Try.pinned (OpenSpec.ofChange fnExactNodeStartWrong)

/-- 'laws.FnExactNodeOf': WHATEVER THE INPUT: true; the input reads as it did. -/
def fnExactNodeOfSpec : ChangeSpec := { name := "fnExactNodeOf", fn := fun _ => fun
  | [d] => { results := [.lit (.bool true)], args := [d] }
  | _ => none }
def fnExactNodeOfRow : OpenClaim := { program := "ytibdpcdiffnkfaa", sum := "b07b4c5026cdecc837d3685cd479f6f177b41b5b57b83bf1311f8b8ea6639cce", func := "loop.example/slackwater/laws.FnExactNodeOf", spec := "fnExactNodeOf", apart := false }
def FnExactNodeOfSaid : Prop := fnExactNodeOfRow.holds Try.pinned (OpenSpec.ofChange fnExactNodeOfSpec)

/-- ITS FALSE NEIGHBOUR: 'it returns false'. Refute it at one input. -/
def fnExactNodeOfWrong : ChangeSpec := { name := "fnExactNodeOf", fn := fun _ => fun
  | [d] => { results := [.lit (.bool false)], args := [d] }
  | _ => none }
def FnExactNodeOfWrongFalsely : Prop := fnExactNodeOfRow.holds Try.pinned (OpenSpec.ofChange fnExactNodeOfWrong)

/- THE SECOND FORM. 'bulk': how many values and letters a reading holds, each counted each time it is reached (what is shared counts as often as it is met; a slice's spare places count too). A statement '..UptoSaid' is the law's where the arguments, and the package variables that the reading takes, are together of bulk at most 1048576: NARROWER than '..Said'. Prove '..Said' where nothing that the law and all that it calls make is longer than what came in: it says more and counts as full. Else prove '..UptoSaid'. A law counts once. -/
mutual
def uptoBulk {H : Type} : DataW H → Nat
  | .lit (.string bytes) => bytes.length + 1
  | .lit _ => 1
  | .nil => 1
  | .ptr d => uptoBulk d + 1
  | .slice elems spare => uptoBulkAll elems + uptoBulkAll spare + 1
  | .agg parts => uptoBulkAll parts + 1
  | .iface _ d => uptoBulk d + 1
  | .map entries => uptoBulkEntries entries + 1
  | .held _ => 1
def uptoBulkAll {H : Type} : List (DataW H) → Nat
  | [] => 0
  | d :: r => uptoBulk d + uptoBulkAll r
def uptoBulkEntries {H : Type} : List (Lit × DataW H) → Nat
  | [] => 0
  | x :: r => uptoBulkEntry x + uptoBulkEntries r
def uptoBulkEntry {H : Type} : Lit × DataW H → Nat
  | (.string bytes, d) => bytes.length + uptoBulk d + 1
  | (_, d) => uptoBulk d + 1
 end
def uptoSmall : (H : Type) → List (DataW H) → Bool := fun _ ds => decide (uptoBulkAll ds ≤ 1048576)
def OpenSpec.upto (s : _root_.Go.ChangeSpec) : _root_.Go.OpenSpec := { _root_.Go.OpenSpec.ofChange s with cond := some uptoSmall }

/-- 'laws.FnNodeOf', WHERE WHAT IT READS IS OF BULK AT MOST 1048576: true; the input reads as it did. -/
def fnNodeOfUptoRow : OpenClaim := { program := "ytibdpcdiffnkfaa", sum := "b07b4c5026cdecc837d3685cd479f6f177b41b5b57b83bf1311f8b8ea6639cce", func := "loop.example/slackwater/laws.FnNodeOf", spec := "fnNodeOf", unfollowed := true, recurses := true, apart := false, narrowed := true }
def FnNodeOfUptoSaid : Prop := fnNodeOfUptoRow.holds Try.pinned (OpenSpec.upto fnNodeOfSpec)

/-- 'laws.FnExactLaneCut', WHERE WHAT IT READS IS OF BULK AT MOST 1048576: true; the input reads as it did. -/
def fnExactLaneCutUptoRow : OpenClaim := { program := "ytibdpcdiffnkfaa", sum := "b07b4c5026cdecc837d3685cd479f6f177b41b5b57b83bf1311f8b8ea6639cce", func := "loop.example/slackwater/laws.FnExactLaneCut", spec := "fnExactLaneCut", unfollowed := true, recurses := true, apart := false, narrowed := true }
def FnExactLaneCutUptoSaid : Prop := fnExactLaneCutUptoRow.holds Try.pinned (OpenSpec.upto fnExactLaneCutSpec)

/-- 'laws.FnExactNodeStart', WHERE WHAT IT READS IS OF BULK AT MOST 1048576: true; the input reads as it did. -/
def fnExactNodeStartUptoRow : OpenClaim := { program := "ytibdpcdiffnkfaa", sum := "b07b4c5026cdecc837d3685cd479f6f177b41b5b57b83bf1311f8b8ea6639cce", func := "loop.example/slackwater/laws.FnExactNodeStart", spec := "fnExactNodeStart", unfollowed := true, recurses := true, apart := false, narrowed := true }
def FnExactNodeStartUptoSaid : Prop := fnExactNodeStartUptoRow.holds Try.pinned (OpenSpec.upto fnExactNodeStartSpec)

/-- 'laws.FnExactNodeOf', WHERE WHAT IT READS IS OF BULK AT MOST 1048576: true; the input reads as it did. -/
def fnExactNodeOfUptoRow : OpenClaim := { program := "ytibdpcdiffnkfaa", sum := "b07b4c5026cdecc837d3685cd479f6f177b41b5b57b83bf1311f8b8ea6639cce", func := "loop.example/slackwater/laws.FnExactNodeOf", spec := "fnExactNodeOf", apart := false, narrowed := true }
def FnExactNodeOfUptoSaid : Prop := fnExactNodeOfUptoRow.holds Try.pinned (OpenSpec.upto fnExactNodeOfSpec)

end Rows
end Go.Proofs.Ytibdpcdiffnkfaa
