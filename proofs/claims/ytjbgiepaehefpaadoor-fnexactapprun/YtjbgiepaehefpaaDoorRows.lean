/-
  NARROWER THAN 'FOR EVERY INPUT', by the rows' own cells (each row's printed sentence says how): FnAppText: laid · FnAppStrict: laid · FnAppRun: laid · FnAppMost: laid · FnAppKind: laid · FnAppShift: laid · FnExactAppOk: laid · FnExactAppRun: laid · FnExactAppWrite: laid.
  DERIVED. THE GIVEN ROWS OF THIS SEAT. 9 by the template 'for every input the law returns true; each argument reads behind the call as it read before'; 0 by the template 'total and deterministic' (their statements: YtjbgiepaehefpaaDoorTotals.lean).
  GIVEN WITH THE SEED: the statements are not yours to turn. If you find one false, say at which input.
  Laid BY PROGRAM, IN A SANDBOX (cutbox-rows.mjs): the forced cells as the released guide's own fill.sh prints them over the translation 42da9064d7bd9c38… (all of the seat's roots in one cut). By AI agents, Wed Nov 11 2026. No macro, syntax, notation, axiom, sorry.
-/
import Derived.Test.YtjbgiepaehefpaaDoorChecked
import GoSem.PinnedTables
import GoSem.Claim
import GoSem.ClaimJoined
import GoSem.ClaimMapViews
import Derived.JoinedTies
import Derived.KernelRfl
namespace Go.Proofs.YtjbgiepaehefpaaDoor
/- THE CELL 'sum', in the pinned program and in every row, IS THE sha256 OF THE DUMP (.gsa) THAT YtjbgiepaehefpaaDoorProg.lean LOADS. Nothing in Lean hashes anything: it is a label: what it is worth is what the hold of that sum in a sandbox is worth. -/
noncomputable def Tryd.pinned : Pinned := { name := "ytjbgiepaehefpaadoor", sum := "42da9064d7bd9c381b678444b392c42f989c9f18ffc46cee94975e9c649c7e70", checked := Tryd.checked }
namespace Rows
def none {H : Type} : Left H := { results := [], args := [] }

/- WHAT THE LISTED PACKAGE-LEVEL VARIABLES READ AS WHEN THE CALL BEGINS. Each datum BY PROGRAM (the guide's laid-datum.mjs) off the statement by which the dump's own 'gosem.cut.vars' lays the variable. In a bare row this is a premise. The card (YtjbgiepaehefpaaDoorCards.lean) ties it to the program's text. -/
def laid_math_bits_deBruijn32tab {H : Type} : DataW H := .agg [.lit (.int .u8 0), .lit (.int .u8 1), .lit (.int .u8 28), .lit (.int .u8 2), .lit (.int .u8 29), .lit (.int .u8 14), .lit (.int .u8 24), .lit (.int .u8 3), .lit (.int .u8 30), .lit (.int .u8 22), .lit (.int .u8 20), .lit (.int .u8 15), .lit (.int .u8 25), .lit (.int .u8 17), .lit (.int .u8 4), .lit (.int .u8 8), .lit (.int .u8 31), .lit (.int .u8 27), .lit (.int .u8 13), .lit (.int .u8 23), .lit (.int .u8 21), .lit (.int .u8 19), .lit (.int .u8 16), .lit (.int .u8 7), .lit (.int .u8 26), .lit (.int .u8 12), .lit (.int .u8 18), .lit (.int .u8 6), .lit (.int .u8 11), .lit (.int .u8 5), .lit (.int .u8 10), .lit (.int .u8 9)]
def laid_math_bits_deBruijn64tab {H : Type} : DataW H := .agg [.lit (.int .u8 0), .lit (.int .u8 1), .lit (.int .u8 56), .lit (.int .u8 2), .lit (.int .u8 57), .lit (.int .u8 49), .lit (.int .u8 28), .lit (.int .u8 3), .lit (.int .u8 61), .lit (.int .u8 58), .lit (.int .u8 42), .lit (.int .u8 50), .lit (.int .u8 38), .lit (.int .u8 29), .lit (.int .u8 17), .lit (.int .u8 4), .lit (.int .u8 62), .lit (.int .u8 47), .lit (.int .u8 59), .lit (.int .u8 36), .lit (.int .u8 45), .lit (.int .u8 43), .lit (.int .u8 51), .lit (.int .u8 22), .lit (.int .u8 53), .lit (.int .u8 39), .lit (.int .u8 33), .lit (.int .u8 30), .lit (.int .u8 24), .lit (.int .u8 18), .lit (.int .u8 12), .lit (.int .u8 5), .lit (.int .u8 63), .lit (.int .u8 55), .lit (.int .u8 48), .lit (.int .u8 27), .lit (.int .u8 60), .lit (.int .u8 41), .lit (.int .u8 37), .lit (.int .u8 16), .lit (.int .u8 46), .lit (.int .u8 35), .lit (.int .u8 44), .lit (.int .u8 21), .lit (.int .u8 52), .lit (.int .u8 32), .lit (.int .u8 23), .lit (.int .u8 11), .lit (.int .u8 54), .lit (.int .u8 26), .lit (.int .u8 40), .lit (.int .u8 15), .lit (.int .u8 34), .lit (.int .u8 20), .lit (.int .u8 31), .lit (.int .u8 10), .lit (.int .u8 25), .lit (.int .u8 14), .lit (.int .u8 19), .lit (.int .u8 9), .lit (.int .u8 13), .lit (.int .u8 8), .lit (.int .u8 7), .lit (.int .u8 6)]
def laid_internal_strconv_uint64pow10 {H : Type} : DataW H := .agg [.lit (.int .u64 1), .lit (.int .u64 10), .lit (.int .u64 100), .lit (.int .u64 1000), .lit (.int .u64 10000), .lit (.int .u64 100000), .lit (.int .u64 1000000), .lit (.int .u64 10000000), .lit (.int .u64 100000000), .lit (.int .u64 1000000000), .lit (.int .u64 10000000000), .lit (.int .u64 100000000000), .lit (.int .u64 1000000000000), .lit (.int .u64 10000000000000), .lit (.int .u64 100000000000000), .lit (.int .u64 1000000000000000), .lit (.int .u64 10000000000000000), .lit (.int .u64 100000000000000000), .lit (.int .u64 1000000000000000000), .lit (.int .u64 10000000000000000000)]
def laid_unicode_utf8_acceptRanges {H : Type} : DataW H := .agg [.agg [.lit (.int .u8 128), .lit (.int .u8 191)], .agg [.lit (.int .u8 160), .lit (.int .u8 191)], .agg [.lit (.int .u8 128), .lit (.int .u8 159)], .agg [.lit (.int .u8 144), .lit (.int .u8 191)], .agg [.lit (.int .u8 128), .lit (.int .u8 143)], .agg [.lit (.int .u8 0), .lit (.int .u8 0)], .agg [.lit (.int .u8 0), .lit (.int .u8 0)], .agg [.lit (.int .u8 0), .lit (.int .u8 0)], .agg [.lit (.int .u8 0), .lit (.int .u8 0)], .agg [.lit (.int .u8 0), .lit (.int .u8 0)], .agg [.lit (.int .u8 0), .lit (.int .u8 0)], .agg [.lit (.int .u8 0), .lit (.int .u8 0)], .agg [.lit (.int .u8 0), .lit (.int .u8 0)], .agg [.lit (.int .u8 0), .lit (.int .u8 0)], .agg [.lit (.int .u8 0), .lit (.int .u8 0)], .agg [.lit (.int .u8 0), .lit (.int .u8 0)]]
def laid_strconv_ErrRange {H : Type} : DataW H := .iface "*errors.errorString" (.ptr (.agg [.lit (.string [118, 97, 108, 117, 101, 32, 111, 117, 116, 32, 111, 102, 32, 114, 97, 110, 103, 101])]))
def laid_strconv_ErrSyntax {H : Type} : DataW H := .iface "*errors.errorString" (.ptr (.agg [.lit (.string [105, 110, 118, 97, 108, 105, 100, 32, 115, 121, 110, 116, 97, 120])]))
def laid_loop_example_slackwater_impl_opShapes {H : Type} : DataW H := .agg [.agg [.lit (.string []), .lit (.string [])], .agg [.lit (.string [115, 101, 116]), .lit (.string [114, 110])], .agg [.lit (.string [97, 100, 100]), .lit (.string [114, 114])], .agg [.lit (.string [109, 111, 114, 101]), .lit (.string [114, 110])], .agg [.lit (.string [97, 114, 103]), .lit (.string [114])], .agg [.lit (.string [115, 107, 105, 112]), .lit (.string [114, 110, 111])], .agg [.lit (.string [115, 101, 110, 100]), .lit (.string [112, 107, 108, 114])], .agg [.lit (.string [111, 117, 116]), .lit (.string [114])]]
/-- One of Go's own tables, pinned by name: the form's constant. -/
def laid_unicode_utf8_first : DataW Unit := Go.Pinned.utf8First

/-- 'laws.FnAppText': WHATEVER THE INPUT: true; the input reads as it did. -/
def fnAppTextSpec : ChangeSpec := { name := "fnAppText", vars := ["loop.example/slackwater/impl.opShapes"], fn := fun _ => fun
  | [d, g1] => { results := [.lit (.bool true)], args := [d], vars := [g1] }
  | _ => none }
def fnAppTextRow : OpenClaim := { program := "ytjbgiepaehefpaadoor", sum := "42da9064d7bd9c381b678444b392c42f989c9f18ffc46cee94975e9c649c7e70", func := "loop.example/slackwater/laws.FnAppText", spec := "fnAppText", inPlace := ["internal/bytealg.IndexByteString", "internal/bytealg.IndexString", "internal/bytealg.CountString"], unfollowed := true, recurses := true, named := ["loop.example/slackwater/impl.opShapes", "internal/strconv.uint64pow10", "math/bits.deBruijn32tab", "math/bits.deBruijn64tab", "internal/bytealg.MaxLen", "unicode/utf8.first", "unicode/utf8.acceptRanges", "strconv.ErrSyntax", "strconv.ErrRange"], apart := false, laid := [("math/bits.deBruijn32tab", laid_math_bits_deBruijn32tab), ("math/bits.deBruijn64tab", laid_math_bits_deBruijn64tab), ("internal/strconv.uint64pow10", laid_internal_strconv_uint64pow10), ("unicode/utf8.acceptRanges", laid_unicode_utf8_acceptRanges), ("strconv.ErrRange", laid_strconv_ErrRange), ("strconv.ErrSyntax", laid_strconv_ErrSyntax), ("loop.example/slackwater/impl.opShapes", laid_loop_example_slackwater_impl_opShapes), ("unicode/utf8.first", laid_unicode_utf8_first)] }
def FnAppTextSaid : Prop := fnAppTextRow.holds Tryd.pinned (OpenSpec.ofChange fnAppTextSpec)

/-- ITS FALSE NEIGHBOUR: 'it returns false'. Refute it at one input. -/
def fnAppTextWrong : ChangeSpec := { name := "fnAppText", vars := ["loop.example/slackwater/impl.opShapes"], fn := fun _ => fun
  | [d, g1] => { results := [.lit (.bool false)], args := [d], vars := [g1] }
  | _ => none }
def FnAppTextWrongFalsely : Prop := fnAppTextRow.holds Tryd.pinned (OpenSpec.ofChange fnAppTextWrong)

/-- 'laws.FnAppStrict': WHATEVER THE INPUT: true; the input reads as it did. -/
def fnAppStrictSpec : ChangeSpec := { name := "fnAppStrict", vars := ["loop.example/slackwater/impl.opShapes"], fn := fun _ => fun
  | [d, g1] => { results := [.lit (.bool true)], args := [d], vars := [g1] }
  | _ => none }
def fnAppStrictRow : OpenClaim := { program := "ytjbgiepaehefpaadoor", sum := "42da9064d7bd9c381b678444b392c42f989c9f18ffc46cee94975e9c649c7e70", func := "loop.example/slackwater/laws.FnAppStrict", spec := "fnAppStrict", inPlace := ["internal/bytealg.IndexByteString", "internal/bytealg.IndexString", "internal/bytealg.CountString"], unfollowed := true, recurses := true, named := ["internal/bytealg.MaxLen", "unicode/utf8.first", "unicode/utf8.acceptRanges", "strconv.ErrSyntax", "strconv.ErrRange", "internal/strconv.uint64pow10", "math/bits.deBruijn32tab", "math/bits.deBruijn64tab", "loop.example/slackwater/impl.opShapes"], apart := false, laid := [("math/bits.deBruijn32tab", laid_math_bits_deBruijn32tab), ("math/bits.deBruijn64tab", laid_math_bits_deBruijn64tab), ("internal/strconv.uint64pow10", laid_internal_strconv_uint64pow10), ("unicode/utf8.acceptRanges", laid_unicode_utf8_acceptRanges), ("strconv.ErrRange", laid_strconv_ErrRange), ("strconv.ErrSyntax", laid_strconv_ErrSyntax), ("loop.example/slackwater/impl.opShapes", laid_loop_example_slackwater_impl_opShapes), ("unicode/utf8.first", laid_unicode_utf8_first)] }
def FnAppStrictSaid : Prop := fnAppStrictRow.holds Tryd.pinned (OpenSpec.ofChange fnAppStrictSpec)

/-- ITS FALSE NEIGHBOUR: 'it returns false'. Refute it at one input. -/
def fnAppStrictWrong : ChangeSpec := { name := "fnAppStrict", vars := ["loop.example/slackwater/impl.opShapes"], fn := fun _ => fun
  | [d, g1] => { results := [.lit (.bool false)], args := [d], vars := [g1] }
  | _ => none }
def FnAppStrictWrongFalsely : Prop := fnAppStrictRow.holds Tryd.pinned (OpenSpec.ofChange fnAppStrictWrong)

/-- 'laws.FnAppRun': WHATEVER THE INPUT: true; the input reads as it did. -/
def fnAppRunSpec : ChangeSpec := { name := "fnAppRun", vars := ["loop.example/slackwater/impl.opShapes"], fn := fun _ => fun
  | [d, g1] => { results := [.lit (.bool true)], args := [d], vars := [g1] }
  | _ => none }
def fnAppRunRow : OpenClaim := { program := "ytjbgiepaehefpaadoor", sum := "42da9064d7bd9c381b678444b392c42f989c9f18ffc46cee94975e9c649c7e70", func := "loop.example/slackwater/laws.FnAppRun", spec := "fnAppRun", unfollowed := true, recurses := true, named := ["loop.example/slackwater/impl.opShapes"], apart := false, laid := [("loop.example/slackwater/impl.opShapes", laid_loop_example_slackwater_impl_opShapes)] }
def FnAppRunSaid : Prop := fnAppRunRow.holds Tryd.pinned (OpenSpec.ofChange fnAppRunSpec)

/-- ITS FALSE NEIGHBOUR: 'it returns false'. Refute it at one input. -/
def fnAppRunWrong : ChangeSpec := { name := "fnAppRun", vars := ["loop.example/slackwater/impl.opShapes"], fn := fun _ => fun
  | [d, g1] => { results := [.lit (.bool false)], args := [d], vars := [g1] }
  | _ => none }
def FnAppRunWrongFalsely : Prop := fnAppRunRow.holds Tryd.pinned (OpenSpec.ofChange fnAppRunWrong)

/-- 'laws.FnAppMost': WHATEVER THE INPUT: true; the input reads as it did. -/
def fnAppMostSpec : ChangeSpec := { name := "fnAppMost", vars := ["loop.example/slackwater/impl.opShapes"], fn := fun _ => fun
  | [d, g1] => { results := [.lit (.bool true)], args := [d], vars := [g1] }
  | _ => none }
def fnAppMostRow : OpenClaim := { program := "ytjbgiepaehefpaadoor", sum := "42da9064d7bd9c381b678444b392c42f989c9f18ffc46cee94975e9c649c7e70", func := "loop.example/slackwater/laws.FnAppMost", spec := "fnAppMost", unfollowed := true, recurses := true, named := ["loop.example/slackwater/impl.opShapes"], apart := false, laid := [("loop.example/slackwater/impl.opShapes", laid_loop_example_slackwater_impl_opShapes)] }
def FnAppMostSaid : Prop := fnAppMostRow.holds Tryd.pinned (OpenSpec.ofChange fnAppMostSpec)

/-- ITS FALSE NEIGHBOUR: 'it returns false'. Refute it at one input. -/
def fnAppMostWrong : ChangeSpec := { name := "fnAppMost", vars := ["loop.example/slackwater/impl.opShapes"], fn := fun _ => fun
  | [d, g1] => { results := [.lit (.bool false)], args := [d], vars := [g1] }
  | _ => none }
def FnAppMostWrongFalsely : Prop := fnAppMostRow.holds Tryd.pinned (OpenSpec.ofChange fnAppMostWrong)

/-- 'laws.FnAppKind': WHATEVER THE INPUT: true; the input reads as it did. -/
def fnAppKindSpec : ChangeSpec := { name := "fnAppKind", vars := ["loop.example/slackwater/impl.opShapes"], fn := fun _ => fun
  | [d, g1] => { results := [.lit (.bool true)], args := [d], vars := [g1] }
  | _ => none }
def fnAppKindRow : OpenClaim := { program := "ytjbgiepaehefpaadoor", sum := "42da9064d7bd9c381b678444b392c42f989c9f18ffc46cee94975e9c649c7e70", func := "loop.example/slackwater/laws.FnAppKind", spec := "fnAppKind", unfollowed := true, recurses := true, named := ["loop.example/slackwater/impl.opShapes"], apart := false, laid := [("loop.example/slackwater/impl.opShapes", laid_loop_example_slackwater_impl_opShapes)] }
def FnAppKindSaid : Prop := fnAppKindRow.holds Tryd.pinned (OpenSpec.ofChange fnAppKindSpec)

/-- ITS FALSE NEIGHBOUR: 'it returns false'. Refute it at one input. -/
def fnAppKindWrong : ChangeSpec := { name := "fnAppKind", vars := ["loop.example/slackwater/impl.opShapes"], fn := fun _ => fun
  | [d, g1] => { results := [.lit (.bool false)], args := [d], vars := [g1] }
  | _ => none }
def FnAppKindWrongFalsely : Prop := fnAppKindRow.holds Tryd.pinned (OpenSpec.ofChange fnAppKindWrong)

/-- 'laws.FnAppShift': WHATEVER THE INPUT: true; the input reads as it did. -/
def fnAppShiftSpec : ChangeSpec := { name := "fnAppShift", vars := ["loop.example/slackwater/impl.opShapes"], fn := fun _ => fun
  | [d, g1] => { results := [.lit (.bool true)], args := [d], vars := [g1] }
  | _ => none }
def fnAppShiftRow : OpenClaim := { program := "ytjbgiepaehefpaadoor", sum := "42da9064d7bd9c381b678444b392c42f989c9f18ffc46cee94975e9c649c7e70", func := "loop.example/slackwater/laws.FnAppShift", spec := "fnAppShift", unfollowed := true, recurses := true, named := ["loop.example/slackwater/impl.opShapes"], apart := false, laid := [("loop.example/slackwater/impl.opShapes", laid_loop_example_slackwater_impl_opShapes)] }
def FnAppShiftSaid : Prop := fnAppShiftRow.holds Tryd.pinned (OpenSpec.ofChange fnAppShiftSpec)

/-- ITS FALSE NEIGHBOUR: 'it returns false'. Refute it at one input. -/
def fnAppShiftWrong : ChangeSpec := { name := "fnAppShift", vars := ["loop.example/slackwater/impl.opShapes"], fn := fun _ => fun
  | [d, g1] => { results := [.lit (.bool false)], args := [d], vars := [g1] }
  | _ => none }
def FnAppShiftWrongFalsely : Prop := fnAppShiftRow.holds Tryd.pinned (OpenSpec.ofChange fnAppShiftWrong)

/-- 'laws.FnExactAppOk': WHATEVER THE INPUT: true; the input reads as it did. -/
def fnExactAppOkSpec : ChangeSpec := { name := "fnExactAppOk", vars := ["loop.example/slackwater/impl.opShapes"], fn := fun _ => fun
  | [d, g1] => { results := [.lit (.bool true)], args := [d], vars := [g1] }
  | _ => none }
def fnExactAppOkRow : OpenClaim := { program := "ytjbgiepaehefpaadoor", sum := "42da9064d7bd9c381b678444b392c42f989c9f18ffc46cee94975e9c649c7e70", func := "loop.example/slackwater/laws.FnExactAppOk", spec := "fnExactAppOk", unfollowed := true, recurses := true, named := ["loop.example/slackwater/impl.opShapes"], apart := false, laid := [("loop.example/slackwater/impl.opShapes", laid_loop_example_slackwater_impl_opShapes)] }
def FnExactAppOkSaid : Prop := fnExactAppOkRow.holds Tryd.pinned (OpenSpec.ofChange fnExactAppOkSpec)

/-- ITS FALSE NEIGHBOUR: 'it returns false'. Refute it at one input. -/
def fnExactAppOkWrong : ChangeSpec := { name := "fnExactAppOk", vars := ["loop.example/slackwater/impl.opShapes"], fn := fun _ => fun
  | [d, g1] => { results := [.lit (.bool false)], args := [d], vars := [g1] }
  | _ => none }
def FnExactAppOkWrongFalsely : Prop := fnExactAppOkRow.holds Tryd.pinned (OpenSpec.ofChange fnExactAppOkWrong)

/-- 'laws.FnExactAppRun': WHATEVER THE INPUT: true; the input reads as it did. -/
def fnExactAppRunSpec : ChangeSpec := { name := "fnExactAppRun", vars := ["loop.example/slackwater/impl.opShapes"], fn := fun _ => fun
  | [d1, d2, d3, g1] => { results := [.lit (.bool true)], args := [d1, d2, d3], vars := [g1] }
  | _ => none }
def fnExactAppRunRow : OpenClaim := { program := "ytjbgiepaehefpaadoor", sum := "42da9064d7bd9c381b678444b392c42f989c9f18ffc46cee94975e9c649c7e70", func := "loop.example/slackwater/laws.FnExactAppRun", spec := "fnExactAppRun", unfollowed := true, recurses := true, named := ["loop.example/slackwater/impl.opShapes"], apart := false, laid := [("loop.example/slackwater/impl.opShapes", laid_loop_example_slackwater_impl_opShapes)] }
def FnExactAppRunSaid : Prop := fnExactAppRunRow.holds Tryd.pinned (OpenSpec.ofChange fnExactAppRunSpec)

/-- ITS FALSE NEIGHBOUR: 'it returns false'. Refute it at one input. -/
def fnExactAppRunWrong : ChangeSpec := { name := "fnExactAppRun", vars := ["loop.example/slackwater/impl.opShapes"], fn := fun _ => fun
  | [d1, d2, d3, g1] => { results := [.lit (.bool false)], args := [d1, d2, d3], vars := [g1] }
  | _ => none }
def FnExactAppRunWrongFalsely : Prop := fnExactAppRunRow.holds Tryd.pinned (OpenSpec.ofChange fnExactAppRunWrong)

/-- 'laws.FnExactAppWrite': WHATEVER THE INPUT: true; the input reads as it did. -/
def fnExactAppWriteSpec : ChangeSpec := { name := "fnExactAppWrite", vars := ["loop.example/slackwater/impl.opShapes"], fn := fun _ => fun
  | [d, g1] => { results := [.lit (.bool true)], args := [d], vars := [g1] }
  | _ => none }
def fnExactAppWriteRow : OpenClaim := { program := "ytjbgiepaehefpaadoor", sum := "42da9064d7bd9c381b678444b392c42f989c9f18ffc46cee94975e9c649c7e70", func := "loop.example/slackwater/laws.FnExactAppWrite", spec := "fnExactAppWrite", unfollowed := true, recurses := true, named := ["loop.example/slackwater/impl.opShapes", "internal/strconv.uint64pow10", "math/bits.deBruijn32tab", "math/bits.deBruijn64tab"], apart := false, laid := [("math/bits.deBruijn32tab", laid_math_bits_deBruijn32tab), ("math/bits.deBruijn64tab", laid_math_bits_deBruijn64tab), ("internal/strconv.uint64pow10", laid_internal_strconv_uint64pow10), ("loop.example/slackwater/impl.opShapes", laid_loop_example_slackwater_impl_opShapes)] }
def FnExactAppWriteSaid : Prop := fnExactAppWriteRow.holds Tryd.pinned (OpenSpec.ofChange fnExactAppWriteSpec)

/-- ITS FALSE NEIGHBOUR: 'it returns false'. Refute it at one input. -/
def fnExactAppWriteWrong : ChangeSpec := { name := "fnExactAppWrite", vars := ["loop.example/slackwater/impl.opShapes"], fn := fun _ => fun
  | [d, g1] => { results := [.lit (.bool false)], args := [d], vars := [g1] }
  | _ => none }
def FnExactAppWriteWrongFalsely : Prop := fnExactAppWriteRow.holds Tryd.pinned (OpenSpec.ofChange fnExactAppWriteWrong)

/- THE SECOND FORM. 'bulk': how many values and letters a reading holds, each counted each time it is reached (what is shared counts as often as it is met; a slice's spare places count too). A statement '..UptoSaid' is the law's where the arguments, and the package variables that the reading takes, are together of bulk at most 1048576: NARROWER than '..Said'. Prove '..Said' where nothing that the law and all that it calls make is longer than what came in: it says more and counts as full. Else prove '..UptoSaid'. A law counts once. -/
mutual
def uptoBulk {H : Type} : DataW H → Nat
  | .lit (.string bytes) => bytes.length + 1
  | .lit _ => 1
  | .nil => 1
  | .ptr d => uptoBulk d + 1
  | .slice elems spare => uptoBulkAll elems + uptoBulkAll spare + 1
  | .agg parts => uptoBulkAll parts + 1
  | .iface _ d => uptoBulk d + 1
  | .map entries => uptoBulkEntries entries + 1
  | .held _ => 1
def uptoBulkAll {H : Type} : List (DataW H) → Nat
  | [] => 0
  | d :: r => uptoBulk d + uptoBulkAll r
def uptoBulkEntries {H : Type} : List (Lit × DataW H) → Nat
  | [] => 0
  | x :: r => uptoBulkEntry x + uptoBulkEntries r
def uptoBulkEntry {H : Type} : Lit × DataW H → Nat
  | (.string bytes, d) => bytes.length + uptoBulk d + 1
  | (_, d) => uptoBulk d + 1
 end
def uptoSmall : (H : Type) → List (DataW H) → Bool := fun _ ds => decide (uptoBulkAll ds ≤ 1048576)
def OpenSpec.upto (s : _root_.Go.ChangeSpec) : _root_.Go.OpenSpec := { _root_.Go.OpenSpec.ofChange s with cond := some uptoSmall }

/-- 'laws.FnAppText', WHERE WHAT IT READS IS OF BULK AT MOST 1048576: true; the input reads as it did. -/
def fnAppTextUptoRow : OpenClaim := { program := "ytjbgiepaehefpaadoor", sum := "42da9064d7bd9c381b678444b392c42f989c9f18ffc46cee94975e9c649c7e70", func := "loop.example/slackwater/laws.FnAppText", spec := "fnAppText", inPlace := ["internal/bytealg.IndexByteString", "internal/bytealg.IndexString", "internal/bytealg.CountString"], unfollowed := true, recurses := true, named := ["loop.example/slackwater/impl.opShapes", "internal/strconv.uint64pow10", "math/bits.deBruijn32tab", "math/bits.deBruijn64tab", "internal/bytealg.MaxLen", "unicode/utf8.first", "unicode/utf8.acceptRanges", "strconv.ErrSyntax", "strconv.ErrRange"], apart := false, laid := [("math/bits.deBruijn32tab", laid_math_bits_deBruijn32tab), ("math/bits.deBruijn64tab", laid_math_bits_deBruijn64tab), ("internal/strconv.uint64pow10", laid_internal_strconv_uint64pow10), ("unicode/utf8.acceptRanges", laid_unicode_utf8_acceptRanges), ("strconv.ErrRange", laid_strconv_ErrRange), ("strconv.ErrSyntax", laid_strconv_ErrSyntax), ("loop.example/slackwater/impl.opShapes", laid_loop_example_slackwater_impl_opShapes), ("unicode/utf8.first", laid_unicode_utf8_first)], narrowed := true }
def FnAppTextUptoSaid : Prop := fnAppTextUptoRow.holds Tryd.pinned (OpenSpec.upto fnAppTextSpec)

/-- 'laws.FnAppStrict', WHERE WHAT IT READS IS OF BULK AT MOST 1048576: true; the input reads as it did. -/
def fnAppStrictUptoRow : OpenClaim := { program := "ytjbgiepaehefpaadoor", sum := "42da9064d7bd9c381b678444b392c42f989c9f18ffc46cee94975e9c649c7e70", func := "loop.example/slackwater/laws.FnAppStrict", spec := "fnAppStrict", inPlace := ["internal/bytealg.IndexByteString", "internal/bytealg.IndexString", "internal/bytealg.CountString"], unfollowed := true, recurses := true, named := ["internal/bytealg.MaxLen", "unicode/utf8.first", "unicode/utf8.acceptRanges", "strconv.ErrSyntax", "strconv.ErrRange", "internal/strconv.uint64pow10", "math/bits.deBruijn32tab", "math/bits.deBruijn64tab", "loop.example/slackwater/impl.opShapes"], apart := false, laid := [("math/bits.deBruijn32tab", laid_math_bits_deBruijn32tab), ("math/bits.deBruijn64tab", laid_math_bits_deBruijn64tab), ("internal/strconv.uint64pow10", laid_internal_strconv_uint64pow10), ("unicode/utf8.acceptRanges", laid_unicode_utf8_acceptRanges), ("strconv.ErrRange", laid_strconv_ErrRange), ("strconv.ErrSyntax", laid_strconv_ErrSyntax), ("loop.example/slackwater/impl.opShapes", laid_loop_example_slackwater_impl_opShapes), ("unicode/utf8.first", laid_unicode_utf8_first)], narrowed := true }
def FnAppStrictUptoSaid : Prop := fnAppStrictUptoRow.holds Tryd.pinned (OpenSpec.upto fnAppStrictSpec)

/-- 'laws.FnAppRun', WHERE WHAT IT READS IS OF BULK AT MOST 1048576: true; the input reads as it did. -/
def fnAppRunUptoRow : OpenClaim := { program := "ytjbgiepaehefpaadoor", sum := "42da9064d7bd9c381b678444b392c42f989c9f18ffc46cee94975e9c649c7e70", func := "loop.example/slackwater/laws.FnAppRun", spec := "fnAppRun", unfollowed := true, recurses := true, named := ["loop.example/slackwater/impl.opShapes"], apart := false, laid := [("loop.example/slackwater/impl.opShapes", laid_loop_example_slackwater_impl_opShapes)], narrowed := true }
def FnAppRunUptoSaid : Prop := fnAppRunUptoRow.holds Tryd.pinned (OpenSpec.upto fnAppRunSpec)

/-- 'laws.FnAppMost', WHERE WHAT IT READS IS OF BULK AT MOST 1048576: true; the input reads as it did. -/
def fnAppMostUptoRow : OpenClaim := { program := "ytjbgiepaehefpaadoor", sum := "42da9064d7bd9c381b678444b392c42f989c9f18ffc46cee94975e9c649c7e70", func := "loop.example/slackwater/laws.FnAppMost", spec := "fnAppMost", unfollowed := true, recurses := true, named := ["loop.example/slackwater/impl.opShapes"], apart := false, laid := [("loop.example/slackwater/impl.opShapes", laid_loop_example_slackwater_impl_opShapes)], narrowed := true }
def FnAppMostUptoSaid : Prop := fnAppMostUptoRow.holds Tryd.pinned (OpenSpec.upto fnAppMostSpec)

/-- 'laws.FnAppKind', WHERE WHAT IT READS IS OF BULK AT MOST 1048576: true; the input reads as it did. -/
def fnAppKindUptoRow : OpenClaim := { program := "ytjbgiepaehefpaadoor", sum := "42da9064d7bd9c381b678444b392c42f989c9f18ffc46cee94975e9c649c7e70", func := "loop.example/slackwater/laws.FnAppKind", spec := "fnAppKind", unfollowed := true, recurses := true, named := ["loop.example/slackwater/impl.opShapes"], apart := false, laid := [("loop.example/slackwater/impl.opShapes", laid_loop_example_slackwater_impl_opShapes)], narrowed := true }
def FnAppKindUptoSaid : Prop := fnAppKindUptoRow.holds Tryd.pinned (OpenSpec.upto fnAppKindSpec)

/-- 'laws.FnAppShift', WHERE WHAT IT READS IS OF BULK AT MOST 1048576: true; the input reads as it did. -/
def fnAppShiftUptoRow : OpenClaim := { program := "ytjbgiepaehefpaadoor", sum := "42da9064d7bd9c381b678444b392c42f989c9f18ffc46cee94975e9c649c7e70", func := "loop.example/slackwater/laws.FnAppShift", spec := "fnAppShift", unfollowed := true, recurses := true, named := ["loop.example/slackwater/impl.opShapes"], apart := false, laid := [("loop.example/slackwater/impl.opShapes", laid_loop_example_slackwater_impl_opShapes)], narrowed := true }
def FnAppShiftUptoSaid : Prop := fnAppShiftUptoRow.holds Tryd.pinned (OpenSpec.upto fnAppShiftSpec)

/-- 'laws.FnExactAppOk', WHERE WHAT IT READS IS OF BULK AT MOST 1048576: true; the input reads as it did. -/
def fnExactAppOkUptoRow : OpenClaim := { program := "ytjbgiepaehefpaadoor", sum := "42da9064d7bd9c381b678444b392c42f989c9f18ffc46cee94975e9c649c7e70", func := "loop.example/slackwater/laws.FnExactAppOk", spec := "fnExactAppOk", unfollowed := true, recurses := true, named := ["loop.example/slackwater/impl.opShapes"], apart := false, laid := [("loop.example/slackwater/impl.opShapes", laid_loop_example_slackwater_impl_opShapes)], narrowed := true }
def FnExactAppOkUptoSaid : Prop := fnExactAppOkUptoRow.holds Tryd.pinned (OpenSpec.upto fnExactAppOkSpec)

/-- 'laws.FnExactAppRun', WHERE WHAT IT READS IS OF BULK AT MOST 1048576: true; the input reads as it did. -/
def fnExactAppRunUptoRow : OpenClaim := { program := "ytjbgiepaehefpaadoor", sum := "42da9064d7bd9c381b678444b392c42f989c9f18ffc46cee94975e9c649c7e70", func := "loop.example/slackwater/laws.FnExactAppRun", spec := "fnExactAppRun", unfollowed := true, recurses := true, named := ["loop.example/slackwater/impl.opShapes"], apart := false, laid := [("loop.example/slackwater/impl.opShapes", laid_loop_example_slackwater_impl_opShapes)], narrowed := true }
def FnExactAppRunUptoSaid : Prop := fnExactAppRunUptoRow.holds Tryd.pinned (OpenSpec.upto fnExactAppRunSpec)

/-- 'laws.FnExactAppWrite', WHERE WHAT IT READS IS OF BULK AT MOST 1048576: true; the input reads as it did. -/
def fnExactAppWriteUptoRow : OpenClaim := { program := "ytjbgiepaehefpaadoor", sum := "42da9064d7bd9c381b678444b392c42f989c9f18ffc46cee94975e9c649c7e70", func := "loop.example/slackwater/laws.FnExactAppWrite", spec := "fnExactAppWrite", unfollowed := true, recurses := true, named := ["loop.example/slackwater/impl.opShapes", "internal/strconv.uint64pow10", "math/bits.deBruijn32tab", "math/bits.deBruijn64tab"], apart := false, laid := [("math/bits.deBruijn32tab", laid_math_bits_deBruijn32tab), ("math/bits.deBruijn64tab", laid_math_bits_deBruijn64tab), ("internal/strconv.uint64pow10", laid_internal_strconv_uint64pow10), ("loop.example/slackwater/impl.opShapes", laid_loop_example_slackwater_impl_opShapes)], narrowed := true }
def FnExactAppWriteUptoSaid : Prop := fnExactAppWriteUptoRow.holds Tryd.pinned (OpenSpec.upto fnExactAppWriteSpec)

end Rows
end Go.Proofs.YtjbgiepaehefpaaDoor
