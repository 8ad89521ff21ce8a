/- Of lists of events and of what is let out: their types, the length of a row. -/
import Derived.Test.YtimkamgghkjhhaaFlatEvent
import Derived.Test.YtimkamgghkjhhaaFlatOut
import Derived.Test.YtimkamgghkjhhaaEv
import Derived.Test.YtimkamgghkjhhaaHeap
import Derived.Test.YtimkamgghkjhhaaHeapC
import Derived.Test.YtimkamgghkjhhaaHeld
import Derived.BigRegion
import Derived.Deep.Cut
namespace Go.Proofs.Ytimkamgghkjhhaa.E
open Go.RowKit
theorem evRow_len (os : List EvV) : ∀ r ∈ os.map evRow, r.length = 7 := fun r hr => by
  obtain ⟨o, _, rfl⟩ := List.mem_map.1 hr; rfl

theorem slice_EvH : Try.prog.underlying 26 = some (.slice 65) := by kernel_rfl
theorem infoT_EvH : (Try.prog.info? 65).map (fun i => (i.zero, i.size, i.bytes)) = some (some (.agg #[.int .i64 0, .int .i64 0, .int .i64 0, .int .i64 0, .int .i64 0, .int .i64 0, .int .i64 0]), 7, 56) := by kernel_rfl
end Go.Proofs.Ytimkamgghkjhhaa.E
namespace Go.Proofs.Ytimkamgghkjhhaa
open Go.RowKit
theorem outRow_len (os : List OutV) : ∀ r ∈ os.map outRow, r.length = 5 := fun r hr => by
  obtain ⟨o, _, rfl⟩ := List.mem_map.1 hr; rfl

theorem slice_OutT : Try.prog.underlying 27 = some (.slice 103) := by kernel_rfl
theorem infoT_Out : (Try.prog.info? 103).map (fun i => (i.zero, i.size, i.bytes)) = some (some (.agg #[.int .i64 0, .int .i64 0, .int .i64 0, .int .i64 0, .int .i64 0]), 5, 40) := by kernel_rfl
end Go.Proofs.Ytimkamgghkjhhaa
