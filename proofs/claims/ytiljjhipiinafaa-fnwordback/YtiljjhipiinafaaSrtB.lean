/- Of lists of events and of what is let out: their types, the length of a row. -/
import Derived.Test.YtiljjhipiinafaaFlatEvent
import Derived.Test.YtiljjhipiinafaaFlatOut
import Derived.Test.YtiljjhipiinafaaEv
import Derived.Test.YtiljjhipiinafaaHeap
import Derived.Test.YtiljjhipiinafaaHeapC
import Derived.Test.YtiljjhipiinafaaHeld
import Derived.BigRegion
import Derived.Deep.Cut
namespace Go.Proofs.Ytiljjhipiinafaa.E
open Go.RowKit
theorem evRow_len (os : List EvV) : ∀ r ∈ os.map evRow, r.length = 7 := fun r hr => by
  obtain ⟨o, _, rfl⟩ := List.mem_map.1 hr; rfl

theorem slice_EvH : Try.prog.underlying 24 = some (.slice 53) := by kernel_rfl
theorem infoT_EvH : (Try.prog.info? 53).map (fun i => (i.zero, i.size, i.bytes)) = some (some (.agg #[.int .i64 0, .int .i64 0, .int .i64 0, .int .i64 0, .int .i64 0, .int .i64 0, .int .i64 0]), 7, 56) := by kernel_rfl
end Go.Proofs.Ytiljjhipiinafaa.E
namespace Go.Proofs.Ytiljjhipiinafaa
open Go.RowKit
theorem outRow_len (os : List OutV) : ∀ r ∈ os.map outRow, r.length = 5 := fun r hr => by
  obtain ⟨o, _, rfl⟩ := List.mem_map.1 hr; rfl

theorem slice_OutT : Try.prog.underlying 25 = some (.slice 56) := by kernel_rfl
theorem infoT_Out : (Try.prog.info? 56).map (fun i => (i.zero, i.size, i.bytes)) = some (some (.agg #[.int .i64 0, .int .i64 0, .int .i64 0, .int .i64 0, .int .i64 0]), 5, 40) := by kernel_rfl
end Go.Proofs.Ytiljjhipiinafaa
