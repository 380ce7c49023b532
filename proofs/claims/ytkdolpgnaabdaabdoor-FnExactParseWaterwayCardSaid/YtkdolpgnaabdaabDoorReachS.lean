/- Chapter 2: the copy of a row of reaches. -/
import Derived.Test.YtkdolpgnaabdaabDoorWayTotal
import Derived.Test.YtkdolpgnaabdaabDoorIntS
namespace Go.Proofs.YtkdolpgnaabdaabDoor
open Go.RowKit Go.PlainAid

theorem Tryd.infoReach' : (Tryd.prog.info? 37).map (fun i => (i.zero, i.size, i.bytes)) = some (some (.agg #[.int .i64 0, .int .i64 0, .int .i64 0]), 3, 24) := by kernel_rfl

end Go.Proofs.YtkdolpgnaabdaabDoor
