/- Chapter 2: the copy of a row of reaches. -/
import Derived.Test.YtkdolpgnaabdaabWayTotal
import Derived.Test.YtkdolpgnaabdaabIntS
namespace Go.Proofs.Ytkdolpgnaabdaab
open Go.RowKit Go.PlainAid

theorem Try.infoReach' : (Try.prog.info? 71).map (fun i => (i.zero, i.size, i.bytes)) = some (some (.agg #[.int .i64 0, .int .i64 0, .int .i64 0]), 3, 24) := by kernel_rfl

end Go.Proofs.Ytkdolpgnaabdaab
