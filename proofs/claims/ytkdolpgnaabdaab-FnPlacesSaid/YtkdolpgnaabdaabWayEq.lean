/- Chapter 2: two equal waterways are told equal; the size of a waterway. -/
import Derived.Test.YtkdolpgnaabdaabWayTo
import Derived.Lib.QuietBelow
import Derived.Maps.AppendAt
namespace Go.Proofs.Ytkdolpgnaabdaab
open Go.RowKit Go.PlainAid Go.Sort

end Go.Proofs.Ytkdolpgnaabdaab
