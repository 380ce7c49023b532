/- Chapter 3: rows of vessels: copy, equality, size. -/
import Derived.Test.YteeljlpbijmhlabVesIn
import Derived.Maps.AppendAt
namespace Go.Proofs.Yteeljlpbijmhlab
open Go.RowKit Go.PlainAid Go.Sort

theorem Try.infoVes' : (Try.prog.info? 38).map (fun i => (i.zero, i.size, i.bytes)) = some (some (.agg #[.int .i64 0, .string ByteArray.empty, .int .i64 0, .int .i64 0, .int .i64 0, .int .i64 0]), 6, 56) := by kernel_rfl

/-- The letters of the first k names. -/
def nsz (vs : List Ves) : Nat → Nat
  | 0 => 0
  | k + 1 => nsz vs k + (vs.getD k ⟨0, ⟨#[]⟩, 0, 0, 0, 0⟩).name.size
theorem nsz_at (vs : List Ves) (k : Nat) (h : k < vs.length) : nsz vs (k + 1) = nsz vs k + vs[k].name.size := by
  simp [nsz, List.getD_eq_getElem?_getD, List.getElem?_eq_getElem h]
theorem nsz_mono (vs : List Ves) (k : Nat) : ∀ d, nsz vs k ≤ nsz vs (k + d)
  | 0 => Nat.le_refl _
  | d + 1 => Nat.le_trans (nsz_mono vs k d) (Nat.le_add_right _ _)



end Go.Proofs.Yteeljlpbijmhlab
