/- Texts that are joined: ReachS, WayTo, WayEq. -/
import Derived.Test.YtliebicnejbheabGreatDoorMg18
import Derived.Test.YtliebicnejbheabGreatDoorMg01
import Derived.Lib.QuietBelow
import Derived.Maps.AppendAt
/- Chapter 2: the copy of a row of reaches. -/
namespace Go.Proofs.YtliebicnejbheabGreatDoor
open Go.RowKit Go.PlainAid


end Go.Proofs.YtliebicnejbheabGreatDoor

/- Chapter 2: the copy of a waterway. -/
namespace Go.Proofs.YtliebicnejbheabGreatDoor
open Go.RowKit Go.PlainAid

theorem results_cell_at {P : Program} {fn : Func} {p : Tmp} {ty : TypeId} (h : fn.results = #[.cell p ty]) (tmps : Array Value) (w : World) (g : Nat) (cs : List Value) (d : TypeDesc)
    (hp : tmps.getD p undef = .pointer (some ⟨g, 0, none⟩)) (hc : w.rangeAt g 0 cs) (hu : P.underlying ty = some d) (hd : d.isRow = true) (hi : (P.info? ty).map (·.size) = some cs.length) :
    (results fn tmps).run P w = .ok (.agg cs.toArray) w := by
  have hp' : tmps[p]?.getD undef = .pointer (some ⟨g, 0, none⟩) := by simpa using hp
  simp [results, h, hp', asAddr, run_loadVar_mid w g 0 ty cs d hc hu hd hi]
theorem range2 {w : World} {g : Nat} {u v : Value} (h0 : w.cell? ⟨g, 0, none⟩ = some u) (h1 : w.cell? ⟨g, 1, none⟩ = some v) : w.rangeAt g 0 [u, v] := by
  intro j x hj
  match j, hj with
  | 0, hj => injection hj with hj; rw [← hj]; exact h0
  | 1, hj => injection hj with hj; rw [← hj]; exact h1

theorem own_set {w : World} {base : Nat} {e : TypeId} {size n : Nat} {v : Value} {xs : List Value} (h : w.ownsRow base e size v n xs) (b o : Nat) (u : Value) (hne : v.ownBlock ≠ some b) : (w.setCell ⟨b, o, none⟩ u).ownsRow base e size v n xs :=
  h.kept (row := some b) ⟨rfl, rfl, rfl, by simp [World.setCell], fun k _ hk => Below.heap_setCell _ _ _ _ (fun e => hk (by rw [e]))⟩ (.inr hne)

end Go.Proofs.YtliebicnejbheabGreatDoor

/- Chapter 2: two equal waterways are told equal; the size of a waterway. -/
namespace Go.Proofs.YtliebicnejbheabGreatDoor
open Go.RowKit Go.PlainAid Go.Sort

end Go.Proofs.YtliebicnejbheabGreatDoor
