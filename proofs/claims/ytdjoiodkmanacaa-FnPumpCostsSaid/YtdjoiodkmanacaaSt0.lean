/- The state of a law that holds several slices of its own: cells and rows, and what leaves them as they are. -/
import Derived.Test.YtdjoiodkmanacaaIntS
import Derived.Maps.AppendAt
namespace Go.Proofs.Ytdjoiodkmanacaa
open Go.RowKit Go.PlainAid

/-- A row of one's own. -/
structure RowOf where
  e : TypeId
  size : Nat
  v : Value
  n : Nat
  xs : List Value
def RowOf.holds (base : Nat) (W : World) (r : RowOf) : Prop := W.ownsRow base r.e r.size r.v r.n r.xs
/-- Nothing below w has turned; these cells and rows lie in W. -/
structure St (w : World) (cs : List (Nat × Nat × Value)) (rows : List RowOf) (W : World) : Prop where
  low : Below w.heap.size w W
  cell : ∀ p ∈ cs, w.heap.size ≤ p.1 ∧ W.cell? ⟨p.1, p.2.1, none⟩ = some p.2.2
  row : ∀ r ∈ rows, r.holds w.heap.size W
theorem St.start (w : World) : St w [] [] w := ⟨Below.refl _ _, by simp, by simp⟩
theorem St.grown {w W W' : World} {cs : List (Nat × Nat × Value)} {rows : List RowOf} {row : Option Nat} (h : St w cs rows W) (hg : W.grownBy W' row) (h1 : ∀ q, row = some q → w.heap.size ≤ q)
    (h2 : ∀ p ∈ cs, some p.1 ≠ row) (h3 : ∀ r ∈ rows, r.v.ownBlock = none ∨ r.v.ownBlock ≠ row) : St w cs rows W' :=
  ⟨h.low.grown hg h.low.size h1, fun p hp => ⟨(h.cell p hp).1, (World.cell?_of_block (a := ⟨p.1, p.2.1, none⟩) (hg.block p.1 (World.block_lt_of_cell? W (a := ⟨p.1, p.2.1, none⟩) (h.cell p hp).2) (h2 p hp))).trans (h.cell p hp).2⟩,
    fun r hr => (h.row r hr).kept hg (h3 r hr)⟩
/-- What turns no old block. -/
theorem St.quiet {w W W' : World} {cs : List (Nat × Nat × Value)} {rows : List RowOf} (h : St w cs rows W) (hb : Below W.heap.size W W') : St w cs rows W' :=
  h.grown (grownBelow hb none) (fun q e => by cases e) (fun p _ => by simp) (fun r _ => by cases r.v.ownBlock <;> simp)
theorem St.drawn {w W W' : World} {cs : List (Nat × Nat × Value)} {rows : List RowOf} (h : St w cs rows W) (hb : Drawn W W') : St w cs rows W' := h.quiet (hb.below _)
/-- One's own row turns; the others lie elsewhere. -/
theorem St.turn {w W W' : World} {cs : List (Nat × Nat × Value)} {rows : List RowOf} {r r' : RowOf} {row : Option Nat} (h : St w cs (r :: rows) W) (hg : W.grownBy W' row) (h1 : ∀ q, row = some q → w.heap.size ≤ q)
    (h2 : ∀ p ∈ cs, some p.1 ≠ row) (h3 : ∀ r ∈ rows, r.v.ownBlock = Option.none ∨ r.v.ownBlock ≠ row) (hr : r'.holds w.heap.size W') : St w cs (r' :: rows) W' := by
  have h' : St w cs rows W := ⟨h.low, h.cell, fun r hr => h.row r (List.mem_cons_of_mem _ hr)⟩
  have k := h'.grown hg h1 h2 h3
  exact ⟨k.low, k.cell, fun q hq => by
    rcases List.mem_cons.1 hq with e | e
    · rw [e]; exact hr
    · exact k.row q e⟩
theorem St.cells {w W : World} {cs ds : List (Nat × Nat × Value)} {rows : List RowOf} (h : St w cs rows W) (hd : ∀ p ∈ ds, w.heap.size ≤ p.1 ∧ W.cell? ⟨p.1, p.2.1, none⟩ = some p.2.2) : St w (ds ++ cs) rows W :=
  ⟨h.low, fun p hp => (List.mem_append.1 hp).elim (hd p) (h.cell p), h.row⟩
theorem St.own {w W : World} {cs : List (Nat × Nat × Value)} {rows : List RowOf} (h : St w cs rows W) (r : RowOf) (hr : r.holds w.heap.size W) : St w cs (r :: rows) W :=
  ⟨h.low, h.cell, fun q hq => by
    rcases List.mem_cons.1 hq with e | e
    · rw [e]; exact hr
    · exact h.row q e⟩
theorem St.sub {w W : World} {cs : List (Nat × Nat × Value)} {rows rows' : List RowOf} (h : St w cs rows W) (hs : ∀ r ∈ rows', r ∈ rows) : St w cs rows' W :=
  ⟨h.low, h.cell, fun r hr => h.row r (hs r hr)⟩
theorem St.lt {w W : World} {cs : List (Nat × Nat × Value)} {rows : List RowOf} (h : St w cs rows W) {r : RowOf} (hr : r ∈ rows) {g : Nat} (hv : r.v.ownBlock = some g) : w.heap.size ≤ g ∧ g < W.heap.size := (h.row r hr).lt g hv
theorem own_hasv {w : World} {base : Nat} {e : TypeId} {size : Nat} {A : Option Addr} {n m c : Nat} {xs : List Value} (h : w.ownsRow base e size (.slice A n c) m xs) : Has w w.heap.size A xs := by
  rcases h.2 with ⟨h', hn⟩ | ⟨g, cap, cur, h', _⟩
  · have : xs = [] := List.eq_nil_of_length_eq_zero (by rw [h.1, hn]; omega)
    rw [this]
    exact Has.nil _ _ _
  · injection h' with h1 h2 h3
    subst h1 h2 h3
    intro k u hu
    have hk := (List.getElem?_eq_some_iff.1 hu).1
    refine ⟨_, rfl, (h.lt g rfl).2, ?_⟩
    have := h.cellAt k (by rw [h.1] at hk; exact hk)
    rw [← hu, ← this]
    congr 1
    unfold Addr.add
    split
    · next h0 => subst h0; rfl
    · simp
end Go.Proofs.Ytdjoiodkmanacaa
