/- Texts that are joined: FlM, SeBig, St0. -/
import Derived.Test.YtliebicnejbheabGreatDoorMg34
import Derived.Test.YtliebicnejbheabGreatDoorMg00
import Derived.Test.YtliebicnejbheabGreatDoorMg01
import Derived.Maps.AppendAt
/- Chapter 3: what FnFleets asks of an added vessel. -/
namespace Go.Proofs.YtliebicnejbheabGreatDoor
open Go.RowKit Go.PlainAid Go.Sort

theorem cel_lo {vs : List Ves} {p : Nat} {v : Ves} (h : p ≤ vs.length) : ∀ j, j ≤ p → cel (ins vs p v) j = cel vs j
  | 0, _ => rfl
  | j + 1, hj => by
    have ih := cel_lo (v := v) h j (by omega)
    simp only [cel]
    rw [ih, ins_lo h (by omega)]
theorem cel_hi {vs : List Ves} {p : Nat} {v : Ves} (h : p ≤ vs.length) : ∀ d, cel (ins vs p v) (p + d + 1) = cel vs (p + d) + v.len * v.wid
  | 0 => by
    show cel (ins vs p v) p + _ = _
    rw [cel_lo h p (Nat.le_refl _), ins_at h]
    rfl
  | d + 1 => by
    have ih := cel_hi (v := v) h d
    have e : cel (ins vs p v) (p + (d + 1) + 1) = cel (ins vs p v) (p + d + 1) + ((ins vs p v).getD (p + d + 1) noVes).len * ((ins vs p v).getD (p + d + 1) noVes).wid := rfl
    have e' : cel vs (p + (d + 1)) = cel vs (p + d) + (vs.getD (p + d) noVes).len * (vs.getD (p + d) noVes).wid := rfl
    rw [e, e', ih, ins_hi h (by omega)]
    omega
/-- What an added vessel brings. -/
theorem fleet_facts {vs R : List Ves} {v : Ves} (h : Added vs v R true) : gF vs = true ∧ gF R = true ∧ R.length = vs.length + 1 ∧ R.length ≤ 8 ∧ cel R R.length = cel vs vs.length + v.len * v.wid ∧ (0 ≤ v.len * v.wid ∧ v.len * v.wid ≤ 24) ∧
    (0 ≤ cel vs vs.length ∧ cel vs vs.length ≤ 200) ∧
    (∀ k, k < R.length → (∀ j, j < k → (R.getD j noVes).name ≠ v.name) → (R.getD k noVes).name = v.name → R.getD k noVes = v) ∧ ¬ (∀ j, j < R.length → (R.getD j noVes).name ≠ v.name) := by
  by_cases g : ∀ p, p ≤ vs.length → gF (ins vs p v) = false
  · exact nomatch (h.no g).2
  · simp only [Classical.not_forall] at g
    obtain ⟨p, hp, g⟩ := g
    have g' : gF (ins vs p v) = true := by simpa using g
    obtain ⟨rfl, -⟩ := h.yes p hp g'
    have hg := (gF_iff _).1 g'
    have hl := ins_len (v := v) hp
    have hv := ins_fleet hp hg
    have h8 := hg.1
    have hc := cel_bd hv vs.length (Nat.le_refl _)
    have hgv := (hg.2 p (by omega)).1
    rw [ins_at hp] at hgv
    refine ⟨gF_yes hv, g', hl, h8, ?_, cell_bd hgv, ⟨hc.1, by omega⟩, fun k hk hf hn => ?_, fun hf => hf p (by omega) (by rw [ins_at hp])⟩
    · have := cel_hi (v := v) hp (vs.length - p)
      rw [show p + (vs.length - p) = vs.length by omega] at this
      rw [hl]
      exact this
    · rcases Nat.lt_trichotomy k p with e | e | e
      · have := (hg.2 p (by omega)).2.2 k e
        rw [ins_at hp] at this
        exact absurd hn this
      · rw [e, ins_at hp]
      · exact absurd (by rw [ins_at hp]) (hf p e)
theorem gives_vs {w w' : World} {R : List Ves} {x : Bool} {e : Ending} (h : GivesVs w R x e w') (hn : ∀ v ∈ R, v.name.size ≤ maxLen) {n : Nat} (hl : R.length = n) :
    ∃ g c, e = .returned (.tuple #[.slice (some ⟨g, 0, none⟩) n c, .bool x]) ∧ n ≤ c ∧ IsVs w' w'.heap.size (some ⟨g, 0, none⟩) n R ∧ Below w.heap.size w w' := by
  subst hl
  obtain ⟨g, c, rfl, -, ho, hb⟩ := h
  refine ⟨g, c, rfl, ?_, own_vs ho hn, hb⟩
  rcases ho.2 with ⟨e, -⟩ | ⟨g', cap, cur, e, -, -, h4, -⟩
  · cases e
  · injection e with e1 e2 e3
    omega
theorem BoxV.cs {W : World} {g : Nat} {i : Int} {s : ByteArray} {l b d q : Int} (h : BoxV W g i s l b d q) : W.cell? ⟨g, 0, none⟩ = some (.int .i64 i) ∧ W.cell? ⟨g, 1, none⟩ = some (.string s) ∧ W.cell? ⟨g, 2, none⟩ = some (.int .i64 l) ∧ W.cell? ⟨g, 3, none⟩ = some (.int .i64 b) ∧ W.cell? ⟨g, 4, none⟩ = some (.int .i64 d) ∧ W.cell? ⟨g, 5, none⟩ = some (.int .i64 q) := ⟨h.c0, h.c1, h.c2, h.c3, h.c4, h.c5⟩
end Go.Proofs.YtliebicnejbheabGreatDoor

/- The given tests' question whether a text is too long. -/
namespace Go.Proofs.YtliebicnejbheabGreatDoor
set_option linter.unusedVariables false
open Go.RowKit Go.PlainAid

set_option maxHeartbeats 400000 in
theorem rBig_any (a : Option Addr) (n c : Nat) (w : World) (hm : n ≤ maxLen) : Calls Tryz.prog 4 #[.slice a n c] w fun e w' => e = .returned (.bool (decide ((65536 : Int) < (n : Int)))) ∧ w = w' := by
  unfold maxLen at hm
  by_cases h : (65536 : Int) < (n : Int)
  · rw [decide_eq_true h]
    go_enter Tryz.func4, Tryz.ntmps4
    go_wp2
    go_ret
    exact ⟨rfl, rfl⟩
  · rw [decide_eq_false h]
    go_enter Tryz.func4, Tryz.ntmps4
    go_wp2
    go_ret
    exact ⟨rfl, rfl⟩
end Go.Proofs.YtliebicnejbheabGreatDoor

/- The state of a law that holds several slices of its own: cells and rows, and what leaves them as they are. -/
namespace Go.Proofs.YtliebicnejbheabGreatDoor
open Go.RowKit Go.PlainAid

/-- A row of one's own. -/
structure RowOf where
  e : TypeId
  size : Nat
  v : Value
  n : Nat
  xs : List Value
def RowOf.holds (base : Nat) (W : World) (r : RowOf) : Prop := W.ownsRow base r.e r.size r.v r.n r.xs
/-- Nothing below w has turned; these cells and rows lie in W. -/
structure St (w : World) (cs : List (Nat × Nat × Value)) (rows : List RowOf) (W : World) : Prop where
  low : Below w.heap.size w W
  cell : ∀ p ∈ cs, w.heap.size ≤ p.1 ∧ W.cell? ⟨p.1, p.2.1, none⟩ = some p.2.2
  row : ∀ r ∈ rows, r.holds w.heap.size W
theorem St.start (w : World) : St w [] [] w := ⟨Below.refl _ _, by simp, by simp⟩
theorem St.grown {w W W' : World} {cs : List (Nat × Nat × Value)} {rows : List RowOf} {row : Option Nat} (h : St w cs rows W) (hg : W.grownBy W' row) (h1 : ∀ q, row = some q → w.heap.size ≤ q)
    (h2 : ∀ p ∈ cs, some p.1 ≠ row) (h3 : ∀ r ∈ rows, r.v.ownBlock = none ∨ r.v.ownBlock ≠ row) : St w cs rows W' :=
  ⟨h.low.grown hg h.low.size h1, fun p hp => ⟨(h.cell p hp).1, (World.cell?_of_block (a := ⟨p.1, p.2.1, none⟩) (hg.block p.1 (World.block_lt_of_cell? W (a := ⟨p.1, p.2.1, none⟩) (h.cell p hp).2) (h2 p hp))).trans (h.cell p hp).2⟩,
    fun r hr => (h.row r hr).kept hg (h3 r hr)⟩
/-- What turns no old block. -/
theorem St.quiet {w W W' : World} {cs : List (Nat × Nat × Value)} {rows : List RowOf} (h : St w cs rows W) (hb : Below W.heap.size W W') : St w cs rows W' :=
  h.grown (grownBelow hb none) (fun q e => by cases e) (fun p _ => by simp) (fun r _ => by cases r.v.ownBlock <;> simp)
theorem St.drawn {w W W' : World} {cs : List (Nat × Nat × Value)} {rows : List RowOf} (h : St w cs rows W) (hb : Drawn W W') : St w cs rows W' := h.quiet (hb.below _)
/-- One's own row turns; the others lie elsewhere. -/
theorem St.turn {w W W' : World} {cs : List (Nat × Nat × Value)} {rows : List RowOf} {r r' : RowOf} {row : Option Nat} (h : St w cs (r :: rows) W) (hg : W.grownBy W' row) (h1 : ∀ q, row = some q → w.heap.size ≤ q)
    (h2 : ∀ p ∈ cs, some p.1 ≠ row) (h3 : ∀ r ∈ rows, r.v.ownBlock = Option.none ∨ r.v.ownBlock ≠ row) (hr : r'.holds w.heap.size W') : St w cs (r' :: rows) W' := by
  have h' : St w cs rows W := ⟨h.low, h.cell, fun r hr => h.row r (List.mem_cons_of_mem _ hr)⟩
  have k := h'.grown hg h1 h2 h3
  exact ⟨k.low, k.cell, fun q hq => by
    rcases List.mem_cons.1 hq with e | e
    · rw [e]; exact hr
    · exact k.row q e⟩
theorem St.cells {w W : World} {cs ds : List (Nat × Nat × Value)} {rows : List RowOf} (h : St w cs rows W) (hd : ∀ p ∈ ds, w.heap.size ≤ p.1 ∧ W.cell? ⟨p.1, p.2.1, none⟩ = some p.2.2) : St w (ds ++ cs) rows W :=
  ⟨h.low, fun p hp => (List.mem_append.1 hp).elim (hd p) (h.cell p), h.row⟩
theorem St.own {w W : World} {cs : List (Nat × Nat × Value)} {rows : List RowOf} (h : St w cs rows W) (r : RowOf) (hr : r.holds w.heap.size W) : St w cs (r :: rows) W :=
  ⟨h.low, h.cell, fun q hq => by
    rcases List.mem_cons.1 hq with e | e
    · rw [e]; exact hr
    · exact h.row q e⟩
theorem St.sub {w W : World} {cs : List (Nat × Nat × Value)} {rows rows' : List RowOf} (h : St w cs rows W) (hs : ∀ r ∈ rows', r ∈ rows) : St w cs rows' W :=
  ⟨h.low, h.cell, fun r hr => h.row r (hs r hr)⟩
theorem St.lt {w W : World} {cs : List (Nat × Nat × Value)} {rows : List RowOf} (h : St w cs rows W) {r : RowOf} (hr : r ∈ rows) {g : Nat} (hv : r.v.ownBlock = some g) : w.heap.size ≤ g ∧ g < W.heap.size := (h.row r hr).lt g hv
theorem own_hasv {w : World} {base : Nat} {e : TypeId} {size : Nat} {A : Option Addr} {n m c : Nat} {xs : List Value} (h : w.ownsRow base e size (.slice A n c) m xs) : Has w w.heap.size A xs := by
  rcases h.2 with ⟨h', hn⟩ | ⟨g, cap, cur, h', _⟩
  · have : xs = [] := List.eq_nil_of_length_eq_zero (by rw [h.1, hn]; omega)
    rw [this]
    exact Has.nil _ _ _
  · injection h' with h1 h2 h3
    subst h1 h2 h3
    intro k u hu
    have hk := (List.getElem?_eq_some_iff.1 hu).1
    refine ⟨_, rfl, (h.lt g rfl).2, ?_⟩
    have := h.cellAt k (by rw [h.1] at hk; exact hk)
    rw [← hu, ← this]
    congr 1
    unfold Addr.add
    split
    · next h0 => subst h0; rfl
    · simp
end Go.Proofs.YtliebicnejbheabGreatDoor
