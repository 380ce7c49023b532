/- Rows of Hulls: their cells, their copy, their equality, their size, marks. Written by tools/mkst.py. -/
import Derived.Test.YtdleidlmjliapaaStk
namespace Go.Proofs.Ytdleidlmjliapaa
open Go.RowKit Go.PlainAid Go.Sort

structure THull where
  x0 : Int
  x1 : Int
  x2 : Int
/-- Its value. -/
abbrev valHull (v : THull) : Value := .agg #[.int .i64 v.x0, .int .i64 v.x1, .int .i64 v.x2]
/-- The cells of a row. -/
def flatHull : List THull → List Value
  | [] => []
  | v :: t => .int .i64 v.x0 :: .int .i64 v.x1 :: .int .i64 v.x2 :: flatHull t
theorem flatHull_len : ∀ vs, (flatHull vs).length = 3 * vs.length
  | [] => rfl
  | v :: t => by simp only [flatHull, List.length_cons, flatHull_len t]; omega
theorem flatHull_append : ∀ (rs ts : List THull), flatHull (rs ++ ts) = flatHull rs ++ flatHull ts
  | [], _ => rfl
  | r :: rs, ts => by simp only [List.cons_append, flatHull, flatHull_append rs ts]
theorem flatHull_at : ∀ (vs : List THull) (k : Nat) (h : k < vs.length),
    (flatHull vs)[k * 3]? = some (.int .i64 vs[k].x0) ∧ (flatHull vs)[k * 3 + 1]? = some (.int .i64 vs[k].x1) ∧ (flatHull vs)[k * 3 + 2]? = some (.int .i64 vs[k].x2)
  | [], k, h => absurd h (by simp)
  | v :: t, 0, _ => ⟨rfl, rfl, rfl⟩
  | v :: t, k + 1, h => by
    have ih := flatHull_at t k (by simpa using h)
    have e : (k + 1) * 3 = k * 3 + 1 + 1 + 1 := by omega
    rw [e]
    exact ih
def noHull : THull := ⟨0, 0, 0⟩
theorem getHull {vs : List THull} {j : Nat} (h : j < vs.length) : vs.getD j noHull = vs[j] := by
  rw [List.getD_eq_getElem?_getD, List.getElem?_eq_getElem h]
  rfl
/-- One of a row that lies at a. -/
structure HullAt (w : World) (a : Addr) (k : Nat) (v : THull) : Prop where
  c0 : w.cell? (a.add (k * 3)) = some (.int .i64 v.x0)
  c1 : w.cell? ⟨(a.add (k * 3)).block, (a.add (k * 3)).off + 1, none⟩ = some (.int .i64 v.x1)
  c2 : w.cell? ⟨(a.add (k * 3)).block, (a.add (k * 3)).off + 2, none⟩ = some (.int .i64 v.x2)
theorem Has.Hull {w : World} {B : Nat} {A : Option Addr} {vs : List THull} (h : Has w B A (flatHull vs)) {k : Nat} (hk : k < vs.length) :
    ∃ a, A = some a ∧ a.block < B ∧ HullAt w a k (vs.getD k noHull) := by
  obtain ⟨f0, f1, f2⟩ := flatHull_at vs k hk
  obtain ⟨a, rfl, hb, h0⟩ := h _ _ f0
  obtain ⟨a1, e1, -, h1⟩ := h _ _ f1
  injection e1 with e1
  subst e1
  rw [← Go.Deep.add_add, addFormS _ _ (by omega)] at h1
  obtain ⟨a2, e2, -, h2⟩ := h _ _ f2
  injection e2 with e2
  subst e2
  rw [← Go.Deep.add_add, addFormS _ _ (by omega)] at h2
  rw [getHull hk]
  exact ⟨a, rfl, hb, h0, h1, h2⟩


open Go.ChangeShapes Go.WideShapes Go.Deep in
/-- One that came in. -/
theorem open_Hull {H : Type} {enc : TypeId × Value → H} {P : Program} {w : World} {base : Nat} {spare : Nat → Bool} {held : Bool} {t : TypeId} {r : Reach} {b0 : Nat} {f0 f1 f2 : Field} {v : Value} {D : DataW H} {p : List MemPlace}
    (hs : P.underlying t = some (.struct #[f0, f1, f2])) (hone : oneCellFields P #[f0, f1, f2] = true) (hC : P.cellsOf t = 3)
    (h0 : P.underlying f0.type = some (.int .i64)) (h1 : P.underlying f1.type = some (.int .i64)) (h2 : P.underlying f2.type = some (.int .i64))
    (hv : Value.okWide P w r b0 t v) (h : DataW.Trod enc P w base spare held t v D p) :
    ∃ (x0 : Int) (x1 : Int) (x2 : Int), v = .agg #[.int .i64 x0, .int .i64 x1, .int .i64 x2] := by
  obtain ⟨cs, rfl, hsz⟩ := okWide_struct hs hv
  rw [hC] at hsz
  obtain ⟨fuel, ht'⟩ := h
  obtain ⟨ys, n', _, _, _, hyl, hg⟩ := DataW.trod_struct hs ht'
  obtain ⟨o0, k0⟩ := hone_of hone 0 f0 rfl
  obtain ⟨o1, k1⟩ := hone_of hone 1 f1 rfl
  obtain ⟨o2, k2⟩ := hone_of hone 2 f2 rfl
  obtain ⟨L⟩ := cs
  match L, hsz, ys, hyl with
  | [c0, c1, c2], _, [y0, y1, y2], _ =>
    have g0 := hg 0 f0 rfl
    have g1 := hg 1 f1 rfl
    have g2 := hg 2 f2 rfl
    rw [o0, k0] at g0
    rw [o1, k1] at g1
    rw [o2, k2] at g2
    obtain ⟨x0, e0, -, -⟩ := DataW.trod_int h0 g0
    obtain ⟨x1, e1, -, -⟩ := DataW.trod_int h1 g1
    obtain ⟨x2, e2, -, -⟩ := DataW.trod_int h2 g2
    injection e0 with e0 _
    injection e1 with e1 _
    injection e2 with e2 _
    exact ⟨x0, x1, x2, by rw [← e0, ← e1, ← e2]⟩
theorem rowsHull {w : World} {a : Addr} : ∀ (m : Nat),
    (∀ i, i < m → ∃ v : THull, w.cell? (a.add (i * 3)) = some (.int .i64 v.x0) ∧ w.cell? (a.add (i * 3 + 1)) = some (.int .i64 v.x1) ∧ w.cell? (a.add (i * 3 + 2)) = some (.int .i64 v.x2)) →
    ∃ vs : List THull, vs.length = m ∧ Has w w.heap.size (some a) (flatHull vs)
  | 0, _ => ⟨[], rfl, Has.nil _ _ _⟩
  | m + 1, h => by
    obtain ⟨vs, hl, hh⟩ := rowsHull m (fun i hi => h i (by omega))
    obtain ⟨v, c0, c1, c2⟩ := h m (by omega)
    have hb : a.block < w.heap.size := by
      have := World.block_lt_of_cell? w (a.add (m * 3)) c0
      rwa [addBlock] at this
    refine ⟨vs ++ [v], by simp [hl], ?_⟩
    intro k u hu
    rw [flatHull_append] at hu
    have hfl : (flatHull vs).length = m * 3 := by rw [flatHull_len, hl]; omega
    by_cases hk : k < m * 3
    · rw [List.getElem?_append_left (by omega)] at hu
      exact hh k u hu
    · rw [List.getElem?_append_right (by omega), hfl] at hu
      obtain ⟨j, rfl⟩ : ∃ j, k = m * 3 + j := ⟨k - m * 3, by omega⟩
      rw [Nat.add_sub_cancel_left] at hu
      match j, hu with
      | 0, hu => injection hu with hu; exact ⟨a, rfl, hb, by rw [← hu]; exact c0⟩
      | 1, hu => injection hu with hu; exact ⟨a, rfl, hb, by rw [← hu]; exact c1⟩
      | 2, hu => injection hu with hu; exact ⟨a, rfl, hb, by rw [← hu]; exact c2⟩
      | j + 3, hu => simp [flatHull] at hu
open Go.ChangeShapes Go.WideShapes Go.Deep in
/-- A row that came in. -/
theorem open_Hulls {H : Type} {enc : TypeId × Value → H} {P : Program} {w : World} {base : Nat} {spare : Nat → Bool} {held : Bool} {t e : TypeId} {f0 f1 f2 : Field} {fuel : Nat} {cs : List Value} {x : DataW H × List MemPlace}
    (ht : P.underlying t = some (.slice e)) (he : P.underlying e = some (.struct #[f0, f1, f2])) (hone : oneCellFields P #[f0, f1, f2] = true) (hC : P.cellsOf e = 3)
    (h0 : P.underlying f0.type = some (.int .i64)) (h1 : P.underlying f1.type = some (.int .i64)) (h2 : P.underlying f2.type = some (.int .i64))
    (h : DataW.trod enc P w base spare held fuel t cs = some x) :
    ∃ (A : Option Addr) (len cap : Nat) (vs : List THull), cs = [.slice A len cap] ∧ vs.length = len ∧ len ≤ maxLen ∧ Has w w.heap.size A (flatHull vs) := by
  rcases open_slice ht h with ⟨rfl, _⟩ | ⟨a, len, cap, m, n, D, Pl, rfl, _, hl, hm, hmm, _, hi⟩
  · exact ⟨none, 0, 0, [], rfl, rfl, Nat.zero_le _, Has.nil _ _ _⟩
  · have hlm : len ≤ m := by rw [hmm]; split <;> omega
    obtain ⟨vs, hrl, hh⟩ := rowsHull (w := w) (a := a) len (fun i hil => by
      obtain ⟨cs', hc, ht'⟩ := hi i (by omega)
      rw [hC] at hc
      obtain ⟨_, hcl, hat⟩ := World.cells?_some hc
      obtain ⟨ys, n', _, _, _, hyl, hg⟩ := DataW.trod_struct he ht'
      obtain ⟨o0, k0⟩ := hone_of hone 0 f0 rfl
      obtain ⟨o1, k1⟩ := hone_of hone 1 f1 rfl
      obtain ⟨o2, k2⟩ := hone_of hone 2 f2 rfl
      match cs', hcl, ys, hyl with
      | [c0, c1, c2], _, [y0, y1, y2], _ =>
        have g0 := hg 0 f0 rfl
        have g1 := hg 1 f1 rfl
        have g2 := hg 2 f2 rfl
        rw [o0, k0] at g0
        rw [o1, k1] at g1
        rw [o2, k2] at g2
        obtain ⟨x0, e0, -, -⟩ := DataW.trod_int h0 g0
        obtain ⟨x1, e1, -, -⟩ := DataW.trod_int h1 g1
        obtain ⟨x2, e2, -, -⟩ := DataW.trod_int h2 g2
        injection e0 with e0 _
        injection e1 with e1 _
        injection e2 with e2 _
        have a0 := hat 0 (by omega)
        have a1 := hat 1 (by omega)
        have a2 := hat 2 (by omega)
        rw [Go.Deep.add_add] at a0 a1 a2
        refine ⟨⟨x0, x1, x2⟩, ?_, ?_, ?_⟩
        · rw [← e0]; exact a0
        · rw [← e1]; exact a1
        · rw [← e2]; exact a2)
    exact ⟨some a, len, cap, vs, rfl, hrl, by omega, hh⟩

/-- A row that lies below block B. -/
structure IsHulls (w : World) (B : Nat) (A : Option Addr) (n : Nat) (vs : List THull) : Prop where
  len : vs.length = n
  low : B ≤ w.heap.size
  has : Has w B A (flatHull vs)
theorem IsHulls.below {w w' : World} {B C : Nat} {A : Option Addr} {n : Nat} {vs : List THull} (h : IsHulls w B A n vs) (hb : Below C w w') (hC : B ≤ C) : IsHulls w' B A n vs :=
  ⟨h.len, Nat.le_trans h.low hb.size, h.has.below (hb.mono hC)⟩
theorem IsHulls.all {w : World} {B : Nat} {A : Option Addr} {n : Nat} {vs : List THull} (h : IsHulls w B A n vs) : IsHulls w w.heap.size A n vs :=
  ⟨h.len, Nat.le_refl _, h.has.more h.low⟩
theorem own_Hulls {w : World} {base : Nat} {g n c : Nat} {vs : List THull} (h : w.ownsRow base 40 3 (.slice (some ⟨g, 0, none⟩) n c) n (flatHull vs)) : IsHulls w w.heap.size (some ⟨g, 0, none⟩) n vs :=
  ⟨by have := h.1; rw [flatHull_len] at this; omega, Nat.le_refl _, ownS_has h⟩
theorem Try.infoHull' : (Try.prog.info? 40).map (fun i => (i.zero, i.size, i.bytes)) = some (some (.agg #[.int .i64 0, .int .i64 0, .int .i64 0]), 3, 24) := by kernel_rfl




/-- n elements of marks from m on. -/
def mkHull (m : Int) (n : Nat) : List THull := (List.range n).map fun (j : Nat) => ⟨m + 3 * (j : Int), ((m + 3 * (j : Int)) + 1), ((m + 3 * (j : Int)) + 1 + 1)⟩
theorem mkHull_len (m : Int) (n : Nat) : (mkHull m n).length = n := by simp [mkHull]
theorem mkHull_at (m : Int) (n k : Nat) (h : k < n) : (mkHull m n)[k]'(by rw [mkHull_len]; exact h) = ⟨(m + 3 * (k : Int)), ((m + 3 * (k : Int)) + 1), ((m + 3 * (k : Int)) + 1 + 1)⟩ := by simp [mkHull]
theorem mkHull_cells (m : Int) (n k : Nat) (h : k < n) : (flatHull (mkHull m n))[k * 3]? = some (.int .i64 (m + 3 * (k : Int))) ∧ (flatHull (mkHull m n))[k * 3 + 1]? = some (.int .i64 ((m + 3 * (k : Int)) + 1)) ∧ (flatHull (mkHull m n))[k * 3 + 2]? = some (.int .i64 ((m + 3 * (k : Int)) + 1 + 1)) := by
  have := flatHull_at (mkHull m n) k (by rw [mkHull_len]; exact h)
  rw [mkHull_at m n k h] at this
  exact this


end Go.Proofs.Ytdleidlmjliapaa
