/- Rows of Chambers: their cells, their copy, their equality, their size, marks. Written by tools/mkst.py. -/
import Derived.Test.YtdleidlmjliapaaStk
namespace Go.Proofs.Ytdleidlmjliapaa
open Go.RowKit Go.PlainAid Go.Sort

structure TChamber where
  x0 : Int
  x1 : Int
/-- Its value. -/
abbrev valChamber (v : TChamber) : Value := .agg #[.int .i64 v.x0, .int .i64 v.x1]
/-- The cells of a row. -/
def flatChamber : List TChamber → List Value
  | [] => []
  | v :: t => .int .i64 v.x0 :: .int .i64 v.x1 :: flatChamber t
theorem flatChamber_len : ∀ vs, (flatChamber vs).length = 2 * vs.length
  | [] => rfl
  | v :: t => by simp only [flatChamber, List.length_cons, flatChamber_len t]; omega
theorem flatChamber_append : ∀ (rs ts : List TChamber), flatChamber (rs ++ ts) = flatChamber rs ++ flatChamber ts
  | [], _ => rfl
  | r :: rs, ts => by simp only [List.cons_append, flatChamber, flatChamber_append rs ts]
theorem flatChamber_at : ∀ (vs : List TChamber) (k : Nat) (h : k < vs.length),
    (flatChamber vs)[k * 2]? = some (.int .i64 vs[k].x0) ∧ (flatChamber vs)[k * 2 + 1]? = some (.int .i64 vs[k].x1)
  | [], k, h => absurd h (by simp)
  | v :: t, 0, _ => ⟨rfl, rfl⟩
  | v :: t, k + 1, h => by
    have ih := flatChamber_at t k (by simpa using h)
    have e : (k + 1) * 2 = k * 2 + 1 + 1 := by omega
    rw [e]
    exact ih
def noChamber : TChamber := ⟨0, 0⟩
theorem getChamber {vs : List TChamber} {j : Nat} (h : j < vs.length) : vs.getD j noChamber = vs[j] := by
  rw [List.getD_eq_getElem?_getD, List.getElem?_eq_getElem h]
  rfl
/-- One of a row that lies at a. -/
structure ChamberAt (w : World) (a : Addr) (k : Nat) (v : TChamber) : Prop where
  c0 : w.cell? (a.add (k * 2)) = some (.int .i64 v.x0)
  c1 : w.cell? ⟨(a.add (k * 2)).block, (a.add (k * 2)).off + 1, none⟩ = some (.int .i64 v.x1)
theorem Has.Chamber {w : World} {B : Nat} {A : Option Addr} {vs : List TChamber} (h : Has w B A (flatChamber vs)) {k : Nat} (hk : k < vs.length) :
    ∃ a, A = some a ∧ a.block < B ∧ ChamberAt w a k (vs.getD k noChamber) := by
  obtain ⟨f0, f1⟩ := flatChamber_at vs k hk
  obtain ⟨a, rfl, hb, h0⟩ := h _ _ f0
  obtain ⟨a1, e1, -, h1⟩ := h _ _ f1
  injection e1 with e1
  subst e1
  rw [← Go.Deep.add_add, addFormS _ _ (by omega)] at h1
  rw [getChamber hk]
  exact ⟨a, rfl, hb, h0, h1⟩


open Go.ChangeShapes Go.WideShapes Go.Deep in
/-- One that came in. -/
theorem open_Chamber {H : Type} {enc : TypeId × Value → H} {P : Program} {w : World} {base : Nat} {spare : Nat → Bool} {held : Bool} {t : TypeId} {r : Reach} {b0 : Nat} {f0 f1 : Field} {v : Value} {D : DataW H} {p : List MemPlace}
    (hs : P.underlying t = some (.struct #[f0, f1])) (hone : oneCellFields P #[f0, f1] = true) (hC : P.cellsOf t = 2)
    (h0 : P.underlying f0.type = some (.int .i64)) (h1 : P.underlying f1.type = some (.int .i64))
    (hv : Value.okWide P w r b0 t v) (h : DataW.Trod enc P w base spare held t v D p) :
    ∃ (x0 : Int) (x1 : Int), v = .agg #[.int .i64 x0, .int .i64 x1] := by
  obtain ⟨cs, rfl, hsz⟩ := okWide_struct hs hv
  rw [hC] at hsz
  obtain ⟨fuel, ht'⟩ := h
  obtain ⟨ys, n', _, _, _, hyl, hg⟩ := DataW.trod_struct hs ht'
  obtain ⟨o0, k0⟩ := hone_of hone 0 f0 rfl
  obtain ⟨o1, k1⟩ := hone_of hone 1 f1 rfl
  obtain ⟨L⟩ := cs
  match L, hsz, ys, hyl with
  | [c0, c1], _, [y0, y1], _ =>
    have g0 := hg 0 f0 rfl
    have g1 := hg 1 f1 rfl
    rw [o0, k0] at g0
    rw [o1, k1] at g1
    obtain ⟨x0, e0, -, -⟩ := DataW.trod_int h0 g0
    obtain ⟨x1, e1, -, -⟩ := DataW.trod_int h1 g1
    injection e0 with e0 _
    injection e1 with e1 _
    exact ⟨x0, x1, by rw [← e0, ← e1]⟩
theorem rowsChamber {w : World} {a : Addr} : ∀ (m : Nat),
    (∀ i, i < m → ∃ v : TChamber, w.cell? (a.add (i * 2)) = some (.int .i64 v.x0) ∧ w.cell? (a.add (i * 2 + 1)) = some (.int .i64 v.x1)) →
    ∃ vs : List TChamber, vs.length = m ∧ Has w w.heap.size (some a) (flatChamber vs)
  | 0, _ => ⟨[], rfl, Has.nil _ _ _⟩
  | m + 1, h => by
    obtain ⟨vs, hl, hh⟩ := rowsChamber m (fun i hi => h i (by omega))
    obtain ⟨v, c0, c1⟩ := h m (by omega)
    have hb : a.block < w.heap.size := by
      have := World.block_lt_of_cell? w (a.add (m * 2)) c0
      rwa [addBlock] at this
    refine ⟨vs ++ [v], by simp [hl], ?_⟩
    intro k u hu
    rw [flatChamber_append] at hu
    have hfl : (flatChamber vs).length = m * 2 := by rw [flatChamber_len, hl]; omega
    by_cases hk : k < m * 2
    · rw [List.getElem?_append_left (by omega)] at hu
      exact hh k u hu
    · rw [List.getElem?_append_right (by omega), hfl] at hu
      obtain ⟨j, rfl⟩ : ∃ j, k = m * 2 + j := ⟨k - m * 2, by omega⟩
      rw [Nat.add_sub_cancel_left] at hu
      match j, hu with
      | 0, hu => injection hu with hu; exact ⟨a, rfl, hb, by rw [← hu]; exact c0⟩
      | 1, hu => injection hu with hu; exact ⟨a, rfl, hb, by rw [← hu]; exact c1⟩
      | j + 2, hu => simp [flatChamber] at hu
open Go.ChangeShapes Go.WideShapes Go.Deep in
/-- A row that came in. -/
theorem open_Chambers {H : Type} {enc : TypeId × Value → H} {P : Program} {w : World} {base : Nat} {spare : Nat → Bool} {held : Bool} {t e : TypeId} {f0 f1 : Field} {fuel : Nat} {cs : List Value} {x : DataW H × List MemPlace}
    (ht : P.underlying t = some (.slice e)) (he : P.underlying e = some (.struct #[f0, f1])) (hone : oneCellFields P #[f0, f1] = true) (hC : P.cellsOf e = 2)
    (h0 : P.underlying f0.type = some (.int .i64)) (h1 : P.underlying f1.type = some (.int .i64))
    (h : DataW.trod enc P w base spare held fuel t cs = some x) :
    ∃ (A : Option Addr) (len cap : Nat) (vs : List TChamber), cs = [.slice A len cap] ∧ vs.length = len ∧ len ≤ maxLen ∧ Has w w.heap.size A (flatChamber vs) := by
  rcases open_slice ht h with ⟨rfl, _⟩ | ⟨a, len, cap, m, n, D, Pl, rfl, _, hl, hm, hmm, _, hi⟩
  · exact ⟨none, 0, 0, [], rfl, rfl, Nat.zero_le _, Has.nil _ _ _⟩
  · have hlm : len ≤ m := by rw [hmm]; split <;> omega
    obtain ⟨vs, hrl, hh⟩ := rowsChamber (w := w) (a := a) len (fun i hil => by
      obtain ⟨cs', hc, ht'⟩ := hi i (by omega)
      rw [hC] at hc
      obtain ⟨_, hcl, hat⟩ := World.cells?_some hc
      obtain ⟨ys, n', _, _, _, hyl, hg⟩ := DataW.trod_struct he ht'
      obtain ⟨o0, k0⟩ := hone_of hone 0 f0 rfl
      obtain ⟨o1, k1⟩ := hone_of hone 1 f1 rfl
      match cs', hcl, ys, hyl with
      | [c0, c1], _, [y0, y1], _ =>
        have g0 := hg 0 f0 rfl
        have g1 := hg 1 f1 rfl
        rw [o0, k0] at g0
        rw [o1, k1] at g1
        obtain ⟨x0, e0, -, -⟩ := DataW.trod_int h0 g0
        obtain ⟨x1, e1, -, -⟩ := DataW.trod_int h1 g1
        injection e0 with e0 _
        injection e1 with e1 _
        have a0 := hat 0 (by omega)
        have a1 := hat 1 (by omega)
        rw [Go.Deep.add_add] at a0 a1
        refine ⟨⟨x0, x1⟩, ?_, ?_⟩
        · rw [← e0]; exact a0
        · rw [← e1]; exact a1)
    exact ⟨some a, len, cap, vs, rfl, hrl, by omega, hh⟩

/-- A row that lies below block B. -/
structure IsChambers (w : World) (B : Nat) (A : Option Addr) (n : Nat) (vs : List TChamber) : Prop where
  len : vs.length = n
  low : B ≤ w.heap.size
  has : Has w B A (flatChamber vs)
theorem IsChambers.below {w w' : World} {B C : Nat} {A : Option Addr} {n : Nat} {vs : List TChamber} (h : IsChambers w B A n vs) (hb : Below C w w') (hC : B ≤ C) : IsChambers w' B A n vs :=
  ⟨h.len, Nat.le_trans h.low hb.size, h.has.below (hb.mono hC)⟩
theorem IsChambers.all {w : World} {B : Nat} {A : Option Addr} {n : Nat} {vs : List TChamber} (h : IsChambers w B A n vs) : IsChambers w w.heap.size A n vs :=
  ⟨h.len, Nat.le_refl _, h.has.more h.low⟩
theorem own_Chambers {w : World} {base : Nat} {g n c : Nat} {vs : List TChamber} (h : w.ownsRow base 25 2 (.slice (some ⟨g, 0, none⟩) n c) n (flatChamber vs)) : IsChambers w w.heap.size (some ⟨g, 0, none⟩) n vs :=
  ⟨by have := h.1; rw [flatChamber_len] at this; omega, Nat.le_refl _, ownS_has h⟩
theorem Try.infoChamber' : (Try.prog.info? 25).map (fun i => (i.zero, i.size, i.bytes)) = some (some (.agg #[.int .i64 0, .int .i64 0]), 2, 16) := by kernel_rfl




/-- n elements of marks from m on. -/
def mkChamber (m : Int) (n : Nat) : List TChamber := (List.range n).map fun (j : Nat) => ⟨m + 2 * (j : Int), ((m + 2 * (j : Int)) + 1)⟩
theorem mkChamber_len (m : Int) (n : Nat) : (mkChamber m n).length = n := by simp [mkChamber]
theorem mkChamber_at (m : Int) (n k : Nat) (h : k < n) : (mkChamber m n)[k]'(by rw [mkChamber_len]; exact h) = ⟨(m + 2 * (k : Int)), ((m + 2 * (k : Int)) + 1)⟩ := by simp [mkChamber]
theorem mkChamber_cells (m : Int) (n k : Nat) (h : k < n) : (flatChamber (mkChamber m n))[k * 2]? = some (.int .i64 (m + 2 * (k : Int))) ∧ (flatChamber (mkChamber m n))[k * 2 + 1]? = some (.int .i64 ((m + 2 * (k : Int)) + 1)) := by
  have := flatChamber_at (mkChamber m n) k (by rw [mkChamber_len]; exact h)
  rw [mkChamber_at m n k h] at this
  exact this


end Go.Proofs.Ytdleidlmjliapaa
